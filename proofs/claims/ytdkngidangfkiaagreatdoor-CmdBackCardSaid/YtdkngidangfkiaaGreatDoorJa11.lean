/-
  Joined out of: The walk of package hours: a time, written; Normal. Layer 8, plain: commands, their fields, what may be, how they are written and read; nothing of the program. Layer 8, plain: what a command's tokens are, and that they are read as that command. Layer 8, plain: a command that may be is read as it was written; what is read may be.
-/
import Derived.Test.YtdkngidangfkiaaGreatDoorJa10
import Derived.Test.YtdkngidangfkiaaGreatDoorJa08
import Derived.Test.YtdkngidangfkiaaGreatDoorJa09
namespace Go.Proofs.YtdkngidangfkiaaGreatDoor.Hours
open Go.RowKit
open Base Sat HoursLib
set_option linter.unusedVariables false
set_option linter.unusedSimpArgs false
def shE (n : Int) : Int := if cl n 1000000 = n then 0 else 153
def shB (n : Int) : ByteArray := if cl n 1000000 = n then ⟨(showL n).toArray⟩ else ⟨#[]⟩
theorem unit_new {wr w2 : World} {c z : Int} (p : Below (wr.alloc (.cells #[.int .u8 c, .int .i64 z] 213)).heap.size (wr.alloc (.cells #[.int .u8 c, .int .i64 z] 213)) w2) :
    w2.heap[wr.heap.size]? = some (.cells #[.int .u8 c, .int .i64 z] 213 (0, 0)) := by
  rw [p.block _ (by simp)]; exact heap_alloc_new wr _
theorem unit_kept {w1 w2 : World} {b k : Nat} {c z : Int} (h : w1.heap[k]? = some (.cells #[.int .u8 c, .int .i64 z] 213 (0, 0))) (hk : Kept b w1 w2) (hb : b < k) :
    w2.heap[k]? = some (.cells #[.int .u8 c, .int .i64 z] 213 (0, 0)) :=
  hk k _ h (by intro e; injection e with e; omega) (by intro cs fz e; injection e with _ e; exact absurd e (by decide))
theorem unit_cells {w : World} {k : Nat} {c z : Int} (h : w.heap[k]? = some (.cells #[.int .u8 c, .int .i64 z] 213 (0, 0))) :
    w.cell? ⟨k, 0, none⟩ = some (.int .u8 c) ∧ w.cell? ⟨k, 1, none⟩ = some (.int .i64 z) := by
  simp [World.cell?, h]
theorem bldBel {w w1 : World} {B b : Nat} {l : List UInt8} (h : BldR w B b l w1) : Below B w w1 := h.2.1
theorem bldLt {w w1 : World} {B b : Nat} {l : List UInt8} (h : BldR w B b l w1) : b < w1.heap.size := by
  rcases h.1 with h | h
  · obtain ⟨_, v, hb, _⟩ := h; exact (Array.getElem?_eq_some_iff.1 hb).1
  · obtain ⟨_, v, hb, _⟩ := h; exact (Array.getElem?_eq_some_iff.1 hb).1
def unitsV : Value := .agg #[.int .u8 100, .int .i64 86400, .int .u8 104, .int .i64 3600, .int .u8 109, .int .i64 60, .int .u8 115, .int .i64 1]
set_option maxRecDepth 100000 in
theorem unit_at (w : World) (i : Nat) (h : i < 4) : (Instr.index 214 unitsV (.int .i64 (i : Int))).run Tryz.prog w = .ok (.agg #[.int .u8 ((sg i).toNat : Int), .int .i64 (tk i)]) w := by
  match i, h with
  | 0, _ | 1, _ | 2, _ | 3, _ => simp [Instr.index, run_underlying Tryz.underlying214, run_underlying Tryz.underlying213, asIntOf, go_sem, unitsV, Tryz.isAgg213, Tryz.sizeOf213, sg, tk]
theorem itoa_length (q : Int) (h0 : 0 ≤ q) (h1 : q ≤ 1000000) : (Go.Lib.itoa q).length ≤ 7 := by
  rw [itoa_nat q h0]
  exact (dec_facts 7 q.toNat (by omega) (by decide)).2.2.1
theorem itoa_size (q : Int) (h0 : 0 ≤ q) (h1 : q ≤ 1000000) : (⟨(Go.Lib.itoa q).toArray⟩ : ByteArray).size ≤ 7 := by
  rw [Lib.size_eq, itoa_nat q h0]
  exact (dec_facts 7 q.toNat (by omega) (by decide)).2.2.1
set_option maxRecDepth 100000 in
set_option maxHeartbeats 8000000 in
theorem show_ok (n : Int) (h1 : 1 ≤ n) (h2 : n ≤ 1000000) (w : World) (hT : Tb w) :
    Calls Tryz.prog 242 #[.int .i64 n] w fun e w' => e = .returned (.tuple #[.string ⟨(tx 4 n).toArray⟩, .int .i64 0]) ∧ Below w.heap.size w w' := by
  have HT := Lib.hid hT
  clear hT
  have hn0 : (n == 0) = false := by rw [beq_eq_false_iff_ne]; omega
  have C := Lib.hid (fun w => isTime_any n w)
  rw [cl_id n 1000000 (by omega) h2, beq_self_eq_true] at C
  have u := (HT.out.later (below_one (.cells #[.pointer none, .slice none 0 0] 46))).2.2
  obtain ⟨u0, u1, u2, u3, u4, u5, u6, u7⟩ := u
  go_enter Tryz.func242, Tryz.ntmps242
  go_wp2_with (first | (go_at_call 199; (with_reducible refine (C.out _).mono ?_); rintro e w' ⟨rfl, rfl⟩) | fail)
  go_loopw [0, 13] (fun nv iv wr => ∃ i : Nat, i ≤ 4 ∧ iv = .int .i64 (i : Int) ∧ nv = .int .i64 (rm i n) ∧ BldR w w.heap.size w.heap.size (tx i n) wr) (fun _ iv _ => 4 - (intOf iv).toNat)
  case atStart => exact ⟨0, by omega, rfl, rfl, bldR_new w w (Below.refl _ _) _ rfl⟩
  case round =>
    obtain ⟨i, hi, rfl, rfl, hB⟩ := hrel
    have HB := Lib.hid hB
    clear hB
    have hr := rm_bd n (by omega) h2 i
    have hl := tx_length n (by omega) h2 i
    obtain ⟨m, hm⟩ : ∃ m, m = rm i n := ⟨_, rfl⟩
    rw [← hm] at hr ⊢
    have HM := Lib.hid hm
    clear hm
    have hcases : i = 0 ∨ i = 1 ∨ i = 2 ∨ i = 3 ∨ i = 4 := by omega
    rcases hcases with rfl | rfl | rfl | rfl | rfl
    · have x0 : ∀ W, (Instr.index 214 (.agg #[.int .u8 100, .int .i64 86400, .int .u8 104, .int .i64 3600, .int .u8 109, .int .i64 60, .int .u8 115, .int .i64 1]) (.int .i64 0)).run Tryz.prog W = .ok (.agg #[.int .u8 100, .int .i64 86400]) W := fun W => unit_at W 0 (by decide)
      obtain ⟨q, hq⟩ : ∃ q, q = m / 86400 := ⟨_, rfl⟩
      obtain ⟨r, hr2⟩ : ∃ r, r = m % 86400 := ⟨_, rfl⟩
      have hq1 : Int.tdiv m 86400 = q := by rw [Int.tdiv_eq_ediv_of_nonneg hr.1, hq]
      have hr1 : Int.tmod m 86400 = r := by rw [Int.tmod_eq_emod_of_nonneg hr.1, hr2]
      have HR : Hid (r = rm 1 n) := Lib.hid (by rw [hr2, HM.out]; rfl)
      have hqb : 0 ≤ q ∧ q ≤ 1000000 := by omega
      by_cases hge : 86400 ≤ m
      · have HX : Hid (tx 1 n = tx 0 n ++ (⟨(Go.Lib.itoa q).toArray⟩ : ByteArray).data.toList ++ [100]) := Lib.hid (by
          rw [show tx 1 n = tx 0 n ++ pc 0 (rm 0 n) from rfl, ← HM.out]
          unfold pc
          rw [if_pos (show tk 0 ≤ m from hge), show m / tk 0 = q from hq.symm, List.append_assoc]
          rfl)
        have hil := itoa_size q hqb.1 hqb.2
        have hil2 := itoa_length q hqb.1 hqb.2
        have hq3 := hq.symm
        have hr3 := hr2.symm
        clear hq hr2
        go_wp2_with (first
          | (go_at_call 44; (with_reducible refine (itoa_any q (by omega) (by omega) _ (HT.out.later (bldBel (HB.out.alloc _)))).mono ?_); rintro e w2 ⟨rfl, p2⟩; have H2 := Lib.hid (unit_new p2); have P2 := Lib.hid p2; clear p2)
          | (go_at_call 18; (with_reducible refine (writeString_r w _ _ _ _ _ ((HB.out.alloc _).below P2.out) (by omega)).mono ?_); rintro e w3 ⟨rfl, b3, k3⟩; have H3 := Lib.hid (unit_kept H2.out k3 (bldLt HB.out)); have B3 := Lib.hid b3; have c3 := (unit_cells H3.out).1; clear b3 k3)
          | (go_at_call 172; (with_reducible refine (writeByte_r w _ _ _ _ 100 100 (by decide) B3.out (by rw [List.length_append]; omega)).mono ?_); rintro e w4 ⟨rfl, b4, k4⟩; have H4 := Lib.hid (unit_kept H3.out k4 (bldLt HB.out)); have B4 := Lib.hid b4; have c4 := (unit_cells H4.out).2; clear b4 k4)
          | fail)
        go_roundw
        case rel => exact ⟨1, by omega, rfl, by rw [HR.out], by rw [HX.out]; exact B4.out⟩
        case measure => simp [intOf]
      · have HX : Hid (tx 1 n = tx 0 n) := Lib.hid (by
          rw [show tx 1 n = tx 0 n ++ pc 0 (rm 0 n) from rfl, ← HM.out]
          unfold pc
          rw [if_neg (show ¬ tk 0 ≤ m from hge), List.append_nil])
        have hr3 := hr2.symm
        clear hq hr2 hq1
        go_wp2
        go_roundw
        case rel => exact ⟨1, by omega, rfl, by rw [HR.out], by rw [HX.out]; exact HB.out.alloc _⟩
        case measure => simp [intOf]
    · have x0 : ∀ W, (Instr.index 214 (.agg #[.int .u8 100, .int .i64 86400, .int .u8 104, .int .i64 3600, .int .u8 109, .int .i64 60, .int .u8 115, .int .i64 1]) (.int .i64 1)).run Tryz.prog W = .ok (.agg #[.int .u8 104, .int .i64 3600]) W := fun W => unit_at W 1 (by decide)
      obtain ⟨q, hq⟩ : ∃ q, q = m / 3600 := ⟨_, rfl⟩
      obtain ⟨r, hr2⟩ : ∃ r, r = m % 3600 := ⟨_, rfl⟩
      have hq1 : Int.tdiv m 3600 = q := by rw [Int.tdiv_eq_ediv_of_nonneg hr.1, hq]
      have hr1 : Int.tmod m 3600 = r := by rw [Int.tmod_eq_emod_of_nonneg hr.1, hr2]
      have HR : Hid (r = rm 2 n) := Lib.hid (by rw [hr2, HM.out]; rfl)
      have hqb : 0 ≤ q ∧ q ≤ 1000000 := by omega
      by_cases hge : 3600 ≤ m
      · have HX : Hid (tx 2 n = tx 1 n ++ (⟨(Go.Lib.itoa q).toArray⟩ : ByteArray).data.toList ++ [104]) := Lib.hid (by
          rw [show tx 2 n = tx 1 n ++ pc 1 (rm 1 n) from rfl, ← HM.out]
          unfold pc
          rw [if_pos (show tk 1 ≤ m from hge), show m / tk 1 = q from hq.symm, List.append_assoc]
          rfl)
        have hil := itoa_size q hqb.1 hqb.2
        have hil2 := itoa_length q hqb.1 hqb.2
        have hq3 := hq.symm
        have hr3 := hr2.symm
        clear hq hr2
        go_wp2_with (first
          | (go_at_call 44; (with_reducible refine (itoa_any q (by omega) (by omega) _ (HT.out.later (bldBel (HB.out.alloc _)))).mono ?_); rintro e w2 ⟨rfl, p2⟩; have H2 := Lib.hid (unit_new p2); have P2 := Lib.hid p2; clear p2)
          | (go_at_call 18; (with_reducible refine (writeString_r w _ _ _ _ _ ((HB.out.alloc _).below P2.out) (by omega)).mono ?_); rintro e w3 ⟨rfl, b3, k3⟩; have H3 := Lib.hid (unit_kept H2.out k3 (bldLt HB.out)); have B3 := Lib.hid b3; have c3 := (unit_cells H3.out).1; clear b3 k3)
          | (go_at_call 172; (with_reducible refine (writeByte_r w _ _ _ _ 104 104 (by decide) B3.out (by rw [List.length_append]; omega)).mono ?_); rintro e w4 ⟨rfl, b4, k4⟩; have H4 := Lib.hid (unit_kept H3.out k4 (bldLt HB.out)); have B4 := Lib.hid b4; have c4 := (unit_cells H4.out).2; clear b4 k4)
          | fail)
        go_roundw
        case rel => exact ⟨2, by omega, rfl, by rw [HR.out], by rw [HX.out]; exact B4.out⟩
        case measure => simp [intOf]
      · have HX : Hid (tx 2 n = tx 1 n) := Lib.hid (by
          rw [show tx 2 n = tx 1 n ++ pc 1 (rm 1 n) from rfl, ← HM.out]
          unfold pc
          rw [if_neg (show ¬ tk 1 ≤ m from hge), List.append_nil])
        have hr3 := hr2.symm
        clear hq hr2 hq1
        go_wp2
        go_roundw
        case rel => exact ⟨2, by omega, rfl, by rw [HR.out], by rw [HX.out]; exact HB.out.alloc _⟩
        case measure => simp [intOf]
    · have x0 : ∀ W, (Instr.index 214 (.agg #[.int .u8 100, .int .i64 86400, .int .u8 104, .int .i64 3600, .int .u8 109, .int .i64 60, .int .u8 115, .int .i64 1]) (.int .i64 2)).run Tryz.prog W = .ok (.agg #[.int .u8 109, .int .i64 60]) W := fun W => unit_at W 2 (by decide)
      obtain ⟨q, hq⟩ : ∃ q, q = m / 60 := ⟨_, rfl⟩
      obtain ⟨r, hr2⟩ : ∃ r, r = m % 60 := ⟨_, rfl⟩
      have hq1 : Int.tdiv m 60 = q := by rw [Int.tdiv_eq_ediv_of_nonneg hr.1, hq]
      have hr1 : Int.tmod m 60 = r := by rw [Int.tmod_eq_emod_of_nonneg hr.1, hr2]
      have HR : Hid (r = rm 3 n) := Lib.hid (by rw [hr2, HM.out]; rfl)
      have hqb : 0 ≤ q ∧ q ≤ 1000000 := by omega
      by_cases hge : 60 ≤ m
      · have HX : Hid (tx 3 n = tx 2 n ++ (⟨(Go.Lib.itoa q).toArray⟩ : ByteArray).data.toList ++ [109]) := Lib.hid (by
          rw [show tx 3 n = tx 2 n ++ pc 2 (rm 2 n) from rfl, ← HM.out]
          unfold pc
          rw [if_pos (show tk 2 ≤ m from hge), show m / tk 2 = q from hq.symm, List.append_assoc]
          rfl)
        have hil := itoa_size q hqb.1 hqb.2
        have hil2 := itoa_length q hqb.1 hqb.2
        have hq3 := hq.symm
        have hr3 := hr2.symm
        clear hq hr2
        go_wp2_with (first
          | (go_at_call 44; (with_reducible refine (itoa_any q (by omega) (by omega) _ (HT.out.later (bldBel (HB.out.alloc _)))).mono ?_); rintro e w2 ⟨rfl, p2⟩; have H2 := Lib.hid (unit_new p2); have P2 := Lib.hid p2; clear p2)
          | (go_at_call 18; (with_reducible refine (writeString_r w _ _ _ _ _ ((HB.out.alloc _).below P2.out) (by omega)).mono ?_); rintro e w3 ⟨rfl, b3, k3⟩; have H3 := Lib.hid (unit_kept H2.out k3 (bldLt HB.out)); have B3 := Lib.hid b3; have c3 := (unit_cells H3.out).1; clear b3 k3)
          | (go_at_call 172; (with_reducible refine (writeByte_r w _ _ _ _ 109 109 (by decide) B3.out (by rw [List.length_append]; omega)).mono ?_); rintro e w4 ⟨rfl, b4, k4⟩; have H4 := Lib.hid (unit_kept H3.out k4 (bldLt HB.out)); have B4 := Lib.hid b4; have c4 := (unit_cells H4.out).2; clear b4 k4)
          | fail)
        go_roundw
        case rel => exact ⟨3, by omega, rfl, by rw [HR.out], by rw [HX.out]; exact B4.out⟩
        case measure => simp [intOf]
      · have HX : Hid (tx 3 n = tx 2 n) := Lib.hid (by
          rw [show tx 3 n = tx 2 n ++ pc 2 (rm 2 n) from rfl, ← HM.out]
          unfold pc
          rw [if_neg (show ¬ tk 2 ≤ m from hge), List.append_nil])
        have hr3 := hr2.symm
        clear hq hr2 hq1
        go_wp2
        go_roundw
        case rel => exact ⟨3, by omega, rfl, by rw [HR.out], by rw [HX.out]; exact HB.out.alloc _⟩
        case measure => simp [intOf]
    · have x0 : ∀ W, (Instr.index 214 (.agg #[.int .u8 100, .int .i64 86400, .int .u8 104, .int .i64 3600, .int .u8 109, .int .i64 60, .int .u8 115, .int .i64 1]) (.int .i64 3)).run Tryz.prog W = .ok (.agg #[.int .u8 115, .int .i64 1]) W := fun W => unit_at W 3 (by decide)
      obtain ⟨q, hq⟩ : ∃ q, q = m / 1 := ⟨_, rfl⟩
      obtain ⟨r, hr2⟩ : ∃ r, r = m % 1 := ⟨_, rfl⟩
      have hq1 : Int.tdiv m 1 = q := by rw [Int.tdiv_eq_ediv_of_nonneg hr.1, hq]
      have hr1 : Int.tmod m 1 = r := by rw [Int.tmod_eq_emod_of_nonneg hr.1, hr2]
      have HR : Hid (r = rm 4 n) := Lib.hid (by rw [hr2, HM.out]; rfl)
      have hqb : 0 ≤ q ∧ q ≤ 1000000 := by omega
      by_cases hge : 1 ≤ m
      · have HX : Hid (tx 4 n = tx 3 n ++ (⟨(Go.Lib.itoa q).toArray⟩ : ByteArray).data.toList ++ [115]) := Lib.hid (by
          rw [show tx 4 n = tx 3 n ++ pc 3 (rm 3 n) from rfl, ← HM.out]
          unfold pc
          rw [if_pos (show tk 3 ≤ m from hge), show m / tk 3 = q from hq.symm, List.append_assoc]
          rfl)
        have hil := itoa_size q hqb.1 hqb.2
        have hil2 := itoa_length q hqb.1 hqb.2
        have hq3 := hq.symm
        have hr3 := hr2.symm
        clear hq hr2
        go_wp2_with (first
          | (go_at_call 44; (with_reducible refine (itoa_any q (by omega) (by omega) _ (HT.out.later (bldBel (HB.out.alloc _)))).mono ?_); rintro e w2 ⟨rfl, p2⟩; have H2 := Lib.hid (unit_new p2); have P2 := Lib.hid p2; clear p2)
          | (go_at_call 18; (with_reducible refine (writeString_r w _ _ _ _ _ ((HB.out.alloc _).below P2.out) (by omega)).mono ?_); rintro e w3 ⟨rfl, b3, k3⟩; have H3 := Lib.hid (unit_kept H2.out k3 (bldLt HB.out)); have B3 := Lib.hid b3; have c3 := (unit_cells H3.out).1; clear b3 k3)
          | (go_at_call 172; (with_reducible refine (writeByte_r w _ _ _ _ 115 115 (by decide) B3.out (by rw [List.length_append]; omega)).mono ?_); rintro e w4 ⟨rfl, b4, k4⟩; have H4 := Lib.hid (unit_kept H3.out k4 (bldLt HB.out)); have B4 := Lib.hid b4; have c4 := (unit_cells H4.out).2; clear b4 k4)
          | fail)
        go_roundw
        case rel => exact ⟨4, by omega, rfl, by rw [HR.out], by rw [HX.out]; exact B4.out⟩
        case measure => simp [intOf]
      · have HX : Hid (tx 4 n = tx 3 n) := Lib.hid (by
          rw [show tx 4 n = tx 3 n ++ pc 3 (rm 3 n) from rfl, ← HM.out]
          unfold pc
          rw [if_neg (show ¬ tk 3 ≤ m from hge), List.append_nil])
        have hr3 := hr2.symm
        clear hq hr2 hq1
        go_wp2
        go_roundw
        case rel => exact ⟨4, by omega, rfl, by rw [HR.out], by rw [HX.out]; exact HB.out.alloc _⟩
        case measure => simp [intOf]
    · go_wp2_with (first
        | (go_at_call 22; (with_reducible refine (string_r w _ _ _ _ HB.out).mono ?_); rintro e w2 ⟨rfl, p2⟩)
        | fail)
      go_ret2
      exact ⟨rfl, p2⟩
theorem showL_ne {n : Int} (h : n ≠ 0) : showL n = tx 4 n := by unfold showL; rw [if_neg h]
theorem cl_time (n : Int) : cl n 1000000 = n ↔ 0 ≤ n ∧ n ≤ 1000000 :=
  ⟨fun h => by have := cl_bd n 1000000 (by omega); omega, fun h => cl_id n 1000000 h.1 h.2⟩
set_option maxRecDepth 100000 in
set_option maxHeartbeats 8000000 in
theorem show_any (n : Int) (w : World) (hT : Tb w) :
    Calls Tryz.prog 242 #[.int .i64 n] w fun e w' => e = .returned (.tuple #[.string (shB n), .int .i64 (shE n)]) ∧ Below w.heap.size w w' := by
  have C := Lib.hid (fun w => isTime_any n w)
  by_cases ht : cl n 1000000 = n
  · have hb := (cl_time n).1 ht
    by_cases h0 : n = 0
    · subst h0
      rw [ht, beq_self_eq_true] at C
      have HS : Hid (shB 0 = ⟨#[48, 115]⟩ ∧ shE 0 = 0) := Lib.hid (by unfold shB shE; rw [if_pos ht, if_pos ht]; exact ⟨rfl, rfl⟩)
      clear ht hb
      go_enter Tryz.func242, Tryz.ntmps242
      go_wp2_with (first | (go_at_call 199; (with_reducible refine (C.out _).mono ?_); rintro e w' ⟨rfl, rfl⟩) | fail)
      go_ret2
      exact ⟨by rw [HS.out.1, HS.out.2]; rfl, Below.refl _ _⟩
    · refine (show_ok n (by omega) hb.2 w hT).mono ?_
      rintro e w' ⟨rfl, hb⟩
      exact ⟨by unfold shB shE; rw [if_pos ht, if_pos ht, showL_ne h0], hb⟩
  · rw [beq_eq_false_iff_ne.2 ht] at C
    have HS : Hid (shB n = ⟨#[]⟩ ∧ shE n = 153) := Lib.hid (by unfold shB shE; rw [if_neg ht, if_neg ht]; exact ⟨rfl, rfl⟩)
    clear ht
    go_enter Tryz.func242, Tryz.ntmps242
    go_wp2_with (first | (go_at_call 199; (with_reducible refine (C.out _).mono ?_); rintro e w' ⟨rfl, rfl⟩) | fail)
    go_ret2
    exact ⟨by rw [HS.out.1, HS.out.2]; rfl, Below.refl _ _⟩
end Go.Proofs.YtdkngidangfkiaaGreatDoor.Hours
namespace Go.Proofs.YtdkngidangfkiaaGreatDoor.Cmd
open Go.RowKit
open Base Runes Lex
open Shape (frB frB_iff sameL sameB chkB goodB altOk sizeB wallB chkE)
set_option linter.unusedVariables false
set_option linter.unusedSimpArgs false
structure Co where
  kind : Int
  job : Int
  name : ByteArray
  user : ByteArray
  account : ByteArray
  sk : Int
  alts : List (Int × Int)
  mn : Int
  mx : Int
  wl : Int
  prio : Int
  hasPrio : Bool
  time : Int
  hasTime : Bool
  after : List (Int × Int)
  node : Int
  nodes : Int
  frm : Int
def nil_ : ByteArray := ⟨#[]⟩
def zCo (k : Int) : Co := ⟨k, 0, nil_, nil_, nil_, 0, [], 0, 0, 0, 0, false, 0, false, [], 0, 0, 0⟩
inductive Vl where
  | word (s : ByteArray)
  | num (n : Int)
  | id (n : Int)
  | tk (n : Int)
  | opt (a b : Int)
  | span (a b : Int)
abbrev Fd := ByteArray × Vl
def kUser : ByteArray := ⟨#[117, 115, 101, 114]⟩
def kAccount : ByteArray := ⟨#[97, 99, 99, 111, 117, 110, 116]⟩
def kPrio : ByteArray := ⟨#[112, 114, 105, 111]⟩
def kAny : ByteArray := ⟨#[97, 110, 121]⟩
def kGood : ByteArray := ⟨#[103, 111, 111, 100]⟩
def kBad : ByteArray := ⟨#[98, 97, 100]⟩
def kFrom : ByteArray := ⟨#[102, 114, 111, 109]⟩
def kNodes : ByteArray := ⟨#[110, 111, 100, 101, 115]⟩
def kAlt : ByteArray := ⟨#[97, 108, 116]⟩
def kRange : ByteArray := ⟨#[114, 97, 110, 103, 101]⟩
def kTime : ByteArray := ⟨#[116, 105, 109, 101]⟩
def verbL : List ByteArray := [⟨#[]⟩, ⟨#[115, 117, 98, 109, 105, 116]⟩, ⟨#[99, 97, 110, 99, 101, 108]⟩, ⟨#[104, 111, 108, 100]⟩, ⟨#[114, 101, 108, 101, 97, 115, 101]⟩, ⟨#[97, 108, 116, 101, 114]⟩, ⟨#[114, 101, 115, 105, 122, 101]⟩,
  ⟨#[100, 114, 97, 105, 110]⟩, ⟨#[114, 101, 115, 117, 109, 101]⟩, ⟨#[102, 97, 105, 108]⟩, ⟨#[114, 101, 115, 101, 114, 118, 101]⟩, ⟨#[117, 110, 114, 101, 115, 101, 114, 118, 101]⟩, ⟨#[115, 116, 97, 116, 117, 115]⟩]
def howL : List ByteArray := [⟨#[]⟩, kAny, kGood, kBad]
def findN (s : ByteArray) : List ByteArray → Nat → Nat
  | [], _ => 0
  | x :: t, i => if x = s then i else findN s t (i + 1)
def kindN (s : ByteArray) : Nat := findN s verbL 0
def howN (s : ByteArray) : Nat := findN s howL 0
def verb (k : Int) : ByteArray := verbL.getD k.toNat nil_
def howW (k : Int) : ByteArray := howL.getD k.toNat nil_
def hasF (k : Int) (s : ByteArray) : Bool :=
  if s = kUser ∨ s = kAccount ∨ s = kAny ∨ s = kGood ∨ s = kBad ∨ s = kAlt ∨ s = kRange then (k == 1)
  else if s = kPrio then (k == 1) || (k == 5)
  else if s = kFrom then (k == 10)
  else if s = kNodes then (k == 1) || (k == 6) || (k == 10)
  else if s = kTime then (k == 1) || (k == 5) || (k == 10)
  else false
def cntL (q : Fd → Bool) (l : List Fd) : Nat := l.countP q
def isDep (f : Fd) : Bool := match f.2 with | .id _ => true | _ => false
def depOn (j : Int) (f : Fd) : Bool := match f.2 with | .id n => n == j | _ => false
def nmd (s : ByteArray) (f : Fd) : Bool := decide (f.1 = s)
def noF (l : List Fd) (s : ByteArray) : Bool := decide (cntL (nmd s) l = 0)
def mayF (l : List Fd) (s : ByteArray) : Bool :=
  if s = kAlt then decide (cntL (nmd s) l < 6) else if howN s ≠ 0 then decide (cntL isDep l < 4) else noF l s
def lacksB (k : Int) (l : List Fd) : Bool :=
  if k = 1 then noF l kUser || noF l kAccount || (noF l kAlt && (noF l kTime || (noF l kNodes && noF l kRange)))
  else if k = 5 then decide (l.length = 0)
  else if k = 6 then noF l kNodes
  else if k = 10 then noF l kFrom || noF l kNodes || noF l kTime
  else false
def nameB (s : ByteArray) : Bool := decide (ckE s = 0) && frB (ckN s : Nat) 1 16
def wordB (s : ByteArray) : Bool := decide (chE (1, s, 0, 0) = 0)
def idB (n : Int) : Bool := frB n 1 99999
def tickB (n : Int) : Bool := frB n 0 1000000
def lenB (n : Int) : Bool := frB n 1 100000
def prB (n : Int) : Bool := frB n 0 100
def nodeB (n : Int) : Bool := frB n 0 47
def prioB (c : Co) : Bool := c.hasPrio && prB c.prio || !c.hasPrio && (c.prio == 0)
def timeB (c : Co) : Bool := c.hasTime && lenB c.time || !c.hasTime && (c.time == 0)
def depOk (d : Int × Int) : Bool := frB d.1 1 3 && idB d.2
def hasJ (l : List (Int × Int)) (j : Int) : Bool := l.any fun d => d.2 == j
def depsB (l : List (Int × Int)) : Bool := decide (l.length ≤ 4) && (l.all depOk && decide (l.map Prod.snd).Nodup)
def submitB (c : Co) : Bool := nameB c.name && nameB c.user && wordB c.user && nameB c.account && wordB c.account && chkB c.sk c.alts c.mn c.mx c.wl && prioB c && depsB c.after
def partsB (c : Co) : Bool :=
  if c.kind = 1 then submitB c
  else if c.kind = 2 ∨ c.kind = 3 ∨ c.kind = 4 ∨ c.kind = 11 then idB c.job
  else if c.kind = 5 then idB c.job && (c.hasPrio || c.hasTime) && prioB c && timeB c
  else if c.kind = 6 then idB c.job && sizeB c.nodes
  else if c.kind = 7 ∨ c.kind = 8 ∨ c.kind = 9 then nodeB c.node
  else if c.kind = 10 then tickB c.frm && c.hasTime && timeB c && sizeB c.nodes
  else if c.kind = 12 then (c.job == 0) || idB c.job
  else false
def aloneC (c : Co) : Co :=
  if c.kind = 1 then { zCo c.kind with name := c.name, user := c.user, account := c.account, sk := c.sk, alts := c.alts, mn := c.mn, mx := c.mx, wl := c.wl, prio := c.prio, hasPrio := c.hasPrio, after := c.after }
  else if c.kind = 5 then { zCo c.kind with job := c.job, prio := c.prio, hasPrio := c.hasPrio, time := c.time, hasTime := c.hasTime }
  else if c.kind = 6 then { zCo c.kind with job := c.job, nodes := c.nodes }
  else if c.kind = 7 ∨ c.kind = 8 ∨ c.kind = 9 then { zCo c.kind with node := c.node }
  else if c.kind = 10 then { zCo c.kind with frm := c.frm, time := c.time, hasTime := c.hasTime, nodes := c.nodes }
  else { zCo c.kind with job := c.job }
def sameC (a b : Co) : Bool := (a.kind == b.kind) && ((a.job == b.job) && (decide (a.name = b.name) && (decide (a.user = b.user) && (decide (a.account = b.account) && (sameB a.sk a.alts a.mn a.mx a.wl b.sk b.alts b.mn b.mx b.wl &&
  ((a.prio == b.prio) && ((a.hasPrio == b.hasPrio) && ((a.time == b.time) && ((a.hasTime == b.hasTime) && (sameL a.after b.after && ((a.node == b.node) && ((a.nodes == b.nodes) && (a.frm == b.frm)))))))))))))
theorem sameC_iff (a b : Co) : sameC a b = true ↔ a = b := by
  obtain ⟨a1, a2, a3, a4, a5, a6, a7, a8, a9, a10, a11, a12, a13, a14, a15, a16, a17, a18⟩ := a
  obtain ⟨b1, b2, b3, b4, b5, b6, b7, b8, b9, b10, b11, b12, b13, b14, b15, b16, b17, b18⟩ := b
  simp [sameC, sameB, sameL, and_assoc]
def mayC (c : Co) : Bool := partsB c && sameC c (aloneC c)
def chkC (c : Co) : Int := if mayC c then 0 else 80
theorem mayC_iff (c : Co) : mayC c = true ↔ partsB c = true ∧ c = aloneC c := by unfold mayC; rw [Bool.and_eq_true, sameC_iff]
theorem depsB_iff (l : List (Int × Int)) : depsB l = true ↔ l.length ≤ 4 ∧ (∀ d ∈ l, depOk d = true) ∧ (l.map Prod.snd).Nodup := by
  unfold depsB; simp
def spreadC (c : Co) : Co :=
  if c.sk = 1 then { c with nodes := (c.alts.getD 0 (0, 0)).1, time := (c.alts.getD 0 (0, 0)).2, hasTime := true, alts := [] }
  else if c.sk = 3 then { c with time := c.wl, hasTime := true }
  else c
def onF (b : Bool) (s : ByteArray) (v : Vl) : List Fd := if b = true then [(s, v)] else []
def depF (d : Int × Int) : Fd := (howW d.1, .id d.2)
def altF (a : Int × Int) : Fd := (kAlt, .opt a.1 a.2)
def fieldsS (c : Co) : List Fd :=
  onF (decide (c.user ≠ nil_)) kUser (.word c.user) ++ onF (decide (c.account ≠ nil_)) kAccount (.word c.account) ++ onF c.hasPrio kPrio (.num c.prio) ++ c.after.map depF ++ onF (c.kind == 10) kFrom (.num c.frm) ++
    onF (decide (c.nodes ≠ 0)) kNodes (.num c.nodes) ++ c.alts.map altF ++ onF (decide (c.mx ≠ 0)) kRange (.span c.mn c.mx) ++ onF c.hasTime kTime (.tk c.time)
def fieldsC (c : Co) : List Fd := fieldsS (spreadC c)
def numT (n : Int) : List UInt8 := Go.Lib.itoa n
def timT (n : Int) : List UInt8 := (Hours.shB n).data.toList
def valT : Vl → List UInt8
  | .word s => s.data.toList
  | .num n => numT n
  | .id n => numT n
  | .tk n => timT n
  | .opt a b => numT a ++ 58 :: timT b
  | .span a b => numT a ++ 45 :: numT b
def fdT (f : Fd) : List UInt8 := 32 :: (f.1.data.toList ++ 61 :: valT f.2)
def nameT (s : ByteArray) : List UInt8 := (txS (if wordB s = true then 1 else 4, s, 0, 0)).data.toList
def headT (c : Co) : List UInt8 :=
  (verb c.kind).data.toList ++ (if c.kind = 1 then 32 :: nameT c.name else if c.kind = 7 ∨ c.kind = 8 ∨ c.kind = 9 then 32 :: numT c.node else if c.job ≠ 0 then 32 :: numT c.job else [])
def fldT (l : List Fd) : List UInt8 := l.flatMap fdT
def lineT (c : Co) : List UInt8 := headT c ++ fldT (fieldsC c)
def lineB (c : Co) : ByteArray := ⟨(lineT c).toArray⟩
def showC (c : Co) : ByteArray × Int := if mayC c = true then (if 400 < (lineT c).length then (nil_, 3) else (lineB c, 0)) else (nil_, 80)
def nx (q : Tok → Bool) : List Tok → Option Tok × List Tok
  | [] => (none, [])
  | t :: r => if q t = true then (some t, r) else (none, t :: r)
def qWord (q : ByteArray → Bool) (t : Tok) : Bool := (t.1 == 1) && q t.2.1
def qName (t : Tok) : Bool := ((t.1 == 1) || (t.1 == 4)) && nameB t.2.1
def qNum (q : Int → Bool) (t : Tok) : Bool := (t.1 == 2) && q t.2.2.1
def qSign (s : ByteArray) (t : Tok) : Bool := (t.1 == 5) && decide (t.2.1 = s)
def tkOf (t : Tok) : Int := if t.1 = 2 then t.2.2.1 else if t.1 = 3 then (Hours.parse t.2.1.data.toList).1 else 0
def qLen (t : Tok) : Bool := lenB (tkOf t)
def kEq : ByteArray := ⟨#[61]⟩
def kColon : ByteArray := ⟨#[58]⟩
def kMinus : ByteArray := ⟨#[45]⟩
def getW (r : Option Tok × List Tok) : Option ByteArray × List Tok := (r.1.map fun t => t.2.1, r.2)
def getN (r : Option Tok × List Tok) : Option Int × List Tok := (r.1.map fun t => t.2.2.1, r.2)
def getL (r : Option Tok × List Tok) : Option Int × List Tok := (r.1.map tkOf, r.2)
def rdWord (q : ByteArray → Bool) (l : List Tok) := getW (nx (qWord q) l)
def rdNum (q : Int → Bool) (l : List Tok) := getN (nx (qNum q) l)
def rdLen (l : List Tok) := getL (nx qLen l)
def rdOpt (l : List Tok) : Option (Int × Int) × List Tok :=
  match rdNum sizeB l with
  | (none, r) => (none, r)
  | (some a, r) => match nx (qSign kColon) r with
    | (none, r2) => (none, r2)
    | (some _, r2) => match rdLen r2 with
      | (none, r3) => (none, r3)
      | (some b, r3) => (some (a, b), r3)
def rdSpan (l : List Tok) : Option (Int × Int) × List Tok :=
  match rdNum sizeB l with
  | (none, r) => (none, r)
  | (some a, r) => match nx (qSign kMinus) r with
    | (none, r2) => (none, r2)
    | (some _, r2) => match rdNum sizeB r2 with
      | (none, r3) => (none, r3)
      | (some b, r3) => (some (a, b), r3)
def idQ (st : List Fd) (n : Int) : Bool := idB n && decide (cntL (depOn n) st = 0)
def mapV {α : Type} (f : α → Vl) (r : Option α × List Tok) : Option Vl × List Tok := (r.1.map f, r.2)
def rdVal (s : ByteArray) (st : List Fd) (l : List Tok) : Option Vl × List Tok :=
  if s = kUser ∨ s = kAccount then mapV .word (rdWord nameB l)
  else if s = kPrio then mapV .num (rdNum prB l)
  else if s = kFrom then mapV .num (rdNum tickB l)
  else if s = kNodes then mapV .num (rdNum sizeB l)
  else if s = kAlt then mapV (fun p => .opt p.1 p.2) (rdOpt l)
  else if s = kRange then mapV (fun p => .span p.1 p.2) (rdSpan l)
  else if s = kTime then mapV .tk (rdLen l)
  else mapV .id (rdNum (idQ st) l)
def qField (k : Int) (st : List Fd) (s : ByteArray) : Bool := hasF k s && mayF st s
def rdFd (k : Int) (st : List Fd) (l : List Tok) : Option Fd × List Tok :=
  match rdWord (qField k st) l with
  | (none, r) => (none, r)
  | (some s, r) => match nx (qSign kEq) r with
    | (none, r2) => (none, r2)
    | (some _, r2) => match rdVal s st r2 with
      | (none, r3) => (none, r3)
      | (some v, r3) => (some (s, v), r3)
def rdTgt (c : Co) (l : List Tok) : Option Co × List Tok :=
  if c.kind = 10 ∨ (c.kind = 12 ∧ l.length = 0) then (some c, l)
  else if c.kind = 1 then ((nx qName l).1.map fun t => { c with name := t.2.1 }, (nx qName l).2)
  else if c.kind = 7 ∨ c.kind = 8 ∨ c.kind = 9 then ((rdNum nodeB l).1.map fun n => { c with node := n }, (rdNum nodeB l).2)
  else ((rdNum idB l).1.map fun n => { c with job := n }, (rdNum idB l).2)
def layC (c : Co) (f : Fd) : Co :=
  match f.2 with
  | .word s => if f.1 = kUser then { c with user := s } else { c with account := s }
  | .num n => if f.1 = kPrio then { c with prio := n, hasPrio := true } else if f.1 = kFrom then { c with frm := n } else if f.1 = kNodes then { c with nodes := n } else c
  | .id n => { c with after := c.after ++ [(((howN f.1 : Nat) : Int), n)] }
  | .tk n => { c with time := n, hasTime := true }
  | .opt a b => { c with alts := c.alts ++ [(a, b)] }
  | .span a b => { c with mn := a, mx := b }
def gatherC (c : Co) : Co :=
  if c.kind ≠ 1 then c
  else if c.alts ≠ [] then { c with sk := 2 }
  else if c.mx ≠ 0 then { c with sk := 3, wl := c.time, time := 0, hasTime := false }
  else { c with sk := 1, alts := [(c.nodes, c.time)], nodes := 0, time := 0, hasTime := false }
def rdLoop : Nat → Co → List Fd → List Tok → Option (Co × List Fd) × List Tok
  | 0, c, st, l => (some (c, st), l)
  | f + 1, c, st, l =>
    if l.length = 0 then (some (c, st), [])
    else match rdFd c.kind st l with
      | (none, r) => (none, r)
      | (some x, r) => rdLoop f (layC c x) (st ++ [x]) r
def rdCmd (l : List Tok) : Option Co × List Tok :=
  match rdWord (fun s => decide (kindN s ≠ 0)) l with
  | (none, r) => (none, r)
  | (some s, r) => match rdTgt (zCo (kindN s : Nat)) r with
    | (none, r2) => (none, r2)
    | (some c, r2) => match rdLoop r2.length c [] r2 with
      | (none, r3) => (none, r3)
      | (some (c2, st), r3) => if lacksB c2.kind st = true then (none, r3) else (some (gatherC c2), r3)
def placeR (l : List Tok) (n : Nat) : Int := match l with | [] => (n : Int) | t :: _ => t.2.2.2
def parseC (s : ByteArray) : Co × Int × Int :=
  if (tkA s).2.2 ≠ 0 then (zCo 0, ((tkA s).2.1 : Int), (tkA s).2.2)
  else match rdCmd (tkA s).1 with
    | (none, r) => (zCo 0, placeR r (tkA s).2.1, 80)
    | (some c, _) => if mayC c = true then (c, ((tkA s).2.1 : Int), 0) else (zCo 0, 0, 80)
theorem nx_suffix (q : Tok → Bool) (l : List Tok) : (nx q l).2 <:+ l := by
  cases l with
  | nil => exact List.suffix_refl _
  | cons t r =>
    rw [nx]
    split
    · exact List.suffix_cons t r
    · exact List.suffix_refl _
theorem nx_shorter (q : Tok → Bool) (l : List Tok) {t : Tok} {r : List Tok} (h : nx q l = (some t, r)) : l = t :: r ∧ q t = true := by
  cases l with
  | nil => simp [nx] at h
  | cons x u =>
    rw [nx] at h
    split at h
    · rename_i hq
      simp only [Prod.mk.injEq, Option.some.injEq] at h
      obtain ⟨rfl, rfl⟩ := h
      exact ⟨rfl, hq⟩
    · simp at h
theorem rdWord_suffix (q : ByteArray → Bool) (l : List Tok) : (rdWord q l).2 <:+ l := nx_suffix _ l
theorem rdNum_suffix (q : Int → Bool) (l : List Tok) : (rdNum q l).2 <:+ l := nx_suffix _ l
theorem rdLen_suffix (l : List Tok) : (rdLen l).2 <:+ l := nx_suffix _ l
theorem rdOpt_suffix (l : List Tok) : (rdOpt l).2 <:+ l := by
  unfold rdOpt
  have h1 := rdNum_suffix sizeB l
  split
  · rename_i r h; rw [h] at h1; exact h1
  · rename_i a r h
    rw [h] at h1
    have h2 := nx_suffix (qSign kColon) r
    split
    · rename_i r2 h; rw [h] at h2; exact h2.trans h1
    · rename_i x r2 h
      rw [h] at h2
      have h3 := rdLen_suffix r2
      split
      · rename_i r3 h; rw [h] at h3; exact h3.trans (h2.trans h1)
      · rename_i b r3 h; rw [h] at h3; exact h3.trans (h2.trans h1)
theorem rdSpan_suffix (l : List Tok) : (rdSpan l).2 <:+ l := by
  unfold rdSpan
  have h1 := rdNum_suffix sizeB l
  split
  · rename_i r h; rw [h] at h1; exact h1
  · rename_i a r h
    rw [h] at h1
    have h2 := nx_suffix (qSign kMinus) r
    split
    · rename_i r2 h; rw [h] at h2; exact h2.trans h1
    · rename_i x r2 h
      rw [h] at h2
      have h3 := rdNum_suffix sizeB r2
      split
      · rename_i r3 h; rw [h] at h3; exact h3.trans (h2.trans h1)
      · rename_i b r3 h; rw [h] at h3; exact h3.trans (h2.trans h1)
theorem rdVal_suffix (s : ByteArray) (st : List Fd) (l : List Tok) : (rdVal s st l).2 <:+ l := by
  unfold rdVal
  repeat' split
  · exact rdWord_suffix _ l
  · exact rdNum_suffix _ l
  · exact rdNum_suffix _ l
  · exact rdNum_suffix _ l
  · exact rdOpt_suffix l
  · exact rdSpan_suffix l
  · exact rdLen_suffix l
  · exact rdNum_suffix _ l
theorem rdFd_suffix (k : Int) (st : List Fd) (l : List Tok) : (rdFd k st l).2 <:+ l ∧ ∀ x r, rdFd k st l = (some x, r) → r.length < l.length := by
  unfold rdFd
  have h1 := rdWord_suffix (qField k st) l
  split
  · rename_i r h; rw [h] at h1; exact ⟨h1, fun x r h => by simp at h⟩
  · rename_i a r h
    have h0 := h
    rw [h] at h1
    have h2 := nx_suffix (qSign kEq) r
    split
    · rename_i r2 h; rw [h] at h2; exact ⟨h2.trans h1, fun x r h => by simp at h⟩
    · rename_i x r2 h
      rw [h] at h2
      have hl := (nx_shorter _ _ h).1
      have h3 := rdVal_suffix a st r2
      split
      · rename_i r3 h; rw [h] at h3; exact ⟨h3.trans (h2.trans h1), fun x r h => by simp at h⟩
      · rename_i b r3 h
        rw [h] at h3
        refine ⟨h3.trans (h2.trans h1), fun x r4 he => ?_⟩
        simp only [Prod.mk.injEq, Option.some.injEq] at he
        obtain ⟨_, rfl⟩ := he
        have a1 := h3.length_le
        have a2 := h1.length_le
        rw [hl] at a2
        dsimp only at a1 a2
        rw [List.length_cons] at a2
        omega
theorem rdTgt_suffix (c : Co) (l : List Tok) : (rdTgt c l).2 <:+ l := by
  unfold rdTgt
  repeat' split
  · exact List.suffix_refl _
  · exact nx_suffix _ l
  · exact rdNum_suffix _ l
  · exact rdNum_suffix _ l
theorem rdLoop_suffix : ∀ (f : Nat) (c : Co) (st : List Fd) (l : List Tok), (rdLoop f c st l).2 <:+ l
  | 0, c, st, l => List.suffix_refl _
  | f + 1, c, st, l => by
    rw [rdLoop]
    split
    · exact List.nil_suffix
    · have h1 := (rdFd_suffix c.kind st l).1
      split
      · rename_i r h; rw [h] at h1; exact h1
      · rename_i x r h; rw [h] at h1; exact (rdLoop_suffix f _ _ _).trans h1
theorem rdCmd_suffix (l : List Tok) : (rdCmd l).2 <:+ l := by
  unfold rdCmd
  have h1 := rdWord_suffix (fun s => decide (kindN s ≠ 0)) l
  split
  · rename_i r h; rw [h] at h1; exact h1
  · rename_i s r h
    rw [h] at h1
    have h2 := rdTgt_suffix (zCo (kindN s : Nat)) r
    split
    · rename_i r2 h; rw [h] at h2; exact h2.trans h1
    · rename_i c r2 h
      rw [h] at h2
      have h3 := rdLoop_suffix r2.length c [] r2
      split
      · rename_i r3 h; rw [h] at h3; exact h3.trans (h2.trans h1)
      · rename_i c2 st r3 h
        rw [h] at h3
        split
        · exact h3.trans (h2.trans h1)
        · exact h3.trans (h2.trans h1)
end Go.Proofs.YtdkngidangfkiaaGreatDoor.Cmd
namespace Go.Proofs.YtdkngidangfkiaaGreatDoor.Cmd
open Go.RowKit
open Base Runes Lex
open Shape (frB frB_iff chkB goodB altOk sizeB wallB sizeB_iff wallB_iff mayB spanB)
set_option linter.unusedVariables false
set_option linter.unusedSimpArgs false
def st0 (t : Tok) : Tok := (t.1, t.2.1, t.2.2.1, 0)
theorem st0_same : ∀ {k l : List Tok}, sameT false k l = true → k.map st0 = l.map st0
  | [], [], _ => rfl
  | [], y :: t, h => by simp [sameT] at h
  | x :: s, [], h => by simp [sameT] at h
  | x :: s, y :: t, h => by
    rw [sameT, Bool.and_eq_true] at h
    rw [List.map_cons, List.map_cons, st0_same h.2]
    obtain ⟨h1, _⟩ := h
    simp only [eqT, decide_eq_true_eq] at h1
    unfold st0
    rw [h1.1, h1.2.1, h1.2.2.1]
theorem nx_st (q : Tok → Bool) (hq : ∀ t, q (st0 t) = q t) (l : List Tok) : nx q (l.map st0) = ((nx q l).1.map st0, (nx q l).2.map st0) := by
  cases l with
  | nil => rfl
  | cons t r =>
    rw [List.map_cons, nx, nx, hq]
    split <;> rfl
theorem rdWord_st (q : ByteArray → Bool) (l : List Tok) : rdWord q (l.map st0) = ((rdWord q l).1, (rdWord q l).2.map st0) := by
  unfold rdWord getW
  rw [nx_st _ (fun t => rfl)]
  rcases nx (qWord q) l with ⟨_ | t, r⟩ <;> rfl
theorem rdNum_st (q : Int → Bool) (l : List Tok) : rdNum q (l.map st0) = ((rdNum q l).1, (rdNum q l).2.map st0) := by
  unfold rdNum getN
  rw [nx_st _ (fun t => rfl)]
  rcases nx (qNum q) l with ⟨_ | t, r⟩ <;> rfl
theorem rdLen_st (l : List Tok) : rdLen (l.map st0) = ((rdLen l).1, (rdLen l).2.map st0) := by
  unfold rdLen getL
  rw [nx_st _ (fun t => rfl)]
  rcases nx qLen l with ⟨_ | t, r⟩ <;> rfl
theorem sign_st (s : ByteArray) (l : List Tok) : nx (qSign s) (l.map st0) = ((nx (qSign s) l).1.map st0, (nx (qSign s) l).2.map st0) := nx_st _ (fun t => rfl) l
theorem rdOpt_st (l : List Tok) : rdOpt (l.map st0) = ((rdOpt l).1, (rdOpt l).2.map st0) := by
  unfold rdOpt
  rw [rdNum_st]
  rcases rdNum sizeB l with ⟨_ | a, r⟩
  · rfl
  · dsimp only
    rw [sign_st]
    rcases nx (qSign kColon) r with ⟨_ | x, r2⟩
    · rfl
    · dsimp only [Option.map]
      rw [rdLen_st]
      rcases rdLen r2 with ⟨_ | b, r3⟩ <;> rfl
theorem rdSpan_st (l : List Tok) : rdSpan (l.map st0) = ((rdSpan l).1, (rdSpan l).2.map st0) := by
  unfold rdSpan
  rw [rdNum_st]
  rcases rdNum sizeB l with ⟨_ | a, r⟩
  · rfl
  · dsimp only
    rw [sign_st]
    rcases nx (qSign kMinus) r with ⟨_ | x, r2⟩
    · rfl
    · dsimp only [Option.map]
      rw [rdNum_st]
      rcases rdNum sizeB r2 with ⟨_ | b, r3⟩ <;> rfl
theorem mapV_st {α : Type} (f : α → Vl) (a b : Option α × List Tok) (h : a = (b.1, b.2.map st0)) : mapV f a = ((mapV f b).1, (mapV f b).2.map st0) := by subst h; rfl
theorem rdVal_st (s : ByteArray) (st : List Fd) (l : List Tok) : rdVal s st (l.map st0) = ((rdVal s st l).1, (rdVal s st l).2.map st0) := by
  unfold rdVal
  repeat' split
  · exact mapV_st _ _ _ (rdWord_st _ _)
  · exact mapV_st _ _ _ (rdNum_st _ _)
  · exact mapV_st _ _ _ (rdNum_st _ _)
  · exact mapV_st _ _ _ (rdNum_st _ _)
  · exact mapV_st _ _ _ (rdOpt_st _)
  · exact mapV_st _ _ _ (rdSpan_st _)
  · exact mapV_st _ _ _ (rdLen_st _)
  · exact mapV_st _ _ _ (rdNum_st _ _)
theorem rdFd_st (k : Int) (st : List Fd) (l : List Tok) : rdFd k st (l.map st0) = ((rdFd k st l).1, (rdFd k st l).2.map st0) := by
  unfold rdFd
  rw [rdWord_st]
  rcases rdWord (qField k st) l with ⟨_ | a, r⟩
  · rfl
  · dsimp only
    rw [sign_st]
    rcases nx (qSign kEq) r with ⟨_ | x, r2⟩
    · rfl
    · dsimp only [Option.map]
      rw [rdVal_st]
      rcases rdVal a st r2 with ⟨_ | b, r3⟩ <;> rfl
theorem rdTgt_st (c : Co) (l : List Tok) : rdTgt c (l.map st0) = ((rdTgt c l).1, (rdTgt c l).2.map st0) := by
  unfold rdTgt
  rw [List.length_map]
  repeat' split
  · rfl
  · rw [nx_st _ (fun t => rfl)]
    rcases nx qName l with ⟨_ | t, r⟩ <;> rfl
  · rw [rdNum_st]
  · rw [rdNum_st]
theorem rdLoop_st : ∀ (f : Nat) (c : Co) (st : List Fd) (l : List Tok), rdLoop f c st (l.map st0) = ((rdLoop f c st l).1, (rdLoop f c st l).2.map st0)
  | 0, c, st, l => rfl
  | f + 1, c, st, l => by
    rw [rdLoop, rdLoop, List.length_map]
    split
    · rfl
    · rw [rdFd_st]
      rcases rdFd c.kind st l with ⟨_ | x, r⟩
      · rfl
      · exact rdLoop_st f _ _ r
theorem rdCmd_st (l : List Tok) : rdCmd (l.map st0) = ((rdCmd l).1, (rdCmd l).2.map st0) := by
  unfold rdCmd
  rw [rdWord_st]
  rcases rdWord (fun s => decide (kindN s ≠ 0)) l with ⟨_ | s, r⟩
  · rfl
  · dsimp only
    rw [rdTgt_st]
    rcases rdTgt (zCo (kindN s : Nat)) r with ⟨_ | c, r2⟩
    · rfl
    · dsimp only
      rw [List.length_map, rdLoop_st]
      rcases rdLoop r2.length c [] r2 with ⟨_ | ⟨c2, st⟩, r3⟩
      · rfl
      · dsimp only
        split <;> rfl
theorem rdCmd_same {k l : List Tok} (h : sameT false k l = true) : (rdCmd k).1 = (rdCmd l).1 := by
  have h1 := congrArg Prod.fst (rdCmd_st k)
  have h2 := congrArg Prod.fst (rdCmd_st l)
  rw [st0_same h] at h1
  exact h1.symm.trans h2
def vlTk : Vl → List Tok
  | .word s => [wrd s]
  | .num n => [nmb n]
  | .id n => [nmb n]
  | .tk n => [tim n]
  | .opt a b => [nmb a, sgn 58, tim b]
  | .span a b => [nmb a, sgn 45, nmb b]
def fdTk (f : Fd) : List Tok := wrd f.1 :: sgn 61 :: vlTk f.2
def okF (k : Int) (st : List Fd) (f : Fd) : Prop := qField k st f.1 = true ∧ ∀ r, rdVal f.1 st (vlTk f.2 ++ r) = (some f.2, r)
theorem rdFd_ok {k : Int} {st : List Fd} {f : Fd} (h : okF k st f) (r : List Tok) : rdFd k st (fdTk f ++ r) = (some f, r) := by
  have h1 : rdWord (qField k st) (fdTk f ++ r) = (some f.1, sgn 61 :: (vlTk f.2 ++ r)) := by
    unfold rdWord getW fdTk
    rw [List.cons_append, nx, if_pos (by show ((1 : Int) == 1 && qField k st f.1) = true; rw [h.1]; rfl)]
    rfl
  have h2 : nx (qSign kEq) (sgn 61 :: (vlTk f.2 ++ r)) = (some (sgn 61), vlTk f.2 ++ r) := by
    rw [nx, if_pos (by decide)]
  unfold rdFd
  rw [h1]
  dsimp only
  rw [h2]
  dsimp only
  rw [h.2 r]
def okFs (k : Int) : List Fd → List Fd → Prop
  | _, [] => True
  | st, f :: F => okF k st f ∧ okFs k (st ++ [f]) F
theorem okFs_append {k : Int} {F G : List Fd} : ∀ {st : List Fd}, okFs k st F → okFs k (st ++ F) G → okFs k st (F ++ G) := by
  induction F with
  | nil => intro st _ h; simpa using h
  | cons f F ih =>
    intro st h1 h2
    exact ⟨h1.1, ih h1.2 (by simpa using h2)⟩
theorem lay_kind (c : Co) (x : Fd) : (layC c x).kind = c.kind := by
  unfold layC
  repeat' split
  all_goals rfl
theorem rdLoop_ok : ∀ (F : List Fd) (c : Co) (st : List Fd) (n : Nat), okFs c.kind st F → (F.flatMap fdTk).length ≤ n → rdLoop n c st (F.flatMap fdTk) = (some (F.foldl layC c, st ++ F), [])
  | [], c, st, n, _, _ => by
    cases n with
    | zero => simp [rdLoop]
    | succ n => simp [rdLoop]
  | f :: F, c, st, n, h, hn => by
    rw [List.flatMap_cons] at hn ⊢
    have hl : 1 ≤ (fdTk f).length := by unfold fdTk; simp
    rw [List.length_append] at hn
    obtain ⟨m, rfl⟩ : ∃ m, n = m + 1 := ⟨n - 1, by omega⟩
    rw [rdLoop, if_neg (by rw [List.length_append]; omega), rdFd_ok h.1]
    dsimp only
    rw [rdLoop_ok F (layC c f) (st ++ [f]) m (by rw [lay_kind]; exact h.2) (by omega)]
    simp
theorem noF_of {st : List Fd} {s : ByteArray} (h : ∀ f ∈ st, f.1 ≠ s) : noF st s = true := by
  unfold noF cntL
  rw [decide_eq_true_iff, List.countP_eq_zero]
  intro f hf
  unfold nmd
  simp [h f hf]
theorem mayF_of {st : List Fd} {s : ByteArray} (h1 : s ≠ kAlt) (h2 : howN s = 0) (h : ∀ f ∈ st, f.1 ≠ s) : mayF st s = true := by
  unfold mayF
  rw [if_neg h1, if_neg (by rw [h2]; simp)]
  exact noF_of h
theorem mem_onF {b : Bool} {s : ByteArray} {v : Vl} {f : Fd} (h : f ∈ onF b s v) : f = (s, v) := by
  unfold onF at h
  split at h
  · simpa using h
  · simp at h
theorem okFs_onF {k : Int} {st : List Fd} {b : Bool} {s : ByteArray} {v : Vl} (h : b = true → okF k st (s, v)) : okFs k st (onF b s v) := by
  unfold onF
  split
  · rename_i hb; exact ⟨h hb, trivial⟩
  · trivial
theorem ok_word {k : Int} {st : List Fd} {s u : ByteArray} (hs : s = kUser ∨ s = kAccount) (hk : k = 1) (hu : nameB u = true) (h : ∀ f ∈ st, f.1 ≠ s) : okF k st (s, .word u) := by
  subst hk
  refine ⟨?_, fun r => ?_⟩
  · unfold qField
    dsimp only
    rw [Bool.and_eq_true]
    rcases hs with rfl | rfl
    · exact ⟨by decide +kernel, mayF_of (by decide +kernel) (by decide +kernel) h⟩
    · exact ⟨by decide +kernel, mayF_of (by decide +kernel) (by decide +kernel) h⟩
  · unfold rdVal
    dsimp only
    rw [if_pos hs]
    unfold mapV rdWord getW vlTk
    rw [List.cons_append, nx, if_pos (by show ((1 : Int) == 1 && nameB u) = true; rw [hu]; rfl)]
    rfl
theorem rdNum_nmb {q : Int → Bool} {n : Int} (h : q n = true) (r : List Tok) : rdNum q (nmb n :: r) = (some n, r) := by
  unfold rdNum getN
  rw [nx, if_pos (by show ((2 : Int) == 2 && q n) = true; rw [h]; rfl)]
  rfl
theorem tkOf_tim {n : Int} (h0 : 0 ≤ n) (h1 : n ≤ 1000000) : tkOf (tim n) = n := by
  unfold tkOf tim
  dsimp only
  rw [if_neg (by decide), if_pos rfl]
  show (Hours.parse (Hours.showL n)).1 = n
  rw [Hours.parse_show n h0 h1]
theorem lenB_iff (n : Int) : lenB n = true ↔ 1 ≤ n ∧ n ≤ 100000 := frB_iff _ _ _
theorem rdLen_tim {n : Int} (h : lenB n = true) (r : List Tok) : rdLen (tim n :: r) = (some n, r) := by
  have h2 := (lenB_iff n).1 h
  have h3 := tkOf_tim (n := n) (by omega) (by omega)
  unfold rdLen getL
  rw [nx, if_pos (by unfold qLen; rw [h3]; exact h)]
  show (some (tkOf (tim n)), r) = _
  rw [h3]
theorem ok_prio {k : Int} {st : List Fd} {n : Int} (hk : k = 1 ∨ k = 5) (hn : prB n = true) (h : ∀ f ∈ st, f.1 ≠ kPrio) : okF k st (kPrio, .num n) := by
  refine ⟨?_, fun r => ?_⟩
  · unfold qField
    dsimp only
    rw [Bool.and_eq_true]
    exact ⟨by rcases hk with rfl | rfl <;> decide +kernel, mayF_of (by decide +kernel) (by decide +kernel) h⟩
  · unfold rdVal
    dsimp only
    rw [if_neg (by decide +kernel), if_pos rfl]
    show mapV .num (rdNum prB (nmb n :: r)) = _
    rw [rdNum_nmb hn]; rfl
theorem ok_from {k : Int} {st : List Fd} {n : Int} (hk : k = 10) (hn : tickB n = true) (h : ∀ f ∈ st, f.1 ≠ kFrom) : okF k st (kFrom, .num n) := by
  refine ⟨?_, fun r => ?_⟩
  · unfold qField
    dsimp only
    rw [Bool.and_eq_true]
    exact ⟨by rcases hk with rfl; decide +kernel, mayF_of (by decide +kernel) (by decide +kernel) h⟩
  · unfold rdVal
    dsimp only
    rw [if_neg (by decide +kernel), if_neg (by decide +kernel), if_pos rfl]
    show mapV .num (rdNum tickB (nmb n :: r)) = _
    rw [rdNum_nmb hn]; rfl
theorem ok_nodes {k : Int} {st : List Fd} {n : Int} (hk : k = 1 ∨ k = 6 ∨ k = 10) (hn : sizeB n = true) (h : ∀ f ∈ st, f.1 ≠ kNodes) : okF k st (kNodes, .num n) := by
  refine ⟨?_, fun r => ?_⟩
  · unfold qField
    dsimp only
    rw [Bool.and_eq_true]
    exact ⟨by rcases hk with rfl | rfl | rfl <;> decide +kernel, mayF_of (by decide +kernel) (by decide +kernel) h⟩
  · unfold rdVal
    dsimp only
    rw [if_neg (by decide +kernel), if_neg (by decide +kernel), if_neg (by decide +kernel), if_pos rfl]
    show mapV .num (rdNum sizeB (nmb n :: r)) = _
    rw [rdNum_nmb hn]; rfl
theorem ok_alt {k : Int} {st : List Fd} {a b : Int} (hk : k = 1) (ha : sizeB a = true) (hb : lenB b = true) (h : cntL (nmd kAlt) st < 6) : okF k st (kAlt, .opt a b) := by
  subst hk
  refine ⟨?_, fun r => ?_⟩
  · unfold qField
    dsimp only
    rw [Bool.and_eq_true]
    refine ⟨by decide +kernel, ?_⟩
    unfold mayF
    rw [if_pos rfl]; exact decide_eq_true h
  · unfold rdVal
    dsimp only
    rw [if_neg (by decide +kernel), if_neg (by decide +kernel), if_neg (by decide +kernel), if_neg (by decide +kernel), if_pos rfl]
    show mapV _ (rdOpt (nmb a :: sgn 58 :: tim b :: r)) = _
    have e : rdOpt (nmb a :: sgn 58 :: tim b :: r) = (some (a, b), r) := by
      unfold rdOpt
      rw [rdNum_nmb ha]
      dsimp only
      rw [nx, if_pos (by decide)]
      dsimp only
      rw [rdLen_tim hb]
    rw [e]; rfl
theorem ok_range {k : Int} {st : List Fd} {a b : Int} (hk : k = 1) (ha : sizeB a = true) (hb : sizeB b = true) (h : ∀ f ∈ st, f.1 ≠ kRange) : okF k st (kRange, .span a b) := by
  subst hk
  refine ⟨?_, fun r => ?_⟩
  · unfold qField
    dsimp only
    rw [Bool.and_eq_true]
    exact ⟨by decide +kernel, mayF_of (by decide +kernel) (by decide +kernel) h⟩
  · unfold rdVal
    dsimp only
    rw [if_neg (by decide +kernel), if_neg (by decide +kernel), if_neg (by decide +kernel), if_neg (by decide +kernel), if_neg (by decide +kernel), if_pos rfl]
    show mapV _ (rdSpan (nmb a :: sgn 45 :: nmb b :: r)) = _
    have e : rdSpan (nmb a :: sgn 45 :: nmb b :: r) = (some (a, b), r) := by
      unfold rdSpan
      rw [rdNum_nmb ha]
      dsimp only
      rw [nx, if_pos (by decide)]
      dsimp only
      rw [rdNum_nmb hb]
    rw [e]; rfl
theorem ok_time {k : Int} {st : List Fd} {n : Int} (hk : k = 1 ∨ k = 5 ∨ k = 10) (hn : lenB n = true) (h : ∀ f ∈ st, f.1 ≠ kTime) : okF k st (kTime, .tk n) := by
  refine ⟨?_, fun r => ?_⟩
  · unfold qField
    dsimp only
    rw [Bool.and_eq_true]
    exact ⟨by rcases hk with rfl | rfl | rfl <;> decide +kernel, mayF_of (by decide +kernel) (by decide +kernel) h⟩
  · unfold rdVal
    dsimp only
    rw [if_neg (by decide +kernel), if_neg (by decide +kernel), if_neg (by decide +kernel), if_neg (by decide +kernel), if_neg (by decide +kernel), if_neg (by decide +kernel), if_pos rfl]
    show mapV .tk (rdLen (tim n :: r)) = _
    rw [rdLen_tim hn]; rfl
theorem how3 {d : Int} (h : 1 ≤ d ∧ d ≤ 3) : (d = 1 ∧ howW d = kAny) ∨ (d = 2 ∧ howW d = kGood) ∨ (d = 3 ∧ howW d = kBad) := by
  have : d = 1 ∨ d = 2 ∨ d = 3 := by omega
  rcases this with rfl | rfl | rfl
  · exact .inl ⟨rfl, rfl⟩
  · exact .inr (.inl ⟨rfl, rfl⟩)
  · exact .inr (.inr ⟨rfl, rfl⟩)
theorem depOk_iff (d : Int × Int) : depOk d = true ↔ (1 ≤ d.1 ∧ d.1 ≤ 3) ∧ 1 ≤ d.2 ∧ d.2 ≤ 99999 := by
  unfold depOk idB
  rw [Bool.and_eq_true, frB_iff, frB_iff]
theorem ok_dep {k : Int} {st : List Fd} {d : Int × Int} (hk : k = 1) (hd : depOk d = true) (h1 : cntL isDep st < 4) (h2 : cntL (depOn d.2) st = 0) : okF k st (depF d) := by
  subst hk
  obtain ⟨q1, q2⟩ := (depOk_iff d).1 hd
  have hi : idQ st d.2 = true := by
    unfold idQ idB
    rw [Bool.and_eq_true, frB_iff]
    exact ⟨q2, decide_eq_true h2⟩
  refine ⟨?_, fun r => ?_⟩
  · unfold qField depF
    dsimp only
    rw [Bool.and_eq_true]
    rcases how3 q1 with ⟨_, e⟩ | ⟨_, e⟩ | ⟨_, e⟩
    all_goals
      rw [e]
      refine ⟨by decide +kernel, ?_⟩
      unfold mayF
      rw [if_neg (by decide +kernel), if_pos (by decide +kernel)]
      exact decide_eq_true h1
  · have e : rdVal (howW d.1) st (nmb d.2 :: r) = mapV .id (rdNum (idQ st) (nmb d.2 :: r)) := by
      unfold rdVal
      rcases how3 q1 with ⟨_, e⟩ | ⟨_, e⟩ | ⟨_, e⟩
      all_goals
        rw [e, if_neg (by decide +kernel), if_neg (by decide +kernel), if_neg (by decide +kernel), if_neg (by decide +kernel), if_neg (by decide +kernel), if_neg (by decide +kernel), if_neg (by decide +kernel)]
    show rdVal (howW d.1) st (nmb d.2 :: r) = _
    rw [e, rdNum_nmb hi]; rfl
theorem oks_dep {k : Int} (hk : k = 1) : ∀ (l : List (Int × Int)) (st : List Fd), cntL isDep st + l.length ≤ 4 → (∀ d ∈ l, depOk d = true ∧ cntL (depOn d.2) st = 0) → (l.map Prod.snd).Nodup → okFs k st (l.map depF)
  | [], _, _, _, _ => trivial
  | d :: l, st, h1, h2, h3 => by
    rw [List.length_cons] at h1
    obtain ⟨a1, a2⟩ := h2 d (by simp)
    rw [List.map_cons, List.nodup_cons] at h3
    refine ⟨ok_dep hk a1 (by omega) a2, oks_dep hk l _ ?_ (fun x hx => ⟨(h2 x (by simp [hx])).1, ?_⟩) h3.2⟩
    · unfold cntL at h1 ⊢
      rw [List.countP_append, List.countP_singleton]
      split <;> omega
    · have := (h2 x (by simp [hx])).2
      unfold cntL at this ⊢
      rw [List.countP_append, this, List.countP_singleton, if_neg]
      intro he
      simp only [depF, depOn, beq_iff_eq] at he
      exact h3.1 (List.mem_map.2 ⟨x, hx, he.symm⟩)
theorem altOk_iff (a : Int × Int) : altOk a = true ↔ sizeB a.1 = true ∧ lenB a.2 = true := by
  unfold altOk wallB lenB
  rw [Bool.and_eq_true]
theorem oks_alt {k : Int} (hk : k = 1) : ∀ (l : List (Int × Int)) (st : List Fd), cntL (nmd kAlt) st + l.length ≤ 6 → (∀ a ∈ l, altOk a = true) → okFs k st (l.map altF)
  | [], _, _, _ => trivial
  | a :: l, st, h1, h2 => by
    rw [List.length_cons] at h1
    obtain ⟨a1, a2⟩ := (altOk_iff a).1 (h2 a (by simp))
    refine ⟨ok_alt hk a1 a2 (by omega), oks_alt hk l _ ?_ (fun x hx => h2 x (by simp [hx]))⟩
    unfold cntL at h1 ⊢
    rw [List.countP_append, List.countP_singleton]
    split <;> omega
structure SpOk (k : Int) (S : Co) : Prop where
  user : S.user ≠ nil_ → k = 1 ∧ nameB S.user = true
  account : S.account ≠ nil_ → k = 1 ∧ nameB S.account = true
  prio : S.hasPrio = true → (k = 1 ∨ k = 5) ∧ prB S.prio = true
  after : (S.after ≠ [] → k = 1) ∧ S.after.length ≤ 4 ∧ (∀ d ∈ S.after, depOk d = true) ∧ (S.after.map Prod.snd).Nodup
  frm : S.kind = 10 → k = 10 ∧ tickB S.frm = true
  nodes : S.nodes ≠ 0 → (k = 1 ∨ k = 6 ∨ k = 10) ∧ sizeB S.nodes = true
  alts : (S.alts ≠ [] → k = 1) ∧ S.alts.length ≤ 6 ∧ ∀ a ∈ S.alts, altOk a = true
  span : S.mx ≠ 0 → k = 1 ∧ sizeB S.mn = true ∧ sizeB S.mx = true
  time : S.hasTime = true → (k = 1 ∨ k = 5 ∨ k = 10) ∧ lenB S.time = true
theorem fst_dep {S : Co} {k : Int} (h : SpOk k S) {f : Fd} (hf : f ∈ S.after.map depF) : f.1 = kAny ∨ f.1 = kGood ∨ f.1 = kBad := by
  obtain ⟨d, hd, rfl⟩ := List.mem_map.1 hf
  have := ((depOk_iff d).1 (h.after.2.2.1 d hd)).1
  rcases how3 this with ⟨_, e⟩ | ⟨_, e⟩ | ⟨_, e⟩
  · exact .inl e
  · exact .inr (.inl e)
  · exact .inr (.inr e)
theorem cnt_zero {q : Fd → Bool} {l : List Fd} (h : ∀ f ∈ l, q f = false) : cntL q l = 0 := by
  unfold cntL
  rw [List.countP_eq_zero]
  intro f hf
  rw [h f hf]; simp
theorem fields_ok {k : Int} {S : Co} (h : SpOk k S) : okFs k [] (fieldsS S) := by
  have fd := @fst_dep S k h
  have fa : ∀ {f : Fd}, f ∈ S.alts.map altF → f.1 = kAlt := fun hf => by obtain ⟨a, _, rfl⟩ := List.mem_map.1 hf; rfl
  have f1 : ∀ {b : Bool} {s : ByteArray} {v : Vl} {f : Fd}, f ∈ onF b s v → f.1 = s := fun hf => by rw [mem_onF hf]
  unfold fieldsS
  refine okFs_append (okFs_append (okFs_append (okFs_append (okFs_append (okFs_append (okFs_append (okFs_append ?_ ?_) ?_) ?_) ?_) ?_) ?_) ?_) ?_
  · refine okFs_onF fun hb => ?_
    obtain ⟨a1, a2⟩ := h.user (of_decide_eq_true hb)
    exact ok_word (.inl rfl) a1 a2 (fun f hf => by simp at hf)
  · refine okFs_onF fun hb => ?_
    obtain ⟨a1, a2⟩ := h.account (of_decide_eq_true hb)
    refine ok_word (.inr rfl) a1 a2 (fun f hf => ?_)
    simp only [List.nil_append] at hf
    rw [f1 hf]; decide +kernel
  · refine okFs_onF fun hb => ?_
    obtain ⟨a1, a2⟩ := h.prio hb
    refine ok_prio a1 a2 (fun f hf => ?_)
    simp only [List.nil_append, List.mem_append] at hf
    rcases hf with hf | hf <;> (rw [f1 hf]; decide +kernel)
  · by_cases hn : S.after = []
    · rw [hn]; trivial
    refine oks_dep (h.after.1 hn) _ _ ?_ (fun d hd => ⟨h.after.2.2.1 d hd, ?_⟩) h.after.2.2.2
    · rw [cnt_zero, Nat.zero_add]
      · exact h.after.2.1
      · intro f hf
        simp only [List.nil_append, List.mem_append] at hf
        rcases hf with (hf | hf) | hf <;> (rw [mem_onF hf]; rfl)
    · refine cnt_zero fun f hf => ?_
      simp only [List.nil_append, List.mem_append] at hf
      rcases hf with (hf | hf) | hf <;> (rw [mem_onF hf]; rfl)
  · refine okFs_onF fun hb => ?_
    obtain ⟨a1, a2⟩ := h.frm (by simpa using hb)
    refine ok_from a1 a2 (fun f hf => ?_)
    simp only [List.nil_append, List.mem_append] at hf
    rcases hf with ((hf | hf) | hf) | hf
    · rw [f1 hf]; decide +kernel
    · rw [f1 hf]; decide +kernel
    · rw [f1 hf]; decide +kernel
    · rcases fd hf with e | e | e <;> (rw [e]; decide +kernel)
  · refine okFs_onF fun hb => ?_
    obtain ⟨a1, a2⟩ := h.nodes (of_decide_eq_true hb)
    refine ok_nodes a1 a2 (fun f hf => ?_)
    simp only [List.nil_append, List.mem_append] at hf
    rcases hf with (((hf | hf) | hf) | hf) | hf
    · rw [f1 hf]; decide +kernel
    · rw [f1 hf]; decide +kernel
    · rw [f1 hf]; decide +kernel
    · rcases fd hf with e | e | e <;> (rw [e]; decide +kernel)
    · rw [f1 hf]; decide +kernel
  · by_cases hn : S.alts = []
    · rw [hn]; trivial
    refine oks_alt (h.alts.1 hn) _ _ ?_ h.alts.2.2
    rw [cnt_zero, Nat.zero_add]
    · exact h.alts.2.1
    · intro f hf
      simp only [List.nil_append, List.mem_append] at hf
      unfold nmd
      refine decide_eq_false ?_
      rcases hf with ((((hf | hf) | hf) | hf) | hf) | hf
      · rw [f1 hf]; decide +kernel
      · rw [f1 hf]; decide +kernel
      · rw [f1 hf]; decide +kernel
      · rcases fd hf with e | e | e <;> (rw [e]; decide +kernel)
      · rw [f1 hf]; decide +kernel
      · rw [f1 hf]; decide +kernel
  · refine okFs_onF fun hb => ?_
    obtain ⟨a1, a2, a3⟩ := h.span (of_decide_eq_true hb)
    refine ok_range a1 a2 a3 (fun f hf => ?_)
    simp only [List.nil_append, List.mem_append] at hf
    rcases hf with (((((hf | hf) | hf) | hf) | hf) | hf) | hf
    · rw [f1 hf]; decide +kernel
    · rw [f1 hf]; decide +kernel
    · rw [f1 hf]; decide +kernel
    · rcases fd hf with e | e | e <;> (rw [e]; decide +kernel)
    · rw [f1 hf]; decide +kernel
    · rw [f1 hf]; decide +kernel
    · rw [fa hf]; decide +kernel
  · refine okFs_onF fun hb => ?_
    obtain ⟨a1, a2⟩ := h.time hb
    refine ok_time a1 a2 (fun f hf => ?_)
    simp only [List.nil_append, List.mem_append] at hf
    rcases hf with ((((((hf | hf) | hf) | hf) | hf) | hf) | hf) | hf
    · rw [f1 hf]; decide +kernel
    · rw [f1 hf]; decide +kernel
    · rw [f1 hf]; decide +kernel
    · rcases fd hf with e | e | e <;> (rw [e]; decide +kernel)
    · rw [f1 hf]; decide +kernel
    · rw [f1 hf]; decide +kernel
    · rw [fa hf]; decide +kernel
    · rw [f1 hf]; decide +kernel
theorem lay_onF (b : Bool) (s : ByteArray) (v : Vl) (c : Co) : (onF b s v).foldl layC c = if b = true then layC c (s, v) else c := by
  unfold onF; split <;> rfl
theorem lay_deps : ∀ (l : List (Int × Int)) (c : Co), (∀ d ∈ l, depOk d = true) → (l.map depF).foldl layC c = { c with after := c.after ++ l }
  | [], c, _ => by simp
  | d :: l, c, h => by
    rw [List.map_cons, List.foldl_cons, lay_deps l _ (fun x hx => h x (by simp [hx]))]
    have q := ((depOk_iff d).1 (h d (by simp))).1
    have e : ((howN (howW d.1) : Nat) : Int) = d.1 := by
      rcases how3 q with ⟨e1, e2⟩ | ⟨e1, e2⟩ | ⟨e1, e2⟩ <;> (rw [e2, e1]; decide +kernel)
    obtain ⟨x, y⟩ := d
    dsimp only at e
    unfold depF layC
    dsimp only
    rw [e]
    simp
theorem lay_alts : ∀ (l : List (Int × Int)) (c : Co), (l.map altF).foldl layC c = { c with alts := c.alts ++ l }
  | [], c => by simp
  | a :: l, c => by
    rw [List.map_cons, List.foldl_cons, lay_alts l]
    unfold altF layC
    simp
theorem lay_fields (k0 j0 : Int) (nm : ByteArray) (nd : Int) (S : Co) (hd : ∀ d ∈ S.after, depOk d = true) (hp : S.hasPrio = false → S.prio = 0) (hf : S.kind ≠ 10 → S.frm = 0) (hm : S.mx = 0 → S.mn = 0) (ht : S.hasTime = false → S.time = 0) :
    (fieldsS S).foldl layC { zCo k0 with job := j0, name := nm, node := nd } = { S with kind := k0, job := j0, name := nm, node := nd, sk := 0, wl := 0 } := by
  obtain ⟨s1, s2, s3, s4, s5, s6, s7, s8, s9, s10, s11, s12, s13, s14, s15, s16, s17, s18⟩ := S
  dsimp only at *
  unfold fieldsS zCo
  dsimp only
  simp only [List.foldl_append, lay_onF, lay_alts, lay_deps _ _ hd]
  have e1 : (if decide (s4 ≠ nil_) = true then layC ⟨k0, j0, nm, nil_, nil_, 0, [], 0, 0, 0, 0, false, 0, false, [], nd, 0, 0⟩ (kUser, .word s4) else ⟨k0, j0, nm, nil_, nil_, 0, [], 0, 0, 0, 0, false, 0, false, [], nd, 0, 0⟩) = (⟨k0, j0, nm, s4, nil_, 0, [], 0, 0, 0, 0, false, 0, false, [], nd, 0, 0⟩ : Co) := by
    by_cases h : s4 = nil_
    · rw [if_neg (by simp [h]), h]
    · rw [if_pos (by simp [h])]; rfl
  rw [e1]
  have e2 : (if decide (s5 ≠ nil_) = true then layC ⟨k0, j0, nm, s4, nil_, 0, [], 0, 0, 0, 0, false, 0, false, [], nd, 0, 0⟩ (kAccount, .word s5) else ⟨k0, j0, nm, s4, nil_, 0, [], 0, 0, 0, 0, false, 0, false, [], nd, 0, 0⟩) = (⟨k0, j0, nm, s4, s5, 0, [], 0, 0, 0, 0, false, 0, false, [], nd, 0, 0⟩ : Co) := by
    by_cases h : s5 = nil_
    · rw [if_neg (by simp [h]), h]
    · rw [if_pos (by simp [h])]; rfl
  rw [e2]
  have e3 : (if s12 = true then layC ⟨k0, j0, nm, s4, s5, 0, [], 0, 0, 0, 0, false, 0, false, [], nd, 0, 0⟩ (kPrio, .num s11) else ⟨k0, j0, nm, s4, s5, 0, [], 0, 0, 0, 0, false, 0, false, [], nd, 0, 0⟩) = (⟨k0, j0, nm, s4, s5, 0, [], 0, 0, 0, s11, s12, 0, false, [], nd, 0, 0⟩ : Co) := by
    cases s12 with
    | false => rw [if_neg (by decide), hp rfl]
    | true => rw [if_pos rfl]; rfl
  rw [e3]
  dsimp only [List.nil_append]
  have e4 : (if (s1 == 10) = true then layC ⟨k0, j0, nm, s4, s5, 0, [], 0, 0, 0, s11, s12, 0, false, s15, nd, 0, 0⟩ (kFrom, .num s18) else ⟨k0, j0, nm, s4, s5, 0, [], 0, 0, 0, s11, s12, 0, false, s15, nd, 0, 0⟩) = (⟨k0, j0, nm, s4, s5, 0, [], 0, 0, 0, s11, s12, 0, false, s15, nd, 0, s18⟩ : Co) := by
    by_cases h : s1 = 10
    · rw [if_pos (by simp [h])]; rfl
    · rw [if_neg (by simp [h]), hf h]
  rw [e4]
  have e5 : (if decide (s17 ≠ 0) = true then layC ⟨k0, j0, nm, s4, s5, 0, [], 0, 0, 0, s11, s12, 0, false, s15, nd, 0, s18⟩ (kNodes, .num s17) else ⟨k0, j0, nm, s4, s5, 0, [], 0, 0, 0, s11, s12, 0, false, s15, nd, 0, s18⟩) = (⟨k0, j0, nm, s4, s5, 0, [], 0, 0, 0, s11, s12, 0, false, s15, nd, s17, s18⟩ : Co) := by
    by_cases h : s17 = 0
    · rw [if_neg (by simp [h]), h]
    · rw [if_pos (by simp [h])]; rfl
  rw [e5]
  dsimp only [List.nil_append]
  have e6 : (if decide (s9 ≠ 0) = true then layC ⟨k0, j0, nm, s4, s5, 0, s7, 0, 0, 0, s11, s12, 0, false, s15, nd, s17, s18⟩ (kRange, .span s8 s9) else ⟨k0, j0, nm, s4, s5, 0, s7, 0, 0, 0, s11, s12, 0, false, s15, nd, s17, s18⟩) = (⟨k0, j0, nm, s4, s5, 0, s7, s8, s9, 0, s11, s12, 0, false, s15, nd, s17, s18⟩ : Co) := by
    by_cases h : s9 = 0
    · rw [if_neg (by simp [h]), hm h, h]
    · rw [if_pos (by simp [h])]; rfl
  rw [e6]
  cases s14 with
  | false => rw [if_neg (by decide), ht rfl]
  | true => rw [if_pos rfl]; rfl
end Go.Proofs.YtdkngidangfkiaaGreatDoor.Cmd
namespace Go.Proofs.YtdkngidangfkiaaGreatDoor.Cmd
open Go.RowKit
open Base Runes Lex
open Shape (frB frB_iff chkB goodB altOk sizeB wallB sizeB_iff wallB_iff mayB spanB)
set_option linter.unusedVariables false
set_option linter.unusedSimpArgs false
theorem name_nil : nameB nil_ = false := by decide +kernel
theorem name_ne {s : ByteArray} (h : nameB s = true) : s ≠ nil_ := by rintro rfl; rw [name_nil] at h; cases h
theorem alone_facts {c : Co} (h : c = aloneC c) :
    (c.kind ≠ 1 → c.name = nil_ ∧ c.user = nil_ ∧ c.account = nil_ ∧ c.sk = 0 ∧ c.alts = [] ∧ c.mn = 0 ∧ c.mx = 0 ∧ c.wl = 0 ∧ c.after = []) ∧
    (c.kind ≠ 1 → c.kind ≠ 5 → c.prio = 0 ∧ c.hasPrio = false) ∧ (c.kind ≠ 5 → c.kind ≠ 10 → c.time = 0 ∧ c.hasTime = false) ∧ (c.kind ≠ 10 → c.frm = 0) ∧
    (c.kind ≠ 6 → c.kind ≠ 10 → c.nodes = 0) ∧ (c.kind ≠ 7 → c.kind ≠ 8 → c.kind ≠ 9 → c.node = 0) ∧ (c.kind = 1 ∨ c.kind = 7 ∨ c.kind = 8 ∨ c.kind = 9 ∨ c.kind = 10 → c.job = 0) := by
  have key : ∀ d : Co, d = aloneC c →
    (c.kind ≠ 1 → d.name = nil_ ∧ d.user = nil_ ∧ d.account = nil_ ∧ d.sk = 0 ∧ d.alts = [] ∧ d.mn = 0 ∧ d.mx = 0 ∧ d.wl = 0 ∧ d.after = []) ∧
    (c.kind ≠ 1 → c.kind ≠ 5 → d.prio = 0 ∧ d.hasPrio = false) ∧ (c.kind ≠ 5 → c.kind ≠ 10 → d.time = 0 ∧ d.hasTime = false) ∧ (c.kind ≠ 10 → d.frm = 0) ∧
    (c.kind ≠ 6 → c.kind ≠ 10 → d.nodes = 0) ∧ (c.kind ≠ 7 → c.kind ≠ 8 → c.kind ≠ 9 → d.node = 0) ∧ (c.kind = 1 ∨ c.kind = 7 ∨ c.kind = 8 ∨ c.kind = 9 ∨ c.kind = 10 → d.job = 0) := by
    intro d hd
    subst hd
    unfold aloneC zCo
    split
    · rename_i hk; rw [hk]; simp
    · rename_i h1
      split
      · rename_i hk; rw [hk]; simp
      · rename_i h5
        split
        · rename_i hk; rw [hk]; simp
        · rename_i h6
          split
          · rename_i hk; rcases hk with hk | hk | hk <;> (rw [hk]; simp)
          · rename_i h7
            split
            · rename_i hk; rw [hk]; simp
            · rename_i h10
              refine ⟨fun _ => by simp, fun _ _ => by simp, fun _ _ => by simp, fun _ => rfl, fun _ _ => rfl, fun _ _ _ => rfl, fun h => ?_⟩
              omega
  exact key c h
theorem prioB_iff {c : Co} (h : prioB c = true) : (c.hasPrio = true → prB c.prio = true) ∧ (c.hasPrio = false → c.prio = 0) := by
  unfold prioB at h
  cases hp : c.hasPrio <;> rw [hp] at h <;> simp at h ⊢ <;> exact h
theorem timeB_iff {c : Co} (h : timeB c = true) : (c.hasTime = true → lenB c.time = true) ∧ (c.hasTime = false → c.time = 0) := by
  unfold timeB at h
  cases hp : c.hasTime <;> rw [hp] at h <;> simp at h ⊢ <;> exact h
theorem span_none {a b d : Int} (h : spanB a b d = false) : a = 0 ∧ b = 0 ∧ d = 0 := by
  simp [spanB] at h; exact ⟨h.1.1, h.1.2, h.2⟩
theorem good_all {l : List (Int × Int)} (h : goodB l = true) : ∀ a ∈ l, altOk a = true := by
  unfold goodB at h
  rw [Bool.and_eq_true, List.all_eq_true] at h
  exact h.1
theorem shape_cases {c : Co} (h : chkB c.sk c.alts c.mn c.mx c.wl = true) :
    (c.sk = 1 ∧ (∃ a, c.alts = [a] ∧ altOk a = true) ∧ c.mn = 0 ∧ c.mx = 0 ∧ c.wl = 0) ∨
    (c.sk = 2 ∧ c.alts ≠ [] ∧ c.alts.length ≤ 6 ∧ (∀ a ∈ c.alts, altOk a = true) ∧ c.mn = 0 ∧ c.mx = 0 ∧ c.wl = 0) ∨
    (c.sk = 3 ∧ c.alts = [] ∧ sizeB c.mn = true ∧ sizeB c.mx = true ∧ lenB c.wl = true) := by
  unfold chkB at h
  split at h
  · rename_i hk
    unfold mayB at h
    simp only [Bool.and_eq_true, Bool.not_eq_true'] at h
    obtain ⟨⟨h1, h2⟩, h3⟩ := h
    rw [frB_iff] at h1
    obtain ⟨e1, e2, e3⟩ := span_none h3
    have hl : c.alts.length = 1 := by omega
    obtain ⟨a, ha⟩ := List.length_eq_one_iff.1 hl
    exact .inl ⟨hk, ⟨a, ha, good_all h2 a (by rw [ha]; simp)⟩, e1, e2, e3⟩
  · split at h
    · rename_i hk
      unfold mayB at h
      simp only [Bool.and_eq_true, Bool.not_eq_true'] at h
      obtain ⟨⟨h1, h2⟩, h3⟩ := h
      rw [frB_iff] at h1
      obtain ⟨e1, e2, e3⟩ := span_none h3
      exact .inr (.inl ⟨hk, by intro h0; rw [h0] at h1; simp at h1, by omega, good_all h2, e1, e2, e3⟩)
    · split at h
      · rename_i hk
        simp only [Bool.and_eq_true, decide_eq_true_eq] at h
        exact .inr (.inr ⟨hk, List.eq_nil_of_length_eq_zero (by omega), h.1.1.1.1, h.1.1.1.2, h.1.2⟩)
      · cases h
structure SubOk (c : Co) : Prop where
  name : nameB c.name = true
  user : nameB c.user = true ∧ wordB c.user = true
  account : nameB c.account = true ∧ wordB c.account = true
  shape : chkB c.sk c.alts c.mn c.mx c.wl = true
  prio : prioB c = true
  after : depsB c.after = true
  job : c.job = 0
  time : c.time = 0 ∧ c.hasTime = false
  frm : c.frm = 0
  nodes : c.nodes = 0
  node : c.node = 0
theorem sub_ok {c : Co} (h : mayC c = true) (hk : c.kind = 1) : SubOk c := by
  obtain ⟨h1, h2⟩ := (mayC_iff c).1 h
  obtain ⟨_, f2, f3, f4, f5, f6, f7⟩ := alone_facts h2
  unfold partsB at h1
  rw [if_pos hk] at h1
  unfold submitB at h1
  simp only [Bool.and_eq_true] at h1
  obtain ⟨⟨⟨⟨⟨⟨⟨a1, a2⟩, a3⟩, a4⟩, a5⟩, a6⟩, a7⟩, a8⟩ := h1
  exact ⟨a1, ⟨a2, a3⟩, ⟨a4, a5⟩, a6, a7, a8, f7 (.inl hk), f3 (by omega) (by omega), f4 (by omega), f5 (by omega) (by omega), f6 (by omega) (by omega) (by omega)⟩
theorem spread_plain {c : Co} (h : c.sk = 0) : spreadC c = c := by
  unfold spreadC
  rw [if_neg (by omega), if_neg (by omega)]
theorem spread1 {c : Co} {a : Int × Int} (h : c.sk = 1) (ha : c.alts = [a]) : spreadC c = { c with nodes := a.1, time := a.2, hasTime := true, alts := [] } := by
  unfold spreadC
  rw [if_pos h, ha]; rfl
theorem spread2 {c : Co} (h : c.sk = 2) : spreadC c = c := by
  unfold spreadC
  rw [if_neg (by omega), if_neg (by omega)]
theorem spread3 {c : Co} (h : c.sk = 3) : spreadC c = { c with time := c.wl, hasTime := true } := by
  unfold spreadC
  rw [if_neg (by omega), if_pos h]
structure SpRest (S : Co) : Prop where
  prio : S.hasPrio = false → S.prio = 0
  frm : S.kind ≠ 10 → S.frm = 0
  mn : S.mx = 0 → S.mn = 0
  time : S.hasTime = false → S.time = 0
theorem other_ok {c : Co} (h : mayC c = true) (hk : c.kind ≠ 1) :
    SpOk c.kind c ∧ SpRest c ∧ c.sk = 0 ∧ c.wl = 0 ∧ c.alts = [] ∧ c.name = nil_ ∧
    (c.kind = 2 ∨ c.kind = 3 ∨ c.kind = 4 ∨ c.kind = 11 ∨ c.kind = 5 ∨ c.kind = 6 → 1 ≤ c.job ∧ c.job ≤ 99999) ∧ (c.kind = 5 → c.hasPrio = true ∨ c.hasTime = true) ∧ (c.kind = 6 → c.nodes ≠ 0) ∧
    (c.kind = 7 ∨ c.kind = 8 ∨ c.kind = 9 → 0 ≤ c.node ∧ c.node ≤ 47) ∧ (c.kind = 10 → c.nodes ≠ 0 ∧ c.hasTime = true) ∧ (c.kind = 12 → c.job = 0 ∨ (1 ≤ c.job ∧ c.job ≤ 99999)) ∧ (2 ≤ c.kind ∧ c.kind ≤ 12) := by
  obtain ⟨h1, h2⟩ := (mayC_iff c).1 h
  obtain ⟨f1, f2, f3, f4, f5, f6, f7⟩ := alone_facts h2
  obtain ⟨g1, g2, g3, g4, g5, g6, g7, g8, g9⟩ := f1 hk
  have hid : ∀ n, idB n = true → 1 ≤ n ∧ n ≤ 99999 := fun n h => (frB_iff _ _ _).1 h
  have hpr : c.kind = 5 → prioB c = true := by
    intro e
    unfold partsB at h1
    rw [if_neg hk, if_neg (by omega), if_pos e] at h1
    simp only [Bool.and_eq_true] at h1
    exact h1.1.2
  have htm : c.kind = 5 ∨ c.kind = 10 → timeB c = true := by
    intro e
    unfold partsB at h1
    rcases e with e | e
    · rw [if_neg hk, if_neg (by omega), if_pos e] at h1
      simp only [Bool.and_eq_true] at h1
      exact h1.2
    · rw [if_neg hk, if_neg (by omega), if_neg (by omega), if_neg (by omega), if_neg (by omega), if_pos e] at h1
      simp only [Bool.and_eq_true] at h1
      exact h1.1.2
  have hnd : c.kind = 6 ∨ c.kind = 10 → sizeB c.nodes = true := by
    intro e
    unfold partsB at h1
    rcases e with e | e
    · rw [if_neg hk, if_neg (by omega), if_neg (by omega), if_pos e] at h1
      simp only [Bool.and_eq_true] at h1
      exact h1.2
    · rw [if_neg hk, if_neg (by omega), if_neg (by omega), if_neg (by omega), if_neg (by omega), if_pos e] at h1
      simp only [Bool.and_eq_true] at h1
      exact h1.2
  have h10 : c.kind = 10 → tickB c.frm = true ∧ c.hasTime = true := by
    intro e
    unfold partsB at h1
    rw [if_neg hk, if_neg (by omega), if_neg (by omega), if_neg (by omega), if_neg (by omega), if_pos e] at h1
    simp only [Bool.and_eq_true] at h1
    exact ⟨h1.1.1.1, h1.1.1.2⟩
  have h5 : c.kind = 5 → c.hasPrio = true ∨ c.hasTime = true := by
    intro e
    unfold partsB at h1
    rw [if_neg hk, if_neg (by omega), if_pos e] at h1
    simp only [Bool.and_eq_true, Bool.or_eq_true] at h1
    exact h1.1.1.2
  have hk12 : 2 ≤ c.kind ∧ c.kind ≤ 12 := by
    unfold partsB at h1
    repeat' split at h1
    all_goals first | omega | cases h1
  refine ⟨⟨fun e => absurd g2 e, fun e => absurd g3 e, fun e => ?_, ⟨fun e => absurd g9 e, by rw [g9]; simp, by rw [g9]; simp, by rw [g9]; simp⟩, fun e => ⟨e, (h10 e).1⟩, fun e => ?_, ⟨fun e => absurd g5 e, by rw [g5]; simp, by rw [g5]; simp⟩, fun e => absurd g7 e, fun e => ?_⟩, ⟨?_, f4, fun _ => g6, ?_⟩, g4, g8, g5, g1, ?_, h5, ?_, ?_, ?_, ?_, hk12⟩
  · by_cases k5 : c.kind = 5
    · exact ⟨.inr k5, (prioB_iff (hpr k5)).1 e⟩
    · rw [(f2 hk k5).2] at e; cases e
  · by_cases k6 : c.kind = 6 ∨ c.kind = 10
    · exact ⟨by omega, hnd k6⟩
    · exact absurd (f5 (by omega) (by omega)) e
  · by_cases k5 : c.kind = 5 ∨ c.kind = 10
    · exact ⟨by omega, (timeB_iff (htm k5)).1 e⟩
    · rw [(f3 (by omega) (by omega)).2] at e; cases e
  · intro e
    by_cases k5 : c.kind = 5
    · exact (prioB_iff (hpr k5)).2 e
    · exact (f2 hk k5).1
  · intro e
    by_cases k5 : c.kind = 5 ∨ c.kind = 10
    · exact (timeB_iff (htm k5)).2 e
    · exact (f3 (by omega) (by omega)).1
  · intro e
    refine hid _ ?_
    unfold partsB at h1
    rw [if_neg hk] at h1
    by_cases k5 : c.kind = 5
    · rw [if_neg (by omega), if_pos k5] at h1
      simp only [Bool.and_eq_true] at h1
      exact h1.1.1.1
    · by_cases k6 : c.kind = 6
      · rw [if_neg (by omega), if_neg k5, if_pos k6] at h1
        simp only [Bool.and_eq_true] at h1
        exact h1.1
      · rw [if_pos (by omega)] at h1; exact h1
  · intro e
    have := (sizeB_iff _).1 (hnd (.inl e))
    omega
  · intro e
    unfold partsB at h1
    rw [if_neg hk, if_neg (by omega), if_neg (by omega), if_neg (by omega), if_pos e] at h1
    exact (frB_iff _ _ _).1 h1
  · intro e
    have := (sizeB_iff _).1 (hnd (.inr e))
    exact ⟨by omega, (h10 e).2⟩
  · intro e
    unfold partsB at h1
    rw [if_neg hk, if_neg (by omega), if_neg (by omega), if_neg (by omega), if_neg (by omega), if_neg (by omega), if_pos e] at h1
    simp only [Bool.or_eq_true, beq_iff_eq] at h1
    rcases h1 with h1 | h1
    · exact .inl h1
    · exact .inr (hid _ h1)
theorem sub_spread {c : Co} (h : SubOk c) (hk : c.kind = 1) : SpOk c.kind (spreadC c) ∧ SpRest (spreadC c) := by
  have hu : c.user ≠ nil_ → c.kind = 1 ∧ nameB c.user = true := fun _ => ⟨hk, h.user.1⟩
  have ha : c.account ≠ nil_ → c.kind = 1 ∧ nameB c.account = true := fun _ => ⟨hk, h.account.1⟩
  have hp : c.hasPrio = true → (c.kind = 1 ∨ c.kind = 5) ∧ prB c.prio = true := fun e => ⟨.inl hk, (prioB_iff h.prio).1 e⟩
  have hd := (depsB_iff _).1 h.after
  have hd2 : (c.after ≠ [] → c.kind = 1) ∧ c.after.length ≤ 4 ∧ (∀ d ∈ c.after, depOk d = true) ∧ (c.after.map Prod.snd).Nodup := ⟨fun _ => hk, hd⟩
  have hf : c.kind = 10 → c.kind = 10 ∧ tickB c.frm = true := fun e => by omega
  rcases shape_cases h.shape with ⟨k1, ⟨a, ea, oa⟩, e1, e2, e3⟩ | ⟨k2, n2, l2, o2, e1, e2, e3⟩ | ⟨k3, n3, b1, b2, b3⟩
  · rw [spread1 k1 ea]
    obtain ⟨o1, o2⟩ := (altOk_iff a).1 oa
    exact ⟨⟨hu, ha, hp, hd2, hf, fun _ => ⟨.inl hk, o1⟩, ⟨fun e => absurd rfl e, by simp, by simp⟩, fun e => absurd e2 e, fun _ => ⟨.inl hk, o2⟩⟩, ⟨(prioB_iff h.prio).2, fun _ => h.frm, fun _ => e1, fun e => by cases e⟩⟩
  · rw [spread2 k2]
    exact ⟨⟨hu, ha, hp, hd2, hf, fun e => absurd h.nodes e, ⟨fun _ => hk, l2, o2⟩, fun e => absurd e2 e, fun e => by rw [h.time.2] at e; cases e⟩, ⟨(prioB_iff h.prio).2, fun _ => h.frm, fun _ => e1, fun _ => h.time.1⟩⟩
  · rw [spread3 k3]
    exact ⟨⟨hu, ha, hp, hd2, hf, fun e => absurd h.nodes e, ⟨fun e => absurd n3 e, by rw [n3]; simp, by rw [n3]; simp⟩, fun e => ⟨hk, b1, b2⟩, fun e => ⟨.inl hk, b3⟩⟩, ⟨(prioB_iff h.prio).2, fun _ => h.frm, fun e => by have := (sizeB_iff _).1 b2; have e' : c.mx = 0 := e; omega, fun e => by cases e⟩⟩
theorem may_ok {c : Co} (h : mayC c = true) : SpOk c.kind (spreadC c) ∧ SpRest (spreadC c) := by
  by_cases hk : c.kind = 1
  · exact sub_spread (sub_ok h hk) hk
  · obtain ⟨h1, h2, h3, _⟩ := other_ok h hk
    rw [spread_plain h3]
    exact ⟨h1, h2⟩
theorem gather_back {c : Co} (h : mayC c = true) : gatherC ({ spreadC c with kind := c.kind, job := c.job, name := c.name, node := c.node, sk := 0, wl := 0 } : Co) = c := by
  by_cases hk : c.kind = 1
  · have s := sub_ok h hk
    have hne : ¬ c.kind ≠ 1 := by omega
    have t1 := s.time.1
    have t2 := s.time.2
    have t3 := s.nodes
    rcases shape_cases s.shape with ⟨k1, ⟨a, ea, oa⟩, e1, e2, e3⟩ | ⟨k2, n2, l2, o2, e1, e2, e3⟩ | ⟨k3, n3, b1, b2, b3⟩
    · rw [spread1 k1 ea]
      obtain ⟨a1, a2, a3, a4, a5, a6, a7, a8, a9, a10, a11, a12, a13, a14, a15, a16, a17, a18⟩ := c
      dsimp only at *
      subst hk k1 e1 e2 e3 t1 t2 t3 ea
      rfl
    · rw [spread2 k2]
      obtain ⟨a1, a2, a3, a4, a5, a6, a7, a8, a9, a10, a11, a12, a13, a14, a15, a16, a17, a18⟩ := c
      dsimp only at *
      unfold gatherC
      rw [if_neg hne, if_pos n2]
      subst k2 e3
      rfl
    · rw [spread3 k3]
      obtain ⟨a1, a2, a3, a4, a5, a6, a7, a8, a9, a10, a11, a12, a13, a14, a15, a16, a17, a18⟩ := c
      dsimp only at *
      have := (sizeB_iff _).1 b2
      unfold gatherC
      rw [if_neg hne, if_neg (by simp [n3]), if_pos (by dsimp only; omega)]
      subst k3 t1 t2
      rfl
  · obtain ⟨_, _, h3, h4, h5, _⟩ := other_ok h hk
    rw [spread_plain h3]
    unfold gatherC
    rw [if_pos hk]
    obtain ⟨a1, a2, a3, a4, a5, a6, a7, a8, a9, a10, a11, a12, a13, a14, a15, a16, a17, a18⟩ := c
    dsimp only at *
    subst h3 h4
    rfl
theorem noF_mem {l : List Fd} {s : ByteArray} {v : Vl} (h : (s, v) ∈ l) : noF l s = false := by
  unfold noF cntL
  refine decide_eq_false ?_
  rw [List.countP_eq_zero]
  intro h0
  exact absurd (h0 _ h) (by simp [nmd])
theorem on_mem {b : Bool} {s : ByteArray} {v : Vl} (h : b = true) : (s, v) ∈ onF b s v := by unfold onF; rw [if_pos h]; simp
theorem mem_user {S : Co} (h : S.user ≠ nil_) : (kUser, Vl.word S.user) ∈ fieldsS S := by unfold fieldsS; simp only [List.mem_append]; exact .inl (.inl (.inl (.inl (.inl (.inl (.inl (.inl (on_mem (decide_eq_true h)))))))))
theorem mem_account {S : Co} (h : S.account ≠ nil_) : (kAccount, Vl.word S.account) ∈ fieldsS S := by unfold fieldsS; simp only [List.mem_append]; exact .inl (.inl (.inl (.inl (.inl (.inl (.inl (.inr (on_mem (decide_eq_true h)))))))))
theorem mem_prio {S : Co} (h : S.hasPrio = true) : (kPrio, Vl.num S.prio) ∈ fieldsS S := by unfold fieldsS; simp only [List.mem_append]; exact .inl (.inl (.inl (.inl (.inl (.inl (.inr (on_mem h)))))))
theorem mem_from {S : Co} (h : S.kind = 10) : (kFrom, Vl.num S.frm) ∈ fieldsS S := by unfold fieldsS; simp only [List.mem_append]; exact .inl (.inl (.inl (.inl (.inr (on_mem (by simp [h]))))))
theorem mem_nodes {S : Co} (h : S.nodes ≠ 0) : (kNodes, Vl.num S.nodes) ∈ fieldsS S := by unfold fieldsS; simp only [List.mem_append]; exact .inl (.inl (.inl (.inr (on_mem (decide_eq_true h)))))
theorem mem_alt {S : Co} (a : Int × Int) (h : a ∈ S.alts) : (kAlt, Vl.opt a.1 a.2) ∈ fieldsS S := by unfold fieldsS; simp only [List.mem_append]; exact .inl (.inl (.inr (List.mem_map.2 ⟨a, h, rfl⟩)))
theorem mem_range {S : Co} (h : S.mx ≠ 0) : (kRange, Vl.span S.mn S.mx) ∈ fieldsS S := by unfold fieldsS; simp only [List.mem_append]; exact .inl (.inr (on_mem (decide_eq_true h)))
theorem mem_time {S : Co} (h : S.hasTime = true) : (kTime, Vl.tk S.time) ∈ fieldsS S := by unfold fieldsS; simp only [List.mem_append]; exact .inr (on_mem h)
theorem lacks_not {c : Co} (h : mayC c = true) : lacksB c.kind (fieldsC c) = false := by
  unfold fieldsC
  by_cases hk : c.kind = 1
  · have s := sub_ok h hk
    unfold lacksB
    rw [if_pos hk]
    rcases shape_cases s.shape with ⟨k1, ⟨a, ea, oa⟩, e1, e2, e3⟩ | ⟨k2, n2, l2, o2, e1, e2, e3⟩ | ⟨k3, n3, b1, b2, b3⟩
    · rw [spread1 k1 ea]
      have := (sizeB_iff _).1 ((altOk_iff a).1 oa).1
      rw [noF_mem (mem_user (S := { c with nodes := a.1, time := a.2, hasTime := true, alts := [] }) (name_ne s.user.1)), noF_mem (mem_account (S := { c with nodes := a.1, time := a.2, hasTime := true, alts := [] }) (name_ne s.account.1)), noF_mem (mem_time (S := { c with nodes := a.1, time := a.2, hasTime := true, alts := [] }) rfl), noF_mem (mem_nodes (S := { c with nodes := a.1, time := a.2, hasTime := true, alts := [] }) (by dsimp only; omega))]
      simp
    · rw [spread2 k2]
      obtain ⟨a, ha⟩ := List.exists_mem_of_ne_nil _ n2
      rw [noF_mem (mem_user (name_ne s.user.1)), noF_mem (mem_account (name_ne s.account.1)), noF_mem (mem_alt a ha)]
      simp
    · rw [spread3 k3]
      have := (sizeB_iff _).1 b2
      rw [noF_mem (mem_user (S := { c with time := c.wl, hasTime := true }) (name_ne s.user.1)), noF_mem (mem_account (S := { c with time := c.wl, hasTime := true }) (name_ne s.account.1)), noF_mem (mem_time (S := { c with time := c.wl, hasTime := true }) rfl), noF_mem (mem_range (S := { c with time := c.wl, hasTime := true }) (by dsimp only; omega))]
      simp
  · obtain ⟨_, _, h3, _, _, _, _, h5, h6, _, h10, _, _⟩ := other_ok h hk
    rw [spread_plain h3]
    unfold lacksB
    rw [if_neg hk]
    split
    · rename_i e
      refine decide_eq_false ?_
      rcases h5 e with h5 | h5
      · exact Nat.ne_of_gt (List.length_pos_of_mem (mem_prio h5))
      · exact Nat.ne_of_gt (List.length_pos_of_mem (mem_time h5))
    · split
      · rename_i e; exact noF_mem (mem_nodes (h6 e))
      · split
        · rename_i e
          obtain ⟨q1, q2⟩ := h10 e
          rw [noF_mem (mem_from e), noF_mem (mem_nodes q1), noF_mem (mem_time q2)]; rfl
        · rfl
def nameTk (s : ByteArray) : Tok := (if wordB s = true then 1 else 4, s, 0, 0)
def tgtTk (c : Co) : List Tok :=
  if c.kind = 1 then [nameTk c.name] else if c.kind = 7 ∨ c.kind = 8 ∨ c.kind = 9 then [nmb c.node] else if c.job ≠ 0 then [nmb c.job] else []
theorem nx_name {s : ByteArray} (h : nameB s = true) (r : List Tok) : nx qName (nameTk s :: r) = (some (nameTk s), r) := by
  rw [nx, if_pos]
  unfold qName nameTk
  dsimp only
  rw [h]
  split <;> rfl
theorem fields_none {c : Co} (h : mayC c = true) (hk : c.kind = 12) : fieldsC c = [] := by
  obtain ⟨q, q2, h3, _, h5, _⟩ := other_ok h (by omega)
  unfold fieldsC
  rw [spread_plain h3]
  have hu : c.user = nil_ := Decidable.byContradiction fun e => by have := (q.user e).1; omega
  have ha : c.account = nil_ := Decidable.byContradiction fun e => by have := (q.account e).1; omega
  have hp : c.hasPrio = false := by cases e : c.hasPrio with
    | false => rfl
    | true => have := (q.prio e).1; omega
  have ht : c.hasTime = false := by cases e : c.hasTime with
    | false => rfl
    | true => have := (q.time e).1; omega
  have hd : c.after = [] := Decidable.byContradiction fun e => by have := q.after.1 e; omega
  have hn : c.nodes = 0 := Decidable.byContradiction fun e => by have := (q.nodes e).1; omega
  have hm : c.mx = 0 := Decidable.byContradiction fun e => by have := (q.span e).1; omega
  unfold fieldsS onF
  rw [hu, ha, hp, ht, hd, hn, hm, h5, hk]
  simp
theorem rdTgt_ok {c : Co} (h : mayC c = true) (r : List Tok) (hr : c.kind = 12 → r = []) : rdTgt (zCo c.kind) (tgtTk c ++ r) = (some { zCo c.kind with job := c.job, name := c.name, node := c.node }, r) := by
  by_cases hk : c.kind = 1
  · have s := sub_ok h hk
    unfold rdTgt tgtTk
    rw [if_pos hk, if_neg (by show ¬ (c.kind = 10 ∨ _); rintro (e | ⟨e, _⟩) <;> (have : c.kind = _ := e; omega)), if_pos (show (zCo c.kind).kind = 1 from hk), List.cons_append, List.nil_append, nx_name s.name, s.job, s.node]
    rfl
  · obtain ⟨_, _, _, _, _, g1, g2, g3, g4, g5, g6, g7, g8⟩ := other_ok h hk
    obtain ⟨f1, f2, f3, f4, f5, f6, f7⟩ := alone_facts ((mayC_iff c).1 h).2
    by_cases h7 : c.kind = 7 ∨ c.kind = 8 ∨ c.kind = 9
    · have hq : nodeB c.node = true := (frB_iff _ _ _).2 (g5 h7)
      have e : tgtTk c = [nmb c.node] := by unfold tgtTk; rw [if_neg hk, if_pos h7]
      rw [e]
      unfold rdTgt
      rw [if_neg (by show ¬ (c.kind = 10 ∨ _); rintro (e | ⟨e, _⟩) <;> (have : c.kind = _ := e; omega)), if_neg (show ¬ (zCo c.kind).kind = 1 from hk), if_pos (show (zCo c.kind).kind = 7 ∨ (zCo c.kind).kind = 8 ∨ (zCo c.kind).kind = 9 from h7), List.cons_append, List.nil_append, rdNum_nmb hq, f7 (by omega), g1]
      rfl
    · have hnode := f6 (by omega) (by omega) (by omega)
      by_cases h10 : c.kind = 10
      · have hj := f7 (by omega)
        have e : tgtTk c = [] := by unfold tgtTk; rw [if_neg hk, if_neg h7, if_neg (by rw [hj]; simp)]
        rw [e]
        unfold rdTgt
        rw [if_pos (show (zCo c.kind).kind = 10 ∨ _ from .inl h10), hnode, hj, g1]
        rfl
      · by_cases hj : c.job = 0
        · have h12 : c.kind = 12 := by
            by_cases e : c.kind = 12
            · exact e
            · have := g2 (by omega); omega
          have e : tgtTk c = [] := by unfold tgtTk; rw [if_neg hk, if_neg h7, if_neg (by rw [hj]; simp)]
          have e2 : rdTgt (zCo c.kind) [] = (some (zCo c.kind), []) := by
            unfold rdTgt
            exact if_pos (Or.inr ⟨h12, rfl⟩)
          rw [e, hr h12, List.append_nil, e2, hnode, hj, g1]
          rfl
        · have hq : idB c.job = true := by
            refine (frB_iff _ _ _).2 ?_
            by_cases e : c.kind = 12
            · rcases g7 e with h | h
              · exact absurd h hj
              · exact h
            · exact g2 (by omega)
          have e : tgtTk c = [nmb c.job] := by unfold tgtTk; rw [if_neg hk, if_neg h7, if_pos hj]
          rw [e]
          unfold rdTgt
          rw [if_neg (by
            rintro (e | ⟨_, e⟩)
            · exact h10 e
            · simp at e), if_neg (show ¬ (zCo c.kind).kind = 1 from hk), if_neg (show ¬ ((zCo c.kind).kind = 7 ∨ (zCo c.kind).kind = 8 ∨ (zCo c.kind).kind = 9) from h7), List.cons_append, List.nil_append, rdNum_nmb hq, hnode, g1]
          rfl
theorem kind_bd {c : Co} (h : mayC c = true) : 1 ≤ c.kind ∧ c.kind ≤ 12 := by
  by_cases hk : c.kind = 1
  · omega
  · have := (other_ok h hk).2.2.2.2.2.2.2.2.2.2.2.2; omega
theorem kind_verb : ∀ k : Fin 13, 1 ≤ k.val → kindN (verb (k.val : Int)) = k.val ∧ chE (wrd (verb (k.val : Int))) = 0 := by decide +kernel
theorem verb_ok {k : Int} (h : 1 ≤ k ∧ k ≤ 12) : (kindN (verb k) : Int) = k ∧ chE (wrd (verb k)) = 0 := by
  obtain ⟨n, rfl⟩ := Int.eq_ofNat_of_zero_le (show 0 ≤ k by omega)
  obtain ⟨h1, h2⟩ := kind_verb ⟨n, by omega⟩ (by show 1 ≤ n; omega)
  exact ⟨by rw [show ((n : Int)) = ((⟨n, by omega⟩ : Fin 13).val : Int) from rfl, h1], h2⟩
def allTk (c : Co) : List Tok := wrd (verb c.kind) :: (tgtTk c ++ (fieldsC c).flatMap fdTk)
theorem rdCmd_ok {c : Co} (h : mayC c = true) : (rdCmd (allTk c)).1 = some c := by
  obtain ⟨v1, _⟩ := verb_ok (kind_bd h)
  obtain ⟨s1, s2⟩ := may_ok h
  have hd : ∀ d ∈ (spreadC c).after, depOk d = true := s1.after.2.2.1
  unfold rdCmd allTk
  have e1 : rdWord (fun s => decide (kindN s ≠ 0)) (wrd (verb c.kind) :: (tgtTk c ++ (fieldsC c).flatMap fdTk)) = (some (verb c.kind), tgtTk c ++ (fieldsC c).flatMap fdTk) := by
    unfold rdWord getW
    rw [nx, if_pos]
    · rfl
    · show ((1 : Int) == 1 && decide (kindN (verb c.kind) ≠ 0)) = true
      have := kind_bd h
      rw [decide_eq_true (by omega)]; rfl
  rw [e1]
  dsimp only
  rw [v1, rdTgt_ok h _ (fun e => by rw [fields_none h e]; rfl)]
  dsimp only
  rw [rdLoop_ok (fieldsC c) { zCo c.kind with job := c.job, name := c.name, node := c.node } [] _ (fields_ok s1) (Nat.le_refl _)]
  have e2 := lay_fields c.kind c.job c.name c.node (spreadC c) hd s2.prio s2.frm s2.mn s2.time
  have e3 : (fieldsC c).foldl layC { zCo c.kind with job := c.job, name := c.name, node := c.node } = { spreadC c with kind := c.kind, job := c.job, name := c.name, node := c.node, sk := 0, wl := 0 } := e2
  dsimp only
  rw [e3, List.nil_append]
  dsimp only
  rw [lacks_not h, if_neg (by decide), gather_back h]
theorem num_wr {n : Int} (h0 : 0 ≤ n) (h1 : n < 1000000000) : (wrB (nmb n)).data.toList = numT n := by
  have e : wrB (nmb n) = digB n := rfl
  rw [e, ← itB_nat (by omega) (by omega)]
  rfl
theorem tim_wr {n : Int} (h0 : 0 ≤ n) (h1 : n ≤ 1000000) : (wrB (tim n)).data.toList = timT n := by
  unfold timT Hours.shB
  rw [if_pos ((Hours.cl_time n).2 ⟨h0, h1⟩)]
  rfl
theorem name_bytes {s : ByteArray} (h : nameB s = true) : ckE s = 0 ∧ s.size ≤ 64 := by
  unfold nameB at h
  rw [Bool.and_eq_true, decide_eq_true_iff, frB_iff] at h
  obtain ⟨h1, _, h2⟩ := h
  refine ⟨h1, ?_⟩
  have hn : ckN s = cn s := by
    unfold ckE at h1
    unfold ckN cn
    rcases chk_good 0 (ps s 0) with ⟨a, b, _⟩ | ⟨a, _, _, _⟩
    · omega
    · rw [a] at h1; simp at h1
  have hg := encB_rn (goodR_of_ck h1)
  have hz : s.size = (encL (rn s)).length := by
    conv => lhs; rw [← hg]
    rw [Lib.size_eq, encB_data]
  have := encL_length (rn s)
  rw [rn_length] at this
  omega
theorem name_ok {s : ByteArray} (h : nameB s = true) : chE (nameTk s) = 0 ∧ (wrB (nameTk s)).data.toList = nameT s := by
  obtain ⟨h1, h2⟩ := name_bytes h
  have hc : chE (nameTk s) = 0 := by
    unfold nameTk
    split
    · rename_i hw; exact of_decide_eq_true hw
    · exact chE_txt s h1 (by omega)
  refine ⟨hc, ?_⟩
  unfold nameT txS
  rw [show ((if wordB s = true then 1 else 4, s, 0, 0) : Tok) = nameTk s from rfl, if_pos hc]
def vlOk : Vl → Prop
  | .word s => wordB s = true
  | .num n => 0 ≤ n ∧ n ≤ 1000000
  | .id n => 0 ≤ n ∧ n ≤ 1000000
  | .tk n => 1 ≤ n ∧ n ≤ 1000000
  | .opt a b => (0 ≤ a ∧ a ≤ 1000000) ∧ 1 ≤ b ∧ b ≤ 1000000
  | .span a b => (0 ≤ a ∧ a ≤ 1000000) ∧ 0 ≤ b ∧ b ≤ 1000000
theorem key_ok : ∀ s ∈ [kUser, kAccount, kPrio, kAny, kGood, kBad, kFrom, kNodes, kAlt, kRange, kTime], chE (wrd s) = 0 := by decide +kernel
theorem fd_toks {f : Fd} (hs : chE (wrd f.1) = 0) (hv : vlOk f.2) : ((∀ t ∈ fdTk f, chE t = 0) ∧ tied (fdTk f)) ∧ 32 :: wb (fdTk f) = fdT f := by
  obtain ⟨s, v⟩ := f
  obtain ⟨c1, c2, c3⟩ := chE_sgn
  have w1 : (wrB (wrd s)).data.toList = s.data.toList := rfl
  have w2 : (wrB (sgn 61)).data.toList = [61] := rfl
  have w3 : (wrB (sgn 58)).data.toList = [58] := rfl
  have w4 : (wrB (sgn 45)).data.toList = [45] := rfl
  unfold fdTk fdT
  dsimp only at hs hv ⊢
  cases v with
  | word u =>
    have hu : chE (wrd u) = 0 := of_decide_eq_true hv
    refine ⟨⟨?_, ⟨.inr (.inl rfl), .inl rfl, trivial⟩⟩, ?_⟩
    · intro t ht
      simp only [vlTk, List.mem_cons, List.not_mem_nil, or_false] at ht
      rcases ht with rfl | rfl | rfl <;> assumption
    · unfold wb vlTk valT
      simp only [List.flatMap_cons, List.flatMap_nil, w1, w2]
      rw [show (wrB (wrd u)).data.toList = u.data.toList from rfl]
      simp
  | num n =>
    have hu : chE (nmb n) = 0 := chE_num n hv.1 (by have := hv.2; omega)
    refine ⟨⟨?_, ⟨.inr (.inl rfl), .inl rfl, trivial⟩⟩, ?_⟩
    · intro t ht
      simp only [vlTk, List.mem_cons, List.not_mem_nil, or_false] at ht
      rcases ht with rfl | rfl | rfl <;> assumption
    · unfold wb vlTk valT
      simp only [List.flatMap_cons, List.flatMap_nil, w1, w2, num_wr hv.1 (show n < 1000000000 by have := hv.2; omega)]
      simp
  | id n =>
    have hu : chE (nmb n) = 0 := chE_num n hv.1 (by have := hv.2; omega)
    refine ⟨⟨?_, ⟨.inr (.inl rfl), .inl rfl, trivial⟩⟩, ?_⟩
    · intro t ht
      simp only [vlTk, List.mem_cons, List.not_mem_nil, or_false] at ht
      rcases ht with rfl | rfl | rfl <;> assumption
    · unfold wb vlTk valT
      simp only [List.flatMap_cons, List.flatMap_nil, w1, w2, num_wr hv.1 (show n < 1000000000 by have := hv.2; omega)]
      simp
  | tk n =>
    have hu : chE (tim n) = 0 := chE_tim n hv.1 hv.2
    refine ⟨⟨?_, ⟨.inr (.inl rfl), .inl rfl, trivial⟩⟩, ?_⟩
    · intro t ht
      simp only [vlTk, List.mem_cons, List.not_mem_nil, or_false] at ht
      rcases ht with rfl | rfl | rfl <;> assumption
    · unfold wb vlTk valT
      simp only [List.flatMap_cons, List.flatMap_nil, w1, w2, tim_wr (show 0 ≤ n by have := hv.1; omega) hv.2]
      simp
  | opt a b =>
    obtain ⟨⟨v1, v2⟩, v3, v4⟩ := hv
    have hu : chE (nmb a) = 0 := chE_num a v1 (by omega)
    have hu2 : chE (tim b) = 0 := chE_tim b v3 v4
    refine ⟨⟨?_, ⟨.inr (.inl rfl), .inl rfl, .inr (.inr (.inl rfl)), .inl rfl, trivial⟩⟩, ?_⟩
    · intro t ht
      simp only [vlTk, List.mem_cons, List.not_mem_nil, or_false] at ht
      rcases ht with rfl | rfl | rfl | rfl | rfl <;> assumption
    · unfold wb vlTk valT
      simp only [List.flatMap_cons, List.flatMap_nil, w1, w2, w3, num_wr v1 (show a < 1000000000 by omega), tim_wr (show 0 ≤ b by omega) v4]
      simp
  | span a b =>
    obtain ⟨⟨v1, v2⟩, v3, v4⟩ := hv
    have hu : chE (nmb a) = 0 := chE_num a v1 (by omega)
    have hu2 : chE (nmb b) = 0 := chE_num b v3 (by omega)
    refine ⟨⟨?_, ⟨.inr (.inl rfl), .inl rfl, .inr (.inr (.inr ⟨rfl, rfl⟩)), .inl rfl, trivial⟩⟩, ?_⟩
    · intro t ht
      simp only [vlTk, List.mem_cons, List.not_mem_nil, or_false] at ht
      rcases ht with rfl | rfl | rfl | rfl | rfl <;> assumption
    · unfold wb vlTk valT
      simp only [List.flatMap_cons, List.flatMap_nil, w1, w2, w4, num_wr v1 (show a < 1000000000 by omega), num_wr v3 (show b < 1000000000 by omega)]
      simp
theorem fields_wr {c : Co} (h : mayC c = true) : ∀ f ∈ fieldsC c, chE (wrd f.1) = 0 ∧ vlOk f.2 := by
  obtain ⟨s1, s2⟩ := may_ok h
  have hw : (spreadC c).user ≠ nil_ → wordB (spreadC c).user = true ∧ wordB (spreadC c).account = true := by
    intro e
    have hk := (s1.user e).1
    have s := sub_ok h hk
    have eu : (spreadC c).user = c.user ∧ (spreadC c).account = c.account := by unfold spreadC; split; exact ⟨rfl, rfl⟩; split <;> exact ⟨rfl, rfl⟩
    rw [eu.1, eu.2]
    exact ⟨s.user.2, s.account.2⟩
  have hw2 : (spreadC c).account ≠ nil_ → wordB (spreadC c).account = true := by
    intro e
    have hk := (s1.account e).1
    have s := sub_ok h hk
    have eu : (spreadC c).account = c.account := by unfold spreadC; split; rfl; split <;> rfl
    rw [eu]
    exact s.account.2
  have key := key_ok
  intro f hf
  unfold fieldsC fieldsS at hf
  simp only [List.mem_append] at hf
  rcases hf with (((((((hf | hf) | hf) | hf) | hf) | hf) | hf) | hf) | hf
  · have e := mem_onF hf
    unfold onF at hf; split at hf
    · rename_i hb; rw [e]; exact ⟨key _ (by simp), (hw (of_decide_eq_true hb)).1⟩
    · simp at hf
  · have e := mem_onF hf
    unfold onF at hf; split at hf
    · rename_i hb; rw [e]; exact ⟨key _ (by simp), hw2 (of_decide_eq_true hb)⟩
    · simp at hf
  · have e := mem_onF hf
    unfold onF at hf; split at hf
    · rename_i hb; rw [e]; refine ⟨key _ (by simp), ?_⟩
      have := (frB_iff _ _ _).1 (s1.prio hb).2
      show 0 ≤ (spreadC c).prio ∧ (spreadC c).prio ≤ 1000000
      omega
    · simp at hf
  · obtain ⟨d, hd, rfl⟩ := List.mem_map.1 hf
    obtain ⟨q1, q2⟩ := (depOk_iff d).1 (s1.after.2.2.1 d hd)
    refine ⟨?_, by show 0 ≤ d.2 ∧ d.2 ≤ 1000000; omega⟩
    show chE (wrd (howW d.1)) = 0
    rcases how3 q1 with ⟨_, e⟩ | ⟨_, e⟩ | ⟨_, e⟩ <;> (rw [e]; exact key _ (by simp))
  · have e := mem_onF hf
    unfold onF at hf; split at hf
    · rename_i hb; rw [e]; refine ⟨key _ (by simp), ?_⟩
      have := (frB_iff _ _ _).1 (s1.frm (by simpa using hb)).2
      show 0 ≤ (spreadC c).frm ∧ (spreadC c).frm ≤ 1000000
      omega
    · simp at hf
  · have e := mem_onF hf
    unfold onF at hf; split at hf
    · rename_i hb; rw [e]; refine ⟨key _ (by simp), ?_⟩
      have := (frB_iff _ _ _).1 (s1.nodes (of_decide_eq_true hb)).2
      show 0 ≤ (spreadC c).nodes ∧ (spreadC c).nodes ≤ 1000000
      omega
    · simp at hf
  · obtain ⟨a, ha, rfl⟩ := List.mem_map.1 hf
    obtain ⟨q1, q2⟩ := (altOk_iff a).1 (s1.alts.2.2 a ha)
    have := (sizeB_iff _).1 q1
    have := (lenB_iff _).1 q2
    exact ⟨key kAlt (by simp), by show (0 ≤ a.1 ∧ a.1 ≤ 1000000) ∧ 1 ≤ a.2 ∧ a.2 ≤ 1000000; omega⟩
  · have e := mem_onF hf
    unfold onF at hf; split at hf
    · rename_i hb; rw [e]; refine ⟨key _ (by simp), ?_⟩
      obtain ⟨_, q1, q2⟩ := s1.span (of_decide_eq_true hb)
      have := (sizeB_iff _).1 q1
      have := (sizeB_iff _).1 q2
      show (0 ≤ (spreadC c).mn ∧ (spreadC c).mn ≤ 1000000) ∧ 0 ≤ (spreadC c).mx ∧ (spreadC c).mx ≤ 1000000
      omega
    · simp at hf
  · have e := mem_onF hf
    unfold onF at hf; split at hf
    · rename_i hb; rw [e]; refine ⟨key _ (by simp), ?_⟩
      have := (lenB_iff _).1 (s1.time hb).2
      show 1 ≤ (spreadC c).time ∧ (spreadC c).time ≤ 1000000
      omega
    · simp at hf
def rowsTk (c : Co) : List (List Tok) := (if tgtTk c = [] then [] else [tgtTk c]) ++ (fieldsC c).map fdTk
theorem rows_flat (c : Co) : [wrd (verb c.kind)] ++ (rowsTk c).flatten = allTk c := by
  unfold rowsTk allTk
  rw [List.flatten_append, ← List.flatMap_def]
  split
  · rename_i e; rw [e]; rfl
  · simp
theorem big_fields : ∀ (F : List Fd), (∀ f ∈ F, 32 :: wb (fdTk f) = fdT f) → bigB (F.map fdTk) = fldT F
  | [], _ => rfl
  | f :: F, h => by
    have h1 := h f (by simp)
    have h2 := big_fields F (fun x hx => h x (by simp [hx]))
    unfold bigB fldT at h2 ⊢
    rw [List.map_cons, List.flatMap_cons, List.flatMap_cons, h2, h1]
theorem tgt_wr {c : Co} (h : mayC c = true) : (∀ t ∈ tgtTk c, chE t = 0) ∧ tied (tgtTk c) ∧ headT c = (verb c.kind).data.toList ++ bigB (if tgtTk c = [] then [] else [tgtTk c]) := by
  by_cases hk : c.kind = 1
  · have s := sub_ok h hk
    obtain ⟨n1, n2⟩ := name_ok s.name
    have e : tgtTk c = [nameTk c.name] := by unfold tgtTk; rw [if_pos hk]
    rw [e, if_neg (by simp)]
    refine ⟨fun t ht => by simp at ht; rw [ht]; exact n1, trivial, ?_⟩
    unfold headT
    rw [if_pos hk, ← n2]
    unfold bigB wb
    simp
  · obtain ⟨_, _, _, _, _, g1, g2, g3, g4, g5, g6, g7, g8⟩ := other_ok h hk
    obtain ⟨f1, f2, f3, f4, f5, f6, f7⟩ := alone_facts ((mayC_iff c).1 h).2
    by_cases h7 : c.kind = 7 ∨ c.kind = 8 ∨ c.kind = 9
    · have hq := g5 h7
      have e : tgtTk c = [nmb c.node] := by unfold tgtTk; rw [if_neg hk, if_pos h7]
      rw [e, if_neg (by simp)]
      refine ⟨fun t ht => by simp at ht; rw [ht]; exact chE_num _ hq.1 (by omega), trivial, ?_⟩
      unfold headT
      rw [if_neg hk, if_pos h7, ← num_wr hq.1 (by omega)]
      unfold bigB wb
      simp
    · by_cases hj : c.job = 0
      · have e : tgtTk c = [] := by unfold tgtTk; rw [if_neg hk, if_neg h7, if_neg (by rw [hj]; simp)]
        rw [e, if_pos rfl]
        refine ⟨fun t ht => by simp at ht, trivial, ?_⟩
        unfold headT
        rw [if_neg hk, if_neg h7, if_neg (by rw [hj]; simp)]
        rfl
      · have hq : 1 ≤ c.job ∧ c.job ≤ 99999 := by
          by_cases e : c.kind = 12
          · rcases g7 e with h | h
            · exact absurd h hj
            · exact h
          · by_cases e10 : c.kind = 10
            · exact absurd (f7 (by omega)) hj
            · exact g2 (by omega)
        have e : tgtTk c = [nmb c.job] := by unfold tgtTk; rw [if_neg hk, if_neg h7, if_pos hj]
        rw [e, if_neg (by simp)]
        refine ⟨fun t ht => by simp at ht; rw [ht]; exact chE_num _ (by omega) (by omega), trivial, ?_⟩
        unfold headT
        rw [if_neg hk, if_neg h7, if_pos hj, ← num_wr (show 0 ≤ c.job by omega) (by omega)]
        unfold bigB wb
        simp
theorem bigB_append (a b : List (List Tok)) : bigB (a ++ b) = bigB a ++ bigB b := by unfold bigB; rw [List.flatMap_append]
theorem line_wr {c : Co} (h : mayC c = true) : lineT c = wb [wrd (verb c.kind)] ++ bigB (rowsTk c) := by
  obtain ⟨_, _, t3⟩ := tgt_wr h
  have hf := fields_wr h
  unfold lineT rowsTk
  rw [t3, bigB_append, big_fields (fieldsC c) (fun f hx => (fd_toks (hf f hx).1 (hf f hx).2).2)]
  rw [show wb [wrd (verb c.kind)] = (verb c.kind).data.toList from by unfold wb; simp only [List.flatMap_cons, List.flatMap_nil, List.append_nil]; rfl, List.append_assoc]
theorem line_size (c : Co) : (lineB c).size = (lineT c).length := by rw [Lib.size_eq]; rfl
theorem parse_line {c : Co} (h : mayC c = true) (hl : ¬ 400 < (lineT c).length) : parseC (lineB c) = (c, (cn (lineB c) : Int), 0) := by
  obtain ⟨t1, t2, _⟩ := tgt_wr h
  have hf := fields_wr h
  obtain ⟨_, v2⟩ := verb_ok (kind_bd h)
  obtain ⟨k, k1, k2⟩ := line_toks [wrd (verb c.kind)] (rowsTk c) ⟨fun t ht => by simp at ht; rw [ht]; exact v2, trivial⟩ (by
    intro l hl
    unfold rowsTk at hl
    rw [List.mem_append] at hl
    rcases hl with hl | hl
    · split at hl
      · simp at hl
      · simp only [List.mem_singleton] at hl
        subst hl
        exact ⟨t1, t2⟩
    · obtain ⟨f, hx, rfl⟩ := List.mem_map.1 hl
      exact (fd_toks (hf f hx).1 (hf f hx).2).1) (lineB c) (by rw [line_size]; omega) (line_wr h)
  rw [rows_flat] at k2
  have hr := rdCmd_same k2
  rw [rdCmd_ok h] at hr
  unfold parseC
  rw [k1, if_neg (by simp)]
  dsimp only
  rcases hc : rdCmd k with ⟨_ | d, r⟩
  · rw [hc] at hr; cases hr
  · rw [hc] at hr
    injection hr with hr
    subst hr
    dsimp only
    rw [if_pos h]
theorem parse_may {s : ByteArray} (h : (parseC s).2.2 = 0) : mayC (parseC s).1 = true := by
  unfold parseC at h ⊢
  split
  · rename_i h1; rw [if_pos h1] at h; exact absurd h h1
  · rename_i h1
    rw [if_neg h1] at h
    rcases hc : rdCmd (tkA s).1 with ⟨_ | d, r⟩
    · rw [hc] at h; simp at h
    · rw [hc] at h
      dsimp only at h ⊢
      split
      · assumption
      · rename_i h2; rw [if_neg h2] at h; simp at h
end Go.Proofs.YtdkngidangfkiaaGreatDoor.Cmd
