/-
  The walk of package hours: a time, written; Normal.
-/
import Derived.Test.YtgpgpgechilbkaaDoorHoursParse
namespace Go.Proofs.YtgpgpgechilbkaaDoor.Hours
open Go.RowKit
open Base Sat HoursLib
set_option linter.unusedVariables false
set_option linter.unusedSimpArgs false

def shE (n : Int) : Int := if cl n 1000000 = n then 0 else 153
def shB (n : Int) : ByteArray := if cl n 1000000 = n then ⟨(showL n).toArray⟩ else ⟨#[]⟩

theorem unit_new {wr w2 : World} {c z : Int} (p : Below (wr.alloc (.cells #[.int .u8 c, .int .i64 z] 39)).heap.size (wr.alloc (.cells #[.int .u8 c, .int .i64 z] 39)) w2) :
    w2.heap[wr.heap.size]? = some (.cells #[.int .u8 c, .int .i64 z] 39 (0, 0)) := by
  rw [p.block _ (by simp)]; exact heap_alloc_new wr _
theorem unit_kept {w1 w2 : World} {b k : Nat} {c z : Int} (h : w1.heap[k]? = some (.cells #[.int .u8 c, .int .i64 z] 39 (0, 0))) (hk : Kept b w1 w2) (hb : b < k) :
    w2.heap[k]? = some (.cells #[.int .u8 c, .int .i64 z] 39 (0, 0)) :=
  hk k _ h (by intro e; injection e with e; omega) (by intro cs fz e; injection e with _ e; exact absurd e (by decide))
theorem unit_cells {w : World} {k : Nat} {c z : Int} (h : w.heap[k]? = some (.cells #[.int .u8 c, .int .i64 z] 39 (0, 0))) :
    w.cell? ⟨k, 0, none⟩ = some (.int .u8 c) ∧ w.cell? ⟨k, 1, none⟩ = some (.int .i64 z) := by
  simp [World.cell?, h]
theorem bldBel {w w1 : World} {B b : Nat} {l : List UInt8} (h : BldR w B b l w1) : Below B w w1 := h.2.1
theorem bldLt {w w1 : World} {B b : Nat} {l : List UInt8} (h : BldR w B b l w1) : b < w1.heap.size := by
  rcases h.1 with h | h
  · obtain ⟨_, v, hb, _⟩ := h; exact (Array.getElem?_eq_some_iff.1 hb).1
  · obtain ⟨_, v, hb, _⟩ := h; exact (Array.getElem?_eq_some_iff.1 hb).1

def unitsV : Value := .agg #[.int .u8 100, .int .i64 86400, .int .u8 104, .int .i64 3600, .int .u8 109, .int .i64 60, .int .u8 115, .int .i64 1]
set_option maxRecDepth 100000 in
theorem unit_at (w : World) (i : Nat) (h : i < 4) : (Instr.index 40 unitsV (.int .i64 (i : Int))).run Tryd.prog w = .ok (.agg #[.int .u8 ((sg i).toNat : Int), .int .i64 (tk i)]) w := by
  match i, h with
  | 0, _ | 1, _ | 2, _ | 3, _ => simp [Instr.index, run_underlying Tryd.underlying40, run_underlying Tryd.underlying39, asIntOf, go_sem, unitsV, Tryd.isAgg39, Tryd.sizeOf39, sg, tk]

theorem itoa_length (q : Int) (h0 : 0 ≤ q) (h1 : q ≤ 1000000) : (Go.Lib.itoa q).length ≤ 7 := by
  rw [itoa_nat q h0]
  exact (dec_facts 7 q.toNat (by omega) (by decide)).2.2.1
theorem itoa_size (q : Int) (h0 : 0 ≤ q) (h1 : q ≤ 1000000) : (⟨(Go.Lib.itoa q).toArray⟩ : ByteArray).size ≤ 7 := by
  rw [Lib.size_eq, itoa_nat q h0]
  exact (dec_facts 7 q.toNat (by omega) (by decide)).2.2.1

set_option maxRecDepth 100000 in
set_option maxHeartbeats 8000000 in
theorem show_ok (n : Int) (h1 : 1 ≤ n) (h2 : n ≤ 1000000) (w : World) (hT : Tb w) :
    Calls Tryd.prog 6 #[.int .i64 n] w fun e w' => e = .returned (.tuple #[.string ⟨(tx 4 n).toArray⟩, .int .i64 0]) ∧ Below w.heap.size w w' := by
  have HT := Lib.hid hT
  clear hT
  have hn0 : (n == 0) = false := by rw [beq_eq_false_iff_ne]; omega
  have C := Lib.hid (fun w => isTime_any n w)
  rw [cl_id n 1000000 (by omega) h2, beq_self_eq_true] at C
  have u := (HT.out.later (below_one (.cells #[.pointer none, .slice none 0 0] 37))).2.2
  obtain ⟨u0, u1, u2, u3, u4, u5, u6, u7⟩ := u
  go_enter Tryd.func6, Tryd.ntmps6
  go_wp2_with (first | (go_at_call 12; (with_reducible refine (C.out _).mono ?_); rintro e w' ⟨rfl, rfl⟩) | fail)
  go_loopw [0, 13] (fun nv iv wr => ∃ i : Nat, i ≤ 4 ∧ iv = .int .i64 (i : Int) ∧ nv = .int .i64 (rm i n) ∧ BldR w w.heap.size w.heap.size (tx i n) wr) (fun _ iv _ => 4 - (intOf iv).toNat)
  case atStart => exact ⟨0, by omega, rfl, rfl, bldR_new w w (Below.refl _ _) _ rfl⟩
  case round =>
    obtain ⟨i, hi, rfl, rfl, hB⟩ := hrel
    have HB := Lib.hid hB
    clear hB
    have hr := rm_bd n (by omega) h2 i
    have hl := tx_length n (by omega) h2 i
    obtain ⟨m, hm⟩ : ∃ m, m = rm i n := ⟨_, rfl⟩
    rw [← hm] at hr ⊢
    have HM := Lib.hid hm
    clear hm
    have hcases : i = 0 ∨ i = 1 ∨ i = 2 ∨ i = 3 ∨ i = 4 := by omega
    rcases hcases with rfl | rfl | rfl | rfl | rfl
    · have x0 : ∀ W, (Instr.index 40 (.agg #[.int .u8 100, .int .i64 86400, .int .u8 104, .int .i64 3600, .int .u8 109, .int .i64 60, .int .u8 115, .int .i64 1]) (.int .i64 0)).run Tryd.prog W = .ok (.agg #[.int .u8 100, .int .i64 86400]) W := fun W => unit_at W 0 (by decide)
      obtain ⟨q, hq⟩ : ∃ q, q = m / 86400 := ⟨_, rfl⟩
      obtain ⟨r, hr2⟩ : ∃ r, r = m % 86400 := ⟨_, rfl⟩
      have hq1 : Int.tdiv m 86400 = q := by rw [Int.tdiv_eq_ediv_of_nonneg hr.1, hq]
      have hr1 : Int.tmod m 86400 = r := by rw [Int.tmod_eq_emod_of_nonneg hr.1, hr2]
      have HR : Hid (r = rm 1 n) := Lib.hid (by rw [hr2, HM.out]; rfl)
      have hqb : 0 ≤ q ∧ q ≤ 1000000 := by omega
      by_cases hge : 86400 ≤ m
      · have HX : Hid (tx 1 n = tx 0 n ++ (⟨(Go.Lib.itoa q).toArray⟩ : ByteArray).data.toList ++ [100]) := Lib.hid (by
          rw [show tx 1 n = tx 0 n ++ pc 0 (rm 0 n) from rfl, ← HM.out]
          unfold pc
          rw [if_pos (show tk 0 ≤ m from hge), show m / tk 0 = q from hq.symm, List.append_assoc]
          rfl)
        have hil := itoa_size q hqb.1 hqb.2
        have hil2 := itoa_length q hqb.1 hqb.2
        have hq3 := hq.symm
        have hr3 := hr2.symm
        clear hq hr2
        go_wp2_with (first
          | (go_at_call 14; (with_reducible refine (itoa_any q (by omega) (by omega) _ (HT.out.later (bldBel (HB.out.alloc _)))).mono ?_); rintro e w2 ⟨rfl, p2⟩; have H2 := Lib.hid (unit_new p2); have P2 := Lib.hid p2; clear p2)
          | (go_at_call 13; (with_reducible refine (writeString_r w _ _ _ _ _ ((HB.out.alloc _).below P2.out) (by omega)).mono ?_); rintro e w3 ⟨rfl, b3, k3⟩; have H3 := Lib.hid (unit_kept H2.out k3 (bldLt HB.out)); have B3 := Lib.hid b3; have c3 := (unit_cells H3.out).1; clear b3 k3)
          | (go_at_call 15; (with_reducible refine (writeByte_r w _ _ _ _ 100 100 (by decide) B3.out (by rw [List.length_append]; omega)).mono ?_); rintro e w4 ⟨rfl, b4, k4⟩; have H4 := Lib.hid (unit_kept H3.out k4 (bldLt HB.out)); have B4 := Lib.hid b4; have c4 := (unit_cells H4.out).2; clear b4 k4)
          | fail)
        go_roundw
        case rel => exact ⟨1, by omega, rfl, by rw [HR.out], by rw [HX.out]; exact B4.out⟩
        case measure => simp [intOf]
      · have HX : Hid (tx 1 n = tx 0 n) := Lib.hid (by
          rw [show tx 1 n = tx 0 n ++ pc 0 (rm 0 n) from rfl, ← HM.out]
          unfold pc
          rw [if_neg (show ¬ tk 0 ≤ m from hge), List.append_nil])
        have hr3 := hr2.symm
        clear hq hr2 hq1
        go_wp2
        go_roundw
        case rel => exact ⟨1, by omega, rfl, by rw [HR.out], by rw [HX.out]; exact HB.out.alloc _⟩
        case measure => simp [intOf]
    · have x0 : ∀ W, (Instr.index 40 (.agg #[.int .u8 100, .int .i64 86400, .int .u8 104, .int .i64 3600, .int .u8 109, .int .i64 60, .int .u8 115, .int .i64 1]) (.int .i64 1)).run Tryd.prog W = .ok (.agg #[.int .u8 104, .int .i64 3600]) W := fun W => unit_at W 1 (by decide)
      obtain ⟨q, hq⟩ : ∃ q, q = m / 3600 := ⟨_, rfl⟩
      obtain ⟨r, hr2⟩ : ∃ r, r = m % 3600 := ⟨_, rfl⟩
      have hq1 : Int.tdiv m 3600 = q := by rw [Int.tdiv_eq_ediv_of_nonneg hr.1, hq]
      have hr1 : Int.tmod m 3600 = r := by rw [Int.tmod_eq_emod_of_nonneg hr.1, hr2]
      have HR : Hid (r = rm 2 n) := Lib.hid (by rw [hr2, HM.out]; rfl)
      have hqb : 0 ≤ q ∧ q ≤ 1000000 := by omega
      by_cases hge : 3600 ≤ m
      · have HX : Hid (tx 2 n = tx 1 n ++ (⟨(Go.Lib.itoa q).toArray⟩ : ByteArray).data.toList ++ [104]) := Lib.hid (by
          rw [show tx 2 n = tx 1 n ++ pc 1 (rm 1 n) from rfl, ← HM.out]
          unfold pc
          rw [if_pos (show tk 1 ≤ m from hge), show m / tk 1 = q from hq.symm, List.append_assoc]
          rfl)
        have hil := itoa_size q hqb.1 hqb.2
        have hil2 := itoa_length q hqb.1 hqb.2
        have hq3 := hq.symm
        have hr3 := hr2.symm
        clear hq hr2
        go_wp2_with (first
          | (go_at_call 14; (with_reducible refine (itoa_any q (by omega) (by omega) _ (HT.out.later (bldBel (HB.out.alloc _)))).mono ?_); rintro e w2 ⟨rfl, p2⟩; have H2 := Lib.hid (unit_new p2); have P2 := Lib.hid p2; clear p2)
          | (go_at_call 13; (with_reducible refine (writeString_r w _ _ _ _ _ ((HB.out.alloc _).below P2.out) (by omega)).mono ?_); rintro e w3 ⟨rfl, b3, k3⟩; have H3 := Lib.hid (unit_kept H2.out k3 (bldLt HB.out)); have B3 := Lib.hid b3; have c3 := (unit_cells H3.out).1; clear b3 k3)
          | (go_at_call 15; (with_reducible refine (writeByte_r w _ _ _ _ 104 104 (by decide) B3.out (by rw [List.length_append]; omega)).mono ?_); rintro e w4 ⟨rfl, b4, k4⟩; have H4 := Lib.hid (unit_kept H3.out k4 (bldLt HB.out)); have B4 := Lib.hid b4; have c4 := (unit_cells H4.out).2; clear b4 k4)
          | fail)
        go_roundw
        case rel => exact ⟨2, by omega, rfl, by rw [HR.out], by rw [HX.out]; exact B4.out⟩
        case measure => simp [intOf]
      · have HX : Hid (tx 2 n = tx 1 n) := Lib.hid (by
          rw [show tx 2 n = tx 1 n ++ pc 1 (rm 1 n) from rfl, ← HM.out]
          unfold pc
          rw [if_neg (show ¬ tk 1 ≤ m from hge), List.append_nil])
        have hr3 := hr2.symm
        clear hq hr2 hq1
        go_wp2
        go_roundw
        case rel => exact ⟨2, by omega, rfl, by rw [HR.out], by rw [HX.out]; exact HB.out.alloc _⟩
        case measure => simp [intOf]
    · have x0 : ∀ W, (Instr.index 40 (.agg #[.int .u8 100, .int .i64 86400, .int .u8 104, .int .i64 3600, .int .u8 109, .int .i64 60, .int .u8 115, .int .i64 1]) (.int .i64 2)).run Tryd.prog W = .ok (.agg #[.int .u8 109, .int .i64 60]) W := fun W => unit_at W 2 (by decide)
      obtain ⟨q, hq⟩ : ∃ q, q = m / 60 := ⟨_, rfl⟩
      obtain ⟨r, hr2⟩ : ∃ r, r = m % 60 := ⟨_, rfl⟩
      have hq1 : Int.tdiv m 60 = q := by rw [Int.tdiv_eq_ediv_of_nonneg hr.1, hq]
      have hr1 : Int.tmod m 60 = r := by rw [Int.tmod_eq_emod_of_nonneg hr.1, hr2]
      have HR : Hid (r = rm 3 n) := Lib.hid (by rw [hr2, HM.out]; rfl)
      have hqb : 0 ≤ q ∧ q ≤ 1000000 := by omega
      by_cases hge : 60 ≤ m
      · have HX : Hid (tx 3 n = tx 2 n ++ (⟨(Go.Lib.itoa q).toArray⟩ : ByteArray).data.toList ++ [109]) := Lib.hid (by
          rw [show tx 3 n = tx 2 n ++ pc 2 (rm 2 n) from rfl, ← HM.out]
          unfold pc
          rw [if_pos (show tk 2 ≤ m from hge), show m / tk 2 = q from hq.symm, List.append_assoc]
          rfl)
        have hil := itoa_size q hqb.1 hqb.2
        have hil2 := itoa_length q hqb.1 hqb.2
        have hq3 := hq.symm
        have hr3 := hr2.symm
        clear hq hr2
        go_wp2_with (first
          | (go_at_call 14; (with_reducible refine (itoa_any q (by omega) (by omega) _ (HT.out.later (bldBel (HB.out.alloc _)))).mono ?_); rintro e w2 ⟨rfl, p2⟩; have H2 := Lib.hid (unit_new p2); have P2 := Lib.hid p2; clear p2)
          | (go_at_call 13; (with_reducible refine (writeString_r w _ _ _ _ _ ((HB.out.alloc _).below P2.out) (by omega)).mono ?_); rintro e w3 ⟨rfl, b3, k3⟩; have H3 := Lib.hid (unit_kept H2.out k3 (bldLt HB.out)); have B3 := Lib.hid b3; have c3 := (unit_cells H3.out).1; clear b3 k3)
          | (go_at_call 15; (with_reducible refine (writeByte_r w _ _ _ _ 109 109 (by decide) B3.out (by rw [List.length_append]; omega)).mono ?_); rintro e w4 ⟨rfl, b4, k4⟩; have H4 := Lib.hid (unit_kept H3.out k4 (bldLt HB.out)); have B4 := Lib.hid b4; have c4 := (unit_cells H4.out).2; clear b4 k4)
          | fail)
        go_roundw
        case rel => exact ⟨3, by omega, rfl, by rw [HR.out], by rw [HX.out]; exact B4.out⟩
        case measure => simp [intOf]
      · have HX : Hid (tx 3 n = tx 2 n) := Lib.hid (by
          rw [show tx 3 n = tx 2 n ++ pc 2 (rm 2 n) from rfl, ← HM.out]
          unfold pc
          rw [if_neg (show ¬ tk 2 ≤ m from hge), List.append_nil])
        have hr3 := hr2.symm
        clear hq hr2 hq1
        go_wp2
        go_roundw
        case rel => exact ⟨3, by omega, rfl, by rw [HR.out], by rw [HX.out]; exact HB.out.alloc _⟩
        case measure => simp [intOf]
    · have x0 : ∀ W, (Instr.index 40 (.agg #[.int .u8 100, .int .i64 86400, .int .u8 104, .int .i64 3600, .int .u8 109, .int .i64 60, .int .u8 115, .int .i64 1]) (.int .i64 3)).run Tryd.prog W = .ok (.agg #[.int .u8 115, .int .i64 1]) W := fun W => unit_at W 3 (by decide)
      obtain ⟨q, hq⟩ : ∃ q, q = m / 1 := ⟨_, rfl⟩
      obtain ⟨r, hr2⟩ : ∃ r, r = m % 1 := ⟨_, rfl⟩
      have hq1 : Int.tdiv m 1 = q := by rw [Int.tdiv_eq_ediv_of_nonneg hr.1, hq]
      have hr1 : Int.tmod m 1 = r := by rw [Int.tmod_eq_emod_of_nonneg hr.1, hr2]
      have HR : Hid (r = rm 4 n) := Lib.hid (by rw [hr2, HM.out]; rfl)
      have hqb : 0 ≤ q ∧ q ≤ 1000000 := by omega
      by_cases hge : 1 ≤ m
      · have HX : Hid (tx 4 n = tx 3 n ++ (⟨(Go.Lib.itoa q).toArray⟩ : ByteArray).data.toList ++ [115]) := Lib.hid (by
          rw [show tx 4 n = tx 3 n ++ pc 3 (rm 3 n) from rfl, ← HM.out]
          unfold pc
          rw [if_pos (show tk 3 ≤ m from hge), show m / tk 3 = q from hq.symm, List.append_assoc]
          rfl)
        have hil := itoa_size q hqb.1 hqb.2
        have hil2 := itoa_length q hqb.1 hqb.2
        have hq3 := hq.symm
        have hr3 := hr2.symm
        clear hq hr2
        go_wp2_with (first
          | (go_at_call 14; (with_reducible refine (itoa_any q (by omega) (by omega) _ (HT.out.later (bldBel (HB.out.alloc _)))).mono ?_); rintro e w2 ⟨rfl, p2⟩; have H2 := Lib.hid (unit_new p2); have P2 := Lib.hid p2; clear p2)
          | (go_at_call 13; (with_reducible refine (writeString_r w _ _ _ _ _ ((HB.out.alloc _).below P2.out) (by omega)).mono ?_); rintro e w3 ⟨rfl, b3, k3⟩; have H3 := Lib.hid (unit_kept H2.out k3 (bldLt HB.out)); have B3 := Lib.hid b3; have c3 := (unit_cells H3.out).1; clear b3 k3)
          | (go_at_call 15; (with_reducible refine (writeByte_r w _ _ _ _ 115 115 (by decide) B3.out (by rw [List.length_append]; omega)).mono ?_); rintro e w4 ⟨rfl, b4, k4⟩; have H4 := Lib.hid (unit_kept H3.out k4 (bldLt HB.out)); have B4 := Lib.hid b4; have c4 := (unit_cells H4.out).2; clear b4 k4)
          | fail)
        go_roundw
        case rel => exact ⟨4, by omega, rfl, by rw [HR.out], by rw [HX.out]; exact B4.out⟩
        case measure => simp [intOf]
      · have HX : Hid (tx 4 n = tx 3 n) := Lib.hid (by
          rw [show tx 4 n = tx 3 n ++ pc 3 (rm 3 n) from rfl, ← HM.out]
          unfold pc
          rw [if_neg (show ¬ tk 3 ≤ m from hge), List.append_nil])
        have hr3 := hr2.symm
        clear hq hr2 hq1
        go_wp2
        go_roundw
        case rel => exact ⟨4, by omega, rfl, by rw [HR.out], by rw [HX.out]; exact HB.out.alloc _⟩
        case measure => simp [intOf]
    · go_wp2_with (first
        | (go_at_call 16; (with_reducible refine (string_r w _ _ _ _ HB.out).mono ?_); rintro e w2 ⟨rfl, p2⟩)
        | fail)
      go_ret2
      exact ⟨rfl, p2⟩

theorem showL_ne {n : Int} (h : n ≠ 0) : showL n = tx 4 n := by unfold showL; rw [if_neg h]
theorem cl_time (n : Int) : cl n 1000000 = n ↔ 0 ≤ n ∧ n ≤ 1000000 :=
  ⟨fun h => by have := cl_bd n 1000000 (by omega); omega, fun h => cl_id n 1000000 h.1 h.2⟩

set_option maxRecDepth 100000 in
set_option maxHeartbeats 8000000 in
theorem show_any (n : Int) (w : World) (hT : Tb w) :
    Calls Tryd.prog 6 #[.int .i64 n] w fun e w' => e = .returned (.tuple #[.string (shB n), .int .i64 (shE n)]) ∧ Below w.heap.size w w' := by
  have C := Lib.hid (fun w => isTime_any n w)
  by_cases ht : cl n 1000000 = n
  · have hb := (cl_time n).1 ht
    by_cases h0 : n = 0
    · subst h0
      rw [ht, beq_self_eq_true] at C
      have HS : Hid (shB 0 = ⟨#[48, 115]⟩ ∧ shE 0 = 0) := Lib.hid (by unfold shB shE; rw [if_pos ht, if_pos ht]; exact ⟨rfl, rfl⟩)
      clear ht hb
      go_enter Tryd.func6, Tryd.ntmps6
      go_wp2_with (first | (go_at_call 12; (with_reducible refine (C.out _).mono ?_); rintro e w' ⟨rfl, rfl⟩) | fail)
      go_ret2
      exact ⟨by rw [HS.out.1, HS.out.2]; rfl, Below.refl _ _⟩
    · refine (show_ok n (by omega) hb.2 w hT).mono ?_
      rintro e w' ⟨rfl, hb⟩
      exact ⟨by unfold shB shE; rw [if_pos ht, if_pos ht, showL_ne h0], hb⟩
  · rw [beq_eq_false_iff_ne.2 ht] at C
    have HS : Hid (shB n = ⟨#[]⟩ ∧ shE n = 153) := Lib.hid (by unfold shB shE; rw [if_neg ht, if_neg ht]; exact ⟨rfl, rfl⟩)
    clear ht
    go_enter Tryd.func6, Tryd.ntmps6
    go_wp2_with (first | (go_at_call 12; (with_reducible refine (C.out _).mono ?_); rintro e w' ⟨rfl, rfl⟩) | fail)
    go_ret2
    exact ⟨by rw [HS.out.1, HS.out.2]; rfl, Below.refl _ _⟩

def nmB (l : List UInt8) : ByteArray := if (parse l).2 = 0 then ⟨(showL (parse l).1).toArray⟩ else ⟨#[]⟩

set_option maxRecDepth 100000 in
set_option maxHeartbeats 8000000 in
theorem normal_any (s : ByteArray) (hs : s.size ≤ maxLen) (w : World) (hT : Tb w) :
    Calls Tryd.prog 11 #[.string s] w fun e w' => e = .returned (.tuple #[.string (nmB s.data.toList), .int .i64 (parse s.data.toList).2]) ∧ Below w.heap.size w w' := by
  have HT := Lib.hid hT
  have C := Lib.hid (parse_any s hs w hT)
  clear hT
  have hok := parse_ok s.data.toList
  have hN : nmB s.data.toList = if (parse s.data.toList).2 = 0 then ⟨(showL (parse s.data.toList).1).toArray⟩ else ⟨#[]⟩ := rfl
  obtain ⟨N, hN2⟩ : ∃ N, N = nmB s.data.toList := ⟨_, rfl⟩
  rw [← hN2] at hN ⊢
  obtain ⟨⟨m, e0⟩, hP⟩ : ∃ P, P = parse s.data.toList := ⟨_, rfl⟩
  rw [← hP] at C hok hN ⊢
  dsimp only at C hok hN ⊢
  clear hN2 hP
  have HN := Lib.hid hN
  clear hN
  by_cases h : e0 = 0
  · subst h
    have hb : 0 ≤ m ∧ m ≤ 1000000 := by omega
    have hc := (cl_time m).2 hb
    have S := fun w hT => show_any m w hT
    unfold shB shE at S
    simp only [if_pos hc] at S
    rw [if_pos rfl] at HN
    rw [← HN.out] at S
    have SS := Lib.hid S
    clear S hok hc
    go_enter Tryd.func11, Tryd.ntmps11
    go_wp2_with (first
      | (go_at_call 10; (with_reducible refine (C.out).mono ?_); rintro e w1 ⟨rfl, p1⟩)
      | (go_at_call 6; (with_reducible refine (SS.out _ (HT.out.later p1)).mono ?_); rintro e w2 ⟨rfl, p2⟩)
      | fail)
    go_ret2
    exact ⟨rfl, p2.from p1⟩
  · have h0 : (e0 == 0) = false := beq_eq_false_iff_ne.2 h
    rw [if_neg h] at HN
    clear hok
    go_enter Tryd.func11, Tryd.ntmps11
    go_wp2_with (first
      | (go_at_call 10; (with_reducible refine (C.out).mono ?_); rintro e w1 ⟨rfl, p1⟩)
      | fail)
    go_ret2
    exact ⟨by rw [HN.out]; rfl, p1⟩

end Go.Proofs.YtgpgpgechilbkaaDoor.Hours
