/-
  Joined out of: The walk of package hours: a time, read. The walk of package hours: a time, written; Normal. Layer 8, plain: commands, their fields, what may be, how they are written and read; nothing of the program. Layer 8, plain: what a command's tokens are, and that they are read as that command. Layer 8, plain: a command that may be is read as it was written; what is read may be. Layer 8, plain: the fixed examples of the statements.
-/
import Derived.Test.YtdkngidangfkiaaGreatDoorJb07
import Derived.Deep.LoopGhost
import Derived.Deep.RegionWith
import Derived.Test.YtdkngidangfkiaaGreatDoorJb06
namespace Go.Proofs.YtdkngidangfkiaaGreatDoor.Hours
open Go.RowKit
open Base Sat HoursLib
set_option linter.unusedVariables false
set_option linter.unusedSimpArgs false
theorem toList_data (s : ByteArray) : s.toList = s.data.toList := Lib.toList_data s
theorem empty_iff (s : ByteArray) : s.toList.isEmpty = decide (s.size = 0) := by
  rw [toList_data, Lib.size_eq]
  cases h : s.data.toList <;> simp
set_option maxHeartbeats 4000000 in
theorem plus_two (a b : Int) (w : World) (x : Option Addr) (hr : Reads iV w x [a, b]) :
    Calls Tryz.prog 197 #[.slice x 2 2] w fun e w' => e = .returned (.int .i64 (add 1000000000000 [a, b])) ∧ w = w' :=
  plus_any x 2 2 [a, b] w rfl (by decide) hr
set_option maxRecDepth 100000 in
set_option maxHeartbeats 8000000 in
theorem parse_any (s : ByteArray) (hs : s.size ≤ maxLen) (w : World) (hT : Tb w) :
    Calls Tryz.prog 189 #[.string s] w fun e w' => e = .returned (.tuple #[.int .i64 (parse s.data.toList).1, .int .i64 (parse s.data.toList).2]) ∧ Below w.heap.size w w' := by
  have HT := Lib.hid hT
  clear hT
  have hsz := Lib.size_eq s
  obtain ⟨P, hP⟩ : ∃ P, P = parse s.data.toList := ⟨_, rfl⟩
  rw [← hP]
  by_cases h0 : s.size = 0
  · have hemp : s.toList.isEmpty = true := by rw [empty_iff, decide_eq_true_eq]; exact h0
    have HP : Hid (P = (0, 60)) := Lib.hid (by rw [hP]; unfold parse; rw [if_pos (List.eq_nil_of_length_eq_zero (by omega))])
    clear hP hsz h0
    go_enter Tryz.func189, Tryz.ntmps189
    go_wp2
    go_step3
    go_wp2
    try rw [Exit.noGoto_ret]
    go_ret2
    exact ⟨by rw [HP.out]; rfl, Below.refl _ _⟩
  · have hemp : s.toList.isEmpty = false := by rw [empty_iff, decide_eq_false_iff_not]; exact h0
    have HP : Hid (run (s.size + 1) s.data.toList 0 0 = P) := Lib.hid (by rw [hP]; unfold parse; rw [if_neg (fun h => h0 (by rw [hsz, h]; rfl)), hsz])
    clear hP hsz
    go_enter Tryz.func189, Tryz.ntmps189
    go_wp2
    go_step3
    go_wp2
    go_step3
    go_wp2
    go_loopg [0, 4, 5] (s.size + 1) (fun g sv tv kv wr => ∃ (x : ByteArray) (k : Nat) (t : Int), sv = .string x ∧ tv = .int .i64 t ∧ kv = .int .i64 (k : Int) ∧ x.size < g ∧ x.size ≤ s.size ∧ k ≤ 4 ∧ 0 ≤ t ∧ t ≤ 1000000000000 ∧ run g x.data.toList t k = P ∧ Below w.heap.size w wr)
    case atStart => exact ⟨s, 0, 0, rfl, rfl, rfl, by omega, Nat.le_refl _, by omega, by omega, by omega, HP.out, Below.refl _ _⟩
    case round =>
      obtain ⟨x, k, t, rfl, rfl, rfl, hxg, hxs, hk4, ht0, ht1, hrun, hb⟩ := hrel
      cases gk with
      | zero => omega
      | succ g =>
        have hxz := Lib.size_eq x
        have HB := Lib.hid hb
        clear hb hemp
        rw [run] at hrun
        by_cases hx0 : x.size = 0
        · have hemp : x.toList.isEmpty = true := by rw [empty_iff, decide_eq_true_eq]; exact hx0
          rw [if_pos (List.eq_nil_of_length_eq_zero (by omega))] at hrun
          have HR := Lib.hid hrun
          clear hrun hxz
          have C := Lib.hid (fun w => isTime_any t w)
          by_cases hc : cl t 1000000 = t
          · rw [if_pos hc] at HR
            rw [beq_iff_eq.2 hc] at C
            clear hc
            go_wp2_with (first | (go_at_call 199; (with_reducible refine (C.out _).mono ?_); rintro e w' ⟨rfl, rfl⟩) | fail)
            rw [Exit.noGoto_ret]
            go_ret2
            exact ⟨by rw [← HR.out]; rfl, HB.out⟩
          · rw [if_neg hc] at HR
            rw [beq_eq_false_iff_ne.2 hc] at C
            clear hc
            go_wp2_with (first | (go_at_call 199; (with_reducible refine (C.out _).mono ?_); rintro e w' ⟨rfl, rfl⟩) | fail)
            rw [Exit.noGoto_ret]
            go_ret2
            exact ⟨by rw [← HR.out]; rfl, HB.out⟩
        · have hemp : x.toList.isEmpty = false := by rw [empty_iff, decide_eq_false_iff_not]; exact hx0
          rw [if_neg (fun h => hx0 (by rw [hxz, h]; rfl))] at hrun
          have C : ∀ w, Tb w → Calls Tryz.prog 196 #[.string x] w fun e w' => e = .returned (cutA x.data.toList) ∧ Below w.heap.size w w' := fun w hT => cut_any x (by omega) w hT
          unfold cutA at C
          by_cases hok : cutOk x.data.toList = true
          · simp only [if_pos hok] at C
            obtain ⟨R, hR⟩ : ∃ R : ByteArray, R = ⟨(rst x.data.toList).toArray⟩ := ⟨_, rfl⟩
            have hRl : R.data.toList = rst x.data.toList := by rw [hR]
            have hRz := Lib.size_eq R
            have hle := rst_le x.data.toList
            have hN := cutN_bd hok
            rw [← hR] at C
            rw [← hRl] at hrun hle
            obtain ⟨N, hN2⟩ : ∃ N, N = cutN x.data.toList := ⟨_, rfl⟩
            rw [← hN2] at hN C hrun
            have CC := Lib.hid C
            clear hR C hRl hN2
            by_cases hR0 : R.size = 0
            · have hempR : R.toList.isEmpty = true := by rw [empty_iff, decide_eq_true_eq]; exact hR0
              rw [if_neg (fun h => h.2 (List.eq_nil_of_length_eq_zero (by omega)))] at hrun
              have HR := Lib.hid hrun
              clear hrun hxz hR0 hRz hle
              go_wp2_with (first | (go_at_call 196; (with_reducible refine (CC.out _ (HT.out.later (Base.bel_))).mono ?_); rintro e w1 ⟨rfl, p1⟩) | fail)
              rw [Exit.noGoto_ret]
              go_ret2
              exact ⟨by rw [← HR.out]; rfl, p1.from HB.out⟩
            · have hempR : R.toList.isEmpty = false := by rw [empty_iff, decide_eq_false_iff_not]; exact hR0
              rw [if_pos ⟨hok, fun h => hR0 (by rw [hRz, h]; rfl)⟩] at hrun
              have hRp : 0 < R.size := by omega
              have hRx : R.size ≤ x.size := by omega
              have HG : Hid (∀ h : 0 < R.size, (R[0]'h) = R.data.toList.getD 0 0) := Lib.hid (by
                intro h
                rw [ByteArray.getElem_eq_getElem_data, List.getD_eq_getElem?_getD, Array.getElem?_toList, Array.getElem?_eq_getElem (by simpa using h)]
                rfl)
              obtain ⟨c, hc⟩ : ∃ c, c = R.data.toList.getD 0 0 := ⟨_, rfl⟩
              rw [← hc] at hrun HG
              have HR := Lib.hid hrun
              clear hrun hxz hR0 hRz hle hc hok
              go_wp2_with (first | (go_at_call 196; (with_reducible refine (CC.out _ (HT.out.later (Base.bel_))).mono ?_); rintro e w1 ⟨rfl, p1⟩) | fail)
              have HB1 := Lib.hid (p1.from HB.out)
              clear p1
              go_loopg [0, 4, 5, 9] (4 - k) (fun g2 sv tv kv iv wy => ∃ j : Nat, j + g2 = 4 ∧ sv = .string x ∧ tv = .int .i64 t ∧ kv = .int .i64 (k : Int) ∧ iv = .int .i64 (j : Int) ∧ k ≤ j ∧ (ix c < k ∨ j ≤ ix c) ∧ Below w.heap.size w wy)
              case atStart => exact ⟨k, by omega, rfl, rfl, rfl, rfl, Nat.le_refl _, by omega, HB1.out⟩
              case round =>
                obtain ⟨j, hj4, rfl, rfl, rfl, rfl, hkj, hix, hb2⟩ := hrel
                have HB2 := Lib.hid hb2
                clear hb2
                cases gk with
                | zero =>
                  obtain rfl : j = 4 := by omega
                  have HR2 : Hid ((0, 60) = P) := Lib.hid (by rw [← HR.out, if_neg (by omega)])
                  clear HR
                  go_wp2
                  go_ret2
                  exact ⟨by rw [← HR2.out]; rfl, HB2.out⟩
                | succ g2 =>
                  have HU := Lib.hid (HT.out.later HB2.out).2.2
                  have hcases : j = 0 ∨ j = 1 ∨ j = 2 ∨ j = 3 := by omega
                  rcases hcases with rfl | rfl | rfl | rfl
                  · have u0 := HU.out.c0
                    have u1 := HU.out.c1
                    have HX := Lib.hid (ix_sg c 0 (by decide))
                    go_wp2
                    go_quiet (fail)
                    go_wp2_with (first
                      | (go_at_call 198; (with_reducible refine (times_any _ _ _).mono ?_); rintro e w' ⟨rfl, rfl⟩)
                      | (go_at_call 197; (with_reducible refine (plus_two t (mulc 1000000000000 N 86400) _ _ ?_).mono ?_); (focus (exact reads_two rfl _ _ _)); rintro e w' ⟨rfl, rfl⟩)
                      | fail)
                    · rename_i hx
                      rw [HG.out, beq_iff_eq] at hx
                      have hi : ix c = 0 := HX.out.2 (UInt8.toNat_inj.1 (by show c.toNat = 100; omega))
                      have HR2 := Lib.hid HR.out
                      rw [hi, if_pos ⟨hkj, by decide⟩] at HR2
                      have ha := add_bd 1000000000000 (by decide) [t, mulc 1000000000000 N 86400]
                      go_roundg g
                      case measure => omega
                      case rel => exact ⟨R.extract 1 R.size, 1, _, rfl, rfl, rfl, by rw [ByteArray.size_extract]; omega, by rw [ByteArray.size_extract]; omega, by decide, ha.1, ha.2, by rw [Lib.extract_data, List.take_of_length_le (by rw [List.length_drop, ← Lib.size_eq]; omega)]; exact HR2.out, Base.bel_⟩
                    · rename_i hx
                      rw [HG.out, beq_eq_false_iff_ne] at hx
                      have hi : ix c ≠ 0 := fun h => hx (by rw [HX.out.1 h]; rfl)
                      go_roundg g2
                      case measure => omega
                      case rel => exact ⟨1, by omega, rfl, rfl, rfl, rfl, by omega, by omega, Base.bel_⟩
                  · have u0 := HU.out.c2
                    have u1 := HU.out.c3
                    have HX := Lib.hid (ix_sg c 1 (by decide))
                    go_wp2
                    go_quiet (fail)
                    go_wp2_with (first
                      | (go_at_call 198; (with_reducible refine (times_any _ _ _).mono ?_); rintro e w' ⟨rfl, rfl⟩)
                      | (go_at_call 197; (with_reducible refine (plus_two t (mulc 1000000000000 N 3600) _ _ ?_).mono ?_); (focus (exact reads_two rfl _ _ _)); rintro e w' ⟨rfl, rfl⟩)
                      | fail)
                    · rename_i hx
                      rw [HG.out, beq_iff_eq] at hx
                      have hi : ix c = 1 := HX.out.2 (UInt8.toNat_inj.1 (by show c.toNat = 104; omega))
                      have HR2 := Lib.hid HR.out
                      rw [hi, if_pos ⟨hkj, by decide⟩] at HR2
                      have ha := add_bd 1000000000000 (by decide) [t, mulc 1000000000000 N 3600]
                      go_roundg g
                      case measure => omega
                      case rel => exact ⟨R.extract 1 R.size, 2, _, rfl, rfl, rfl, by rw [ByteArray.size_extract]; omega, by rw [ByteArray.size_extract]; omega, by decide, ha.1, ha.2, by rw [Lib.extract_data, List.take_of_length_le (by rw [List.length_drop, ← Lib.size_eq]; omega)]; exact HR2.out, Base.bel_⟩
                    · rename_i hx
                      rw [HG.out, beq_eq_false_iff_ne] at hx
                      have hi : ix c ≠ 1 := fun h => hx (by rw [HX.out.1 h]; rfl)
                      go_roundg g2
                      case measure => omega
                      case rel => exact ⟨2, by omega, rfl, rfl, rfl, rfl, by omega, by omega, Base.bel_⟩
                  · have u0 := HU.out.c4
                    have u1 := HU.out.c5
                    have HX := Lib.hid (ix_sg c 2 (by decide))
                    go_wp2
                    go_quiet (fail)
                    go_wp2_with (first
                      | (go_at_call 198; (with_reducible refine (times_any _ _ _).mono ?_); rintro e w' ⟨rfl, rfl⟩)
                      | (go_at_call 197; (with_reducible refine (plus_two t (mulc 1000000000000 N 60) _ _ ?_).mono ?_); (focus (exact reads_two rfl _ _ _)); rintro e w' ⟨rfl, rfl⟩)
                      | fail)
                    · rename_i hx
                      rw [HG.out, beq_iff_eq] at hx
                      have hi : ix c = 2 := HX.out.2 (UInt8.toNat_inj.1 (by show c.toNat = 109; omega))
                      have HR2 := Lib.hid HR.out
                      rw [hi, if_pos ⟨hkj, by decide⟩] at HR2
                      have ha := add_bd 1000000000000 (by decide) [t, mulc 1000000000000 N 60]
                      go_roundg g
                      case measure => omega
                      case rel => exact ⟨R.extract 1 R.size, 3, _, rfl, rfl, rfl, by rw [ByteArray.size_extract]; omega, by rw [ByteArray.size_extract]; omega, by decide, ha.1, ha.2, by rw [Lib.extract_data, List.take_of_length_le (by rw [List.length_drop, ← Lib.size_eq]; omega)]; exact HR2.out, Base.bel_⟩
                    · rename_i hx
                      rw [HG.out, beq_eq_false_iff_ne] at hx
                      have hi : ix c ≠ 2 := fun h => hx (by rw [HX.out.1 h]; rfl)
                      go_roundg g2
                      case measure => omega
                      case rel => exact ⟨3, by omega, rfl, rfl, rfl, rfl, by omega, by omega, Base.bel_⟩
                  · have u0 := HU.out.c6
                    have u1 := HU.out.c7
                    have HX := Lib.hid (ix_sg c 3 (by decide))
                    go_wp2
                    go_quiet (fail)
                    go_wp2_with (first
                      | (go_at_call 198; (with_reducible refine (times_any _ _ _).mono ?_); rintro e w' ⟨rfl, rfl⟩)
                      | (go_at_call 197; (with_reducible refine (plus_two t (mulc 1000000000000 N 1) _ _ ?_).mono ?_); (focus (exact reads_two rfl _ _ _)); rintro e w' ⟨rfl, rfl⟩)
                      | fail)
                    · rename_i hx
                      rw [HG.out, beq_iff_eq] at hx
                      have hi : ix c = 3 := HX.out.2 (UInt8.toNat_inj.1 (by show c.toNat = 115; omega))
                      have HR2 := Lib.hid HR.out
                      rw [hi, if_pos ⟨hkj, by decide⟩] at HR2
                      have ha := add_bd 1000000000000 (by decide) [t, mulc 1000000000000 N 1]
                      go_roundg g
                      case measure => omega
                      case rel => exact ⟨R.extract 1 R.size, 4, _, rfl, rfl, rfl, by rw [ByteArray.size_extract]; omega, by rw [ByteArray.size_extract]; omega, by decide, ha.1, ha.2, by rw [Lib.extract_data, List.take_of_length_le (by rw [List.length_drop, ← Lib.size_eq]; omega)]; exact HR2.out, Base.bel_⟩
                    · rename_i hx
                      rw [HG.out, beq_eq_false_iff_ne] at hx
                      have hi : ix c ≠ 3 := fun h => hx (by rw [HX.out.1 h]; rfl)
                      go_roundg g2
                      case measure => omega
                      case rel => exact ⟨4, by omega, rfl, rfl, rfl, rfl, by omega, by omega, Base.bel_⟩
          · simp only [if_neg hok] at C
            rw [if_neg (fun h => hok h.1)] at hrun
            have HR := Lib.hid hrun
            have CC := Lib.hid C
            clear hrun hxz C hok
            go_wp2_with (first | (go_at_call 196; (with_reducible refine (CC.out _ (HT.out.later (Base.bel_))).mono ?_); rintro e w1 ⟨rfl, p1⟩) | fail)
            rw [Exit.noGoto_ret]
            go_ret2
            exact ⟨by rw [← HR.out]; rfl, p1.from HB.out⟩
end Go.Proofs.YtdkngidangfkiaaGreatDoor.Hours
namespace Go.Proofs.YtdkngidangfkiaaGreatDoor.Hours
open Go.RowKit
open Base Sat HoursLib
set_option linter.unusedVariables false
set_option linter.unusedSimpArgs false
def shE (n : Int) : Int := if cl n 1000000 = n then 0 else 153
def shB (n : Int) : ByteArray := if cl n 1000000 = n then ⟨(showL n).toArray⟩ else ⟨#[]⟩
theorem unit_new {wr w2 : World} {c z : Int} (p : Below (wr.alloc (.cells #[.int .u8 c, .int .i64 z] 213)).heap.size (wr.alloc (.cells #[.int .u8 c, .int .i64 z] 213)) w2) :
    w2.heap[wr.heap.size]? = some (.cells #[.int .u8 c, .int .i64 z] 213 (0, 0)) := by
  rw [p.block _ (by simp)]; exact heap_alloc_new wr _
theorem unit_kept {w1 w2 : World} {b k : Nat} {c z : Int} (h : w1.heap[k]? = some (.cells #[.int .u8 c, .int .i64 z] 213 (0, 0))) (hk : Kept b w1 w2) (hb : b < k) :
    w2.heap[k]? = some (.cells #[.int .u8 c, .int .i64 z] 213 (0, 0)) :=
  hk k _ h (by intro e; injection e with e; omega) (by intro cs fz e; injection e with _ e; exact absurd e (by decide))
theorem unit_cells {w : World} {k : Nat} {c z : Int} (h : w.heap[k]? = some (.cells #[.int .u8 c, .int .i64 z] 213 (0, 0))) :
    w.cell? ⟨k, 0, none⟩ = some (.int .u8 c) ∧ w.cell? ⟨k, 1, none⟩ = some (.int .i64 z) := by
  simp [World.cell?, h]
theorem bldBel {w w1 : World} {B b : Nat} {l : List UInt8} (h : BldR w B b l w1) : Below B w w1 := h.2.1
theorem bldLt {w w1 : World} {B b : Nat} {l : List UInt8} (h : BldR w B b l w1) : b < w1.heap.size := by
  rcases h.1 with h | h
  · obtain ⟨_, v, hb, _⟩ := h; exact (Array.getElem?_eq_some_iff.1 hb).1
  · obtain ⟨_, v, hb, _⟩ := h; exact (Array.getElem?_eq_some_iff.1 hb).1
def unitsV : Value := .agg #[.int .u8 100, .int .i64 86400, .int .u8 104, .int .i64 3600, .int .u8 109, .int .i64 60, .int .u8 115, .int .i64 1]
set_option maxRecDepth 100000 in
theorem unit_at (w : World) (i : Nat) (h : i < 4) : (Instr.index 214 unitsV (.int .i64 (i : Int))).run Tryz.prog w = .ok (.agg #[.int .u8 ((sg i).toNat : Int), .int .i64 (tk i)]) w := by
  match i, h with
  | 0, _ | 1, _ | 2, _ | 3, _ => simp [Instr.index, run_underlying Tryz.underlying214, run_underlying Tryz.underlying213, asIntOf, go_sem, unitsV, Tryz.isAgg213, Tryz.sizeOf213, sg, tk]
theorem itoa_length (q : Int) (h0 : 0 ≤ q) (h1 : q ≤ 1000000) : (Go.Lib.itoa q).length ≤ 7 := by
  rw [itoa_nat q h0]
  exact (dec_facts 7 q.toNat (by omega) (by decide)).2.2.1
theorem itoa_size (q : Int) (h0 : 0 ≤ q) (h1 : q ≤ 1000000) : (⟨(Go.Lib.itoa q).toArray⟩ : ByteArray).size ≤ 7 := by
  rw [Lib.size_eq, itoa_nat q h0]
  exact (dec_facts 7 q.toNat (by omega) (by decide)).2.2.1
set_option maxRecDepth 100000 in
set_option maxHeartbeats 8000000 in
theorem show_ok (n : Int) (h1 : 1 ≤ n) (h2 : n ≤ 1000000) (w : World) (hT : Tb w) :
    Calls Tryz.prog 242 #[.int .i64 n] w fun e w' => e = .returned (.tuple #[.string ⟨(tx 4 n).toArray⟩, .int .i64 0]) ∧ Below w.heap.size w w' := by
  have HT := Lib.hid hT
  clear hT
  have hn0 : (n == 0) = false := by rw [beq_eq_false_iff_ne]; omega
  have C := Lib.hid (fun w => isTime_any n w)
  rw [cl_id n 1000000 (by omega) h2, beq_self_eq_true] at C
  have u := (HT.out.later (below_one (.cells #[.pointer none, .slice none 0 0] 46))).2.2
  obtain ⟨u0, u1, u2, u3, u4, u5, u6, u7⟩ := u
  go_enter Tryz.func242, Tryz.ntmps242
  go_wp2_with (first | (go_at_call 199; (with_reducible refine (C.out _).mono ?_); rintro e w' ⟨rfl, rfl⟩) | fail)
  go_loopw [0, 13] (fun nv iv wr => ∃ i : Nat, i ≤ 4 ∧ iv = .int .i64 (i : Int) ∧ nv = .int .i64 (rm i n) ∧ BldR w w.heap.size w.heap.size (tx i n) wr) (fun _ iv _ => 4 - (intOf iv).toNat)
  case atStart => exact ⟨0, by omega, rfl, rfl, bldR_new w w (Below.refl _ _) _ rfl⟩
  case round =>
    obtain ⟨i, hi, rfl, rfl, hB⟩ := hrel
    have HB := Lib.hid hB
    clear hB
    have hr := rm_bd n (by omega) h2 i
    have hl := tx_length n (by omega) h2 i
    obtain ⟨m, hm⟩ : ∃ m, m = rm i n := ⟨_, rfl⟩
    rw [← hm] at hr ⊢
    have HM := Lib.hid hm
    clear hm
    have hcases : i = 0 ∨ i = 1 ∨ i = 2 ∨ i = 3 ∨ i = 4 := by omega
    rcases hcases with rfl | rfl | rfl | rfl | rfl
    · have x0 : ∀ W, (Instr.index 214 (.agg #[.int .u8 100, .int .i64 86400, .int .u8 104, .int .i64 3600, .int .u8 109, .int .i64 60, .int .u8 115, .int .i64 1]) (.int .i64 0)).run Tryz.prog W = .ok (.agg #[.int .u8 100, .int .i64 86400]) W := fun W => unit_at W 0 (by decide)
      obtain ⟨q, hq⟩ : ∃ q, q = m / 86400 := ⟨_, rfl⟩
      obtain ⟨r, hr2⟩ : ∃ r, r = m % 86400 := ⟨_, rfl⟩
      have hq1 : Int.tdiv m 86400 = q := by rw [Int.tdiv_eq_ediv_of_nonneg hr.1, hq]
      have hr1 : Int.tmod m 86400 = r := by rw [Int.tmod_eq_emod_of_nonneg hr.1, hr2]
      have HR : Hid (r = rm 1 n) := Lib.hid (by rw [hr2, HM.out]; rfl)
      have hqb : 0 ≤ q ∧ q ≤ 1000000 := by omega
      by_cases hge : 86400 ≤ m
      · have HX : Hid (tx 1 n = tx 0 n ++ (⟨(Go.Lib.itoa q).toArray⟩ : ByteArray).data.toList ++ [100]) := Lib.hid (by
          rw [show tx 1 n = tx 0 n ++ pc 0 (rm 0 n) from rfl, ← HM.out]
          unfold pc
          rw [if_pos (show tk 0 ≤ m from hge), show m / tk 0 = q from hq.symm, List.append_assoc]
          rfl)
        have hil := itoa_size q hqb.1 hqb.2
        have hil2 := itoa_length q hqb.1 hqb.2
        have hq3 := hq.symm
        have hr3 := hr2.symm
        clear hq hr2
        go_wp2_with (first
          | (go_at_call 44; (with_reducible refine (itoa_any q (by omega) (by omega) _ (HT.out.later (bldBel (HB.out.alloc _)))).mono ?_); rintro e w2 ⟨rfl, p2⟩; have H2 := Lib.hid (unit_new p2); have P2 := Lib.hid p2; clear p2)
          | (go_at_call 18; (with_reducible refine (writeString_r w _ _ _ _ _ ((HB.out.alloc _).below P2.out) (by omega)).mono ?_); rintro e w3 ⟨rfl, b3, k3⟩; have H3 := Lib.hid (unit_kept H2.out k3 (bldLt HB.out)); have B3 := Lib.hid b3; have c3 := (unit_cells H3.out).1; clear b3 k3)
          | (go_at_call 172; (with_reducible refine (writeByte_r w _ _ _ _ 100 100 (by decide) B3.out (by rw [List.length_append]; omega)).mono ?_); rintro e w4 ⟨rfl, b4, k4⟩; have H4 := Lib.hid (unit_kept H3.out k4 (bldLt HB.out)); have B4 := Lib.hid b4; have c4 := (unit_cells H4.out).2; clear b4 k4)
          | fail)
        go_roundw
        case rel => exact ⟨1, by omega, rfl, by rw [HR.out], by rw [HX.out]; exact B4.out⟩
        case measure => simp [intOf]
      · have HX : Hid (tx 1 n = tx 0 n) := Lib.hid (by
          rw [show tx 1 n = tx 0 n ++ pc 0 (rm 0 n) from rfl, ← HM.out]
          unfold pc
          rw [if_neg (show ¬ tk 0 ≤ m from hge), List.append_nil])
        have hr3 := hr2.symm
        clear hq hr2 hq1
        go_wp2
        go_roundw
        case rel => exact ⟨1, by omega, rfl, by rw [HR.out], by rw [HX.out]; exact HB.out.alloc _⟩
        case measure => simp [intOf]
    · have x0 : ∀ W, (Instr.index 214 (.agg #[.int .u8 100, .int .i64 86400, .int .u8 104, .int .i64 3600, .int .u8 109, .int .i64 60, .int .u8 115, .int .i64 1]) (.int .i64 1)).run Tryz.prog W = .ok (.agg #[.int .u8 104, .int .i64 3600]) W := fun W => unit_at W 1 (by decide)
      obtain ⟨q, hq⟩ : ∃ q, q = m / 3600 := ⟨_, rfl⟩
      obtain ⟨r, hr2⟩ : ∃ r, r = m % 3600 := ⟨_, rfl⟩
      have hq1 : Int.tdiv m 3600 = q := by rw [Int.tdiv_eq_ediv_of_nonneg hr.1, hq]
      have hr1 : Int.tmod m 3600 = r := by rw [Int.tmod_eq_emod_of_nonneg hr.1, hr2]
      have HR : Hid (r = rm 2 n) := Lib.hid (by rw [hr2, HM.out]; rfl)
      have hqb : 0 ≤ q ∧ q ≤ 1000000 := by omega
      by_cases hge : 3600 ≤ m
      · have HX : Hid (tx 2 n = tx 1 n ++ (⟨(Go.Lib.itoa q).toArray⟩ : ByteArray).data.toList ++ [104]) := Lib.hid (by
          rw [show tx 2 n = tx 1 n ++ pc 1 (rm 1 n) from rfl, ← HM.out]
          unfold pc
          rw [if_pos (show tk 1 ≤ m from hge), show m / tk 1 = q from hq.symm, List.append_assoc]
          rfl)
        have hil := itoa_size q hqb.1 hqb.2
        have hil2 := itoa_length q hqb.1 hqb.2
        have hq3 := hq.symm
        have hr3 := hr2.symm
        clear hq hr2
        go_wp2_with (first
          | (go_at_call 44; (with_reducible refine (itoa_any q (by omega) (by omega) _ (HT.out.later (bldBel (HB.out.alloc _)))).mono ?_); rintro e w2 ⟨rfl, p2⟩; have H2 := Lib.hid (unit_new p2); have P2 := Lib.hid p2; clear p2)
          | (go_at_call 18; (with_reducible refine (writeString_r w _ _ _ _ _ ((HB.out.alloc _).below P2.out) (by omega)).mono ?_); rintro e w3 ⟨rfl, b3, k3⟩; have H3 := Lib.hid (unit_kept H2.out k3 (bldLt HB.out)); have B3 := Lib.hid b3; have c3 := (unit_cells H3.out).1; clear b3 k3)
          | (go_at_call 172; (with_reducible refine (writeByte_r w _ _ _ _ 104 104 (by decide) B3.out (by rw [List.length_append]; omega)).mono ?_); rintro e w4 ⟨rfl, b4, k4⟩; have H4 := Lib.hid (unit_kept H3.out k4 (bldLt HB.out)); have B4 := Lib.hid b4; have c4 := (unit_cells H4.out).2; clear b4 k4)
          | fail)
        go_roundw
        case rel => exact ⟨2, by omega, rfl, by rw [HR.out], by rw [HX.out]; exact B4.out⟩
        case measure => simp [intOf]
      · have HX : Hid (tx 2 n = tx 1 n) := Lib.hid (by
          rw [show tx 2 n = tx 1 n ++ pc 1 (rm 1 n) from rfl, ← HM.out]
          unfold pc
          rw [if_neg (show ¬ tk 1 ≤ m from hge), List.append_nil])
        have hr3 := hr2.symm
        clear hq hr2 hq1
        go_wp2
        go_roundw
        case rel => exact ⟨2, by omega, rfl, by rw [HR.out], by rw [HX.out]; exact HB.out.alloc _⟩
        case measure => simp [intOf]
    · have x0 : ∀ W, (Instr.index 214 (.agg #[.int .u8 100, .int .i64 86400, .int .u8 104, .int .i64 3600, .int .u8 109, .int .i64 60, .int .u8 115, .int .i64 1]) (.int .i64 2)).run Tryz.prog W = .ok (.agg #[.int .u8 109, .int .i64 60]) W := fun W => unit_at W 2 (by decide)
      obtain ⟨q, hq⟩ : ∃ q, q = m / 60 := ⟨_, rfl⟩
      obtain ⟨r, hr2⟩ : ∃ r, r = m % 60 := ⟨_, rfl⟩
      have hq1 : Int.tdiv m 60 = q := by rw [Int.tdiv_eq_ediv_of_nonneg hr.1, hq]
      have hr1 : Int.tmod m 60 = r := by rw [Int.tmod_eq_emod_of_nonneg hr.1, hr2]
      have HR : Hid (r = rm 3 n) := Lib.hid (by rw [hr2, HM.out]; rfl)
      have hqb : 0 ≤ q ∧ q ≤ 1000000 := by omega
      by_cases hge : 60 ≤ m
      · have HX : Hid (tx 3 n = tx 2 n ++ (⟨(Go.Lib.itoa q).toArray⟩ : ByteArray).data.toList ++ [109]) := Lib.hid (by
          rw [show tx 3 n = tx 2 n ++ pc 2 (rm 2 n) from rfl, ← HM.out]
          unfold pc
          rw [if_pos (show tk 2 ≤ m from hge), show m / tk 2 = q from hq.symm, List.append_assoc]
          rfl)
        have hil := itoa_size q hqb.1 hqb.2
        have hil2 := itoa_length q hqb.1 hqb.2
        have hq3 := hq.symm
        have hr3 := hr2.symm
        clear hq hr2
        go_wp2_with (first
          | (go_at_call 44; (with_reducible refine (itoa_any q (by omega) (by omega) _ (HT.out.later (bldBel (HB.out.alloc _)))).mono ?_); rintro e w2 ⟨rfl, p2⟩; have H2 := Lib.hid (unit_new p2); have P2 := Lib.hid p2; clear p2)
          | (go_at_call 18; (with_reducible refine (writeString_r w _ _ _ _ _ ((HB.out.alloc _).below P2.out) (by omega)).mono ?_); rintro e w3 ⟨rfl, b3, k3⟩; have H3 := Lib.hid (unit_kept H2.out k3 (bldLt HB.out)); have B3 := Lib.hid b3; have c3 := (unit_cells H3.out).1; clear b3 k3)
          | (go_at_call 172; (with_reducible refine (writeByte_r w _ _ _ _ 109 109 (by decide) B3.out (by rw [List.length_append]; omega)).mono ?_); rintro e w4 ⟨rfl, b4, k4⟩; have H4 := Lib.hid (unit_kept H3.out k4 (bldLt HB.out)); have B4 := Lib.hid b4; have c4 := (unit_cells H4.out).2; clear b4 k4)
          | fail)
        go_roundw
        case rel => exact ⟨3, by omega, rfl, by rw [HR.out], by rw [HX.out]; exact B4.out⟩
        case measure => simp [intOf]
      · have HX : Hid (tx 3 n = tx 2 n) := Lib.hid (by
          rw [show tx 3 n = tx 2 n ++ pc 2 (rm 2 n) from rfl, ← HM.out]
          unfold pc
          rw [if_neg (show ¬ tk 2 ≤ m from hge), List.append_nil])
        have hr3 := hr2.symm
        clear hq hr2 hq1
        go_wp2
        go_roundw
        case rel => exact ⟨3, by omega, rfl, by rw [HR.out], by rw [HX.out]; exact HB.out.alloc _⟩
        case measure => simp [intOf]
    · have x0 : ∀ W, (Instr.index 214 (.agg #[.int .u8 100, .int .i64 86400, .int .u8 104, .int .i64 3600, .int .u8 109, .int .i64 60, .int .u8 115, .int .i64 1]) (.int .i64 3)).run Tryz.prog W = .ok (.agg #[.int .u8 115, .int .i64 1]) W := fun W => unit_at W 3 (by decide)
      obtain ⟨q, hq⟩ : ∃ q, q = m / 1 := ⟨_, rfl⟩
      obtain ⟨r, hr2⟩ : ∃ r, r = m % 1 := ⟨_, rfl⟩
      have hq1 : Int.tdiv m 1 = q := by rw [Int.tdiv_eq_ediv_of_nonneg hr.1, hq]
      have hr1 : Int.tmod m 1 = r := by rw [Int.tmod_eq_emod_of_nonneg hr.1, hr2]
      have HR : Hid (r = rm 4 n) := Lib.hid (by rw [hr2, HM.out]; rfl)
      have hqb : 0 ≤ q ∧ q ≤ 1000000 := by omega
      by_cases hge : 1 ≤ m
      · have HX : Hid (tx 4 n = tx 3 n ++ (⟨(Go.Lib.itoa q).toArray⟩ : ByteArray).data.toList ++ [115]) := Lib.hid (by
          rw [show tx 4 n = tx 3 n ++ pc 3 (rm 3 n) from rfl, ← HM.out]
          unfold pc
          rw [if_pos (show tk 3 ≤ m from hge), show m / tk 3 = q from hq.symm, List.append_assoc]
          rfl)
        have hil := itoa_size q hqb.1 hqb.2
        have hil2 := itoa_length q hqb.1 hqb.2
        have hq3 := hq.symm
        have hr3 := hr2.symm
        clear hq hr2
        go_wp2_with (first
          | (go_at_call 44; (with_reducible refine (itoa_any q (by omega) (by omega) _ (HT.out.later (bldBel (HB.out.alloc _)))).mono ?_); rintro e w2 ⟨rfl, p2⟩; have H2 := Lib.hid (unit_new p2); have P2 := Lib.hid p2; clear p2)
          | (go_at_call 18; (with_reducible refine (writeString_r w _ _ _ _ _ ((HB.out.alloc _).below P2.out) (by omega)).mono ?_); rintro e w3 ⟨rfl, b3, k3⟩; have H3 := Lib.hid (unit_kept H2.out k3 (bldLt HB.out)); have B3 := Lib.hid b3; have c3 := (unit_cells H3.out).1; clear b3 k3)
          | (go_at_call 172; (with_reducible refine (writeByte_r w _ _ _ _ 115 115 (by decide) B3.out (by rw [List.length_append]; omega)).mono ?_); rintro e w4 ⟨rfl, b4, k4⟩; have H4 := Lib.hid (unit_kept H3.out k4 (bldLt HB.out)); have B4 := Lib.hid b4; have c4 := (unit_cells H4.out).2; clear b4 k4)
          | fail)
        go_roundw
        case rel => exact ⟨4, by omega, rfl, by rw [HR.out], by rw [HX.out]; exact B4.out⟩
        case measure => simp [intOf]
      · have HX : Hid (tx 4 n = tx 3 n) := Lib.hid (by
          rw [show tx 4 n = tx 3 n ++ pc 3 (rm 3 n) from rfl, ← HM.out]
          unfold pc
          rw [if_neg (show ¬ tk 3 ≤ m from hge), List.append_nil])
        have hr3 := hr2.symm
        clear hq hr2 hq1
        go_wp2
        go_roundw
        case rel => exact ⟨4, by omega, rfl, by rw [HR.out], by rw [HX.out]; exact HB.out.alloc _⟩
        case measure => simp [intOf]
    · go_wp2_with (first
        | (go_at_call 22; (with_reducible refine (string_r w _ _ _ _ HB.out).mono ?_); rintro e w2 ⟨rfl, p2⟩)
        | fail)
      go_ret2
      exact ⟨rfl, p2⟩
theorem showL_ne {n : Int} (h : n ≠ 0) : showL n = tx 4 n := by unfold showL; rw [if_neg h]
theorem cl_time (n : Int) : cl n 1000000 = n ↔ 0 ≤ n ∧ n ≤ 1000000 :=
  ⟨fun h => by have := cl_bd n 1000000 (by omega); omega, fun h => cl_id n 1000000 h.1 h.2⟩
set_option maxRecDepth 100000 in
set_option maxHeartbeats 8000000 in
theorem show_any (n : Int) (w : World) (hT : Tb w) :
    Calls Tryz.prog 242 #[.int .i64 n] w fun e w' => e = .returned (.tuple #[.string (shB n), .int .i64 (shE n)]) ∧ Below w.heap.size w w' := by
  have C := Lib.hid (fun w => isTime_any n w)
  by_cases ht : cl n 1000000 = n
  · have hb := (cl_time n).1 ht
    by_cases h0 : n = 0
    · subst h0
      rw [ht, beq_self_eq_true] at C
      have HS : Hid (shB 0 = ⟨#[48, 115]⟩ ∧ shE 0 = 0) := Lib.hid (by unfold shB shE; rw [if_pos ht, if_pos ht]; exact ⟨rfl, rfl⟩)
      clear ht hb
      go_enter Tryz.func242, Tryz.ntmps242
      go_wp2_with (first | (go_at_call 199; (with_reducible refine (C.out _).mono ?_); rintro e w' ⟨rfl, rfl⟩) | fail)
      go_ret2
      exact ⟨by rw [HS.out.1, HS.out.2]; rfl, Below.refl _ _⟩
    · refine (show_ok n (by omega) hb.2 w hT).mono ?_
      rintro e w' ⟨rfl, hb⟩
      exact ⟨by unfold shB shE; rw [if_pos ht, if_pos ht, showL_ne h0], hb⟩
  · rw [beq_eq_false_iff_ne.2 ht] at C
    have HS : Hid (shB n = ⟨#[]⟩ ∧ shE n = 153) := Lib.hid (by unfold shB shE; rw [if_neg ht, if_neg ht]; exact ⟨rfl, rfl⟩)
    clear ht
    go_enter Tryz.func242, Tryz.ntmps242
    go_wp2_with (first | (go_at_call 199; (with_reducible refine (C.out _).mono ?_); rintro e w' ⟨rfl, rfl⟩) | fail)
    go_ret2
    exact ⟨by rw [HS.out.1, HS.out.2]; rfl, Below.refl _ _⟩
end Go.Proofs.YtdkngidangfkiaaGreatDoor.Hours
namespace Go.Proofs.YtdkngidangfkiaaGreatDoor.Cmd
open Go.RowKit
open Base Runes Lex
open Shape (frB frB_iff sameL sameB chkB goodB altOk sizeB wallB chkE)
set_option linter.unusedVariables false
set_option linter.unusedSimpArgs false
structure Co where
  kind : Int
  job : Int
  name : ByteArray
  user : ByteArray
  account : ByteArray
  sk : Int
  alts : List (Int × Int)
  mn : Int
  mx : Int
  wl : Int
  prio : Int
  hasPrio : Bool
  time : Int
  hasTime : Bool
  after : List (Int × Int)
  node : Int
  nodes : Int
  frm : Int
def nil_ : ByteArray := ⟨#[]⟩
def zCo (k : Int) : Co := ⟨k, 0, nil_, nil_, nil_, 0, [], 0, 0, 0, 0, false, 0, false, [], 0, 0, 0⟩
inductive Vl where
  | word (s : ByteArray)
  | num (n : Int)
  | id (n : Int)
  | tk (n : Int)
  | opt (a b : Int)
  | span (a b : Int)
abbrev Fd := ByteArray × Vl
def kUser : ByteArray := ⟨#[117, 115, 101, 114]⟩
def kAccount : ByteArray := ⟨#[97, 99, 99, 111, 117, 110, 116]⟩
def kPrio : ByteArray := ⟨#[112, 114, 105, 111]⟩
def kAny : ByteArray := ⟨#[97, 110, 121]⟩
def kGood : ByteArray := ⟨#[103, 111, 111, 100]⟩
def kBad : ByteArray := ⟨#[98, 97, 100]⟩
def kFrom : ByteArray := ⟨#[102, 114, 111, 109]⟩
def kNodes : ByteArray := ⟨#[110, 111, 100, 101, 115]⟩
def kAlt : ByteArray := ⟨#[97, 108, 116]⟩
def kRange : ByteArray := ⟨#[114, 97, 110, 103, 101]⟩
def kTime : ByteArray := ⟨#[116, 105, 109, 101]⟩
def verbL : List ByteArray := [⟨#[]⟩, ⟨#[115, 117, 98, 109, 105, 116]⟩, ⟨#[99, 97, 110, 99, 101, 108]⟩, ⟨#[104, 111, 108, 100]⟩, ⟨#[114, 101, 108, 101, 97, 115, 101]⟩, ⟨#[97, 108, 116, 101, 114]⟩, ⟨#[114, 101, 115, 105, 122, 101]⟩,
  ⟨#[100, 114, 97, 105, 110]⟩, ⟨#[114, 101, 115, 117, 109, 101]⟩, ⟨#[102, 97, 105, 108]⟩, ⟨#[114, 101, 115, 101, 114, 118, 101]⟩, ⟨#[117, 110, 114, 101, 115, 101, 114, 118, 101]⟩, ⟨#[115, 116, 97, 116, 117, 115]⟩]
def howL : List ByteArray := [⟨#[]⟩, kAny, kGood, kBad]
def findN (s : ByteArray) : List ByteArray → Nat → Nat
  | [], _ => 0
  | x :: t, i => if x = s then i else findN s t (i + 1)
def kindN (s : ByteArray) : Nat := findN s verbL 0
def howN (s : ByteArray) : Nat := findN s howL 0
def verb (k : Int) : ByteArray := verbL.getD k.toNat nil_
def howW (k : Int) : ByteArray := howL.getD k.toNat nil_
def hasF (k : Int) (s : ByteArray) : Bool :=
  if s = kUser ∨ s = kAccount ∨ s = kAny ∨ s = kGood ∨ s = kBad ∨ s = kAlt ∨ s = kRange then (k == 1)
  else if s = kPrio then (k == 1) || (k == 5)
  else if s = kFrom then (k == 10)
  else if s = kNodes then (k == 1) || (k == 6) || (k == 10)
  else if s = kTime then (k == 1) || (k == 5) || (k == 10)
  else false
def cntL (q : Fd → Bool) (l : List Fd) : Nat := l.countP q
def isDep (f : Fd) : Bool := match f.2 with | .id _ => true | _ => false
def depOn (j : Int) (f : Fd) : Bool := match f.2 with | .id n => n == j | _ => false
def nmd (s : ByteArray) (f : Fd) : Bool := decide (f.1 = s)
def noF (l : List Fd) (s : ByteArray) : Bool := decide (cntL (nmd s) l = 0)
def mayF (l : List Fd) (s : ByteArray) : Bool :=
  if s = kAlt then decide (cntL (nmd s) l < 6) else if howN s ≠ 0 then decide (cntL isDep l < 4) else noF l s
def lacksB (k : Int) (l : List Fd) : Bool :=
  if k = 1 then noF l kUser || noF l kAccount || (noF l kAlt && (noF l kTime || (noF l kNodes && noF l kRange)))
  else if k = 5 then decide (l.length = 0)
  else if k = 6 then noF l kNodes
  else if k = 10 then noF l kFrom || noF l kNodes || noF l kTime
  else false
def nameB (s : ByteArray) : Bool := decide (ckE s = 0) && frB (ckN s : Nat) 1 16
def wordB (s : ByteArray) : Bool := decide (chE (1, s, 0, 0) = 0)
def idB (n : Int) : Bool := frB n 1 99999
def tickB (n : Int) : Bool := frB n 0 1000000
def lenB (n : Int) : Bool := frB n 1 100000
def prB (n : Int) : Bool := frB n 0 100
def nodeB (n : Int) : Bool := frB n 0 47
def prioB (c : Co) : Bool := c.hasPrio && prB c.prio || !c.hasPrio && (c.prio == 0)
def timeB (c : Co) : Bool := c.hasTime && lenB c.time || !c.hasTime && (c.time == 0)
def depOk (d : Int × Int) : Bool := frB d.1 1 3 && idB d.2
def hasJ (l : List (Int × Int)) (j : Int) : Bool := l.any fun d => d.2 == j
def depsB (l : List (Int × Int)) : Bool := decide (l.length ≤ 4) && (l.all depOk && decide (l.map Prod.snd).Nodup)
def submitB (c : Co) : Bool := nameB c.name && nameB c.user && wordB c.user && nameB c.account && wordB c.account && chkB c.sk c.alts c.mn c.mx c.wl && prioB c && depsB c.after
def partsB (c : Co) : Bool :=
  if c.kind = 1 then submitB c
  else if c.kind = 2 ∨ c.kind = 3 ∨ c.kind = 4 ∨ c.kind = 11 then idB c.job
  else if c.kind = 5 then idB c.job && (c.hasPrio || c.hasTime) && prioB c && timeB c
  else if c.kind = 6 then idB c.job && sizeB c.nodes
  else if c.kind = 7 ∨ c.kind = 8 ∨ c.kind = 9 then nodeB c.node
  else if c.kind = 10 then tickB c.frm && c.hasTime && timeB c && sizeB c.nodes
  else if c.kind = 12 then (c.job == 0) || idB c.job
  else false
def aloneC (c : Co) : Co :=
  if c.kind = 1 then { zCo c.kind with name := c.name, user := c.user, account := c.account, sk := c.sk, alts := c.alts, mn := c.mn, mx := c.mx, wl := c.wl, prio := c.prio, hasPrio := c.hasPrio, after := c.after }
  else if c.kind = 5 then { zCo c.kind with job := c.job, prio := c.prio, hasPrio := c.hasPrio, time := c.time, hasTime := c.hasTime }
  else if c.kind = 6 then { zCo c.kind with job := c.job, nodes := c.nodes }
  else if c.kind = 7 ∨ c.kind = 8 ∨ c.kind = 9 then { zCo c.kind with node := c.node }
  else if c.kind = 10 then { zCo c.kind with frm := c.frm, time := c.time, hasTime := c.hasTime, nodes := c.nodes }
  else { zCo c.kind with job := c.job }
def sameC (a b : Co) : Bool := (a.kind == b.kind) && ((a.job == b.job) && (decide (a.name = b.name) && (decide (a.user = b.user) && (decide (a.account = b.account) && (sameB a.sk a.alts a.mn a.mx a.wl b.sk b.alts b.mn b.mx b.wl &&
  ((a.prio == b.prio) && ((a.hasPrio == b.hasPrio) && ((a.time == b.time) && ((a.hasTime == b.hasTime) && (sameL a.after b.after && ((a.node == b.node) && ((a.nodes == b.nodes) && (a.frm == b.frm)))))))))))))
theorem sameC_iff (a b : Co) : sameC a b = true ↔ a = b := by
  obtain ⟨a1, a2, a3, a4, a5, a6, a7, a8, a9, a10, a11, a12, a13, a14, a15, a16, a17, a18⟩ := a
  obtain ⟨b1, b2, b3, b4, b5, b6, b7, b8, b9, b10, b11, b12, b13, b14, b15, b16, b17, b18⟩ := b
  simp [sameC, sameB, sameL, and_assoc]
def mayC (c : Co) : Bool := partsB c && sameC c (aloneC c)
def chkC (c : Co) : Int := if mayC c then 0 else 80
theorem mayC_iff (c : Co) : mayC c = true ↔ partsB c = true ∧ c = aloneC c := by unfold mayC; rw [Bool.and_eq_true, sameC_iff]
theorem depsB_iff (l : List (Int × Int)) : depsB l = true ↔ l.length ≤ 4 ∧ (∀ d ∈ l, depOk d = true) ∧ (l.map Prod.snd).Nodup := by
  unfold depsB; simp
def spreadC (c : Co) : Co :=
  if c.sk = 1 then { c with nodes := (c.alts.getD 0 (0, 0)).1, time := (c.alts.getD 0 (0, 0)).2, hasTime := true, alts := [] }
  else if c.sk = 3 then { c with time := c.wl, hasTime := true }
  else c
def onF (b : Bool) (s : ByteArray) (v : Vl) : List Fd := if b = true then [(s, v)] else []
def depF (d : Int × Int) : Fd := (howW d.1, .id d.2)
def altF (a : Int × Int) : Fd := (kAlt, .opt a.1 a.2)
def fieldsS (c : Co) : List Fd :=
  onF (decide (c.user ≠ nil_)) kUser (.word c.user) ++ onF (decide (c.account ≠ nil_)) kAccount (.word c.account) ++ onF c.hasPrio kPrio (.num c.prio) ++ c.after.map depF ++ onF (c.kind == 10) kFrom (.num c.frm) ++
    onF (decide (c.nodes ≠ 0)) kNodes (.num c.nodes) ++ c.alts.map altF ++ onF (decide (c.mx ≠ 0)) kRange (.span c.mn c.mx) ++ onF c.hasTime kTime (.tk c.time)
def fieldsC (c : Co) : List Fd := fieldsS (spreadC c)
def numT (n : Int) : List UInt8 := Go.Lib.itoa n
def timT (n : Int) : List UInt8 := (Hours.shB n).data.toList
def valT : Vl → List UInt8
  | .word s => s.data.toList
  | .num n => numT n
  | .id n => numT n
  | .tk n => timT n
  | .opt a b => numT a ++ 58 :: timT b
  | .span a b => numT a ++ 45 :: numT b
def fdT (f : Fd) : List UInt8 := 32 :: (f.1.data.toList ++ 61 :: valT f.2)
def nameT (s : ByteArray) : List UInt8 := (txS (if wordB s = true then 1 else 4, s, 0, 0)).data.toList
def headT (c : Co) : List UInt8 :=
  (verb c.kind).data.toList ++ (if c.kind = 1 then 32 :: nameT c.name else if c.kind = 7 ∨ c.kind = 8 ∨ c.kind = 9 then 32 :: numT c.node else if c.job ≠ 0 then 32 :: numT c.job else [])
def fldT (l : List Fd) : List UInt8 := l.flatMap fdT
def lineT (c : Co) : List UInt8 := headT c ++ fldT (fieldsC c)
def lineB (c : Co) : ByteArray := ⟨(lineT c).toArray⟩
def showC (c : Co) : ByteArray × Int := if mayC c = true then (if 400 < (lineT c).length then (nil_, 3) else (lineB c, 0)) else (nil_, 80)
def nx (q : Tok → Bool) : List Tok → Option Tok × List Tok
  | [] => (none, [])
  | t :: r => if q t = true then (some t, r) else (none, t :: r)
def qWord (q : ByteArray → Bool) (t : Tok) : Bool := (t.1 == 1) && q t.2.1
def qName (t : Tok) : Bool := ((t.1 == 1) || (t.1 == 4)) && nameB t.2.1
def qNum (q : Int → Bool) (t : Tok) : Bool := (t.1 == 2) && q t.2.2.1
def qSign (s : ByteArray) (t : Tok) : Bool := (t.1 == 5) && decide (t.2.1 = s)
def tkOf (t : Tok) : Int := if t.1 = 2 then t.2.2.1 else if t.1 = 3 then (Hours.parse t.2.1.data.toList).1 else 0
def qLen (t : Tok) : Bool := lenB (tkOf t)
def kEq : ByteArray := ⟨#[61]⟩
def kColon : ByteArray := ⟨#[58]⟩
def kMinus : ByteArray := ⟨#[45]⟩
def getW (r : Option Tok × List Tok) : Option ByteArray × List Tok := (r.1.map fun t => t.2.1, r.2)
def getN (r : Option Tok × List Tok) : Option Int × List Tok := (r.1.map fun t => t.2.2.1, r.2)
def getL (r : Option Tok × List Tok) : Option Int × List Tok := (r.1.map tkOf, r.2)
def rdWord (q : ByteArray → Bool) (l : List Tok) := getW (nx (qWord q) l)
def rdNum (q : Int → Bool) (l : List Tok) := getN (nx (qNum q) l)
def rdLen (l : List Tok) := getL (nx qLen l)
def rdOpt (l : List Tok) : Option (Int × Int) × List Tok :=
  match rdNum sizeB l with
  | (none, r) => (none, r)
  | (some a, r) => match nx (qSign kColon) r with
    | (none, r2) => (none, r2)
    | (some _, r2) => match rdLen r2 with
      | (none, r3) => (none, r3)
      | (some b, r3) => (some (a, b), r3)
def rdSpan (l : List Tok) : Option (Int × Int) × List Tok :=
  match rdNum sizeB l with
  | (none, r) => (none, r)
  | (some a, r) => match nx (qSign kMinus) r with
    | (none, r2) => (none, r2)
    | (some _, r2) => match rdNum sizeB r2 with
      | (none, r3) => (none, r3)
      | (some b, r3) => (some (a, b), r3)
def idQ (st : List Fd) (n : Int) : Bool := idB n && decide (cntL (depOn n) st = 0)
def mapV {α : Type} (f : α → Vl) (r : Option α × List Tok) : Option Vl × List Tok := (r.1.map f, r.2)
def rdVal (s : ByteArray) (st : List Fd) (l : List Tok) : Option Vl × List Tok :=
  if s = kUser ∨ s = kAccount then mapV .word (rdWord nameB l)
  else if s = kPrio then mapV .num (rdNum prB l)
  else if s = kFrom then mapV .num (rdNum tickB l)
  else if s = kNodes then mapV .num (rdNum sizeB l)
  else if s = kAlt then mapV (fun p => .opt p.1 p.2) (rdOpt l)
  else if s = kRange then mapV (fun p => .span p.1 p.2) (rdSpan l)
  else if s = kTime then mapV .tk (rdLen l)
  else mapV .id (rdNum (idQ st) l)
def qField (k : Int) (st : List Fd) (s : ByteArray) : Bool := hasF k s && mayF st s
def rdFd (k : Int) (st : List Fd) (l : List Tok) : Option Fd × List Tok :=
  match rdWord (qField k st) l with
  | (none, r) => (none, r)
  | (some s, r) => match nx (qSign kEq) r with
    | (none, r2) => (none, r2)
    | (some _, r2) => match rdVal s st r2 with
      | (none, r3) => (none, r3)
      | (some v, r3) => (some (s, v), r3)
def rdTgt (c : Co) (l : List Tok) : Option Co × List Tok :=
  if c.kind = 10 ∨ (c.kind = 12 ∧ l.length = 0) then (some c, l)
  else if c.kind = 1 then ((nx qName l).1.map fun t => { c with name := t.2.1 }, (nx qName l).2)
  else if c.kind = 7 ∨ c.kind = 8 ∨ c.kind = 9 then ((rdNum nodeB l).1.map fun n => { c with node := n }, (rdNum nodeB l).2)
  else ((rdNum idB l).1.map fun n => { c with job := n }, (rdNum idB l).2)
def layC (c : Co) (f : Fd) : Co :=
  match f.2 with
  | .word s => if f.1 = kUser then { c with user := s } else { c with account := s }
  | .num n => if f.1 = kPrio then { c with prio := n, hasPrio := true } else if f.1 = kFrom then { c with frm := n } else if f.1 = kNodes then { c with nodes := n } else c
  | .id n => { c with after := c.after ++ [(((howN f.1 : Nat) : Int), n)] }
  | .tk n => { c with time := n, hasTime := true }
  | .opt a b => { c with alts := c.alts ++ [(a, b)] }
  | .span a b => { c with mn := a, mx := b }
def gatherC (c : Co) : Co :=
  if c.kind ≠ 1 then c
  else if c.alts ≠ [] then { c with sk := 2 }
  else if c.mx ≠ 0 then { c with sk := 3, wl := c.time, time := 0, hasTime := false }
  else { c with sk := 1, alts := [(c.nodes, c.time)], nodes := 0, time := 0, hasTime := false }
def rdLoop : Nat → Co → List Fd → List Tok → Option (Co × List Fd) × List Tok
  | 0, c, st, l => (some (c, st), l)
  | f + 1, c, st, l =>
    if l.length = 0 then (some (c, st), [])
    else match rdFd c.kind st l with
      | (none, r) => (none, r)
      | (some x, r) => rdLoop f (layC c x) (st ++ [x]) r
def rdCmd (l : List Tok) : Option Co × List Tok :=
  match rdWord (fun s => decide (kindN s ≠ 0)) l with
  | (none, r) => (none, r)
  | (some s, r) => match rdTgt (zCo (kindN s : Nat)) r with
    | (none, r2) => (none, r2)
    | (some c, r2) => match rdLoop r2.length c [] r2 with
      | (none, r3) => (none, r3)
      | (some (c2, st), r3) => if lacksB c2.kind st = true then (none, r3) else (some (gatherC c2), r3)
def placeR (l : List Tok) (n : Nat) : Int := match l with | [] => (n : Int) | t :: _ => t.2.2.2
def parseC (s : ByteArray) : Co × Int × Int :=
  if (tkA s).2.2 ≠ 0 then (zCo 0, ((tkA s).2.1 : Int), (tkA s).2.2)
  else match rdCmd (tkA s).1 with
    | (none, r) => (zCo 0, placeR r (tkA s).2.1, 80)
    | (some c, _) => if mayC c = true then (c, ((tkA s).2.1 : Int), 0) else (zCo 0, 0, 80)
theorem nx_suffix (q : Tok → Bool) (l : List Tok) : (nx q l).2 <:+ l := by
  cases l with
  | nil => exact List.suffix_refl _
  | cons t r =>
    rw [nx]
    split
    · exact List.suffix_cons t r
    · exact List.suffix_refl _
theorem nx_shorter (q : Tok → Bool) (l : List Tok) {t : Tok} {r : List Tok} (h : nx q l = (some t, r)) : l = t :: r ∧ q t = true := by
  cases l with
  | nil => simp [nx] at h
  | cons x u =>
    rw [nx] at h
    split at h
    · rename_i hq
      simp only [Prod.mk.injEq, Option.some.injEq] at h
      obtain ⟨rfl, rfl⟩ := h
      exact ⟨rfl, hq⟩
    · simp at h
theorem rdWord_suffix (q : ByteArray → Bool) (l : List Tok) : (rdWord q l).2 <:+ l := nx_suffix _ l
theorem rdNum_suffix (q : Int → Bool) (l : List Tok) : (rdNum q l).2 <:+ l := nx_suffix _ l
theorem rdLen_suffix (l : List Tok) : (rdLen l).2 <:+ l := nx_suffix _ l
theorem rdOpt_suffix (l : List Tok) : (rdOpt l).2 <:+ l := by
  unfold rdOpt
  have h1 := rdNum_suffix sizeB l
  split
  · rename_i r h; rw [h] at h1; exact h1
  · rename_i a r h
    rw [h] at h1
    have h2 := nx_suffix (qSign kColon) r
    split
    · rename_i r2 h; rw [h] at h2; exact h2.trans h1
    · rename_i x r2 h
      rw [h] at h2
      have h3 := rdLen_suffix r2
      split
      · rename_i r3 h; rw [h] at h3; exact h3.trans (h2.trans h1)
      · rename_i b r3 h; rw [h] at h3; exact h3.trans (h2.trans h1)
theorem rdSpan_suffix (l : List Tok) : (rdSpan l).2 <:+ l := by
  unfold rdSpan
  have h1 := rdNum_suffix sizeB l
  split
  · rename_i r h; rw [h] at h1; exact h1
  · rename_i a r h
    rw [h] at h1
    have h2 := nx_suffix (qSign kMinus) r
    split
    · rename_i r2 h; rw [h] at h2; exact h2.trans h1
    · rename_i x r2 h
      rw [h] at h2
      have h3 := rdNum_suffix sizeB r2
      split
      · rename_i r3 h; rw [h] at h3; exact h3.trans (h2.trans h1)
      · rename_i b r3 h; rw [h] at h3; exact h3.trans (h2.trans h1)
theorem rdVal_suffix (s : ByteArray) (st : List Fd) (l : List Tok) : (rdVal s st l).2 <:+ l := by
  unfold rdVal
  repeat' split
  · exact rdWord_suffix _ l
  · exact rdNum_suffix _ l
  · exact rdNum_suffix _ l
  · exact rdNum_suffix _ l
  · exact rdOpt_suffix l
  · exact rdSpan_suffix l
  · exact rdLen_suffix l
  · exact rdNum_suffix _ l
theorem rdFd_suffix (k : Int) (st : List Fd) (l : List Tok) : (rdFd k st l).2 <:+ l ∧ ∀ x r, rdFd k st l = (some x, r) → r.length < l.length := by
  unfold rdFd
  have h1 := rdWord_suffix (qField k st) l
  split
  · rename_i r h; rw [h] at h1; exact ⟨h1, fun x r h => by simp at h⟩
  · rename_i a r h
    have h0 := h
    rw [h] at h1
    have h2 := nx_suffix (qSign kEq) r
    split
    · rename_i r2 h; rw [h] at h2; exact ⟨h2.trans h1, fun x r h => by simp at h⟩
    · rename_i x r2 h
      rw [h] at h2
      have hl := (nx_shorter _ _ h).1
      have h3 := rdVal_suffix a st r2
      split
      · rename_i r3 h; rw [h] at h3; exact ⟨h3.trans (h2.trans h1), fun x r h => by simp at h⟩
      · rename_i b r3 h
        rw [h] at h3
        refine ⟨h3.trans (h2.trans h1), fun x r4 he => ?_⟩
        simp only [Prod.mk.injEq, Option.some.injEq] at he
        obtain ⟨_, rfl⟩ := he
        have a1 := h3.length_le
        have a2 := h1.length_le
        rw [hl] at a2
        dsimp only at a1 a2
        rw [List.length_cons] at a2
        omega
theorem rdTgt_suffix (c : Co) (l : List Tok) : (rdTgt c l).2 <:+ l := by
  unfold rdTgt
  repeat' split
  · exact List.suffix_refl _
  · exact nx_suffix _ l
  · exact rdNum_suffix _ l
  · exact rdNum_suffix _ l
end Go.Proofs.YtdkngidangfkiaaGreatDoor.Cmd
namespace Go.Proofs.YtdkngidangfkiaaGreatDoor.Cmd
open Go.RowKit
open Base Runes Lex
open Shape (frB frB_iff chkB goodB altOk sizeB wallB sizeB_iff wallB_iff mayB spanB)
set_option linter.unusedVariables false
set_option linter.unusedSimpArgs false
theorem mem_onF {b : Bool} {s : ByteArray} {v : Vl} {f : Fd} (h : f ∈ onF b s v) : f = (s, v) := by
  unfold onF at h
  split at h
  · simpa using h
  · simp at h
theorem lenB_iff (n : Int) : lenB n = true ↔ 1 ≤ n ∧ n ≤ 100000 := frB_iff _ _ _
theorem how3 {d : Int} (h : 1 ≤ d ∧ d ≤ 3) : (d = 1 ∧ howW d = kAny) ∨ (d = 2 ∧ howW d = kGood) ∨ (d = 3 ∧ howW d = kBad) := by
  have : d = 1 ∨ d = 2 ∨ d = 3 := by omega
  rcases this with rfl | rfl | rfl
  · exact .inl ⟨rfl, rfl⟩
  · exact .inr (.inl ⟨rfl, rfl⟩)
  · exact .inr (.inr ⟨rfl, rfl⟩)
theorem depOk_iff (d : Int × Int) : depOk d = true ↔ (1 ≤ d.1 ∧ d.1 ≤ 3) ∧ 1 ≤ d.2 ∧ d.2 ≤ 99999 := by
  unfold depOk idB
  rw [Bool.and_eq_true, frB_iff, frB_iff]
theorem altOk_iff (a : Int × Int) : altOk a = true ↔ sizeB a.1 = true ∧ lenB a.2 = true := by
  unfold altOk wallB lenB
  rw [Bool.and_eq_true]
structure SpOk (k : Int) (S : Co) : Prop where
  user : S.user ≠ nil_ → k = 1 ∧ nameB S.user = true
  account : S.account ≠ nil_ → k = 1 ∧ nameB S.account = true
  prio : S.hasPrio = true → (k = 1 ∨ k = 5) ∧ prB S.prio = true
  after : (S.after ≠ [] → k = 1) ∧ S.after.length ≤ 4 ∧ (∀ d ∈ S.after, depOk d = true) ∧ (S.after.map Prod.snd).Nodup
  frm : S.kind = 10 → k = 10 ∧ tickB S.frm = true
  nodes : S.nodes ≠ 0 → (k = 1 ∨ k = 6 ∨ k = 10) ∧ sizeB S.nodes = true
  alts : (S.alts ≠ [] → k = 1) ∧ S.alts.length ≤ 6 ∧ ∀ a ∈ S.alts, altOk a = true
  span : S.mx ≠ 0 → k = 1 ∧ sizeB S.mn = true ∧ sizeB S.mx = true
  time : S.hasTime = true → (k = 1 ∨ k = 5 ∨ k = 10) ∧ lenB S.time = true
end Go.Proofs.YtdkngidangfkiaaGreatDoor.Cmd
namespace Go.Proofs.YtdkngidangfkiaaGreatDoor.Cmd
open Go.RowKit
open Base Runes Lex
open Shape (frB frB_iff chkB goodB altOk sizeB wallB sizeB_iff wallB_iff mayB spanB)
set_option linter.unusedVariables false
set_option linter.unusedSimpArgs false
theorem name_nil : nameB nil_ = false := by decide +kernel
theorem name_ne {s : ByteArray} (h : nameB s = true) : s ≠ nil_ := by rintro rfl; rw [name_nil] at h; cases h
theorem alone_facts {c : Co} (h : c = aloneC c) :
    (c.kind ≠ 1 → c.name = nil_ ∧ c.user = nil_ ∧ c.account = nil_ ∧ c.sk = 0 ∧ c.alts = [] ∧ c.mn = 0 ∧ c.mx = 0 ∧ c.wl = 0 ∧ c.after = []) ∧
    (c.kind ≠ 1 → c.kind ≠ 5 → c.prio = 0 ∧ c.hasPrio = false) ∧ (c.kind ≠ 5 → c.kind ≠ 10 → c.time = 0 ∧ c.hasTime = false) ∧ (c.kind ≠ 10 → c.frm = 0) ∧
    (c.kind ≠ 6 → c.kind ≠ 10 → c.nodes = 0) ∧ (c.kind ≠ 7 → c.kind ≠ 8 → c.kind ≠ 9 → c.node = 0) ∧ (c.kind = 1 ∨ c.kind = 7 ∨ c.kind = 8 ∨ c.kind = 9 ∨ c.kind = 10 → c.job = 0) := by
  have key : ∀ d : Co, d = aloneC c →
    (c.kind ≠ 1 → d.name = nil_ ∧ d.user = nil_ ∧ d.account = nil_ ∧ d.sk = 0 ∧ d.alts = [] ∧ d.mn = 0 ∧ d.mx = 0 ∧ d.wl = 0 ∧ d.after = []) ∧
    (c.kind ≠ 1 → c.kind ≠ 5 → d.prio = 0 ∧ d.hasPrio = false) ∧ (c.kind ≠ 5 → c.kind ≠ 10 → d.time = 0 ∧ d.hasTime = false) ∧ (c.kind ≠ 10 → d.frm = 0) ∧
    (c.kind ≠ 6 → c.kind ≠ 10 → d.nodes = 0) ∧ (c.kind ≠ 7 → c.kind ≠ 8 → c.kind ≠ 9 → d.node = 0) ∧ (c.kind = 1 ∨ c.kind = 7 ∨ c.kind = 8 ∨ c.kind = 9 ∨ c.kind = 10 → d.job = 0) := by
    intro d hd
    subst hd
    unfold aloneC zCo
    split
    · rename_i hk; rw [hk]; simp
    · rename_i h1
      split
      · rename_i hk; rw [hk]; simp
      · rename_i h5
        split
        · rename_i hk; rw [hk]; simp
        · rename_i h6
          split
          · rename_i hk; rcases hk with hk | hk | hk <;> (rw [hk]; simp)
          · rename_i h7
            split
            · rename_i hk; rw [hk]; simp
            · rename_i h10
              refine ⟨fun _ => by simp, fun _ _ => by simp, fun _ _ => by simp, fun _ => rfl, fun _ _ => rfl, fun _ _ _ => rfl, fun h => ?_⟩
              omega
  exact key c h
theorem prioB_iff {c : Co} (h : prioB c = true) : (c.hasPrio = true → prB c.prio = true) ∧ (c.hasPrio = false → c.prio = 0) := by
  unfold prioB at h
  cases hp : c.hasPrio <;> rw [hp] at h <;> simp at h ⊢ <;> exact h
theorem timeB_iff {c : Co} (h : timeB c = true) : (c.hasTime = true → lenB c.time = true) ∧ (c.hasTime = false → c.time = 0) := by
  unfold timeB at h
  cases hp : c.hasTime <;> rw [hp] at h <;> simp at h ⊢ <;> exact h
theorem span_none {a b d : Int} (h : spanB a b d = false) : a = 0 ∧ b = 0 ∧ d = 0 := by
  simp [spanB] at h; exact ⟨h.1.1, h.1.2, h.2⟩
theorem good_all {l : List (Int × Int)} (h : goodB l = true) : ∀ a ∈ l, altOk a = true := by
  unfold goodB at h
  rw [Bool.and_eq_true, List.all_eq_true] at h
  exact h.1
theorem shape_cases {c : Co} (h : chkB c.sk c.alts c.mn c.mx c.wl = true) :
    (c.sk = 1 ∧ (∃ a, c.alts = [a] ∧ altOk a = true) ∧ c.mn = 0 ∧ c.mx = 0 ∧ c.wl = 0) ∨
    (c.sk = 2 ∧ c.alts ≠ [] ∧ c.alts.length ≤ 6 ∧ (∀ a ∈ c.alts, altOk a = true) ∧ c.mn = 0 ∧ c.mx = 0 ∧ c.wl = 0) ∨
    (c.sk = 3 ∧ c.alts = [] ∧ sizeB c.mn = true ∧ sizeB c.mx = true ∧ lenB c.wl = true) := by
  unfold chkB at h
  split at h
  · rename_i hk
    unfold mayB at h
    simp only [Bool.and_eq_true, Bool.not_eq_true'] at h
    obtain ⟨⟨h1, h2⟩, h3⟩ := h
    rw [frB_iff] at h1
    obtain ⟨e1, e2, e3⟩ := span_none h3
    have hl : c.alts.length = 1 := by omega
    obtain ⟨a, ha⟩ := List.length_eq_one_iff.1 hl
    exact .inl ⟨hk, ⟨a, ha, good_all h2 a (by rw [ha]; simp)⟩, e1, e2, e3⟩
  · split at h
    · rename_i hk
      unfold mayB at h
      simp only [Bool.and_eq_true, Bool.not_eq_true'] at h
      obtain ⟨⟨h1, h2⟩, h3⟩ := h
      rw [frB_iff] at h1
      obtain ⟨e1, e2, e3⟩ := span_none h3
      exact .inr (.inl ⟨hk, by intro h0; rw [h0] at h1; simp at h1, by omega, good_all h2, e1, e2, e3⟩)
    · split at h
      · rename_i hk
        simp only [Bool.and_eq_true, decide_eq_true_eq] at h
        exact .inr (.inr ⟨hk, List.eq_nil_of_length_eq_zero (by omega), h.1.1.1.1, h.1.1.1.2, h.1.2⟩)
      · cases h
structure SubOk (c : Co) : Prop where
  name : nameB c.name = true
  user : nameB c.user = true ∧ wordB c.user = true
  account : nameB c.account = true ∧ wordB c.account = true
  shape : chkB c.sk c.alts c.mn c.mx c.wl = true
  prio : prioB c = true
  after : depsB c.after = true
  job : c.job = 0
  time : c.time = 0 ∧ c.hasTime = false
  frm : c.frm = 0
  nodes : c.nodes = 0
  node : c.node = 0
theorem sub_ok {c : Co} (h : mayC c = true) (hk : c.kind = 1) : SubOk c := by
  obtain ⟨h1, h2⟩ := (mayC_iff c).1 h
  obtain ⟨_, f2, f3, f4, f5, f6, f7⟩ := alone_facts h2
  unfold partsB at h1
  rw [if_pos hk] at h1
  unfold submitB at h1
  simp only [Bool.and_eq_true] at h1
  obtain ⟨⟨⟨⟨⟨⟨⟨a1, a2⟩, a3⟩, a4⟩, a5⟩, a6⟩, a7⟩, a8⟩ := h1
  exact ⟨a1, ⟨a2, a3⟩, ⟨a4, a5⟩, a6, a7, a8, f7 (.inl hk), f3 (by omega) (by omega), f4 (by omega), f5 (by omega) (by omega), f6 (by omega) (by omega) (by omega)⟩
theorem spread_plain {c : Co} (h : c.sk = 0) : spreadC c = c := by
  unfold spreadC
  rw [if_neg (by omega), if_neg (by omega)]
theorem spread1 {c : Co} {a : Int × Int} (h : c.sk = 1) (ha : c.alts = [a]) : spreadC c = { c with nodes := a.1, time := a.2, hasTime := true, alts := [] } := by
  unfold spreadC
  rw [if_pos h, ha]; rfl
theorem spread2 {c : Co} (h : c.sk = 2) : spreadC c = c := by
  unfold spreadC
  rw [if_neg (by omega), if_neg (by omega)]
theorem spread3 {c : Co} (h : c.sk = 3) : spreadC c = { c with time := c.wl, hasTime := true } := by
  unfold spreadC
  rw [if_neg (by omega), if_pos h]
structure SpRest (S : Co) : Prop where
  prio : S.hasPrio = false → S.prio = 0
  frm : S.kind ≠ 10 → S.frm = 0
  mn : S.mx = 0 → S.mn = 0
  time : S.hasTime = false → S.time = 0
theorem other_ok {c : Co} (h : mayC c = true) (hk : c.kind ≠ 1) :
    SpOk c.kind c ∧ SpRest c ∧ c.sk = 0 ∧ c.wl = 0 ∧ c.alts = [] ∧ c.name = nil_ ∧
    (c.kind = 2 ∨ c.kind = 3 ∨ c.kind = 4 ∨ c.kind = 11 ∨ c.kind = 5 ∨ c.kind = 6 → 1 ≤ c.job ∧ c.job ≤ 99999) ∧ (c.kind = 5 → c.hasPrio = true ∨ c.hasTime = true) ∧ (c.kind = 6 → c.nodes ≠ 0) ∧
    (c.kind = 7 ∨ c.kind = 8 ∨ c.kind = 9 → 0 ≤ c.node ∧ c.node ≤ 47) ∧ (c.kind = 10 → c.nodes ≠ 0 ∧ c.hasTime = true) ∧ (c.kind = 12 → c.job = 0 ∨ (1 ≤ c.job ∧ c.job ≤ 99999)) ∧ (2 ≤ c.kind ∧ c.kind ≤ 12) := by
  obtain ⟨h1, h2⟩ := (mayC_iff c).1 h
  obtain ⟨f1, f2, f3, f4, f5, f6, f7⟩ := alone_facts h2
  obtain ⟨g1, g2, g3, g4, g5, g6, g7, g8, g9⟩ := f1 hk
  have hid : ∀ n, idB n = true → 1 ≤ n ∧ n ≤ 99999 := fun n h => (frB_iff _ _ _).1 h
  have hpr : c.kind = 5 → prioB c = true := by
    intro e
    unfold partsB at h1
    rw [if_neg hk, if_neg (by omega), if_pos e] at h1
    simp only [Bool.and_eq_true] at h1
    exact h1.1.2
  have htm : c.kind = 5 ∨ c.kind = 10 → timeB c = true := by
    intro e
    unfold partsB at h1
    rcases e with e | e
    · rw [if_neg hk, if_neg (by omega), if_pos e] at h1
      simp only [Bool.and_eq_true] at h1
      exact h1.2
    · rw [if_neg hk, if_neg (by omega), if_neg (by omega), if_neg (by omega), if_neg (by omega), if_pos e] at h1
      simp only [Bool.and_eq_true] at h1
      exact h1.1.2
  have hnd : c.kind = 6 ∨ c.kind = 10 → sizeB c.nodes = true := by
    intro e
    unfold partsB at h1
    rcases e with e | e
    · rw [if_neg hk, if_neg (by omega), if_neg (by omega), if_pos e] at h1
      simp only [Bool.and_eq_true] at h1
      exact h1.2
    · rw [if_neg hk, if_neg (by omega), if_neg (by omega), if_neg (by omega), if_neg (by omega), if_pos e] at h1
      simp only [Bool.and_eq_true] at h1
      exact h1.2
  have h10 : c.kind = 10 → tickB c.frm = true ∧ c.hasTime = true := by
    intro e
    unfold partsB at h1
    rw [if_neg hk, if_neg (by omega), if_neg (by omega), if_neg (by omega), if_neg (by omega), if_pos e] at h1
    simp only [Bool.and_eq_true] at h1
    exact ⟨h1.1.1.1, h1.1.1.2⟩
  have h5 : c.kind = 5 → c.hasPrio = true ∨ c.hasTime = true := by
    intro e
    unfold partsB at h1
    rw [if_neg hk, if_neg (by omega), if_pos e] at h1
    simp only [Bool.and_eq_true, Bool.or_eq_true] at h1
    exact h1.1.1.2
  have hk12 : 2 ≤ c.kind ∧ c.kind ≤ 12 := by
    unfold partsB at h1
    repeat' split at h1
    all_goals first | omega | cases h1
  refine ⟨⟨fun e => absurd g2 e, fun e => absurd g3 e, fun e => ?_, ⟨fun e => absurd g9 e, by rw [g9]; simp, by rw [g9]; simp, by rw [g9]; simp⟩, fun e => ⟨e, (h10 e).1⟩, fun e => ?_, ⟨fun e => absurd g5 e, by rw [g5]; simp, by rw [g5]; simp⟩, fun e => absurd g7 e, fun e => ?_⟩, ⟨?_, f4, fun _ => g6, ?_⟩, g4, g8, g5, g1, ?_, h5, ?_, ?_, ?_, ?_, hk12⟩
  · by_cases k5 : c.kind = 5
    · exact ⟨.inr k5, (prioB_iff (hpr k5)).1 e⟩
    · rw [(f2 hk k5).2] at e; cases e
  · by_cases k6 : c.kind = 6 ∨ c.kind = 10
    · exact ⟨by omega, hnd k6⟩
    · exact absurd (f5 (by omega) (by omega)) e
  · by_cases k5 : c.kind = 5 ∨ c.kind = 10
    · exact ⟨by omega, (timeB_iff (htm k5)).1 e⟩
    · rw [(f3 (by omega) (by omega)).2] at e; cases e
  · intro e
    by_cases k5 : c.kind = 5
    · exact (prioB_iff (hpr k5)).2 e
    · exact (f2 hk k5).1
  · intro e
    by_cases k5 : c.kind = 5 ∨ c.kind = 10
    · exact (timeB_iff (htm k5)).2 e
    · exact (f3 (by omega) (by omega)).1
  · intro e
    refine hid _ ?_
    unfold partsB at h1
    rw [if_neg hk] at h1
    by_cases k5 : c.kind = 5
    · rw [if_neg (by omega), if_pos k5] at h1
      simp only [Bool.and_eq_true] at h1
      exact h1.1.1.1
    · by_cases k6 : c.kind = 6
      · rw [if_neg (by omega), if_neg k5, if_pos k6] at h1
        simp only [Bool.and_eq_true] at h1
        exact h1.1
      · rw [if_pos (by omega)] at h1; exact h1
  · intro e
    have := (sizeB_iff _).1 (hnd (.inl e))
    omega
  · intro e
    unfold partsB at h1
    rw [if_neg hk, if_neg (by omega), if_neg (by omega), if_neg (by omega), if_pos e] at h1
    exact (frB_iff _ _ _).1 h1
  · intro e
    have := (sizeB_iff _).1 (hnd (.inr e))
    exact ⟨by omega, (h10 e).2⟩
  · intro e
    unfold partsB at h1
    rw [if_neg hk, if_neg (by omega), if_neg (by omega), if_neg (by omega), if_neg (by omega), if_neg (by omega), if_pos e] at h1
    simp only [Bool.or_eq_true, beq_iff_eq] at h1
    rcases h1 with h1 | h1
    · exact .inl h1
    · exact .inr (hid _ h1)
theorem sub_spread {c : Co} (h : SubOk c) (hk : c.kind = 1) : SpOk c.kind (spreadC c) ∧ SpRest (spreadC c) := by
  have hu : c.user ≠ nil_ → c.kind = 1 ∧ nameB c.user = true := fun _ => ⟨hk, h.user.1⟩
  have ha : c.account ≠ nil_ → c.kind = 1 ∧ nameB c.account = true := fun _ => ⟨hk, h.account.1⟩
  have hp : c.hasPrio = true → (c.kind = 1 ∨ c.kind = 5) ∧ prB c.prio = true := fun e => ⟨.inl hk, (prioB_iff h.prio).1 e⟩
  have hd := (depsB_iff _).1 h.after
  have hd2 : (c.after ≠ [] → c.kind = 1) ∧ c.after.length ≤ 4 ∧ (∀ d ∈ c.after, depOk d = true) ∧ (c.after.map Prod.snd).Nodup := ⟨fun _ => hk, hd⟩
  have hf : c.kind = 10 → c.kind = 10 ∧ tickB c.frm = true := fun e => by omega
  rcases shape_cases h.shape with ⟨k1, ⟨a, ea, oa⟩, e1, e2, e3⟩ | ⟨k2, n2, l2, o2, e1, e2, e3⟩ | ⟨k3, n3, b1, b2, b3⟩
  · rw [spread1 k1 ea]
    obtain ⟨o1, o2⟩ := (altOk_iff a).1 oa
    exact ⟨⟨hu, ha, hp, hd2, hf, fun _ => ⟨.inl hk, o1⟩, ⟨fun e => absurd rfl e, by simp, by simp⟩, fun e => absurd e2 e, fun _ => ⟨.inl hk, o2⟩⟩, ⟨(prioB_iff h.prio).2, fun _ => h.frm, fun _ => e1, fun e => by cases e⟩⟩
  · rw [spread2 k2]
    exact ⟨⟨hu, ha, hp, hd2, hf, fun e => absurd h.nodes e, ⟨fun _ => hk, l2, o2⟩, fun e => absurd e2 e, fun e => by rw [h.time.2] at e; cases e⟩, ⟨(prioB_iff h.prio).2, fun _ => h.frm, fun _ => e1, fun _ => h.time.1⟩⟩
  · rw [spread3 k3]
    exact ⟨⟨hu, ha, hp, hd2, hf, fun e => absurd h.nodes e, ⟨fun e => absurd n3 e, by rw [n3]; simp, by rw [n3]; simp⟩, fun e => ⟨hk, b1, b2⟩, fun e => ⟨.inl hk, b3⟩⟩, ⟨(prioB_iff h.prio).2, fun _ => h.frm, fun e => by have := (sizeB_iff _).1 b2; have e' : c.mx = 0 := e; omega, fun e => by cases e⟩⟩
theorem may_ok {c : Co} (h : mayC c = true) : SpOk c.kind (spreadC c) ∧ SpRest (spreadC c) := by
  by_cases hk : c.kind = 1
  · exact sub_spread (sub_ok h hk) hk
  · obtain ⟨h1, h2, h3, _⟩ := other_ok h hk
    rw [spread_plain h3]
    exact ⟨h1, h2⟩
theorem on_mem {b : Bool} {s : ByteArray} {v : Vl} (h : b = true) : (s, v) ∈ onF b s v := by unfold onF; rw [if_pos h]; simp
theorem mem_range {S : Co} (h : S.mx ≠ 0) : (kRange, Vl.span S.mn S.mx) ∈ fieldsS S := by unfold fieldsS; simp only [List.mem_append]; exact .inl (.inr (on_mem (decide_eq_true h)))
def nameTk (s : ByteArray) : Tok := (if wordB s = true then 1 else 4, s, 0, 0)
theorem kind_bd {c : Co} (h : mayC c = true) : 1 ≤ c.kind ∧ c.kind ≤ 12 := by
  by_cases hk : c.kind = 1
  · omega
  · have := (other_ok h hk).2.2.2.2.2.2.2.2.2.2.2.2; omega
theorem name_bytes {s : ByteArray} (h : nameB s = true) : ckE s = 0 ∧ s.size ≤ 64 := by
  unfold nameB at h
  rw [Bool.and_eq_true, decide_eq_true_iff, frB_iff] at h
  obtain ⟨h1, _, h2⟩ := h
  refine ⟨h1, ?_⟩
  have hn : ckN s = cn s := by
    unfold ckE at h1
    unfold ckN cn
    rcases chk_good 0 (ps s 0) with ⟨a, b, _⟩ | ⟨a, _, _, _⟩
    · omega
    · rw [a] at h1; simp at h1
  have hg := encB_rn (goodR_of_ck h1)
  have hz : s.size = (encL (rn s)).length := by
    conv => lhs; rw [← hg]
    rw [Lib.size_eq, encB_data]
  have := encL_length (rn s)
  rw [rn_length] at this
  omega
theorem name_ok {s : ByteArray} (h : nameB s = true) : chE (nameTk s) = 0 ∧ (wrB (nameTk s)).data.toList = nameT s := by
  obtain ⟨h1, h2⟩ := name_bytes h
  have hc : chE (nameTk s) = 0 := by
    unfold nameTk
    split
    · rename_i hw; exact of_decide_eq_true hw
    · exact chE_txt s h1 (by omega)
  refine ⟨hc, ?_⟩
  unfold nameT txS
  rw [show ((if wordB s = true then 1 else 4, s, 0, 0) : Tok) = nameTk s from rfl, if_pos hc]
def vlOk : Vl → Prop
  | .word s => wordB s = true
  | .num n => 0 ≤ n ∧ n ≤ 1000000
  | .id n => 0 ≤ n ∧ n ≤ 1000000
  | .tk n => 1 ≤ n ∧ n ≤ 1000000
  | .opt a b => (0 ≤ a ∧ a ≤ 1000000) ∧ 1 ≤ b ∧ b ≤ 1000000
  | .span a b => (0 ≤ a ∧ a ≤ 1000000) ∧ 0 ≤ b ∧ b ≤ 1000000
theorem key_ok : ∀ s ∈ [kUser, kAccount, kPrio, kAny, kGood, kBad, kFrom, kNodes, kAlt, kRange, kTime], chE (wrd s) = 0 := by decide +kernel
theorem fields_wr {c : Co} (h : mayC c = true) : ∀ f ∈ fieldsC c, chE (wrd f.1) = 0 ∧ vlOk f.2 := by
  obtain ⟨s1, s2⟩ := may_ok h
  have hw : (spreadC c).user ≠ nil_ → wordB (spreadC c).user = true ∧ wordB (spreadC c).account = true := by
    intro e
    have hk := (s1.user e).1
    have s := sub_ok h hk
    have eu : (spreadC c).user = c.user ∧ (spreadC c).account = c.account := by unfold spreadC; split; exact ⟨rfl, rfl⟩; split <;> exact ⟨rfl, rfl⟩
    rw [eu.1, eu.2]
    exact ⟨s.user.2, s.account.2⟩
  have hw2 : (spreadC c).account ≠ nil_ → wordB (spreadC c).account = true := by
    intro e
    have hk := (s1.account e).1
    have s := sub_ok h hk
    have eu : (spreadC c).account = c.account := by unfold spreadC; split; rfl; split <;> rfl
    rw [eu]
    exact s.account.2
  have key := key_ok
  intro f hf
  unfold fieldsC fieldsS at hf
  simp only [List.mem_append] at hf
  rcases hf with (((((((hf | hf) | hf) | hf) | hf) | hf) | hf) | hf) | hf
  · have e := mem_onF hf
    unfold onF at hf; split at hf
    · rename_i hb; rw [e]; exact ⟨key _ (by simp), (hw (of_decide_eq_true hb)).1⟩
    · simp at hf
  · have e := mem_onF hf
    unfold onF at hf; split at hf
    · rename_i hb; rw [e]; exact ⟨key _ (by simp), hw2 (of_decide_eq_true hb)⟩
    · simp at hf
  · have e := mem_onF hf
    unfold onF at hf; split at hf
    · rename_i hb; rw [e]; refine ⟨key _ (by simp), ?_⟩
      have := (frB_iff _ _ _).1 (s1.prio hb).2
      show 0 ≤ (spreadC c).prio ∧ (spreadC c).prio ≤ 1000000
      omega
    · simp at hf
  · obtain ⟨d, hd, rfl⟩ := List.mem_map.1 hf
    obtain ⟨q1, q2⟩ := (depOk_iff d).1 (s1.after.2.2.1 d hd)
    refine ⟨?_, by show 0 ≤ d.2 ∧ d.2 ≤ 1000000; omega⟩
    show chE (wrd (howW d.1)) = 0
    rcases how3 q1 with ⟨_, e⟩ | ⟨_, e⟩ | ⟨_, e⟩ <;> (rw [e]; exact key _ (by simp))
  · have e := mem_onF hf
    unfold onF at hf; split at hf
    · rename_i hb; rw [e]; refine ⟨key _ (by simp), ?_⟩
      have := (frB_iff _ _ _).1 (s1.frm (by simpa using hb)).2
      show 0 ≤ (spreadC c).frm ∧ (spreadC c).frm ≤ 1000000
      omega
    · simp at hf
  · have e := mem_onF hf
    unfold onF at hf; split at hf
    · rename_i hb; rw [e]; refine ⟨key _ (by simp), ?_⟩
      have := (frB_iff _ _ _).1 (s1.nodes (of_decide_eq_true hb)).2
      show 0 ≤ (spreadC c).nodes ∧ (spreadC c).nodes ≤ 1000000
      omega
    · simp at hf
  · obtain ⟨a, ha, rfl⟩ := List.mem_map.1 hf
    obtain ⟨q1, q2⟩ := (altOk_iff a).1 (s1.alts.2.2 a ha)
    have := (sizeB_iff _).1 q1
    have := (lenB_iff _).1 q2
    exact ⟨key kAlt (by simp), by show (0 ≤ a.1 ∧ a.1 ≤ 1000000) ∧ 1 ≤ a.2 ∧ a.2 ≤ 1000000; omega⟩
  · have e := mem_onF hf
    unfold onF at hf; split at hf
    · rename_i hb; rw [e]; refine ⟨key _ (by simp), ?_⟩
      obtain ⟨_, q1, q2⟩ := s1.span (of_decide_eq_true hb)
      have := (sizeB_iff _).1 q1
      have := (sizeB_iff _).1 q2
      show (0 ≤ (spreadC c).mn ∧ (spreadC c).mn ≤ 1000000) ∧ 0 ≤ (spreadC c).mx ∧ (spreadC c).mx ≤ 1000000
      omega
    · simp at hf
  · have e := mem_onF hf
    unfold onF at hf; split at hf
    · rename_i hb; rw [e]; refine ⟨key _ (by simp), ?_⟩
      have := (lenB_iff _).1 (s1.time hb).2
      show 1 ≤ (spreadC c).time ∧ (spreadC c).time ≤ 1000000
      omega
    · simp at hf
theorem line_size (c : Co) : (lineB c).size = (lineT c).length := by rw [Lib.size_eq]; rfl
end Go.Proofs.YtdkngidangfkiaaGreatDoor.Cmd
namespace Go.Proofs.YtdkngidangfkiaaGreatDoor.Cmd
open Go.RowKit
open Base Runes Lex
set_option linter.unusedVariables false
def awC : Co := ⟨1, 0, ⟨#[97]⟩, ⟨#[117]⟩, ⟨#[120]⟩, 1, [(2, 90)], 0, 0, 0, 0, false, 0, false, [], 0, 0, 0⟩
set_option maxRecDepth 100000 in
theorem aw_read : parseC ⟨#[115, 117, 98, 109, 105, 116, 32, 97, 32, 117, 115, 101, 114, 61, 117, 32, 97, 99, 99, 111, 117, 110, 116, 61, 120, 32, 110, 111, 100, 101, 115, 61, 50, 32, 116, 105, 109, 101, 61, 57, 48]⟩ = (awC, 41, 0) := by kernel_rfl
set_option maxRecDepth 100000 in
theorem aw_two : parseC ⟨#[99, 97, 110, 99, 101, 108, 32, 53, 32, 54]⟩ = (zCo 0, 9, 80) := by kernel_rfl
set_option maxRecDepth 100000 in
theorem aw_end : parseC ⟨#[99, 97, 110, 99, 101, 108]⟩ = (zCo 0, 6, 80) := by kernel_rfl
theorem aw_nil : chkC (zCo 0) = 80 := by kernel_rfl
set_option maxRecDepth 100000 in
theorem aw_show : showC awC = (⟨#[115, 117, 98, 109, 105, 116, 32, 97, 32, 117, 115, 101, 114, 61, 117, 32, 97, 99, 99, 111, 117, 110, 116, 61, 120, 32, 110, 111, 100, 101, 115, 61, 50, 32, 116, 105, 109, 101, 61, 49, 109, 51, 48, 115]⟩, 0) := by kernel_rfl
end Go.Proofs.YtdkngidangfkiaaGreatDoor.Cmd
