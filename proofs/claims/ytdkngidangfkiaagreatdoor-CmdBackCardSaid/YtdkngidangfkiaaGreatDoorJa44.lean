/-
  Joined out of: The walks of the statements of layer 8: 'Few', 'awake'.
-/
import Derived.Test.YtdkngidangfkiaaGreatDoorJa12
import Derived.Test.YtdkngidangfkiaaGreatDoorJa38
import Derived.Test.YtdkngidangfkiaaGreatDoorJa43
import Derived.Test.YtdkngidangfkiaaGreatDoorJa33
import Derived.Test.YtdkngidangfkiaaGreatDoorJa37
namespace Go.Proofs.YtdkngidangfkiaaGreatDoor.Cmd
open Go.RowKit
open Base Runes Lex
open Shape (altC_length altC)
set_option linter.unusedVariables false
set_option linter.unusedSimpArgs false
theorem few7_any (k : Int) (ao : Option Addr) (len cap : Nat) (mn mx wl : Int) (w : World) (hl : len ≤ maxLen) :
    Calls Tryz.prog 17 #[.agg #[.int .i64 k, .slice ao len cap, .int .i64 mn, .int .i64 mx, .int .i64 wl]] w fun e w' => e = .returned (.bool (decide (len ≤ 100))) ∧ Below w.heap.size w w' := by
  unfold maxLen at hl
  by_cases h : len ≤ 100
  · have HX : Hid (true = decide (len ≤ 100)) := Lib.hid (by rw [decide_eq_true h])
    go_enter Tryz.func17, Tryz.ntmps17
    go_wp2
    go_ret
    exact ⟨ret_bool (by rw [← HX.out]; simp; omega), by (focus repeat (first | exact Below.refl _ _ | assumption | (exact Hid.out (by assumption)) | (with_reducible refine Below.drew ?_) | (with_reducible refine Base.below_drewN ?_ _) | (refine Below.from (below_one _) ?_) | (refine Below.from (below_conv _ _ _) ?_) | (refine Below.setCell ?_ (by simp <;> omega) _) | (refine Below.from (by assumption) ?_)))⟩
  · have HX : Hid (false = decide (len ≤ 100)) := Lib.hid (by rw [decide_eq_false h])
    go_enter Tryz.func17, Tryz.ntmps17
    go_wp2
    go_ret
    exact ⟨ret_bool (by rw [← HX.out]; simp; omega), by (focus repeat (first | exact Below.refl _ _ | assumption | (exact Hid.out (by assumption)) | (with_reducible refine Below.drew ?_) | (with_reducible refine Base.below_drewN ?_ _) | (refine Below.from (below_one _) ?_) | (refine Below.from (below_conv _ _ _) ?_) | (refine Below.setCell ?_ (by simp <;> omega) _) | (refine Below.from (by assumption) ?_)))⟩
def fewC (c : Co) : Bool := decide (c.alts.length ≤ 100) && (decide ((c.after.length : Int) ≤ 100) && (decide ((c.name.size : Int) ≤ 1000) && (decide ((c.user.size : Int) ≤ 1000) && decide ((c.account.size : Int) ≤ 1000))))
set_option maxRecDepth 100000 in
set_option maxHeartbeats 2000000 in
theorem few8_any (c : Co) (va vd : Value) (w : World) (h1 : Row w va c.alts) (h2 : Row w vd c.after) :
    Calls Tryz.prog 7 #[cmdV c va vd] w fun e w' => e = .returned (.bool (fewC c)) ∧ Below w.heap.size w w' := by
  obtain ⟨a1, a2, a3, a4, a5, a6, a7, a8, a9, a10, a11, a12, a13, a14, a15, a16, a17, a18⟩ := c
  obtain ⟨pa, qa, rfl, l1, m1, r1, n1⟩ := h1
  obtain ⟨pd, qd, rfl, l2, m2, r2, n2⟩ := h2
  unfold cmdV fewC
  dsimp only at *
  have c1 := fun w => few7_any a6 pa a7.length qa a8 a9 a10 w (by omega)
  obtain ⟨F, hF⟩ : ∃ F, F = decide (a7.length ≤ 100) := ⟨_, rfl⟩
  rw [← hF] at c1 ⊢
  obtain ⟨la, hla⟩ : ∃ n, n = a15.length := ⟨_, rfl⟩
  rw [← hla]
  have C1 := Lib.hid c1
  have hbx : ∀ w2, Below (w.alloc (.cells #[.int .i64 a1, .int .i64 a2, .string a3, .string a4, .string a5, .int .i64 a6, .slice pa a7.length qa, .int .i64 a8, .int .i64 a9, .int .i64 a10, .int .i64 a11, .bool a12, .int .i64 a13, .bool a14, .slice pd la qd, .int .i64 a16, .int .i64 a17, .int .i64 a18] 27)).heap.size (w.alloc (.cells #[.int .i64 a1, .int .i64 a2, .string a3, .string a4, .string a5, .int .i64 a6, .slice pa a7.length qa, .int .i64 a8, .int .i64 a9, .int .i64 a10, .int .i64 a11, .bool a12, .int .i64 a13, .bool a14, .slice pd la qd, .int .i64 a16, .int .i64 a17, .int .i64 a18] 27)) w2 → w2.heap[w.heap.size]? = some (.cells #[.int .i64 a1, .int .i64 a2, .string a3, .string a4, .string a5, .int .i64 a6, .slice pa a7.length qa, .int .i64 a8, .int .i64 a9, .int .i64 a10, .int .i64 a11, .bool a12, .int .i64 a13, .bool a14, .slice pd la qd, .int .i64 a16, .int .i64 a17, .int .i64 a18] 27) := fun w2 hb => box_cmd hb
  have HC := Lib.hid hbx
  clear c1 hF hla hbx r1 r2 n1 n2 l1 l2 m1 m2
  go_enter Tryz.func7, Tryz.ntmps7
  go_wp2_with (first
    | (go_at_call 17; (with_reducible refine (C1.out _).mono ?_); rintro e w1 ⟨rfl, p1⟩; obtain ⟨x0, x1, x2, x3, x4, x5, x6, x7, x8, x9, x10, x11, x12, x13, x14, x15, x16, x17⟩ := all18 (HC.out _ p1))
    | fail)
  all_goals first
    | (go_ret; refine ⟨ret_bool ?_, by (focus repeat (first | exact Below.refl _ _ | assumption | (exact Hid.out (by assumption)) | (with_reducible refine Below.drew ?_) | (with_reducible refine Base.below_drewN ?_ _) | (refine Below.from (below_one _) ?_) | (refine Below.from (below_conv _ _ _) ?_) | (refine Below.setCell ?_ (by simp <;> omega) _) | (refine Below.from (by assumption) ?_)))⟩; first | (simp [*]; done) | (simp [*]; omega))
    | trace_state
theorem awC_rows {w : World} {va vd : Value} (h1 : Row w va awC.alts) (h2 : Row w vd awC.after) : ∃ pa qa pd qd, va = .slice pa 1 qa ∧ vd = .slice pd 0 qd := by
  obtain ⟨pa, qa, e1, _⟩ := h1
  obtain ⟨pd, qd, e2, _⟩ := h2
  exact ⟨pa, qa, pd, qd, e1, e2⟩
theorem zC_rows {w : World} {va vd : Value} (h1 : Row w va (zCo 0).alts) (h2 : Row w vd (zCo 0).after) : ∃ pa qa pd qd, va = .slice pa 0 qa ∧ vd = .slice pd 0 qd := by
  obtain ⟨pa, qa, e1, _⟩ := h1
  obtain ⟨pd, qd, e2, _⟩ := h2
  exact ⟨pa, qa, pd, qd, e1, e2⟩
set_option maxRecDepth 100000 in
set_option maxHeartbeats 4000000 in
theorem awake8_any (w : World) (hT : Tb w) :
    Calls Tryz.prog 8 #[] w fun e w' => e = .returned (.bool true) ∧ Below w.heap.size w w' := by
  have c1 := parse_any ⟨#[115, 117, 98, 109, 105, 116, 32, 97, 32, 117, 115, 101, 114, 61, 117, 32, 97, 99, 99, 111, 117, 110, 116, 61, 120, 32, 110, 111, 100, 101, 115, 61, 50, 32, 116, 105, 109, 101, 61, 57, 48]⟩ (by decide) w hT
  have c2 := fun w (hT : Tb w) => parse_any ⟨#[99, 97, 110, 99, 101, 108, 32, 53, 32, 54]⟩ (by decide) w hT
  have c3 := fun w (hT : Tb w) => parse_any ⟨#[99, 97, 110, 99, 101, 108]⟩ (by decide) w hT
  unfold ParseSays at c1 c2 c3
  rw [aw_read] at c1
  simp only [aw_two] at c2
  simp only [aw_end] at c3
  have C1 := Lib.hid c1
  have C2 := Lib.hid c2
  have C3 := Lib.hid c3
  have HT := Lib.hid hT
  clear c1 c2 c3 hT
  go_enter Tryz.func8, Tryz.ntmps8
  go_upto_region 2 with (first
    | (go_at_call 15; go_loud ((with_reducible refine C1.out.mono ?_); rintro e w1 ⟨va, vd, rfl, h1, h2, p1⟩; obtain ⟨pa, qa, pd, qd, rfl, rfl⟩ := awC_rows h1 h2; have H1 := Lib.hid h1; have H2 := Lib.hid h2; have P1 := Lib.hid p1; clear h1 h2 p1; unfold cmdV awC; dsimp only))
    | (refine st_cmd rfl (.tmp 1) (.tmp 14) rfl w1.heap.size _ _ zArr rfl rfl (heap_alloc_new _ _) rfl rfl (by kernel_rfl) ?_)
    | fail)
  have hB1 : Below w1.heap.size w1 ((w1.alloc (.cells #[.int .i64 0, .int .i64 0, .string ⟨#[]⟩, .string ⟨#[]⟩, .string ⟨#[]⟩, .int .i64 0, .slice none 0 0, .int .i64 0, .int .i64 0, .int .i64 0, .int .i64 0, .bool false, .int .i64 0, .bool false, .slice none 0 0, .int .i64 0, .int .i64 0, .int .i64 0] 27)).setRow w1.heap.size #[.int .i64 1, .int .i64 0, .string ⟨#[97]⟩, .string ⟨#[117]⟩, .string ⟨#[120]⟩, .int .i64 1, .slice pa 1 qa, .int .i64 0, .int .i64 0, .int .i64 0, .int .i64 0, .bool false, .int .i64 0, .bool false, .slice pd 0 qd, .int .i64 0, .int .i64 0, .int .i64 0]) := below_setRow (below_one _) _ _ (Nat.le_refl _)
  have hA1 : ((w1.alloc (.cells #[.int .i64 0, .int .i64 0, .string ⟨#[]⟩, .string ⟨#[]⟩, .string ⟨#[]⟩, .int .i64 0, .slice none 0 0, .int .i64 0, .int .i64 0, .int .i64 0, .int .i64 0, .bool false, .int .i64 0, .bool false, .slice none 0 0, .int .i64 0, .int .i64 0, .int .i64 0] 27)).setRow w1.heap.size #[.int .i64 1, .int .i64 0, .string ⟨#[97]⟩, .string ⟨#[117]⟩, .string ⟨#[120]⟩, .int .i64 1, .slice pa 1 qa, .int .i64 0, .int .i64 0, .int .i64 0, .int .i64 0, .bool false, .int .i64 0, .bool false, .slice pd 0 qd, .int .i64 0, .int .i64 0, .int .i64 0]).heap[w1.heap.size]? = some (.cells #[.int .i64 1, .int .i64 0, .string ⟨#[97]⟩, .string ⟨#[117]⟩, .string ⟨#[120]⟩, .int .i64 1, .slice pa 1 qa, .int .i64 0, .int .i64 0, .int .i64 0, .int .i64 0, .bool false, .int .i64 0, .bool false, .slice pd 0 qd, .int .i64 0, .int .i64 0, .int .i64 0] 27) := setRow_heap _ _ _ _ _ _ (heap_alloc_new _ _)
  obtain ⟨W1, hW1⟩ : ∃ W, W = ((w1.alloc (.cells #[.int .i64 0, .int .i64 0, .string ⟨#[]⟩, .string ⟨#[]⟩, .string ⟨#[]⟩, .int .i64 0, .slice none 0 0, .int .i64 0, .int .i64 0, .int .i64 0, .int .i64 0, .bool false, .int .i64 0, .bool false, .slice none 0 0, .int .i64 0, .int .i64 0, .int .i64 0] 27)).setRow w1.heap.size #[.int .i64 1, .int .i64 0, .string ⟨#[97]⟩, .string ⟨#[117]⟩, .string ⟨#[120]⟩, .int .i64 1, .slice pa 1 qa, .int .i64 0, .int .i64 0, .int .i64 0, .int .i64 0, .bool false, .int .i64 0, .bool false, .slice pd 0 qd, .int .i64 0, .int .i64 0, .int .i64 0]) := ⟨_, rfl⟩
  rw [← hW1] at hB1 hA1 ⊢
  clear hW1
  have HA1 := Lib.hid hA1
  have HB1 := Lib.hid (P1.out.trans (hB1.mono P1.out.size))
  have R1 : Row W1 (.slice pa 1 qa) awC.alts := H1.out.below hB1
  have R2 : Row W1 (.slice pd 0 qd) awC.after := H2.out.below hB1
  have RR1 := Lib.hid R1
  have RR2 := Lib.hid R2
  have cS := show_any awC _ _ W1 (HT.out.later HB1.out) R1 R2 (by decide) (by decide) (by decide)
  rw [aw_show] at cS
  have cE := fun W (hb : Below W1.heap.size W1 W) => same_any awC awC _ _ _ _ W (R1.below hb) (R2.below hb) (R1.below hb) (R2.below hb)
  rw [(sameC_iff awC awC).2 rfl] at cE
  unfold cmdV awC at cS cE
  dsimp only at cS cE
  have CS1 := Lib.hid cS
  have CE := Lib.hid cE
  have cK := fun W (hT : Tb W) => check_any (zCo 0) (.slice none 0 0) (.slice none 0 0) W hT (Row.nil W) (Row.nil W) (by decide) (by decide) (by decide)
  rw [aw_nil] at cK
  unfold cmdV zCo nil_ at cK
  dsimp only at cK
  have CK := Lib.hid cK
  have hlt1 : w1.heap.size < W1.heap.size := (Array.getElem?_eq_some_iff.1 hA1).1
  have HLT1 := Lib.hid hlt1
  clear hA1 hB1 R1 R2 cS cE cK hlt1
  go_upto_region 3 with (first
    | (refine ld_cmd rfl (.tmp 1) rfl w1.heap.size _ _ rfl HA1.out rfl ?_)
    | (go_at_call 9; go_loud ((with_reducible refine CS1.out.mono ?_); rintro e w2 ⟨rfl, p2⟩))
    | fail)
  have HP2 := Lib.hid p2
  have hT2 := HT.out.later (HB1.out.trans (p2.mono HB1.out.size))
  have HT2 := Lib.hid hT2
  clear p2 hT2
  go_upto_region 4 with (first
    | (go_at_call 15; go_loud ((with_reducible refine (C2.out _ HT2.out).mono ?_); rintro e w3 ⟨va3, vd3, rfl, h3, h4, p3⟩; obtain ⟨pa3, qa3, pd3, qd3, rfl, rfl⟩ := zC_rows h3 h4; have P3 := Lib.hid p3; clear h3 h4 p3; unfold cmdV zCo nil_; dsimp only))
    | (refine st_cmd rfl (.tmp 6) (.tmp 24) rfl w3.heap.size _ _ zArr rfl rfl (heap_alloc_new _ _) rfl rfl (by kernel_rfl) ?_)
    | fail)
  have hB3 : Below w3.heap.size w3 ((w3.alloc (.cells #[.int .i64 0, .int .i64 0, .string ⟨#[]⟩, .string ⟨#[]⟩, .string ⟨#[]⟩, .int .i64 0, .slice none 0 0, .int .i64 0, .int .i64 0, .int .i64 0, .int .i64 0, .bool false, .int .i64 0, .bool false, .slice none 0 0, .int .i64 0, .int .i64 0, .int .i64 0] 27)).setRow w3.heap.size #[.int .i64 0, .int .i64 0, .string ⟨#[]⟩, .string ⟨#[]⟩, .string ⟨#[]⟩, .int .i64 0, .slice pa3 0 qa3, .int .i64 0, .int .i64 0, .int .i64 0, .int .i64 0, .bool false, .int .i64 0, .bool false, .slice pd3 0 qd3, .int .i64 0, .int .i64 0, .int .i64 0]) := below_setRow (below_one _) _ _ (Nat.le_refl _)
  have hA3 : ((w3.alloc (.cells #[.int .i64 0, .int .i64 0, .string ⟨#[]⟩, .string ⟨#[]⟩, .string ⟨#[]⟩, .int .i64 0, .slice none 0 0, .int .i64 0, .int .i64 0, .int .i64 0, .int .i64 0, .bool false, .int .i64 0, .bool false, .slice none 0 0, .int .i64 0, .int .i64 0, .int .i64 0] 27)).setRow w3.heap.size #[.int .i64 0, .int .i64 0, .string ⟨#[]⟩, .string ⟨#[]⟩, .string ⟨#[]⟩, .int .i64 0, .slice pa3 0 qa3, .int .i64 0, .int .i64 0, .int .i64 0, .int .i64 0, .bool false, .int .i64 0, .bool false, .slice pd3 0 qd3, .int .i64 0, .int .i64 0, .int .i64 0]).heap[w3.heap.size]? = some (.cells #[.int .i64 0, .int .i64 0, .string ⟨#[]⟩, .string ⟨#[]⟩, .string ⟨#[]⟩, .int .i64 0, .slice pa3 0 qa3, .int .i64 0, .int .i64 0, .int .i64 0, .int .i64 0, .bool false, .int .i64 0, .bool false, .slice pd3 0 qd3, .int .i64 0, .int .i64 0, .int .i64 0] 27) := setRow_heap _ _ _ _ _ _ (heap_alloc_new _ _)
  obtain ⟨W3, hW3⟩ : ∃ W, W = ((w3.alloc (.cells #[.int .i64 0, .int .i64 0, .string ⟨#[]⟩, .string ⟨#[]⟩, .string ⟨#[]⟩, .int .i64 0, .slice none 0 0, .int .i64 0, .int .i64 0, .int .i64 0, .int .i64 0, .bool false, .int .i64 0, .bool false, .slice none 0 0, .int .i64 0, .int .i64 0, .int .i64 0] 27)).setRow w3.heap.size #[.int .i64 0, .int .i64 0, .string ⟨#[]⟩, .string ⟨#[]⟩, .string ⟨#[]⟩, .int .i64 0, .slice pa3 0 qa3, .int .i64 0, .int .i64 0, .int .i64 0, .int .i64 0, .bool false, .int .i64 0, .bool false, .slice pd3 0 qd3, .int .i64 0, .int .i64 0, .int .i64 0]) := ⟨_, rfl⟩
  rw [← hW3] at hB3 hA3 ⊢
  clear hW3
  have q3 : Below W1.heap.size W1 W3 := (HP2.out.trans (P3.out.mono HP2.out.size)).trans (hB3.mono (HP2.out.trans (P3.out.mono HP2.out.size)).size)
  have HQ3 := Lib.hid q3
  have HT3 := Lib.hid (HT.out.later (HB1.out.trans (q3.mono HB1.out.size)))
  clear hA3 hB3 q3
  go_upto_region 5 with (first
    | (go_at_call 15; go_loud ((with_reducible refine (C3.out _ HT3.out).mono ?_); rintro e w4 ⟨va4, vd4, rfl, h3, h4, p4⟩; obtain ⟨pa4, qa4, pd4, qd4, rfl, rfl⟩ := zC_rows h3 h4; have P4 := Lib.hid p4; clear h3 h4 p4; unfold cmdV zCo nil_; dsimp only))
    | (refine st_cmd rfl (.tmp 9) (.tmp 29) rfl w4.heap.size _ _ zArr rfl rfl (heap_alloc_new _ _) rfl rfl (by kernel_rfl) ?_)
    | fail)
  have hB4 : Below w4.heap.size w4 ((w4.alloc (.cells #[.int .i64 0, .int .i64 0, .string ⟨#[]⟩, .string ⟨#[]⟩, .string ⟨#[]⟩, .int .i64 0, .slice none 0 0, .int .i64 0, .int .i64 0, .int .i64 0, .int .i64 0, .bool false, .int .i64 0, .bool false, .slice none 0 0, .int .i64 0, .int .i64 0, .int .i64 0] 27)).setRow w4.heap.size #[.int .i64 0, .int .i64 0, .string ⟨#[]⟩, .string ⟨#[]⟩, .string ⟨#[]⟩, .int .i64 0, .slice pa4 0 qa4, .int .i64 0, .int .i64 0, .int .i64 0, .int .i64 0, .bool false, .int .i64 0, .bool false, .slice pd4 0 qd4, .int .i64 0, .int .i64 0, .int .i64 0]) := below_setRow (below_one _) _ _ (Nat.le_refl _)
  have hA4 : ((w4.alloc (.cells #[.int .i64 0, .int .i64 0, .string ⟨#[]⟩, .string ⟨#[]⟩, .string ⟨#[]⟩, .int .i64 0, .slice none 0 0, .int .i64 0, .int .i64 0, .int .i64 0, .int .i64 0, .bool false, .int .i64 0, .bool false, .slice none 0 0, .int .i64 0, .int .i64 0, .int .i64 0] 27)).setRow w4.heap.size #[.int .i64 0, .int .i64 0, .string ⟨#[]⟩, .string ⟨#[]⟩, .string ⟨#[]⟩, .int .i64 0, .slice pa4 0 qa4, .int .i64 0, .int .i64 0, .int .i64 0, .int .i64 0, .bool false, .int .i64 0, .bool false, .slice pd4 0 qd4, .int .i64 0, .int .i64 0, .int .i64 0]).heap[w4.heap.size]? = some (.cells #[.int .i64 0, .int .i64 0, .string ⟨#[]⟩, .string ⟨#[]⟩, .string ⟨#[]⟩, .int .i64 0, .slice pa4 0 qa4, .int .i64 0, .int .i64 0, .int .i64 0, .int .i64 0, .bool false, .int .i64 0, .bool false, .slice pd4 0 qd4, .int .i64 0, .int .i64 0, .int .i64 0] 27) := setRow_heap _ _ _ _ _ _ (heap_alloc_new _ _)
  obtain ⟨W4, hW4⟩ : ∃ W, W = ((w4.alloc (.cells #[.int .i64 0, .int .i64 0, .string ⟨#[]⟩, .string ⟨#[]⟩, .string ⟨#[]⟩, .int .i64 0, .slice none 0 0, .int .i64 0, .int .i64 0, .int .i64 0, .int .i64 0, .bool false, .int .i64 0, .bool false, .slice none 0 0, .int .i64 0, .int .i64 0, .int .i64 0] 27)).setRow w4.heap.size #[.int .i64 0, .int .i64 0, .string ⟨#[]⟩, .string ⟨#[]⟩, .string ⟨#[]⟩, .int .i64 0, .slice pa4 0 qa4, .int .i64 0, .int .i64 0, .int .i64 0, .int .i64 0, .bool false, .int .i64 0, .bool false, .slice pd4 0 qd4, .int .i64 0, .int .i64 0, .int .i64 0]) := ⟨_, rfl⟩
  rw [← hW4] at hB4 hA4 ⊢
  clear hW4
  have q4 : Below W1.heap.size W1 W4 := (HQ3.out.trans (P4.out.mono HQ3.out.size)).trans (hB4.mono (HQ3.out.trans (P4.out.mono HQ3.out.size)).size)
  have HQ4 := Lib.hid q4
  have HT4 := Lib.hid (HT.out.later (HB1.out.trans (q4.mono HB1.out.size)))
  have HA4 := Lib.hid ((q4.block w1.heap.size HLT1.out).trans HA1.out)
  obtain ⟨x0, x1, x2, x3, x4, x5, x6, x7, x8, x9, x10, x11, x12, x13, x14, x15, x16, x17⟩ := all18 HA4.out
  clear hA4 hB4 q4
  go_wp2_with (first
    | (go_at_call 11; go_loud ((with_reducible refine (CK.out _ HT4.out).mono ?_); rintro e w5 ⟨rfl, p5⟩; have HQ5 := Lib.hid (HQ4.out.trans (p5.mono HQ4.out.size)); have HA5 := Lib.hid ((HQ5.out.block w1.heap.size HLT1.out).trans HA1.out)))
    | (refine ld_cmdG rfl (.tmp 1) rfl w1.heap.size _ _ rfl HA5.out rfl ?_)
    | (go_at_call 13; go_loud ((with_reducible refine (CE.out _ HQ5.out).mono ?_); rintro e w6 ⟨rfl, p6⟩; have HQ6 := Lib.hid (HQ5.out.trans (p6.mono HQ5.out.size))))
    | fail)
  go_ret
  exact ⟨rfl, HB1.out.trans (HQ6.out.mono HB1.out.size)⟩
end Go.Proofs.YtdkngidangfkiaaGreatDoor.Cmd
