/-
  Joined out of: The walks of the statements of layer 8: CmdBack, CmdAgain (written by gen_law8b.py).
-/
import Derived.Test.YtdkngidangfkiaaGreatDoorJa44
import Derived.Test.YtdkngidangfkiaaGreatDoorJa47
import Derived.Test.YtdkngidangfkiaaGreatDoorJa48
namespace Go.Proofs.YtdkngidangfkiaaGreatDoor.Cmd
open Go.RowKit
open Base Runes Lex
set_option linter.unusedVariables false
set_option linter.unusedSimpArgs false
set_option maxRecDepth 100000 in
set_option maxHeartbeats 8000000 in
theorem cmdBack_any (c : Co) (va vd : Value) (w : World) (h1 : Row w va c.alts) (h2 : Row w vd c.after) (hT : Tb w) :
    Calls Tryz.prog 5 #[cmdV c va vd] w fun e w' => e = .returned (.bool true) ∧ Below w.heap.size w w' := by
  have cA := fun w2 (hb : Below w.heap.size w w2) => few8_any c va vd w2 (h1.below hb) (h2.below hb)
  have cW := fun w2 (hb : Below w.heap.size w w2) => awake8_any w2 (hT.later hb)
  cases hF : fewC c with
  | false =>
    simp only [hF] at cA
    obtain ⟨a1, a2, a3, a4, a5, a6, a7, a8, a9, a10, a11, a12, a13, a14, a15, a16, a17, a18⟩ := c
    obtain ⟨pa, qa, rfl, l1, m1, r1, n1⟩ := h1
    obtain ⟨pd, qd, rfl, l2, m2, r2, n2⟩ := h2
    unfold cmdV at cA ⊢
    dsimp only at *
    have CA := Lib.hid cA
    have CW := Lib.hid cW
    have HB0 := Lib.hid (below_one (w := w) (.cells #[.int .i64 a1, .int .i64 a2, .string a3, .string a4, .string a5, .int .i64 a6, .slice pa a7.length qa, .int .i64 a8, .int .i64 a9, .int .i64 a10, .int .i64 a11, .bool a12, .int .i64 a13, .bool a14, .slice pd a15.length qd, .int .i64 a16, .int .i64 a17, .int .i64 a18] 27))
    clear cA cW hT r1 r2 n1 n2 l1 l2 m1 m2 hF
    go_enter Tryz.func5, Tryz.ntmps5
    go_wp2_with (first
      | (refine ld_cmd rfl (.tmp 1) rfl w.heap.size _ _ rfl (heap_alloc_new w _) rfl ?_)
      | (go_at_call 7; go_loud ((with_reducible refine (CA.out _ HB0.out).mono ?_); rintro e w1 ⟨rfl, p⟩; have P1 := Lib.hid p; clear p))
      | (go_at_call 8; go_loud ((with_reducible refine (CW.out _ (HB0.out.trans (P1.out.mono HB0.out.size))).mono ?_); rintro e w2 ⟨rfl, p⟩; have P2 := Lib.hid (P1.out.trans (p.mono P1.out.size)); clear p))
      | fail)
    go_ret
    exact ⟨rfl, HB0.out.trans (P2.out.mono HB0.out.size)⟩
  | true =>
    have hz : c.name.size ≤ 1000 ∧ c.user.size ≤ 1000 ∧ c.account.size ≤ 1000 := by
      unfold fewC at hF; simp only [Bool.and_eq_true, decide_eq_true_eq] at hF; omega
    obtain ⟨z1, z2, z3⟩ := hz
    simp only [hF] at cA
    have cS := fun w2 (hb : Below w.heap.size w w2) => show_any c va vd w2 (hT.later hb) (h1.below hb) (h2.below hb) (by omega) (by omega) (by omega)
    have cC := fun w2 (hb : Below w.heap.size w w2) => check_any c va vd w2 (hT.later hb) (h1.below hb) (h2.below hb) (by omega) (by omega) (by omega)
    have cR := fun ua ud w2 (hb : Below w.heap.size w w2) (h3 : Row w2 ua c.alts) (h4 : Row w2 ud c.after) => rsame8_any c c va vd ua ud w2 (h1.below hb) (h2.below hb) h3 h4
    simp only [(sameC_iff c c).2 rfl] at cR
    cases hm : mayC c with
    | false =>
      have e1 : showC c = (nil_, 80) := by unfold showC; rw [hm]; rfl
      have e2 : chkC c = 80 := by unfold chkC; rw [hm]; rfl
      simp only [e1, nil_] at cS
      simp only [e2] at cC
      clear cR e1 e2
      obtain ⟨a1, a2, a3, a4, a5, a6, a7, a8, a9, a10, a11, a12, a13, a14, a15, a16, a17, a18⟩ := c
      obtain ⟨pa, qa, rfl, l1, m1, r1, n1⟩ := h1
      obtain ⟨pd, qd, rfl, l2, m2, r2, n2⟩ := h2
      unfold cmdV at cA cS cC ⊢
      dsimp only at *
      have CA := Lib.hid cA
      have CW := Lib.hid cW
      have CS := Lib.hid cS
      have CC := Lib.hid cC
      have HB0 := Lib.hid (below_one (w := w) (.cells #[.int .i64 a1, .int .i64 a2, .string a3, .string a4, .string a5, .int .i64 a6, .slice pa a7.length qa, .int .i64 a8, .int .i64 a9, .int .i64 a10, .int .i64 a11, .bool a12, .int .i64 a13, .bool a14, .slice pd a15.length qd, .int .i64 a16, .int .i64 a17, .int .i64 a18] 27))
      have HC : Hid (∀ w2, Below (w.alloc (.cells #[.int .i64 a1, .int .i64 a2, .string a3, .string a4, .string a5, .int .i64 a6, .slice pa a7.length qa, .int .i64 a8, .int .i64 a9, .int .i64 a10, .int .i64 a11, .bool a12, .int .i64 a13, .bool a14, .slice pd a15.length qd, .int .i64 a16, .int .i64 a17, .int .i64 a18] 27)).heap.size (w.alloc (.cells #[.int .i64 a1, .int .i64 a2, .string a3, .string a4, .string a5, .int .i64 a6, .slice pa a7.length qa, .int .i64 a8, .int .i64 a9, .int .i64 a10, .int .i64 a11, .bool a12, .int .i64 a13, .bool a14, .slice pd a15.length qd, .int .i64 a16, .int .i64 a17, .int .i64 a18] 27)) w2 → w2.heap[w.heap.size]? = some (.cells #[.int .i64 a1, .int .i64 a2, .string a3, .string a4, .string a5, .int .i64 a6, .slice pa a7.length qa, .int .i64 a8, .int .i64 a9, .int .i64 a10, .int .i64 a11, .bool a12, .int .i64 a13, .bool a14, .slice pd a15.length qd, .int .i64 a16, .int .i64 a17, .int .i64 a18] 27)) := Lib.hid (fun w2 hb => box_cmd hb)
      clear cA cW cS cC hT r1 r2 n1 n2 l1 l2 m1 m2 hF z1 z2 z3 hm
      go_enter Tryz.func5, Tryz.ntmps5
      go_wp2_with (first
        | (refine ld_cmd rfl (.tmp 1) rfl w.heap.size _ _ rfl (heap_alloc_new w _) rfl ?_)
        | (refine ld_cmd rfl (.tmp 1) rfl w.heap.size _ _ rfl (HC.out _ P1.out) rfl ?_)
        | (go_at_call 7; go_loud ((with_reducible refine (CA.out _ HB0.out).mono ?_); rintro e w1 ⟨rfl, p⟩; have P1 := Lib.hid p; clear p))
        | (go_at_call 9; go_loud ((with_reducible refine (CS.out _ (HB0.out.trans (P1.out.mono HB0.out.size))).mono ?_); rintro e w2 ⟨rfl, p⟩; have P2 := Lib.hid (P1.out.trans (p.mono P1.out.size)); clear p))
        | (refine ld_cmdG (by first | rfl | (simp [Region.wanted, yielded]; done)) (.tmp 1) rfl (w.heap.size) _ _ rfl (HC.out _ P2.out) rfl ?_)
        | (go_at_call 11; go_loud ((with_reducible refine (CC.out _ (HB0.out.trans (P2.out.mono HB0.out.size))).mono ?_); rintro e w3 ⟨rfl, p⟩; have P3 := Lib.hid (P2.out.trans (p.mono P2.out.size)); clear p))
        | (go_at_call 8; go_loud ((with_reducible refine (CW.out _ (HB0.out.trans (P3.out.mono HB0.out.size))).mono ?_); rintro e w4 ⟨rfl, p⟩; have P4 := Lib.hid (P3.out.trans (p.mono P3.out.size)); clear p))
        | fail)
      go_ret
      exact ⟨rfl, HB0.out.trans (P4.out.mono HB0.out.size)⟩
    | true =>
      have e2 : chkC c = 0 := by unfold chkC; rw [hm]; rfl
      by_cases hl : 400 < (lineT c).length
      · have e1 : showC c = (nil_, 3) := by unfold showC; rw [hm, if_pos rfl, if_pos hl]
        simp only [e1, nil_] at cS
        clear cR e1 e2
        obtain ⟨a1, a2, a3, a4, a5, a6, a7, a8, a9, a10, a11, a12, a13, a14, a15, a16, a17, a18⟩ := c
        obtain ⟨pa, qa, rfl, l1, m1, r1, n1⟩ := h1
        obtain ⟨pd, qd, rfl, l2, m2, r2, n2⟩ := h2
        unfold cmdV at cA cS cC ⊢
        dsimp only at *
        have CA := Lib.hid cA
        have CW := Lib.hid cW
        have CS := Lib.hid cS
        have CC := Lib.hid cC
        have HB0 := Lib.hid (below_one (w := w) (.cells #[.int .i64 a1, .int .i64 a2, .string a3, .string a4, .string a5, .int .i64 a6, .slice pa a7.length qa, .int .i64 a8, .int .i64 a9, .int .i64 a10, .int .i64 a11, .bool a12, .int .i64 a13, .bool a14, .slice pd a15.length qd, .int .i64 a16, .int .i64 a17, .int .i64 a18] 27))
        have HC : Hid (∀ w2, Below (w.alloc (.cells #[.int .i64 a1, .int .i64 a2, .string a3, .string a4, .string a5, .int .i64 a6, .slice pa a7.length qa, .int .i64 a8, .int .i64 a9, .int .i64 a10, .int .i64 a11, .bool a12, .int .i64 a13, .bool a14, .slice pd a15.length qd, .int .i64 a16, .int .i64 a17, .int .i64 a18] 27)).heap.size (w.alloc (.cells #[.int .i64 a1, .int .i64 a2, .string a3, .string a4, .string a5, .int .i64 a6, .slice pa a7.length qa, .int .i64 a8, .int .i64 a9, .int .i64 a10, .int .i64 a11, .bool a12, .int .i64 a13, .bool a14, .slice pd a15.length qd, .int .i64 a16, .int .i64 a17, .int .i64 a18] 27)) w2 → w2.heap[w.heap.size]? = some (.cells #[.int .i64 a1, .int .i64 a2, .string a3, .string a4, .string a5, .int .i64 a6, .slice pa a7.length qa, .int .i64 a8, .int .i64 a9, .int .i64 a10, .int .i64 a11, .bool a12, .int .i64 a13, .bool a14, .slice pd a15.length qd, .int .i64 a16, .int .i64 a17, .int .i64 a18] 27)) := Lib.hid (fun w2 hb => box_cmd hb)
        clear cA cW cS cC hT r1 r2 n1 n2 l1 l2 m1 m2 hF z1 z2 z3 hm hl
        go_enter Tryz.func5, Tryz.ntmps5
        go_wp2_with (first
          | (refine ld_cmd rfl (.tmp 1) rfl w.heap.size _ _ rfl (heap_alloc_new w _) rfl ?_)
          | (refine ld_cmd rfl (.tmp 1) rfl w.heap.size _ _ rfl (HC.out _ P1.out) rfl ?_)
          | (go_at_call 7; go_loud ((with_reducible refine (CA.out _ HB0.out).mono ?_); rintro e w1 ⟨rfl, p⟩; have P1 := Lib.hid p; clear p))
          | (go_at_call 9; go_loud ((with_reducible refine (CS.out _ (HB0.out.trans (P1.out.mono HB0.out.size))).mono ?_); rintro e w2 ⟨rfl, p⟩; have P2 := Lib.hid (P1.out.trans (p.mono P1.out.size)); clear p))
          | fail
          | fail
          | (go_at_call 8; go_loud ((with_reducible refine (CW.out _ (HB0.out.trans (P2.out.mono HB0.out.size))).mono ?_); rintro e w4 ⟨rfl, p⟩; have P4 := Lib.hid (P2.out.trans (p.mono P2.out.size)); clear p))
          | fail)
        go_ret
        exact ⟨rfl, HB0.out.trans (P4.out.mono HB0.out.size)⟩
      · have e1 : showC c = (lineB c, 0) := by unfold showC; rw [hm, if_pos rfl, if_neg hl]
        have hls : (lineB c).size ≤ 400 := by rw [line_size]; omega
        have cP := fun w2 (hb : Below w.heap.size w w2) => parse_any (lineB c) (by unfold maxLen; omega) w2 (hT.later hb)
        unfold ParseSays at cP
        simp only [parse_line hm hl] at cP
        have cN := fun w2 => count_big (lineB c) (by unfold maxLen; omega) w2
        simp only [e1] at cS
        obtain ⟨L, hL⟩ : ∃ x, x = lineB c := ⟨_, rfl⟩
        simp only [← hL] at cS cP cN
        clear hL hls cC e1 e2
        obtain ⟨n, hn⟩ : ∃ x, x = cn L := ⟨_, rfl⟩
        simp only [← hn] at cP cN
        clear hn
        obtain ⟨a1, a2, a3, a4, a5, a6, a7, a8, a9, a10, a11, a12, a13, a14, a15, a16, a17, a18⟩ := c
        obtain ⟨pa, qa, rfl, l1, m1, r1, n1⟩ := h1
        obtain ⟨pd, qd, rfl, l2, m2, r2, n2⟩ := h2
        unfold cmdV at cA cS cR cP ⊢
        dsimp only at *
        have CA := Lib.hid cA
        have CW := Lib.hid cW
        have CS := Lib.hid cS
        have CP := Lib.hid cP
        have CN := Lib.hid cN
        have CR := Lib.hid cR
        have HB0 := Lib.hid (below_one (w := w) (.cells #[.int .i64 a1, .int .i64 a2, .string a3, .string a4, .string a5, .int .i64 a6, .slice pa a7.length qa, .int .i64 a8, .int .i64 a9, .int .i64 a10, .int .i64 a11, .bool a12, .int .i64 a13, .bool a14, .slice pd a15.length qd, .int .i64 a16, .int .i64 a17, .int .i64 a18] 27))
        have HC : Hid (∀ w2, Below (w.alloc (.cells #[.int .i64 a1, .int .i64 a2, .string a3, .string a4, .string a5, .int .i64 a6, .slice pa a7.length qa, .int .i64 a8, .int .i64 a9, .int .i64 a10, .int .i64 a11, .bool a12, .int .i64 a13, .bool a14, .slice pd a15.length qd, .int .i64 a16, .int .i64 a17, .int .i64 a18] 27)).heap.size (w.alloc (.cells #[.int .i64 a1, .int .i64 a2, .string a3, .string a4, .string a5, .int .i64 a6, .slice pa a7.length qa, .int .i64 a8, .int .i64 a9, .int .i64 a10, .int .i64 a11, .bool a12, .int .i64 a13, .bool a14, .slice pd a15.length qd, .int .i64 a16, .int .i64 a17, .int .i64 a18] 27)) w2 → w2.heap[w.heap.size]? = some (.cells #[.int .i64 a1, .int .i64 a2, .string a3, .string a4, .string a5, .int .i64 a6, .slice pa a7.length qa, .int .i64 a8, .int .i64 a9, .int .i64 a10, .int .i64 a11, .bool a12, .int .i64 a13, .bool a14, .slice pd a15.length qd, .int .i64 a16, .int .i64 a17, .int .i64 a18] 27)) := Lib.hid (fun w2 hb => box_cmd hb)
        clear cA cW cS cP cN cR hT r1 r2 n1 n2 l1 l2 m1 m2 hF z1 z2 z3 hm hl
        go_enter Tryz.func5, Tryz.ntmps5
        go_upto_region 7 with (first
          | (refine ld_cmd rfl (.tmp 1) rfl w.heap.size _ _ rfl (heap_alloc_new w _) rfl ?_)
          | (refine ld_cmd rfl (.tmp 1) rfl w.heap.size _ _ rfl (HC.out _ P1.out) rfl ?_)
          | (go_at_call 7; go_loud ((with_reducible refine (CA.out _ HB0.out).mono ?_); rintro e w1 ⟨rfl, p⟩; have P1 := Lib.hid p; clear p))
          | (go_at_call 9; go_loud ((with_reducible refine (CS.out _ (HB0.out.trans (P1.out.mono HB0.out.size))).mono ?_); rintro e w2 ⟨rfl, p⟩; have P2 := Lib.hid (P1.out.trans (p.mono P1.out.size)); clear p))
          | (go_at_call 15; go_loud ((with_reducible refine (CP.out _ (HB0.out.trans (P2.out.mono HB0.out.size))).mono ?_); rintro e w3 ⟨va3, vd3, rfl, h3, h4, p3⟩; obtain ⟨pa3, qa3, rfl, l3, m3, r3, n3⟩ := h3; obtain ⟨pd3, qd3, rfl, l4, m4, r4, n4⟩ := h4; have P3 := Lib.hid (P2.out.trans (p3.mono P2.out.size)); have R3 := Lib.hid r3; have R4 := Lib.hid r4; have N3 := Lib.hid (And.intro l3 (And.intro m3 n3)); have N4 := Lib.hid (And.intro l4 (And.intro m4 n4)); clear p3 r3 r4 n3 n4 l3 m3 l4 m4))
          | (refine st_cmd rfl (.tmp 5) (.tmp 36) rfl w3.heap.size _ _ zArr rfl rfl (heap_alloc_new _ _) rfl rfl (by kernel_rfl) ?_)
          | fail)
        have hB3 : Below w3.heap.size w3 ((w3.alloc (.cells #[.int .i64 0, .int .i64 0, .string ⟨#[]⟩, .string ⟨#[]⟩, .string ⟨#[]⟩, .int .i64 0, .slice none 0 0, .int .i64 0, .int .i64 0, .int .i64 0, .int .i64 0, .bool false, .int .i64 0, .bool false, .slice none 0 0, .int .i64 0, .int .i64 0, .int .i64 0] 27)).setRow w3.heap.size #[.int .i64 a1, .int .i64 a2, .string a3, .string a4, .string a5, .int .i64 a6, .slice pa3 a7.length qa3, .int .i64 a8, .int .i64 a9, .int .i64 a10, .int .i64 a11, .bool a12, .int .i64 a13, .bool a14, .slice pd3 a15.length qd3, .int .i64 a16, .int .i64 a17, .int .i64 a18]) := below_setRow (below_one _) _ _ (Nat.le_refl _)
        have hA3 : ((w3.alloc (.cells #[.int .i64 0, .int .i64 0, .string ⟨#[]⟩, .string ⟨#[]⟩, .string ⟨#[]⟩, .int .i64 0, .slice none 0 0, .int .i64 0, .int .i64 0, .int .i64 0, .int .i64 0, .bool false, .int .i64 0, .bool false, .slice none 0 0, .int .i64 0, .int .i64 0, .int .i64 0] 27)).setRow w3.heap.size #[.int .i64 a1, .int .i64 a2, .string a3, .string a4, .string a5, .int .i64 a6, .slice pa3 a7.length qa3, .int .i64 a8, .int .i64 a9, .int .i64 a10, .int .i64 a11, .bool a12, .int .i64 a13, .bool a14, .slice pd3 a15.length qd3, .int .i64 a16, .int .i64 a17, .int .i64 a18]).heap[w3.heap.size]? = some (.cells #[.int .i64 a1, .int .i64 a2, .string a3, .string a4, .string a5, .int .i64 a6, .slice pa3 a7.length qa3, .int .i64 a8, .int .i64 a9, .int .i64 a10, .int .i64 a11, .bool a12, .int .i64 a13, .bool a14, .slice pd3 a15.length qd3, .int .i64 a16, .int .i64 a17, .int .i64 a18] 27) := setRow_heap _ _ _ _ _ _ (heap_alloc_new _ _)
        obtain ⟨W3, hW3⟩ : ∃ W, W = ((w3.alloc (.cells #[.int .i64 0, .int .i64 0, .string ⟨#[]⟩, .string ⟨#[]⟩, .string ⟨#[]⟩, .int .i64 0, .slice none 0 0, .int .i64 0, .int .i64 0, .int .i64 0, .int .i64 0, .bool false, .int .i64 0, .bool false, .slice none 0 0, .int .i64 0, .int .i64 0, .int .i64 0] 27)).setRow w3.heap.size #[.int .i64 a1, .int .i64 a2, .string a3, .string a4, .string a5, .int .i64 a6, .slice pa3 a7.length qa3, .int .i64 a8, .int .i64 a9, .int .i64 a10, .int .i64 a11, .bool a12, .int .i64 a13, .bool a14, .slice pd3 a15.length qd3, .int .i64 a16, .int .i64 a17, .int .i64 a18]) := ⟨_, rfl⟩
        rw [← hW3] at hB3 hA3 ⊢
        clear hW3
        have HQ3 := Lib.hid (P3.out.trans (hB3.mono P3.out.size))
        have HA3 := Lib.hid hA3
        have hlt3 : w3.heap.size < W3.heap.size := (Array.getElem?_eq_some_iff.1 hA3).1
        have HLT3 := Lib.hid hlt3
        have RR3 : Hid (Row W3 (.slice pa3 a7.length qa3) a7) := Lib.hid (Row.below ⟨pa3, qa3, rfl, N3.out.1, N3.out.2.1, R3.out, N3.out.2.2⟩ hB3)
        have RR4 : Hid (Row W3 (.slice pd3 a15.length qd3) a15) := Lib.hid (Row.below ⟨pd3, qd3, rfl, N4.out.1, N4.out.2.1, R4.out, N4.out.2.2⟩ hB3)
        clear hA3 hB3 hlt3
        go_wp2_with (first
          | (go_at_call 16; go_loud ((with_reducible refine (CN.out _).mono ?_); rintro e w4 ⟨rfl, p⟩; have P4 := Lib.hid p; clear p))
          | (refine ld_cmdG (by first | rfl | (simp [Region.wanted, yielded]; done)) (.tmp 1) rfl (w.heap.size) _ _ rfl (HC.out _ (HQ3.out.trans (P4.out.mono HQ3.out.size))) rfl ?_)
          | (refine ld_cmdG (by first | rfl | (simp [Region.wanted, yielded]; done)) (.tmp 5) rfl (w3.heap.size) _ _ rfl ((P4.out.block w3.heap.size HLT3.out).trans HA3.out) rfl ?_)
          | (go_at_call 14; go_loud ((with_reducible refine (CR.out _ _ _ (HB0.out.trans ((HQ3.out.trans (P4.out.mono HQ3.out.size)).mono HB0.out.size)) (RR3.out.below P4.out) (RR4.out.below P4.out)).mono ?_); rintro e w5 ⟨rfl, p⟩; have P5 := Lib.hid ((HQ3.out.trans (P4.out.mono HQ3.out.size)).trans (p.mono (HQ3.out.trans (P4.out.mono HQ3.out.size)).size)); clear p))
          | (go_at_call 8; go_loud ((with_reducible refine (CW.out _ (HB0.out.trans (P5.out.mono HB0.out.size))).mono ?_); rintro e w6 ⟨rfl, p⟩; have P6 := Lib.hid (P5.out.trans (p.mono P5.out.size)); clear p))
          | fail)
        go_ret
        exact ⟨rfl, HB0.out.trans (P6.out.mono HB0.out.size)⟩
end Go.Proofs.YtdkngidangfkiaaGreatDoor.Cmd
