/-
  Joined out of: The walks of the statements of layer 8: CmdAgain (written by gen_law8b.py).
-/
import Derived.Test.YtdkngidangfkiaaGreatDoorJa44
import Derived.Test.YtdkngidangfkiaaGreatDoorJa47
import Derived.Test.YtdkngidangfkiaaGreatDoorJa48
namespace Go.Proofs.YtdkngidangfkiaaGreatDoor.Cmd
open Go.RowKit
open Base Runes Lex
set_option linter.unusedVariables false
set_option linter.unusedSimpArgs false
set_option maxRecDepth 100000 in
set_option maxHeartbeats 8000000 in
theorem cmdAgain_any (s : ByteArray) (hs : s.size ≤ maxLen) (w : World) (hT : Tb w) :
    Calls Tryz.prog 6 #[.string s] w fun e w' => e = .returned (.bool true) ∧ Below w.heap.size w w' := by
  have cW := fun w2 (hb : Below w.heap.size w w2) => awake8_any w2 (hT.later hb)
  have cP := parse_any s hs w hT
  unfold ParseSays at cP
  by_cases he : (parseC s).2.2 = 0
  · have hm := parse_may he
    obtain ⟨z1, z2, z3⟩ := may_small hm
    rw [he] at cP
    obtain ⟨c, hc⟩ : ∃ c, c = (parseC s).1 := ⟨_, rfl⟩
    obtain ⟨n, hn⟩ : ∃ n, n = (parseC s).2.1 := ⟨_, rfl⟩
    rw [← hc] at hm z1 z2 z3
    simp only [← hc, ← hn] at cP
    clear hc hn he
    have cS := fun ua ud w2 (hb : Below w.heap.size w w2) (h3 : Row w2 ua c.alts) (h4 : Row w2 ud c.after) => show_any c ua ud w2 (hT.later hb) h3 h4 (by omega) (by omega) (by omega)
    have cC := fun ua ud w2 (hb : Below w.heap.size w w2) (h3 : Row w2 ua c.alts) (h4 : Row w2 ud c.after) => check_any c ua ud w2 (hT.later hb) h3 h4 (by omega) (by omega) (by omega)
    have e2 : chkC c = 0 := by unfold chkC; rw [hm]; rfl
    simp only [e2] at cC
    by_cases hl : 400 < (lineT c).length
    · have e1 : showC c = (nil_, 3) := by unfold showC; rw [hm, if_pos rfl, if_pos hl]
      simp only [e1, nil_] at cS
      clear e1 e2 hl hm
      obtain ⟨a1, a2, a3, a4, a5, a6, a7, a8, a9, a10, a11, a12, a13, a14, a15, a16, a17, a18⟩ := c
      unfold cmdV at cP cS cC
      dsimp only at *
      have CP := Lib.hid cP
      have CW := Lib.hid cW
      have CS := Lib.hid cS
      have CC := Lib.hid cC
      clear cP cW cS cC hT z1 z2 z3
      go_enter Tryz.func6, Tryz.ntmps6
      go_upto_region 2 with (first
        | (go_at_call 15; go_loud ((with_reducible refine CP.out.mono ?_); rintro e w1 ⟨va, vd, rfl, h1, h2, p1⟩; obtain ⟨pa, qa, ea, la_, ma_, ra_, na_⟩ := id h1; subst ea; obtain ⟨pd, qd, ed, ld_, md_, rd_, nd_⟩ := id h2; subst ed; clear la_ ma_ ra_ na_ ld_ md_ rd_ nd_; have H1 := Lib.hid h1; have H2 := Lib.hid h2; have P1 := Lib.hid p1; clear h1 h2 p1))
        | (refine st_cmd rfl (.tmp 3) (.tmp 14) rfl w1.heap.size _ _ zArr rfl rfl (heap_alloc_new _ _) rfl rfl (by kernel_rfl) ?_)
        | fail)
      have hB1 : Below w1.heap.size w1 ((w1.alloc (.cells #[.int .i64 0, .int .i64 0, .string ⟨#[]⟩, .string ⟨#[]⟩, .string ⟨#[]⟩, .int .i64 0, .slice none 0 0, .int .i64 0, .int .i64 0, .int .i64 0, .int .i64 0, .bool false, .int .i64 0, .bool false, .slice none 0 0, .int .i64 0, .int .i64 0, .int .i64 0] 27)).setRow w1.heap.size #[.int .i64 a1, .int .i64 a2, .string a3, .string a4, .string a5, .int .i64 a6, .slice pa a7.length qa, .int .i64 a8, .int .i64 a9, .int .i64 a10, .int .i64 a11, .bool a12, .int .i64 a13, .bool a14, .slice pd a15.length qd, .int .i64 a16, .int .i64 a17, .int .i64 a18]) := below_setRow (below_one _) _ _ (Nat.le_refl _)
      have hA1 : ((w1.alloc (.cells #[.int .i64 0, .int .i64 0, .string ⟨#[]⟩, .string ⟨#[]⟩, .string ⟨#[]⟩, .int .i64 0, .slice none 0 0, .int .i64 0, .int .i64 0, .int .i64 0, .int .i64 0, .bool false, .int .i64 0, .bool false, .slice none 0 0, .int .i64 0, .int .i64 0, .int .i64 0] 27)).setRow w1.heap.size #[.int .i64 a1, .int .i64 a2, .string a3, .string a4, .string a5, .int .i64 a6, .slice pa a7.length qa, .int .i64 a8, .int .i64 a9, .int .i64 a10, .int .i64 a11, .bool a12, .int .i64 a13, .bool a14, .slice pd a15.length qd, .int .i64 a16, .int .i64 a17, .int .i64 a18]).heap[w1.heap.size]? = some (.cells #[.int .i64 a1, .int .i64 a2, .string a3, .string a4, .string a5, .int .i64 a6, .slice pa a7.length qa, .int .i64 a8, .int .i64 a9, .int .i64 a10, .int .i64 a11, .bool a12, .int .i64 a13, .bool a14, .slice pd a15.length qd, .int .i64 a16, .int .i64 a17, .int .i64 a18] 27) := setRow_heap _ _ _ _ _ _ (heap_alloc_new _ _)
      obtain ⟨W1, hW1⟩ : ∃ W, W = ((w1.alloc (.cells #[.int .i64 0, .int .i64 0, .string ⟨#[]⟩, .string ⟨#[]⟩, .string ⟨#[]⟩, .int .i64 0, .slice none 0 0, .int .i64 0, .int .i64 0, .int .i64 0, .int .i64 0, .bool false, .int .i64 0, .bool false, .slice none 0 0, .int .i64 0, .int .i64 0, .int .i64 0] 27)).setRow w1.heap.size #[.int .i64 a1, .int .i64 a2, .string a3, .string a4, .string a5, .int .i64 a6, .slice pa a7.length qa, .int .i64 a8, .int .i64 a9, .int .i64 a10, .int .i64 a11, .bool a12, .int .i64 a13, .bool a14, .slice pd a15.length qd, .int .i64 a16, .int .i64 a17, .int .i64 a18]) := ⟨_, rfl⟩
      rw [← hW1] at hB1 hA1 ⊢
      clear hW1
      have HQ1 := Lib.hid (P1.out.trans (hB1.mono P1.out.size))
      have HA1 := Lib.hid hA1
      have HLT1 := Lib.hid (Array.getElem?_eq_some_iff.1 hA1).1
      have RR1 : Hid (Row W1 (.slice pa a7.length qa) a7) := Lib.hid (H1.out.below hB1)
      have RR2 : Hid (Row W1 (.slice pd a15.length qd) a15) := Lib.hid (H2.out.below hB1)
      clear hA1 hB1
      go_wp2_with (first
        | (refine ld_cmd rfl (.tmp 3) rfl w1.heap.size _ _ rfl HA1.out rfl ?_)
        | (go_at_call 9; go_loud ((with_reducible refine (CS.out _ _ _ HQ1.out RR1.out RR2.out).mono ?_); rintro e w2 ⟨rfl, p⟩; have P2 := Lib.hid p; clear p))
        | (refine ld_cmdG (by first | rfl | (simp [Region.wanted, yielded]; done)) (.tmp 3) rfl (w1.heap.size) _ _ rfl ((P2.out.block w1.heap.size HLT1.out).trans HA1.out) rfl ?_)
        | (go_at_call 11; go_loud ((with_reducible refine (CC.out _ _ _ (HQ1.out.trans (P2.out.mono HQ1.out.size)) (RR1.out.below P2.out) (RR2.out.below P2.out)).mono ?_); rintro e w3 ⟨rfl, p⟩; have P3 := Lib.hid (P2.out.trans (p.mono P2.out.size)); clear p))
        | (go_at_call 8; go_loud ((with_reducible refine (CW.out _ (HQ1.out.trans (P3.out.mono HQ1.out.size))).mono ?_); rintro e w4 ⟨rfl, p⟩; have P4 := Lib.hid (P3.out.trans (p.mono P3.out.size)); clear p))
        | fail)
      go_ret
      exact ⟨rfl, HQ1.out.trans (P4.out.mono HQ1.out.size)⟩
    · have e1 : showC c = (lineB c, 0) := by unfold showC; rw [hm, if_pos rfl, if_neg hl]
      have hls : (lineB c).size ≤ 400 := by rw [line_size]; omega
      have cQ := fun w2 (hb : Below w.heap.size w w2) => parse_any (lineB c) (by unfold maxLen; omega) w2 (hT.later hb)
      unfold ParseSays at cQ
      simp only [parse_line hm hl] at cQ
      have cR := fun va vd ua ud w2 (h1 : Row w2 va c.alts) (h2 : Row w2 vd c.after) (h3 : Row w2 ua c.alts) (h4 : Row w2 ud c.after) => rsame8_any c c va vd ua ud w2 h1 h2 h3 h4
      simp only [(sameC_iff c c).2 rfl] at cR
      simp only [e1] at cS
      obtain ⟨L, hL⟩ : ∃ x, x = lineB c := ⟨_, rfl⟩
      simp only [← hL] at cS cQ
      clear hL hls e1 e2
      obtain ⟨m, hm2⟩ : ∃ x, x = cn L := ⟨_, rfl⟩
      simp only [← hm2] at cQ
      clear hm2 hm hl
      obtain ⟨a1, a2, a3, a4, a5, a6, a7, a8, a9, a10, a11, a12, a13, a14, a15, a16, a17, a18⟩ := c
      unfold cmdV at cP cS cC cQ cR
      dsimp only at *
      have CP := Lib.hid cP
      have CW := Lib.hid cW
      have CS := Lib.hid cS
      have CC := Lib.hid cC
      have CQ := Lib.hid cQ
      have CR := Lib.hid cR
      clear cP cW cS cC cQ cR hT z1 z2 z3
      go_enter Tryz.func6, Tryz.ntmps6
      go_upto_region 2 with (first
        | (go_at_call 15; go_loud ((with_reducible refine CP.out.mono ?_); rintro e w1 ⟨va, vd, rfl, h1, h2, p1⟩; obtain ⟨pa, qa, ea, la_, ma_, ra_, na_⟩ := id h1; subst ea; obtain ⟨pd, qd, ed, ld_, md_, rd_, nd_⟩ := id h2; subst ed; clear la_ ma_ ra_ na_ ld_ md_ rd_ nd_; have H1 := Lib.hid h1; have H2 := Lib.hid h2; have P1 := Lib.hid p1; clear h1 h2 p1))
        | (refine st_cmd rfl (.tmp 3) (.tmp 14) rfl w1.heap.size _ _ zArr rfl rfl (heap_alloc_new _ _) rfl rfl (by kernel_rfl) ?_)
        | fail)
      have hB1 : Below w1.heap.size w1 ((w1.alloc (.cells #[.int .i64 0, .int .i64 0, .string ⟨#[]⟩, .string ⟨#[]⟩, .string ⟨#[]⟩, .int .i64 0, .slice none 0 0, .int .i64 0, .int .i64 0, .int .i64 0, .int .i64 0, .bool false, .int .i64 0, .bool false, .slice none 0 0, .int .i64 0, .int .i64 0, .int .i64 0] 27)).setRow w1.heap.size #[.int .i64 a1, .int .i64 a2, .string a3, .string a4, .string a5, .int .i64 a6, .slice pa a7.length qa, .int .i64 a8, .int .i64 a9, .int .i64 a10, .int .i64 a11, .bool a12, .int .i64 a13, .bool a14, .slice pd a15.length qd, .int .i64 a16, .int .i64 a17, .int .i64 a18]) := below_setRow (below_one _) _ _ (Nat.le_refl _)
      have hA1 : ((w1.alloc (.cells #[.int .i64 0, .int .i64 0, .string ⟨#[]⟩, .string ⟨#[]⟩, .string ⟨#[]⟩, .int .i64 0, .slice none 0 0, .int .i64 0, .int .i64 0, .int .i64 0, .int .i64 0, .bool false, .int .i64 0, .bool false, .slice none 0 0, .int .i64 0, .int .i64 0, .int .i64 0] 27)).setRow w1.heap.size #[.int .i64 a1, .int .i64 a2, .string a3, .string a4, .string a5, .int .i64 a6, .slice pa a7.length qa, .int .i64 a8, .int .i64 a9, .int .i64 a10, .int .i64 a11, .bool a12, .int .i64 a13, .bool a14, .slice pd a15.length qd, .int .i64 a16, .int .i64 a17, .int .i64 a18]).heap[w1.heap.size]? = some (.cells #[.int .i64 a1, .int .i64 a2, .string a3, .string a4, .string a5, .int .i64 a6, .slice pa a7.length qa, .int .i64 a8, .int .i64 a9, .int .i64 a10, .int .i64 a11, .bool a12, .int .i64 a13, .bool a14, .slice pd a15.length qd, .int .i64 a16, .int .i64 a17, .int .i64 a18] 27) := setRow_heap _ _ _ _ _ _ (heap_alloc_new _ _)
      obtain ⟨W1, hW1⟩ : ∃ W, W = ((w1.alloc (.cells #[.int .i64 0, .int .i64 0, .string ⟨#[]⟩, .string ⟨#[]⟩, .string ⟨#[]⟩, .int .i64 0, .slice none 0 0, .int .i64 0, .int .i64 0, .int .i64 0, .int .i64 0, .bool false, .int .i64 0, .bool false, .slice none 0 0, .int .i64 0, .int .i64 0, .int .i64 0] 27)).setRow w1.heap.size #[.int .i64 a1, .int .i64 a2, .string a3, .string a4, .string a5, .int .i64 a6, .slice pa a7.length qa, .int .i64 a8, .int .i64 a9, .int .i64 a10, .int .i64 a11, .bool a12, .int .i64 a13, .bool a14, .slice pd a15.length qd, .int .i64 a16, .int .i64 a17, .int .i64 a18]) := ⟨_, rfl⟩
      rw [← hW1] at hB1 hA1 ⊢
      clear hW1
      have HQ1 := Lib.hid (P1.out.trans (hB1.mono P1.out.size))
      have HA1 := Lib.hid hA1
      have HLT1 := Lib.hid (Array.getElem?_eq_some_iff.1 hA1).1
      have RR1 : Hid (Row W1 (.slice pa a7.length qa) a7) := Lib.hid (H1.out.below hB1)
      have RR2 : Hid (Row W1 (.slice pd a15.length qd) a15) := Lib.hid (H2.out.below hB1)
      clear hA1 hB1
      go_upto_region 8 with (first
        | (refine ld_cmd rfl (.tmp 3) rfl w1.heap.size _ _ rfl HA1.out rfl ?_)
        | (go_at_call 9; go_loud ((with_reducible refine (CS.out _ _ _ HQ1.out RR1.out RR2.out).mono ?_); rintro e w2 ⟨rfl, p⟩; have P2 := Lib.hid p; clear p))
        | (go_at_call 15; go_loud ((with_reducible refine (CQ.out _ (HQ1.out.trans (P2.out.mono HQ1.out.size))).mono ?_); rintro e w3 ⟨va3, vd3, rfl, h3, h4, p3⟩; obtain ⟨pa3, qa3, rfl, l3, m3, r3, n3⟩ := h3; obtain ⟨pd3, qd3, rfl, l4, m4, r4, n4⟩ := h4; have P3 := Lib.hid (P2.out.trans (p3.mono P2.out.size)); have R3 := Lib.hid r3; have R4 := Lib.hid r4; have N3 := Lib.hid (And.intro l3 (And.intro m3 n3)); have N4 := Lib.hid (And.intro l4 (And.intro m4 n4)); clear p3 r3 r4 n3 n4 l3 m3 l4 m4))
        | (refine st_cmd rfl (.tmp 8) (.tmp 55) rfl w3.heap.size _ _ zArr rfl rfl (heap_alloc_new _ _) rfl rfl (by kernel_rfl) ?_)
        | fail)
      have hB3 : Below w3.heap.size w3 ((w3.alloc (.cells #[.int .i64 0, .int .i64 0, .string ⟨#[]⟩, .string ⟨#[]⟩, .string ⟨#[]⟩, .int .i64 0, .slice none 0 0, .int .i64 0, .int .i64 0, .int .i64 0, .int .i64 0, .bool false, .int .i64 0, .bool false, .slice none 0 0, .int .i64 0, .int .i64 0, .int .i64 0] 27)).setRow w3.heap.size #[.int .i64 a1, .int .i64 a2, .string a3, .string a4, .string a5, .int .i64 a6, .slice pa3 a7.length qa3, .int .i64 a8, .int .i64 a9, .int .i64 a10, .int .i64 a11, .bool a12, .int .i64 a13, .bool a14, .slice pd3 a15.length qd3, .int .i64 a16, .int .i64 a17, .int .i64 a18]) := below_setRow (below_one _) _ _ (Nat.le_refl _)
      have hA3 : ((w3.alloc (.cells #[.int .i64 0, .int .i64 0, .string ⟨#[]⟩, .string ⟨#[]⟩, .string ⟨#[]⟩, .int .i64 0, .slice none 0 0, .int .i64 0, .int .i64 0, .int .i64 0, .int .i64 0, .bool false, .int .i64 0, .bool false, .slice none 0 0, .int .i64 0, .int .i64 0, .int .i64 0] 27)).setRow w3.heap.size #[.int .i64 a1, .int .i64 a2, .string a3, .string a4, .string a5, .int .i64 a6, .slice pa3 a7.length qa3, .int .i64 a8, .int .i64 a9, .int .i64 a10, .int .i64 a11, .bool a12, .int .i64 a13, .bool a14, .slice pd3 a15.length qd3, .int .i64 a16, .int .i64 a17, .int .i64 a18]).heap[w3.heap.size]? = some (.cells #[.int .i64 a1, .int .i64 a2, .string a3, .string a4, .string a5, .int .i64 a6, .slice pa3 a7.length qa3, .int .i64 a8, .int .i64 a9, .int .i64 a10, .int .i64 a11, .bool a12, .int .i64 a13, .bool a14, .slice pd3 a15.length qd3, .int .i64 a16, .int .i64 a17, .int .i64 a18] 27) := setRow_heap _ _ _ _ _ _ (heap_alloc_new _ _)
      obtain ⟨W3, hW3⟩ : ∃ W, W = ((w3.alloc (.cells #[.int .i64 0, .int .i64 0, .string ⟨#[]⟩, .string ⟨#[]⟩, .string ⟨#[]⟩, .int .i64 0, .slice none 0 0, .int .i64 0, .int .i64 0, .int .i64 0, .int .i64 0, .bool false, .int .i64 0, .bool false, .slice none 0 0, .int .i64 0, .int .i64 0, .int .i64 0] 27)).setRow w3.heap.size #[.int .i64 a1, .int .i64 a2, .string a3, .string a4, .string a5, .int .i64 a6, .slice pa3 a7.length qa3, .int .i64 a8, .int .i64 a9, .int .i64 a10, .int .i64 a11, .bool a12, .int .i64 a13, .bool a14, .slice pd3 a15.length qd3, .int .i64 a16, .int .i64 a17, .int .i64 a18]) := ⟨_, rfl⟩
      rw [← hW3] at hB3 hA3 ⊢
      clear hW3
      have HQ3 := Lib.hid (P3.out.trans (hB3.mono P3.out.size))
      have HA3 := Lib.hid hA3
      have hlt3 : w3.heap.size < W3.heap.size := (Array.getElem?_eq_some_iff.1 hA3).1
      have HLT3 := Lib.hid hlt3
      have RR3 : Hid (Row W3 (.slice pa3 a7.length qa3) a7) := Lib.hid (Row.below ⟨pa3, qa3, rfl, N3.out.1, N3.out.2.1, R3.out, N3.out.2.2⟩ hB3)
      have RR4 : Hid (Row W3 (.slice pd3 a15.length qd3) a15) := Lib.hid (Row.below ⟨pd3, qd3, rfl, N4.out.1, N4.out.2.1, R4.out, N4.out.2.2⟩ hB3)
      clear hA3 hB3 hlt3
      go_wp2_with (first
        | (refine ld_cmd rfl (.tmp 3) rfl w1.heap.size _ _ rfl ((HQ3.out.block w1.heap.size HLT1.out).trans HA1.out) rfl ?_)
        | (go_at_call 11; go_loud ((with_reducible refine (CC.out _ _ _ (HQ1.out.trans (HQ3.out.mono HQ1.out.size)) (RR1.out.below HQ3.out) (RR2.out.below HQ3.out)).mono ?_); rintro e w4 ⟨rfl, p⟩; have P4 := Lib.hid p; have P5 := Lib.hid (HQ3.out.trans (p.mono HQ3.out.size)); clear p))
        | (refine ld_cmdG (by first | rfl | (simp [Region.wanted, yielded]; done)) (.tmp 3) rfl (w1.heap.size) _ _ rfl ((P5.out.block w1.heap.size HLT1.out).trans HA1.out) rfl ?_)
        | (refine ld_cmdG (by first | rfl | (simp [Region.wanted, yielded]; done)) (.tmp 8) rfl (w3.heap.size) _ _ rfl ((P4.out.block w3.heap.size HLT3.out).trans HA3.out) rfl ?_)
        | (go_at_call 14; go_loud ((with_reducible refine (CR.out _ _ _ _ _ (RR1.out.below P5.out) (RR2.out.below P5.out) (RR3.out.below P4.out) (RR4.out.below P4.out)).mono ?_); rintro e w5 ⟨rfl, p⟩; have P6 := Lib.hid (P5.out.trans (p.mono P5.out.size)); clear p))
        | (go_at_call 8; go_loud ((with_reducible refine (CW.out _ (HQ1.out.trans (P6.out.mono HQ1.out.size))).mono ?_); rintro e w6 ⟨rfl, p⟩; have P7 := Lib.hid (P6.out.trans (p.mono P6.out.size)); clear p))
        | fail)
      go_ret
      exact ⟨rfl, HQ1.out.trans (P7.out.mono HQ1.out.size)⟩
  · obtain ⟨b1, b2, b3⟩ := parse_bad he
    obtain ⟨E, hE⟩ : ∃ n, n = (parseC s).2.2 := ⟨_, rfl⟩
    obtain ⟨n, hn⟩ : ∃ n, n = (parseC s).2.1 := ⟨_, rfl⟩
    have cN := fun w2 => count_big s hs w2
    rw [← hn] at b2 b3
    rw [← hE] at he
    simp only [b1, ← hE, ← hn] at cP
    have cR := fun va vd w2 (h1 : Row w2 va (zCo 0).alts) (h2 : Row w2 vd (zCo 0).after) => rsame8_any (zCo 0) (zCo 0) va vd (.slice none 0 0) (.slice none 0 0) w2 h1 h2 (Row.nil w2) (Row.nil w2)
    simp only [(sameC_iff (zCo 0) (zCo 0)).2 rfl] at cR
    obtain ⟨m, hm⟩ : ∃ x, x = cn s := ⟨_, rfl⟩
    simp only [← hm] at cN
    rw [← hm] at b3
    have t0 : (E == 0) = false := by simpa using he
    have t1 : decide (0 ≤ n) = true := decide_eq_true b2
    have t2 : decide (n ≤ (m : Int)) = true := decide_eq_true b3
    unfold cmdV zCo nil_ at cP cR
    dsimp only at cP cR
    have CP := Lib.hid cP
    have CW := Lib.hid cW
    have CN := Lib.hid cN
    have CR := Lib.hid cR
    clear cP cW cN cR hT b1 hE hn hm hs
    go_enter Tryz.func6, Tryz.ntmps6
    go_upto_region 2 with (first
      | (go_at_call 15; go_loud ((with_reducible refine CP.out.mono ?_); rintro e w1 ⟨va, vd, rfl, h1, h2, p1⟩; obtain ⟨pa, qa, ea, la_, ma_, ra_, na_⟩ := id h1; obtain ⟨pd, qd, ed, ld_, md_, rd_, nd_⟩ := id h2; dsimp only [List.length_nil] at ea ed; subst ea ed; clear la_ ma_ ra_ na_ ld_ md_ rd_ nd_; have H1 := Lib.hid h1; have H2 := Lib.hid h2; have P1 := Lib.hid p1; clear h1 h2 p1))
      | (refine st_cmd rfl (.tmp 3) (.tmp 14) rfl w1.heap.size _ _ zArr rfl rfl (heap_alloc_new _ _) rfl rfl (by kernel_rfl) ?_)
      | fail)
    have hB1 : Below w1.heap.size w1 ((w1.alloc (.cells #[.int .i64 0, .int .i64 0, .string ⟨#[]⟩, .string ⟨#[]⟩, .string ⟨#[]⟩, .int .i64 0, .slice none 0 0, .int .i64 0, .int .i64 0, .int .i64 0, .int .i64 0, .bool false, .int .i64 0, .bool false, .slice none 0 0, .int .i64 0, .int .i64 0, .int .i64 0] 27)).setRow w1.heap.size #[.int .i64 0, .int .i64 0, .string ⟨#[]⟩, .string ⟨#[]⟩, .string ⟨#[]⟩, .int .i64 0, .slice pa 0 qa, .int .i64 0, .int .i64 0, .int .i64 0, .int .i64 0, .bool false, .int .i64 0, .bool false, .slice pd 0 qd, .int .i64 0, .int .i64 0, .int .i64 0]) := below_setRow (below_one _) _ _ (Nat.le_refl _)
    have hA1 : ((w1.alloc (.cells #[.int .i64 0, .int .i64 0, .string ⟨#[]⟩, .string ⟨#[]⟩, .string ⟨#[]⟩, .int .i64 0, .slice none 0 0, .int .i64 0, .int .i64 0, .int .i64 0, .int .i64 0, .bool false, .int .i64 0, .bool false, .slice none 0 0, .int .i64 0, .int .i64 0, .int .i64 0] 27)).setRow w1.heap.size #[.int .i64 0, .int .i64 0, .string ⟨#[]⟩, .string ⟨#[]⟩, .string ⟨#[]⟩, .int .i64 0, .slice pa 0 qa, .int .i64 0, .int .i64 0, .int .i64 0, .int .i64 0, .bool false, .int .i64 0, .bool false, .slice pd 0 qd, .int .i64 0, .int .i64 0, .int .i64 0]).heap[w1.heap.size]? = some (.cells #[.int .i64 0, .int .i64 0, .string ⟨#[]⟩, .string ⟨#[]⟩, .string ⟨#[]⟩, .int .i64 0, .slice pa 0 qa, .int .i64 0, .int .i64 0, .int .i64 0, .int .i64 0, .bool false, .int .i64 0, .bool false, .slice pd 0 qd, .int .i64 0, .int .i64 0, .int .i64 0] 27) := setRow_heap _ _ _ _ _ _ (heap_alloc_new _ _)
    obtain ⟨W1, hW1⟩ : ∃ W, W = ((w1.alloc (.cells #[.int .i64 0, .int .i64 0, .string ⟨#[]⟩, .string ⟨#[]⟩, .string ⟨#[]⟩, .int .i64 0, .slice none 0 0, .int .i64 0, .int .i64 0, .int .i64 0, .int .i64 0, .bool false, .int .i64 0, .bool false, .slice none 0 0, .int .i64 0, .int .i64 0, .int .i64 0] 27)).setRow w1.heap.size #[.int .i64 0, .int .i64 0, .string ⟨#[]⟩, .string ⟨#[]⟩, .string ⟨#[]⟩, .int .i64 0, .slice pa 0 qa, .int .i64 0, .int .i64 0, .int .i64 0, .int .i64 0, .bool false, .int .i64 0, .bool false, .slice pd 0 qd, .int .i64 0, .int .i64 0, .int .i64 0]) := ⟨_, rfl⟩
    rw [← hW1] at hB1 hA1 ⊢
    clear hW1
    have HQ1 := Lib.hid (P1.out.trans (hB1.mono P1.out.size))
    have HA1 := Lib.hid hA1
    have HLT1 := Lib.hid (Array.getElem?_eq_some_iff.1 hA1).1
    have RR1 : Hid (Row W1 (.slice pa 0 qa) []) := Lib.hid (H1.out.below hB1)
    have RR2 : Hid (Row W1 (.slice pd 0 qd) []) := Lib.hid (H2.out.below hB1)
    clear hA1 hB1
    go_wp2_with (first
      | (refine ld_cmd rfl (.tmp 3) rfl w1.heap.size _ _ rfl HA1.out rfl ?_)
      | (go_at_call 14; go_loud ((with_reducible refine (CR.out _ _ _ RR1.out RR2.out).mono ?_); rintro e w2 ⟨rfl, p⟩; have P2 := Lib.hid p; clear p))
      | (go_at_call 16; go_loud ((with_reducible refine (CN.out _).mono ?_); rintro e w3 ⟨rfl, p⟩; have P3 := Lib.hid (P2.out.trans (p.mono P2.out.size)); clear p))
      | (go_at_call 8; go_loud ((with_reducible refine (CW.out _ (HQ1.out.trans (P3.out.mono HQ1.out.size))).mono ?_); rintro e w4 ⟨rfl, p⟩; have P4 := Lib.hid (P3.out.trans (p.mono P3.out.size)); clear p))
      | fail)
    go_ret
    exact ⟨rfl, HQ1.out.trans (P4.out.mono HQ1.out.size)⟩
end Go.Proofs.YtdkngidangfkiaaGreatDoor.Cmd
