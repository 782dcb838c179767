/-
  The walk of ShapeTurns.
-/
import Derived.Test.YtlmogkhgangmgaaLaw07
namespace Go.Proofs.Ytlmogkhgangmgaa.Shape
open Go.RowKit
open Base
set_option linter.unusedVariables false
set_option linter.unusedSimpArgs false

/-- Block B is an array's box, of three numbers. -/
def NBox (W : World) (B : Nat) (n0 n1 n2 : Int) : Prop := W.heap[B]? = some (.cells #[.int .i64 n0, .int .i64 n1, .int .i64 n2] 32)
theorem NBox.below {W W' : World} {B : Nat} {n0 n1 n2 : Int} (h : NBox W B n0 n1 n2) (hb : Below W.heap.size W W') : NBox W' B n0 n1 n2 := by
  unfold NBox at h ⊢; rw [hb.block _ (Array.getElem?_eq_some_iff.1 h).1]; exact h
theorem NBox.cells {W : World} {B : Nat} {n0 n1 n2 : Int} (h : NBox W B n0 n1 n2) : W.cell? ⟨B, 0, none⟩ = some (.int .i64 n0) ∧ W.cell? ⟨B, 1, none⟩ = some (.int .i64 n1) ∧ W.cell? ⟨B, 2, none⟩ = some (.int .i64 n2) := by
  unfold NBox at h; simp [World.cell?, h]
theorem NBox.new3 (w : World) (o p : Obj) (n0 n1 n2 : Int) : NBox (((w.alloc o).alloc p).alloc (.cells #[.int .i64 n0, .int .i64 n1, .int .i64 n2] 32)) (w.heap.size + 1 + 1) n0 n1 n2 := by
  have := heap_alloc_new ((w.alloc o).alloc p) (.cells #[.int .i64 n0, .int .i64 n1, .int .i64 n2] 32)
  rwa [World.size_alloc, World.size_alloc] at this

set_option maxRecDepth 100000 in
set_option maxHeartbeats 8000000 in
theorem shapeTurns_any (k : Int) (ao : Option Addr) (len cap : Nat) (zs : List Alt) (mn mx wl : Int) (k2 : Int) (ao2 : Option Addr) (l2 cap2 : Nat) (z2 : List Alt) (mn2 mx2 wl2 : Int) (n0 n1 n2 : Int) (w : World)
    (hlen : zs.length = len) (hl : len ≤ cap) (hcap : cap ≤ maxLen) (hr : ReadsS 2 altC w ao zs) (hlen2 : z2.length = l2) (hl2 : l2 ≤ cap2) (hcap2 : cap2 ≤ maxLen) (hr2 : ReadsS 2 altC w ao2 z2) :
    Calls Try.prog 4 #[.agg #[.int .i64 k, .slice ao len cap, .int .i64 mn, .int .i64 mx, .int .i64 wl], .agg #[.int .i64 k2, .slice ao2 l2 cap2, .int .i64 mn2, .int .i64 mx2, .int .i64 wl2], .agg #[.int .i64 n0, .int .i64 n1, .int .i64 n2]] w fun e w' => e = .returned (.bool true) ∧ Below w.heap.size w w' := by
  have hl64 : len ≤ 9223372036854775807 := by unfold maxLen at hcap; omega
  have hl642 : l2 ≤ 9223372036854775807 := by unfold maxLen at hcap2; omega
  have cF1 := fun w => few_any k ao len cap mn mx wl w (by omega)
  have cF2 := fun w => few_any k2 ao2 l2 cap2 mn2 mx2 wl2 w (by omega)
  have HS := Lib.hid (((SBox.new w k (.slice ao len cap) mn mx wl).alloc (.cells #[.int .i64 k2, .slice ao2 l2 cap2, .int .i64 mn2, .int .i64 mx2, .int .i64 wl2] 24)).alloc (.cells #[.int .i64 n0, .int .i64 n1, .int .i64 n2] 32))
  have HT := Lib.hid ((SBox.new2 w (.cells #[.int .i64 k, .slice ao len cap, .int .i64 mn, .int .i64 mx, .int .i64 wl] 24) k2 (.slice ao2 l2 cap2) mn2 mx2 wl2).alloc (.cells #[.int .i64 n0, .int .i64 n1, .int .i64 n2] 32))
  have HN := Lib.hid (NBox.new3 w (.cells #[.int .i64 k, .slice ao len cap, .int .i64 mn, .int .i64 mx, .int .i64 wl] 24) (.cells #[.int .i64 k2, .slice ao2 l2 cap2, .int .i64 mn2, .int .i64 mx2, .int .i64 wl2] 24) n0 n1 n2)
  have HB0 : Hid (Below w.heap.size w (((w.alloc (.cells #[.int .i64 k, .slice ao len cap, .int .i64 mn, .int .i64 mx, .int .i64 wl] 24)).alloc (.cells #[.int .i64 k2, .slice ao2 l2 cap2, .int .i64 mn2, .int .i64 mx2, .int .i64 wl2] 24)).alloc (.cells #[.int .i64 n0, .int .i64 n1, .int .i64 n2] 32))) := Lib.hid (by (focus repeat (first | exact Below.refl _ _ | assumption | (exact Hid.out (by assumption)) | (with_reducible refine Below.drew ?_) | (with_reducible refine Base.below_drewN ?_ _) | (refine Below.from (below_one _) ?_) | (refine Below.from (below_conv _ _ _) ?_) | (refine Below.setCell ?_ (by simp <;> omega) _) | (refine Below.from (by assumption) ?_))))
  cases hf : fewB len with
  | false =>
    simp only [hf] at cF1
    have CF1 := Lib.hid cF1
    clear cF1 cF2 hr hr2 hlen hlen2 hf
    go_enter Try.func4, Try.ntmps4
    go_wp2_with (first
      | (go_at_call 7; (with_reducible refine (CF1.out _).mono ?_); rintro e w1 ⟨rfl, p1⟩; obtain ⟨q5, q6, q7, q8, q9⟩ := (HT.out.below p1).cells)
      | (go_at_call 8; (with_reducible refine (awake_any _).mono ?_); rintro e w4 ⟨rfl, p4⟩)
      | fail)
    go_ret
    exact ⟨rfl, p4.from (p1.from HB0.out)⟩
  | true =>
    simp only [hf] at cF1
    have CF1 := Lib.hid cF1
    have hs1000 : len ≤ 1000 := by unfold fewB at hf; have := of_decide_eq_true hf; omega
    clear cF1 hf
    cases hf2 : fewB l2 with
    | false =>
      simp only [hf2] at cF2
      have CF2 := Lib.hid cF2
      clear cF2 hr hr2 hlen hlen2 hf2
      go_enter Try.func4, Try.ntmps4
      go_wp2_with (first
        | (go_at_call 7; (with_reducible refine (CF1.out _).mono ?_); rintro e w1 ⟨rfl, p1⟩; obtain ⟨q5, q6, q7, q8, q9⟩ := (HT.out.below p1).cells)
        | (go_at_call 7; (with_reducible refine (CF2.out _).mono ?_); rintro e w2 ⟨rfl, p2⟩; obtain ⟨s0, s1, s2, s3, s4⟩ := (HS.out.below (p2.from p1)).cells; obtain ⟨m0, m1, m2⟩ := (HN.out.below (p2.from p1)).cells)
        | (go_at_call 8; (with_reducible refine (awake_any _).mono ?_); rintro e w4 ⟨rfl, p4⟩)
        | fail)
      go_ret
      exact ⟨rfl, p4.from ((p2.from p1).from HB0.out)⟩
    | true =>
      simp only [hf2] at cF2
      have CF2 := Lib.hid cF2
      have c1 := fun (W : World) (hb : Below w.heap.size w W) => swalls_any k ao len cap zs mn mx wl n0 W hlen hl hcap hs1000 (hr.below altC_length hb)
      have c2 := fun (W : World) (hb : Below w.heap.size w W) => rwalls_any k ao len cap zs mn mx wl n0 W hlen hl hcap hs1000 (hr.below altC_length hb)
      have c3 := fun (W : World) (hb : Below w.heap.size w W) => sallows_any k ao len cap zs mn mx wl n1 n2 W hlen hl hcap (hr.below altC_length hb)
      have c4 := fun (W : World) (hb : Below w.heap.size w W) => rallows_any k ao len cap zs mn mx wl n1 n2 W hlen hl hcap (hr.below altC_length hb)
      have c5 := fun (W : World) (hb : Below w.heap.size w W) => ssame_any k ao len cap zs mn mx wl k2 ao2 l2 cap2 z2 mn2 mx2 wl2 W hlen hlen2 (by omega) (by omega) (hr.below altC_length hb) (hr2.below altC_length hb)
      have c6 := fun (W : World) (hb : Below w.heap.size w W) => rsame_any k ao len cap zs mn mx wl k2 ao2 l2 cap2 z2 mn2 mx2 wl2 W hlen hlen2 (by omega) (by omega) (hr.below altC_length hb) (hr2.below altC_length hb)
      have hzl : (wallL zs n0).length = len := by rw [wallL_length]; exact hlen
      unfold WallSays at c1 c2
      rw [hlen] at c1 c2
      generalize wallW k wl n0 = WW at c1 c2
      generalize wallL zs n0 = ZW at c1 c2 hzl
      generalize allowB k (optL k zs mn mx wl) mn mx n1 n2 = A at c3 c4
      generalize sameB k zs mn mx wl k2 z2 mn2 mx2 wl2 = S at c5 c6
      have c7 := fun (a : Option Addr) (c : Nat) (W : World) (hb : Below w.heap.size w W) (h7 : ReadsS 2 altC W a ZW) => ssame_any k ao len cap zs mn mx wl k a len c ZW mn mx WW W hlen hzl (by omega) (by omega) (hr.below altC_length hb) h7
      have c8 := fun (a : Option Addr) (c : Nat) (W : World) (hb : Below w.heap.size w W) (h7 : ReadsS 2 altC W a ZW) => rsame_any k ao len cap zs mn mx wl k a len c ZW mn mx WW W hlen hzl (by omega) (by omega) (hr.below altC_length hb) h7
      have c9 := fun (a b : Option Addr) (c d : Nat) (W : World) (h7 : ReadsS 2 altC W a ZW) (h8 : ReadsS 2 altC W b ZW) => rsame_any k a len c ZW mn mx WW k b len d ZW mn mx WW W hzl hzl (by omega) (by omega) h7 h8
      generalize sameB k zs mn mx wl k ZW mn mx WW = S2 at c7 c8
      have hss : sameB k ZW mn mx WW k ZW mn mx WW = true := by unfold sameB sameL; simp
      simp only [hss] at c9
      have C1 := Lib.hid c1
      have C2 := Lib.hid c2
      have C3 := Lib.hid c3
      have C4 := Lib.hid c4
      have C5 := Lib.hid c5
      have C6 := Lib.hid c6
      have C7 := Lib.hid c7
      have C8 := Lib.hid c8
      have C9 := Lib.hid c9
      have t1 : (A == A) = true := by simp
      have t2 : (S == S) = true := by simp
      have t3 : (S2 == S2) = true := by simp
      clear c1 c2 c3 c4 c5 c6 c7 c8 c9 cF2 hr hr2 hlen hlen2 hf2 hss hzl
      go_enter Try.func4, Try.ntmps4
      go_wp2_with (first
        | (go_at_call 7; (with_reducible refine (CF1.out _).mono ?_); rintro e w1 ⟨rfl, p1⟩; obtain ⟨q5, q6, q7, q8, q9⟩ := (HT.out.below p1).cells)
        | (go_at_call 7; (with_reducible refine (CF2.out _).mono ?_); rintro e w2 ⟨rfl, p2⟩; obtain ⟨s0, s1, s2, s3, s4⟩ := (HS.out.below (p2.from p1)).cells; obtain ⟨m0, m1, m2⟩ := (HN.out.below (p2.from p1)).cells)
        | (go_at_call 18; (with_reducible refine (C1.out _ ((p2.from p1).from HB0.out)).mono ?_); rintro e w3 ⟨ao7, cap7, rfl, h7, h7n, h7l, h7c, p3⟩)
        | fail)
      have hb3 : Below w.heap.size w w3 := p3.from ((p2.from p1).from HB0.out)
      obtain ⟨W7, hW7⟩ : ∃ W7, w3.alloc (.cells #[.int .i64 k, .slice ao7 len cap7, .int .i64 mn, .int .i64 mx, .int .i64 WW] 24) = W7 := ⟨_, rfl⟩
      have b1 := (HS.out.below (p3.from (p2.from p1))).alloc (.cells #[.int .i64 k, .slice ao7 len cap7, .int .i64 mn, .int .i64 mx, .int .i64 WW] 24)
      have b2 := (HT.out.below (p3.from (p2.from p1))).alloc (.cells #[.int .i64 k, .slice ao7 len cap7, .int .i64 mn, .int .i64 mx, .int .i64 WW] 24)
      have b3 := (HN.out.below (p3.from (p2.from p1))).below (below_one (.cells #[.int .i64 k, .slice ao7 len cap7, .int .i64 mn, .int .i64 mx, .int .i64 WW] 24))
      have b4 := SBox.new w3 k (.slice ao7 len cap7) mn mx WW
      have hb7 := (hb3.alloc hb3.size (.cells #[.int .i64 k, .slice ao7 len cap7, .int .i64 mn, .int .i64 mx, .int .i64 WW] 24)).drew
      have h7b := h7.below altC_length (below_one (.cells #[.int .i64 k, .slice ao7 len cap7, .int .i64 mn, .int .i64 mx, .int .i64 WW] 24)).drew
      rw [hW7] at b1 b2 b3 b4 hb7 h7b ⊢
      obtain ⟨r0, r1, r2, r3, r4⟩ := b1.cells
      obtain ⟨r5, r6, r7, r8, r9⟩ := b2.cells
      obtain ⟨r10, r11, r12⟩ := b3.cells
      obtain ⟨r13, r14, r15, r16, r17⟩ := b4.cells
      have H7B := Lib.hid h7b
      clear hW7 b1 b2 b3 b4 h7b h7 q5 q6 q7 q8 q9 s0 s1 s2 s3 s4 m0 m1 m2 hb3
      go_region_held3 (fun W => W.cell? ⟨w.heap.size, 0, none⟩ = some (.int .i64 k) ∧ W.cell? ⟨w.heap.size, 1, none⟩ = some (.slice ao len cap) ∧ W.cell? ⟨w.heap.size, 2, none⟩ = some (.int .i64 mn) ∧ W.cell? ⟨w.heap.size, 3, none⟩ = some (.int .i64 mx) ∧ W.cell? ⟨w.heap.size, 4, none⟩ = some (.int .i64 wl) ∧ W.cell? ⟨w.heap.size + 1, 0, none⟩ = some (.int .i64 k2) ∧ W.cell? ⟨w.heap.size + 1, 1, none⟩ = some (.slice ao2 l2 cap2) ∧ W.cell? ⟨w.heap.size + 1, 2, none⟩ = some (.int .i64 mn2) ∧ W.cell? ⟨w.heap.size + 1, 3, none⟩ = some (.int .i64 mx2) ∧ W.cell? ⟨w.heap.size + 1, 4, none⟩ = some (.int .i64 wl2) ∧ W.cell? ⟨w.heap.size + 1 + 1, 0, none⟩ = some (.int .i64 n0) ∧ W.cell? ⟨w.heap.size + 1 + 1, 1, none⟩ = some (.int .i64 n1) ∧ W.cell? ⟨w.heap.size + 1 + 1, 2, none⟩ = some (.int .i64 n2) ∧ W.cell? ⟨w3.heap.size, 0, none⟩ = some (.int .i64 k) ∧ W.cell? ⟨w3.heap.size, 1, none⟩ = some (.slice ao7 len cap7) ∧ W.cell? ⟨w3.heap.size, 2, none⟩ = some (.int .i64 mn) ∧ W.cell? ⟨w3.heap.size, 3, none⟩ = some (.int .i64 mx) ∧ W.cell? ⟨w3.heap.size, 4, none⟩ = some (.int .i64 WW) ∧ ReadsS 2 altC W ao7 ZW ∧ Below w.heap.size w W)
        (first | exact ⟨r0, r1, r2, r3, r4, r5, r6, r7, r8, r9, r10, r11, r12, r13, r14, r15, r16, r17, H7B.out, hb7⟩ | exact ⟨x0, x1, x2, x3, x4, x5, x6, x7, x8, x9, x10, x11, x12, x13, x14, x15, x16, x17, xr, xb⟩ | go_keep)
        (first
        | (go_at_call 20; refine (C2.out _ hb7).mono ?_; rintro e w4 ⟨ao8, cap8, rfl, h8, _, _, _, p4⟩; have H8 := Lib.hid h8; clear h8; have x0 := cell_below (w := W7.drew) r0 p4; have x1 := cell_below (w := W7.drew) r1 p4; have x2 := cell_below (w := W7.drew) r2 p4; have x3 := cell_below (w := W7.drew) r3 p4; have x4 := cell_below (w := W7.drew) r4 p4; have x5 := cell_below (w := W7.drew) r5 p4; have x6 := cell_below (w := W7.drew) r6 p4; have x7 := cell_below (w := W7.drew) r7 p4; have x8 := cell_below (w := W7.drew) r8 p4; have x9 := cell_below (w := W7.drew) r9 p4; have x10 := cell_below (w := W7.drew) r10 p4; have x11 := cell_below (w := W7.drew) r11 p4; have x12 := cell_below (w := W7.drew) r12 p4; have x13 := cell_below (w := W7.drew) r13 p4; have x14 := cell_below (w := W7.drew) r14 p4; have x15 := cell_below (w := W7.drew) r15 p4; have x16 := cell_below (w := W7.drew) r16 p4; have x17 := cell_below (w := W7.drew) r17 p4; have xr := H7B.out.below altC_length p4; have xb := Below.from p4 hb7)
        | (go_at_call 19; (with_reducible refine (C9.out _ _ _ _ _ xr H8.out).mono ?_); rintro e w5 ⟨rfl, p5⟩; replace x0 := cell_below x0 p5; replace x1 := cell_below x1 p5; replace x2 := cell_below x2 p5; replace x3 := cell_below x3 p5; replace x4 := cell_below x4 p5; replace x5 := cell_below x5 p5; replace x6 := cell_below x6 p5; replace x7 := cell_below x7 p5; replace x8 := cell_below x8 p5; replace x9 := cell_below x9 p5; replace x10 := cell_below x10 p5; replace x11 := cell_below x11 p5; replace x12 := cell_below x12 p5; replace x13 := cell_below x13 p5; replace x14 := cell_below x14 p5; replace x15 := cell_below x15 p5; replace x16 := cell_below x16 p5; replace x17 := cell_below x17 p5; replace xr := xr.below altC_length p5; replace xb := Below.from p5 xb)
        | (go_at_call 21; refine (C3.out _ xb).mono ?_; rintro e w6 ⟨rfl, p6⟩; replace x0 := cell_below x0 p6; replace x1 := cell_below x1 p6; replace x2 := cell_below x2 p6; replace x3 := cell_below x3 p6; replace x4 := cell_below x4 p6; replace x5 := cell_below x5 p6; replace x6 := cell_below x6 p6; replace x7 := cell_below x7 p6; replace x8 := cell_below x8 p6; replace x9 := cell_below x9 p6; replace x10 := cell_below x10 p6; replace x11 := cell_below x11 p6; replace x12 := cell_below x12 p6; replace x13 := cell_below x13 p6; replace x14 := cell_below x14 p6; replace x15 := cell_below x15 p6; replace x16 := cell_below x16 p6; replace x17 := cell_below x17 p6; replace xr := xr.below altC_length p6; replace xb := Below.from p6 xb)
        | (go_at_call 22; refine (C4.out _ xb).mono ?_; rintro e w7 ⟨rfl, p7⟩; replace x0 := cell_below x0 p7; replace x1 := cell_below x1 p7; replace x2 := cell_below x2 p7; replace x3 := cell_below x3 p7; replace x4 := cell_below x4 p7; replace x5 := cell_below x5 p7; replace x6 := cell_below x6 p7; replace x7 := cell_below x7 p7; replace x8 := cell_below x8 p7; replace x9 := cell_below x9 p7; replace x10 := cell_below x10 p7; replace x11 := cell_below x11 p7; replace x12 := cell_below x12 p7; replace x13 := cell_below x13 p7; replace x14 := cell_below x14 p7; replace x15 := cell_below x15 p7; replace x16 := cell_below x16 p7; replace x17 := cell_below x17 p7; replace xr := xr.below altC_length p7; replace xb := Below.from p7 xb)
        | (go_at_call 23; (with_reducible refine (C5.out _ xb).mono ?_); rintro e w8 ⟨rfl, p8⟩; replace x0 := cell_below x0 p8; replace x1 := cell_below x1 p8; replace x2 := cell_below x2 p8; replace x3 := cell_below x3 p8; replace x4 := cell_below x4 p8; replace x5 := cell_below x5 p8; replace x6 := cell_below x6 p8; replace x7 := cell_below x7 p8; replace x8 := cell_below x8 p8; replace x9 := cell_below x9 p8; replace x10 := cell_below x10 p8; replace x11 := cell_below x11 p8; replace x12 := cell_below x12 p8; replace x13 := cell_below x13 p8; replace x14 := cell_below x14 p8; replace x15 := cell_below x15 p8; replace x16 := cell_below x16 p8; replace x17 := cell_below x17 p8; replace xr := xr.below altC_length p8; replace xb := Below.from p8 xb)
        | (go_at_call 19; (with_reducible refine (C6.out _ xb).mono ?_); rintro e w9 ⟨rfl, p9⟩; replace x0 := cell_below x0 p9; replace x1 := cell_below x1 p9; replace x2 := cell_below x2 p9; replace x3 := cell_below x3 p9; replace x4 := cell_below x4 p9; replace x5 := cell_below x5 p9; replace x6 := cell_below x6 p9; replace x7 := cell_below x7 p9; replace x8 := cell_below x8 p9; replace x9 := cell_below x9 p9; replace x10 := cell_below x10 p9; replace x11 := cell_below x11 p9; replace x12 := cell_below x12 p9; replace x13 := cell_below x13 p9; replace x14 := cell_below x14 p9; replace x15 := cell_below x15 p9; replace x16 := cell_below x16 p9; replace x17 := cell_below x17 p9; replace xr := xr.below altC_length p9; replace xb := Below.from p9 xb)
        | (go_at_call 23; (with_reducible refine (C7.out _ _ _ xb xr).mono ?_); rintro e w10 ⟨rfl, p10⟩; replace x0 := cell_below x0 p10; replace x1 := cell_below x1 p10; replace x2 := cell_below x2 p10; replace x3 := cell_below x3 p10; replace x4 := cell_below x4 p10; replace x5 := cell_below x5 p10; replace x6 := cell_below x6 p10; replace x7 := cell_below x7 p10; replace x8 := cell_below x8 p10; replace x9 := cell_below x9 p10; replace x10 := cell_below x10 p10; replace x11 := cell_below x11 p10; replace x12 := cell_below x12 p10; replace x13 := cell_below x13 p10; replace x14 := cell_below x14 p10; replace x15 := cell_below x15 p10; replace x16 := cell_below x16 p10; replace x17 := cell_below x17 p10; replace xr := xr.below altC_length p10; replace xb := Below.from p10 xb)
        | (go_at_call 19; (with_reducible refine (C8.out _ _ _ xb xr).mono ?_); rintro e w11 ⟨rfl, p11⟩; replace x0 := cell_below x0 p11; replace x1 := cell_below x1 p11; replace x2 := cell_below x2 p11; replace x3 := cell_below x3 p11; replace x4 := cell_below x4 p11; replace x5 := cell_below x5 p11; replace x6 := cell_below x6 p11; replace x7 := cell_below x7 p11; replace x8 := cell_below x8 p11; replace x9 := cell_below x9 p11; replace x10 := cell_below x10 p11; replace x11 := cell_below x11 p11; replace x12 := cell_below x12 p11; replace x13 := cell_below x13 p11; replace x14 := cell_below x14 p11; replace x15 := cell_below x15 p11; replace x16 := cell_below x16 p11; replace x17 := cell_below x17 p11; replace xr := xr.below altC_length p11; replace xb := Below.from p11 xb)
        | (go_at_call 8; refine (awake_any _).mono ?_; rintro e w12 ⟨rfl, p12⟩; replace x0 := cell_below x0 p12; replace x1 := cell_below x1 p12; replace x2 := cell_below x2 p12; replace x3 := cell_below x3 p12; replace x4 := cell_below x4 p12; replace x5 := cell_below x5 p12; replace x6 := cell_below x6 p12; replace x7 := cell_below x7 p12; replace x8 := cell_below x8 p12; replace x9 := cell_below x9 p12; replace x10 := cell_below x10 p12; replace x11 := cell_below x11 p12; replace x12 := cell_below x12 p12; replace x13 := cell_below x13 p12; replace x14 := cell_below x14 p12; replace x15 := cell_below x15 p12; replace x16 := cell_below x16 p12; replace x17 := cell_below x17 p12; replace xr := xr.below altC_length p12; replace xb := Below.from p12 xb))
      go_wp2
      go_ret
      exact ⟨rfl, xb⟩

end Go.Proofs.Ytlmogkhgangmgaa.Shape
