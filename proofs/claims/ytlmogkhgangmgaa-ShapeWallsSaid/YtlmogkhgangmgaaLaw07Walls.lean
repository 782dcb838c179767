/-
  The walk of ShapeWalls.
-/
import Derived.Test.YtlmogkhgangmgaaLaw07
namespace Go.Proofs.Ytlmogkhgangmgaa.Shape
open Go.RowKit
open Base
set_option linter.unusedVariables false
set_option linter.unusedSimpArgs false

theorem wallL_down (mx mn wl x : Int) : wallL (downL mx mn wl) x = downL mx mn x := by
  unfold wallL downL
  rw [List.map_map]
  rfl
theorem wallL_good {zs : List Alt} {x : Int} (h : goodB zs = true) (h1 : 1 ≤ x) (h2 : x ≤ 100000) : goodB (wallL zs x) = true := by
  rw [goodB_iff] at h ⊢
  refine ⟨fun i hi => ?_, fun i j hi hj hij => ?_⟩
  · rw [wallL_at, altOk_iff]
    rw [wallL_length] at hi
    exact ⟨((altOk_iff _).1 (h.1 i hi)).1, h1, h2⟩
  · rw [wallL_at, wallL_at]
    rw [wallL_length] at hi hj
    exact h.2 i j hi hj hij
theorem walls_opt {k : Int} {zs : List Alt} {mn mx wl x : Int} (h : chkB k zs mn mx wl = true) (h1 : 1 ≤ x) (h2 : x ≤ 100000) :
    chkB k (wallL zs x) mn mx (wallW k wl x) = true ∧ optL k (wallL zs x) mn mx (wallW k wl x) = wallL (optL k zs mn mx wl) x := by
  by_cases h3 : k = 3
  · subst h3
    have hc := chk3.1 h
    have hn : chkB 3 (wallL zs x) mn mx (wallW 3 wl x) = true := by
      rw [chk3]
      refine ⟨by rw [hc.1]; rfl, hc.2.1, hc.2.2.1, hc.2.2.2.1, ?_⟩
      unfold wallW; rw [if_pos rfl]; exact ⟨h1, h2⟩
    refine ⟨hn, ?_⟩
    rw [optL_down hn, optL_down h, wallL_down]
    unfold wallW; rw [if_pos rfl]
  · have hc := chk12 h h3
    have hg := wallL_good hc.2.2.2.2.1 h1 h2
    have hw : wallW k wl x = wl := by unfold wallW; rw [if_neg h3]
    have hs := (spanB_no mn mx wl).2 hc.2.2.2.2.2
    have hn : chkB k (wallL zs x) mn mx (wallW k wl x) = true := by
      rw [hw]
      rcases hc.1 with rfl | rfl
      · unfold chkB
        rw [if_pos rfl, Bool.and_eq_true, mayB_iff, wallL_length]
        have := hc.2.2.2.1 rfl
        exact ⟨⟨by omega, hg⟩, hs⟩
      · unfold chkB
        rw [if_neg (by decide), if_pos rfl, Bool.and_eq_true, mayB_iff, wallL_length]
        exact ⟨⟨by omega, hg⟩, hs⟩
    refine ⟨hn, ?_⟩
    rw [optL_rows hn h3, optL_rows h h3]

set_option maxRecDepth 100000 in
set_option maxHeartbeats 8000000 in
theorem shapeWalls_any (k : Int) (ao : Option Addr) (len cap : Nat) (zs : List Alt) (mn mx wl x : Int) (w : World) (hlen : zs.length = len) (hl : len ≤ cap) (hcap : cap ≤ maxLen) (hr : ReadsS 2 altC w ao zs) :
    Calls Try.prog 6 #[.agg #[.int .i64 k, .slice ao len cap, .int .i64 mn, .int .i64 mx, .int .i64 wl], .int .i64 x] w fun e w' => e = .returned (.bool true) ∧ Below w.heap.size w w' := by
  have hl64 : len ≤ 9223372036854775807 := by unfold maxLen at hcap; omega
  have cF := fun w => few_any k ao len cap mn mx wl w (by omega)
  have HSB := Lib.hid (SBox.new w k (.slice ao len cap) mn mx wl)
  cases hf : fewB len with
  | false =>
    simp only [hf] at cF
    have CF := Lib.hid cF
    clear cF hr hlen hf
    go_enter Try.func6, Try.ntmps6
    go_wp2_with (first
      | (go_at_call 7; (with_reducible refine (CF.out _).mono ?_); rintro e w1 ⟨rfl, p1⟩; obtain ⟨x0, x1, x2, x3, x4⟩ := (HSB.out.below p1).cells)
      | (go_at_call 8; (with_reducible refine (awake_any _).mono ?_); rintro e w6 ⟨rfl, p6⟩)
      | fail)
    go_ret
    exact ⟨rfl, by (focus repeat (first | exact Below.refl _ _ | assumption | (exact Hid.out (by assumption)) | (with_reducible refine Below.drew ?_) | (with_reducible refine Base.below_drewN ?_ _) | (refine Below.from (below_one _) ?_) | (refine Below.from (below_conv _ _ _) ?_) | (refine Below.setCell ?_ (by simp <;> omega) _) | (refine Below.from (by assumption) ?_)))⟩
  | true =>
    simp only [hf] at cF
    have CF := Lib.hid cF
    have hs1000 : len ≤ 1000 := by unfold fewB at hf; have := of_decide_eq_true hf; omega
    have c1 := fun (W : World) (hb : Below w.heap.size w W) => check_any k ao len cap zs mn mx wl W hlen hl hcap (hr.below altC_length hb)
    clear cF hf
    cases hc : chkB k zs mn mx wl with
    | false =>
      have hE : chkE k zs mn mx wl = 70 := by unfold chkE; rw [hc]; rfl
      simp only [hE] at c1
      have C1 := Lib.hid c1
      clear c1 hE hc hr hlen
      go_enter Try.func6, Try.ntmps6
      go_wp2_with (first
        | (go_at_call 7; (with_reducible refine (CF.out _).mono ?_); rintro e w1 ⟨rfl, p1⟩; obtain ⟨x0, x1, x2, x3, x4⟩ := (HSB.out.below p1).cells)
        | (go_at_call 9; (with_reducible refine (C1.out _ (by (focus repeat (first | exact Below.refl _ _ | assumption | (exact Hid.out (by assumption)) | (with_reducible refine Below.drew ?_) | (with_reducible refine Base.below_drewN ?_ _) | (refine Below.from (below_one _) ?_) | (refine Below.from (below_conv _ _ _) ?_) | (refine Below.setCell ?_ (by simp <;> omega) _) | (refine Below.from (by assumption) ?_))))).mono ?_); rintro e w2 ⟨rfl, p2⟩; obtain ⟨x0, x1, x2, x3, x4⟩ := (HSB.out.below (p2.from p1)).cells)
        | (go_at_call 8; (with_reducible refine (awake_any _).mono ?_); rintro e w6 ⟨rfl, p6⟩)
        | fail)
      go_ret
      exact ⟨rfl, by (focus repeat (first | exact Below.refl _ _ | assumption | (exact Hid.out (by assumption)) | (with_reducible refine Below.drew ?_) | (with_reducible refine Base.below_drewN ?_ _) | (refine Below.from (below_one _) ?_) | (refine Below.from (below_conv _ _ _) ?_) | (refine Below.setCell ?_ (by simp <;> omega) _) | (refine Below.from (by assumption) ?_)))⟩
    | true =>
      have hE : chkE k zs mn mx wl = 0 := by unfold chkE; rw [hc]; rfl
      simp only [hE] at c1
      have C1 := Lib.hid c1
      clear c1 hE
      cases hx1 : decide (x < 1) with
      | true =>
        clear hc hr hlen
        go_enter Try.func6, Try.ntmps6
        go_wp2_with (first
          | (go_at_call 7; (with_reducible refine (CF.out _).mono ?_); rintro e w1 ⟨rfl, p1⟩; obtain ⟨x0, x1, x2, x3, x4⟩ := (HSB.out.below p1).cells)
          | (go_at_call 9; (with_reducible refine (C1.out _ (by (focus repeat (first | exact Below.refl _ _ | assumption | (exact Hid.out (by assumption)) | (with_reducible refine Below.drew ?_) | (with_reducible refine Base.below_drewN ?_ _) | (refine Below.from (below_one _) ?_) | (refine Below.from (below_conv _ _ _) ?_) | (refine Below.setCell ?_ (by simp <;> omega) _) | (refine Below.from (by assumption) ?_))))).mono ?_); rintro e w2 ⟨rfl, p2⟩; obtain ⟨x0, x1, x2, x3, x4⟩ := (HSB.out.below (p2.from p1)).cells)
          | (go_at_call 8; (with_reducible refine (awake_any _).mono ?_); rintro e w6 ⟨rfl, p6⟩)
          | fail)
        go_ret
        exact ⟨rfl, by (focus repeat (first | exact Below.refl _ _ | assumption | (exact Hid.out (by assumption)) | (with_reducible refine Below.drew ?_) | (with_reducible refine Base.below_drewN ?_ _) | (refine Below.from (below_one _) ?_) | (refine Below.from (below_conv _ _ _) ?_) | (refine Below.setCell ?_ (by simp <;> omega) _) | (refine Below.from (by assumption) ?_)))⟩
      | false =>
        cases hx2 : decide (100000 < x) with
        | true =>
          clear hc hr hlen
          go_enter Try.func6, Try.ntmps6
          go_wp2_with (first
            | (go_at_call 7; (with_reducible refine (CF.out _).mono ?_); rintro e w1 ⟨rfl, p1⟩; obtain ⟨x0, x1, x2, x3, x4⟩ := (HSB.out.below p1).cells)
            | (go_at_call 9; (with_reducible refine (C1.out _ (by (focus repeat (first | exact Below.refl _ _ | assumption | (exact Hid.out (by assumption)) | (with_reducible refine Below.drew ?_) | (with_reducible refine Base.below_drewN ?_ _) | (refine Below.from (below_one _) ?_) | (refine Below.from (below_conv _ _ _) ?_) | (refine Below.setCell ?_ (by simp <;> omega) _) | (refine Below.from (by assumption) ?_))))).mono ?_); rintro e w2 ⟨rfl, p2⟩; obtain ⟨x0, x1, x2, x3, x4⟩ := (HSB.out.below (p2.from p1)).cells)
            | (go_at_call 8; (with_reducible refine (awake_any _).mono ?_); rintro e w6 ⟨rfl, p6⟩)
            | fail)
          go_ret
          exact ⟨rfl, by (focus repeat (first | exact Below.refl _ _ | assumption | (exact Hid.out (by assumption)) | (with_reducible refine Below.drew ?_) | (with_reducible refine Base.below_drewN ?_ _) | (refine Below.from (below_one _) ?_) | (refine Below.from (below_conv _ _ _) ?_) | (refine Below.setCell ?_ (by simp <;> omega) _) | (refine Below.from (by assumption) ?_)))⟩
        | false =>
          have hxa : 1 ≤ x := by have := of_decide_eq_false hx1; omega
          have hxb : x ≤ 100000 := by have := of_decide_eq_false hx2; omega
          obtain ⟨hcn, hon⟩ := walls_opt hc hxa hxb
          have hEn : chkE k (wallL zs x) mn mx (wallW k wl x) = 0 := by unfold chkE; rw [hcn]; rfl
          have hzl : (wallL zs x).length = len := by rw [wallL_length]; exact hlen
          have c2 := fun (W : World) (hb : Below w.heap.size w W) => swalls_any k ao len cap zs mn mx wl x W hlen hl hcap hs1000 (hr.below altC_length hb)
          have c3 := fun (W : World) (hb : Below w.heap.size w W) => soptions_any k ao len cap zs mn mx wl W hlen hl hcap (hr.below altC_length hb)
          have c4 := fun (a : Option Addr) (c : Nat) (W : World) (h1 : len ≤ c) (h2 : c ≤ maxLen) (h7 : ReadsS 2 altC W a (wallL zs x)) => soptions_any k a len c (wallL zs x) mn mx (wallW k wl x) W hzl h1 h2 h7
          have c5 := fun (a : Option Addr) (c : Nat) (W : World) (h1 : len ≤ c) (h2 : c ≤ maxLen) (h7 : ReadsS 2 altC W a (wallL zs x)) => check_any k a len c (wallL zs x) mn mx (wallW k wl x) W hzl h1 h2 h7
          unfold WallSays at c2
          rw [hlen] at c2
          simp only [hon, wallL_length] at c4
          simp only [hEn] at c5
          have hat := fun (i : Nat) (h : i < (optL k zs mn mx wl).length) => show (wallL (optL k zs mn mx wl) x)[i]? = some ((optL k zs mn mx wl)[i].1, x) by
            have h' : i < (wallL (optL k zs mn mx wl) x).length := by rw [wallL_length]; exact h
            rw [List.getElem?_eq_getElem h', wallL_at]
          have hml : (wallL (optL k zs mn mx wl) x).length = (optL k zs mn mx wl).length := wallL_length _ _
          have hZ48 := (optL_good k zs mn mx wl).2
          clear hcn hon hEn hzl
          generalize wallW k wl x = WW at c2 c4 c5
          generalize wallL zs x = ZW at c2 c4 c5
          generalize wallL (optL k zs mn mx wl) x = ZM at c4 hat hml
          generalize optL k zs mn mx wl = Z at c3 c4 hat hml hZ48
          have C2 := Lib.hid c2
          have C3 := Lib.hid c3
          have C4 := Lib.hid c4
          have C5 := Lib.hid c5
          have HAT := Lib.hid hat
          have HML := Lib.hid hml
          clear c2 c3 c4 c5 hat hml hc hr hlen
          go_enter Try.func6, Try.ntmps6
          go_wp2_with (first
            | (go_at_call 7; (with_reducible refine (CF.out _).mono ?_); rintro e w1 ⟨rfl, p1⟩; obtain ⟨x0, x1, x2, x3, x4⟩ := (HSB.out.below p1).cells)
            | (go_at_call 9; (with_reducible refine (C1.out _ (by (focus repeat (first | exact Below.refl _ _ | assumption | (exact Hid.out (by assumption)) | (with_reducible refine Below.drew ?_) | (with_reducible refine Base.below_drewN ?_ _) | (refine Below.from (below_one _) ?_) | (refine Below.from (below_conv _ _ _) ?_) | (refine Below.setCell ?_ (by simp <;> omega) _) | (refine Below.from (by assumption) ?_))))).mono ?_); rintro e w2 ⟨rfl, p2⟩; obtain ⟨x0, x1, x2, x3, x4⟩ := (HSB.out.below (p2.from p1)).cells)
            | (go_at_call 18; (with_reducible refine (C2.out _ (by (focus repeat (first | exact Below.refl _ _ | assumption | (exact Hid.out (by assumption)) | (with_reducible refine Below.drew ?_) | (with_reducible refine Base.below_drewN ?_ _) | (refine Below.from (below_one _) ?_) | (refine Below.from (below_conv _ _ _) ?_) | (refine Below.setCell ?_ (by simp <;> omega) _) | (refine Below.from (by assumption) ?_))))).mono ?_); rintro e w3 ⟨ao7, cap7, rfl, h7, h7n, h7l, h7c, p3⟩)
            | fail)
          have hb3 : Below w.heap.size w w3 := by (focus repeat (first | exact Below.refl _ _ | assumption | (exact Hid.out (by assumption)) | (with_reducible refine Below.drew ?_) | (with_reducible refine Base.below_drewN ?_ _) | (refine Below.from (below_one _) ?_) | (refine Below.from (below_conv _ _ _) ?_) | (refine Below.setCell ?_ (by simp <;> omega) _) | (refine Below.from (by assumption) ?_)))
          have hs3 := (HSB.out.below (p3.from (p2.from p1))).alloc (.cells #[.int .i64 k, .slice ao7 len cap7, .int .i64 mn, .int .i64 mx, .int .i64 WW] 24)
          have ht3 := SBox.new w3 k (.slice ao7 len cap7) mn mx WW
          have h7b := h7.below altC_length (below_one (.cells #[.int .i64 k, .slice ao7 len cap7, .int .i64 mn, .int .i64 mx, .int .i64 WW] 24))
          have hb7 := hb3.alloc hb3.size (.cells #[.int .i64 k, .slice ao7 len cap7, .int .i64 mn, .int .i64 mx, .int .i64 WW] 24)
          obtain ⟨W7, hW7⟩ : ∃ W7, w3.alloc (.cells #[.int .i64 k, .slice ao7 len cap7, .int .i64 mn, .int .i64 mx, .int .i64 WW] 24) = W7 := ⟨_, rfl⟩
          rw [hW7] at hs3 ht3 h7b hb7 ⊢
          obtain ⟨r0, r1, r2, r3, r4⟩ := hs3.cells
          obtain ⟨r5, r6, r7, r8, r9⟩ := ht3.cells
          have H7B := Lib.hid h7b
          have H7D := Lib.hid (h7b.below altC_length (Below.refl _ W7).drew)
          clear hW7 hs3 ht3 h7b h7 hb3 x0 x1 x2 x3 x4 p1 p2 p3
          go_region_held3 (fun W => W.cell? ⟨w.heap.size, 0, none⟩ = some (.int .i64 k) ∧ W.cell? ⟨w.heap.size, 1, none⟩ = some (.slice ao len cap) ∧ W.cell? ⟨w.heap.size, 2, none⟩ = some (.int .i64 mn) ∧ W.cell? ⟨w.heap.size, 3, none⟩ = some (.int .i64 mx) ∧ W.cell? ⟨w.heap.size, 4, none⟩ = some (.int .i64 wl) ∧ W.cell? ⟨w3.heap.size, 0, none⟩ = some (.int .i64 k) ∧ W.cell? ⟨w3.heap.size, 1, none⟩ = some (.slice ao7 len cap7) ∧ W.cell? ⟨w3.heap.size, 2, none⟩ = some (.int .i64 mn) ∧ W.cell? ⟨w3.heap.size, 3, none⟩ = some (.int .i64 mx) ∧ W.cell? ⟨w3.heap.size, 4, none⟩ = some (.int .i64 WW) ∧ ReadsS 2 altC W ao7 ZW ∧ Below w.heap.size w W)
            (first | exact ⟨r0, r1, r2, r3, r4, r5, r6, r7, r8, r9, H7D.out, hb7.drew⟩ | exact ⟨x0, x1, x2, x3, x4, x5, x6, x7, x8, x9, xr, xb⟩ | go_keep)
            (first
            | (go_at_call 12; (with_reducible refine (C3.out _ hb7.drew).mono ?_); rintro e w4 ⟨aoL, capL, rfl, y4, _, y6, y7, p4⟩; have Y4 := Lib.hid y4; clear y4; have x0 := cell_below (w := W7.drew) r0 p4; have x1 := cell_below (w := W7.drew) r1 p4; have x2 := cell_below (w := W7.drew) r2 p4; have x3 := cell_below (w := W7.drew) r3 p4; have x4 := cell_below (w := W7.drew) r4 p4; have x5 := cell_below (w := W7.drew) r5 p4; have x6 := cell_below (w := W7.drew) r6 p4; have x7 := cell_below (w := W7.drew) r7 p4; have x8 := cell_below (w := W7.drew) r8 p4; have x9 := cell_below (w := W7.drew) r9 p4; have xr := H7D.out.below altC_length p4; have xb := Below.from p4 hb7.drew)
            | (go_at_call 12; (with_reducible refine (C4.out _ _ _ h7l h7c xr).mono ?_); rintro e w5 ⟨aoM, capM, rfl, v4, _, v6, v7, p5⟩; have V4 := Lib.hid v4; have W4 := Lib.hid (Y4.out.below altC_length p5); clear v4; replace x0 := cell_below x0 p5; replace x1 := cell_below x1 p5; replace x2 := cell_below x2 p5; replace x3 := cell_below x3 p5; replace x4 := cell_below x4 p5; replace x5 := cell_below x5 p5; replace x6 := cell_below x6 p5; replace x7 := cell_below x7 p5; replace x8 := cell_below x8 p5; replace x9 := cell_below x9 p5; replace xr := xr.below altC_length p5; replace xb := Below.from p5 xb))
          have XR := Lib.hid xr
          have XB := Lib.hid xb
          clear xr xb r0 r1 r2 r3 r4 r5 r6 r7 r8 r9
          go_wp2_with (first
            | (go_at_call 9; (with_reducible refine (C5.out _ _ _ h7l h7c XR.out).mono ?_); rintro e w8 ⟨rfl, p8⟩; have V8 := Lib.hid (V4.out.below altC_length p8); have W8 := Lib.hid (W4.out.below altC_length p8); have XB8 := Lib.hid (p8.from XB.out); clear p8)
            | fail)
          have tx : (x != x) = false := by simp
          clear x0 x1 x2 x3 x4 x5 x6 x7 x8 x9
          go_loopw [8] (fun i wr => ∃ a : Nat, i = .int .i64 (a : Int) ∧ a ≤ Z.length ∧ ReadsS 2 altC wr aoL Z ∧ ReadsS 2 altC wr aoM ZM ∧ Below w.heap.size w wr) (fun i _ => Z.length - (intOf i).toNat)
          case atStart => exact ⟨0, rfl, Nat.zero_le _, W8.out, V8.out, XB8.out⟩
          case round =>
            obtain ⟨a, rfl, ha, hrl, hrm, hb⟩ := hrel
            have HRL := Lib.hid hrl
            have HRM := Lib.hid hrm
            have HB := Lib.hid hb
            by_cases hp : a < Z.length
            · have hpm : a < ZM.length := by rw [HML.out]; exact hp
              have hz : ZM[a] = (Z[a].1, x) := by
                have := HAT.out a hp
                rw [List.getElem?_eq_getElem hpm] at this
                exact Option.some.inj this
              obtain ⟨bb, bo, hao, b0, _⟩ := alt_cells hrl hp
              obtain ⟨cb, co, hbo, c0, c1⟩ := alt_cells hrm hpm
              rw [hz] at c0 c1
              dsimp only at c0 c1
              obtain ⟨n, hn⟩ : ∃ n, n = Z[a].1 := ⟨_, rfl⟩
              rw [← hn] at b0 c0
              subst hao hbo
              have tn : (n != n) = false := by simp
              have hlow : (0 : Int) ≤ (a : Int) := by omega
              have hup : (a : Int) < ((Z.length : Nat) : Int) := by omega
              clear hn hz hrl hrm hb hpm
              go_wp2
              go_quiet (fail)
              go_wp2
              refine ⟨⟨a + 1, by go_num, by omega, HRL.out.below altC_length (Base.below_drewN (Below.refl _ _) _), HRM.out.below altC_length (Base.below_drewN (Below.refl _ _) _), Base.below_drewN HB.out _⟩, ?_⟩
              simp [intOf]; omega
            · clear hrl hrm hb
              go_wp2_with (first
                | (go_at_call 8; (with_reducible refine (awake_any _).mono ?_); rintro e w9 ⟨rfl, p9⟩)
                | fail)
              go_ret
              exact ⟨rfl, p9.from HB.out⟩

end Go.Proofs.Ytlmogkhgangmgaa.Shape
