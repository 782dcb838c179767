/-
  The walk of ShapeOptions.
-/
import Derived.Test.YtlmogkhgangmgaaLaw07
namespace Go.Proofs.Ytlmogkhgangmgaa.Shape
open Go.RowKit
open Base
set_option linter.unusedVariables false
set_option linter.unusedSimpArgs false

theorem SBox.drew1 {W : World} {B : Nat} {k mn mx wl : Int} {sl : Value} (h : SBox W B k sl mn mx wl) : SBox W.drew B k sl mn mx wl := h
theorem one_good {n y : Int} (h : altOk (n, y) = true) : chkE 1 [(n, y)] 0 0 0 = 0 := by
  have hg : goodB [(n, y)] = true := by
    rw [goodB_steps]
    intro k hk
    obtain rfl : k = 0 := by simpa using hk
    exact ⟨h, rfl⟩
  unfold chkE chkB
  rw [if_pos rfl]
  unfold mayB
  rw [hg]
  rfl

set_option maxRecDepth 100000 in
set_option maxHeartbeats 8000000 in
theorem shapeOptions_any (k : Int) (ao : Option Addr) (len cap : Nat) (zs : List Alt) (mn mx wl : Int) (w : World) (hlen : zs.length = len) (hl : len ≤ cap) (hcap : cap ≤ maxLen) (hr : ReadsS 2 altC w ao zs) :
    Calls Try.prog 5 #[.agg #[.int .i64 k, .slice ao len cap, .int .i64 mn, .int .i64 mx, .int .i64 wl]] w fun e w' => e = .returned (.bool true) ∧ Below w.heap.size w w' := by
  have hl64 : len ≤ 9223372036854775807 := by unfold maxLen at hcap; omega
  have cF := fun w => few_any k ao len cap mn mx wl w (by omega)
  have HSB := Lib.hid (SBox.new w k (.slice ao len cap) mn mx wl)
  cases hf : fewB len with
  | false =>
    simp only [hf] at cF
    have CF := Lib.hid cF
    clear cF hr hlen hf
    go_enter Try.func5, Try.ntmps5
    go_wp2_with (first
      | (go_at_call 7; (with_reducible refine (CF.out _).mono ?_); rintro e w1 ⟨rfl, p1⟩)
      | (go_at_call 8; (with_reducible refine (awake_any _).mono ?_); rintro e w2 ⟨rfl, p2⟩)
      | fail)
    go_ret
    exact ⟨rfl, by (focus repeat (first | exact Below.refl _ _ | assumption | (exact Hid.out (by assumption)) | (with_reducible refine Below.drew ?_) | (with_reducible refine Base.below_drewN ?_ _) | (refine Below.from (below_one _) ?_) | (refine Below.from (below_conv _ _ _) ?_) | (refine Below.setCell ?_ (by simp <;> omega) _) | (refine Below.from (by assumption) ?_)))⟩
  | true =>
    simp only [hf] at cF
    have CF := Lib.hid cF
    have c1 := fun (W : World) (hb : Below w.heap.size w W) => check_any k ao len cap zs mn mx wl W hlen hl hcap (hr.below altC_length hb)
    have c3 := fun (W : World) (hb : Below w.heap.size w W) => soptions_any k ao len cap zs mn mx wl W hlen hl hcap (hr.below altC_length hb)
    have c5 := fun (W : World) (hb : Below w.heap.size w W) => sleast_any k ao len cap zs mn mx wl W hlen hl hcap (hr.below altC_length hb)
    have c7 := fun (W : World) (hb : Below w.heap.size w W) => smost_any k ao len cap zs mn mx wl W hlen hl hcap (hr.below altC_length hb)
    have c9 := fun (c n : Int) (W : World) (hb : Below w.heap.size w W) => sallows_any k ao len cap zs mn mx wl c n W hlen hl hcap (hr.below altC_length hb)
    clear cF hf
    cases hc : chkB k zs mn mx wl with
    | false =>
      have hE : chkE k zs mn mx wl = 70 := by unfold chkE; rw [hc]; rfl
      have c9' := c9 0 1
      simp only [hE] at c1
      rw [optL_no hc] at c3 c5 c9'
      rw [show bestN lessB [] = 0 from rfl] at c5
      rw [show allowB k [] mn mx 0 1 = false from rfl] at c9'
      have C1 := Lib.hid c1
      have C3 := Lib.hid c3
      have C5 := Lib.hid c5
      have C9 := Lib.hid c9'
      clear c1 c3 c5 c7 c9 c9' hE hc hr hlen
      go_enter Try.func5, Try.ntmps5
      go_wp2_with (first
        | (go_at_call 7; (with_reducible refine (CF.out _).mono ?_); rintro e w1 ⟨rfl, p1⟩; obtain ⟨x0, x1, x2, x3, x4⟩ := (HSB.out.below p1).cells)
        | (go_at_call 12; (with_reducible refine (C3.out _ (by (focus repeat (first | exact Below.refl _ _ | assumption | (exact Hid.out (by assumption)) | (with_reducible refine Below.drew ?_) | (with_reducible refine Base.below_drewN ?_ _) | (refine Below.from (below_one _) ?_) | (refine Below.from (below_conv _ _ _) ?_) | (refine Below.setCell ?_ (by simp <;> omega) _) | (refine Below.from (by assumption) ?_))))).mono ?_); rintro e w2 ⟨ao2, cap2, rfl, _, _, _, _, p2⟩; obtain ⟨x0, x1, x2, x3, x4⟩ := (HSB.out.below (p2.from p1)).cells)
        | (go_at_call 9; (with_reducible refine (C1.out _ (by (focus repeat (first | exact Below.refl _ _ | assumption | (exact Hid.out (by assumption)) | (with_reducible refine Below.drew ?_) | (with_reducible refine Base.below_drewN ?_ _) | (refine Below.from (below_one _) ?_) | (refine Below.from (below_conv _ _ _) ?_) | (refine Below.setCell ?_ (by simp <;> omega) _) | (refine Below.from (by assumption) ?_))))).mono ?_); rintro e w3 ⟨rfl, p3⟩; obtain ⟨x0, x1, x2, x3, x4⟩ := (HSB.out.below (p3.from (p2.from p1))).cells)
        | (go_at_call 14; (with_reducible refine (C5.out _ (by (focus repeat (first | exact Below.refl _ _ | assumption | (exact Hid.out (by assumption)) | (with_reducible refine Below.drew ?_) | (with_reducible refine Base.below_drewN ?_ _) | (refine Below.from (below_one _) ?_) | (refine Below.from (below_conv _ _ _) ?_) | (refine Below.setCell ?_ (by simp <;> omega) _) | (refine Below.from (by assumption) ?_))))).mono ?_); rintro e w4 ⟨rfl, p4⟩; obtain ⟨x0, x1, x2, x3, x4⟩ := (HSB.out.below (p4.from (p3.from (p2.from p1)))).cells)
        | (go_at_call 21; (with_reducible refine (C9.out _ (by (focus repeat (first | exact Below.refl _ _ | assumption | (exact Hid.out (by assumption)) | (with_reducible refine Below.drew ?_) | (with_reducible refine Base.below_drewN ?_ _) | (refine Below.from (below_one _) ?_) | (refine Below.from (below_conv _ _ _) ?_) | (refine Below.setCell ?_ (by simp <;> omega) _) | (refine Below.from (by assumption) ?_))))).mono ?_); rintro e w5 ⟨rfl, p5⟩)
        | (go_at_call 8; (with_reducible refine (awake_any _).mono ?_); rintro e w6 ⟨rfl, p6⟩)
        | fail)
      go_ret
      exact ⟨rfl, by (focus repeat (first | exact Below.refl _ _ | assumption | (exact Hid.out (by assumption)) | (with_reducible refine Below.drew ?_) | (with_reducible refine Base.below_drewN ?_ _) | (refine Below.from (below_one _) ?_) | (refine Below.from (below_conv _ _ _) ?_) | (refine Below.setCell ?_ (by simp <;> omega) _) | (refine Below.from (by assumption) ?_)))⟩
    | true =>
      have hE : chkE k zs mn mx wl = 0 := by unfold chkE; rw [hc]; rfl
      simp only [hE] at c1
      have hZ := optL_good k zs mn mx wl
      have hZ1 := optL_pos hc
      have hgl : ∀ x ∈ optL k zs mn mx wl, 1 ≤ x.1 := fun x hx => (good_mem hZ.1 hx).1.1
      have hle := least_le _ hgl (optL k zs mn mx wl).length (Nat.le_refl _)
      have hme := le_most _ hgl (optL k zs mn mx wl).length (Nat.le_refl _)
      rw [List.take_length] at hle hme
      have hal := fun (i : Nat) (h : i < (optL k zs mn mx wl).length) => show allowB k (optL k zs mn mx wl) mn mx (i : Int) (optL k zs mn mx wl)[i].1 = true from (allow_hit (k := k) (zs := zs) (mn := mn) (mx := mx) (wl := wl) (c := (i : Int)) (n := (optL k zs mn mx wl)[i].1) (i := i) (by omega) (by omega) h rfl (.inl rfl)).symm
      have hgd := (goodB_iff _).1 hZ.1
      have hZ48 := hZ.2
      generalize optL k zs mn mx wl = Z at c3 c5 c7 c9 hZ1 hle hme hal hgd hZ48
      generalize bestN lessB Z = L at c5 hle
      generalize bestN moreB Z = M at c7 hme
      have C1 := Lib.hid c1
      have C3 := Lib.hid c3
      have C5 := Lib.hid c5
      have C7 := Lib.hid c7
      have C9 := Lib.hid c9
      have HLE := Lib.hid hle
      have HME := Lib.hid hme
      have HAL := Lib.hid hal
      have HGD := Lib.hid hgd
      clear c1 c3 c5 c7 c9 hE hc hr hlen hZ hgl hle hme hal hgd
      go_enter Try.func5, Try.ntmps5
      go_wp2_with (first
        | (go_at_call 7; (with_reducible refine (CF.out _).mono ?_); rintro e w1 ⟨rfl, p1⟩; obtain ⟨x0, x1, x2, x3, x4⟩ := (HSB.out.below p1).cells)
        | (go_at_call 12; (with_reducible refine (C3.out _ (by (focus repeat (first | exact Below.refl _ _ | assumption | (exact Hid.out (by assumption)) | (with_reducible refine Below.drew ?_) | (with_reducible refine Base.below_drewN ?_ _) | (refine Below.from (below_one _) ?_) | (refine Below.from (below_conv _ _ _) ?_) | (refine Below.setCell ?_ (by simp <;> omega) _) | (refine Below.from (by assumption) ?_))))).mono ?_); rintro e w2 ⟨aoL, capL, rfl, hrL, _, hlL, hcL, p2⟩; have HRL := Lib.hid hrL; clear hrL; obtain ⟨x0, x1, x2, x3, x4⟩ := (HSB.out.below (p2.from p1)).cells)
        | (go_at_call 9; (with_reducible refine (C1.out _ (by (focus repeat (first | exact Below.refl _ _ | assumption | (exact Hid.out (by assumption)) | (with_reducible refine Below.drew ?_) | (with_reducible refine Base.below_drewN ?_ _) | (refine Below.from (below_one _) ?_) | (refine Below.from (below_conv _ _ _) ?_) | (refine Below.setCell ?_ (by simp <;> omega) _) | (refine Below.from (by assumption) ?_))))).mono ?_); rintro e w3 ⟨rfl, p3⟩)
        | fail)
      have hb3 : Below w.heap.size w w3 := by (focus repeat (first | exact Below.refl _ _ | assumption | (exact Hid.out (by assumption)) | (with_reducible refine Below.drew ?_) | (with_reducible refine Base.below_drewN ?_ _) | (refine Below.from (below_one _) ?_) | (refine Below.from (below_conv _ _ _) ?_) | (refine Below.setCell ?_ (by simp <;> omega) _) | (refine Below.from (by assumption) ?_)))
      have HB3 := Lib.hid hb3
      have HS3 := Lib.hid (HSB.out.below (p3.from (p2.from p1)))
      have HR3 := Lib.hid (HRL.out.below altC_length p3)
      clear hb3 p1 p2 p3
      go_loopw [4] (fun i wr => ∃ a : Nat, i = .int .i64 (a : Int) ∧ a ≤ Z.length ∧ SBox wr w.heap.size k (.slice ao len cap) mn mx wl ∧ ReadsS 2 altC wr aoL Z ∧ Below w.heap.size w wr) (fun i _ => Z.length - (intOf i).toNat)
      case atStart => exact ⟨0, rfl, Nat.zero_le _, HS3.out, HR3.out, HB3.out⟩
      case round =>
        obtain ⟨a, rfl, ha, hs, hrz, hb⟩ := hrel
        by_cases hp : a < Z.length
        · obtain ⟨bb, bo, hao, b0, b1⟩ := alt_cells hrz hp
          subst hao
          have hxg := HGD.out.1 a hp
          have hxl := HLE.out a hp hp
          have hxm := HME.out a hp hp
          have hxa := HAL.out a hp
          obtain ⟨⟨n, y⟩, hA⟩ : ∃ A : Alt, A = Z[a] := ⟨_, rfl⟩
          rw [← hA] at b0 b1 hxg hxl hxm hxa
          dsimp only at b0 b1 hxl hxm hxa
          have cO := fun (a : Option Addr) (W : World) (h : ReadsS 2 altC W a [(n, y)]) => check_any 1 a 1 1 [(n, y)] 0 0 0 W rfl (Nat.le_refl _) (by unfold maxLen; omega) h
          rw [one_good hxg] at cO
          have cA := C9.out (a : Int) n
          rw [hxa] at cA
          have tl : decide (n < L) = false := decide_eq_false (by omega)
          have tm : decide (M < n) = false := decide_eq_false (by omega)
          obtain ⟨r0, r1, r2, r3, r4⟩ := hs.cells
          have a0 : (wr.alloc (.cells #[.int .i64 n, .int .i64 y] 38)).drew.cell? ⟨w.heap.size, 0, none⟩ = some (.int .i64 k) := cell_below (w := wr) r0 (below_one _).drew
          have a1 : (wr.alloc (.cells #[.int .i64 n, .int .i64 y] 38)).drew.cell? ⟨w.heap.size, 1, none⟩ = some (.slice ao len cap) := cell_below (w := wr) r1 (below_one _).drew
          have a2 : (wr.alloc (.cells #[.int .i64 n, .int .i64 y] 38)).drew.cell? ⟨w.heap.size, 2, none⟩ = some (.int .i64 mn) := cell_below (w := wr) r2 (below_one _).drew
          have a3 : (wr.alloc (.cells #[.int .i64 n, .int .i64 y] 38)).drew.cell? ⟨w.heap.size, 3, none⟩ = some (.int .i64 mx) := cell_below (w := wr) r3 (below_one _).drew
          have a4 : (wr.alloc (.cells #[.int .i64 n, .int .i64 y] 38)).drew.cell? ⟨w.heap.size, 4, none⟩ = some (.int .i64 wl) := cell_below (w := wr) r4 (below_one _).drew
          have a5 : (wr.alloc (.cells #[.int .i64 n, .int .i64 y] 38)).drew.cell? ⟨bb, bo + a * 2, none⟩ = some (.int .i64 n) := cell_below (w := wr) b0 (below_one _).drew
          have a6 : (wr.alloc (.cells #[.int .i64 n, .int .i64 y] 38)).drew.cell? ⟨bb, bo + a * 2 + 1, none⟩ = some (.int .i64 y) := cell_below (w := wr) b1 (below_one _).drew
          have ar := hrz.below altC_length (below_one (w := wr) (.cells #[.int .i64 n, .int .i64 y] 38)).drew
          have ab := (hb.alloc hb.size (.cells #[.int .i64 n, .int .i64 y] 38)).drew
          have rr := hrz.below altC_length (Below.refl _ wr).drew
          have hq1 : ReadsS 2 altC (wr.alloc (.cells #[.int .i64 n, .int .i64 y] 38)).drew (some ⟨wr.heap.size, 0, none⟩) [(n, y)] := (readsA_one (w := wr) rfl (n, y) 38).below altC_length (Below.refl _ (wr.alloc (.cells #[.int .i64 n, .int .i64 y] 38))).drew
          have HQ1 := Lib.hid hq1
          have CO := Lib.hid cO
          have CA := Lib.hid cA
          have HA := Lib.hid hA
          have AR := Lib.hid ar
          have RR := Lib.hid rr
          have HB := Lib.hid hb
          have HS := Lib.hid hs
          have hlow : (0 : Int) ≤ (a : Int) := by omega
          have hup : (a : Int) < ((Z.length : Nat) : Int) := by omega
          clear hA hxg hxl hxm hxa cO cA hs hrz ar rr hq1
          go_wp2
          go_region_held3 (fun W => W.cell? ⟨w.heap.size, 0, none⟩ = some (.int .i64 k) ∧ W.cell? ⟨w.heap.size, 1, none⟩ = some (.slice ao len cap) ∧ W.cell? ⟨w.heap.size, 2, none⟩ = some (.int .i64 mn) ∧ W.cell? ⟨w.heap.size, 3, none⟩ = some (.int .i64 mx) ∧ W.cell? ⟨w.heap.size, 4, none⟩ = some (.int .i64 wl) ∧ W.cell? ⟨bb, bo + a * 2, none⟩ = some (.int .i64 n) ∧ W.cell? ⟨bb, bo + a * 2 + 1, none⟩ = some (.int .i64 y) ∧ ReadsS 2 altC W (some ⟨bb, bo, none⟩) Z ∧ Below w.heap.size w W)
            (first | exact ⟨r0, r1, r2, r3, r4, b0, b1, RR.out, hb.drew⟩ | exact ⟨a0, a1, a2, a3, a4, a5, a6, AR.out, ab⟩ | exact ⟨x0, x1, x2, x3, x4, x5, x6, xr, xb⟩ | go_keep)
            (first
            | (go_at_call 9; (with_reducible refine (CO.out _ _ HQ1.out).mono ?_); rintro e w4 ⟨rfl, p4⟩; have x0 := cell_below a0 p4; have x1 := cell_below a1 p4; have x2 := cell_below a2 p4; have x3 := cell_below a3 p4; have x4 := cell_below a4 p4; have x5 := cell_below a5 p4; have x6 := cell_below a6 p4; have xr := AR.out.below altC_length p4; have xb := Below.from p4 ab)
            | (go_at_call 21; (with_reducible refine (CA.out _ xb).mono ?_); rintro e w5 ⟨rfl, p5⟩; replace x0 := cell_below x0 p5; replace x1 := cell_below x1 p5; replace x2 := cell_below x2 p5; replace x3 := cell_below x3 p5; replace x4 := cell_below x4 p5; replace x5 := cell_below x5 p5; replace x6 := cell_below x6 p5; replace xr := xr.below altC_length p5; replace xb := Below.from p5 xb)
            | (go_at_call 14; (with_reducible refine (C5.out _ xb).mono ?_); rintro e w6 ⟨rfl, p6⟩; replace x0 := cell_below x0 p6; replace x1 := cell_below x1 p6; replace x2 := cell_below x2 p6; replace x3 := cell_below x3 p6; replace x4 := cell_below x4 p6; replace x5 := cell_below x5 p6; replace x6 := cell_below x6 p6; replace xr := xr.below altC_length p6; replace xb := Below.from p6 xb)
            | (go_at_call 16; (with_reducible refine (C7.out _ xb).mono ?_); rintro e w7 ⟨rfl, p7⟩; replace x0 := cell_below x0 p7; replace x1 := cell_below x1 p7; replace x2 := cell_below x2 p7; replace x3 := cell_below x3 p7; replace x4 := cell_below x4 p7; replace x5 := cell_below x5 p7; replace x6 := cell_below x6 p7; replace xr := xr.below altC_length p7; replace xb := Below.from p7 xb))
          have HS7 : Hid (SBox w7 w.heap.size k (.slice ao len cap) mn mx wl) := Lib.hid (by
            have h1 := ((HS.out.alloc (.cells #[.int .i64 n, .int .i64 y] 38)).drew1).below p4
            exact ((h1.below p5).below p6).below p7)
          have XR := Lib.hid xr
          have XB := Lib.hid xb
          clear x0 x1 x2 x3 x4 xr xb p4 p5 p6 p7 a0 a1 a2 a3 a4 a5 a6 ab r0 r1 r2 r3 r4
          go_wp2
          go_loopw [5] (fun i wq => ∃ c : Nat, i = .int .i64 (c : Int) ∧ c ≤ a ∧ SBox wq w.heap.size k (.slice ao len cap) mn mx wl ∧ ReadsS 2 altC wq (some ⟨bb, bo, none⟩) Z ∧ Below w.heap.size w wq) (fun i _ => a - (intOf i).toNat)
          case atStart => exact ⟨0, rfl, Nat.zero_le _, HS7.out, XR.out, XB.out⟩
          case round =>
            obtain ⟨c, rfl, hca, hs, hrz, hb⟩ := hrel
            have HSQ := Lib.hid hs
            have HRQ := Lib.hid hrz
            have HBQ := Lib.hid hb
            by_cases hpc : c < a
            · obtain ⟨bb3, bo3, ha3, c0, _⟩ := alt_cells hrz (j := c) (by omega)
              obtain ⟨rfl, rfl⟩ : bb = bb3 ∧ bo = bo3 := by simpa using ha3
              obtain ⟨bb2, bo2, ha2, d0, _⟩ := alt_cells hrz hp
              obtain ⟨rfl, rfl⟩ : bb = bb2 ∧ bo = bo2 := by simpa using ha2
              have hne := HGD.out.2 c a (by omega) hp hpc
              rw [← HA.out] at d0 hne
              dsimp only at d0 hne
              obtain ⟨m, hm⟩ : ∃ m, m = Z[c].1 := ⟨_, rfl⟩
              rw [← hm] at c0 hne
              have tm2 : (m == n) = false := by simpa using hne
              have hlow2 : (0 : Int) ≤ (c : Int) := by omega
              have hup2 : (c : Int) < ((Z.length : Nat) : Int) := by omega
              clear hm hne ha2 ha3 hs hrz hb b0 b1 x5 x6
              go_wp2
              go_quiet (fail)
              go_wp2
              refine ⟨⟨c + 1, by go_num, by omega, HSQ.out.drewN _, HRQ.out.below altC_length (Base.below_drewN (Below.refl _ _) _), Base.below_drewN HBQ.out _⟩, ?_⟩
              simp [intOf]; omega
            · clear hs hrz hb
              go_wp2
              refine ⟨⟨a + 1, by go_num, by omega, HSQ.out, HRQ.out, HBQ.out⟩, ?_⟩
              simp [intOf]; omega
        · have HB := Lib.hid hb
          clear hs hrz hb
          go_wp2_with (first
            | (go_at_call 8; (with_reducible refine (awake_any _).mono ?_); rintro e w6 ⟨rfl, p6⟩)
            | fail)
          go_ret
          exact ⟨rfl, p6.from HB.out⟩

end Go.Proofs.Ytlmogkhgangmgaa.Shape
