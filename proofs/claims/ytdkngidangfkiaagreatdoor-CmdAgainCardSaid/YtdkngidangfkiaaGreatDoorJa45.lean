/-
  Joined out of: The walks of the document's own Same.
-/
import Derived.Test.YtdkngidangfkiaaGreatDoorJa09
namespace Go.Proofs.YtdkngidangfkiaaGreatDoor.Shape
open Go.RowKit
open Base
set_option linter.unusedVariables false
set_option linter.unusedSimpArgs false
set_option maxRecDepth 100000 in
set_option maxHeartbeats 2000000 in
theorem rsamealts_any (a b : Option Addr) (la lb ca cb : Nat) (x y : List Alt) (w : World) (hla : x.length = la) (hlb : y.length = lb) (hxl : la ≤ maxLen) (hyl : lb ≤ maxLen) (hx : ReadsS 2 altC w a x) (hy : ReadsS 2 altC w b y) :
    Calls Tryz.prog 60 #[.slice a la ca, .slice b lb cb] w fun e w' => e = .returned (.bool (sameL x y)) ∧ Below w.heap.size w w' := by
  subst hla hlb
  unfold maxLen at hxl hyl
  have HX := Lib.hid hx
  have HY := Lib.hid hy
  clear hx hy
  obtain ⟨S, hS⟩ : ∃ S, S = sameL x y := ⟨_, rfl⟩
  rw [← hS]
  by_cases hl : x.length = y.length
  · have hd : ((x.length : Int) != (y.length : Int)) = false := by rw [bne_eq_false_iff_eq]; omega
    have HS := Lib.hid hS
    clear hS
    go_enter Tryz.func60, Tryz.ntmps60
    go_wp2
    go_loopw [5] (fun i wr => ∃ k : Nat, i = .int .i64 (k : Int) ∧ k ≤ x.length ∧ sameL (x.drop k) (y.drop k) = S ∧ Below w.heap.size w wr) (fun i _ => x.length - (intOf i).toNat)
    case atStart => exact ⟨0, rfl, Nat.zero_le _, HS.out.symm, Below.refl _ _⟩
    case round =>
      obtain ⟨k, rfl, hk, hs, hb⟩ := hrel
      have HB := Lib.hid hb
      by_cases hp : k < x.length
      · have hp2 : k < y.length := by omega
        obtain ⟨ab, ao, rfl, a0, a1⟩ := alt_cells (HX.out.below altC_length hb) hp
        obtain ⟨bb, bo, rfl, b0, b1⟩ := alt_cells (HY.out.below altC_length hb) hp2
        have hye := sameL_step hp hp2
        have hno := sameL_no hp hp2
        obtain ⟨⟨k1, n1⟩, hX⟩ : ∃ X : Alt, X = x[k] := ⟨_, rfl⟩
        obtain ⟨⟨k2, n2⟩, hY⟩ : ∃ Y : Alt, Y = y[k] := ⟨_, rfl⟩
        rw [← hX] at a0 a1 hye hno
        rw [← hY] at b0 b1 hye hno
        dsimp only at a0 a1 b0 b1
        have hlow : (0 : Int) ≤ (k : Int) := by omega
        have hup1 : (k : Int) < ((x.length : Nat) : Int) := by omega
        have hup2 : (k : Int) < ((y.length : Nat) : Int) := by omega
        cases t1 : (k1 != k2) with
        | true =>
          have HN := Lib.hid ((hno (fun h => by injection h with h1 _; rw [bne_iff_ne] at t1; exact t1 h1)).symm.trans hs)
          clear hX hY hb hs hye hno
          go_wp2
          go_quiet (fail)
          go_wp2
          go_ret
          exact ⟨ret_bool HN.out, Base.below_drewN HB.out _⟩
        | false =>
          cases t2 : (n1 != n2) with
          | true =>
            have HN := Lib.hid ((hno (fun h => by injection h with _ h2; rw [bne_iff_ne] at t2; exact t2 h2)).symm.trans hs)
            clear hX hY hb hs hye hno
            go_wp2
            go_quiet (fail)
            go_wp2
            go_ret
            exact ⟨ret_bool HN.out, Base.below_drewN HB.out _⟩
          | false =>
            have HN := Lib.hid ((hye (by rw [bne_eq_false_iff_eq] at t1 t2; rw [t1, t2])).symm.trans hs)
            clear hX hY hb hs hye hno
            go_wp2
            go_quiet (fail)
            go_wp2
            refine ⟨⟨k + 1, by go_num, by omega, HN.out, Base.below_drewN HB.out _⟩, ?_⟩
            simp [intOf]; omega
      · have HN : Hid (true = S) := Lib.hid (by rw [← hs, List.drop_of_length_le (by omega), List.drop_of_length_le (by omega)]; rfl)
        go_wp2
        go_ret
        exact ⟨ret_bool HN.out, HB.out⟩
  · have hd : ((x.length : Int) != (y.length : Int)) = true := by rw [bne_iff_ne]; omega
    have HN : Hid (false = S) := Lib.hid (by rw [hS]; unfold sameL; symm; rw [decide_eq_false_iff_not]; intro h; rw [h] at hl; exact hl rfl)
    clear hS
    go_enter Tryz.func60, Tryz.ntmps60
    go_wp2
    go_ret
    exact ⟨ret_bool HN.out, Below.refl _ _⟩
set_option maxRecDepth 100000 in
set_option maxHeartbeats 2000000 in
theorem rsame_any (k1 : Int) (a1 : Option Addr) (l1 c1 : Nat) (z1 : List Alt) (mn1 mx1 wl1 k2 : Int) (a2 : Option Addr) (l2 c2 : Nat) (z2 : List Alt) (mn2 mx2 wl2 : Int) (w : World)
    (h1 : z1.length = l1) (h2 : z2.length = l2) (m1 : l1 ≤ maxLen) (m2 : l2 ≤ maxLen) (r1 : ReadsS 2 altC w a1 z1) (r2 : ReadsS 2 altC w a2 z2) :
    Calls Tryz.prog 38 #[.agg #[.int .i64 k1, .slice a1 l1 c1, .int .i64 mn1, .int .i64 mx1, .int .i64 wl1], .agg #[.int .i64 k2, .slice a2 l2 c2, .int .i64 mn2, .int .i64 mx2, .int .i64 wl2]] w
      fun e w' => e = .returned (.bool (sameB k1 z1 mn1 mx1 wl1 k2 z2 mn2 mx2 wl2)) ∧ Below w.heap.size w w' := by
  have cE := fun (w2 : World) (hb : Below w.heap.size w w2) => rsamealts_any a1 a2 l1 l2 c1 c2 z1 z2 w2 h1 h2 m1 m2 (r1.below altC_length hb) (r2.below altC_length hb)
  clear h1 h2 r1 r2
  have q1 : l1 ≤ 9223372036854775807 := by unfold maxLen at m1; omega
  have q2 : l2 ≤ 9223372036854775807 := by unfold maxLen at m2; omega
  obtain ⟨S, hS⟩ : ∃ S, S = sameB k1 z1 mn1 mx1 wl1 k2 z2 mn2 mx2 wl2 := ⟨_, rfl⟩
  rw [← hS]
  have hS : S = ((k1 == k2) && ((mn1 == mn2) && ((mx1 == mx2) && ((wl1 == wl2) && sameL z1 z2)))) := by
    rw [hS]; unfold sameB
    cases (k1 == k2) <;> cases sameL z1 z2 <;> cases (mn1 == mn2) <;> cases (mx1 == mx2) <;> cases (wl1 == wl2) <;> rfl
  cases t1 : (k1 == k2) with
  | false =>
    have HX : Hid (false = S) := Lib.hid (by rw [hS, t1]; rfl)
    clear hS cE
    go_enter Tryz.func38, Tryz.ntmps38
    go_wp2
    go_ret
    exact ⟨ret_bool HX.out, by (focus repeat (first | exact Below.refl _ _ | assumption | (exact Hid.out (by assumption)) | (with_reducible refine Below.drew ?_) | (with_reducible refine Base.below_drewN ?_ _) | (refine Below.from (below_one _) ?_) | (refine Below.from (below_conv _ _ _) ?_) | (refine Below.setCell ?_ (by simp <;> omega) _) | (refine Below.from (by assumption) ?_)))⟩
  | true =>
    rw [t1, Bool.true_and] at hS
    cases t3 : (mn1 == mn2) with
    | false =>
      have HX : Hid (false = S) := Lib.hid (by rw [hS, t3]; rfl)
      clear hS cE
      go_enter Tryz.func38, Tryz.ntmps38
      go_wp2
      go_ret
      exact ⟨ret_bool HX.out, by (focus repeat (first | exact Below.refl _ _ | assumption | (exact Hid.out (by assumption)) | (with_reducible refine Below.drew ?_) | (with_reducible refine Base.below_drewN ?_ _) | (refine Below.from (below_one _) ?_) | (refine Below.from (below_conv _ _ _) ?_) | (refine Below.setCell ?_ (by simp <;> omega) _) | (refine Below.from (by assumption) ?_)))⟩
    | true =>
      rw [t3, Bool.true_and] at hS
      cases t4 : (mx1 == mx2) with
      | false =>
        have HX : Hid (false = S) := Lib.hid (by rw [hS, t4]; rfl)
        clear hS cE
        go_enter Tryz.func38, Tryz.ntmps38
        go_wp2
        go_ret
        exact ⟨ret_bool HX.out, by (focus repeat (first | exact Below.refl _ _ | assumption | (exact Hid.out (by assumption)) | (with_reducible refine Below.drew ?_) | (with_reducible refine Base.below_drewN ?_ _) | (refine Below.from (below_one _) ?_) | (refine Below.from (below_conv _ _ _) ?_) | (refine Below.setCell ?_ (by simp <;> omega) _) | (refine Below.from (by assumption) ?_)))⟩
      | true =>
        rw [t4, Bool.true_and] at hS
        cases t5 : (wl1 == wl2) with
        | false =>
          have HX : Hid (false = S) := Lib.hid (by rw [hS, t5]; rfl)
          clear hS cE
          go_enter Tryz.func38, Tryz.ntmps38
          go_wp2
          go_ret
          exact ⟨ret_bool HX.out, by (focus repeat (first | exact Below.refl _ _ | assumption | (exact Hid.out (by assumption)) | (with_reducible refine Below.drew ?_) | (with_reducible refine Base.below_drewN ?_ _) | (refine Below.from (below_one _) ?_) | (refine Below.from (below_conv _ _ _) ?_) | (refine Below.setCell ?_ (by simp <;> omega) _) | (refine Below.from (by assumption) ?_)))⟩
        | true =>
          rw [t5, Bool.true_and] at hS
          have HX := Lib.hid hS.symm
          have CE := Lib.hid cE
          clear hS cE
          go_enter Tryz.func38, Tryz.ntmps38
          go_wp2_with (first
            | (go_at_call 60; (with_reducible refine (CE.out _ (by (focus repeat (first | exact Below.refl _ _ | assumption | (exact Hid.out (by assumption)) | (with_reducible refine Below.drew ?_) | (with_reducible refine Base.below_drewN ?_ _) | (refine Below.from (below_one _) ?_) | (refine Below.from (below_conv _ _ _) ?_) | (refine Below.setCell ?_ (by simp <;> omega) _) | (refine Below.from (by assumption) ?_))))).mono ?_); rintro e w2 ⟨rfl, p2⟩)
            | fail)
          go_ret
          exact ⟨ret_bool HX.out, by (focus repeat (first | exact Below.refl _ _ | assumption | (exact Hid.out (by assumption)) | (with_reducible refine Below.drew ?_) | (with_reducible refine Base.below_drewN ?_ _) | (refine Below.from (below_one _) ?_) | (refine Below.from (below_conv _ _ _) ?_) | (refine Below.setCell ?_ (by simp <;> omega) _) | (refine Below.from (by assumption) ?_)))⟩
abbrev shsame_any := @rsame_any
end Go.Proofs.YtdkngidangfkiaaGreatDoor.Shape
