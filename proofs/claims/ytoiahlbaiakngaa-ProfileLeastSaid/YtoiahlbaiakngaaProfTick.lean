/-
  The walk of the document's own Ticks.
-/
import Derived.Test.YtoiahlbaiakngaaProfPut0
namespace Go.Proofs.Ytoiahlbaiakngaa.Prof
open Go.RowKit
open Base
set_option linter.unusedVariables false
set_option linter.unusedSimpArgs false

/-- A row of ints: nil only if there is nothing. -/
def Row (w : World) (v : Value) (Z : List Int) : Prop := ∃ ao cap, v = .slice ao Z.length cap ∧ Reads iV w ao Z ∧ (Z = [] → ao = none) ∧ (ao = none → cap = 0) ∧ Z.length ≤ cap ∧ cap ≤ maxLen

theorem puts_take {p : List St} {k : Nat} (h : k < p.length) : puts [] ((p.map Prod.fst).take (k + 1)) = putL (puts [] ((p.map Prod.fst).take k)) p[k].1 := by
  rw [List.take_add_one, List.getElem?_eq_getElem (by simpa using h), List.getElem_map]
  exact puts_snoc _ _ _
theorem puts_take2 {l xs : List Int} {k : Nat} (h : k < xs.length) : puts l (xs.take (k + 1)) = putL (puts l (xs.take k)) xs[k] := by
  rw [List.take_add_one, List.getElem?_eq_getElem h]
  exact puts_snoc _ _ _

set_option maxRecDepth 100000 in
set_option maxHeartbeats 4000000 in
theorem ticks_any (ao : Option Addr) (len cap : Nat) (p : List St) (a2 : Option Addr) (len2 c2 : Nat) (xs : List Int) (w : World) (hlen : p.length = len) (hl : len ≤ 1000) (hr : ReadsS 2 stC w ao p)
    (hlen2 : xs.length = len2) (hl2 : len2 ≤ 1000) (hx : Reads iV w a2 xs) :
    Calls Try.prog 29 #[.slice ao len cap, .slice a2 len2 c2] w fun e w' => ∃ v, e = .returned v ∧ Row w' v (ticksL p xs) ∧ Below w.heap.size w w' := by
  subst hlen hlen2
  have hmaxd : (9223372036854775807 : Nat) ≤ maxLen := by unfold maxLen; omega
  have cP := fun (ao : Option Addr) (cap : Nat) (Z : List Int) (n : Int) (W : World) (hl : Z.length ≤ 5000) (hlc : Z.length ≤ cap) (hcap : cap ≤ maxLen) (hr : Reads iV W ao Z) (h0 : Z = [] → ao = none) (hn : ao = none → cap = 0) => put_any ao cap Z n W hl hlc hcap hr h0 hn
  have CP := Lib.hid cP
  have HR := Lib.hid hr
  have HX := Lib.hid hx
  obtain ⟨T, hT⟩ : ∃ T, T = ticksL p xs := ⟨_, rfl⟩
  rw [← hT]
  have HT := Lib.hid hT
  clear cP hr hx hT hmaxd
  go_enter Try.func29, Try.ntmps29
  go_wp2
  go_loopw [5, 6] (fun v i wr => ∃ k : Nat, i = .int .i64 (k : Int) ∧ k ≤ p.length ∧ Row wr v (puts [] ((p.map Prod.fst).take k)) ∧ Below w.heap.size w wr) (fun _ i _ => p.length - (intOf i).toNat)
  case atStart => exact ⟨0, rfl, Nat.zero_le _, ⟨none, 0, rfl, .inl rfl, fun _ => rfl, fun _ => rfl, Nat.le_refl _, Nat.zero_le _⟩, Below.refl _ _⟩
  case round =>
    obtain ⟨k, rfl, hk, ⟨ao5, c5, rfl, q1, q2, q3, q4, q5⟩, hb⟩ := hrel
    have HB := Lib.hid hb
    have hZl := puts_le ((p.map Prod.fst).take k) []
    rw [List.length_take, List.length_map, List.length_nil] at hZl
    by_cases hpk : k < p.length
    · obtain ⟨bb, bo, rfl, b0, b1⟩ := st_cells (HR.out.below stC_length hb) hpk
      have hst := puts_take hpk
      obtain ⟨x, hxx⟩ : ∃ x, x = p[k].1 := ⟨_, rfl⟩
      rw [← hxx] at b0 hst
      obtain ⟨Z, hZ⟩ : ∃ Z, Z = puts [] ((p.map Prod.fst).take k) := ⟨_, rfl⟩
      rw [← hZ] at q1 q2 q4 hst hZl ⊢
      have Q1 := Lib.hid q1
      have Q2 := Lib.hid q2
      have Q3 := Lib.hid q3
      have Q45 := Lib.hid (And.intro q4 q5)
      have HST := Lib.hid hst
      have HZL := Lib.hid hZl
      clear q1 q2 q3 q4 q5 hst hZ hxx hb b1 hZl
      go_wp2_with (first
        | (go_at_call 35; (with_reducible refine (CP.out _ _ Z _ _ (by have := HZL.out; omega) Q45.out.1 Q45.out.2 Q1.out Q2.out Q3.out).mono ?_); rintro e w1 ⟨ao6, c6, rfl, r1, r2, r3, r4, p1⟩; have R := Lib.hid (And.intro r1 (And.intro r2 (And.intro r3 r4))); have P1 := Lib.hid p1; clear r1 r2 r3 r4 p1)
        | fail)
      refine ⟨⟨k + 1, by go_num, by omega, ⟨ao6, c6, by rw [HST.out], by rw [HST.out]; exact R.out.1, by rw [HST.out]; exact fun h => absurd h (putL_ne _ _), R.out.2.1, by rw [HST.out]; exact R.out.2.2.1, R.out.2.2.2⟩, P1.out.from HB.out⟩, ?_⟩
      simp [intOf]; omega
    · have hall : puts [] ((p.map Prod.fst).take k) = puts [] (p.map Prod.fst) := by rw [List.take_of_length_le (by simp; omega)]
      obtain ⟨Z, hZ⟩ : ∃ Z, Z = puts [] ((p.map Prod.fst).take k) := ⟨_, rfl⟩
      rw [← hZ] at q1 q2 q4 hall hZl ⊢
      have HALL := Lib.hid hall
      have HROW : Hid (Row wr (.slice ao5 Z.length c5) Z) := Lib.hid ⟨ao5, c5, rfl, q1, q2, q3, q4, q5⟩
      have HZL := Lib.hid hZl
      clear q1 q2 q3 q4 q5 hall hZ hb hZl
      go_wp2
      go_loopw [5, 7] (fun v i wy => ∃ j : Nat, i = .int .i64 (j : Int) ∧ j ≤ xs.length ∧ Row wy v (puts Z (xs.take j)) ∧ Below w.heap.size w wy) (fun _ i _ => xs.length - (intOf i).toNat)
      case atStart => exact ⟨0, rfl, Nat.zero_le _, HROW.out, HB.out⟩
      case round =>
        obtain ⟨j, rfl, hj, ⟨ao5, c5, rfl, q1, q2, q3, q4, q5⟩, hb⟩ := hrel
        have HBY := Lib.hid hb
        have hYl := puts_le (xs.take j) Z
        rw [List.length_take] at hYl
        by_cases hpj : j < xs.length
        · obtain ⟨bb, bo, rfl, b0⟩ := (HX.out.below hb).at_ hpj
          unfold iV at b0
          have hst := puts_take2 (l := Z) hpj
          obtain ⟨x, hxx⟩ : ∃ x, x = xs[j] := ⟨_, rfl⟩
          rw [← hxx] at b0 hst
          obtain ⟨Y, hY⟩ : ∃ Y, Y = puts Z (xs.take j) := ⟨_, rfl⟩
          rw [← hY] at q1 q2 q4 hst hYl ⊢
          have Q1 := Lib.hid q1
          have Q2 := Lib.hid q2
          have Q3 := Lib.hid q3
          have Q45 := Lib.hid (And.intro q4 q5)
          have HST := Lib.hid hst
          have HYL := Lib.hid hYl
          clear q1 q2 q3 q4 q5 hst hY hxx hb hYl
          go_wp2_with (first
            | (go_at_call 35; (with_reducible refine (CP.out _ _ Y _ _ (by have := HYL.out; have := HZL.out; omega) Q45.out.1 Q45.out.2 Q1.out Q2.out Q3.out).mono ?_); rintro e w1 ⟨ao6, c6, rfl, r1, r2, r3, r4, p1⟩; have R := Lib.hid (And.intro r1 (And.intro r2 (And.intro r3 r4))); have P1 := Lib.hid p1; clear r1 r2 r3 r4 p1)
            | fail)
          refine ⟨⟨j + 1, by go_num, by omega, ⟨ao6, c6, by rw [HST.out], by rw [HST.out]; exact R.out.1, by rw [HST.out]; exact fun h => absurd h (putL_ne _ _), R.out.2.1, by rw [HST.out]; exact R.out.2.2.1, R.out.2.2.2⟩, P1.out.from HBY.out⟩, ?_⟩
          simp [intOf]; omega
        · have hall : puts Z (xs.take j) = T := by rw [List.take_of_length_le (by omega), HT.out, HALL.out]; rfl
          rw [hall] at q1 q2 q4 hYl ⊢
          have HROW : Hid (Row wr (.slice ao5 T.length c5) T) := Lib.hid ⟨ao5, c5, rfl, q1, q2, q3, q4, q5⟩
          clear q1 q2 q3 q4 q5 hall hb hYl
          go_wp2
          go_ret
          exact ⟨_, rfl, HROW.out, HBY.out⟩

end Go.Proofs.Ytoiahlbaiakngaa.Prof
