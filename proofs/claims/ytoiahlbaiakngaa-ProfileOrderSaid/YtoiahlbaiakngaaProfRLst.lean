/-
  The walks of the document's own At and Least.
-/
import Derived.Test.YtoiahlbaiakngaaProfRef
namespace Go.Proofs.Ytoiahlbaiakngaa.Prof
open Go.RowKit
open Base
set_option linter.unusedVariables false
set_option linter.unusedSimpArgs false

set_option maxRecDepth 100000 in
set_option maxHeartbeats 2000000 in
theorem rat_any (ao : Option Addr) (len cap : Nat) (p : List St) (t : Int) (w : World) (hlen : p.length = len) (hl : len ≤ maxLen) (hr : ReadsS 2 stC w ao p) :
    Calls Try.prog 13 #[.slice ao len cap, .int .i64 t] w fun e w' => e = .returned (.int .i64 (atR p t)) ∧ Below w.heap.size w w' := by
  have cC := rcheck_any ao len cap p w hlen hl hr
  have cN := fun w2 (hb : Below w.heap.size w w2) => rnow_any ao len cap p t w2 hlen hl (hr.below stC_length hb)
  clear hlen hl hr
  obtain ⟨R, hR⟩ : ∃ R, R = atR p t := ⟨_, rfl⟩
  rw [← hR]
  unfold atR at hR
  by_cases hp : Prof p
  · rw [chkE_0 hp] at cC
    by_cases h1 : t < 0
    · have t1 : decide (t < 0) = true := decide_eq_true h1
      have HR : Hid (0 = R) := Lib.hid (by rw [hR, if_neg (by omega)])
      have CC := Lib.hid cC
      clear cC cN hR h1 hp
      go_enter Try.func13, Try.ntmps13
      go_wp2_with (first
        | (go_at_call 11; (with_reducible refine (CC.out).mono ?_); rintro e w1 ⟨rfl, p1⟩)
        | fail)
      go_ret
      exact ⟨ret_i64 HR.out, p1⟩
    have t1 : decide (t < 0) = false := decide_eq_false h1
    by_cases h2 : 1000000 < t
    · have t2 : decide (1000000 < t) = true := decide_eq_true h2
      have HR : Hid (0 = R) := Lib.hid (by rw [hR, if_neg (by omega)])
      have CC := Lib.hid cC
      clear cC cN hR h1 h2 hp
      go_enter Try.func13, Try.ntmps13
      go_wp2_with (first
        | (go_at_call 11; (with_reducible refine (CC.out).mono ?_); rintro e w1 ⟨rfl, p1⟩)
        | fail)
      go_ret
      exact ⟨ret_i64 HR.out, p1⟩
    have t2 : decide (1000000 < t) = false := decide_eq_false h2
    have HR : Hid (now p t = R) := Lib.hid (by rw [hR, if_pos ⟨hp, by omega, by omega⟩])
    have CC := Lib.hid cC
    generalize now p t = N at cN HR
    have CN := Lib.hid cN
    clear cC cN hR h1 h2 hp
    go_enter Try.func13, Try.ntmps13
    go_wp2_with (first
      | (go_at_call 11; (with_reducible refine (CC.out).mono ?_); rintro e w1 ⟨rfl, p1⟩)
      | (go_at_call 25; (with_reducible refine (CN.out _ (by (focus repeat (first | exact Below.refl _ _ | assumption | (exact Hid.out (by assumption)) | (with_reducible refine Below.drew ?_) | (with_reducible refine Base.below_drewN ?_ _) | (refine Below.from (below_one _) ?_) | (refine Below.from (below_conv _ _ _) ?_) | (refine Below.setCell ?_ (by simp <;> omega) _) | (refine Below.from (by assumption) ?_))))).mono ?_); rintro e w2 ⟨rfl, rfl⟩)
      | fail)
    go_ret
    exact ⟨ret_i64 HR.out, p1⟩
  · rw [chkE_100 hp] at cC
    have HR : Hid (0 = R) := Lib.hid (by rw [hR, if_neg (fun h => hp h.1)])
    have CC := Lib.hid cC
    clear cC cN hR hp
    go_enter Try.func13, Try.ntmps13
    go_wp2_with (first
      | (go_at_call 11; (with_reducible refine (CC.out).mono ?_); rintro e w1 ⟨rfl, p1⟩)
      | fail)
    go_ret
    exact ⟨ret_i64 HR.out, p1⟩

theorem low_take_succ {p : List St} {k : Nat} (h : k < p.length) (a b o : Int) :
    lowF a b (p.take (k + 1)) o = if a < p[k].1 ∧ p[k].1 < b ∧ p[k].2 < lowF a b (p.take k) o then p[k].2 else lowF a b (p.take k) o := by
  rw [List.take_add_one, List.getElem?_eq_getElem h]
  exact lowF_snoc _ _ _ _ _

set_option maxRecDepth 100000 in
set_option maxHeartbeats 4000000 in
theorem rleast_any (ao : Option Addr) (len cap : Nat) (p : List St) (a b : Int) (w : World) (hlen : p.length = len) (hl : len ≤ maxLen) (hr : ReadsS 2 stC w ao p) :
    Calls Try.prog 15 #[.slice ao len cap, .int .i64 a, .int .i64 b] w fun e w' => e = .returned (.int .i64 (leastR p a b)) ∧ Below w.heap.size w w' := by
  subst hlen
  have cC := rcheck_any ao p.length cap p w rfl hl hr
  have cN := fun w2 (hb : Below w.heap.size w w2) => rnow_any ao p.length cap p a w2 rfl hl (hr.below stC_length hb)
  unfold maxLen at hl
  have HRD := Lib.hid hr
  clear hr
  obtain ⟨R, hR⟩ : ∃ R, R = leastR p a b := ⟨_, rfl⟩
  rw [← hR]
  unfold leastR leastN at hR
  by_cases hp : Prof p
  · rw [chkE_0 hp] at cC
    by_cases h1 : a < 0
    · have t1 : decide (a < 0) = true := decide_eq_true h1
      have HR : Hid (0 = R) := Lib.hid (by rw [hR, if_neg (by omega)])
      have CC := Lib.hid cC
      clear cC cN hR h1 hp
      go_enter Try.func15, Try.ntmps15
      go_wp2_with (first
        | (go_at_call 11; (with_reducible refine (CC.out).mono ?_); rintro e w1 ⟨rfl, p1⟩)
        | fail)
      go_ret
      exact ⟨ret_i64 HR.out, p1⟩
    have t1 : decide (a < 0) = false := decide_eq_false h1
    by_cases h2 : 1000000 < a
    · have t2 : decide (1000000 < a) = true := decide_eq_true h2
      have HR : Hid (0 = R) := Lib.hid (by rw [hR, if_neg (by omega)])
      have CC := Lib.hid cC
      clear cC cN hR h1 h2 hp
      go_enter Try.func15, Try.ntmps15
      go_wp2_with (first
        | (go_at_call 11; (with_reducible refine (CC.out).mono ?_); rintro e w1 ⟨rfl, p1⟩)
        | fail)
      go_ret
      exact ⟨ret_i64 HR.out, p1⟩
    have t2 : decide (1000000 < a) = false := decide_eq_false h2
    by_cases h3 : b ≤ a
    · have t3 : decide (b ≤ a) = true := decide_eq_true h3
      have HR : Hid (0 = R) := Lib.hid (by rw [hR, if_neg (by omega)])
      have CC := Lib.hid cC
      clear cC cN hR h1 h2 h3 hp
      go_enter Try.func15, Try.ntmps15
      go_wp2_with (first
        | (go_at_call 11; (with_reducible refine (CC.out).mono ?_); rintro e w1 ⟨rfl, p1⟩)
        | fail)
      go_ret
      exact ⟨ret_i64 HR.out, p1⟩
    have t3 : decide (b ≤ a) = false := decide_eq_false h3
    rw [if_pos ⟨hp, by omega, by omega, by omega⟩] at hR
    have HR := Lib.hid hR
    have CC := Lib.hid cC
    obtain ⟨N, hN⟩ : ∃ N, N = now p a := ⟨_, rfl⟩
    rw [← hN] at cN HR
    have CN := Lib.hid cN
    clear cC cN hR h1 h2 h3 hp hN
    go_enter Try.func15, Try.ntmps15
    go_wp2_with (first
      | (go_at_call 11; (with_reducible refine (CC.out).mono ?_); rintro e w1 ⟨rfl, p1⟩)
      | (go_at_call 25; (with_reducible refine (CN.out _ (by (focus repeat (first | exact Below.refl _ _ | assumption | (exact Hid.out (by assumption)) | (with_reducible refine Below.drew ?_) | (with_reducible refine Base.below_drewN ?_ _) | (refine Below.from (below_one _) ?_) | (refine Below.from (below_conv _ _ _) ?_) | (refine Below.setCell ?_ (by simp <;> omega) _) | (refine Below.from (by assumption) ?_))))).mono ?_); rintro e w2 ⟨rfl, rfl⟩)
      | fail)
    go_loopw [7, 8] (fun o i wr => ∃ k : Nat, i = .int .i64 (k : Int) ∧ k ≤ p.length ∧ o = .int .i64 (lowF a b (p.take k) N) ∧ Below w.heap.size w wr) (fun _ i _ => p.length - (intOf i).toNat)
    case atStart => exact ⟨0, rfl, Nat.zero_le _, rfl, p1⟩
    case round =>
      obtain ⟨k, rfl, hk, rfl, hb⟩ := hrel
      have HB := Lib.hid hb
      by_cases hpk : k < p.length
      · obtain ⟨bb, bo, rfl, b0, b1⟩ := st_cells (HRD.out.below stC_length hb) hpk
        have hs := low_take_succ hpk a b N
        obtain ⟨⟨x, f⟩, hA⟩ : ∃ A : St, A = p[k] := ⟨_, rfl⟩
        rw [← hA] at b0 b1 hs
        dsimp only at b0 b1 hs
        obtain ⟨O, hO⟩ : ∃ O, O = lowF a b (p.take k) N := ⟨_, rfl⟩
        rw [← hO] at hs ⊢
        clear hA hO hb
        by_cases c1 : a < x
        · have t5 : decide (a < x) = true := decide_eq_true c1
          by_cases c2 : x < b
          · have t6 : decide (x < b) = true := decide_eq_true c2
            by_cases c3 : f < O
            · have t7 : decide (f < O) = true := decide_eq_true c3
              rw [if_pos ⟨c1, c2, c3⟩] at hs
              have HS := Lib.hid hs
              clear hs c1 c2 c3
              go_wp2
              refine ⟨⟨k + 1, by go_num, by omega, by rw [HS.out], HB.out⟩, ?_⟩
              simp [intOf]; omega
            · have t7 : decide (f < O) = false := decide_eq_false c3
              rw [if_neg (fun h => c3 h.2.2)] at hs
              have HS := Lib.hid hs
              clear hs c1 c2 c3
              go_wp2
              refine ⟨⟨k + 1, by go_num, by omega, by rw [HS.out], HB.out⟩, ?_⟩
              simp [intOf]; omega
          · have t6 : decide (x < b) = false := decide_eq_false c2
            rw [if_neg (fun h => c2 h.2.1)] at hs
            have HS := Lib.hid hs
            clear hs c1 c2
            go_wp2
            refine ⟨⟨k + 1, by go_num, by omega, by rw [HS.out], HB.out⟩, ?_⟩
            simp [intOf]; omega
        · have t5 : decide (a < x) = false := decide_eq_false c1
          rw [if_neg (fun h => c1 h.1)] at hs
          have HS := Lib.hid hs
          clear hs c1
          go_wp2
          refine ⟨⟨k + 1, by go_num, by omega, by rw [HS.out], HB.out⟩, ?_⟩
          simp [intOf]; omega
      · have HX : Hid (lowF a b (p.take k) N = R) := Lib.hid (by rw [HR.out, List.take_of_length_le (by omega)])
        obtain ⟨O, hO⟩ : ∃ O, O = lowF a b (p.take k) N := ⟨_, rfl⟩
        rw [← hO] at HX ⊢
        clear hO
        go_wp2
        go_ret
        exact ⟨ret_i64 HX.out, HB.out⟩
  · rw [chkE_100 hp] at cC
    have HR : Hid (0 = R) := Lib.hid (by rw [hR, if_neg (fun h => hp h.1)])
    have CC := Lib.hid cC
    clear cC cN hR hp
    go_enter Try.func15, Try.ntmps15
    go_wp2_with (first
      | (go_at_call 11; (with_reducible refine (CC.out).mono ?_); rintro e w1 ⟨rfl, p1⟩)
      | fail)
    go_ret
    exact ⟨ret_i64 HR.out, p1⟩

end Go.Proofs.Ytoiahlbaiakngaa.Prof
