/-
  The walk of PackForms.
-/
import Derived.Test.YtamhmbmbcgjbmaaLaw03
namespace Go.Proofs.Ytamhmbmbcgjbmaa.Pack
open Go.RowKit
open Base Bld
set_option linter.unusedVariables false

theorem tn_forms {s : ByteArray} {a k : Int} (h : tnE s a k = 0) : ∃ A K : Nat, a = (A : Int) ∧ k = (K : Int) ∧ A + K ≤ s.size ∧ tnV s a k = (nval s A K : Int) ∧ tnTo s a k = ((A + K : Nat) : Int) ∧ nuS (tnV s a k) k = s.extract A (A + K) ∧ nuE (tnV s a k) k = 0 ∧ nval s A K < 9223372036854775808 := by
  by_cases hi : inS s a = true
  · obtain ⟨A, rfl, hA⟩ := inS_nat hi
    by_cases hw : isW k = true
    · obtain ⟨K, rfl, hK, _⟩ := isW_nat hw
      by_cases hlt : A + K ≤ s.size
      · obtain ⟨e1, e2, e3⟩ := tn_whole hA hw hlt
        by_cases hc : nval s A K < 9223372036854775808
        · obtain ⟨f1, f2, f3⟩ := ok_yes (A + K) hc
          have hn := nu_yes (m := nval s A K) hw (nval_lt s A K hlt)
          refine ⟨A, K, rfl, rfl, hlt, e1.trans f1, e2.trans f2, ?_, ?_, hc⟩
          · rw [e1, f1, ← hn.1, num_forms s A K hlt]
          · rw [e1, f1, ← hn.2]
        · obtain ⟨f1, f2, f3⟩ := ok_no (A + K) hc
          rw [e3, f3] at h; omega
      · have := (tn_short hA hw (by omega)).2.2; rw [this] at h; omega
    · have := (tn_out (s := s) (a := (A : Int)) (k := k) (.inr (by simpa using hw))).2.2; rw [this] at h; omega
  · have := (tn_out (s := s) (a := a) (k := k) (.inl (by simpa using hi))).2.2; rw [this] at h; omega

theorem tlf {s : ByteArray} {a : Int} (h : tlE s a = 0) : ∃ A Z : Nat, a = (A : Int) ∧ tlTo s a = (Z : Int) ∧ A ≤ Z ∧ Z ≤ s.size ∧ lsS (tlL s a) = s.extract A Z ∧ lsE (tlL s a) = 0 := by
  by_cases hi : inS s a = true
  · obtain ⟨A, rfl, hA⟩ := inS_nat hi
    cases ht : tlO s A with
    | none => have := (tl_none hA ht).2.2; rw [this] at h; omega
    | some x =>
      obtain ⟨l, z⟩ := x
      obtain ⟨e1, e2, e3⟩ := tl_some hA ht
      obtain ⟨g1, g2, g3, g4⟩ := tl_forms ht
      have hn := lst_short g3
      exact ⟨A, z, rfl, e2, g1, g2, by rw [e1, ← hn.1, g4], by rw [e1, ← hn.2]⟩
  · have := (tl_out (s := s) (a := a) (by simpa using hi)).2.2; rw [this] at h; omega

theorem lst_sizes {l : List ByteArray} (h : lstBig l = false) : l.length ≤ 65535 ∧ ∀ s ∈ l, s.size ≤ maxLen := by
  simp only [lstBig, Bool.or_eq_false_iff, decide_eq_false_iff_not] at h
  refine ⟨by omega, fun s hs => ?_⟩
  have h2 := h.2
  unfold anyBig at h2
  rw [List.any_eq_false] at h2
  have := h2 s hs
  unfold bigB at this
  simp at this
  unfold maxLen; omega

theorem tlf_sizes {s : ByteArray} {a : Int} (h : tlE s a = 0) : (tlL s a).length ≤ 65535 ∧ ∀ t ∈ tlL s a, t.size ≤ maxLen := by
  obtain ⟨A, Z, _, _, _, _, _, he⟩ := tlf h
  apply lst_sizes
  cases hb : lstBig (tlL s a) with
  | false => rfl
  | true => have := (lst_long hb).2; omega

set_option maxHeartbeats 1000000 in
theorem packForms_any (s : ByteArray) (hs : s.size ≤ maxLen) (a k : Int) (w : World) :
    Calls Try.prog 6 #[.string s, .int .i64 a, .int .i64 k] w fun e w' => e = .returned (.bool true) ∧ Below w.heap.size w w' := by
  by_cases hl : 10000 < s.size
  · go_enter Try.func6, Try.ntmps6
    go_wp2_with (first | (go_at_call 7; (with_reducible refine (awake_any _).mono ?_); rintro e w1 ⟨rfl, p1⟩) | fail)
    go_ret
    exact ⟨rfl, p1⟩
  · by_cases ht : tlE s a = 0
    · obtain ⟨A, Z, rfl, t1, t2, t3, t4, t5⟩ := tlf ht
      obtain ⟨s1, s2⟩ := tlf_sizes ht
      have c1 := fun w => takeTexts_any s hs (A : Int) w
      have c2 := fun ao cap w hr => texts_any ao (tlL s (A : Int)).length cap (tlL s (A : Int)) w rfl (by omega) hr s2
      rw [t4, t5] at c2
      unfold Handed at c1
      rw [t1, ht] at c1
      have C1 := Lib.hid c1
      have C2 := Lib.hid c2
      clear c1 c2 t1 t4 t5 s1 s2 ht
      by_cases hn : tnE s (A : Int) k = 0
      · obtain ⟨A', K, he, rfl, n1, n2, n3, n4, n5, hv'⟩ := tn_forms hn
        obtain rfl : A' = A := by omega
        have hv : nval s A' K ≤ 9223372036854775807 := by omega
        have c3 := fun w => takeNumber_any s hs (A' : Int) (K : Int) w
        have c4 := fun w => number_any (tnV s (A' : Int) (K : Int)) (K : Int) (by rw [n2]; omega) (by rw [n2]; omega) w
        rw [n2, n3, hn] at c3
        rw [n4, n5, n2] at c4
        have C3 := Lib.hid c3
        have C4 := Lib.hid c4
        clear c3 c4 n2 n3 n4 n5 hn he
        go_enter Try.func6, Try.ntmps6
        go_wp2_with (first
          | (go_at_call 10; (with_reducible refine (C3.out _).mono ?_); rintro e w1 ⟨rfl, p1⟩)
          | (go_at_call 8; (with_reducible refine (C4.out _).mono ?_); rintro e w2 ⟨rfl, p2⟩)
          | (go_at_call 14; (with_reducible refine (C1.out _).mono ?_); rintro e w3 ⟨v, rfl, o3, p3⟩; obtain ⟨ao, cap, rfl, hr, _, _⟩ := o3.value)
          | (go_at_call 12; (with_reducible refine (C2.out _ _ _ hr).mono ?_); rintro e w4 ⟨rfl, p4⟩)
          | (go_at_call 7; (with_reducible refine (awake_any _).mono ?_); rintro e w5 ⟨rfl, p5⟩)
          | fail)
        go_ret
        exact ⟨rfl, p5.from (p4.from (p3.from (p2.from p1)))⟩
      · have hne : (tnE s (A : Int) k == 0) = false := by simpa using hn
        clear hn
        go_enter Try.func6, Try.ntmps6
        go_wp2_with (first
          | (go_at_call 10; (with_reducible refine (takeNumber_any s hs (A : Int) k _).mono ?_); rintro e w1 ⟨rfl, p1⟩)
          | (go_at_call 14; (with_reducible refine (C1.out _).mono ?_); rintro e w3 ⟨v, rfl, o3, p3⟩; obtain ⟨ao, cap, rfl, hr, _, _⟩ := o3.value)
          | (go_at_call 12; (with_reducible refine (C2.out _ _ _ hr).mono ?_); rintro e w4 ⟨rfl, p4⟩)
          | (go_at_call 7; (with_reducible refine (awake_any _).mono ?_); rintro e w5 ⟨rfl, p5⟩)
          | fail)
        go_ret
        exact ⟨rfl, p5.from (p4.from (p3.from p1))⟩
    · have hte : (tlE s a == 0) = false := by simpa using ht
      have C1 := Lib.hid (fun w => takeTexts_any s hs a w)
      clear ht
      by_cases hn : tnE s a k = 0
      · obtain ⟨A', K, rfl, rfl, n1, n2, n3, n4, n5, hv'⟩ := tn_forms hn
        have hv : nval s A' K ≤ 9223372036854775807 := by omega
        have c3 := fun w => takeNumber_any s hs (A' : Int) (K : Int) w
        have c4 := fun w => number_any (tnV s (A' : Int) (K : Int)) (K : Int) (by rw [n2]; omega) (by rw [n2]; omega) w
        rw [n2, n3, hn] at c3
        rw [n4, n5, n2] at c4
        have C3 := Lib.hid c3
        have C4 := Lib.hid c4
        clear c3 c4 n2 n3 n4 n5 hn
        go_enter Try.func6, Try.ntmps6
        go_wp2_with (first
          | (go_at_call 10; (with_reducible refine (C3.out _).mono ?_); rintro e w1 ⟨rfl, p1⟩)
          | (go_at_call 8; (with_reducible refine (C4.out _).mono ?_); rintro e w2 ⟨rfl, p2⟩)
          | (go_at_call 14; (with_reducible refine (C1.out _).mono ?_); rintro e w3 ⟨v, rfl, o3, p3⟩)
          | (go_at_call 7; (with_reducible refine (awake_any _).mono ?_); rintro e w5 ⟨rfl, p5⟩)
          | fail)
        go_ret
        exact ⟨rfl, p5.from (p3.from (p2.from p1))⟩
      · have hne : (tnE s a k == 0) = false := by simpa using hn
        clear hn
        go_enter Try.func6, Try.ntmps6
        go_wp2_with (first
          | (go_at_call 10; (with_reducible refine (takeNumber_any s hs a k _).mono ?_); rintro e w1 ⟨rfl, p1⟩)
          | (go_at_call 14; (with_reducible refine (C1.out _).mono ?_); rintro e w3 ⟨v, rfl, o3, p3⟩)
          | (go_at_call 7; (with_reducible refine (awake_any _).mono ?_); rintro e w5 ⟨rfl, p5⟩)
          | fail)
        go_ret
        exact ⟨rfl, p5.from (p3.from p1)⟩

end Go.Proofs.Ytamhmbmbcgjbmaa.Pack
