/-
  The walks of RunesBack and RunesCount.
-/
import Derived.Test.YtgconcfempoeaaaLaw04
namespace Go.Proofs.Ytgconcfempoeaaa.Runes
open Go.RowKit
open Base Bld
set_option linter.unusedVariables false

theorem of_data (s : ByteArray) : (⟨s.data.toList.toArray⟩ : ByteArray) = s := by
  apply ByteArray.ext; simp
theorem qtS_yes {s : ByteArray} (h : ckE s = 0) : qtS s = ⟨(qt s.data.toList).toArray⟩ := by unfold qtS; rw [if_pos h]
theorem qtS_no {s : ByteArray} (h : ckE s = 40) : qtS s = ⟨#[]⟩ := by unfold qtS; rw [if_neg (by omega)]
theorem qtS_size {s : ByteArray} (h : ckE s = 0) : (qtS s).size ≤ 2 * s.size + 2 := by
  rw [qtS_yes h, Lib.size_eq, ofList_data, Lib.size_eq]
  unfold qt
  have := mk_length s.data.toList
  rw [List.length_cons, List.length_append, List.length_singleton]; omega

theorem quoted_back {s : ByteArray} (h : ckE s = 0) : uqS (qtS s) = s ∧ uqE (qtS s) = 0 := by
  have hg : ckE (qtS s) = 0 := by rw [ckE_good, qtS_yes h, ofList_data, good_qt, ← ckE_good]; exact h
  obtain ⟨h1, h2⟩ := uq_yes (s := qtS s) (u := s.data.toList) hg (by rw [qtS_yes h, ofList_data]; exact uq_qt _)
  exact ⟨h1.symm.trans (of_data s), h2.symm⟩

theorem unquoted_back {s : ByteArray} (h : ckE s = 0) :
    (uqE s = 0 ∧ qtS (uqS s) = s ∧ ckE (uqS s) = 0 ∧ (uqS s).size ≤ s.size) ∨ (uqE s = 50 ∧ uqS s = ⟨#[]⟩) := by
  cases hu : uq s.data.toList with
  | none =>
    obtain ⟨h1, h2⟩ := uq_no h hu
    exact .inr ⟨h2.symm, h1.symm⟩
  | some u =>
    obtain ⟨h1, h2⟩ := uq_yes h hu
    have h3 := uq_some hu
    have hg : ckE (uqS s) = 0 := by
      rw [ckE_good, ← h1, ofList_data, ← good_qt, h3, ← ckE_good]; exact h
    have h4 : qtS (uqS s) = s := by rw [qtS_yes hg, ← h1, ofList_data, h3, of_data]
    refine .inl ⟨h2.symm, h4, hg, ?_⟩
    have h5 := congrArg List.length h3
    rw [← h1, Lib.size_eq, ofList_data, Lib.size_eq, ← h5]
    unfold qt mk
    rw [List.length_cons, List.length_append]
    have : u.length ≤ (u.flatMap fun b => if mkB b then [92, b] else [b]).length := by
      clear h1 h3 h5 hu
      induction u with
      | nil => simp
      | cons b t ih => rw [List.flatMap_cons, List.length_append, List.length_cons]; split <;> simp only [List.length_cons, List.length_nil] <;> omega
    omega
theorem unquoted_bad {s : ByteArray} (h : ckE s = 40) : uqE s = 40 ∧ uqS s = ⟨#[]⟩ := by
  obtain ⟨h1, h2⟩ := uq_bad h; exact ⟨h2.symm, h1.symm⟩

set_option maxRecDepth 100000 in
set_option maxHeartbeats 2000000 in
theorem runesBack_any (s : ByteArray) (hs : s.size ≤ maxLen) (w : World) :
    Calls Try.prog 6 #[.string s] w fun e w' => e = .returned (.bool true) ∧ Below w.heap.size w w' := by
  by_cases hl : 10000 < s.size
  · go_enter Try.func6, Try.ntmps6
    unfold maxLen at hs
    go_wp2_with (first | (go_at_call 10; (with_reducible refine (awake_any _).mono ?_); rintro e w1 ⟨rfl, p1⟩) | fail)
    go_ret
    exact ⟨rfl, p1⟩
  · have hs2 : s.size ≤ 10000 := by omega
    have c1 := fun w => quote_any s (by omega) w
    have c2 := fun w => check_any s (by omega) w
    have c4 := fun w => unquote_any s (by omega) w
    rcases ckE_or s with hE | hE
    · obtain ⟨q, hq⟩ : ∃ q, q = qtS s := ⟨_, rfl⟩
      have hqs := qtS_size hE
      rw [← hq] at hqs
      have c3 := fun w => unquote_any q (by omega) w
      have hqb := quoted_back hE
      rw [← hq] at hqb
      simp only [hqb.1, hqb.2] at c3
      simp only [hE, ← hq] at c1 c2
      have he1 : (s.toList == s.toList) = true := by rw [beq_iff_eq]
      rcases unquoted_back hE with ⟨hu, hb, hub, husz⟩ | ⟨hu, hb⟩
      · obtain ⟨u, hu2⟩ : ∃ u, u = uqS s := ⟨_, rfl⟩
        rw [← hu2] at hb hub husz
        have c5 := fun w => quote_any u (by omega) w
        simp only [hb, hub] at c5
        simp only [hu, ← hu2] at c4
        have C1 := Lib.hid c1
        have C2 := Lib.hid c2
        have C3 := Lib.hid c3
        have C4 := Lib.hid c4
        have C5 := Lib.hid c5
        clear c1 c2 c3 c4 c5 hq hqb hE hu hb hub hu2
        go_enter Try.func6, Try.ntmps6
        go_wp2_with (first
          | (go_at_call 19; (with_reducible refine (C1.out _).mono ?_); rintro e w1 ⟨rfl, p1⟩)
          | (go_at_call 11; (with_reducible refine (C2.out _).mono ?_); rintro e w2 ⟨rfl, p2⟩)
          | (go_at_call 21; (with_reducible refine (C3.out _).mono ?_); rintro e w3 ⟨rfl, p3⟩)
          | (go_at_call 21; (with_reducible refine (C4.out _).mono ?_); rintro e w4 ⟨rfl, p4⟩)
          | (go_at_call 19; (with_reducible refine (C5.out _).mono ?_); rintro e w5 ⟨rfl, p5⟩)
          | (go_at_call 10; (with_reducible refine (awake_any _).mono ?_); rintro e w6 ⟨rfl, p6⟩)
          | fail)
        go_ret
        exact ⟨rfl, p6.from (p5.from (p4.from (p3.from (p2.from p1))))⟩
      · simp only [hu, hb] at c4
        have C1 := Lib.hid c1
        have C2 := Lib.hid c2
        have C3 := Lib.hid c3
        have C4 := Lib.hid c4
        clear c1 c2 c3 c4 hq hqb hE hu hb
        go_enter Try.func6, Try.ntmps6
        go_wp2_with (first
          | (go_at_call 19; (with_reducible refine (C1.out _).mono ?_); rintro e w1 ⟨rfl, p1⟩)
          | (go_at_call 11; (with_reducible refine (C2.out _).mono ?_); rintro e w2 ⟨rfl, p2⟩)
          | (go_at_call 21; (with_reducible refine (C3.out _).mono ?_); rintro e w3 ⟨rfl, p3⟩)
          | (go_at_call 21; (with_reducible refine (C4.out _).mono ?_); rintro e w4 ⟨rfl, p4⟩)
          | (go_at_call 10; (with_reducible refine (awake_any _).mono ?_); rintro e w6 ⟨rfl, p6⟩)
          | fail)
        go_ret
        exact ⟨rfl, p6.from (p4.from (p3.from (p2.from p1)))⟩
    · have hub := unquoted_bad hE
      have hqn := qtS_no hE
      simp only [hE, hqn] at c1 c2
      simp only [hub.1, hub.2] at c4
      have C1 := Lib.hid c1
      have C2 := Lib.hid c2
      have C4 := Lib.hid c4
      clear c1 c2 c4 hE hub hqn
      go_enter Try.func6, Try.ntmps6
      go_wp2_with (first
        | (go_at_call 19; (with_reducible refine (C1.out _).mono ?_); rintro e w1 ⟨rfl, p1⟩)
        | (go_at_call 11; (with_reducible refine (C2.out _).mono ?_); rintro e w2 ⟨rfl, p2⟩)
        | (go_at_call 21; (with_reducible refine (C4.out _).mono ?_); rintro e w4 ⟨rfl, p4⟩)
        | (go_at_call 10; (with_reducible refine (awake_any _).mono ?_); rintro e w6 ⟨rfl, p6⟩)
        | fail)
      go_ret
      exact ⟨rfl, p6.from (p4.from (p2.from p1))⟩

/-! Counting. -/

theorem ck_count {s : ByteArray} : (ckE s = 0 ∧ ckN s = cn s) ∨ (ckE s = 40 ∧ ckN s < cn s) := by
  unfold ckE ckN cn
  rcases chk_good 0 (ps s 0) with ⟨a, b, _⟩ | ⟨a, _, c, _⟩
  · left; rw [a]; exact ⟨rfl, by omega⟩
  · right; rw [a]; exact ⟨rfl, by omega⟩

theorem cut_yes {s : ByteArray} {n : Int} (h : cuK s n = true) : cuA s n ++ cuB s n = s ∧ ((cn (cuA s n) : Nat) : Int) = n ∧ cn (cuA s n) + cn (cuB s n) = cn s := by
  have hA : (cuA s n).data.toList = s.data.toList.take (cuP s n) := by
    unfold cuA; rw [if_pos h, Lib.extract_data, List.drop_zero, Nat.sub_zero]
  have hB : (cuB s n).data.toList = s.data.toList.drop (cuP s n) := by
    unfold cuB; rw [if_pos h, Lib.extract_data, List.take_of_length_le (by rw [List.length_drop, ← Lib.size_eq]; exact Nat.le_refl _)]
  unfold cuK at h
  rw [decide_eq_true_iff] at h
  have hn : n.toNat ≤ (pc s.data.toList).length := by
    have : cn s = (pc s.data.toList).length := rfl
    omega
  have h1 : cn (cuA s n) = n.toNat := by
    unfold cn; rw [ps_zero, hA]; exact cut_front _ _ hn
  have h2 : cn (cuB s n) = cn s - n.toNat := by
    unfold cn; rw [ps_zero, hB]
    unfold cuP
    rw [ps_zero, cut_back _ _ hn, List.length_drop]
  refine ⟨?_, by omega, by omega⟩
  apply ByteArray.ext
  apply Array.toList_inj.1
  rw [ByteArray.data_append, Array.toList_append, hA, hB, List.take_append_drop]
theorem cut_no {s : ByteArray} {n : Int} (h : cuK s n = false) : cuA s n = ⟨#[]⟩ ∧ cuB s n = ⟨#[]⟩ ∧ (n < 0 ∨ (cn s : Int) < n) := by
  obtain ⟨h1, h2, _⟩ := cu_no h
  unfold cuK at h
  rw [decide_eq_false_iff_not] at h
  exact ⟨h1.symm, h2.symm, by omega⟩
theorem cuA_size (s : ByteArray) (n : Int) : (cuA s n).size ≤ s.size := by
  unfold cuA; split
  · exact extract_size_le s _ _
  · exact Nat.zero_le _
theorem cuB_size (s : ByteArray) (n : Int) : (cuB s n).size ≤ s.size := by
  unfold cuB; split
  · exact extract_size_le s _ _
  · exact Nat.zero_le _

set_option maxRecDepth 100000 in
set_option maxHeartbeats 2000000 in
theorem runesCount_any (s : ByteArray) (hs : s.size ≤ maxLen) (n : Int) (hn : n ≤ 9223372036854775807) (w : World) :
    Calls Try.prog 7 #[.string s, .int .i64 n] w fun e w' => e = .returned (.bool true) ∧ Below w.heap.size w w' := by
  by_cases hl : 10000 < s.size
  · go_enter Try.func7, Try.ntmps7
    unfold maxLen at hs
    go_wp2_with (first | (go_at_call 10; (with_reducible refine (awake_any _).mono ?_); rintro e w1 ⟨rfl, p1⟩) | fail)
    go_ret
    exact ⟨rfl, p1⟩
  · have hs2 : s.size ≤ 10000 := by omega
    have hcn := cn_le s
    have c1 := fun w => check_any s (by omega) w
    have c2 := fun w => count_any s (by omega) w
    have c3 := fun w => cut_any s (by omega) n hn w
    obtain ⟨k, hk⟩ : ∃ k, k = ckN s := ⟨_, rfl⟩
    obtain ⟨c, hc⟩ : ∃ c, c = cn s := ⟨_, rfl⟩
    obtain ⟨a, ha⟩ : ∃ a, a = cuA s n := ⟨_, rfl⟩
    obtain ⟨b, hb⟩ : ∃ b, b = cuB s n := ⟨_, rfl⟩
    have has := cuA_size s n
    have hbs := cuB_size s n
    rw [← ha] at has
    rw [← hb] at hbs
    rw [← hc] at hcn
    simp only [← hk] at c1
    simp only [← hc] at c2
    simp only [← ha, ← hb] at c3
    have hck := ck_count (s := s)
    rw [← hk, ← hc] at hck
    cases hK : cuK s n with
    | true =>
      obtain ⟨h1, h2, h3⟩ := cut_yes hK
      rw [← ha] at h1 h2 h3
      rw [← hb] at h1 h3
      rw [← hc] at h3
      simp only [hK] at c3
      have c4 := fun w => count_any a (by omega) w
      have c5 := fun w => count_any b (by omega) w
      obtain ⟨ca, hca⟩ : ∃ x, x = cn a := ⟨_, rfl⟩
      obtain ⟨cb, hcb⟩ : ∃ x, x = cn b := ⟨_, rfl⟩
      rw [← hca] at h2 h3
      rw [← hcb] at h3
      simp only [← hca] at c4
      simp only [← hcb] at c5
      have hs1 : ((a ++ b).toList == s.toList) = true := by rw [h1, beq_iff_eq]
      have hs3 : ((ca : Int) + (cb : Int) == (c : Int)) = true := by rw [beq_iff_eq]; omega
      rcases hck with ⟨hE, hk2⟩ | ⟨hE, hk2⟩
      · simp only [hE] at c1
        have C1 := Lib.hid c1
        have C2 := Lib.hid c2
        have C3 := Lib.hid c3
        have C4 := Lib.hid c4
        have C5 := Lib.hid c5
        clear c1 c2 c3 c4 c5 hk hc ha hb hca hcb hE hK h1
        go_enter Try.func7, Try.ntmps7
        go_wp2_with (first
          | (go_at_call 11; (with_reducible refine (C1.out _).mono ?_); rintro e w1 ⟨rfl, p1⟩)
          | (go_at_call 15; (with_reducible refine (C2.out _).mono ?_); rintro e w2 ⟨rfl, p2⟩)
          | (go_at_call 13; (with_reducible refine (C3.out _).mono ?_); rintro e w3 ⟨rfl, p3⟩)
          | (go_at_call 15; (with_reducible refine (C4.out _).mono ?_); rintro e w4 ⟨rfl, p4⟩)
          | (go_at_call 15; (with_reducible refine (C5.out _).mono ?_); rintro e w5 ⟨rfl, p5⟩)
          | (go_at_call 10; (with_reducible refine (awake_any _).mono ?_); rintro e w6 ⟨rfl, p6⟩)
          | fail)
        all_goals
          go_ret
          refine ⟨by first | rfl | (exact ret_bool (by simp; omega)), ?_⟩
          (focus repeat (first | exact Below.refl _ _ | assumption | (exact Hid.out (by assumption)) | (with_reducible refine Below.drew ?_) | (with_reducible refine below_drewN ?_ _) | (refine Below.from (below_one _) ?_) | (refine Below.from (below_conv _ _ _) ?_) | (refine Below.setCell ?_ (by simp <;> omega) _) | (refine Below.from (by assumption) ?_)))
      · simp only [hE] at c1
        have C1 := Lib.hid c1
        have C2 := Lib.hid c2
        have C3 := Lib.hid c3
        have C4 := Lib.hid c4
        have C5 := Lib.hid c5
        clear c1 c2 c3 c4 c5 hk hc ha hb hca hcb hE hK h1
        go_enter Try.func7, Try.ntmps7
        go_wp2_with (first
          | (go_at_call 11; (with_reducible refine (C1.out _).mono ?_); rintro e w1 ⟨rfl, p1⟩)
          | (go_at_call 15; (with_reducible refine (C2.out _).mono ?_); rintro e w2 ⟨rfl, p2⟩)
          | (go_at_call 13; (with_reducible refine (C3.out _).mono ?_); rintro e w3 ⟨rfl, p3⟩)
          | (go_at_call 15; (with_reducible refine (C4.out _).mono ?_); rintro e w4 ⟨rfl, p4⟩)
          | (go_at_call 15; (with_reducible refine (C5.out _).mono ?_); rintro e w5 ⟨rfl, p5⟩)
          | (go_at_call 10; (with_reducible refine (awake_any _).mono ?_); rintro e w6 ⟨rfl, p6⟩)
          | fail)
        all_goals
          go_ret
          refine ⟨by first | rfl | (exact ret_bool (by simp; omega)), ?_⟩
          (focus repeat (first | exact Below.refl _ _ | assumption | (exact Hid.out (by assumption)) | (with_reducible refine Below.drew ?_) | (with_reducible refine below_drewN ?_ _) | (refine Below.from (below_one _) ?_) | (refine Below.from (below_conv _ _ _) ?_) | (refine Below.setCell ?_ (by simp <;> omega) _) | (refine Below.from (by assumption) ?_)))
    | false =>
      obtain ⟨h1, h2, h3⟩ := cut_no hK
      rw [← hc] at h3
      rw [← ha] at h1
      rw [← hb] at h2
      simp only [hK, h1, h2] at c3
      have hs0 : ((⟨#[]⟩ : ByteArray) ++ (⟨#[]⟩ : ByteArray)).toList = [] := by rw [Lib.toList_data]; rfl
      rcases hck with ⟨hE, hk2⟩ | ⟨hE, hk2⟩
      · simp only [hE] at c1
        have C1 := Lib.hid c1
        have C2 := Lib.hid c2
        have C3 := Lib.hid c3
        clear c1 c2 c3 hk hc ha hb hE hK h1 h2
        go_enter Try.func7, Try.ntmps7
        go_wp2_with (first
          | (go_at_call 11; (with_reducible refine (C1.out _).mono ?_); rintro e w1 ⟨rfl, p1⟩)
          | (go_at_call 15; (with_reducible refine (C2.out _).mono ?_); rintro e w2 ⟨rfl, p2⟩)
          | (go_at_call 13; (with_reducible refine (C3.out _).mono ?_); rintro e w3 ⟨rfl, p3⟩)
          | (go_at_call 10; (with_reducible refine (awake_any _).mono ?_); rintro e w6 ⟨rfl, p6⟩)
          | fail)
        all_goals
          go_ret
          refine ⟨by first | rfl | (exact ret_bool (by simp; omega)), ?_⟩
          (focus repeat (first | exact Below.refl _ _ | assumption | (exact Hid.out (by assumption)) | (with_reducible refine Below.drew ?_) | (with_reducible refine below_drewN ?_ _) | (refine Below.from (below_one _) ?_) | (refine Below.from (below_conv _ _ _) ?_) | (refine Below.setCell ?_ (by simp <;> omega) _) | (refine Below.from (by assumption) ?_)))
      · simp only [hE] at c1
        have C1 := Lib.hid c1
        have C2 := Lib.hid c2
        have C3 := Lib.hid c3
        clear c1 c2 c3 hk hc ha hb hE hK h1 h2
        go_enter Try.func7, Try.ntmps7
        go_wp2_with (first
          | (go_at_call 11; (with_reducible refine (C1.out _).mono ?_); rintro e w1 ⟨rfl, p1⟩)
          | (go_at_call 15; (with_reducible refine (C2.out _).mono ?_); rintro e w2 ⟨rfl, p2⟩)
          | (go_at_call 13; (with_reducible refine (C3.out _).mono ?_); rintro e w3 ⟨rfl, p3⟩)
          | (go_at_call 10; (with_reducible refine (awake_any _).mono ?_); rintro e w6 ⟨rfl, p6⟩)
          | fail)
        all_goals
          go_ret
          refine ⟨by first | rfl | (exact ret_bool (by simp; omega)), ?_⟩
          (focus repeat (first | exact Below.refl _ _ | assumption | (exact Hid.out (by assumption)) | (with_reducible refine Below.drew ?_) | (with_reducible refine below_drewN ?_ _) | (refine Below.from (below_one _) ?_) | (refine Below.from (below_conv _ _ _) ?_) | (refine Below.setCell ?_ (by simp <;> omega) _) | (refine Below.from (by assumption) ?_)))

end Go.Proofs.Ytgconcfempoeaaa.Runes
