/-
  The walk of the document's own Allows.
-/
import Derived.Test.YtlmogkhgangmgaaShapeROpt
import Derived.Test.YtlmogkhgangmgaaShapeAllow
namespace Go.Proofs.Ytlmogkhgangmgaa.Shape
open Go.RowKit
open Base
set_option linter.unusedVariables false
set_option linter.unusedSimpArgs false

theorem allow_out {k : Int} {Z : List Alt} {mn mx c n : Int} (h : c < 0 ∨ (Z.length : Int) ≤ c) : false = allowB k Z mn mx c n :=
  allow_no fun j hj he => by omega
theorem allow_at {k : Int} {Z : List Alt} {mn mx c n : Int} (h0 : 0 ≤ c) (h : c.toNat < Z.length) : allowB k Z mn mx c n = onB k mn mx Z[c.toNat].1 n := by
  unfold allowB
  rw [if_pos h0, List.getElem?_eq_getElem h]
theorem opt_span {zs : List Alt} {mn mx wl n : Int} {i : Nat} (h : i < (optL 3 zs mn mx wl).length) (hn : (optL 3 zs mn mx wl)[i].1 = n) : frB n mn mx = true := by
  cases hc : chkB 3 zs mn mx wl with
  | false => simp only [optL_no hc, List.length_nil] at h; omega
  | true =>
    have he := optL_down hc
    have h2 : i < (downL mx mn wl).length := by rw [← he]; exact h
    have h3 : (optL 3 zs mn mx wl)[i] = (downL mx mn wl)[i] := by simp only [he]
    rw [h3, downL_at] at hn
    rw [downL_length] at h2
    have hm := chk3.1 hc
    dsimp only at hn
    rw [frB_iff]; omega
theorem span_opt {zs : List Alt} {mn mx wl n : Int} (h0 : 0 < (optL 3 zs mn mx wl).length) (hn : frB n mn mx = true) : ∃ i, ∃ h : i < (optL 3 zs mn mx wl).length, (optL 3 zs mn mx wl)[i].1 = n := by
  cases hc : chkB 3 zs mn mx wl with
  | false => simp only [optL_no hc, List.length_nil] at h0; omega
  | true =>
    have he := optL_down hc
    rw [frB_iff] at hn
    have h2 : (mx - n).toNat < (downL mx mn wl).length := by rw [downL_length]; omega
    refine ⟨(mx - n).toNat, by rw [he]; exact h2, ?_⟩
    have h3 : (optL 3 zs mn mx wl)[(mx - n).toNat]'(by rw [he]; exact h2) = (downL mx mn wl)[(mx - n).toNat] := by simp only [he]
    rw [h3, downL_at]
    dsimp only; omega

theorem allow_hit {k : Int} {zs : List Alt} {mn mx wl c n : Int} {i : Nat} (h0 : 0 ≤ c) (hc : c.toNat < (optL k zs mn mx wl).length) (hi : i < (optL k zs mn mx wl).length) (hn : (optL k zs mn mx wl)[i].1 = n) (h : (i : Int) = c ∨ k = 3) : true = allowB k (optL k zs mn mx wl) mn mx c n := by
  rw [allow_at h0 hc]
  unfold onB
  rcases h with h | h
  · have : c.toNat = i := by omega
    simp only [this, hn]; simp
  · subst h
    rw [opt_span hi hn]; simp
theorem allow_miss {k : Int} {zs : List Alt} {mn mx wl c n : Int} (h0 : 0 ≤ c) (hc : c.toNat < (optL k zs mn mx wl).length) (h : ∀ i (hi : i < (optL k zs mn mx wl).length), (optL k zs mn mx wl)[i].1 = n → (i : Int) ≠ c ∧ k ≠ 3) : false = allowB k (optL k zs mn mx wl) mn mx c n := by
  rw [allow_at h0 hc]
  unfold onB
  symm
  rw [Bool.or_eq_false_iff, Bool.and_eq_false_iff]
  constructor
  · rw [beq_eq_false_iff_ne]
    intro he
    exact (h _ hc he).1 (by omega)
  · by_cases h3 : k = 3
    · subst h3
      right
      cases hf : frB n mn mx with
      | false => rfl
      | true =>
        have hpos : 0 < (optL 3 zs mn mx wl).length := by omega
        obtain ⟨i, hi, hn⟩ := span_opt hpos hf
        exact absurd rfl (h i hi hn).2
    · left; rw [beq_eq_false_iff_ne]; exact h3

set_option maxRecDepth 100000 in
set_option maxHeartbeats 2000000 in
theorem rallows_any (k : Int) (ao : Option Addr) (len cap : Nat) (zs : List Alt) (mn mx wl c n : Int) (w : World) (hlen : zs.length = len) (hl : len ≤ cap) (hcap : cap ≤ maxLen) (hr : ReadsS 2 altC w ao zs) :
    Calls Try.prog 22 #[.agg #[.int .i64 k, .slice ao len cap, .int .i64 mn, .int .i64 mx, .int .i64 wl], .int .i64 c, .int .i64 n] w fun e w' => e = .returned (.bool (allowB k (optL k zs mn mx wl) mn mx c n)) ∧ Below w.heap.size w w' := by
  have c1 := fun (w2 : World) (hb : Below w.heap.size w w2) => roptions_any k ao len cap zs mn mx wl w2 hlen hl hcap (hr.below altC_length hb)
  have HSB := Lib.hid (SBox.new w k (.slice ao len cap) mn mx wl)
  have hZ48 := (optL_good k zs mn mx wl).2
  have hl64 : len ≤ 9223372036854775807 := by unfold maxLen at hcap; omega
  have h1 := fun (h : c < 0 ∨ ((optL k zs mn mx wl).length : Int) ≤ c) => allow_out (k := k) (mn := mn) (mx := mx) (n := n) h
  have h2 := fun h0 hc i hi hn h => allow_hit (k := k) (zs := zs) (mn := mn) (mx := mx) (wl := wl) (c := c) (n := n) (i := i) h0 hc hi hn h
  have h3 := fun h0 hc h => allow_miss (k := k) (zs := zs) (mn := mn) (mx := mx) (wl := wl) (c := c) (n := n) h0 hc h
  obtain ⟨A, hA⟩ : ∃ A, A = allowB k (optL k zs mn mx wl) mn mx c n := ⟨_, rfl⟩
  rw [← hA] at h1 h2 h3 ⊢
  clear hA
  generalize optL k zs mn mx wl = Z at c1 hZ48 h1 h2 h3
  have C1 := Lib.hid c1
  clear c1 hr hlen
  unfold RowSays at C1
  by_cases hneg : c < 0
  · have HX := Lib.hid (h1 (.inl hneg))
    clear h1 h2 h3
    go_enter Try.func22, Try.ntmps22
    go_wp2_with (first
      | (go_at_call 13; (with_reducible refine (C1.out _ (by (focus repeat (first | exact Below.refl _ _ | assumption | (exact Hid.out (by assumption)) | (with_reducible refine Below.drew ?_) | (with_reducible refine Base.below_drewN ?_ _) | (refine Below.from (below_one _) ?_) | (refine Below.from (below_conv _ _ _) ?_) | (refine Below.setCell ?_ (by simp <;> omega) _) | (refine Below.from (by assumption) ?_))))).mono ?_); rintro e w1 ⟨ao2, cap2, rfl, q1, q2, q3, p1⟩; have Q1 := Lib.hid q1; clear q1)
      | fail)
    go_ret
    exact ⟨ret_bool HX.out, by (focus repeat (first | exact Below.refl _ _ | assumption | (exact Hid.out (by assumption)) | (with_reducible refine Below.drew ?_) | (with_reducible refine Base.below_drewN ?_ _) | (refine Below.from (below_one _) ?_) | (refine Below.from (below_conv _ _ _) ?_) | (refine Below.setCell ?_ (by simp <;> omega) _) | (refine Below.from (by assumption) ?_)))⟩
  · by_cases hbig : (Z.length : Int) ≤ c
    · have HX := Lib.hid (h1 (.inr hbig))
      clear h1 h2 h3
      go_enter Try.func22, Try.ntmps22
      go_wp2_with (first
        | (go_at_call 13; (with_reducible refine (C1.out _ (by (focus repeat (first | exact Below.refl _ _ | assumption | (exact Hid.out (by assumption)) | (with_reducible refine Below.drew ?_) | (with_reducible refine Base.below_drewN ?_ _) | (refine Below.from (below_one _) ?_) | (refine Below.from (below_conv _ _ _) ?_) | (refine Below.setCell ?_ (by simp <;> omega) _) | (refine Below.from (by assumption) ?_))))).mono ?_); rintro e w1 ⟨ao2, cap2, rfl, q1, q2, q3, p1⟩; have Q1 := Lib.hid q1; clear q1)
        | fail)
      go_ret
      exact ⟨ret_bool HX.out, by (focus repeat (first | exact Below.refl _ _ | assumption | (exact Hid.out (by assumption)) | (with_reducible refine Below.drew ?_) | (with_reducible refine Base.below_drewN ?_ _) | (refine Below.from (below_one _) ?_) | (refine Below.from (below_conv _ _ _) ?_) | (refine Below.setCell ?_ (by simp <;> omega) _) | (refine Below.from (by assumption) ?_)))⟩
    · have H2 := Lib.hid (h2 (by omega) (by omega))
      have H3 := Lib.hid (h3 (by omega) (by omega))
      clear h1 h2 h3
      go_enter Try.func22, Try.ntmps22
      go_wp2_with (first
        | (go_at_call 13; (with_reducible refine (C1.out _ (by (focus repeat (first | exact Below.refl _ _ | assumption | (exact Hid.out (by assumption)) | (with_reducible refine Below.drew ?_) | (with_reducible refine Base.below_drewN ?_ _) | (refine Below.from (below_one _) ?_) | (refine Below.from (below_conv _ _ _) ?_) | (refine Below.setCell ?_ (by simp <;> omega) _) | (refine Below.from (by assumption) ?_))))).mono ?_); rintro e w1 ⟨ao2, cap2, rfl, q1, q2, q3, p1⟩; have Q1 := Lib.hid q1; obtain ⟨s0, _, _, _, _⟩ := (HSB.out.below p1).cells; clear q1)
        | fail)
      have hw1 : Below w.heap.size w w1 := by (focus repeat (first | exact Below.refl _ _ | assumption | (exact Hid.out (by assumption)) | (with_reducible refine Below.drew ?_) | (with_reducible refine Base.below_drewN ?_ _) | (refine Below.from (below_one _) ?_) | (refine Below.from (below_conv _ _ _) ?_) | (refine Below.setCell ?_ (by simp <;> omega) _) | (refine Below.from (by assumption) ?_)))
      have HW1 := Lib.hid hw1
      clear p1 hw1
      go_loopw [8] (fun i wr => ∃ j : Nat, i = .int .i64 (j : Int) ∧ j ≤ Z.length ∧ (∀ b (hb : b < Z.length), b < j → Z[b].1 = n → (b : Int) ≠ c ∧ k ≠ 3) ∧ w1 = wr) (fun i _ => Z.length - (intOf i).toNat)
      case atStart => exact ⟨0, rfl, Nat.zero_le _, fun _ _ h => absurd h (Nat.not_lt_zero _), rfl⟩
      case round =>
        obtain ⟨j, rfl, hj, hs, rfl⟩ := hrel
        have HS := Lib.hid hs
        clear hs
        by_cases hp : j < Z.length
        · obtain ⟨bb, bo, rfl, b0, b1⟩ := alt_cells Q1.out hp
          have hgo : (Z[j].1 = n → (j : Int) ≠ c ∧ k ≠ 3) → ∀ b (hb : b < Z.length), b < j + 1 → Z[b].1 = n → (b : Int) ≠ c ∧ k ≠ 3 := fun h b hb hbj => by
            by_cases he : b = j
            · subst he; exact h
            · exact HS.out b hb (by omega)
          have hhit : Z[j].1 = n → ((j : Int) = c ∨ k = 3) → true = A := fun h h' => H2.out j hp h h'
          obtain ⟨m, hm⟩ : ∃ m, m = Z[j].1 := ⟨_, rfl⟩
          rw [← hm] at b0 hgo hhit
          clear hm b1
          cases t1 : (m == n) with
          | false =>
            have HN := Lib.hid (hgo (fun h => by rw [beq_eq_false_iff_ne] at t1; exact absurd h t1))
            clear hgo hhit
            go_wp2
            all_goals first
              | (refine ⟨⟨j + 1, by go_num, by omega, HN.out, by first | rfl | trivial⟩, ?_⟩; simp [intOf]; omega)
              | (exfalso; rename_i hu _; simp [undef] at hu; done)
          | true =>
            have t1' : m = n := by simpa using t1
            cases t2 : ((j : Int) == c) with
            | true =>
              have HN := Lib.hid (hhit t1' (.inl (by simpa using t2)))
              clear hgo hhit t1'
              go_wp2
              go_ret
              exact ⟨ret_bool HN.out, HW1.out⟩
            | false =>
              cases t3 : (k == 3) with
              | true =>
                have HN := Lib.hid (hhit t1' (.inr (by simpa using t3)))
                clear hgo hhit t1'
                go_wp2
                go_ret
                exact ⟨ret_bool HN.out, HW1.out⟩
              | false =>
                have HN := Lib.hid (hgo (fun _ => ⟨by rw [beq_eq_false_iff_ne] at t2; exact t2, by rw [beq_eq_false_iff_ne] at t3; exact t3⟩))
                clear hgo hhit t1'
                go_wp2
                refine ⟨⟨j + 1, by go_num, by omega, HN.out, by first | rfl | trivial⟩, ?_⟩
                simp [intOf]; omega
        · have HN := Lib.hid (H3.out fun b hb => HS.out b hb (by omega))
          go_wp2
          go_ret
          exact ⟨ret_bool HN.out, HW1.out⟩

end Go.Proofs.Ytlmogkhgangmgaa.Shape
