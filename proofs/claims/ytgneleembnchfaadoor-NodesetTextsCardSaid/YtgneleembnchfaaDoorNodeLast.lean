/-
  What the statements ask of a set's parts and texts: plain.
-/
import Derived.Test.YtgneleembnchfaaDoorNodeText
namespace Go.Proofs.YtgneleembnchfaaDoor.Node
set_option linter.unusedVariables false
set_option linter.unusedSimpArgs false

theorem runs_length : ∀ l : List Nat, (runs l).length ≤ l.length
  | [] => by simp [runs]
  | a :: l => by
    have ih := runs_length l
    unfold runs
    split
    · rename_i b c r hr
      rw [hr] at ih
      split
      · simp at ih ⊢; omega
      · simp at ih ⊢; omega
    · simp
theorem runT_length (r : Nat × Nat) : (runT r).length ≤ 5 := by
  unfold runT endT
  have h1 := dec_length r.1
  have h2 := dec_length r.2
  split
  · simp; omega
  · simp; omega
theorem tailT_length : ∀ rs : List (Nat × Nat), (tailT rs).length ≤ 6 * rs.length
  | [] => by simp [tailT]
  | r :: rs => by
    have h1 := runT_length r
    have h2 := tailT_length rs
    simp [tailT]; omega
theorem show_length (s : Nat) : (showT (mem s)).length ≤ 1000 := by
  have h1 := runs_length (mem s)
  have h2 := mem_length_le s
  unfold showT
  split
  · simp
  · cases hr : runs (mem s) with
    | nil => simp [joinT]
    | cons r rs =>
      have h3 := runT_length r
      have h4 := tailT_length rs
      rw [hr] at h1
      simp [joinT] at h1 ⊢; omega

theorem back_of (S : Nat) (h : S < 18446744073709551616) : ofS (ints (mem S)) = S ∧ ofE (ints (mem S)) = 0 := by
  have hg := good_ints (mem S) (mem_sorted S) (fun n hn => mem_lt S n hn)
  unfold ofS ofE
  rw [if_pos hg, if_pos hg, nats_ints, setOf_mem S h]
  exact ⟨rfl, rfl⟩

theorem split_pair (s n : Nat) : ∀ i, i ∈ mem s ↔ i ∈ (mem s).take n ∨ i ∈ (mem s).drop n := by
  intro i
  rw [← List.mem_append, List.take_append_drop]
theorem split_apart (s n : Nat) : ∀ i ∈ (mem s).take n, ∀ j ∈ (mem s).drop n, i < j := by
  have hs := mem_sorted s
  rw [← List.take_append_drop n (mem s), List.pairwise_append] at hs
  exact hs.2.2

theorem parts_and (s n : Nat) : setOf ((mem s).take n) &&& setOf ((mem s).drop n) = 0 := by
  apply Nat.eq_of_testBit_eq
  intro i
  rw [Nat.testBit_and, tb_setOf, tb_setOf, Nat.zero_testBit]
  by_cases h1 : i ∈ (mem s).take n
  · have : i ∉ (mem s).drop n := fun h2 => by have := split_apart s n i h1 i h2; omega
    simp [this]
  · simp [h1]
theorem parts_or (s n : Nat) (h : s < 18446744073709551616) : setOf ((mem s).take n) ||| setOf ((mem s).drop n) = s := by
  conv => rhs; rw [← setOf_mem s h]
  apply Nat.eq_of_testBit_eq
  intro i
  rw [Nat.testBit_or, tb_setOf, tb_setOf, tb_setOf, Bool.eq_iff_iff]
  have := split_pair s n i
  simp [this]
theorem parts_count (s n : Nat) (h : n ≤ (mem s).length) : (mem (setOf ((mem s).take n))).length = n := by
  rw [mem_setOf _ ((mem_sorted s).sublist (List.take_sublist _ _)) (fun k hk => mem_lt s k (List.mem_of_mem_take hk)), List.length_take]
  omega

/-- The lowest bit alone. -/
theorem neg_bit (b : Nat) (l : List Nat) (h : ∀ x ∈ l, b < x) (hb : b < 64) (hl : setOf (b :: l) < 18446744073709551616) : setOf (b :: l) &&& (18446744073709551616 - setOf (b :: l)) = 2 ^ b := by
  obtain ⟨u, hu⟩ : ∃ u, u = setOf l / 2 ^ (b + 1) := ⟨_, rfl⟩
  have h1 : setOf l = 2 ^ (b + 1) * u := by
    have h0 : setOf l % 2 ^ (b + 1) = 0 := by
      apply Nat.eq_of_testBit_eq
      intro i
      rw [Nat.testBit_mod_two_pow, tb_setOf, Nat.zero_testBit]
      by_cases hi : i < b + 1
      · have : i ∉ l := fun hm => by have := h i hm; omega
        simp [this]
      · simp [hi]
    have := Nat.div_add_mod (setOf l) (2 ^ (b + 1))
    rw [h0, ← hu] at this
    omega
  have hs : setOf (b :: l) = 2 ^ (b + 1) * u + 2 ^ b := by
    show setOf l ||| 2 ^ b = _
    have hbt : (setOf l).testBit b = false := by
      rw [tb_setOf]; simp; intro hm; have := h b hm; omega
    rw [← add_bit _ _ hbt, h1]
  have hp : 0 < 2 ^ b := Nat.two_pow_pos b
  have hlt : 2 ^ b < 2 ^ (b + 1) := Nat.pow_lt_pow_right (by decide) (by omega)
  rw [hs] at hl ⊢
  have e : 18446744073709551616 - (2 ^ (b + 1) * u + 2 ^ b) = 18446744073709551615 - (2 ^ (b + 1) * u + (2 ^ b - 1)) := by omega
  rw [e]
  apply Nat.eq_of_testBit_eq
  intro i
  rw [Nat.testBit_and, tb_not _ _ (by omega), Nat.testBit_two_pow_mul_add _ hlt, Nat.testBit_two_pow_mul_add _ (by omega)]
  simp only [Nat.testBit_two_pow, Nat.testBit_two_pow_sub_one]
  by_cases hi : i < b + 1
  · simp only [hi, if_true]
    by_cases he : b = i
    · subst he; simp [hb]
    · simp [he]
  · have : ¬ b = i := by omega
    simp only [hi, if_false, this, decide_false]
    cases u.testBit (i - (b + 1)) <;> simp

theorem parts_below (s n : Nat) (h : setOf ((mem s).drop n) ≠ 0) :
    setOf ((mem s).take n) < setOf ((mem s).drop n) &&& (18446744073709551616 - setOf ((mem s).drop n)) := by
  have hd := drop_lt s n
  have ha := split_apart s n
  have hso : ((mem s).drop n).Pairwise (· < ·) := (mem_sorted s).sublist (List.drop_sublist _ _)
  have h64 : ∀ x ∈ (mem s).drop n, x < 64 := fun x hx => mem_lt s x (List.mem_of_mem_drop hx)
  cases hr : (mem s).drop n with
  | nil => rw [hr] at h; exact absurd rfl h
  | cons b l =>
    rw [hr] at hd ha hso h64
    rw [neg_bit b l (List.pairwise_cons.1 hso).1 (h64 b (by simp)) hd]
    apply Nat.lt_pow_two_of_testBit
    intro i hi
    rw [tb_setOf]
    simp
    intro hm
    have := ha i hm b (by simp)
    omega

end Go.Proofs.YtgneleembnchfaaDoor.Node
