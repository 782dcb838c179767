/-
  Sets of nodes, plain: a number's bits, its members as a list, the set of a list.
-/
namespace Go.Proofs.YtgneleembnchfaaDoor.Node
set_option linter.unusedVariables false

/-- How many of the k lowest bits are set. -/
def ones : Nat → Nat → Nat
  | 0, _ => 0
  | k + 1, x => x % 2 + ones k (x / 2)

/-- The places, from n on, of the k lowest bits that are set. -/
def memF : Nat → Nat → Nat → List Nat
  | 0, _, _ => []
  | k + 1, n, s => if s % 2 = 1 then n :: memF k (n + 1) (s / 2) else memF k (n + 1) (s / 2)

/-- The members. -/
def mem (s : Nat) : List Nat := memF 64 0 s

/-- The set of a list. -/
def setOf (l : List Nat) : Nat := l.foldr (fun n s => s ||| 2 ^ n) 0

theorem memF_length : ∀ k n s, (memF k n s).length = ones k s
  | 0, _, _ => rfl
  | k + 1, n, s => by
    unfold memF ones
    have h := memF_length k (n + 1) (s / 2)
    split
    · rename_i h1; simp [h, h1]; omega
    · rename_i h1; have : s % 2 = 0 := by omega
      simp [h, this]

theorem tb_succ (s i : Nat) : s.testBit (i + 1) = (s / 2).testBit i := by rw [Nat.testBit_succ]
theorem tb_zero (s : Nat) : s.testBit 0 = decide (s % 2 = 1) := by rw [Nat.testBit_zero]

theorem mem_memF : ∀ k n s i, i ∈ memF k n s ↔ n ≤ i ∧ i < n + k ∧ s.testBit (i - n) = true
  | 0, n, s, i => by simp [memF]; omega
  | k + 1, n, s, i => by
    have h := mem_memF k (n + 1) (s / 2) i
    have hr : i ∈ memF (k + 1) n s ↔ (s % 2 = 1 ∧ i = n) ∨ i ∈ memF k (n + 1) (s / 2) := by
      conv => lhs; unfold memF
      split
      · rename_i h1; simp [h1]
      · rename_i h1; simp [h1]
    rw [hr, h]
    by_cases hi : i = n
    · subst hi
      rw [Nat.sub_self, tb_zero]
      constructor
      · rintro (⟨h1, _⟩ | ⟨h1, _⟩)
        · exact ⟨by omega, by omega, by simpa using h1⟩
        · omega
      · rintro ⟨_, _, h3⟩
        exact .inl ⟨by simpa using h3, rfl⟩
    · constructor
      · rintro (⟨_, h1⟩ | ⟨h1, h2, h3⟩)
        · exact absurd h1 hi
        · refine ⟨by omega, by omega, ?_⟩
          rw [show i - n = (i - (n + 1)) + 1 by omega, tb_succ]; exact h3
      · rintro ⟨h1, h2, h3⟩
        refine .inr ⟨by omega, by omega, ?_⟩
        rw [show i - n = (i - (n + 1)) + 1 by omega, tb_succ] at h3; exact h3

theorem memF_sorted : ∀ k n s, (memF k n s).Pairwise (· < ·)
  | 0, _, _ => List.Pairwise.nil
  | k + 1, n, s => by
    unfold memF
    have h := memF_sorted k (n + 1) (s / 2)
    split
    · refine List.pairwise_cons.2 ⟨fun j hj => ?_, h⟩
      have := ((mem_memF k (n + 1) (s / 2) j).1 hj).1
      omega
    · exact h

theorem mem_mem (s i : Nat) : i ∈ mem s ↔ i < 64 ∧ s.testBit i = true := by
  unfold mem; rw [mem_memF]; simp
theorem mem_sorted (s : Nat) : (mem s).Pairwise (· < ·) := memF_sorted _ _ _
theorem mem_length (s : Nat) : (mem s).length = ones 64 s := memF_length _ _ _

theorem ones_le : ∀ k s, ones k s ≤ k
  | 0, _ => Nat.le_refl _
  | k + 1, s => by unfold ones; have := ones_le k (s / 2); omega
theorem mem_length_le (s : Nat) : (mem s).length ≤ 64 := by rw [mem_length]; exact ones_le _ _

theorem tb_setOf : ∀ (l : List Nat) (i : Nat), (setOf l).testBit i = decide (i ∈ l)
  | [], i => by simp [setOf]
  | n :: l, i => by
    have h := tb_setOf l i
    show (setOf l ||| 2 ^ n).testBit i = _
    rw [Nat.testBit_or, h, Nat.testBit_two_pow]
    by_cases hi : i = n
    · subst hi; simp
    · have : n ≠ i := fun e => hi e.symm
      simp [hi, this]

theorem setOf_lt (l : List Nat) (h : ∀ n ∈ l, n < 64) : setOf l < 18446744073709551616 := by
  have : setOf l < 2 ^ 64 := by
    apply Nat.lt_pow_two_of_testBit
    intro i hi
    rw [tb_setOf]
    simp
    intro hm
    have := h i hm
    omega
  simpa using this

theorem tb_high (s i : Nat) (h : s < 18446744073709551616) (hi : 64 ≤ i) : s.testBit i = false := by
  apply Nat.testBit_lt_two_pow
  exact Nat.lt_of_lt_of_le (show s < 2 ^ 64 by simpa using h) (Nat.pow_le_pow_right (by decide) hi)

/-- Two sets with the same members are one. -/
theorem set_ext (a b : Nat) (ha : a < 18446744073709551616) (hb : b < 18446744073709551616) (h : ∀ i, i < 64 → a.testBit i = b.testBit i) : a = b := by
  apply Nat.eq_of_testBit_eq
  intro i
  by_cases hi : i < 64
  · exact h i hi
  · rw [tb_high a i ha (by omega), tb_high b i hb (by omega)]

theorem setOf_mem (s : Nat) (h : s < 18446744073709551616) : setOf (mem s) = s := by
  refine set_ext _ _ (setOf_lt _ fun n hn => ((mem_mem s n).1 hn).1) h fun i hi => ?_
  rw [tb_setOf]
  by_cases hb : s.testBit i = true
  · rw [hb, decide_eq_true ((mem_mem s i).2 ⟨hi, hb⟩)]
  · rw [Bool.not_eq_true] at hb
    rw [hb]; simp; intro hm; have := ((mem_mem s i).1 hm).2; rw [hb] at this; cases this

/-- Sorted lists with the same members are one. -/
theorem sorted_ext : ∀ (l m : List Nat), l.Pairwise (· < ·) → m.Pairwise (· < ·) → (∀ i, i ∈ l ↔ i ∈ m) → l = m
  | [], [], _, _, _ => rfl
  | [], b :: m, _, _, h => by have := (h b).2 (by simp); simp at this
  | a :: l, [], _, _, h => by have := (h a).1 (by simp); simp at this
  | a :: l, b :: m, hl, hm, h => by
    obtain ⟨hl1, hl2⟩ := List.pairwise_cons.1 hl
    obtain ⟨hm1, hm2⟩ := List.pairwise_cons.1 hm
    have e : a = b := by
      have h1 : a ∈ b :: m := (h a).1 (by simp)
      have h2 : b ∈ a :: l := (h b).2 (by simp)
      rcases List.mem_cons.1 h1 with h1 | h1
      · exact h1
      · rcases List.mem_cons.1 h2 with h2 | h2
        · exact h2.symm
        · have := hl1 b h2; have := hm1 a h1; omega
    subst e
    rw [sorted_ext l m hl2 hm2 fun i => ?_]
    constructor
    · intro hi
      rcases List.mem_cons.1 ((h i).1 (List.mem_cons_of_mem _ hi)) with h1 | h1
      · have := hl1 i hi; omega
      · exact h1
    · intro hi
      rcases List.mem_cons.1 ((h i).2 (List.mem_cons_of_mem _ hi)) with h1 | h1
      · have := hm1 i hi; omega
      · exact h1

theorem mem_setOf (l : List Nat) (hs : l.Pairwise (· < ·)) (h : ∀ n ∈ l, n < 64) : mem (setOf l) = l := by
  refine sorted_ext _ _ (mem_sorted _) hs fun i => ?_
  rw [mem_mem, tb_setOf]
  simp
  exact fun hi => h i hi

/-! Is a number a member? -/

def hasB (s : Nat) (n : Int) : Bool := decide (0 ≤ n ∧ n < 64) && s.testBit n.toNat

theorem hasB_iff (s : Nat) (n : Int) : hasB s n = true ↔ 0 ≤ n ∧ n.toNat ∈ mem s := by
  unfold hasB
  rw [mem_mem, Bool.and_eq_true, decide_eq_true_eq]
  constructor
  · rintro ⟨⟨h1, h2⟩, h3⟩
    exact ⟨h1, by omega, h3⟩
  · rintro ⟨h1, h2, h3⟩
    exact ⟨⟨h1, by omega⟩, h3⟩

theorem tb_div (s n : Nat) : s.testBit n = decide (s / 2 ^ n % 2 = 1) := Nat.testBit_eq_decide_div_mod_eq

/-! A member more. -/

theorem or_tb (s n i : Nat) : (s ||| 2 ^ n).testBit i = (s.testBit i || decide (n = i)) := by
  rw [Nat.testBit_or, Nat.testBit_two_pow]

theorem setOf_snoc (l : List Nat) (n : Nat) : setOf (l ++ [n]) = setOf l ||| 2 ^ n := by
  apply Nat.eq_of_testBit_eq
  intro i
  rw [tb_setOf, or_tb, tb_setOf]
  simp only [List.mem_append, List.mem_singleton, Bool.decide_or]
  congr 1
  by_cases h : i = n
  · subst h; simp
  · have : ¬ n = i := fun e => h e.symm
    simp [h, this]

theorem add_bit (s n : Nat) (h : s.testBit n = false) : s + 2 ^ n = s ||| 2 ^ n := by
  have hr : s % 2 ^ (n + 1) = s % 2 ^ n := by
    apply Nat.eq_of_testBit_eq
    intro i
    rw [Nat.testBit_mod_two_pow, Nat.testBit_mod_two_pow]
    by_cases he : i = n
    · subst he; rw [h]; simp
    · have e : decide (i < n + 1) = decide (i < n) := by rw [decide_eq_decide]; omega
      rw [e]
  have hd := Nat.div_add_mod s (2 ^ (n + 1))
  rw [hr] at hd
  obtain ⟨q, hq⟩ : ∃ q, q = s / 2 ^ (n + 1) := ⟨_, rfl⟩
  obtain ⟨r, hr2⟩ : ∃ r, r = s % 2 ^ n := ⟨_, rfl⟩
  rw [← hq, ← hr2] at hd
  have hp : 0 < 2 ^ n := Nat.two_pow_pos n
  have hrl : r < 2 ^ n := by rw [hr2]; exact Nat.mod_lt _ hp
  have h2 : 2 ^ (n + 1) = 2 * 2 ^ n := by rw [Nat.pow_succ]; omega
  apply Nat.eq_of_testBit_eq
  intro i
  rw [or_tb, ← hd]
  have e : 2 ^ (n + 1) * q + r + 2 ^ n = 2 ^ (n + 1) * q + (2 ^ n * 1 + r) := by omega
  rw [e, Nat.testBit_two_pow_mul_add _ (show 2 ^ n * 1 + r < 2 ^ (n + 1) by omega), Nat.testBit_two_pow_mul_add _ (show r < 2 ^ (n + 1) by omega)]
  by_cases hi : i < n + 1
  · simp only [hi, if_true]
    rw [Nat.testBit_two_pow_mul_add _ hrl]
    by_cases he : n = i
    · subst he; simp
    · have : i < n := by omega
      simp [this, he]
  · have : ¬ n = i := by omega
    simp [hi, this]

/-- The sets of lists that may be: each from 0 to 63, none twice. -/
def good (l : List Int) : Prop := (∀ x ∈ l, 0 ≤ x ∧ x < 64) ∧ l.Nodup
instance (l : List Int) : Decidable (good l) := by unfold good; infer_instance

def nats (l : List Int) : List Nat := l.map Int.toNat

theorem good_snoc (l : List Int) (x : Int) : good (l ++ [x]) ↔ good l ∧ (0 ≤ x ∧ x < 64) ∧ x ∉ l := by
  unfold good
  rw [List.nodup_append]
  constructor
  · rintro ⟨h1, h2, _, h3⟩
    exact ⟨⟨fun y hy => h1 y (by simp [hy]), h2⟩, h1 _ (by simp), fun hm => h3 _ hm x (by simp) rfl⟩
  · rintro ⟨⟨h1, h2⟩, h3, h4⟩
    refine ⟨?_, h2, by simp, ?_⟩
    · intro y hy
      rcases List.mem_append.1 hy with hy | hy
      · exact h1 y hy
      · rw [List.mem_singleton.1 hy]; exact h3
    · intro a ha b hb e
      rw [List.mem_singleton.1 hb] at e
      exact h4 (e ▸ ha)

theorem take_snoc {α : Type} (l : List α) (k : Nat) (h : k < l.length) : l.take (k + 1) = l.take k ++ [l[k]] := by
  rw [List.take_add_one, List.getElem?_eq_getElem h]; rfl

theorem good_take_succ (l : List Int) (k : Nat) (h : k < l.length) : good (l.take (k + 1)) ↔ good (l.take k) ∧ (0 ≤ l[k] ∧ l[k] < 64) ∧ l[k] ∉ l.take k := by
  rw [take_snoc l k h]; exact good_snoc _ _

theorem good_take (l : List Int) (k : Nat) (h : good l) : good (l.take k) :=
  ⟨fun x hx => h.1 x (List.mem_of_mem_take hx), h.2.sublist (List.take_sublist _ _)⟩

theorem nats_lt {l : List Int} (h : ∀ x ∈ l, 0 ≤ x ∧ x < 64) : ∀ n ∈ nats l, n < 64 := by
  intro n hn
  obtain ⟨x, hx, rfl⟩ := List.mem_map.1 hn
  have := h x hx
  omega

theorem mem_nats {l : List Int} (h : ∀ x ∈ l, 0 ≤ x ∧ x < 64) (y : Int) (hy : 0 ≤ y) : y.toNat ∈ nats l ↔ y ∈ l := by
  constructor
  · intro hm
    obtain ⟨x, hx, e⟩ := List.mem_map.1 hm
    have := h x hx
    have : x = y := by omega
    exact this ▸ hx
  · intro hm
    exact List.mem_map.2 ⟨y, hm, rfl⟩

theorem has_nats {l : List Int} (h : ∀ x ∈ l, 0 ≤ x ∧ x < 64) (y : Int) (hy : 0 ≤ y ∧ y < 64) : hasB (setOf (nats l)) y = decide (y ∈ l) := by
  unfold hasB
  rw [decide_eq_true hy, Bool.true_and, tb_setOf]
  have := mem_nats h y hy.1
  rw [Bool.eq_iff_iff]
  simp [this]

theorem nats_take_succ (l : List Int) (k : Nat) (h : k < l.length) : nats (l.take (k + 1)) = nats (l.take k) ++ [l[k].toNat] := by
  rw [take_snoc l k h]; simp only [nats, List.map_append, List.map_cons, List.map_nil]

/-! The lowest members: those that are left without them. -/

theorem low_bit (a : Nat) (l : List Nat) (h : ∀ x ∈ l, a < x) : setOf (a :: l) &&& (setOf (a :: l) - 1) = setOf l := by
  obtain ⟨u, hu⟩ : ∃ u, u = setOf l / 2 ^ (a + 1) := ⟨_, rfl⟩
  have hl : setOf l = 2 ^ (a + 1) * u := by
    have h0 : setOf l % 2 ^ (a + 1) = 0 := by
      apply Nat.eq_of_testBit_eq
      intro i
      rw [Nat.testBit_mod_two_pow, tb_setOf, Nat.zero_testBit]
      by_cases hi : i < a + 1
      · have : i ∉ l := fun hm => by have := h i hm; omega
        simp [this]
      · simp [hi]
    have := Nat.div_add_mod (setOf l) (2 ^ (a + 1))
    rw [h0, ← hu] at this
    omega
  have hs : setOf (a :: l) = 2 ^ (a + 1) * u + 2 ^ a := by
    show setOf l ||| 2 ^ a = _
    have hb : (setOf l).testBit a = false := by
      rw [tb_setOf]; simp; intro hm; have := h a hm; omega
    rw [← add_bit _ _ hb, hl]
  have hp : 0 < 2 ^ a := Nat.two_pow_pos a
  have hlt : 2 ^ a < 2 ^ (a + 1) := Nat.pow_lt_pow_right (by decide) (by omega)
  have hm1 : setOf (a :: l) - 1 = 2 ^ (a + 1) * u + (2 ^ a - 1) := by rw [hs]; omega
  rw [hm1, hs, hl]
  apply Nat.eq_of_testBit_eq
  intro i
  rw [Nat.testBit_and, Nat.testBit_two_pow_mul_add _ hlt, Nat.testBit_two_pow_mul_add _ (by omega)]
  have h00 : 2 ^ (a + 1) * u = 2 ^ (a + 1) * u + 0 := rfl
  rw [h00, Nat.testBit_two_pow_mul_add _ (Nat.two_pow_pos _)]
  by_cases hi : i < a + 1
  · simp only [hi, if_true, Nat.testBit_two_pow, Nat.testBit_two_pow_sub_one, Nat.zero_testBit]
    by_cases he : a = i
    · subst he; simp
    · simp [he]
  · simp [hi]

/-- What is left of a set without others. -/
theorem tb_not (x i : Nat) (h : x < 18446744073709551616) : (18446744073709551615 - x).testBit i = (decide (i < 64) && !x.testBit i) := by
  have := Nat.testBit_two_pow_sub_succ (n := 64) (x := x) (by simpa using h) i
  rw [show 2 ^ 64 - (x + 1) = 18446744073709551615 - x by omega] at this
  exact this

theorem take_minus (s k : Nat) (h : s < 18446744073709551616) : s &&& (18446744073709551615 - setOf ((mem s).drop k)) = setOf ((mem s).take k) := by
  have hd : ∀ n ∈ (mem s).drop k, n < 64 := fun n hn => ((mem_mem s n).1 (List.mem_of_mem_drop hn)).1
  have ht : ∀ n ∈ (mem s).take k, n < 64 := fun n hn => ((mem_mem s n).1 (List.mem_of_mem_take hn)).1
  refine set_ext _ _ (Nat.lt_of_le_of_lt Nat.and_le_left h) (setOf_lt _ ht) fun i hi => ?_
  rw [Nat.testBit_and, tb_not _ _ (setOf_lt _ hd), tb_setOf, tb_setOf, decide_eq_true hi, Bool.true_and]
  have hs := mem_sorted s
  rw [← List.take_append_drop k (mem s), List.pairwise_append] at hs
  by_cases hb : s.testBit i = true
  · have hm : i ∈ mem s := (mem_mem s i).2 ⟨hi, hb⟩
    rw [← List.take_append_drop k (mem s), List.mem_append] at hm
    rw [hb, Bool.true_and]
    rcases hm with hm | hm
    · have : i ∉ (mem s).drop k := fun h2 => by have := hs.2.2 i hm i h2; omega
      simp [hm, this]
    · have : i ∉ (mem s).take k := fun h2 => by have := hs.2.2 i h2 i hm; omega
      simp [hm, this]
  · rw [Bool.not_eq_true] at hb
    have : i ∉ (mem s).take k := fun h2 => by
      have := ((mem_mem s i).1 (List.mem_of_mem_take h2)).2
      rw [hb] at this; cases this
    simp [hb, this]

theorem drop_minus (s k : Nat) (h : s < 18446744073709551616) : s &&& (18446744073709551615 - setOf ((mem s).take k)) = setOf ((mem s).drop k) := by
  have hd : ∀ n ∈ (mem s).drop k, n < 64 := fun n hn => ((mem_mem s n).1 (List.mem_of_mem_drop hn)).1
  have ht : ∀ n ∈ (mem s).take k, n < 64 := fun n hn => ((mem_mem s n).1 (List.mem_of_mem_take hn)).1
  refine set_ext _ _ (Nat.lt_of_le_of_lt Nat.and_le_left h) (setOf_lt _ hd) fun i hi => ?_
  rw [Nat.testBit_and, tb_not _ _ (setOf_lt _ ht), tb_setOf, tb_setOf, decide_eq_true hi, Bool.true_and]
  have hs := mem_sorted s
  rw [← List.take_append_drop k (mem s), List.pairwise_append] at hs
  by_cases hb : s.testBit i = true
  · have hm : i ∈ mem s := (mem_mem s i).2 ⟨hi, hb⟩
    rw [← List.take_append_drop k (mem s), List.mem_append] at hm
    rw [hb, Bool.true_and]
    rcases hm with hm | hm
    · have : i ∉ (mem s).drop k := fun h2 => by have := hs.2.2 i hm i h2; omega
      simp [hm, this]
    · have : i ∉ (mem s).take k := fun h2 => by have := hs.2.2 i h2 i hm; omega
      simp [hm, this]
  · rw [Bool.not_eq_true] at hb
    have : i ∉ (mem s).drop k := fun h2 => by
      have := ((mem_mem s i).1 (List.mem_of_mem_drop h2)).2
      rw [hb] at this; cases this
    simp [hb, this]

/-! The list, place by place. -/

theorem memF_snoc : ∀ k n s, memF (k + 1) n s = memF k n s ++ (if s.testBit k = true then [n + k] else [])
  | 0, n, s => by
    unfold memF memF
    rw [tb_zero]
    split
    · rename_i h; simp [h]
    · rename_i h; simp [h]
  | k + 1, n, s => by
    have h := memF_snoc k (n + 1) (s / 2)
    rw [← tb_succ, show n + 1 + k = n + (k + 1) by omega] at h
    have e : ∀ j m x, memF (j + 1) m x = (if x % 2 = 1 then [m] else []) ++ memF j (m + 1) (x / 2) := by
      intro j m x
      conv => lhs; unfold memF
      split <;> rfl
    rw [e (k + 1) n s, h, e k n s, List.append_assoc]

/-- The members below k. -/
def below (k s : Nat) : List Nat := memF k 0 s
theorem below_succ (k s : Nat) : below (k + 1) s = below k s ++ (if s.testBit k = true then [k] else []) := by
  unfold below; rw [memF_snoc, Nat.zero_add]
theorem below_on (k s : Nat) (h : s.testBit k = true) : below (k + 1) s = below k s ++ [k] := by rw [below_succ, if_pos h]
theorem below_off (k s : Nat) (h : s.testBit k = false) : below (k + 1) s = below k s := by rw [below_succ, if_neg (by rw [h]; decide), List.append_nil]
theorem below_all (s : Nat) : below 64 s = mem s := rfl
theorem below_length (k s : Nat) : (below k s).length ≤ k := by unfold below; rw [memF_length]; exact ones_le _ _
/-- Where nothing is left above, these are all. -/
theorem below_end (k s : Nat) (hk : k ≤ 64) (h : s / 2 ^ k = 0) : below k s = mem s := by
  have hb : ∀ j, k ≤ j → s.testBit j = false := by
    intro j hj
    apply Nat.testBit_lt_two_pow
    have : s < 2 ^ k := by
      rcases Nat.div_eq_zero_iff.1 h with h1 | h1
      · have := Nat.two_pow_pos k; omega
      · exact h1
    exact Nat.lt_of_lt_of_le this (Nat.pow_le_pow_right (by decide) hj)
  have : ∀ d, below (k + d) s = below k s := by
    intro d
    induction d with
    | zero => rfl
    | succ d ih => rw [← Nat.add_assoc, below_off _ _ (hb _ (by omega)), ih]
  have h2 := this (64 - k)
  rw [show k + (64 - k) = 64 by omega, below_all] at h2
  exact h2.symm

/-- As whole numbers. -/
def ints (l : List Nat) : List Int := l.map Int.ofNat
theorem ints_length (l : List Nat) : (ints l).length = l.length := List.length_map _
theorem ints_append (a b : List Nat) : ints (a ++ b) = ints a ++ ints b := List.map_append
theorem ints_one (n : Nat) : ints [n] = [(n : Int)] := rfl
theorem nats_ints (l : List Nat) : nats (ints l) = l := by
  unfold nats ints
  rw [List.map_map]
  conv => rhs; rw [← List.map_id l]
  rfl
theorem good_ints (l : List Nat) (hs : l.Pairwise (· < ·)) (h : ∀ n ∈ l, n < 64) : good (ints l) := by
  constructor
  · intro x hx
    obtain ⟨n, hn, rfl⟩ := List.mem_map.1 hx
    have := h n hn
    simp only [Int.ofNat_eq_natCast]
    omega
  · unfold ints
    rw [List.Nodup, List.pairwise_map]
    exact hs.imp (by intro a b hab e; simp at e; omega)

/-! What Of, Lowest, Highest tell. -/

def ofS (l : List Int) : Nat := if good l then setOf (nats l) else 0
def ofE (l : List Int) : Int := if good l then 0 else 90
def soMany (S : Nat) (n : Int) : Bool := decide (0 ≤ n ∧ n ≤ ((mem S).length : Int))
def lowS (S : Nat) (n : Int) : Nat := if soMany S n = true then setOf ((mem S).take n.toNat) else 0
def highS (S : Nat) (n : Int) : Nat := if soMany S n = true then setOf ((mem S).drop ((mem S).length - n.toNat)) else 0

theorem mem_lt (s n : Nat) (h : n ∈ mem s) : n < 64 := ((mem_mem s n).1 h).1
theorem take_lt (s k : Nat) : setOf ((mem s).take k) < 18446744073709551616 := setOf_lt _ fun n hn => mem_lt s n (List.mem_of_mem_take hn)
theorem drop_lt (s k : Nat) : setOf ((mem s).drop k) < 18446744073709551616 := setOf_lt _ fun n hn => mem_lt s n (List.mem_of_mem_drop hn)
theorem lowS_lt (S : Nat) (n : Int) : lowS S n < 18446744073709551616 := by unfold lowS; split; exact take_lt _ _; decide
theorem highS_lt (S : Nat) (n : Int) : highS S n < 18446744073709551616 := by unfold highS; split; exact drop_lt _ _; decide
theorem ofS_lt (l : List Int) : ofS l < 18446744073709551616 := by
  unfold ofS; split
  · rename_i h; exact setOf_lt _ (nats_lt h.1)
  · decide

theorem low_step (S k : Nat) (h : k < (mem S).length) : setOf ((mem S).drop k) &&& (setOf ((mem S).drop k) - 1) = setOf ((mem S).drop (k + 1)) ∧ 1 ≤ setOf ((mem S).drop k) := by
  have hs := mem_sorted S
  have hs : ((mem S).drop k).Pairwise (· < ·) := hs.sublist (List.drop_sublist _ _)
  rw [List.drop_eq_getElem_cons h] at hs ⊢
  refine ⟨low_bit _ _ (List.pairwise_cons.1 hs).1, ?_⟩
  have : (setOf ((mem S)[k] :: (mem S).drop (k + 1))).testBit (mem S)[k] = true := by rw [tb_setOf]; exact decide_eq_true (List.mem_cons_self)
  rcases Nat.eq_zero_or_pos (setOf ((mem S)[k] :: (mem S).drop (k + 1))) with h0 | h0
  · rw [h0, Nat.zero_testBit] at this; cases this
  · exact h0

end Go.Proofs.YtgneleembnchfaaDoor.Node
