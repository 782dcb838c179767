/-
  Shapes, plain: what may be, the options, the least and the greatest size, other times.
-/
import Derived.Lib.Hide
namespace Go.Proofs.Ytlmogkhgangmgaa.Shape
set_option linter.unusedVariables false
set_option linter.unusedSimpArgs false

abbrev Alt := Int × Int
/-- is n from lo to hi? -/
def frB (n lo hi : Int) : Bool := decide (lo ≤ n) && decide (n ≤ hi)
def sizeB (n : Int) : Bool := frB n 1 48
def wallB (n : Int) : Bool := frB n 1 100000
theorem frB_iff (n lo hi : Int) : frB n lo hi = true ↔ lo ≤ n ∧ n ≤ hi := by simp [frB]
theorem frB_not (n lo hi : Int) : frB n lo hi = false ↔ ¬ (lo ≤ n ∧ n ≤ hi) := by rw [← frB_iff]; simp
theorem sizeB_iff (n : Int) : sizeB n = true ↔ 1 ≤ n ∧ n ≤ 48 := frB_iff _ _ _
theorem wallB_iff (n : Int) : wallB n = true ↔ 1 ≤ n ∧ n ≤ 100000 := frB_iff _ _ _

def altOk (a : Alt) : Bool := sizeB a.1 && wallB a.2
/-- has one of them so many nodes? -/
def hasN (zs : List Alt) (x : Int) : Bool := zs.any fun b => b.1 == x
def goodB (zs : List Alt) : Bool := zs.all altOk && decide (zs.map Prod.fst).Nodup
def mayB (zs : List Alt) (most : Int) : Bool := frB zs.length 1 most && goodB zs
def spanB (mn mx wl : Int) : Bool := decide (mn ≠ 0) || decide (mx ≠ 0) || decide (wl ≠ 0)

theorem goodB_iff (zs : List Alt) : goodB zs = true ↔ (∀ i (h : i < zs.length), altOk zs[i] = true) ∧ ∀ i j (hi : i < zs.length) (hj : j < zs.length), i < j → zs[i].1 ≠ zs[j].1 := by
  unfold goodB
  rw [Bool.and_eq_true, List.all_eq_true, decide_eq_true_iff]
  unfold List.Nodup
  rw [List.pairwise_iff_getElem]
  constructor
  · rintro ⟨h1, h2⟩
    refine ⟨fun i h => h1 _ (List.getElem_mem h), fun i j hi hj hij => ?_⟩
    have := h2 i j (by simpa using hi) (by simpa using hj) hij
    simpa using this
  · rintro ⟨h1, h2⟩
    refine ⟨fun x hx => ?_, fun i j hi hj hij => ?_⟩
    · obtain ⟨i, hi, rfl⟩ := List.getElem_of_mem hx
      exact h1 i hi
    · simp only [List.length_map] at hi hj
      simpa using h2 i j hi hj hij

theorem hasN_take (zs : List Alt) (k : Nat) (x : Int) : hasN (zs.take k) x = false ↔ ∀ i (h : i < zs.length), i < k → zs[i].1 ≠ x := by
  unfold hasN
  rw [List.any_eq_false]
  constructor
  · intro h i hi hk
    have := h zs[i] (List.mem_take_iff_getElem.2 ⟨i, by omega, rfl⟩)
    simpa using this
  · intro h a ha
    obtain ⟨i, hi, rfl⟩ := List.mem_take_iff_getElem.1 ha
    have := h i (by omega) (by omega)
    simpa using this

/-- As the program asks: each one, and those ahead of it. -/
theorem goodB_steps (zs : List Alt) : goodB zs = true ↔ ∀ k (h : k < zs.length), altOk zs[k] = true ∧ hasN (zs.take k) zs[k].1 = false := by
  rw [goodB_iff]
  constructor
  · rintro ⟨h1, h2⟩ k hk
    exact ⟨h1 k hk, (hasN_take _ _ _).2 fun i hi hik => h2 i k hi hk hik⟩
  · intro h
    exact ⟨fun i hi => (h i hi).1, fun i j hi hj hij => (hasN_take _ _ _).1 (h j hj).2 i hi hij⟩

theorem goodB_no (zs : List Alt) (k : Nat) (h : k < zs.length) (hn : altOk zs[k] = false ∨ hasN (zs.take k) zs[k].1 = true) : goodB zs = false := by
  cases hg : goodB zs with
  | false => rfl
  | true =>
    have := (goodB_steps zs).1 hg k h
    rcases hn with hn | hn
    · rw [hn] at this; exact absurd this.1 (by simp)
    · rw [hn] at this; exact absurd this.2 (by simp)

def chkB (k : Int) (zs : List Alt) (mn mx wl : Int) : Bool :=
  if k = 1 then mayB zs 1 && !spanB mn mx wl
  else if k = 2 then mayB zs 6 && !spanB mn mx wl
  else if k = 3 then sizeB mn && sizeB mx && decide (mn ≤ mx) && wallB wl && decide ((zs.length : Int) = 0)
  else false
/-- Check's answer. -/
def chkE (k : Int) (zs : List Alt) (mn mx wl : Int) : Int := if chkB k zs mn mx wl then 0 else 70

def downL (mx mn wl : Int) : List Alt := (List.range (mx - mn + 1).toNat).map fun (i : Nat) => ((mx - (i : Int), wl) : Alt)
theorem downL_length (mx mn wl : Int) : (downL mx mn wl).length = (mx - mn + 1).toNat := by simp [downL]
theorem downL_at (mx mn wl : Int) (i : Nat) (h : i < (downL mx mn wl).length) : (downL mx mn wl)[i] = (mx - (i : Int), wl) := by simp [downL]
theorem downL_take (mx mn wl : Int) (i : Nat) (h : i < (mx - mn + 1).toNat) : (downL mx mn wl).take (i + 1) = (downL mx mn wl).take i ++ [(mx - (i : Int), wl)] := by
  have h' : i < (downL mx mn wl).length := by rw [downL_length]; exact h
  rw [List.take_succ_eq_append_getElem h', downL_at]

def optL (k : Int) (zs : List Alt) (mn mx wl : Int) : List Alt := if chkB k zs mn mx wl then (if k = 3 then downL mx mn wl else zs) else []

theorem mayB_iff (zs : List Alt) (m : Int) : mayB zs m = true ↔ (1 ≤ (zs.length : Int) ∧ (zs.length : Int) ≤ m) ∧ goodB zs = true := by
  unfold mayB; rw [Bool.and_eq_true, frB_iff]
theorem spanB_no (mn mx wl : Int) : (!spanB mn mx wl) = true ↔ mn = 0 ∧ mx = 0 ∧ wl = 0 := by
  unfold spanB; simp [and_assoc]

theorem chk3 {zs : List Alt} {mn mx wl : Int} : chkB 3 zs mn mx wl = true ↔ zs = [] ∧ 1 ≤ mn ∧ mx ≤ 48 ∧ mn ≤ mx ∧ 1 ≤ wl ∧ wl ≤ 100000 := by
  unfold chkB
  rw [if_neg (by decide), if_neg (by decide), if_pos rfl]
  simp only [Bool.and_eq_true, sizeB_iff, wallB_iff, decide_eq_true_iff]
  constructor
  · rintro ⟨⟨⟨⟨h1, h2⟩, h3⟩, h4⟩, h5⟩
    refine ⟨List.eq_nil_of_length_eq_zero (by omega), by omega, by omega, h3, h4.1, h4.2⟩
  · rintro ⟨rfl, h1, h2, h3, h4, h5⟩
    refine ⟨⟨⟨⟨?_, ?_⟩, h3⟩, ⟨h4, h5⟩⟩, by simp⟩ <;> omega
theorem chk_kinds {k : Int} {zs : List Alt} {mn mx wl : Int} (h : chkB k zs mn mx wl = true) : k = 1 ∨ k = 2 ∨ k = 3 := by
  unfold chkB at h
  by_cases h1 : k = 1
  · exact .inl h1
  · by_cases h2 : k = 2
    · exact .inr (.inl h2)
    · by_cases h3 : k = 3
      · exact .inr (.inr h3)
      · rw [if_neg h1, if_neg h2, if_neg h3] at h; exact absurd h (by simp)
/-- What may be, and is not malleable: one to six alternatives, all good, no span. -/
theorem chk12 {k : Int} {zs : List Alt} {mn mx wl : Int} (h : chkB k zs mn mx wl = true) (h3 : k ≠ 3) : (k = 1 ∨ k = 2) ∧ 1 ≤ zs.length ∧ zs.length ≤ 6 ∧ (k = 1 → zs.length ≤ 1) ∧ goodB zs = true ∧ mn = 0 ∧ mx = 0 ∧ wl = 0 := by
  rcases chk_kinds h with rfl | rfl | rfl
  · unfold chkB at h
    rw [if_pos rfl, Bool.and_eq_true, mayB_iff, spanB_no] at h
    refine ⟨.inl rfl, by omega, by omega, fun _ => by omega, h.1.2, h.2⟩
  · unfold chkB at h
    rw [if_neg (by decide), if_pos rfl, Bool.and_eq_true, mayB_iff, spanB_no] at h
    refine ⟨.inr rfl, by omega, by omega, (fun h => absurd h (by decide)), h.1.2, h.2⟩
  · exact absurd rfl h3

theorem optL_no {k : Int} {zs : List Alt} {mn mx wl : Int} (h : chkB k zs mn mx wl = false) : optL k zs mn mx wl = [] := by
  unfold optL; rw [h]; rfl
theorem optL_rows {k : Int} {zs : List Alt} {mn mx wl : Int} (h : chkB k zs mn mx wl = true) (h3 : k ≠ 3) : optL k zs mn mx wl = zs := by
  unfold optL; rw [h, if_pos rfl, if_neg h3]
theorem optL_down {zs : List Alt} {mn mx wl : Int} (h : chkB 3 zs mn mx wl = true) : optL 3 zs mn mx wl = downL mx mn wl := by
  unfold optL; rw [h, if_pos rfl, if_pos rfl]

/-- Each option may be; no two of one size; at most 48. -/
theorem optL_good (k : Int) (zs : List Alt) (mn mx wl : Int) : goodB (optL k zs mn mx wl) = true ∧ (optL k zs mn mx wl).length ≤ 48 := by
  cases h : chkB k zs mn mx wl with
  | false => rw [optL_no h]; exact ⟨by decide, by decide⟩
  | true =>
    by_cases h3 : k = 3
    · subst h3
      rw [optL_down h]
      have hc := chk3.1 h
      refine ⟨?_, by rw [downL_length]; omega⟩
      rw [goodB_iff]
      refine ⟨fun i hi => ?_, fun i j hi hj hij => ?_⟩
      · rw [downL_at]
        rw [downL_length] at hi
        unfold altOk
        rw [Bool.and_eq_true, sizeB_iff, wallB_iff]
        omega
      · rw [downL_at, downL_at]; dsimp only; omega
    · rw [optL_rows h h3]
      have hc := chk12 h h3
      exact ⟨hc.2.2.2.2.1, by omega⟩
theorem optL_pos {k : Int} {zs : List Alt} {mn mx wl : Int} (h : chkB k zs mn mx wl = true) : 1 ≤ (optL k zs mn mx wl).length := by
  by_cases h3 : k = 3
  · subst h3; rw [optL_down h, downL_length]; have := chk3.1 h; omega
  · rw [optL_rows h h3]; exact (chk12 h h3).2.1
theorem altOk_iff (a : Alt) : altOk a = true ↔ (1 ≤ a.1 ∧ a.1 ≤ 48) ∧ 1 ≤ a.2 ∧ a.2 ≤ 100000 := by
  unfold altOk; rw [Bool.and_eq_true, sizeB_iff, wallB_iff]
theorem good_mem {zs : List Alt} (h : goodB zs = true) {a : Alt} (ha : a ∈ zs) : (1 ≤ a.1 ∧ a.1 ≤ 48) ∧ 1 ≤ a.2 ∧ a.2 ≤ 100000 := by
  unfold goodB at h
  rw [Bool.and_eq_true, List.all_eq_true] at h
  exact (altOk_iff a).1 (h.1 a ha)

/-! The least, the greatest: gone on from what was best. -/

def stepN (pref : Int → Int → Bool) (b n : Int) : Int := if b = 0 then n else if pref n b then n else b
def bestN (pref : Int → Int → Bool) (zs : List Alt) : Int := zs.foldl (fun b a => stepN pref b a.1) 0
def lessB (n b : Int) : Bool := decide (n < b)
def moreB (n b : Int) : Bool := decide (b < n)
theorem bestN_nil (pref : Int → Int → Bool) : bestN pref [] = 0 := rfl
theorem bestN_snoc (pref : Int → Int → Bool) (zs : List Alt) (a : Alt) : bestN pref (zs ++ [a]) = stepN pref (bestN pref zs) a.1 := by
  unfold bestN; rw [List.foldl_append]; rfl
theorem bestN_take (pref : Int → Int → Bool) (zs : List Alt) (k : Nat) (h : k < zs.length) : bestN pref (zs.take (k + 1)) = stepN pref (bestN pref (zs.take k)) zs[k].1 := by
  rw [List.take_succ_eq_append_getElem h, bestN_snoc]

/-- Something is best, of nodes from 1 on. -/
theorem bestN_pos (pref : Int → Int → Bool) (zs : List Alt) (hg : ∀ a ∈ zs, 1 ≤ a.1) (k : Nat) (h : k < zs.length) : 1 ≤ bestN pref (zs.take (k + 1)) := by
  induction k with
  | zero =>
    rw [bestN_take _ _ _ h]
    simp only [List.take_zero, bestN_nil, stepN, if_pos]
    exact hg _ (List.getElem_mem h)
  | succ k ih =>
    rw [bestN_take _ _ _ h]
    have h1 := ih (by omega)
    have h2 := hg _ (List.getElem_mem h)
    unfold stepN
    split
    · exact h2
    · split
      · exact h2
      · exact h1

theorem least_le (zs : List Alt) (hg : ∀ a ∈ zs, 1 ≤ a.1) (k : Nat) (hk : k ≤ zs.length) : ∀ i (h : i < zs.length), i < k → bestN lessB (zs.take k) ≤ zs[i].1 := by
  induction k with
  | zero => intro i h h0; omega
  | succ k ih =>
    intro i h hik
    rw [bestN_take _ _ _ (by omega)]
    have hp : 0 < k → 1 ≤ bestN lessB (zs.take k) := fun h0 => by
      obtain ⟨j, rfl⟩ : ∃ j, k = j + 1 := ⟨k - 1, by omega⟩
      exact bestN_pos lessB zs hg j (by omega)
    unfold stepN
    by_cases he : i = k
    · subst he
      split
      · exact Int.le_refl _
      · split
        · exact Int.le_refl _
        · rename_i h1 h2; simp [lessB, moreB] at h2; exact h2
    · have h1 := ih (by omega) i h (by omega)
      have h2 := hp (by omega)
      rw [if_neg (by omega)]
      split
      · rename_i h3; simp [lessB, moreB] at h3; omega
      · exact h1
theorem le_most (zs : List Alt) (hg : ∀ a ∈ zs, 1 ≤ a.1) (k : Nat) (hk : k ≤ zs.length) : ∀ i (h : i < zs.length), i < k → zs[i].1 ≤ bestN moreB (zs.take k) := by
  induction k with
  | zero => intro i h h0; omega
  | succ k ih =>
    intro i h hik
    rw [bestN_take _ _ _ (by omega)]
    have hp : 0 < k → 1 ≤ bestN moreB (zs.take k) := fun h0 => by
      obtain ⟨j, rfl⟩ : ∃ j, k = j + 1 := ⟨k - 1, by omega⟩
      exact bestN_pos moreB zs hg j (by omega)
    unfold stepN
    by_cases he : i = k
    · subst he
      split
      · exact Int.le_refl _
      · split
        · exact Int.le_refl _
        · rename_i h1 h2; simp [lessB, moreB] at h2; exact h2
    · have h1 := ih (by omega) i h (by omega)
      have h2 := hp (by omega)
      rw [if_neg (by omega)]
      split
      · rename_i h3; simp [lessB, moreB] at h3; omega
      · exact h1

/-! Another time; a size that is allowed; the same. -/

def wallL (zs : List Alt) (x : Int) : List Alt := zs.map fun a => (a.1, x)
def wallW (k wl x : Int) : Int := if k = 3 then x else wl
theorem wallL_length (zs : List Alt) (x : Int) : (wallL zs x).length = zs.length := by simp [wallL]
theorem wallL_at (zs : List Alt) (x : Int) (i : Nat) (h : i < (wallL zs x).length) : (wallL zs x)[i] = ((zs[i]'(by rwa [wallL_length] at h)).1, x) := by simp [wallL]
theorem wallL_take (zs : List Alt) (x : Int) (k : Nat) (h : k < zs.length) : (wallL zs x).take (k + 1) = (wallL zs x).take k ++ [(zs[k].1, x)] := by
  have h' : k < (wallL zs x).length := by rw [wallL_length]; exact h
  rw [List.take_succ_eq_append_getElem h']
  simp [wallL]

end Go.Proofs.Ytlmogkhgangmgaa.Shape
