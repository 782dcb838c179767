/-
  Profiles, plain: how the document's reader adds: at each tick that matters.
-/
import Derived.Test.YtoiahlbaiakngaaProfMath
namespace Go.Proofs.Ytoiahlbaiakngaa.Prof
set_option linter.unusedVariables false
set_option linter.unusedSimpArgs false

/-- A number in its place. -/
def putL : List Int → Int → List Int
  | [], n => [n]
  | x :: l, n => if x < n then x :: putL l n else if x = n then x :: l else n :: x :: l
def puts (l xs : List Int) : List Int := xs.foldl putL l

theorem putL_le (n : Int) : ∀ l : List Int, (putL l n).length ≤ l.length + 1
  | [] => by simp [putL]
  | x :: l => by
    unfold putL
    split
    · have := putL_le n l; simp only [List.length_cons]; omega
    · split <;> simp
theorem mem_putL (n y : Int) : ∀ l : List Int, y ∈ putL l n ↔ y = n ∨ y ∈ l
  | [] => by simp [putL]
  | x :: l => by
    unfold putL
    split
    · rw [List.mem_cons, mem_putL n y l, List.mem_cons]
      constructor
      · rintro (h | h | h) <;> simp [h]
      · rintro (h | h | h) <;> simp [h]
    · split
      · rename_i h; subst h; simp
      · simp
theorem sorted_putL (n : Int) : ∀ {l : List Int}, l.Pairwise (· < ·) → (putL l n).Pairwise (· < ·)
  | [], _ => by simp [putL]
  | x :: l, h => by
    obtain ⟨h1, h2⟩ := List.pairwise_cons.1 h
    unfold putL
    split
    · rename_i hx
      refine List.pairwise_cons.2 ⟨fun y hy => ?_, sorted_putL n h2⟩
      rcases (mem_putL n y l).1 hy with rfl | hy
      · exact hx
      · exact h1 y hy
    · split
      · exact h
      · rename_i a b
        refine List.pairwise_cons.2 ⟨fun y hy => ?_, h⟩
        rcases List.mem_cons.1 hy with rfl | hy
        · omega
        · have := h1 y hy; omega
theorem mem_puts (y : Int) : ∀ (xs l : List Int), y ∈ puts l xs ↔ y ∈ xs ∨ y ∈ l
  | [], l => by simp [puts]
  | x :: xs, l => by
    show y ∈ puts (putL l x) xs ↔ _
    rw [mem_puts y xs, mem_putL, List.mem_cons]
    constructor
    · rintro (h | h | h) <;> simp [h]
    · rintro ((h | h) | h) <;> simp [h]
theorem sorted_puts : ∀ (xs : List Int) {l : List Int}, l.Pairwise (· < ·) → (puts l xs).Pairwise (· < ·)
  | [], _, h => h
  | x :: xs, l, h => sorted_puts xs (sorted_putL x h)
theorem puts_le : ∀ (xs l : List Int), (puts l xs).length ≤ l.length + xs.length
  | [], l => by simp [puts]
  | x :: xs, l => by
    have := puts_le xs (putL l x)
    have := putL_le x l
    show (puts (putL l x) xs).length ≤ _
    simp only [List.length_cons]; omega
theorem puts_snoc (l xs : List Int) (x : Int) : puts l (xs ++ [x]) = putL (puts l xs) x := by unfold puts; rw [List.foldl_append]; rfl
theorem puts_app (l xs ys : List Int) : puts l (xs ++ ys) = puts (puts l xs) ys := by unfold puts; rw [List.foldl_append]

/-- Behind those that are less. -/
theorem putL_at (n : Int) : ∀ (l : List Int) (i : Nat), i ≤ l.length → (∀ j, j < i → l.getD j 0 < n) →
    putL l n = l.take i ++ putL (l.drop i) n
  | l, 0, _, _ => by simp
  | [], i + 1, h, _ => by simp at h
  | x :: l, i + 1, h, k => by
    have h0 := k 0 (by omega)
    have h0' : x < n := by simpa using h0
    rw [List.take_succ_cons, List.drop_succ_cons, List.cons_append, ← putL_at n l i (by simpa using h) fun j hj => by simpa using k (j + 1) (by omega)]
    rw [putL, if_pos h0']
theorem putL_new (n : Int) (l : List Int) (i : Nat) (h : i ≤ l.length) (k : ∀ j, j < i → l.getD j 0 < n) (hn : i < l.length → n < l.getD i 0) :
    putL l n = l.take i ++ n :: l.drop i := by
  rw [putL_at n l i h k]
  congr 1
  rcases Nat.lt_or_ge i l.length with h1 | h1
  · have h2 := hn h1
    rw [List.drop_eq_getElem_cons h1]
    rw [List.getD_eq_getElem?_getD, List.getElem?_eq_getElem h1] at h2
    have h3 : n < l[i] := h2
    rw [putL, if_neg (by omega), if_neg (by omega)]
  · rw [List.drop_eq_nil_of_le h1]; rfl
theorem putL_old (n : Int) (l : List Int) (i : Nat) (h : i < l.length) (k : ∀ j, j < i → l.getD j 0 < n) (hn : l.getD i 0 = n) :
    putL l n = l := by
  rw [putL_at n l i (by omega) k, List.drop_eq_getElem_cons h]
  rw [List.getD_eq_getElem?_getD, List.getElem?_eq_getElem h] at hn
  have h3 : l[i] = n := hn
  rw [putL, if_neg (by omega), if_pos h3, ← List.drop_eq_getElem_cons h, List.take_append_drop]

/-- The ticks that matter. -/
def mores (a b : Int) : List Int := if b ≤ 1000000 then [a, b] else [a]
def ticksL (p : List St) (more : List Int) : List Int := puts (puts [] (p.map Prod.fst)) more
theorem ticks_le (p : List St) (more : List Int) : (ticksL p more).length ≤ p.length + more.length := by
  unfold ticksL
  have := puts_le more (puts [] (p.map Prod.fst))
  have := puts_le (p.map Prod.fst) []
  simp at this
  omega

def outF (f : Int → Int) (l : List Int) (q : List St) : List St := l.foldl (fun q x => layL q x (f x)) q
theorem outF_snoc (f : Int → Int) (l : List Int) (x : Int) (q : List St) : outF f (l ++ [x]) q = layL (outF f l q) x (f x) := by unfold outF; rw [List.foldl_append]; rfl
theorem outF_le (f : Int → Int) : ∀ (l : List Int) (q : List St), (outF f l q).length ≤ q.length + l.length
  | [], q => by simp [outF]
  | x :: l, q => by
    have := outF_le f l (layL q x (f x))
    have := layL_le q x (f x)
    show (outF f l (layL q x (f x))).length ≤ _
    simp only [List.length_cons]; omega

theorem out_inv {f : Int → Int} : ∀ {l : List Int} {x : Int} {q : List St}, (x :: l).Pairwise (· < ·) → (∀ y ∈ x :: l, y ≤ 1000000) → Inv f q x →
    (∀ y ∈ x :: l, ∀ t, y ≤ t → t ≤ 1000000 → (∀ z ∈ x :: l, z ≤ y ∨ t < z) → f t = f y) → Inv f (outF f (x :: l) q) 1000001
  | [], x, q, hs, hm, hi, hf => by
    have hx := hm x (by simp)
    exact hi.lay (by omega) (by omega) fun t t1 t2 => hf x (by simp) t t1 (by omega) fun z hz => by simp at hz; subst hz; exact .inl (Int.le_refl _)
  | y :: l, x, q, hs, hm, hi, hf => by
    obtain ⟨h1, h2⟩ := List.pairwise_cons.1 hs
    obtain ⟨h3, _⟩ := List.pairwise_cons.1 h2
    have hy := hm y (by simp)
    have hxy := h1 y (by simp)
    show Inv f (outF f (y :: l) (layL q x (f x))) 1000001
    refine out_inv h2 (fun z hz => hm z (List.mem_cons_of_mem _ hz)) (hi.lay hxy (by omega) fun t t1 t2 => ?_) fun z hz t t1 t2 k => ?_
    · refine hf x (by simp) t t1 (by omega) fun z hz => ?_
      rcases List.mem_cons.1 hz with rfl | hz
      · exact .inl (Int.le_refl _)
      · rcases List.mem_cons.1 hz with rfl | hz
        · exact .inr t2
        · have := h3 z hz; exact .inr (by omega)
    · refine hf z (List.mem_cons_of_mem _ hz) t t1 t2 fun u hu => ?_
      rcases List.mem_cons.1 hu with rfl | hu
      · have := h1 z hz; exact .inl (by omega)
      · exact k u hu

theorem nowF_const {y t : Int} (h : y ≤ t) : ∀ {p : List St} {d : Int}, (∀ s ∈ p, s.1 ≤ y ∨ t < s.1) → nowF d p t = nowF d p y
  | [], _, _ => rfl
  | s :: p, d, k => by
    rw [nowF_cons, nowF_cons]
    rcases k s (by simp) with h1 | h1
    · rw [if_pos (by omega), if_pos h1]; exact nowF_const h fun x hx => k x (by simp [hx])
    · rw [if_neg (by omega), if_neg (by omega)]; exact nowF_const h fun x hx => k x (by simp [hx])

/-- As the document's reader adds, it comes to the same. -/
theorem outF_same {p : List St} {a b n : Int} (h : Prof p) (hb : ¬ badA a b n) : outF (fun t => now p t + bump a b n t) (ticksL p (mores a b)) [] = addL p a b n := by
  obtain ⟨a0, a1, ab, n0, n1⟩ := not_bad hb
  obtain ⟨l, hl⟩ : ∃ l, l = ticksL p (mores a b) := ⟨_, rfl⟩
  have hmem : ∀ y, y ∈ l ↔ y ∈ mores a b ∨ ∃ s ∈ p, s.1 = y := by
    intro y
    rw [hl]; unfold ticksL
    rw [mem_puts, mem_puts]
    simp
  have hsort : l.Pairwise (· < ·) := by rw [hl]; exact sorted_puts _ (sorted_puts _ (by simp))
  have hlo : ∀ y ∈ l, 0 ≤ y ∧ y ≤ 1000000 := by
    intro y hy
    rcases (hmem y).1 hy with hy | ⟨s, hs, rfl⟩
    · unfold mores at hy
      split at hy <;> simp at hy <;> omega
    · exact ⟨h.can.pos s hs, (h.mem hs).2.2⟩
  have h0 : (0 : Int) ∈ l := by
    refine (hmem 0).2 (.inr ⟨p.getD 0 (0, 0), getD_mem p 0 (by have := h.1.1; omega), h.1.2.2⟩)
  rw [← hl]
  refine Inv.same (f := fun t => now p t + bump a b n t) (g := fun t => now p t + bump a b n t) ?_ (addL_inv h a0 ab) fun _ _ _ => rfl
  cases l with
  | nil => simp at h0
  | cons x l =>
    have hx : x = 0 := by
      rcases List.mem_cons.1 h0 with h0 | h0
      · exact h0.symm
      · have := (List.pairwise_cons.1 hsort).1 0 h0
        have := (hlo x (by simp)).1
        omega
    refine out_inv hsort (fun y hy => (hlo y hy).2) (by rw [hx]; exact Inv.nil_ _) fun y hy t t1 t2 k => ?_
    have e1 : now p t = now p y := nowF_const t1 fun s hs => k s.1 ((hmem _).2 (.inr ⟨s, hs, rfl⟩))
    have e2 : a ≤ y ∨ t < a := k a ((hmem _).2 (.inl (by unfold mores; split <;> simp)))
    have e3 : b ≤ y ∨ t < b := by
      by_cases hb2 : b ≤ 1000000
      · exact k b ((hmem _).2 (.inl (by unfold mores; rw [if_pos hb2]; simp)))
      · omega
    show now p t + bump a b n t = now p y + bump a b n y
    rw [e1]
    congr 1
    unfold bump
    split
    · rw [if_pos (by omega)]
    · rw [if_neg (by omega)]

end Go.Proofs.Ytoiahlbaiakngaa.Prof
