/-
  Profiles, plain: the least of some ticks, as the document tells it and as the program looks for it.
-/
import Derived.Test.YtoiahlbaiakngaaProfMath
namespace Go.Proofs.Ytoiahlbaiakngaa.Prof
set_option linter.unusedVariables false
set_option linter.unusedSimpArgs false

/-- The least of what l tells at the ticks strictly between, and o. -/
def lowF (a b : Int) (l : List St) (o : Int) : Int := l.foldl (fun o s => if a < s.1 ∧ s.1 < b ∧ s.2 < o then s.2 else o) o
def leastN (p : List St) (a b : Int) : Int := lowF a b p (now p a)
def minF (l : List St) (o : Int) : Int := l.foldl (fun o s => min o s.2) o

/-- Least's answer, and At's. -/
def leastR (p : List St) (a b : Int) : Int := if Prof p ∧ 0 ≤ a ∧ a ≤ 1000000 ∧ a < b then leastN p a b else 0
def atR (p : List St) (t : Int) : Int := if Prof p ∧ 0 ≤ t ∧ t ≤ 1000000 then now p t else 0

theorem lowF_cons (a b o : Int) (s : St) (l : List St) : lowF a b (s :: l) o = lowF a b l (if a < s.1 ∧ s.1 < b ∧ s.2 < o then s.2 else o) := rfl
theorem lowF_snoc (a b o : Int) (s : St) (l : List St) : lowF a b (l ++ [s]) o = if a < s.1 ∧ s.1 < b ∧ s.2 < lowF a b l o then s.2 else lowF a b l o := by unfold lowF; rw [List.foldl_append]; rfl
theorem minF_snoc (o : Int) (s : St) (l : List St) : minF (l ++ [s]) o = min (minF l o) s.2 := by unfold minF; rw [List.foldl_append]; rfl

theorem lowF_le {a b : Int} : ∀ {l : List St} {o : Int}, lowF a b l o ≤ o ∧ ∀ s ∈ l, a < s.1 → s.1 < b → lowF a b l o ≤ s.2
  | [], o => ⟨Int.le_refl _, by simp⟩
  | x :: l, o => by
    rw [lowF_cons]
    obtain ⟨h1, h2⟩ := lowF_le (a := a) (b := b) (l := l) (o := if a < x.1 ∧ x.1 < b ∧ x.2 < o then x.2 else o)
    constructor
    · refine Int.le_trans h1 ?_
      split <;> omega
    · intro s hs k1 k2
      rcases List.mem_cons.1 hs with rfl | hs
      · refine Int.le_trans h1 ?_
        split <;> omega
      · exact h2 s hs k1 k2
theorem lowF_in {a b : Int} : ∀ {l : List St} {o : Int}, lowF a b l o = o ∨ ∃ s ∈ l, a < s.1 ∧ s.1 < b ∧ lowF a b l o = s.2
  | [], o => .inl rfl
  | x :: l, o => by
    rw [lowF_cons]
    rcases lowF_in (a := a) (b := b) (l := l) (o := if a < x.1 ∧ x.1 < b ∧ x.2 < o then x.2 else o) with h | ⟨s, hs, k1, k2, h⟩
    · split at h
      · rename_i c
        rw [if_pos c]
        exact .inr ⟨x, by simp, c.1, c.2.1, h⟩
      · rename_i c
        rw [if_neg c]
        exact .inl h
    · exact .inr ⟨s, by simp [hs], k1, k2, h⟩
theorem minF_le : ∀ {l : List St} {o : Int}, minF l o ≤ o ∧ ∀ s ∈ l, minF l o ≤ s.2
  | [], o => ⟨Int.le_refl _, by simp⟩
  | x :: l, o => by
    have hc : minF (x :: l) o = minF l (min o x.2) := rfl
    rw [hc]
    obtain ⟨h1, h2⟩ := minF_le (l := l) (o := min o x.2)
    refine ⟨by omega, fun s hs => ?_⟩
    rcases List.mem_cons.1 hs with rfl | hs
    · omega
    · exact h2 s hs
theorem minF_ge {m : Int} : ∀ {l : List St} {o : Int}, m ≤ o → (∀ s ∈ l, m ≤ s.2) → m ≤ minF l o
  | [], o, h, _ => h
  | x :: l, o, h, k => by
    have hc : minF (x :: l) o = minF l (min o x.2) := rfl
    rw [hc]
    exact minF_ge (by have := k x (by simp); omega) fun s hs => k s (by simp [hs])

theorem nowF_gets (d a t : Int) (p : List St) (ha : a ≤ t) : ∀ (l : List St) (d1 d2 : Int), (∀ s ∈ l, s ∈ p) → (d1 = d2 ∨ ∃ s ∈ p, a < s.1 ∧ s.1 ≤ t ∧ d1 = s.2) →
    nowF d1 l t = nowF d2 l a ∨ ∃ s ∈ p, a < s.1 ∧ s.1 ≤ t ∧ nowF d1 l t = s.2
  | [], d1, d2, _, h => h
  | x :: l, d1, d2, hm, h => by
    rw [nowF_cons, nowF_cons]
    refine nowF_gets d a t p ha l _ _ (fun s hs => hm s (by simp [hs])) ?_
    by_cases h1 : x.1 ≤ a
    · rw [if_pos h1, if_pos (by omega)]; exact .inl rfl
    · rw [if_neg h1]
      by_cases h2 : x.1 ≤ t
      · rw [if_pos h2]; exact .inr ⟨x, hm x (by simp), by omega, h2, rfl⟩
      · rw [if_neg h2]; exact h
theorem now_gets (p : List St) (a t : Int) (ha : a ≤ t) : now p t = now p a ∨ ∃ s ∈ p, a < s.1 ∧ s.1 ≤ t ∧ now p t = s.2 :=
  nowF_gets 0 a t p ha p 0 0 (fun _ h => h) (.inl rfl)

theorem chain_self : ∀ {l : List St} {x : St}, Chain x l → ∀ s ∈ l, ∀ d, nowF d l s.1 = s.2
  | [], _, _, s, h, _ => by simp at h
  | y :: l, x, ⟨h1, h2, h3⟩, s, h, d => by
    rw [nowF_cons]
    rcases List.mem_cons.1 h with rfl | h
    · rw [if_pos (Int.le_refl _), nowF_none h3.gt]
    · exact chain_self h3 s h _
theorem now_self {p : List St} (h : Prof p) {s : St} (hs : s ∈ p) : now p s.1 = s.2 := by
  have hc := h.can
  cases p with
  | nil => simp at hs
  | cons x l =>
    unfold now
    rw [nowF_cons]
    rcases List.mem_cons.1 hs with rfl | hs
    · rw [if_pos (Int.le_refl _), nowF_none hc.2.gt]
    · exact chain_self hc.2 s hs _

/-- Where the steps that have begun at a end, the last of them tells. -/
theorem now_at {p : List St} {a : Int} {k : Nat} (hk : 0 < k) (hkl : k ≤ p.length) (h1 : ∀ j, j < k → (p.getD j (0, 0)).1 ≤ a) (h2 : ∀ j, k ≤ j → j < p.length → a < (p.getD j (0, 0)).1) :
    now p a = (p.getD (k - 1) (0, 0)).2 := by
  have hs : p = p.take k ++ p.drop k := (List.take_append_drop k p).symm
  have hd : ∀ s ∈ p.drop k, a < s.1 := by
    intro s hs
    obtain ⟨i, hi, rfl⟩ := mem_getD hs
    rw [List.length_drop] at hi
    have := h2 (k + i) (by omega) (by omega)
    rwa [List.getD_eq_getElem?_getD, List.getElem?_drop, ← List.getD_eq_getElem?_getD]
  have ht : ∀ s ∈ p.take k, s.1 ≤ a := by
    intro s hs
    obtain ⟨i, hi, rfl⟩ := mem_getD hs
    rw [List.length_take] at hi
    have := h1 i (by omega)
    rwa [List.getD_eq_getElem?_getD, List.getElem?_take, if_pos (by omega), ← List.getD_eq_getElem?_getD]
  have hl : (p.take k).length = k := by rw [List.length_take]; omega
  unfold now
  rw [hs, nowF_app, nowF_none hd, now_last (by intro e; rw [e] at hl; simp at hl; omega) ht, hl]
  rw [← hs, List.getD_eq_getElem?_getD, List.getElem?_take, if_pos (by omega), ← List.getD_eq_getElem?_getD]

/-- As the program looks: from the last step that has begun at a up to those that begin at b. -/
theorem least_of {p : List St} {a b : Int} {k m : Nat} (hp : Prof p) (ha : 0 ≤ a) (hab : a < b) (hkl : k ≤ p.length) (hml : m ≤ p.length)
    (h1 : ∀ j, j < k → (p.getD j (0, 0)).1 ≤ a) (h2 : ∀ j, k ≤ j → j < p.length → a < (p.getD j (0, 0)).1)
    (g1 : ∀ j, j < m → (p.getD j (0, 0)).1 < b) (g2 : ∀ j, m ≤ j → j < p.length → b ≤ (p.getD j (0, 0)).1) :
    0 < k ∧ k ≤ m ∧ minF ((p.drop (k - 1)).take (m - (k - 1))) 1000000 = leastN p a b := by
  have hlen := hp.1.1
  have h00 := hp.1.2.2
  have hk : 0 < k := by
    rcases Nat.eq_zero_or_pos k with h0 | h0
    · have := h2 0 (by omega) (by omega); omega
    · exact h0
  have hkm : k ≤ m := by
    rcases Nat.lt_or_ge m k with h0 | h0
    · have := g2 m (Nat.le_refl _) (by omega)
      have := h1 m h0
      omega
    · exact h0
  have hnow := now_at hk hkl h1 h2
  have hmem : ∀ s, s ∈ (p.drop (k - 1)).take (m - (k - 1)) ↔ ∃ j, k - 1 ≤ j ∧ j < m ∧ p.getD j (0, 0) = s := by
    intro s
    constructor
    · intro hs
      obtain ⟨i, hi, rfl⟩ := mem_getD hs
      rw [List.length_take, List.length_drop] at hi
      refine ⟨k - 1 + i, by omega, by omega, ?_⟩
      rw [List.getD_eq_getElem?_getD, List.getD_eq_getElem?_getD, List.getElem?_take, if_pos (by omega), List.getElem?_drop]
    · rintro ⟨j, j1, j2, rfl⟩
      have : p.getD j (0, 0) = ((p.drop (k - 1)).take (m - (k - 1))).getD (j - (k - 1)) (0, 0) := by
        rw [List.getD_eq_getElem?_getD, List.getD_eq_getElem?_getD, List.getElem?_take, if_pos (by omega), List.getElem?_drop]
        congr 2; omega
      rw [this]
      exact getD_mem _ _ (by rw [List.length_take, List.length_drop]; omega)
  refine ⟨hk, hkm, Int.le_antisymm ?_ ?_⟩
  · rcases lowF_in (a := a) (b := b) (l := p) (o := now p a) with h | ⟨s, hs, c1, c2, h⟩
    · show _ ≤ lowF a b p (now p a)
      rw [h, hnow]
      exact minF_le.2 _ ((hmem _).2 ⟨k - 1, Nat.le_refl _, by omega, rfl⟩)
    · show _ ≤ lowF a b p (now p a)
      rw [h]
      obtain ⟨j, hj, rfl⟩ := mem_getD hs
      refine minF_le.2 _ ((hmem _).2 ⟨j, ?_, ?_, rfl⟩)
      · rcases Nat.lt_or_ge j (k - 1) with h0 | h0
        · have := h1 j (by omega); omega
        · exact h0
      · rcases Nat.lt_or_ge j m with h0 | h0
        · exact h0
        · have := g2 j h0 hj; omega
  · refine minF_ge ?_ fun s hs => ?_
    · exact Int.le_trans lowF_le.1 (now_bd hp a).2
    · obtain ⟨j, j1, j2, rfl⟩ := (hmem s).1 hs
      rcases Nat.lt_or_ge j k with h0 | h0
      · have : j = k - 1 := by omega
        subst this
        rw [← hnow]; exact lowF_le.1
      · exact lowF_le.2 _ (getD_mem p j (by omega)) (h2 j h0 (by omega)) (g1 j j2)

/-- At one tick. -/
theorem least_one (p : List St) (t : Int) : leastN p t (t + 1) = now p t := by
  rcases lowF_in (a := t) (b := t + 1) (l := p) (o := now p t) with h | ⟨s, hs, c1, c2, h⟩
  · exact h
  · omega
theorem at_least {p : List St} {t : Int} (h : 0 ≤ t ∧ t ≤ 1000000) : leastR p t (t + 1) = atR p t := by
  unfold leastR atR
  rw [least_one]
  by_cases hp : Prof p
  · rw [if_pos ⟨hp, h.1, h.2, by omega⟩, if_pos ⟨hp, h.1, h.2⟩]
  · rw [if_neg (fun e => hp e.1), if_neg (fun e => hp e.1)]

theorem least_le {p : List St} {a b t : Int} (h1 : a ≤ t) (h2 : t < b) : leastN p a b ≤ now p t := by
  rcases now_gets p a t h1 with h | ⟨s, hs, c1, c2, h⟩
  · rw [h]; exact lowF_le.1
  · rw [h]; exact lowF_le.2 s hs c1 (by omega)

/-- Is the least one of those at the first i steps, or at a? -/
def fndB (p : List St) (a b : Int) (i : Nat) : Bool := (now p a == leastN p a b) || (p.take i).any fun s => decide (a ≤ s.1) && decide (s.1 < b) && (now p s.1 == leastN p a b)
theorem fndB_0 (p : List St) (a b : Int) : fndB p a b 0 = (now p a == leastN p a b) := by simp [fndB]
theorem fndB_succ (p : List St) (a b : Int) (i : Nat) (h : i < p.length) :
    fndB p a b (i + 1) = (fndB p a b i || (decide (a ≤ p[i].1) && decide (p[i].1 < b) && (now p p[i].1 == leastN p a b))) := by
  unfold fndB
  rw [List.take_add_one, List.any_append, List.getElem?_eq_getElem h, Bool.or_assoc]
  simp
theorem fndB_all {p : List St} (hp : Prof p) (a b : Int) : fndB p a b p.length = true := by
  unfold fndB
  rw [List.take_length, Bool.or_eq_true]
  rcases lowF_in (a := a) (b := b) (l := p) (o := now p a) with h | ⟨s, hs, c1, c2, h⟩
  · exact .inl (by rw [beq_iff_eq]; exact h.symm)
  · refine .inr (List.any_eq_true.2 ⟨s, hs, ?_⟩)
    rw [Bool.and_eq_true, Bool.and_eq_true, decide_eq_true_eq, decide_eq_true_eq, beq_iff_eq]
    exact ⟨⟨by omega, c2⟩, by rw [now_self hp hs]; exact h.symm⟩

end Go.Proofs.Ytoiahlbaiakngaa.Prof
