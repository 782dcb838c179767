/-
  How the program and the document come to a set's text, place by place: plain.
-/
import Derived.Test.YtgneleembnchfaaDoorNodeText
namespace Go.Proofs.YtgneleembnchfaaDoor.Node
set_option linter.unusedVariables false
set_option linter.unusedSimpArgs false

/-- The members from k on. -/
def frm (k s : Nat) : List Nat := memF (64 - k) k (s / 2 ^ k)

theorem has_nat (s k : Nat) (h : k < 64) : hasB s (k : Int) = s.testBit k := by
  unfold hasB; rw [decide_eq_true (by omega), Bool.true_and]; simp
theorem has_over (s : Nat) (n : Int) (h : 64 ≤ n) : hasB s n = false := by
  unfold hasB; rw [decide_eq_false (by omega)]; rfl
theorem has_under (s : Nat) (n : Int) (h : n < 0) : hasB s n = false := by
  unfold hasB; rw [decide_eq_false (by omega)]; rfl

theorem frm_zero (s : Nat) : frm 0 s = mem s := by unfold frm mem; rw [Nat.pow_zero, Nat.div_one]
theorem frm_end (s : Nat) : frm 64 s = [] := rfl
theorem frm_step (k s : Nat) (h : k < 64) : frm k s = if s.testBit k = true then k :: frm (k + 1) s else frm (k + 1) s := by
  unfold frm
  rw [show 64 - k = (64 - (k + 1)) + 1 by omega, memF, tb_div, Nat.pow_succ, ← Nat.div_div_eq_div_mul]
  simp only [decide_eq_true_eq]
theorem frm_on (k s : Nat) (h : k < 64) (hb : hasB s (k : Int) = true) : frm k s = k :: frm (k + 1) s := by
  rw [has_nat s k h] at hb; rw [frm_step k s h, if_pos hb]
theorem frm_off (k s : Nat) (h : k < 64) (hb : hasB s (k : Int) = false) : frm k s = frm (k + 1) s := by
  rw [has_nat s k h] at hb; rw [frm_step k s h, if_neg (by rw [hb]; decide)]

theorem frm_ge (k s n : Nat) (h : n ∈ frm k s) : k ≤ n := ((mem_memF _ _ _ _).1 h).1

/-- The next run begins just there, if that is a member. -/
theorem next_on (k s : Nat) (hb : hasB s ((k : Int) + 1) = true) : ∃ c r, runs (frm (k + 1) s) = (k + 1, c) :: r := by
  have h : k + 1 < 64 := by
    rcases Nat.lt_or_ge (k + 1) 64 with h | h
    · exact h
    · rw [has_over _ _ (by omega)] at hb; cases hb
  rw [frm_on (k + 1) s h (by simpa using hb)]
  exact runs_cons _ _
theorem next_off (k s : Nat) (hk : k < 64) (hb : hasB s ((k : Int) + 1) = false) : ∀ c r, runs (frm (k + 1) s) ≠ (k + 1, c) :: r := by
  intro c r e
  obtain ⟨t, ht⟩ := runs_head _ _ _ _ e
  by_cases h : k + 1 < 64
  · rw [frm_off (k + 1) s h (by simpa using hb)] at ht
    have := frm_ge (k + 1 + 1) s (k + 1) (by rw [ht]; simp)
    omega
  · have : k + 1 = 64 := by omega
    rw [this, frm_end] at ht
    cases ht

/-- What is yet to be written of a run that has begun, and of those behind it. -/
def opn : List (Nat × Nat) → List UInt8
  | r :: l => 45 :: (dec r.2 ++ tailT l)
  | [] => []
/-- What is yet to be written at place k; f: nothing is written so far. -/
def restC (s k : Nat) (f : Bool) : List UInt8 :=
  if (hasB s ((k : Int) - 1) && hasB s (k : Int)) = true then opn (runs (frm k s)) else if f = true then joinT (runs (frm k s)) else tailT (runs (frm k s))

theorem rest_zero (s : Nat) : restC s 0 true = joinT (runs (mem s)) := by
  unfold restC
  rw [has_under s _ (by omega), frm_zero]
  rfl
theorem rest_end (s : Nat) (f : Bool) : restC s 64 f = [] := by
  unfold restC
  rw [has_over s ((64 : Nat) : Int) (by omega), frm_end]
  simp [runs, joinT, tailT]
theorem prev_of (k : Nat) : (((k + 1 : Nat) : Int) - 1) = (k : Int) := by omega

theorem st_no (s k : Nat) (f : Bool) (h : k < 64) (hb : hasB s (k : Int) = false) : restC s k f = restC s (k + 1) f := by
  unfold restC
  rw [prev_of, hb, Bool.and_false, Bool.false_and, frm_off k s h hb]
theorem st_begin (s k : Nat) (f : Bool) (h : k < 64) (hb : hasB s (k : Int) = true) (hp : hasB s ((k : Int) - 1) = false) : restC s k f = (if f = true then [] else [44]) ++ dec k ++ restC s (k + 1) false := by
  unfold restC
  rw [prev_of, hb, hp, Bool.false_and, Bool.true_and, frm_on k s h hb]
  have hc : (((k + 1 : Nat) : Int)) = (k : Int) + 1 := by omega
  rw [hc]
  cases hn : hasB s ((k : Int) + 1) with
  | true =>
    obtain ⟨c, r, e⟩ := next_on k s hn
    have hne : k ≠ c := by
      have := (flat_runs (frm (k + 1) s)).2 (k + 1, c) (by rw [e]; simp)
      simp only at this
      omega
    rw [runs_on k _ c r e, e]
    cases f <;> simp [joinT, tailT, opn, runT, endT, hne]
  | false =>
    rw [runs_off k _ (next_off k s h hn)]
    cases f <;> simp [joinT, tailT, runT, endT]
theorem st_mid (s k : Nat) (h : k < 64) (hb : hasB s (k : Int) = true) (hp : hasB s ((k : Int) - 1) = true) (hn : hasB s ((k : Int) + 1) = true) : restC s k false = restC s (k + 1) false := by
  unfold restC
  have hc : (((k + 1 : Nat) : Int)) = (k : Int) + 1 := by omega
  rw [prev_of, hb, hp, hc, hn, frm_on k s h hb]
  obtain ⟨c, r, e⟩ := next_on k s hn
  rw [runs_on k _ c r e, e]
  simp [opn]
theorem st_last (s k : Nat) (h : k < 64) (hb : hasB s (k : Int) = true) (hp : hasB s ((k : Int) - 1) = true) (hn : hasB s ((k : Int) + 1) = false) : restC s k false = 45 :: (dec k ++ restC s (k + 1) false) := by
  unfold restC
  have hc : (((k + 1 : Nat) : Int)) = (k : Int) + 1 := by omega
  rw [prev_of, hb, hp, hc, hn, frm_on k s h hb, runs_off k _ (next_off k s h hn)]
  simp [opn]

/-! The document's way: from one run to the next one. -/

def first (a : Nat) : List (Nat × Nat) → List (Nat × Nat)
  | r :: l => (a, r.2) :: l
  | [] => []
/-- What is yet to be written at place i of the list. -/
def restR (l : List Nat) (i : Nat) : List UInt8 := if i = 0 then joinT (runs l) else tailT (runs (l.drop i))

theorem drop_get (l : List Nat) (i : Nat) (h : i < l.length) : l.drop i = l[i] :: l.drop (i + 1) := List.drop_eq_getElem_cons h

theorem first_self (l : List Nat) (i : Nat) (h : i < l.length) : runs (l.drop i) = first l[i] (runs (l.drop i)) := by
  rw [drop_get l i h]
  obtain ⟨c, r, e⟩ := runs_cons l[i] (l.drop (i + 1))
  rw [e]; rfl
theorem first_on (l : List Nat) (i k : Nat) (a : Nat) (h : k + 1 < l.length) (he : l[k + 1] = l[k] + 1) (hr : runs (l.drop i) = first a (runs (l.drop k))) : runs (l.drop i) = first a (runs (l.drop (k + 1))) := by
  rw [hr, drop_get l k (by omega)]
  have e : ∃ c r, runs (l.drop (k + 1)) = (l[k] + 1, c) :: r := by
    rw [drop_get l (k + 1) h, he]; exact runs_cons _ _
  obtain ⟨c, r, e⟩ := e
  rw [runs_on _ _ c r e, e]
  rfl
theorem first_off (l : List Nat) (i k : Nat) (a : Nat) (h : k < l.length) (he : ∀ h : k + 1 < l.length, l[k + 1] ≠ l[k] + 1) (hr : runs (l.drop i) = first a (runs (l.drop k))) : runs (l.drop i) = (a, l[k]) :: runs (l.drop (k + 1)) := by
  rw [hr, drop_get l k h]
  rw [runs_off]
  · rfl
  · intro c r e
    obtain ⟨t, ht⟩ := runs_head _ _ _ _ e
    have hk : k + 1 < l.length := by
      rcases Nat.lt_or_ge (k + 1) l.length with h1 | h1
      · exact h1
      · rw [List.drop_of_length_le h1] at ht; cases ht
    rw [drop_get l (k + 1) hk] at ht
    injection ht with h1 _
    exact he hk h1

theorem rest_step (l : List Nat) (i k : Nat) (h : i < l.length) (hk : k < l.length) (hr : runs (l.drop i) = (l[i], l[k]) :: runs (l.drop (k + 1))) :
    restR l i = (if i = 0 then [] else [44]) ++ dec l[i] ++ (if l[i] = l[k] then [] else 45 :: dec l[k]) ++ restR l (k + 1) := by
  unfold restR
  rw [if_neg (show ¬ k + 1 = 0 by omega)]
  by_cases h0 : i = 0
  · subst h0
    rw [if_pos rfl, if_pos rfl]
    rw [List.drop_zero] at hr
    rw [hr]
    simp [joinT, runT, endT]
  · rw [if_neg h0, if_neg h0, hr]
    simp [tailT, runT, endT]
theorem restR_end (l : List Nat) (i : Nat) (h : l.length ≤ i) (hl : l ≠ []) : restR l i = [] := by
  unfold restR
  have : i ≠ 0 := by
    intro e; subst e
    exact hl (List.eq_nil_of_length_eq_zero (by omega))
  rw [if_neg this, List.drop_of_length_le h]
  rfl

end Go.Proofs.YtgneleembnchfaaDoor.Node
