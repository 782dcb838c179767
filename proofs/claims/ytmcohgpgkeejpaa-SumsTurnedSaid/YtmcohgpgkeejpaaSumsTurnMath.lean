/-
  Plain mathematics of a text, one byte of which is another one, or two neighbours of which are changed about.
-/
import Derived.Test.YtmcohgpgkeejpaaSumsMath
namespace Go.Proofs.Ytmcohgpgkeejpaa.Sums

theorem sum_set (l : List UInt8) (k : Nat) (x : UInt8) (h : k < l.length) (hne : l[k] ≠ x) : sum (l.set k x) ≠ sum l := by
  have e1 : l = l.take k ++ [l[k]] ++ l.drop (k + 1) := by simp
  have e2 : l.set k x = l.take k ++ [x] ++ l.drop (k + 1) := by rw [List.set_eq_take_append_cons_drop, if_pos h]; simp
  intro he
  rw [e2] at he
  have : sum l = sum (l.take k ++ [l[k]] ++ l.drop (k + 1)) := congrArg sum e1
  rw [this] at he
  exact sum_other _ _ _ _ hne he.symm

theorem sum_swap (l : List UInt8) (k : Nat) (h : k + 1 < l.length) (hne : l[k] ≠ l[k + 1]) : sum ((l.set k l[k + 1]).set (k + 1) l[k]) ≠ sum l := by
  have e0 : l.drop k = l[k] :: l[k + 1] :: l.drop (k + 2) := by
    rw [List.drop_eq_getElem_cons (by omega), List.drop_eq_getElem_cons h]
  have e1 : l = l.take k ++ [l[k], l[k + 1]] ++ l.drop (k + 2) := by
    conv => lhs; rw [← List.take_append_drop k l, e0]
    simp
  have e2 : (l.set k l[k + 1]).set (k + 1) l[k] = l.take k ++ [l[k + 1], l[k]] ++ l.drop (k + 2) := by
    apply List.ext_getElem?
    intro i
    have hk : (l.take k).length = k := by rw [List.length_take]; omega
    rw [List.append_assoc, List.getElem?_append, hk]
    rw [List.getElem?_set, List.getElem?_set]
    simp only [List.length_set]
    by_cases h1 : i < k
    · rw [if_pos h1, if_neg (by omega), if_neg (by omega), List.getElem?_take_of_lt h1]
    · rw [if_neg h1]
      obtain ⟨j, rfl⟩ : ∃ j, i = k + j := ⟨i - k, by omega⟩
      rw [show k + j - k = j by omega]
      match j with
      | 0 => simp; omega
      | 1 => simp [h]
      | j + 2 =>
        rw [if_neg (by omega), if_neg (by omega)]
        simp
        rw [show k + (j + 2) = k + 2 + j by omega]
  intro he
  rw [e2] at he
  have : sum l = sum (l.take k ++ [l[k], l[k + 1]] ++ l.drop (k + 2)) := congrArg sum e1
  rw [this] at he
  exact sum_swapped _ _ _ _ hne he.symm

end Go.Proofs.Ytmcohgpgkeejpaa.Sums
