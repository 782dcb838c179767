/-
  Plain mathematics of package sat: numbers held between 0 and an end, and their sums; nothing of the program.
-/
namespace Go.Proofs.YtgpgpgechilbkaaDoor.Sat

/-- A number held between 0 and an end. -/
def cl (n m : Int) : Int := if n < 0 then 0 else if n > m then m else n

theorem cl_bd (n m : Int) (h : 0 ≤ m) : 0 ≤ cl n m ∧ cl n m ≤ m := by unfold cl; split <;> (try split) <;> omega
theorem cl_id (n m : Int) (h0 : 0 ≤ n) (h1 : n ≤ m) : cl n m = n := by unfold cl; split <;> (try split) <;> omega
theorem cl_neg (n m : Int) (h0 : n < 0) : cl n m = 0 := by unfold cl; rw [if_pos h0]
theorem cl_big (n m : Int) (h0 : 0 ≤ m) (h : m < n) : cl n m = m := by unfold cl; split <;> (try split) <;> omega
theorem cl_mono (a b m : Int) (h0 : 0 ≤ m) (h : a ≤ b) : cl a m ≤ cl b m := by unfold cl; split <;> (try split) <;> (try split) <;> (try split) <;> omega

/-- What the numbers of a list count together, each held. -/
def tot (m : Int) : List Int → Int
  | [] => 0
  | n :: l => cl n m + tot m l

theorem tot_nonneg (m : Int) (h : 0 ≤ m) : ∀ l, 0 ≤ tot m l
  | [] => by simp [tot]
  | n :: l => by have := tot_nonneg m h l; have := cl_bd n m h; simp [tot]; omega

theorem tot_append (m : Int) : ∀ a b, tot m (a ++ b) = tot m a + tot m b
  | [], b => by simp [tot]
  | n :: l, b => by simp [tot, tot_append m l b]; omega

theorem tot_one (m n : Int) : tot m [n] = cl n m := by simp [tot]
theorem tot_two (m a b : Int) : tot m [a, b] = cl a m + cl b m := by simp [tot]

theorem tot_take_succ (m : Int) (l : List Int) (k : Nat) (h : k < l.length) : tot m (l.take (k + 1)) = tot m (l.take k) + cl l[k] m := by
  rw [List.take_succ_eq_append_getElem h, tot_append, tot_one]

theorem tot_take_le (m : Int) (h : 0 ≤ m) (l : List Int) (k : Nat) : tot m (l.take k) ≤ tot m l := by
  have e : tot m l = tot m (l.take k) + tot m (l.drop k) := by rw [← tot_append, List.take_append_drop]
  have := tot_nonneg m h (l.drop k)
  omega

/-- The sum, or the end if that is less. -/
def add (m : Int) (l : List Int) : Int := if tot m l > m then m else tot m l
/-- Whether the sum is above the end. -/
def over (m : Int) (l : List Int) : Bool := decide (tot m l > m)

theorem add_bd (m : Int) (h : 0 ≤ m) (l : List Int) : 0 ≤ add m l ∧ add m l ≤ m := by
  have := tot_nonneg m h l
  unfold add; split <;> omega

/-- Adding one number to a held sum. -/
theorem add_snoc (m : Int) (h : 0 ≤ m) (l : List Int) (n : Int) : add m (l ++ [n]) = cl (add m l + cl n m) m := by
  have h1 := tot_nonneg m h l
  have h2 := cl_bd n m h
  unfold add
  rw [tot_append, tot_one]
  generalize cl n m = c at h2
  generalize tot m l = t at h1
  unfold cl
  split <;> split <;> (try split) <;> (try split) <;> omega

theorem add_take_succ (m : Int) (h : 0 ≤ m) (l : List Int) (k : Nat) (hk : k < l.length) : add m (l.take (k + 1)) = cl (add m (l.take k) + cl l[k] m) m := by
  rw [List.take_succ_eq_append_getElem hk, add_snoc m h]

/-- Less, held. -/
def sub (m a b : Int) : Int := cl (cl a m - cl b m) m

/-- The product, held. -/
def mulc (m a b : Int) : Int := if cl a m * cl b m > m then m else cl a m * cl b m

theorem mulc_bd (m a b : Int) (h : 0 ≤ m) : 0 ≤ mulc m a b ∧ mulc m a b ≤ m := by
  have h1 := cl_bd a m h
  have h2 := cl_bd b m h
  have h3 : 0 ≤ cl a m * cl b m := Int.mul_nonneg h1.1 h2.1
  unfold mulc; split <;> omega

/-- The test by a quotient is the test by the product. -/
theorem quo_gt (m a b : Int) (hb : 0 < b) : (m / b < a) ↔ (m < a * b) := Int.ediv_lt_iff_lt_mul hb

theorem add_two_mono (m a b c : Int) (h0 : 0 ≤ m) (h : b ≤ c) : add m [a, b] ≤ add m [a, c] := by
  have h1 := cl_mono b c m h0 h
  unfold add
  rw [tot_two, tot_two]
  split <;> split <;> omega

theorem sub_anti (m a b c : Int) (h0 : 0 ≤ m) (h : b ≤ c) : sub m a c ≤ sub m a b := by
  have h1 := cl_mono b c m h0 h
  exact cl_mono _ _ m h0 (by omega)

theorem mulc_mono (m a b c : Int) (h0 : 0 ≤ m) (h : b ≤ c) : mulc m a b ≤ mulc m a c := by
  have h1 := cl_mono b c m h0 h
  have h2 := cl_bd a m h0
  have h3 := Int.mul_le_mul_of_nonneg_left h1 h2.1
  unfold mulc
  split <;> split <;> omega

theorem mulc_comm (m a b : Int) : mulc m a b = mulc m b a := by
  unfold mulc; rw [Int.mul_comm]

theorem not_over_two (m a b : Int) (h : over m [a, b] = false) : cl a m + cl b m ≤ m := by
  unfold over at h; rw [tot_two, decide_eq_false_iff_not] at h; omega

theorem back_two (m a b : Int) (h0 : 0 ≤ m) (h : over m [a, b] = false) : sub m (add m [a, b]) b = cl a m := by
  have h1 := not_over_two m a b h
  have h2 := cl_bd a m h0
  have h3 := cl_bd b m h0
  have e : add m [a, b] = cl a m + cl b m := by unfold add; rw [tot_two, if_neg (by omega)]
  unfold sub
  rw [e, cl_id (cl a m + cl b m) m (by omega) h1, show cl a m + cl b m - cl b m = cl a m by omega, cl_id (cl a m) m h2.1 h2.2]

theorem more_two (m a b : Int) (h0 : 0 ≤ m) (h : over m [a, b] = false) : cl a m ≤ add m [a, b] := by
  have h1 := not_over_two m a b h
  have h3 := cl_bd b m h0
  unfold add; rw [tot_two, if_neg (by omega)]; omega

theorem over_add (m : Int) (l : List Int) (h : over m l = true) : add m l = m := by
  unfold over at h; rw [decide_eq_true_eq] at h; unfold add; rw [if_pos h]

theorem over_id (m : Int) (l : List Int) (h0 : 0 ≤ m) (h : over m l = true) : cl (add m l) m = add m l := by
  rw [over_add m l h]; exact cl_id m m h0 (Int.le_refl _)

theorem over_one (m : Int) (l : List Int) (h0 : 0 < m) (h : over m l = true) : add m [add m l, 1] = add m l := by
  rw [over_add m l h]
  unfold add
  rw [tot_two, cl_id m m (by omega) (Int.le_refl _), cl_id 1 m (by omega) (by omega), if_pos (by omega)]

theorem add_perm (m n : Int) (a b : List Int) : add m (a ++ [n] ++ b) = add m (b ++ a ++ [n]) := by
  have e : tot m (a ++ [n] ++ b) = tot m (b ++ a ++ [n]) := by simp only [tot_append]; omega
  unfold add; rw [e]

theorem over_perm (m n : Int) (a b : List Int) : over m (a ++ [n] ++ b) = over m (b ++ a ++ [n]) := by
  have e : tot m (a ++ [n] ++ b) = tot m (b ++ a ++ [n]) := by simp only [tot_append]; omega
  unfold over; rw [e]

theorem tot_three (m a b c : Int) : tot m [a, b, c] = cl a m + cl b m + cl c m := by simp [tot]; omega
theorem cl_add (m : Int) (h : 0 ≤ m) (l : List Int) : cl (add m l) m = add m l := cl_id _ _ (add_bd m h l).1 (add_bd m h l).2

theorem parts_three (m n : Int) (h : 0 ≤ m) (a b : List Int) : add m [add m a, n, add m b] = add m (a ++ [n] ++ b) := by
  have h1 := tot_nonneg m h a
  have h2 := tot_nonneg m h b
  have h3 := cl_bd n m h
  have e1 : tot m [add m a, n, add m b] = add m a + cl n m + add m b := by rw [tot_three, cl_add m h, cl_add m h]
  have e2 : tot m (a ++ [n] ++ b) = tot m a + cl n m + tot m b := by simp only [tot_append, tot_one]
  have ea : add m a = if tot m a > m then m else tot m a := rfl
  have eb : add m b = if tot m b > m then m else tot m b := rfl
  unfold add at e1 ⊢
  rw [e1, e2]
  split <;> split <;> (try split) <;> (try split) <;> (try split) <;> (try split) <;> omega

theorem parts_two (m n : Int) (h : 0 ≤ m) (a b : List Int) : add m [add m a, add m [n, add m b]] = add m (a ++ [n] ++ b) := by
  have h1 := tot_nonneg m h a
  have h2 := tot_nonneg m h b
  have h3 := cl_bd n m h
  have e2 : tot m (a ++ [n] ++ b) = tot m a + cl n m + tot m b := by simp only [tot_append, tot_one]
  have e3 : tot m [n, add m b] = cl n m + add m b := by rw [tot_two, cl_add m h]
  have e1 : tot m [add m a, add m [n, add m b]] = add m a + add m [n, add m b] := by rw [tot_two, cl_add m h, cl_add m h]
  have ea : add m a = if tot m a > m then m else tot m a := rfl
  have eb : add m b = if tot m b > m then m else tot m b := rfl
  have ec : add m [n, add m b] = if tot m [n, add m b] > m then m else tot m [n, add m b] := rfl
  have ed : add m (a ++ [n] ++ b) = if tot m (a ++ [n] ++ b) > m then m else tot m (a ++ [n] ++ b) := rfl
  have ef : add m [add m a, add m [n, add m b]] = if tot m [add m a, add m [n, add m b]] > m then m else tot m [add m a, add m [n, add m b]] := rfl
  rw [ed, ef, e1, e2, ec, e3]
  generalize add m a = A at *
  generalize add m b = B at *
  generalize tot m a = TA at *
  generalize tot m b = TB at *
  generalize cl n m = c at *
  subst ea
  subst eb
  split <;> split <;> (try split) <;> (try split) <;> (try split) <;> (try split) <;> omega

end Go.Proofs.YtgpgpgechilbkaaDoor.Sat
