/-
  Plain mathematics of package sums: Adler's sum of bytes; nothing of the program.
-/
namespace Go.Proofs.Ytmcohgpgkeejpaa.Sums

/-- The bytes together. -/
def S : List UInt8 → Int
  | [] => 0
  | c :: l => (c.toNat : Int) + S l

/-- The bytes' sums up to each place, together. -/
def T : List UInt8 → Int
  | [] => 0
  | c :: l => ((l.length : Int) + 1) * (c.toNat : Int) + T l

theorem S_append : ∀ a b, S (a ++ b) = S a + S b
  | [], b => by simp [S]
  | c :: l, b => by simp [S, S_append l b]; omega

theorem T_append : ∀ a b, T (a ++ b) = T a + (b.length : Int) * S a + T b
  | [], b => by simp [S, T]
  | c :: l, b => by
    simp only [List.cons_append, T, S, T_append l b, List.length_append]
    have e : ((↑(l.length + b.length) : Int) + 1) * (c.toNat : Int) = ((l.length : Int) + 1) * (c.toNat : Int) + (b.length : Int) * (c.toNat : Int) := by
      rw [← Int.add_mul]; congr 1; omega
    rw [e, Int.mul_add]; omega

theorem S_one (c : UInt8) : S [c] = (c.toNat : Int) := by simp [S]
theorem T_one (c : UInt8) : T [c] = (c.toNat : Int) := by simp [T]

theorem byte_bd (c : UInt8) : 0 ≤ (c.toNat : Int) ∧ (c.toNat : Int) ≤ 255 := by
  have := c.toNat_lt; omega

theorem S_bd : ∀ l, 0 ≤ S l ∧ S l ≤ 255 * (l.length : Int)
  | [] => by simp [S]
  | c :: l => by have := S_bd l; have := byte_bd c; simp only [S, List.length_cons]; omega

theorem S_snoc (l : List UInt8) (c : UInt8) : S (l ++ [c]) = S l + (c.toNat : Int) := by rw [S_append, S_one]
theorem T_snoc (l : List UInt8) (c : UInt8) : T (l ++ [c]) = T l + S l + (c.toNat : Int) := by rw [T_append, T_one]; simp

theorem S_take_succ (l : List UInt8) (k : Nat) (h : k < l.length) : S (l.take (k + 1)) = S (l.take k) + (l[k].toNat : Int) := by
  rw [List.take_succ_eq_append_getElem h, S_snoc]
theorem T_take_succ (l : List UInt8) (k : Nat) (h : k < l.length) : T (l.take (k + 1)) = T (l.take k) + S (l.take k) + (l[k].toNat : Int) := by
  rw [List.take_succ_eq_append_getElem h, T_snoc]

/-- The parts, before the modulo. -/
def rl (a : Int) (l : List UInt8) : Int := a + S l
def rh (a b : Int) (l : List UInt8) : Int := b + (l.length : Int) * a + T l

theorem rl_take_succ (a : Int) (l : List UInt8) (k : Nat) (h : k < l.length) : rl a (l.take (k + 1)) = rl a (l.take k) + (l[k].toNat : Int) := by
  unfold rl; rw [S_take_succ l k h]; omega

theorem rh_take_succ (a b : Int) (l : List UInt8) (k : Nat) (h : k < l.length) : rh a b (l.take (k + 1)) = rh a b (l.take k) + rl a (l.take (k + 1)) := by
  unfold rh rl
  rw [T_take_succ l k h, S_take_succ l k h, List.length_take, List.length_take, Nat.min_eq_left (by omega), Nat.min_eq_left (by omega)]
  have : ((k + 1 : Nat) : Int) * a = (k : Int) * a + a := by rw [Int.natCast_add, Int.add_mul]; simp
  rw [this]; omega

/-- The parts. -/
def lo (a : Int) (l : List UInt8) : Int := rl a l % 65521
def hi (a b : Int) (l : List UInt8) : Int := rh a b l % 65521

theorem lo_bd (a : Int) (l : List UInt8) : 0 ≤ lo a l ∧ lo a l < 65521 := by unfold lo; omega
theorem hi_bd (a b : Int) (l : List UInt8) : 0 ≤ hi a b l ∧ hi a b l < 65521 := by unfold hi; omega

theorem lo_nil (a : Int) (h : 0 ≤ a) (h1 : a < 65521) : lo a [] = a := by unfold lo rl; simp [S]; omega
theorem hi_nil (a b : Int) (h : 0 ≤ b) (h1 : b < 65521) : hi a b [] = b := by unfold hi rh; simp [T]; omega

theorem lo_lo (a : Int) (l m : List UInt8) : lo (lo a l) m = lo a (l ++ m) := by
  unfold lo rl; rw [S_append]; omega

theorem hi_hi (a b : Int) (l m : List UInt8) : hi (lo a l) (hi a b l) m = hi a b (l ++ m) := by
  unfold hi rh lo
  obtain ⟨q, hq⟩ : ∃ q, rl a l % 65521 = rl a l - 65521 * q := ⟨rl a l / 65521, by omega⟩
  rw [hq, T_append, List.length_append]
  unfold rl
  obtain ⟨p, hp⟩ : ∃ p, p = b + ↑l.length * a + T l := ⟨_, rfl⟩
  have e1 : (m.length : Int) * (a + S l - 65521 * q) = (m.length : Int) * a + (m.length : Int) * S l - 65521 * ((m.length : Int) * q) := by
    rw [Int.mul_sub, Int.mul_add, Int.mul_left_comm]
  have e2 : ((l.length + m.length : Nat) : Int) * a = (l.length : Int) * a + (m.length : Int) * a := by rw [Int.natCast_add, Int.add_mul]
  rw [e1, e2, ← hp]
  have e3 : b + ((l.length : Int) * a + (m.length : Int) * a) + (T l + (m.length : Int) * S l + T m) = p + (m.length : Int) * a + (m.length : Int) * S l + T m := by rw [hp]; omega
  rw [e3]
  generalize (m.length : Int) * a = x
  generalize (m.length : Int) * S l = y
  generalize (m.length : Int) * q = z
  generalize T m = t
  omega

/-- One byte more, each part modulo at once. -/
theorem lo_step (a : Int) (l : List UInt8) (k : Nat) (h : k < l.length) : lo a (l.take (k + 1)) = (lo a (l.take k) + (l[k].toNat : Int)) % 65521 := by
  unfold lo; rw [rl_take_succ a l k h]; omega
theorem hi_step (a b : Int) (l : List UInt8) (k : Nat) (h : k < l.length) : hi a b (l.take (k + 1)) = (hi a b (l.take k) + lo a (l.take (k + 1))) % 65521 := by
  unfold hi lo; rw [rh_take_succ a b l k h]; omega

/-- Of a run of bytes so short the parts stay small before the modulo. -/
theorem rl_le (a : Int) (l : List UInt8) (ha : 0 ≤ a) (ha1 : a < 65521) (hl : l.length ≤ 5552) : 0 ≤ rl a l ∧ rl a l ≤ 1481280 := by
  have := S_bd l; unfold rl; omega

/-- Twice the bytes' sums up to each place. -/
theorem T_bd : ∀ l : List UInt8, 0 ≤ T l ∧ 2 * T l ≤ 255 * ((l.length : Int) * ((l.length : Int) + 1))
  | [] => by simp [T]
  | c :: l => by
    have ih := T_bd l
    have hc := byte_bd c
    have h1 : 0 ≤ ((l.length : Int) + 1) * (c.toNat : Int) := Int.mul_nonneg (by omega) hc.1
    have h2 : ((l.length : Int) + 1) * (c.toNat : Int) ≤ ((l.length : Int) + 1) * 255 := Int.mul_le_mul_of_nonneg_left hc.2 (by omega)
    simp only [T, List.length_cons]
    have e : ((l.length + 1 : Nat) : Int) * (((l.length + 1 : Nat) : Int) + 1) = (l.length : Int) * ((l.length : Int) + 1) + 2 * ((l.length : Int) + 1) := by
      generalize hn : (l.length : Int) = n
      have : ((l.length + 1 : Nat) : Int) = n + 1 := by omega
      rw [this, Int.mul_add, Int.add_mul, Int.mul_add]; omega
    rw [e]
    omega

theorem rh_le (a b : Int) (l : List UInt8) (ha : 0 ≤ a) (ha1 : a < 65521) (hb : 0 ≤ b) (hb1 : b < 65521) (hl : l.length ≤ 5552) : 0 ≤ rh a b l ∧ rh a b l ≤ 4294690200 := by
  have ht := T_bd l
  have h1 : 0 ≤ (l.length : Int) * a := Int.mul_nonneg (by omega) ha
  have h2 : (l.length : Int) * a ≤ (l.length : Int) * 65520 := Int.mul_le_mul_of_nonneg_left (by omega) (by omega)
  have h3 : (l.length : Int) * ((l.length : Int) + 1) ≤ 5552 * ((l.length : Int) + 1) := Int.mul_le_mul_of_nonneg_right (by omega) (by omega)
  unfold rh; omega

/-- The number of two parts. -/
def val (a b : Int) : Int := b * 65536 + a

/-- The parts of a number. -/
def low (n : Int) : Int := n % 65536 % 65521
def high (n : Int) : Int := n / 65536 % 65521

theorem low_bd (n : Int) : 0 ≤ low n ∧ low n < 65521 := by unfold low; omega
theorem high_bd (n : Int) : 0 ≤ high n ∧ high n < 65521 := by unfold high; omega
theorem low_val (a b : Int) (h : 0 ≤ a) (h1 : a < 65521) : low (val a b) = a := by unfold low val; omega
theorem high_val (a b : Int) (h : 0 ≤ a) (h1 : a < 65521) (h2 : 0 ≤ b) (h3 : b < 65521) : high (val a b) = b := by unfold high val; omega
theorem val_bd (a b : Int) (h : 0 ≤ a) (h1 : a < 65521) (h2 : 0 ≤ b) (h3 : b < 65521) : 0 ≤ val a b ∧ val a b ≤ 4294967295 := by unfold val; omega

/-- What comes of a sum that goes on with bytes. -/
def more (n : Int) (l : List UInt8) : Int := val (lo (low n) l) (hi (low n) (high n) l)
/-- The sum of bytes. -/
def sum (l : List UInt8) : Int := more 1 l

theorem sum_eq (l : List UInt8) : sum l = val (lo 1 l) (hi 1 0 l) := by
  unfold sum more
  rw [show low 1 = 1 by decide, show high 1 = 0 by decide]

theorem more_bd (n : Int) (l : List UInt8) : 0 ≤ more n l ∧ more n l ≤ 4294967295 := by
  have h1 := lo_bd (low n) l
  have h2 := hi_bd (low n) (high n) l
  exact val_bd _ _ h1.1 h1.2 h2.1 h2.2

theorem sum_bd (l : List UInt8) : 0 ≤ sum l ∧ sum l ≤ 4294967295 := more_bd 1 l

theorem low_more (n : Int) (l : List UInt8) : low (more n l) = lo (low n) l := by
  have h1 := lo_bd (low n) l
  exact low_val _ _ h1.1 h1.2
theorem high_more (n : Int) (l : List UInt8) : high (more n l) = hi (low n) (high n) l := by
  have h1 := lo_bd (low n) l
  have h2 := hi_bd (low n) (high n) l
  exact high_val _ _ h1.1 h1.2 h2.1 h2.2

theorem more_more (n : Int) (l m : List UInt8) : more (more n l) m = more n (l ++ m) := by
  show val (lo (low (more n l)) m) (hi (low (more n l)) (high (more n l)) m) = _
  rw [low_more, high_more, lo_lo, hi_hi]; rfl

theorem more_one_nil : more 1 [] = 1 := by decide

/-- Two sums put together. -/
def jlow (a b : Int) : Int := (low a + low b + 65520) % 65521
def jhigh (a b n : Int) : Int := (high a + high b + (if n < 0 then 0 else n) % 65521 * ((low a + 65520) % 65521)) % 65521
def join (a b n : Int) : Int := val (jlow a b) (jhigh a b n)

theorem jlow_bd (a b : Int) : 0 ≤ jlow a b ∧ jlow a b < 65521 := by unfold jlow; omega
theorem jhigh_bd (a b n : Int) : 0 ≤ jhigh a b n ∧ jhigh a b n < 65521 := by
  unfold jhigh
  generalize (if n < 0 then 0 else n) % 65521 * ((low a + 65520) % 65521) = x
  omega

theorem sum_parts (l m : List UInt8) : sum (l ++ m) = join (sum l) (sum m) m.length := by
  unfold sum join
  have a1 : low 1 = 1 := by decide
  have a2 : high 1 = 0 := by decide
  have e1 : jlow (more 1 l) (more 1 m) = lo (low 1) (l ++ m) := by
    unfold jlow; rw [low_more, low_more, a1]; unfold lo rl; rw [S_append]; omega
  have e2 : jhigh (more 1 l) (more 1 m) m.length = hi (low 1) (high 1) (l ++ m) := by
    unfold jhigh
    rw [high_more, high_more, low_more, a1, a2, if_neg (by omega)]
    unfold hi rh lo rl
    rw [T_append, List.length_append]
    generalize hA : S l = A
    generalize T l = B
    generalize T m = D
    obtain ⟨q, hq⟩ : ∃ q, (((1 + A) % 65521 + 65520) % 65521) = A - 65521 * q := ⟨A / 65521, by omega⟩
    obtain ⟨r, hr⟩ : ∃ r, ((m.length : Int) % 65521) = (m.length : Int) - 65521 * r := ⟨(m.length : Int) / 65521, by omega⟩
    rw [hq, hr]
    have e : ((m.length : Int) - 65521 * r) * (A - 65521 * q) = (m.length : Int) * A - 65521 * ((m.length : Int) * q + r * (A - 65521 * q)) := by
      rw [Int.sub_mul, Int.mul_sub, Int.mul_left_comm, Int.mul_add, Int.mul_assoc]; omega
    rw [e]
    generalize (m.length : Int) * A = x
    generalize ((m.length : Int) * q + r * (A - 65521 * q)) = y
    omega
  rw [e1, e2]; rfl

theorem sum_cat (l m : List UInt8) : more (sum l) m = sum (l ++ m) := more_more 1 l m

/-- One byte that is another one makes another sum. -/
theorem sum_other (p q : List UInt8) (x y : UInt8) (h : x ≠ y) : sum (p ++ [x] ++ q) ≠ sum (p ++ [y] ++ q) := by
  intro he
  have h1 := congrArg low he
  unfold sum at h1
  rw [low_more, low_more] at h1
  have a1 : low 1 = 1 := by decide
  rw [a1] at h1
  unfold lo rl at h1
  rw [S_append, S_append, S_append, S_append, S_one, S_one] at h1
  have hx := byte_bd x
  have hy := byte_bd y
  have : x.toNat = y.toNat := by omega
  exact h (UInt8.toNat_inj.1 this)

/-- Two unlike neighbours that are changed about make another sum. -/
theorem sum_swapped (p q : List UInt8) (x y : UInt8) (h : x ≠ y) : sum (p ++ [x, y] ++ q) ≠ sum (p ++ [y, x] ++ q) := by
  intro he
  have h1 := congrArg high he
  unfold sum at h1
  rw [high_more, high_more] at h1
  have a1 : low 1 = 1 := by decide
  have a2 : high 1 = 0 := by decide
  rw [a1, a2] at h1
  unfold hi rh at h1
  simp only [T_append, S_append, List.length_append, List.length_cons, List.length_nil, T, S] at h1
  have hx := byte_bd x
  have hy := byte_bd y
  have : x.toNat = y.toNat := by
    generalize S p = A at *
    generalize T p = B at *
    generalize T q = C at *
    generalize hn : (q.length : Int) * (A + (↑x.toNat + (↑y.toNat + 0))) = D at *
    have hd : (q.length : Int) * (A + (↑y.toNat + (↑x.toNat + 0))) = D := by rw [← hn]; congr 1; omega
    rw [hd] at h1
    omega
  exact h (UInt8.toNat_inj.1 this)

end Go.Proofs.Ytmcohgpgkeejpaa.Sums
