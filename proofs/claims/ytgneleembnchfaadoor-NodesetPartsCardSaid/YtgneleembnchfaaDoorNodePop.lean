/-
  How many bits of a number are set, byte by byte: plain.
-/
import Derived.Test.YtgneleembnchfaaDoorNodeMath
namespace Go.Proofs.YtgneleembnchfaaDoor.Node
set_option linter.unusedVariables false

/-- The byte c, k times. -/
def msk : Nat → Nat → Nat
  | 0, _ => 0
  | k + 1, c => 256 * msk k c + c

theorem and_split (x m : Nat) : x &&& m = 256 * ((x / 256) &&& (m / 256)) + ((x % 256) &&& (m % 256)) := by
  have h1 : (x &&& m) / 2 ^ 8 = x / 2 ^ 8 &&& m / 2 ^ 8 := Nat.and_div_two_pow
  have h2 : (x &&& m) % 2 ^ 8 = (x % 2 ^ 8) &&& (m % 2 ^ 8) := Nat.and_mod_two_pow
  have := Nat.div_add_mod (x &&& m) 256
  rw [show (2 : Nat) ^ 8 = 256 from rfl] at h1 h2
  rw [h1, h2] at this
  omega

theorem and_msk (k c x : Nat) (hc : c < 256) : x &&& msk (k + 1) c = 256 * ((x / 256) &&& msk k c) + ((x % 256) &&& c) := by
  rw [and_split x (msk (k + 1) c)]
  have e1 : (256 * msk k c + c) / 256 = msk k c := by omega
  have e2 : (256 * msk k c + c) % 256 = c := by omega
  rw [show msk (k + 1) c = 256 * msk k c + c from rfl, e1, e2]

def p1 (k x : Nat) : Nat := (x / 2 &&& msk k 85) + (x &&& msk k 85)
def p2 (k x : Nat) : Nat := (x / 4 &&& msk k 51) + (x &&& msk k 51)
def p3 (k x : Nat) : Nat := (x / 16 + x) &&& msk k 15

theorem t1 : ∀ h : Fin 2, ∀ b : Fin 256, ((h.val * 128 + b.val / 2) &&& 85) = ((b.val / 2) &&& 85) := by decide +kernel
theorem t2 : ∀ h : Fin 4, ∀ b : Fin 256, ((h.val * 64 + b.val / 4) &&& 51) = ((b.val / 4) &&& 51) := by decide +kernel
def f1 (b : Nat) : Nat := ((b / 2) &&& 85) + (b &&& 85)
def f2 (b : Nat) : Nat := ((b / 4) &&& 51) + (b &&& 51)
theorem t3 : ∀ b : Fin 256, f1 b.val < 256 ∧ f2 (f1 b.val) % 16 ≤ 4 ∧ f2 (f1 b.val) + f2 (f1 b.val) / 16 ≤ 72 ∧ (f2 (f1 b.val) + f2 (f1 b.val) / 16) % 16 = ones 8 b.val := by decide +kernel
theorem t4 : ∀ x : Fin 256, (x.val &&& 15) = x.val % 16 := by decide +kernel

theorem p1_step (k y b : Nat) (hb : b < 256) : p1 (k + 1) (256 * y + b) = 256 * p1 k y + f1 b := by
  unfold p1 f1
  rw [and_msk _ _ _ (by decide), and_msk _ _ _ (by decide)]
  have e1 : (256 * y + b) / 2 / 256 = y / 2 := by omega
  have e2 : (256 * y + b) / 2 % 256 = y % 2 * 128 + b / 2 := by omega
  have e3 : (256 * y + b) / 256 = y := by omega
  have e4 : (256 * y + b) % 256 = b := by omega
  have h := t1 ⟨y % 2, by omega⟩ ⟨b, hb⟩
  simp only at h
  rw [e1, e2, e3, e4, h]
  omega

theorem p2_step (k y b : Nat) (hb : b < 256) : p2 (k + 1) (256 * y + b) = 256 * p2 k y + f2 b := by
  unfold p2 f2
  rw [and_msk _ _ _ (by decide), and_msk _ _ _ (by decide)]
  have e1 : (256 * y + b) / 4 / 256 = y / 4 := by omega
  have e2 : (256 * y + b) / 4 % 256 = y % 4 * 64 + b / 4 := by omega
  have e3 : (256 * y + b) / 256 = y := by omega
  have e4 : (256 * y + b) % 256 = b := by omega
  have h := t2 ⟨y % 4, by omega⟩ ⟨b, hb⟩
  simp only at h
  rw [e1, e2, e3, e4, h]
  omega

def g2 (k x : Nat) : Nat := p2 k (p1 k x)
theorem g2_step (k y b : Nat) (hb : b < 256) : g2 (k + 1) (256 * y + b) = 256 * g2 k y + f2 (f1 b) := by
  unfold g2
  rw [p1_step k y b hb, p2_step k _ _ (t3 ⟨b, hb⟩).1]
theorem g2_low (k x : Nat) : g2 k x % 16 ≤ 4 := by
  cases k with
  | zero => simp [g2, p2, msk]
  | succ k =>
    have hx : x = 256 * (x / 256) + x % 256 := by omega
    rw [hx, g2_step k _ _ (Nat.mod_lt _ (by decide))]
    have := (t3 ⟨x % 256, Nat.mod_lt _ (by decide)⟩).2.1
    simp only at this
    omega

def g3 (k x : Nat) : Nat := p3 k (g2 k x)
theorem g3_step (k y b : Nat) (hb : b < 256) : g3 (k + 1) (256 * y + b) = 256 * g3 k y + ones 8 b := by
  unfold g3
  rw [g2_step k y b hb]
  have hl := g2_low k y
  obtain ⟨_, _, h2, h3⟩ := t3 ⟨b, hb⟩
  simp only at h2 h3
  obtain ⟨z, hz⟩ : ∃ z, z = g2 k y := ⟨_, rfl⟩
  obtain ⟨c, hc⟩ : ∃ c, c = f2 (f1 b) := ⟨_, rfl⟩
  rw [← hz] at hl ⊢
  rw [← hc] at h2 h3 ⊢
  unfold p3
  rw [and_msk _ _ _ (by decide)]
  have e0 : (256 * z + c) / 16 = 16 * z + c / 16 := by omega
  have e1 : (16 * z + c / 16 + (256 * z + c)) / 256 = z / 16 + z := by omega
  have e2 := t4 ⟨(16 * z + c / 16 + (256 * z + c)) % 256, Nat.mod_lt _ (by decide)⟩
  have e2 : (16 * z + c / 16 + (256 * z + c)) % 256 &&& 15 = (16 * z + c / 16 + (256 * z + c)) % 256 % 16 := e2
  have e3 : (16 * z + c / 16 + (256 * z + c)) % 256 % 16 = (c + c / 16) % 16 := by omega
  rw [e0, e1, e2, e3, h3]

theorem ones_step (k y b : Nat) (hb : b < 256) : ones (k + 8) (256 * y + b) = ones 8 b + ones k y := by
  have e : (256 * y + b) / 2 / 2 / 2 / 2 / 2 / 2 / 2 / 2 = y := by omega
  simp only [ones, e]
  omega

/-- The last steps: the sum of eight bytes, each at most 8. -/
def fin8 (x : Nat) : Nat :=
  let a := x + x / 256
  let b := a + a / 65536
  (b + b / 4294967296) % 128

theorem ones8_le (b : Nat) : ones 8 b ≤ 8 := ones_le 8 b

theorem div_of (M K r : Nat) (h : r < M) : (M * K + r) / M = K := by
  rw [Nat.mul_add_div (by omega), Nat.div_eq_of_lt h, Nat.add_zero]
theorem mod_of (K r : Nat) (h : r < 128) : (128 * K + r) % 128 = r := by
  rw [Nat.mul_add_mod, Nat.mod_eq_of_lt h]

theorem id1 (c0 c1 c2 c3 c4 c5 c6 c7 : Nat) : 256 * (256 * (256 * (256 * (256 * (256 * (256 * (256 * 0 + c7) + c6) + c5) + c4) + c3) + c2) + c1) + c0 + (256 * (256 * (256 * (256 * (256 * (256 * (256 * 0 + c7) + c6) + c5) + c4) + c3) + c2) + c1)
    = 65536 * (256 * (256 * (256 * (256 * (256 * c7 + (c6 + c7)) + (c5 + c6)) + (c4 + c5)) + (c3 + c4)) + (c2 + c3)) + (256 * (c1 + c2) + (c0 + c1)) := by omega
theorem id2 (c0 c1 c2 c3 c4 c5 c6 c7 : Nat) : 65536 * (256 * (256 * (256 * (256 * (256 * c7 + (c6 + c7)) + (c5 + c6)) + (c4 + c5)) + (c3 + c4)) + (c2 + c3)) + (256 * (c1 + c2) + (c0 + c1)) + (256 * (256 * (256 * (256 * (256 * c7 + (c6 + c7)) + (c5 + c6)) + (c4 + c5)) + (c3 + c4)) + (c2 + c3))
    = 4294967296 * (256 * (256 * (256 * c7 + (c6 + c7)) + (c5 + c6 + c7)) + (c4 + c5 + c6 + c7)) + (16777216 * (c3 + c4 + c5 + c6) + 65536 * (c2 + c3 + c4 + c5) + 256 * (c1 + c2 + c3 + c4) + (c0 + c1 + c2 + c3)) := by omega
theorem id3 (k c0 c1 c2 c3 c4 c5 c6 c7 : Nat) : 4294967296 * k + (16777216 * (c3 + c4 + c5 + c6) + 65536 * (c2 + c3 + c4 + c5) + 256 * (c1 + c2 + c3 + c4) + (c0 + c1 + c2 + c3)) + (256 * (256 * (256 * c7 + (c6 + c7)) + (c5 + c6 + c7)) + (c4 + c5 + c6 + c7))
    = 128 * (33554432 * k + 131072 * (c3 + c4 + c5 + c6) + 512 * (c2 + c3 + c4 + c5) + 2 * (c1 + c2 + c3 + c4) + 2 * (256 * (256 * c7 + (c6 + c7)) + (c5 + c6 + c7))) + (c0 + c1 + c2 + c3 + c4 + c5 + c6 + c7) := by omega

theorem fin8_sum (c0 c1 c2 c3 c4 c5 c6 c7 : Nat) (q0 : c0 ≤ 8) (q1 : c1 ≤ 8) (q2 : c2 ≤ 8) (q3 : c3 ≤ 8) (q4 : c4 ≤ 8) (q5 : c5 ≤ 8) (q6 : c6 ≤ 8) (q7 : c7 ≤ 8) :
    fin8 (256 * (256 * (256 * (256 * (256 * (256 * (256 * (256 * 0 + c7) + c6) + c5) + c4) + c3) + c2) + c1) + c0) = c0 + c1 + c2 + c3 + c4 + c5 + c6 + c7 := by
  unfold fin8
  simp only []
  rw [div_of 256 _ c0 (by omega), id1, div_of 65536 _ (256 * (c1 + c2) + (c0 + c1)) (by omega), id2, div_of 4294967296 _ (16777216 * (c3 + c4 + c5 + c6) + 65536 * (c2 + c3 + c4 + c5) + 256 * (c1 + c2 + c3 + c4) + (c0 + c1 + c2 + c3)) (by omega), id3, mod_of _ _ (by omega)]

theorem g3_all (s : Nat) (h : s < 18446744073709551616) : fin8 (g3 8 s) = ones 64 s := by
  obtain ⟨b0, y0, h0, e0⟩ : ∃ b y, b < 256 ∧ s = 256 * y + b := ⟨s % 256, s / 256, by omega, by omega⟩
  obtain ⟨b1, y1, h1, e1⟩ : ∃ b y, b < 256 ∧ y0 = 256 * y + b := ⟨y0 % 256, y0 / 256, by omega, by omega⟩
  obtain ⟨b2, y2, h2, e2⟩ : ∃ b y, b < 256 ∧ y1 = 256 * y + b := ⟨y1 % 256, y1 / 256, by omega, by omega⟩
  obtain ⟨b3, y3, h3, e3⟩ : ∃ b y, b < 256 ∧ y2 = 256 * y + b := ⟨y2 % 256, y2 / 256, by omega, by omega⟩
  obtain ⟨b4, y4, h4, e4⟩ : ∃ b y, b < 256 ∧ y3 = 256 * y + b := ⟨y3 % 256, y3 / 256, by omega, by omega⟩
  obtain ⟨b5, y5, h5, e5⟩ : ∃ b y, b < 256 ∧ y4 = 256 * y + b := ⟨y4 % 256, y4 / 256, by omega, by omega⟩
  obtain ⟨b6, y6, h6, e6⟩ : ∃ b y, b < 256 ∧ y5 = 256 * y + b := ⟨y5 % 256, y5 / 256, by omega, by omega⟩
  obtain ⟨b7, y7, h7, e7⟩ : ∃ b y, b < 256 ∧ y6 = 256 * y + b := ⟨y6 % 256, y6 / 256, by omega, by omega⟩
  have z0 : ∀ x, g3 0 x = 0 := fun x => by simp [g3, p3, msk]
  have o0 : ∀ x, ones 0 x = 0 := fun x => rfl
  rw [e0, g3_step _ _ _ h0, ones_step 56 _ _ h0, e1, g3_step _ _ _ h1, ones_step 48 _ _ h1, e2, g3_step _ _ _ h2, ones_step 40 _ _ h2, e3, g3_step _ _ _ h3, ones_step 32 _ _ h3,
    e4, g3_step _ _ _ h4, ones_step 24 _ _ h4, e5, g3_step _ _ _ h5, ones_step 16 _ _ h5, e6, g3_step _ _ _ h6, ones_step 8 _ _ h6, e7, g3_step _ _ _ h7, ones_step 0 _ _ h7, z0, o0]
  rw [fin8_sum _ _ _ _ _ _ _ _ (ones8_le _) (ones8_le _) (ones8_le _) (ones8_le _) (ones8_le _) (ones8_le _) (ones8_le _) (ones8_le _)]
  simp only [Nat.add_assoc, Nat.add_zero]

theorem m85 : msk 8 85 = 6148914691236517205 := rfl
theorem m51 : msk 8 51 = 3689348814741910323 := rfl
theorem m15 : msk 8 15 = 1085102592571150095 := rfl

end Go.Proofs.YtgneleembnchfaaDoor.Node
