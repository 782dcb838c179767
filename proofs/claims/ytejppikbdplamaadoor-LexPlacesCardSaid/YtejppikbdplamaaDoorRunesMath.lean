/-
  Layer 4, plain: the runes of a text as pieces of its bytes; checking, cutting, small letters, quoting.
-/
import Derived.Test.YtejppikbdplamaaDoorBase
import Derived.Lib.MapLaws
namespace Go.Proofs.YtejppikbdplamaaDoor.Runes
open Go.RowKit
open Base
open Go.Lib (decodeL decodeN encodeRune decodeL_N decodeN_shape decodeN_ascii decodeL_le decodeL_width takeA takeB takeC takeD encode_decode decodeL_drop)
set_option linter.unusedVariables false
set_option linter.unusedSimpArgs false

/-! What is read at the head of some bytes. -/

theorem dec2 (n b0 b1 b2 b3 : Nat) (h : b0 / 32 = 6) (h1 : 1 < n) (h2 : b1 / 64 = 2) (h3 : 128 ≤ b0 % 32 * 64 + b1 % 64) : decodeN n b0 b1 b2 b3 = (b0 % 32 * 64 + b1 % 64, 2) := by
  unfold decodeN; rw [if_neg (by omega), if_pos ⟨h, h1, h2⟩, if_pos h3]
theorem dec3 (n b0 b1 b2 b3 : Nat) (h : b0 / 16 = 14) (h1 : 2 < n) (h2 : b1 / 64 = 2) (h3 : b2 / 64 = 2) (h4 : 2048 ≤ b0 % 16 * 4096 + b1 % 64 * 64 + b2 % 64)
    (h5 : b0 % 16 * 4096 + b1 % 64 * 64 + b2 % 64 < 55296 ∨ 57344 ≤ b0 % 16 * 4096 + b1 % 64 * 64 + b2 % 64) : decodeN n b0 b1 b2 b3 = (b0 % 16 * 4096 + b1 % 64 * 64 + b2 % 64, 3) := by
  unfold decodeN; rw [if_neg (by omega), if_neg (by omega), if_pos ⟨h, ⟨by omega, h2⟩, h1, h3⟩, if_pos ⟨h4, by omega⟩]
theorem dec4 (n b0 b1 b2 b3 : Nat) (h : b0 / 8 = 30) (h1 : 3 < n) (h2 : b1 / 64 = 2) (h3 : b2 / 64 = 2) (h4 : b3 / 64 = 2) (h5 : 65536 ≤ b0 % 8 * 262144 + b1 % 64 * 4096 + b2 % 64 * 64 + b3 % 64)
    (h6 : b0 % 8 * 262144 + b1 % 64 * 4096 + b2 % 64 * 64 + b3 % 64 ≤ 1114111) : decodeN n b0 b1 b2 b3 = (b0 % 8 * 262144 + b1 % 64 * 4096 + b2 % 64 * 64 + b3 % 64, 4) := by
  unfold decodeN; rw [if_neg (by omega), if_neg (by omega), if_neg (by omega), if_pos ⟨h, ⟨by omega, h2⟩, ⟨by omega, h3⟩, h1, h4⟩, if_pos ⟨h5, by omega⟩]

/-- One byte below 128, one byte that is no rune, or a rune of two bytes or more, all from 128 on, whatever is behind. -/
theorem dec_cases (l : List UInt8) (hne : l ≠ []) :
    ((l.getD 0 0).toNat < 128 ∧ decodeL l = ((l.getD 0 0).toNat, 1)) ∨
    (128 ≤ (l.getD 0 0).toNat ∧ decodeL l = (65533, 1)) ∨
    (2 ≤ (decodeL l).2 ∧ 128 ≤ (decodeL l).1 ∧ (∀ b ∈ l.take (decodeL l).2, 128 ≤ b.toNat) ∧ ∀ m : List UInt8, (decodeL l).2 ≤ m.length → m.take (decodeL l).2 = l.take (decodeL l).2 → decodeL m = decodeL l) := by
  rw [decodeL_N l]
  have k0 := (l.getD 0 0).toNat_lt
  rcases decodeN_shape l.length (l.getD 0 0).toNat (l.getD 1 0).toNat (l.getD 2 0).toNat (l.getD 3 0).toNat with ⟨c, e⟩ | ⟨c1, c2, c3, cv, e⟩ | ⟨c1, c2, c3, c4, cv, cs, e⟩ | ⟨c1, c2, c3, c4, c5, cv, cw, e⟩ | e
  · exact .inl ⟨c, e⟩
  · right; right
    rw [e]
    refine ⟨Nat.le_refl _, cv, ?_, fun m hm ht => ?_⟩
    · rw [takeB l c2]; simp only [List.mem_cons, List.not_mem_nil, or_false]
      rintro b (rfl | rfl) <;> omega
    · dsimp only at hm ht
      rw [takeB l c2, takeB m (by omega)] at ht
      simp only [List.cons.injEq, and_true] at ht
      rw [decodeL_N m, ht.1, ht.2]
      exact dec2 _ _ _ _ _ c1 (by omega) c3 cv
  · right; right
    rw [e]
    refine ⟨by dsimp only; omega, by dsimp only; omega, ?_, fun m hm ht => ?_⟩
    · rw [takeC l c2]; simp only [List.mem_cons, List.not_mem_nil, or_false]
      rintro b (rfl | rfl | rfl) <;> omega
    · dsimp only at hm ht
      rw [takeC l c2, takeC m (by omega)] at ht
      simp only [List.cons.injEq, and_true] at ht
      rw [decodeL_N m, ht.1, ht.2.1, ht.2.2]
      exact dec3 _ _ _ _ _ c1 (by omega) c3 c4 cv cs
  · right; right
    rw [e]
    refine ⟨by dsimp only; omega, by dsimp only; omega, ?_, fun m hm ht => ?_⟩
    · rw [takeD l c2]; simp only [List.mem_cons, List.not_mem_nil, or_false]
      rintro b (rfl | rfl | rfl | rfl) <;> omega
    · dsimp only at hm ht
      rw [takeD l c2, takeD m (by omega)] at ht
      simp only [List.cons.injEq, and_true] at ht
      rw [decodeL_N m, ht.1, ht.2.1, ht.2.2.1, ht.2.2.2]
      exact dec4 _ _ _ _ _ c1 (by omega) c3 c4 c5 cv cw
  · by_cases h : (l.getD 0 0).toNat < 128
    · exact .inl ⟨h, decodeN_ascii _ _ _ _ _ h⟩
    · exact .inr (.inl ⟨by omega, e⟩)

/-! The pieces. -/

def pcF : Nat → List UInt8 → List (Nat × List UInt8)
  | 0, _ => []
  | f + 1, l => if l = [] then [] else ((decodeL l).1, l.take (decodeL l).2) :: pcF f (l.drop (decodeL l).2)
/-- Each rune of a text: its number, its bytes. -/
def pc (l : List UInt8) : List (Nat × List UInt8) := pcF l.length l

theorem pcF_nil (f : Nat) : pcF f [] = [] := by cases f <;> simp [pcF]
theorem pcF_fuel : ∀ (n m : Nat) (l : List UInt8), l.length ≤ n → l.length ≤ m → pcF n l = pcF m l
  | 0, m, l, hn, _ => by
    have : l = [] := List.eq_nil_of_length_eq_zero (by omega)
    subst this; rw [pcF_nil, pcF_nil]
  | n + 1, 0, l, _, hm => by
    have : l = [] := List.eq_nil_of_length_eq_zero (by omega)
    subst this; rw [pcF_nil, pcF_nil]
  | n + 1, m + 1, l, hn, hm => by
    by_cases hne : l = []
    · subst hne; rw [pcF_nil, pcF_nil]
    · have hw := decodeL_width l
      have hl : 0 < l.length := List.length_pos_iff.2 hne
      simp only [pcF, if_neg hne]
      rw [pcF_fuel n m _ (by rw [List.length_drop]; omega) (by rw [List.length_drop]; omega)]
theorem pc_nil : pc [] = [] := rfl
theorem pc_step (l : List UInt8) (hne : l ≠ []) : pc l = ((decodeL l).1, l.take (decodeL l).2) :: pc (l.drop (decodeL l).2) := by
  have hw := decodeL_width l
  have hl : 0 < l.length := List.length_pos_iff.2 hne
  unfold pc
  obtain ⟨n, hn⟩ : ∃ n, l.length = n + 1 := ⟨l.length - 1, by omega⟩
  rw [hn]
  simp only [pcF, if_neg hne]
  rw [pcF_fuel n _ _ (by rw [List.length_drop]; omega) (Nat.le_refl _)]

/-- To go through a text piece by piece. -/
theorem pc_ind {P : List UInt8 → Prop} (h0 : P []) (h1 : ∀ l, l ≠ [] → P (l.drop (decodeL l).2) → P l) (l : List UInt8) : P l := by
  suffices h : ∀ n (l : List UInt8), l.length ≤ n → P l from h l.length l (Nat.le_refl _)
  intro n
  induction n with
  | zero => intro l hl; have : l = [] := List.eq_nil_of_length_eq_zero (by omega); subst this; exact h0
  | succ n ih =>
    intro l hl
    by_cases hne : l = []
    · subst hne; exact h0
    · have hw := decodeL_width l
      exact h1 l hne (ih _ (by rw [List.length_drop]; omega))

theorem pc_ascii (b : UInt8) (t : List UInt8) (h : b.toNat < 128) : pc (b :: t) = (b.toNat, [b]) :: pc t := by
  have hd : decodeL (b :: t) = (b.toNat, 1) := by
    rw [decodeL_N]; exact decodeN_ascii _ _ _ _ _ (by simpa using h)
  rw [pc_step _ (by simp), hd]; simp

/-- What stands ahead of a byte below 128 is read as if it were alone. -/
theorem dec_ahead (x : List UInt8) (b : UInt8) (t : List UInt8) (hx : x ≠ []) (hb : b.toNat < 128) : decodeL (x ++ b :: t) = decodeL x := by
  have hg : (x ++ b :: t).getD 0 0 = x.getD 0 0 := by
    cases x with
    | nil => exact absurd rfl hx
    | cons y z => rfl
  rcases dec_cases x hx with ⟨h, e⟩ | ⟨h, e⟩ | ⟨h1, h2, h3, h4⟩
  · rcases dec_cases (x ++ b :: t) (by simp) with ⟨k, f⟩ | ⟨k, f⟩ | ⟨k1, k2, k3, k4⟩
    · rw [e, f, hg]
    · rw [hg] at k; omega
    · have := k3 (x.getD 0 0) (by
        cases x with
        | nil => exact absurd rfl hx
        | cons y z =>
          obtain ⟨k, hk⟩ : ∃ k, (decodeL (y :: z ++ b :: t)).2 = k + 1 := ⟨(decodeL (y :: z ++ b :: t)).2 - 1, by omega⟩
          rw [hk]; simp)
      omega
  · rcases dec_cases (x ++ b :: t) (by simp) with ⟨k, f⟩ | ⟨k, f⟩ | ⟨k1, k2, k3, k4⟩
    · rw [hg] at k; omega
    · rw [e, f]
    · by_cases hk : (decodeL (x ++ b :: t)).2 ≤ x.length
      · rw [k4 x hk (by rw [List.take_append_of_le_length hk])]
      · have := k3 b (by
          obtain ⟨j, hj⟩ : ∃ j, (decodeL (x ++ b :: t)).2 = x.length + (j + 1) := ⟨(decodeL (x ++ b :: t)).2 - x.length - 1, by omega⟩
          rw [hj, List.take_length_add_append]; simp)
        omega
  · have hle := decodeL_le x hx
    exact h4 _ (by simp; omega) (List.take_append_of_le_length hle)

theorem pc_append (x : List UInt8) (b : UInt8) (t : List UInt8) (hb : b.toNat < 128) : pc (x ++ b :: t) = pc x ++ (b.toNat, [b]) :: pc t := by
  induction x using pc_ind with
  | h0 => rw [List.nil_append, pc_nil, List.nil_append, pc_ascii b t hb]
  | h1 x hne ih =>
    have hle := decodeL_le x hne
    rw [pc_step _ (by simp), pc_step x hne, dec_ahead x b t hne hb, List.take_append_of_le_length hle, List.drop_append_of_le_length hle, ih, List.cons_append]

theorem pc_bytes (l : List UInt8) : (pc l).flatMap (·.2) = l := by
  induction l using pc_ind with
  | h0 => rfl
  | h1 l hne ih => rw [pc_step l hne, List.flatMap_cons, ih, List.take_append_drop]

theorem pc_length (l : List UInt8) : (pc l).length ≤ l.length := by
  induction l using pc_ind with
  | h0 => simp [pc_nil]
  | h1 l hne ih =>
    have hw := decodeL_width l
    have hle := decodeL_le l hne
    rw [pc_step l hne, List.length_cons]
    rw [List.length_drop] at ih
    omega

/-! Classes, and the first bad rune. -/

def cls (r : Int) : Int :=
  if r < 9 ∨ (10 ≤ r ∧ r ≤ 31) ∨ (127 ≤ r ∧ r ≤ 160) ∨ (55296 ≤ r ∧ r ≤ 57343) ∨ r = 65533 ∨ 1114111 < r then 0
  else if r = 9 ∨ r = 32 then 1 else if 48 ≤ r ∧ r ≤ 57 then 3 else if (65 ≤ r ∧ r ≤ 90) ∨ (97 ≤ r ∧ r ≤ 122) ∨ 161 ≤ r then 2 else 4

def chk : Nat → List (Nat × List UInt8) → Nat × Bool
  | n, [] => (n, false)
  | n, q :: t => if cls q.1 = 0 then (n, true) else chk (n + 1) t

theorem chk_good (n : Nat) (l : List (Nat × List UInt8)) : ((chk n l).2 = false ∧ (chk n l).1 = n + l.length ∧ ∀ q ∈ l, cls q.1 ≠ 0) ∨ ((chk n l).2 = true ∧ n ≤ (chk n l).1 ∧ (chk n l).1 < n + l.length ∧ ¬ ∀ q ∈ l, cls q.1 ≠ 0) := by
  induction l generalizing n with
  | nil => left; simp [chk]
  | cons q t ih =>
    by_cases h : cls q.1 = 0
    · right; simp [chk, h]
    · simp only [chk, if_neg h, List.length_cons, List.mem_cons, forall_eq_or_imp]
      rcases ih (n + 1) with ⟨a, b, c⟩ | ⟨a, b, c, d⟩
      · left; exact ⟨a, by omega, h, c⟩
      · right; exact ⟨a, by omega, by omega, fun x => d x.2⟩

def Good (l : List UInt8) : Prop := ∀ q ∈ pc l, cls q.1 ≠ 0
theorem good_append (x : List UInt8) (b : UInt8) (t : List UInt8) (hb : b.toNat < 128) : Good (x ++ b :: t) ↔ Good x ∧ cls b.toNat ≠ 0 ∧ Good t := by
  unfold Good
  rw [pc_append x b t hb]
  simp only [List.mem_append, List.mem_cons]
  constructor
  · intro h
    have h2 := h (b.toNat, [b]) (Or.inr (Or.inl rfl))
    exact ⟨fun q hq => h q (Or.inl hq), h2, fun q hq => h q (Or.inr (Or.inr hq))⟩
  · rintro ⟨h1, h2, h3⟩ q (hq | hq | hq)
    · exact h1 q hq
    · rw [hq]; exact h2
    · exact h3 q hq
theorem good_nil : Good [] := by simp [Good, pc_nil]
theorem good_cons (b : UInt8) (t : List UInt8) (hb : b.toNat < 128) : Good (b :: t) ↔ cls b.toNat ≠ 0 ∧ Good t := by
  have := good_append [] b t hb
  simpa [good_nil] using this

/-- The piece at the head of a text that has no bad rune. -/
theorem good_head (l : List UInt8) (hne : l ≠ []) (hg : Good l) :
    encodeRune ((decodeL l).1 : Int) = l.take (decodeL l).2 ∧ Good (l.drop (decodeL l).2) ∧
    ((∃ b, l.take (decodeL l).2 = [b] ∧ b.toNat = (decodeL l).1 ∧ b.toNat < 128) ∨ (128 ≤ (decodeL l).1 ∧ ∀ b ∈ l.take (decodeL l).2, 128 ≤ b.toNat)) := by
  unfold Good at hg
  rw [pc_step l hne] at hg
  simp only [List.mem_cons, forall_eq_or_imp] at hg
  have hv : ¬ ((decodeL l).1 = 65533 ∧ (decodeL l).2 = 1) := by
    rintro ⟨h, _⟩
    exact hg.1 (by rw [h]; decide)
  refine ⟨encode_decode l hne hv, hg.2, ?_⟩
  rcases dec_cases l hne with ⟨h, e⟩ | ⟨h, e⟩ | ⟨h1, h2, h3, h4⟩
  · left
    refine ⟨l.getD 0 0, ?_, by rw [e], h⟩
    rw [e]; exact takeA l (List.length_pos_iff.2 hne)
  · rw [e] at hv; exact absurd ⟨rfl, rfl⟩ hv
  · exact .inr ⟨h2, h3⟩

/-! Quoting. -/

def mkB (b : UInt8) : Bool := b == 34 || b == 92
def mkR (r : Nat) : Bool := r == 34 || r == 92
def mk (l : List UInt8) : List UInt8 := l.flatMap fun b => if mkB b then [92, b] else [b]

theorem mkB_nat (b : UInt8) : mkB b = mkR b.toNat := by
  unfold mkB mkR
  have e1 : (b == 34) = (b.toNat == 34) := by rw [Bool.eq_iff_iff, beq_iff_eq, beq_iff_eq, ← UInt8.toNat_inj]; exact Iff.rfl
  have e2 : (b == 92) = (b.toNat == 92) := by rw [Bool.eq_iff_iff, beq_iff_eq, beq_iff_eq, ← UInt8.toNat_inj]; exact Iff.rfl
  rw [e1, e2]
theorem mk_nil : mk [] = [] := rfl
theorem mk_cons (b : UInt8) (t : List UInt8) : mk (b :: t) = (if mkB b then [92, b] else [b]) ++ mk t := by simp [mk, List.flatMap_cons]
theorem mk_append (x y : List UInt8) : mk (x ++ y) = mk x ++ mk y := by simp [mk, List.flatMap_append]
theorem mk_high (l : List UInt8) (h : ∀ b ∈ l, mkB b = false) : mk l = l := by
  induction l with
  | nil => rfl
  | cons b t ih =>
    simp only [List.mem_cons, forall_eq_or_imp] at h
    rw [mk_cons, ih h.2, h.1]; rfl
theorem high_mark {b : UInt8} (h : 128 ≤ b.toNat) : mkB b = false := by
  rw [mkB_nat]; simp [mkR]; omega
theorem mk_length (l : List UInt8) : (mk l).length ≤ 2 * l.length := by
  induction l with
  | nil => simp [mk]
  | cons b t ih =>
    rw [mk_cons, List.length_append, List.length_cons]
    split <;> simp <;> omega
theorem mark_low {b : UInt8} (h : mkB b = true) : b.toNat < 128 ∧ cls b.toNat ≠ 0 := by
  rw [mkB_nat] at h
  simp only [mkR, Bool.or_eq_true, beq_iff_eq] at h
  rcases h with h | h <;> rw [h] <;> decide

/-- Up to the first mark. -/
theorem first_mark (l : List UInt8) : (∀ b ∈ l, mkB b = false) ∨ ∃ x m t, l = x ++ m :: t ∧ (∀ b ∈ x, mkB b = false) ∧ mkB m = true := by
  induction l with
  | nil => left; simp
  | cons b t ih =>
    cases hb : mkB b with
    | true => right; exact ⟨[], b, t, rfl, by simp, hb⟩
    | false =>
      rcases ih with h | ⟨x, m, u, rfl, hx, hm⟩
      · left; simp only [List.mem_cons, forall_eq_or_imp]; exact ⟨hb, h⟩
      · right; exact ⟨b :: x, m, u, rfl, by simp only [List.mem_cons, forall_eq_or_imp]; exact ⟨hb, hx⟩, hm⟩

theorem good_mk (l : List UInt8) : Good (mk l) ↔ Good l := by
  suffices h : ∀ n (l : List UInt8), l.length ≤ n → (Good (mk l) ↔ Good l) from h l.length l (Nat.le_refl _)
  intro n
  induction n with
  | zero => intro l hl; have : l = [] := List.eq_nil_of_length_eq_zero (by omega); subst this; rw [mk_nil]
  | succ n ih =>
    intro l hl
    rcases first_mark l with h | ⟨x, m, t, rfl, hx, hm⟩
    · rw [mk_high l h]
    · have hlo := mark_low hm
      have e : mk (x ++ m :: t) = x ++ (92 : UInt8) :: ([] ++ m :: mk t) := by rw [mk_append, mk_high x hx, mk_cons, if_pos hm]; rfl
      simp only [List.length_append, List.length_cons] at hl
      rw [e, good_append x 92 _ (by decide), good_append [] m _ hlo.1, good_append x m t hlo.1, ih t (by omega)]
      constructor
      · rintro ⟨a, _, _, b, c⟩; exact ⟨a, b, c⟩
      · rintro ⟨a, b, c⟩; exact ⟨a, by decide, good_nil, b, c⟩

/-- A text quoted. -/
def qt (l : List UInt8) : List UInt8 := 34 :: (mk l ++ [34])
theorem good_qt (l : List UInt8) : Good (qt l) ↔ Good l := by
  unfold qt
  rw [good_cons _ _ (by decide), good_append (mk l) 34 [] (by decide), good_mk]
  constructor
  · rintro ⟨_, h, _⟩; exact h
  · intro h; exact ⟨by decide, h, by decide, good_nil⟩

/-- Rune by rune, as the program writes it. -/
def qr : List (Nat × List UInt8) → List UInt8
  | [] => []
  | q :: t => (if mkR q.1 then [92] else []) ++ encodeRune (q.1 : Int) ++ qr t

theorem qr_good (l : List UInt8) (hg : Good l) : qr (pc l) = mk l := by
  induction l using pc_ind with
  | h0 => rfl
  | h1 l hne ih =>
    obtain ⟨h1, h2, h3⟩ := good_head l hne hg
    rw [pc_step l hne, qr, ih h2, h1]
    conv => rhs; rw [← List.take_append_drop (decodeL l).2 l, mk_append]
    congr 1
    rcases h3 with ⟨b, e, eb, hb⟩ | ⟨h4, h5⟩
    · rw [e, ← eb, ← mkB_nat, mk_cons, mk_nil, List.append_nil]
      cases mkB b <;> rfl
    · rw [mk_high _ fun b hb => high_mark (h5 b hb)]
      have : mkR (decodeL l).1 = false := by simp [mkR]; omega
      rw [this]; rfl

def unR : List (Nat × List UInt8) → Bool → Option (List UInt8)
  | [], m => if m then none else some []
  | q :: t, m => if q.1 = 92 ∧ m = false then unR t true else if mkR q.1 ≠ m then none else (unR t false).map (encodeRune (q.1 : Int) ++ ·)
def unB : List UInt8 → Bool → Option (List UInt8)
  | [], m => if m then none else some []
  | b :: t, m => if b = 92 ∧ m = false then unB t true else if mkB b ≠ m then none else (unB t false).map (b :: ·)

theorem unB_high (p t : List UInt8) (h : ∀ b ∈ p, 128 ≤ b.toNat) : unB (p ++ t) false = (unB t false).map (p ++ ·) := by
  induction p with
  | nil => simp
  | cons b p ih =>
    simp only [List.mem_cons, forall_eq_or_imp] at h
    have h1 := high_mark h.1
    have h2 : b ≠ 92 := by rintro rfl; exact absurd h.1 (by decide)
    rw [List.cons_append, unB, if_neg (fun x => h2 x.1), if_neg (by rw [h1]; simp), ih h.2, Option.map_map]
    rfl

theorem un_good (l : List UInt8) (hg : Good l) (m : Bool) : unR (pc l) m = unB l m := by
  induction l using pc_ind generalizing m with
  | h0 => rfl
  | h1 l hne ih =>
    obtain ⟨h1, h2, h3⟩ := good_head l hne hg
    rw [pc_step l hne, unR, h1, ih h2, ih h2]
    conv => rhs; rw [← List.take_append_drop (decodeL l).2 l]
    rcases h3 with ⟨b, e, eb, hb⟩ | ⟨h4, h5⟩
    · have e92 : (b.toNat = 92) = (b = 92) := by
        apply propext; constructor
        · intro h; apply UInt8.toNat_inj.1; rw [h]; rfl
        · rintro rfl; rfl
      rw [e, ← eb, ← mkB_nat, List.singleton_append, unB]
      simp only [e92]
      rfl
    · have h6 : mkR (decodeL l).1 = false := by simp [mkR]; omega
      have h8 : ¬ ((decodeL l).1 = 92 ∧ m = false) := by rintro ⟨h, _⟩; omega
      rw [if_neg h8, h6]
      cases m with
      | false => rw [if_neg (by simp), unB_high _ _ h5]
      | true =>
        rw [if_pos (by simp)]
        have hw := decodeL_width l
        have hle := decodeL_le l hne
        cases hp : l.take (decodeL l).2 with
        | nil =>
          have h9 := congrArg List.length hp
          rw [List.length_take, List.length_nil] at h9
          have := List.length_pos_iff.2 hne
          omega
        | cons b p =>
          rw [hp] at h5
          have h7 := high_mark (h5 b (by simp))
          rw [List.cons_append, unB, if_neg (by simp), if_pos (by rw [h7]; simp)]

theorem un_mk (u : List UInt8) : unB (mk u) false = some u := by
  induction u with
  | nil => rfl
  | cons b t ih =>
    rw [mk_cons]
    cases hb : mkB b with
    | true =>
      have h92 : mkB 92 = true := by decide
      rw [if_pos rfl, List.cons_append, List.singleton_append, unB, if_pos ⟨rfl, rfl⟩, unB, if_neg (by simp), if_neg (by rw [hb]; simp), ih]; rfl
    | false =>
      have : b ≠ 92 := by rintro rfl; exact absurd hb (by decide)
      rw [if_neg (by simp), List.singleton_append, unB, if_neg (fun x => this x.1), if_neg (by rw [hb]; simp), ih]; rfl

theorem mk_un (m : List UInt8) : (∀ u, unB m false = some u → mk u = m) ∧ (∀ u, unB m true = some u → ∃ b t u', m = b :: t ∧ mkB b = true ∧ u = b :: u' ∧ mk u' = t) := by
  induction m with
  | nil => refine ⟨fun u h => ?_, fun u h => ?_⟩ <;> simp [unB] at h; subst h; rfl
  | cons b t ih =>
    refine ⟨fun u h => ?_, fun u h => ?_⟩
    · rw [unB] at h
      split at h
      · rename_i hb
        obtain ⟨c, t', u', rfl, hc, rfl, rfl⟩ := ih.2 u h
        rw [mk_cons, if_pos hc, hb.1]; rfl
      · split at h
        · cases h
        · rename_i h1 h2
          obtain ⟨v, hv, rfl⟩ := Option.map_eq_some_iff.1 h
          have hb : mkB b = false := by simpa using h2
          rw [mk_cons, hb, ih.1 v hv]; rfl
    · rw [unB, if_neg (by simp)] at h
      split at h
      · cases h
      · rename_i h2
        obtain ⟨v, hv, rfl⟩ := Option.map_eq_some_iff.1 h
        exact ⟨b, t, v, rfl, by simpa using h2, rfl, ih.1 v hv⟩

/-- What the document's plain answer leaves of a quoted text. -/
def skp : List UInt8 → List UInt8
  | [] => []
  | [b] => [b]
  | b :: c :: t => if b = 92 then c :: skp t else b :: skp (c :: t)
theorem skp_cons {b : UInt8} (h : b ≠ 92) (t : List UInt8) : skp (b :: t) = b :: skp t := by
  cases t with
  | nil => rfl
  | cons c t => rw [skp, if_neg h]
theorem skp_mk (u : List UInt8) : skp (mk u) = u := by
  induction u with
  | nil => rfl
  | cons b t ih =>
    rw [mk_cons]
    cases hb : mkB b with
    | true => rw [if_pos rfl, List.cons_append, List.singleton_append, skp, if_pos rfl, ih]
    | false =>
      have : b ≠ 92 := by rintro rfl; exact absurd hb (by decide)
      rw [if_neg (by simp), List.singleton_append, skp_cons this, ih]
theorem skp_length (l : List UInt8) : (skp l).length ≤ l.length := by
  suffices h : ∀ n (l : List UInt8), l.length ≤ n → (skp l).length ≤ l.length from h l.length l (Nat.le_refl _)
  intro n
  induction n with
  | zero => intro l hl; have : l = [] := List.eq_nil_of_length_eq_zero (by omega); subst this; simp [skp]
  | succ n ih =>
    intro l hl
    match l with
    | [] => simp [skp]
    | [b] => simp [skp]
    | b :: c :: t =>
      simp only [List.length_cons] at hl
      rw [skp]
      split
      · have := ih t (by omega); simp; omega
      · have := ih (c :: t) (by simp; omega); simp at this ⊢; omega

/-- What stands between the quotes; and unquoting. -/
def inner (l : List UInt8) : List UInt8 := l.tail.dropLast
def shut (l : List UInt8) : Bool := l.head? == some 34 && l.tail.getLast? == some 34
def uq (l : List UInt8) : Option (List UInt8) := if shut l then unB (inner l) false else none

theorem shut_eq {l : List UInt8} (h : shut l = true) : l = 34 :: (inner l ++ [34]) := by
  simp only [shut, Bool.and_eq_true, beq_iff_eq] at h
  cases l with
  | nil => simp at h
  | cons b t =>
    simp only [List.head?_cons, Option.some.injEq, List.tail_cons] at h
    unfold inner
    rw [List.tail_cons, h.1]
    congr 1
    cases t with
    | nil => simp at h
    | cons c t =>
      have h2 := h.2
      rw [List.getLast?_eq_some_getLast (by simp), Option.some.injEq] at h2
      rw [← h2]
      exact (List.dropLast_concat_getLast _).symm
theorem shut_qt (x : List UInt8) : shut (34 :: (x ++ [34])) = true ∧ inner (34 :: (x ++ [34])) = x := by
  unfold shut inner
  constructor
  · simp
  · simp
theorem uq_some {l u : List UInt8} (h : uq l = some u) : qt u = l := by
  unfold uq at h
  split at h
  · rename_i hs
    have h1 := shut_eq hs
    rw [h1]
    unfold qt
    rw [(mk_un _).1 u h]
  · cases h
theorem uq_qt (u : List UInt8) : uq (qt u) = some u := by
  unfold uq qt
  rw [(shut_qt _).1, (shut_qt _).2, if_pos rfl, un_mk]
theorem skp_uq {l u : List UInt8} (h : uq l = some u) : skp (inner l) = u := by
  have h1 := uq_some h
  rw [← h1]
  unfold qt
  rw [(shut_qt _).2, skp_mk]
theorem good_inner {l : List UInt8} (hs : shut l = true) (hg : Good l) : Good (inner l) := by
  rw [shut_eq hs, good_cons _ _ (by decide), good_append _ 34 [] (by decide)] at hg
  exact hg.2.1

/-! Places. -/

def plc : Nat → List (Nat × List UInt8) → Nat
  | 0, _ => 0
  | _ + 1, [] => 0
  | n + 1, q :: t => q.2.length + plc n t
def sts : Nat → List (Nat × List UInt8) → List Nat
  | _, [] => []
  | p, q :: t => p :: sts (p + q.2.length) t

theorem sts_length (p : Nat) (l : List (Nat × List UInt8)) : (sts p l).length = l.length := by
  induction l generalizing p with
  | nil => rfl
  | cons q t ih => simp [sts, ih]
theorem sts_at (p : Nat) (l : List (Nat × List UInt8)) (z : Nat) (hz : z = p + (l.flatMap (·.2)).length) (n : Nat) (hn : n ≤ l.length) : (sts p l ++ [z]).getD n 0 = p + plc n l := by
  induction l generalizing p n with
  | nil =>
    obtain rfl : n = 0 := by simpa using hn
    simp [sts, plc, hz]
  | cons q t ih =>
    cases n with
    | zero => simp [sts, plc]
    | succ n =>
      have h1 := ih (p + q.2.length) (by rw [hz, List.flatMap_cons, List.length_append]; omega) n (by simpa using hn)
      rw [sts, List.cons_append, plc, ← Nat.add_assoc, ← h1]
      simp [List.getD]
theorem plc_le (n : Nat) (l : List (Nat × List UInt8)) : plc n l ≤ (l.flatMap (·.2)).length := by
  induction l generalizing n with
  | nil => cases n <;> simp [plc]
  | cons q t ih =>
    cases n with
    | zero => simp [plc]
    | succ n => have := ih n; rw [plc, List.flatMap_cons, List.length_append]; omega

/-- What is cut off behind n runes has n runes. -/
theorem cut_front (n : Nat) (l : List UInt8) (hn : n ≤ (pc l).length) : (pc (l.take (plc n (pc l)))).length = n := by
  induction n generalizing l with
  | zero => simp [plc, pc_nil]
  | succ n ih =>
    have hne : l ≠ [] := by rintro rfl; simp [pc_nil] at hn
    have hle := decodeL_le l hne
    have hw := decodeL_width l
    rw [pc_step l hne] at hn ⊢
    have hn2 : n ≤ (pc (l.drop (decodeL l).2)).length := by simpa using hn
    rw [plc, List.length_take, Nat.min_eq_left hle]
    obtain ⟨j, hj⟩ : ∃ j, j = plc n (pc (l.drop (decodeL l).2)) := ⟨_, rfl⟩
    rw [← hj]
    have hxl : (l.take ((decodeL l).2 + j)).length = min ((decodeL l).2 + j) l.length := List.length_take
    have hxne : l.take ((decodeL l).2 + j) ≠ [] := by
      intro h0; rw [h0] at hxl; simp at hxl; have := List.length_pos_iff.2 hne; omega
    have htk : ∀ k, k ≤ (decodeL l).2 + j → (l.take ((decodeL l).2 + j)).take k = l.take k := fun k hk => by rw [List.take_take, Nat.min_eq_left hk]
    have hg : (l.take ((decodeL l).2 + j)).getD 0 0 = l.getD 0 0 := by
      cases l with
      | nil => exact absurd rfl hne
      | cons b t =>
        obtain ⟨k, hk⟩ : ∃ k, (decodeL (b :: t)).2 + j = k + 1 := ⟨(decodeL (b :: t)).2 + j - 1, by omega⟩
        rw [hk]; rfl
    have hd : (decodeL (l.take ((decodeL l).2 + j))).2 = (decodeL l).2 := by
      rcases dec_cases l hne with ⟨h, e⟩ | ⟨h, e⟩ | ⟨h1, h2, h3, h4⟩
      · rcases dec_cases _ hxne with ⟨k, f⟩ | ⟨k, f⟩ | ⟨k1, k2, k3, k4⟩
        · rw [f, e]
        · rw [f, e]
        · have hle2 := decodeL_le _ hxne
          exact congrArg Prod.snd (k4 l (by rw [hxl] at hle2; omega) (by rw [htk _ (by rw [hxl] at hle2; omega)])).symm
      · rcases dec_cases _ hxne with ⟨k, f⟩ | ⟨k, f⟩ | ⟨k1, k2, k3, k4⟩
        · rw [f, e]
        · rw [f, e]
        · have hle2 := decodeL_le _ hxne
          exact congrArg Prod.snd (k4 l (by rw [hxl] at hle2; omega) (by rw [htk _ (by rw [hxl] at hle2; omega)])).symm
      · rw [h4 _ (by rw [hxl]; omega) (htk _ (by omega))]
    rw [pc_step _ hxne, List.length_cons, hd, List.drop_take, Nat.add_sub_cancel_left, hj, ih _ hn2]

theorem cut_back (n : Nat) (l : List UInt8) (hn : n ≤ (pc l).length) : pc (l.drop (plc n (pc l))) = (pc l).drop n := by
  induction n generalizing l with
  | zero => simp [plc]
  | succ n ih =>
    have hne : l ≠ [] := by rintro rfl; simp [pc_nil] at hn
    have hle := decodeL_le l hne
    rw [pc_step l hne] at hn ⊢
    have hn2 : n ≤ (pc (l.drop (decodeL l).2)).length := by simpa using hn
    rw [plc, List.length_take, Nat.min_eq_left hle, ← List.drop_drop, ih _ hn2, List.drop_succ_cons]

/-! Small letters. -/

def lowB (b : UInt8) : UInt8 := if 64 < b.toNat ∧ b.toNat < 91 then b + 32 else b
theorem low_high {b : UInt8} (h : 128 ≤ b.toNat) : lowB b = b := by unfold lowB; rw [if_neg (by omega)]

/-- The piece at the head of any text: one of A to Z alone, or nothing that is turned. -/
theorem low_head (l : List UInt8) (hne : l ≠ []) :
    (65 ≤ (decodeL l).1 ∧ (decodeL l).1 ≤ 90 ∧ (decodeL l).2 = 1 ∧ (l.getD 0 0).toNat = (decodeL l).1) ∨ (¬ (65 ≤ (decodeL l).1 ∧ (decodeL l).1 ≤ 90) ∧ (l.take (decodeL l).2).map lowB = l.take (decodeL l).2) := by
  have hmap : ∀ x : List UInt8, (∀ b ∈ x, lowB b = b) → x.map lowB = x := fun x h => by
    conv => rhs; rw [← List.map_id x]
    exact List.map_congr_left h
  rcases dec_cases l hne with ⟨h, e⟩ | ⟨h, e⟩ | ⟨h1, h2, h3, h4⟩
  · by_cases h1 : 65 ≤ (l.getD 0 0).toNat ∧ (l.getD 0 0).toNat ≤ 90
    · left; rw [e]; exact ⟨h1.1, h1.2, rfl, rfl⟩
    · right; rw [e]
      refine ⟨h1, hmap _ ?_⟩
      dsimp only
      rw [takeA l (List.length_pos_iff.2 hne)]
      simp only [List.mem_singleton, forall_eq]
      unfold lowB; rw [if_neg (by omega)]
  · right; rw [e]
    refine ⟨by dsimp only; omega, hmap _ ?_⟩
    dsimp only
    rw [takeA l (List.length_pos_iff.2 hne)]
    simp only [List.mem_singleton, forall_eq]
    exact low_high h
  · right
    exact ⟨by omega, hmap _ fun b hb => low_high (h3 b hb)⟩

/-! At places of a text. -/

def ps (s : ByteArray) (pos : Nat) : List (Nat × List UInt8) := pc (s.data.toList.drop pos)

theorem drop_ne (s : ByteArray) (pos : Nat) (h : pos < s.size) : s.data.toList.drop pos ≠ [] := by
  intro h0
  have := congrArg List.length h0
  rw [List.length_drop, ← Lib.size_eq] at this
  simp at this
  omega
theorem ps_end (s : ByteArray) (pos : Nat) (h : ¬ pos < s.size) : ps s pos = [] := by
  unfold ps
  rw [List.drop_eq_nil_of_le (by rw [← Lib.size_eq]; omega), pc_nil]
theorem ps_step (s : ByteArray) (pos : Nat) (h : pos < s.size) : ps s pos = ((Utf8.decode s pos).1, (s.data.toList.drop pos).take (Utf8.decode s pos).2) :: ps s (pos + (Utf8.decode s pos).2) := by
  unfold ps
  rw [pc_step _ (drop_ne s pos h), decodeL_drop, List.drop_drop]
theorem ps_width (s : ByteArray) (pos : Nat) (h : pos < s.size) : 1 ≤ (Utf8.decode s pos).2 ∧ pos + (Utf8.decode s pos).2 ≤ s.size ∧ ((s.data.toList.drop pos).take (Utf8.decode s pos).2).length = (Utf8.decode s pos).2 := by
  have h1 := decodeL_width (s.data.toList.drop pos)
  have h2 := decodeL_le _ (drop_ne s pos h)
  rw [decodeL_drop] at h1 h2
  rw [List.length_drop, ← Lib.size_eq] at h2
  refine ⟨h1, by omega, ?_⟩
  rw [List.length_take, List.length_drop, ← Lib.size_eq]
  omega
theorem ps_zero (s : ByteArray) : ps s 0 = pc s.data.toList := rfl

end Go.Proofs.YtejppikbdplamaaDoor.Runes
