/-
  Plain mathematics of package pack: numbers and texts as bytes; nothing of the program.
-/
import Derived.Lib.Strings
import Derived.ShutString
namespace Go.Proofs.Ytamhmbmbcgjbmaa.Pack

/-- The bytes of a number of a width, the highest first. -/
def numB (n : Nat) : Nat → List UInt8
  | 0 => []
  | w + 1 => UInt8.ofNat (n / 256 ^ w) :: numB n w

theorem numB_length (n : Nat) : ∀ w, (numB n w).length = w
  | 0 => rfl
  | w + 1 => by simp [numB, numB_length n w]

/-- The number that bytes are, the highest first. -/
def valB : List UInt8 → Nat
  | [] => 0
  | b :: l => b.toNat * 256 ^ l.length + valB l

theorem byte_lt (b : UInt8) : b.toNat < 256 := b.toNat_lt

theorem valB_lt : ∀ l, valB l < 256 ^ l.length
  | [] => by simp [valB]
  | b :: l => by
    have h := valB_lt l
    have hb := byte_lt b
    simp only [valB, List.length_cons, Nat.pow_succ]
    have : b.toNat * 256 ^ l.length ≤ 255 * 256 ^ l.length := Nat.mul_le_mul_right _ (by omega)
    omega

theorem valB_append : ∀ a b, valB (a ++ b) = valB a * 256 ^ b.length + valB b
  | [], b => by simp [valB]
  | x :: a, b => by
    simp only [List.cons_append, valB, valB_append a b, List.length_append, Nat.pow_add, Nat.add_mul, Nat.mul_assoc]
    omega

theorem valB_snoc (l : List UInt8) (b : UInt8) : valB (l ++ [b]) = valB l * 256 + b.toNat := by
  rw [valB_append]; simp [valB]

theorem valB_numB (n : Nat) : ∀ w, valB (numB n w) = n % 256 ^ w
  | 0 => by simp [numB, valB, Nat.mod_one]
  | w + 1 => by
    simp only [numB, valB, numB_length, valB_numB n w, UInt8.toNat_ofNat']
    have h : n % 256 ^ (w + 1) = n % 256 ^ w + 256 ^ w * (n / 256 ^ w % 256) := by rw [Nat.pow_succ, Nat.mod_mul]
    rw [h, Nat.add_comm, Nat.mul_comm]

theorem valB_numB_of {n w : Nat} (h : n < 256 ^ w) : valB (numB n w) = n := by rw [valB_numB, Nat.mod_eq_of_lt h]

theorem numB_add (n m : Nat) : ∀ w k, w ≤ k → numB (n + m * 256 ^ k) w = numB n w
  | 0, _, _ => rfl
  | w + 1, k, hk => by
    simp only [numB]
    rw [numB_add n m w k (by omega)]
    congr 1
    obtain ⟨j, rfl⟩ : ∃ j, k = j + 1 + w := ⟨k - 1 - w, by omega⟩
    apply UInt8.toNat_inj.1
    simp only [UInt8.toNat_ofNat']
    rw [Nat.pow_add, ← Nat.mul_assoc, Nat.add_mul_div_right _ _ (Nat.pow_pos (by omega)), Nat.pow_succ, ← Nat.mul_assoc]
    generalize m * 256 ^ j = x
    generalize n / 256 ^ w = y
    omega

theorem numB_valB : ∀ l, numB (valB l) l.length = l
  | [] => rfl
  | b :: l => by
    simp only [List.length_cons, numB, valB]
    have h := valB_lt l
    rw [Nat.add_comm, numB_add _ _ _ _ (Nat.le_refl _), numB_valB l, Nat.add_mul_div_right _ _ (Nat.pow_pos (by omega)), Nat.div_eq_of_lt h]
    simp

/-- A number's bytes from its lowest on: what is left, by 256, is laid ahead. -/
theorem numB_ahead (n i : Nat) : UInt8.ofNat (n / 256 ^ i % 256) :: numB n i = numB n (i + 1) := by
  simp only [numB]; congr 1; apply UInt8.toNat_inj.1; simp

/-- Is a number a width? -/
def isW (w : Int) : Bool := decide (w = 1 ∨ w = 2 ∨ w = 4 ∨ w = 8)

/-- Is a number one of a width? -/
def numOK (n w : Int) : Bool := isW w && decide (0 ≤ n ∧ n < 256 ^ w.toNat)

/-- What Number answers. -/
def nuS (n w : Int) : ByteArray := if numOK n w then ⟨(numB n.toNat w.toNat).toArray⟩ else ⟨#[]⟩
def nuE (n w : Int) : Int := if numOK n w then 0 else 2

/-- The number that so many bytes from a place on are. -/
def nval (s : ByteArray) (a w : Nat) : Nat := valB (s.extract a (a + w)).data.toList

theorem ext_size (s : ByteArray) (a n : Nat) (h : a + n ≤ s.size) : (s.extract a (a + n)).size = n := by
  rw [ByteArray.size_extract]; omega

theorem ext_len (s : ByteArray) (a n : Nat) (h : a + n ≤ s.size) : (s.extract a (a + n)).data.toList.length = n := by
  rw [← Lib.size_eq, ext_size s a n h]

theorem nval_lt (s : ByteArray) (a w : Nat) (h : a + w ≤ s.size) : nval s a w < 256 ^ w := by
  have := valB_lt (s.extract a (a + w)).data.toList
  rwa [ext_len s a w h] at this

/-- Is a place in a text, or at its end? -/
def inS (s : ByteArray) (a : Int) : Bool := decide (0 ≤ a ∧ a ≤ (s.size : Int))

/-- What TakeNumber answers. -/
def tnE (s : ByteArray) (a w : Int) : Int :=
  if (inS s a && isW w) = true then (if a.toNat + w.toNat ≤ s.size then (if nval s a.toNat w.toNat < 9223372036854775808 then 0 else 2) else 30) else 2
def tnV (s : ByteArray) (a w : Int) : Int := if tnE s a w = 0 then (nval s a.toNat w.toNat : Int) else 0
def tnTo (s : ByteArray) (a w : Int) : Int := if tnE s a w = 0 then a + w else 0

/-- A text that stands from a place on, and the place behind it. -/
def ttO (s : ByteArray) (a : Nat) : Option (ByteArray × Nat) :=
  if a + 2 ≤ s.size ∧ a + 2 + nval s a 2 ≤ s.size then some (s.extract (a + 2) (a + 2 + nval s a 2), a + 2 + nval s a 2) else none

/-- What TakeText answers. -/
def ttE (s : ByteArray) (a : Int) : Int := if inS s a = true then (if (ttO s a.toNat).isSome then 0 else 30) else 2
def ttS (s : ByteArray) (a : Int) : ByteArray := if inS s a = true then (match ttO s a.toNat with | some x => x.1 | none => ⟨#[]⟩) else ⟨#[]⟩
def ttTo (s : ByteArray) (a : Int) : Int := if inS s a = true then (match ttO s a.toNat with | some x => (x.2 : Int) | none => 0) else 0

/-- So many texts, one behind the other, from a place on. -/
def gtx (s : ByteArray) : Nat → Nat → Option (List ByteArray × Nat)
  | 0, a => some ([], a)
  | k + 1, a => match ttO s a with
    | none => none
    | some (t, b) => match gtx s k b with
      | none => none
      | some (l, z) => some (t :: l, z)

/-- What TakeTexts finds. -/
def tlO (s : ByteArray) (a : Nat) : Option (List ByteArray × Nat) := if a + 2 ≤ s.size then gtx s (nval s a 2) (a + 2) else none
def tlE (s : ByteArray) (a : Int) : Int := if inS s a = true then (if (tlO s a.toNat).isSome then 0 else 30) else 2
def tlL (s : ByteArray) (a : Int) : List ByteArray := if inS s a = true then (match tlO s a.toNat with | some x => x.1 | none => []) else []
def tlTo (s : ByteArray) (a : Int) : Int := if inS s a = true then (match tlO s a.toNat with | some x => (x.2 : Int) | none => 0) else 0

/-- The bytes of a text, of texts. -/
def txB (s : ByteArray) : List UInt8 := numB s.size 2 ++ s.data.toList
def catB : List ByteArray → List UInt8
  | [] => []
  | s :: l => txB s ++ catB l
def lsB (l : List ByteArray) : List UInt8 := numB l.length 2 ++ catB l

theorem catB_append : ∀ a b, catB (a ++ b) = catB a ++ catB b
  | [], _ => rfl
  | s :: a, b => by simp [catB, catB_append a b]

theorem catB_take_succ (l : List ByteArray) (k : Nat) (h : k < l.length) : catB (l.take (k + 1)) = catB (l.take k) ++ txB l[k] := by
  rw [List.take_succ_eq_append_getElem h, catB_append]; simp [catB]

/-- Is a text too long, are texts? -/
def bigB (s : ByteArray) : Bool := decide (65535 < s.size)
def anyBig (l : List ByteArray) : Bool := l.any bigB
def lstBig (l : List ByteArray) : Bool := decide (65535 < l.length) || anyBig l

/-- What Text and Texts answer. -/
def txS (s : ByteArray) : ByteArray := if bigB s = true then ⟨#[]⟩ else ⟨(txB s).toArray⟩
def txE (s : ByteArray) : Int := if bigB s = true then 3 else 0
def lsS (l : List ByteArray) : ByteArray := if lstBig l = true then ⟨#[]⟩ else ⟨(lsB l).toArray⟩
def lsE (l : List ByteArray) : Int := if lstBig l = true then 3 else 0

theorem txB_length (s : ByteArray) : (txB s).length = 2 + s.size := by unfold txB; rw [List.length_append, numB_length, ← Lib.size_eq]

/-- How many bytes texts are, laid. -/
def catN : List ByteArray → Nat
  | [] => 0
  | s :: l => 2 + s.size + catN l

theorem catB_length : ∀ l, (catB l).length = catN l
  | [] => rfl
  | s :: l => by simp [catB, catN, txB_length, catB_length l]

theorem catN_append : ∀ a b, catN (a ++ b) = catN a + catN b
  | [], b => by simp [catN]
  | s :: a, b => by simp [catN, catN_append a b]; omega

theorem catN_take_succ (l : List ByteArray) (k : Nat) (h : k < l.length) : catN (l.take (k + 1)) = catN (l.take k) + (2 + l[k].size) := by
  rw [List.take_succ_eq_append_getElem h, catN_append]; simp [catN]

theorem catN_le : ∀ l, anyBig l = false → catN l ≤ 65537 * l.length
  | [], _ => by simp [catN]
  | s :: l, h => by
    simp only [anyBig, List.any_cons, Bool.or_eq_false_iff, bigB, decide_eq_false_iff_not] at h
    have := catN_le l h.2
    simp only [catN, List.length_cons]; omega

/-! What follows. -/

/-- What is taken, laid, is the bytes that it was taken from. -/
theorem num_forms (s : ByteArray) (a w : Nat) (h : a + w ≤ s.size) : (⟨(numB (nval s a w) w).toArray⟩ : ByteArray) = s.extract a (a + w) := by
  have := numB_valB (s.extract a (a + w)).data.toList
  rw [ext_len s a w h] at this
  unfold nval
  rw [this, Lib.mk_data]

theorem ext_list (s : ByteArray) (a b : Nat) : (s.extract a b).data.toList = (s.data.toList.drop a).take (b - a) := Lib.extract_data s a b

/-- Two pieces, one behind the other. -/
theorem ext_join (s : ByteArray) (a b c : Nat) (h1 : a ≤ b) (h2 : b ≤ c) : (s.extract a b).data.toList ++ (s.extract b c).data.toList = (s.extract a c).data.toList := by
  simp only [ext_list]
  obtain ⟨m, rfl⟩ : ∃ m, b = a + m := ⟨b - a, by omega⟩
  obtain ⟨k, rfl⟩ : ∃ k, c = a + m + k := ⟨c - (a + m), by omega⟩
  rw [show a + m - a = m by omega, show a + m + k - (a + m) = k by omega, show a + m + k - a = m + k by omega, List.take_add, List.drop_drop]

theorem ttO_some {s : ByteArray} {a : Nat} {t : ByteArray} {z : Nat} (h : ttO s a = some (t, z)) :
    a + 2 ≤ z ∧ z ≤ s.size ∧ z = a + 2 + t.size ∧ t.size = nval s a 2 ∧ t.size < 65536 ∧ txB t = (s.extract a z).data.toList := by
  unfold ttO at h
  split at h
  · rename_i hc
    obtain ⟨h1, h2⟩ : _ = t ∧ _ = z := by simpa using h
    have hs := ext_size s (a + 2) (nval s a 2) hc.2
    rw [h1] at hs
    have hl := nval_lt s a 2 hc.1
    refine ⟨by omega, by omega, by omega, hs, by omega, ?_⟩
    unfold txB
    have hn := numB_valB (s.extract a (a + 2)).data.toList
    rw [ext_len s a 2 hc.1] at hn
    rw [hs]
    unfold nval
    rw [hn, ← h1, ← h2]
    exact ext_join s a (a + 2) (a + 2 + nval s a 2) (by omega) (by omega)
  · cases h

theorem gtx_some {s : ByteArray} : ∀ {k a : Nat} {l : List ByteArray} {z : Nat}, gtx s k a = some (l, z) → a ≤ s.size →
    a ≤ z ∧ z ≤ s.size ∧ l.length = k ∧ anyBig l = false ∧ catB l = (s.extract a z).data.toList
  | 0, a, l, z, h, ha => by
    obtain ⟨rfl, rfl⟩ : [] = l ∧ a = z := by simpa [gtx] using h
    exact ⟨Nat.le_refl _, ha, rfl, rfl, by simp [catB]⟩
  | k + 1, a, l, z, h, ha => by
    simp only [gtx] at h
    cases ht : ttO s a with
    | none => rw [ht] at h; cases h
    | some x =>
      obtain ⟨t, b⟩ := x
      rw [ht] at h
      simp only at h
      cases hg : gtx s k b with
      | none => rw [hg] at h; cases h
      | some y =>
        obtain ⟨m, z'⟩ := y
        rw [hg] at h
        obtain ⟨rfl, rfl⟩ : t :: m = l ∧ z' = z := by simpa using h
        obtain ⟨a1, a2, a3, a4, a5, a6⟩ := ttO_some ht
        obtain ⟨b1, b2, b3, b4, b5⟩ := gtx_some hg a2
        refine ⟨by omega, b2, by simp [b3], ?_, ?_⟩
        · unfold anyBig at b4 ⊢
          simp only [List.any_cons, b4, Bool.or_false, bigB, decide_eq_false_iff_not]; omega
        · rw [catB, a6, b5, ext_join s a b z' (by omega) (by omega)]

theorem tl_forms {s : ByteArray} {a : Nat} {l : List ByteArray} {z : Nat} (h : tlO s a = some (l, z)) :
    a ≤ z ∧ z ≤ s.size ∧ lstBig l = false ∧ (⟨(lsB l).toArray⟩ : ByteArray) = s.extract a z := by
  unfold tlO at h
  split at h
  · rename_i hc
    obtain ⟨h1, h2, h3, h4, h5⟩ := gtx_some h hc
    have hl := nval_lt s a 2 hc
    refine ⟨by omega, h2, ?_, ?_⟩
    · unfold lstBig; simp only [h4, Bool.or_false, decide_eq_false_iff_not]; omega
    · have hn := numB_valB (s.extract a (a + 2)).data.toList
      rw [ext_len s a 2 hc] at hn
      have : lsB l = (s.extract a z).data.toList := by
        unfold lsB
        rw [h3, h5]
        unfold nval
        rw [hn]
        exact ext_join s a (a + 2) z (by omega) (by omega)
      rw [this, Lib.mk_data]
  · cases h

/-- What was laid is taken again, wherever it stands. -/
theorem ext_mid (s : ByteArray) (a b c : List UInt8) (h : s.data.toList = a ++ b ++ c) (k : Nat) (hk : k = a.length) (m : Nat) (hm : m = b.length) : (s.extract k (k + m)).data.toList = b := by
  rw [ext_list, h, hk, hm, List.append_assoc, List.drop_left, show a.length + b.length - a.length = b.length by omega, List.take_left]

theorem num_back (s : ByteArray) (a c : List UInt8) (n w : Nat) (hn : n < 256 ^ w) (h : s.data.toList = a ++ numB n w ++ c) (k : Nat) (hk : k = a.length) : k + w ≤ s.size ∧ nval s k w = n := by
  refine ⟨by rw [Lib.size_eq, h]; simp [numB_length]; omega, ?_⟩
  unfold nval
  rw [ext_mid s a (numB n w) c h k hk w (by rw [numB_length]), valB_numB_of hn]

theorem tt_back (s t : ByteArray) (a c : List UInt8) (ht : t.size < 65536) (h : s.data.toList = a ++ txB t ++ c) (k : Nat) (hk : k = a.length) : ttO s k = some (t, k + (2 + t.size)) := by
  have h1 : s.data.toList = a ++ numB t.size 2 ++ (t.data.toList ++ c) := by rw [h]; unfold txB; simp [List.append_assoc]
  have h2 : s.data.toList = (a ++ numB t.size 2) ++ t.data.toList ++ c := by rw [h1]; simp [List.append_assoc]
  obtain ⟨g1, g2⟩ := num_back s a _ t.size 2 (by omega) h1 k hk
  have hz : s.size = a.length + (2 + t.size) + c.length := by rw [Lib.size_eq, h]; simp [txB_length]; omega
  unfold ttO
  rw [g2, if_pos ⟨by omega, by omega⟩]
  have e := ext_mid s _ _ _ h2 (k + 2) (by simp [numB_length]; omega) t.size (Lib.size_eq t)
  have e2 : s.extract (k + 2) (k + 2 + t.size) = t := by
    rw [← Lib.mk_data (s.extract (k + 2) (k + 2 + t.size)), e, Lib.mk_data]
  rw [e2]
  simp; omega

theorem gt_back (s : ByteArray) : ∀ (l : List ByteArray) (a c : List UInt8) (k : Nat), anyBig l = false → s.data.toList = a ++ catB l ++ c → k = a.length → gtx s l.length k = some (l, k + catN l)
  | [], a, c, k, _, _, _ => by simp [gtx, catN]
  | t :: l, a, c, k, hb, h, hk => by
    simp only [anyBig, List.any_cons, Bool.or_eq_false_iff, bigB, decide_eq_false_iff_not] at hb
    have h1 : s.data.toList = a ++ txB t ++ (catB l ++ c) := by rw [h]; simp [catB, List.append_assoc]
    have h2 : s.data.toList = (a ++ txB t) ++ catB l ++ c := by rw [h1]; simp [List.append_assoc]
    have e1 := tt_back s t a _ (by omega) h1 k hk
    have e2 := gt_back s l (a ++ txB t) c (k + (2 + t.size)) hb.2 h2 (by simp [txB_length]; omega)
    simp only [List.length_cons, gtx, e1, e2, catN]
    simp; omega

theorem tl_back (s : ByteArray) (l : List ByteArray) (a c : List UInt8) (k : Nat) (hb : lstBig l = false) (h : s.data.toList = a ++ lsB l ++ c) (hk : k = a.length) : tlO s k = some (l, k + (2 + catN l)) := by
  simp only [lstBig, Bool.or_eq_false_iff, decide_eq_false_iff_not] at hb
  have h1 : s.data.toList = a ++ numB l.length 2 ++ (catB l ++ c) := by rw [h]; unfold lsB; simp [List.append_assoc]
  have h2 : s.data.toList = (a ++ numB l.length 2) ++ catB l ++ c := by rw [h1]; simp [List.append_assoc]
  obtain ⟨g1, g2⟩ := num_back s a _ l.length 2 (by omega) h1 k hk
  unfold tlO
  rw [if_pos g1, g2, gt_back s l _ c (k + 2) hb.2 h2 (by simp [numB_length]; omega)]
  simp; omega

/-- The steps of a loop that reads a number. -/
theorem nval_step (s : ByteArray) (a i : Nat) (h : a + i < s.size) : nval s a (i + 1) = nval s a i * 256 + s[a + i].toNat := by
  unfold nval
  have e := ext_join s a (a + i) (a + i + 1) (by omega) (by omega)
  have e1 : (s.extract (a + i) (a + i + 1)).data.toList = [s[a + i]] := by
    rw [ext_list, show a + i + 1 - (a + i) = 1 by omega]
    have hl : a + i < s.data.toList.length := by rw [← Lib.size_eq]; exact h
    rw [List.drop_eq_getElem_cons hl]
    rfl
  rw [show a + (i + 1) = a + i + 1 by omega, ← e, e1, valB_snoc]

theorem nval_zero (s : ByteArray) (a : Nat) : nval s a 0 = 0 := by
  unfold nval; rw [ext_list]; simp [valB]

/-- The first of eight bytes tells whether the number is too great. -/
theorem nval_eight (s : ByteArray) (a : Nat) (h : a + 8 ≤ s.size) : nval s a 8 < 9223372036854775808 ↔ s[a].toNat ≤ 127 := by
  have e := ext_join s a (a + 1) (a + 8) (by omega) (by omega)
  have e1 : (s.extract a (a + 1)).data.toList = [s[a]] := by
    rw [ext_list, show a + 1 - a = 1 by omega]
    have hl : a < s.data.toList.length := by rw [← Lib.size_eq]; omega
    rw [List.drop_eq_getElem_cons hl]
    rfl
  have hl : (s.extract (a + 1) (a + 8)).data.toList.length = 7 := ext_len s (a + 1) 7 (by omega)
  have hv := valB_lt (s.extract (a + 1) (a + 8)).data.toList
  unfold nval
  rw [← e, e1]
  rw [hl] at hv
  simp only [List.cons_append, List.nil_append, valB, hl]
  have : (256 : Nat) ^ 7 = 72057594037927936 := by decide
  omega

end Go.Proofs.Ytamhmbmbcgjbmaa.Pack
