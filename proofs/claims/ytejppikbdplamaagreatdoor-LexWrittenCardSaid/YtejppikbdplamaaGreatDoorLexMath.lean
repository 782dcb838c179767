/-
  Layer 5, plain: rows of runes, runs, numbers, texts, tokens.
-/
import Derived.Test.YtejppikbdplamaaGreatDoorLexToks
import Derived.Laws.Cover4
namespace Go.Proofs.YtejppikbdplamaaGreatDoor.Lex
open Go.RowKit
open Base Runes
set_option linter.unusedVariables false

/-! Runes and their bytes. -/

def rV (r : Nat) : Value := .int .i32 (r : Int)
def rn (s : ByteArray) : List Nat := (ps s 0).map (·.1)
theorem rn_length (s : ByteArray) : (rn s).length = cn s := by unfold rn cn; rw [List.length_map]

def encL (l : List Nat) : List UInt8 := l.flatMap fun r : Nat => Lib.encodeRune (r : Int)
def encB (l : List Nat) : ByteArray := ⟨(encL l).toArray⟩
theorem encL_append (a b : List Nat) : encL (a ++ b) = encL a ++ encL b := by simp [encL, List.flatMap_append]
theorem encL_length (l : List Nat) : (encL l).length ≤ 4 * l.length := by
  induction l with
  | nil => simp [encL]
  | cons r t ih =>
    have h1 : (Lib.encodeRune (r : Int)).length ≤ 4 := by have := (Lib.runeCells_le (r : Int)).2; rw [Lib.runeCells_length] at this; exact this
    unfold encL at ih ⊢
    rw [List.flatMap_cons, List.length_append, List.length_cons]; omega
theorem encB_size (l : List Nat) : (encB l).size ≤ 4 * l.length := by rw [Lib.size_eq]; exact encL_length l

set_option maxRecDepth 100000 in
theorem encode_is (r : Nat) : (Utf8.encode (r : Int)).data.toList = Lib.encodeRune (r : Int) := by
  have hb : ∀ (a : Nat) (z : Int), z = (a : Int) → UInt8.ofNat a = z.toNat.toUInt8 := fun a z h => by subst h; rfl
  unfold Utf8.encode Lib.encodeRune
  by_cases hv : Utf8.valid (r : Int) = true
  · have hv2 := hv
    simp only [Utf8.valid, Bool.or_eq_true, Bool.and_eq_true, decide_eq_true_eq] at hv2
    rw [if_pos hv]
    simp only [Int.toNat_natCast]
    by_cases h1 : r < 128
    · rw [if_pos h1, Lib.encodeRuneZ_one (by omega) (by omega)]
      show [UInt8.ofNat r] = _
      rw [hb r r rfl]; rfl
    · by_cases h2 : r < 2048
      · rw [if_neg h1, if_pos h2, Lib.encodeRuneZ_two (by omega) (by omega)]
        show [UInt8.ofNat (192 + r / 64), UInt8.ofNat (128 + r % 64)] = _
        rw [hb _ (192 + (r : Int) / 64) (by omega), hb _ (128 + (r : Int) % 64) (by omega)]; rfl
      · by_cases h3 : r < 65536
        · rw [if_neg h1, if_neg h2, if_pos h3, Lib.encodeRuneZ_three (by omega)]
          show [UInt8.ofNat (224 + r / 4096), UInt8.ofNat (128 + r / 64 % 64), UInt8.ofNat (128 + r % 64)] = _
          rw [hb _ (224 + (r : Int) / 4096) (by omega), hb _ (128 + (r : Int) / 64 % 64) (by omega), hb _ (128 + (r : Int) % 64) (by omega)]; rfl
        · rw [if_neg h1, if_neg h2, if_neg h3, Lib.encodeRuneZ_four (by omega) (by omega)]
          show [UInt8.ofNat (240 + r / 262144), UInt8.ofNat (128 + r / 4096 % 64), UInt8.ofNat (128 + r / 64 % 64), UInt8.ofNat (128 + r % 64)] = _
          rw [hb _ (240 + (r : Int) / 262144) (by omega), hb _ (128 + (r : Int) / 4096 % 64) (by omega), hb _ (128 + (r : Int) / 64 % 64) (by omega), hb _ (128 + (r : Int) % 64) (by omega)]; rfl
  · have hv2 := hv
    simp only [Utf8.valid, Bool.or_eq_true, Bool.and_eq_true, decide_eq_true_eq] at hv2
    rw [if_neg hv, Lib.encodeRuneZ_bad (by omega)]
    decide

theorem runesBytes_is (l : List Nat) : runesBytes (l.map fun r : Nat => (r : Int)) = encB l := by
  have h : ∀ (l : List Nat) (s : ByteArray), (((l.map fun r : Nat => (r : Int)).foldl (fun r n => r ++ Utf8.encode n) s)).data.toList = s.data.toList ++ encL l := by
    intro l
    induction l with
    | nil => intro s; simp [encL]
    | cons r t ih =>
      intro s
      rw [List.map_cons, List.foldl_cons, ih, ByteArray.data_append, Array.toList_append, encode_is, List.append_assoc]
      rfl
  apply ByteArray.ext
  apply Array.toList_inj.1
  unfold runesBytes encB
  rw [h]; rfl

/-- 'string(l)' of runes that lie in memory. -/
theorem run_conv_runes {P : Program} {w : World} {ao : Option Addr} {R : List Nat} (h : Reads rV w ao R) (src dst e : TypeId) (hs : P.underlying src = some (.slice e)) (he : P.underlying e = some (.int .i32)) (hd : P.underlying dst = some .string) (n cap : Nat) (hn : R.length = n) :
    (convert src dst (.slice ao n cap)).run P w = .ok (.string (encB R)) w := by
  subst hn
  cases ao with
  | none =>
    have : R = [] := by
      rcases h with h | ⟨b, off, h, _⟩
      · exact h
      · cases h
    subst this
    exact run_convert_runes_nil w src dst e _ _ hs he hd
  | some a =>
    have hc : ∀ j, j < (R.map fun r : Nat => (r : Int)).length → w.cell? (a.add j) = some (.int .i32 ((R.map fun r : Nat => (r : Int)).getD j 0)) := fun j hj => by
      rw [List.length_map] at hj
      obtain ⟨b, off, ha, hc⟩ := h.at_ hj
      obtain rfl : a = ⟨b, off, none⟩ := by simpa using ha
      rw [Go.WideShapes.add_plain, hc]
      simp [rV, List.getD, List.getElem?_eq_getElem hj]
    have := run_convert_runes (P := P) w src dst e a R.length cap (R.map fun r : Nat => (r : Int)) (by simp) hs he hd hc
    rw [List.take_of_length_le (by simp), runesBytes_is] at this
    exact this

/-- A part of a row. -/
def cutR (R : List Nat) (a b : Nat) : List Nat := (R.drop a).take (b - a)
theorem cutR_length (R : List Nat) (a b : Nat) (h : b ≤ R.length) : (cutR R a b).length = b - a := by simp [cutR]; omega
theorem reads_cut {w : World} {b off : Nat} {R : List Nat} (h : Reads rV w (some ⟨b, off, none⟩) R) (i j : Nat) (hj : j ≤ R.length) : Reads rV w (some ⟨b, off + i, none⟩) (cutR R i j) := by
  refine .inr ⟨b, off + i, rfl, fun k hk => ?_⟩
  rw [cutR_length R i j hj] at hk
  obtain ⟨b', off', ha, hc⟩ := h.at_ (k := i + k) (by omega)
  obtain ⟨rfl, rfl⟩ : b = b' ∧ off = off' := by simpa using ha
  rw [Nat.add_assoc, hc]
  simp [cutR]

/-! Runs. -/

def wordR (r : Nat) : Bool := decide (cls (r : Int) = 2 ∨ cls (r : Int) = 3 ∨ r = 45 ∨ r = 95)
def smallR (r : Nat) : Bool := decide ((48 ≤ r ∧ r ≤ 57) ∨ (97 ≤ r ∧ r ≤ 122))
def contR (first r : Nat) : Bool := if cls (first : Int) = 2 then wordR r else if cls (first : Int) = 3 then smallR r else true
def runN (q : Nat → Bool) : List Nat → Nat
  | [] => 0
  | r :: t => if q r = true then runN q t + 1 else 0
theorem runN_le (q : Nat → Bool) (l : List Nat) : runN q l ≤ l.length := by
  induction l with
  | nil => simp [runN]
  | cons r t ih => rw [runN, List.length_cons]; split <;> omega
def endR (R : List Nat) (at_ : Nat) : Nat := at_ + 1 + runN (contR (R.getD at_ 0)) (R.drop (at_ + 1))
theorem endR_le (R : List Nat) (at_ : Nat) (h : at_ < R.length) : at_ < endR R at_ ∧ endR R at_ ≤ R.length := by
  have := runN_le (contR (R.getD at_ 0)) (R.drop (at_ + 1))
  rw [List.length_drop] at this
  unfold endR; omega

def anyL (l : List Nat) : Bool := l.any fun r : Nat => decide (97 ≤ r)
def numF : Int → List Nat → Int
  | n, [] => n
  | n, r :: t => if r < 48 ∨ 57 < r then -1 else numF (10 * n + ((r : Int) - 48)) t
def numR (l : List Nat) : Int := if l.length = 0 ∨ 9 < l.length ∨ (1 < l.length ∧ l.getD 0 0 = 48) then -1 else numF 0 l

/-! A text, up to its end. -/

def scn : List Nat → Nat × Nat
  | [] => (2, 0)
  | [r] => if r = 34 then (0, 0) else if cls (r : Int) = 0 then (1, 0) else (2, 1)
  | r :: c :: t => if r = 34 then (0, 0) else if cls (r : Int) = 0 then (1, 0) else if r = 92 then (if cls (c : Int) = 0 then (1, 1) else ((scn t).1, (scn t).2 + 2)) else ((scn (c :: t)).1, (scn (c :: t)).2 + 1)

def zT : Tok := (0, ⟨#[]⟩, 0, 0)
def textR (R : List Nat) (at_ : Nat) : Tok × Nat × Nat × Int :=
  if (scn (R.drop (at_ + 1))).1 = 1 then (zT, 0, at_ + 1 + (scn (R.drop (at_ + 1))).2, 40)
  else if (scn (R.drop (at_ + 1))).1 = 0 then
    (if uqE (encB (cutR R at_ (at_ + (scn (R.drop (at_ + 1))).2 + 2))) = 0 then ((4, uqS (encB (cutR R at_ (at_ + (scn (R.drop (at_ + 1))).2 + 2))), 0, (at_ : Int)), at_ + (scn (R.drop (at_ + 1))).2 + 2, 0, 0)
     else (zT, 0, at_, 50))
  else (zT, 0, at_, 50)

def oneR (R : List Nat) (at_ : Nat) : Tok × Nat × Nat × Int :=
  if cls (R.getD at_ 0 : Nat) = 0 then (zT, 0, at_, 40)
  else if cls (R.getD at_ 0 : Nat) = 2 then ((1, lowS (encB (cutR R at_ (endR R at_))), 0, (at_ : Int)), endR R at_, 0, 0)
  else if cls (R.getD at_ 0 : Nat) = 3 then
    (if anyL (cutR R at_ (endR R at_)) = true then ((3, encB (cutR R at_ (endR R at_)), 0, (at_ : Int)), endR R at_, 0, 0)
     else if numR (cutR R at_ (endR R at_)) < 0 then (zT, 0, at_, 50) else ((2, ⟨#[]⟩, numR (cutR R at_ (endR R at_)), (at_ : Int)), endR R at_, 0, 0))
  else if R.getD at_ 0 = 34 then textR R at_
  else if R.getD at_ 0 = 61 ∨ R.getD at_ 0 = 58 ∨ R.getD at_ 0 = 44 ∨ R.getD at_ 0 = 45 then ((5, encB (cutR R at_ (at_ + 1)), 0, (at_ : Int)), at_ + 1, 0, 0)
  else (zT, 0, at_, 50)

def toksR : Nat → List Nat → Nat → List Tok → List Tok × Nat × Int
  | 0, R, _, acc => (acc, R.length, 0)
  | f + 1, R, i, acc =>
    if i < R.length then
      (if cls (R.getD i 0 : Nat) = 1 then toksR f R (i + 1) acc
       else if (oneR R i).2.2.2 = 0 then toksR f R (oneR R i).2.1 (acc ++ [(oneR R i).1])
       else ([], (oneR R i).2.2.1, (oneR R i).2.2.2))
    else (acc, R.length, 0)
def tkA (s : ByteArray) : List Tok × Nat × Int := if 400 < s.size then ([], 0, 3) else toksR (rn s).length (rn s) 0 []

end Go.Proofs.YtejppikbdplamaaGreatDoor.Lex
