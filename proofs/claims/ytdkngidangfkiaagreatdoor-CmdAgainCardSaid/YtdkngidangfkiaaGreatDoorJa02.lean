/-
  Joined out of: The walks of layer 4's small letters. The walks of the document's own answers of layer 4 that go byte by byte. The walk of the document's own unquoting. Tokens as data: their cells; the same tokens or not. Layer 5, plain: rows of runes, runs, numbers, texts, tokens.
-/
import Derived.Test.YtdkngidangfkiaaGreatDoorJa01
import Derived.Deep.RegionWith
import Derived.BigQuiet
import Derived.Laws.Cover4
namespace Go.Proofs.YtdkngidangfkiaaGreatDoor.Runes
open Go.RowKit
open Base Bld
set_option linter.unusedVariables false
def lowS (s : ByteArray) : ByteArray := ⟨(s.data.toList.map lowB).toArray⟩
def lowTo (l : List UInt8) (pos : Nat) : List UInt8 := (l.take pos).map lowB ++ l.drop pos
theorem lowTo_zero (l : List UInt8) : lowTo l 0 = l := by simp [lowTo]
theorem lowTo_all (l : List UInt8) (pos : Nat) (h : l.length ≤ pos) : lowTo l pos = l.map lowB := by simp [lowTo, List.take_of_length_le h, List.drop_eq_nil_of_le h]
theorem lowTo_length (l : List UInt8) (pos : Nat) : (lowTo l pos).length = l.length := by simp [lowTo]; omega
theorem lowTo_at (l : List UInt8) (pos : Nat) (h : pos < l.length) (h' : pos < (lowTo l pos).length) : (lowTo l pos)[pos] = l[pos] := by
  have e : (lowTo l pos)[pos]? = l[pos]? := by
    unfold lowTo
    rw [List.getElem?_append_right (by simp; omega), List.length_map, List.length_take, Nat.min_eq_left (by omega), Nat.sub_self, List.getElem?_drop, Nat.add_zero]
  rw [List.getElem?_eq_getElem h, List.getElem?_eq_getElem h', Option.some.injEq] at e
  exact e
theorem set_mid {α : Type} (A t : List α) (x y : α) (p : Nat) (h : A.length = p) : (A ++ x :: t).set p y = A ++ y :: t := by subst h; simp
theorem lowTo_next (l : List UInt8) (pos : Nat) (h : pos < l.length) : lowTo l (pos + 1) = (lowTo l pos).set pos (lowB l[pos]) := by
  have hl : ((l.take pos).map lowB).length = pos := by simp; omega
  unfold lowTo
  rw [List.take_succ_eq_append_getElem h, List.map_append, List.drop_eq_getElem_cons h, List.append_assoc, set_mid _ _ _ _ _ hl]
  rfl
theorem lowTo_one (s : ByteArray) (pos : Nat) (hp : pos < s.size) (hl : pos < s.data.toList.length) (h1 : 65 ≤ (Utf8.decode s pos).1) (h2 : (Utf8.decode s pos).1 ≤ 90) :
    (Utf8.decode s pos).2 = 1 ∧ s.data.toList[pos].toNat = (Utf8.decode s pos).1 ∧ (lowB s.data.toList[pos]).toNat = (Utf8.decode s pos).1 + 32 := by
  have hd := low_head _ (drop_ne s pos hp)
  rw [Lib.decodeL_drop] at hd
  rcases hd with ⟨_, _, h3, h4⟩ | ⟨h3, _⟩
  · have h5 : s.data.toList[pos].toNat = (Utf8.decode s pos).1 := by
      rw [← h4]; congr 1
      simp [List.getD, List.getElem?_drop, List.getElem?_eq_getElem hl]
    refine ⟨h3, h5, ?_⟩
    unfold lowB
    rw [if_pos ⟨by omega, by omega⟩, UInt8.toNat_add, h5]
    show ((Utf8.decode s pos).1 + 32) % 256 = _
    omega
  · exact absurd ⟨h1, h2⟩ h3
theorem lowTo_more (s : ByteArray) (pos : Nat) (hp : pos < s.size) (h : ¬ (65 ≤ (Utf8.decode s pos).1 ∧ (Utf8.decode s pos).1 ≤ 90)) : lowTo s.data.toList (pos + (Utf8.decode s pos).2) = lowTo s.data.toList pos := by
  have hd := low_head _ (drop_ne s pos hp)
  rw [Lib.decodeL_drop] at hd
  rcases hd with ⟨h1, h2, _⟩ | ⟨_, h4⟩
  · exact absurd ⟨h1, h2⟩ h
  · unfold lowTo
    rw [List.take_add, List.map_append, h4, ← List.drop_drop, List.append_assoc, List.take_append_drop]
theorem byteRow_other {w w' : World} {b : Nat} {l : List UInt8} (h : ByteRow w b l) (hh : w'.heap[b]? = w.heap[b]?) : ByteRow w' b l := fun i hi => by
  have := h i hi
  simp only [World.cell?, World.frozen?, hh] at this ⊢
  exact this
set_option maxRecDepth 100000 in
set_option maxHeartbeats 1000000 in
theorem lower_any (s : ByteArray) (hs : s.size ≤ 1000000) (w : World) :
    Calls Tryz.prog 90 #[.string s] w fun e w' => e = .returned (.string (lowS s)) ∧ Below w.heap.size w w' := by
  obtain ⟨W, C, hcv, hR, hB, hsz⟩ := conv_at (P := Tryz.prog) w 9 44 5 s Tryz.underlying9 Tryz.underlying44 Tryz.underlying5
  have HRW := Lib.hid hR
  have HBW := Lib.hid hB
  clear hR hB
  go_enter Tryz.func90, Tryz.ntmps90
  go_wp2
  go_loopw [] (fun wr => ∃ pos : Nat, wr.heap[W.heap.size]? = some (.stringIter s pos) ∧ ByteRow wr w.heap.size (lowTo s.data.toList pos) ∧ Below w.heap.size w wr ∧ pos ≤ s.size) (fun wr => s.size - wr.iterPos W.heap.size)
  case atStart => exact ⟨0, World.iter_heap W s 0, by rw [lowTo_zero]; exact HRW.out.below (below_iter W s 0), (below_iter W s 0).from HBW.out, Nat.zero_le _⟩
  case round =>
    obtain ⟨pos, hit, hr, hb, hp0⟩ := hrel
    by_cases hp : pos < s.size
    · have hnx : ∀ ty, (Instr.next (.pointer (some ⟨W.heap.size, 0, none⟩)) true ty).run Tryz.prog wr = _ := fun ty => Lib.run_next_any_at wr W.heap.size s pos ty hit hp
      have hwd := ps_width s pos hp
      have hm0 : wr.iterPos W.heap.size = pos := by simp [World.iterPos, hit]
      have hit2 := Lib.iterAt_heap wr W.heap.size s pos (pos + (Utf8.decode s pos).2) hit
      have hr2 := byteRow_other hr (Lib.iterAt_other wr W.heap.size w.heap.size s (pos + (Utf8.decode s pos).2) (by omega))
      have hb2 := Lib.below_iterAt hb (k := W.heap.size) (by omega) s (pos + (Utf8.decode s pos).2)
      have hm2 : (wr.iterAt W.heap.size s (pos + (Utf8.decode s pos).2)).iterPos W.heap.size = pos + (Utf8.decode s pos).2 := by simp [World.iterPos, hit2]
      by_cases hA : 65 ≤ (Utf8.decode s pos).1 ∧ (Utf8.decode s pos).1 ≤ 90
      · have hl : pos < s.data.toList.length := by rw [← Lib.size_eq]; exact hp
        have hl' : pos < (lowTo s.data.toList pos).length := by rw [lowTo_length]; exact hl
        obtain ⟨h1, h2, h3⟩ := lowTo_one s pos hp hl hA.1 hA.2
        obtain ⟨hc, hz⟩ := hr2 pos hl'
        rw [lowTo_at _ _ hl, h2] at hc
        have hst := hr2.set pos (lowB s.data.toList[pos])
        rw [h3, ← lowTo_next _ _ hl, show (((Utf8.decode s pos).1 + 32 : Nat) : Int) = ((Utf8.decode s pos).1 : Int) + 32 by omega, show pos + 1 = pos + (Utf8.decode s pos).2 by omega] at hst
        have HST := Lib.hid hst
        have HIT := Lib.hid hit2
        have HB2 := Lib.hid hb2
        have HM2 := Lib.hid hm2
        have H1 := Lib.hid h1
        clear hst hit2 hb2 hm2 h1 hr2 hr hb
        go_wp2_with (first | (go_at_call 130; (with_reducible refine (within_any _ _ _ _).mono ?_); rintro e w' ⟨rfl, rfl⟩) | fail)
        have hit3 : ((wr.iterAt W.heap.size s (pos + (Utf8.decode s pos).2)).setCell ⟨w.heap.size, pos, none⟩ (.int .u8 (((Utf8.decode s pos).1 : Int) + 32))).heap[W.heap.size]? = some (.stringIter s (pos + (Utf8.decode s pos).2)) := by
          rw [Below.heap_setCell _ _ _ _ (by simp; omega)]; exact HIT.out
        refine ⟨⟨_, hit3, HST.out, HB2.out.setCell (p := ⟨w.heap.size, pos, none⟩) (Nat.le_refl _) _, hwd.2.1⟩, ?_⟩
        rw [hm0]
        simp only [World.iterPos, hit3]
        omega
      · have HR2 := Lib.hid hr2
        have HIT := Lib.hid hit2
        have HB2 := Lib.hid hb2
        have HM2 := Lib.hid hm2
        have HM := Lib.hid (lowTo_more s pos hp hA)
        have hAf : decide ((65 : Int) ≤ ((Utf8.decode s pos).1 : Int) ∧ ((Utf8.decode s pos).1 : Int) ≤ 90) = false := by rw [decide_eq_false_iff_not]; omega
        clear hr2 hr hb hb2 hit2 hm2
        go_wp2_with (first | (go_at_call 130; (with_reducible refine (within_any _ _ _ _).mono ?_); rintro e w' ⟨rfl, rfl⟩) | fail)
        refine ⟨⟨_, HIT.out, by rw [HM.out]; exact HR2.out, HB2.out, hwd.2.1⟩, ?_⟩
        rw [hm0, HM2.out]; omega
    · have hnx : ∀ ty, (Instr.next (.pointer (some ⟨W.heap.size, 0, none⟩)) true ty).run Tryz.prog wr = _ := fun ty => Lib.run_next_end_at wr W.heap.size s pos ty hit hp
      have hcv2 := run_conv_row (P := Tryz.prog) hr 44 9 5 Tryz.underlying44 Tryz.underlying5 Tryz.underlying9 s.size C (by rw [lowTo_length, Lib.size_eq])
      have HA : Hid ((⟨(lowTo s.data.toList pos).toArray⟩ : ByteArray) = lowS s) := Lib.hid (by rw [lowTo_all _ _ (by rw [← Lib.size_eq]; omega)]; rfl)
      have HB := Lib.hid hb
      clear hr hb
      go_wp2
      go_ret
      exact ⟨ret_str HA.out, HB.out⟩
end Go.Proofs.YtdkngidangfkiaaGreatDoor.Runes
namespace Go.Proofs.YtdkngidangfkiaaGreatDoor.Runes
open Go.RowKit
open Base Bld
set_option linter.unusedVariables false
theorem one_of {w : World} {n : Nat} {val : Value} (x : UInt8) (hn : n = w.heap.size) (hv : val = Base.u8 x) : Reads Base.u8 (w.alloc (.cells #[val] 5)) (some ⟨n, 0, none⟩) [x] := by
  subst hv; exact reads_one hn x _
def qtS (s : ByteArray) : ByteArray := if ckE s = 0 then ⟨(qt s.data.toList).toArray⟩ else ⟨#[]⟩
theorem ckE_or (s : ByteArray) : ckE s = 0 ∨ ckE s = 40 := by unfold ckE; split; exact .inr rfl; exact .inl rfl
theorem ret_si {a a' : ByteArray} {e e' : Int} (h : a = a') (h1 : e = e') : Ending.returned (.tuple #[.string a, .int .i64 e]) = .returned (.tuple #[.string a', .int .i64 e']) := by rw [h, h1]
end Go.Proofs.YtdkngidangfkiaaGreatDoor.Runes
namespace Go.Proofs.YtdkngidangfkiaaGreatDoor.Runes
open Go.RowKit
open Base Bld
set_option linter.unusedVariables false
theorem str_eq (a b : ByteArray) : (a.toList == b.toList) = decide (a = b) := by
  rw [Bool.eq_iff_iff, beq_iff_eq, decide_eq_true_iff]
  constructor
  · intro h; rw [Lib.toList_data, Lib.toList_data] at h; apply ByteArray.ext; exact Array.toList_inj.1 h
  · intro h; rw [h]
theorem ckE_good (s : ByteArray) : ckE s = 0 ↔ Good s.data.toList := by
  unfold ckE Good
  rw [← ps_zero]
  rcases chk_good 0 (ps s 0) with ⟨a, _, c⟩ | ⟨a, _, _, d⟩
  · rw [a]; simp; exact fun r p h => c (r, p) h
  · rw [a]; simp only [if_true]
    constructor
    · intro h; omega
    · intro h; exact absurd h d
theorem ofList_data (l : List UInt8) : (⟨l.toArray⟩ : ByteArray).data.toList = l := rfl
def uqS (s : ByteArray) : ByteArray := if ckE s = 0 then ⟨((uq s.data.toList).getD []).toArray⟩ else ⟨#[]⟩
def uqE (s : ByteArray) : Int := if ckE s = 0 then (if (uq s.data.toList).isSome = true then 0 else 50) else 40
theorem uq_bad {s : ByteArray} (h : ckE s = 40) : ⟨#[]⟩ = uqS s ∧ 40 = uqE s := by
  unfold uqS uqE; rw [if_neg (by omega), if_neg (by omega)]; exact ⟨rfl, rfl⟩
theorem uq_no {s : ByteArray} (h : ckE s = 0) (hu : uq s.data.toList = none) : ⟨#[]⟩ = uqS s ∧ 50 = uqE s := by
  unfold uqS uqE; rw [if_pos h, if_pos h, hu]; exact ⟨rfl, rfl⟩
theorem uq_yes {s : ByteArray} {u : List UInt8} (h : ckE s = 0) (hu : uq s.data.toList = some u) : ⟨u.toArray⟩ = uqS s ∧ 0 = uqE s := by
  unfold uqS uqE; rw [if_pos h, if_pos h, hu]; exact ⟨rfl, rfl⟩
def D (s : ByteArray) (j : Nat) : List UInt8 := (s.data.toList.take (s.size - 1)).drop j
end Go.Proofs.YtdkngidangfkiaaGreatDoor.Runes
namespace Go.Proofs.YtdkngidangfkiaaGreatDoor.Lex
open Go.RowKit
open Base Runes
set_option linter.unusedVariables false
abbrev Tok := Int × ByteArray × Int × Int
def tkC (t : Tok) : List Value := [.int .i64 t.1, .string t.2.1, .int .i64 t.2.2.1, .int .i64 t.2.2.2]
theorem tkC_length (t : Tok) : (tkC t).length = 4 := rfl
def eqT (p : Bool) (x y : Tok) : Bool := decide (x.1 = y.1 ∧ x.2.1 = y.2.1 ∧ x.2.2.1 = y.2.2.1 ∧ (p = true → x.2.2.2 = y.2.2.2))
def sameT (p : Bool) : List Tok → List Tok → Bool
  | [], [] => true
  | x :: s, y :: t => eqT p x y && sameT p s t
  | _, _ => false
theorem tok_cells {w : World} {a : Option Addr} {zs : List Tok} (h : ReadsS 4 tkC w a zs) {j : Nat} (hj : j < zs.length) :
    ∃ b off, a = some ⟨b, off, none⟩ ∧ w.cell? ⟨b, off + j * 4, none⟩ = some (.int .i64 zs[j].1) ∧ w.cell? ⟨b, off + j * 4 + 1, none⟩ = some (.string zs[j].2.1) ∧
      w.cell? ⟨b, off + j * 4 + 2, none⟩ = some (.int .i64 zs[j].2.2.1) ∧ w.cell? ⟨b, off + j * 4 + 3, none⟩ = some (.int .i64 zs[j].2.2.2) := by
  obtain ⟨b, off, ha, hc⟩ := h.at_ hj
  exact ⟨b, off, ha, hc 0 (by decide), hc 1 (by decide), hc 2 (by decide), hc 3 (by decide)⟩
end Go.Proofs.YtdkngidangfkiaaGreatDoor.Lex
namespace Go.Proofs.YtdkngidangfkiaaGreatDoor.Lex
open Go.RowKit
open Base Runes
set_option linter.unusedVariables false
def rn (s : ByteArray) : List Nat := (ps s 0).map (·.1)
theorem rn_length (s : ByteArray) : (rn s).length = cn s := by unfold rn cn; rw [List.length_map]
def encL (l : List Nat) : List UInt8 := l.flatMap fun r : Nat => Lib.encodeRune (r : Int)
def encB (l : List Nat) : ByteArray := ⟨(encL l).toArray⟩
theorem encL_append (a b : List Nat) : encL (a ++ b) = encL a ++ encL b := by simp [encL, List.flatMap_append]
theorem encL_length (l : List Nat) : (encL l).length ≤ 4 * l.length := by
  induction l with
  | nil => simp [encL]
  | cons r t ih =>
    have h1 : (Lib.encodeRune (r : Int)).length ≤ 4 := by have := (Lib.runeCells_le (r : Int)).2; rw [Lib.runeCells_length] at this; exact this
    unfold encL at ih ⊢
    rw [List.flatMap_cons, List.length_append, List.length_cons]; omega
def cutR (R : List Nat) (a b : Nat) : List Nat := (R.drop a).take (b - a)
theorem cutR_length (R : List Nat) (a b : Nat) (h : b ≤ R.length) : (cutR R a b).length = b - a := by simp [cutR]; omega
def wordR (r : Nat) : Bool := decide (cls (r : Int) = 2 ∨ cls (r : Int) = 3 ∨ r = 45 ∨ r = 95)
def smallR (r : Nat) : Bool := decide ((48 ≤ r ∧ r ≤ 57) ∨ (97 ≤ r ∧ r ≤ 122))
def contR (first r : Nat) : Bool := if cls (first : Int) = 2 then wordR r else if cls (first : Int) = 3 then smallR r else true
def runN (q : Nat → Bool) : List Nat → Nat
  | [] => 0
  | r :: t => if q r = true then runN q t + 1 else 0
theorem runN_le (q : Nat → Bool) (l : List Nat) : runN q l ≤ l.length := by
  induction l with
  | nil => simp [runN]
  | cons r t ih => rw [runN, List.length_cons]; split <;> omega
def endR (R : List Nat) (at_ : Nat) : Nat := at_ + 1 + runN (contR (R.getD at_ 0)) (R.drop (at_ + 1))
theorem endR_le (R : List Nat) (at_ : Nat) (h : at_ < R.length) : at_ < endR R at_ ∧ endR R at_ ≤ R.length := by
  have := runN_le (contR (R.getD at_ 0)) (R.drop (at_ + 1))
  rw [List.length_drop] at this
  unfold endR; omega
def anyL (l : List Nat) : Bool := l.any fun r : Nat => decide (97 ≤ r)
def numF : Int → List Nat → Int
  | n, [] => n
  | n, r :: t => if r < 48 ∨ 57 < r then -1 else numF (10 * n + ((r : Int) - 48)) t
def numR (l : List Nat) : Int := if l.length = 0 ∨ 9 < l.length ∨ (1 < l.length ∧ l.getD 0 0 = 48) then -1 else numF 0 l
def scn : List Nat → Nat × Nat
  | [] => (2, 0)
  | [r] => if r = 34 then (0, 0) else if cls (r : Int) = 0 then (1, 0) else (2, 1)
  | r :: c :: t => if r = 34 then (0, 0) else if cls (r : Int) = 0 then (1, 0) else if r = 92 then (if cls (c : Int) = 0 then (1, 1) else ((scn t).1, (scn t).2 + 2)) else ((scn (c :: t)).1, (scn (c :: t)).2 + 1)
def zT : Tok := (0, ⟨#[]⟩, 0, 0)
def textR (R : List Nat) (at_ : Nat) : Tok × Nat × Nat × Int :=
  if (scn (R.drop (at_ + 1))).1 = 1 then (zT, 0, at_ + 1 + (scn (R.drop (at_ + 1))).2, 40)
  else if (scn (R.drop (at_ + 1))).1 = 0 then
    (if uqE (encB (cutR R at_ (at_ + (scn (R.drop (at_ + 1))).2 + 2))) = 0 then ((4, uqS (encB (cutR R at_ (at_ + (scn (R.drop (at_ + 1))).2 + 2))), 0, (at_ : Int)), at_ + (scn (R.drop (at_ + 1))).2 + 2, 0, 0)
     else (zT, 0, at_, 50))
  else (zT, 0, at_, 50)
def oneR (R : List Nat) (at_ : Nat) : Tok × Nat × Nat × Int :=
  if cls (R.getD at_ 0 : Nat) = 0 then (zT, 0, at_, 40)
  else if cls (R.getD at_ 0 : Nat) = 2 then ((1, lowS (encB (cutR R at_ (endR R at_))), 0, (at_ : Int)), endR R at_, 0, 0)
  else if cls (R.getD at_ 0 : Nat) = 3 then
    (if anyL (cutR R at_ (endR R at_)) = true then ((3, encB (cutR R at_ (endR R at_)), 0, (at_ : Int)), endR R at_, 0, 0)
     else if numR (cutR R at_ (endR R at_)) < 0 then (zT, 0, at_, 50) else ((2, ⟨#[]⟩, numR (cutR R at_ (endR R at_)), (at_ : Int)), endR R at_, 0, 0))
  else if R.getD at_ 0 = 34 then textR R at_
  else if R.getD at_ 0 = 61 ∨ R.getD at_ 0 = 58 ∨ R.getD at_ 0 = 44 ∨ R.getD at_ 0 = 45 then ((5, encB (cutR R at_ (at_ + 1)), 0, (at_ : Int)), at_ + 1, 0, 0)
  else (zT, 0, at_, 50)
def toksR : Nat → List Nat → Nat → List Tok → List Tok × Nat × Int
  | 0, R, _, acc => (acc, R.length, 0)
  | f + 1, R, i, acc =>
    if i < R.length then
      (if cls (R.getD i 0 : Nat) = 1 then toksR f R (i + 1) acc
       else if (oneR R i).2.2.2 = 0 then toksR f R (oneR R i).2.1 (acc ++ [(oneR R i).1])
       else ([], (oneR R i).2.2.1, (oneR R i).2.2.2))
    else (acc, R.length, 0)
def tkA (s : ByteArray) : List Tok × Nat × Int := if 400 < s.size then ([], 0, 3) else toksR (rn s).length (rn s) 0 []
end Go.Proofs.YtdkngidangfkiaaGreatDoor.Lex
