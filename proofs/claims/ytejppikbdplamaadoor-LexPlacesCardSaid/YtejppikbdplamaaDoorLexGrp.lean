/-
  Layer 5, plain: a line cut into pieces as the program does it, a token read off each piece; the same tokens as the document's.
-/
import Derived.Test.YtejppikbdplamaaDoorLexAgain
namespace Go.Proofs.YtejppikbdplamaaDoor.Lex
open Go.RowKit
open Base Runes
open Go.Lib (encodeRune decodeL decodeL_le decodeL_width)
set_option linter.unusedVariables false
set_option linter.unusedSimpArgs false

/-! What is asked of the next rune. -/

inductive Mo where
  | no
  | word
  | time
  | text (m e : Bool)

def Mo.q : Mo → Nat → Bool
  | .no, _ => false
  | .word, r => wordR r
  | .time, r => smallR r
  | .text _ e, _ => !e
def Mo.nx : Mo → Nat → Mo
  | .text m e, r => if e = true then .text m e else .text (r == 92 && !m) (r == 34 && !m)
  | m, _ => m
def beg (r : Nat) : Mo := if cls (r : Int) = 2 then .word else if cls (r : Int) = 3 then .time else if r = 34 then .text false false else .no

def runM : Mo → List Nat → Nat
  | _, [] => 0
  | m, r :: t => if m.q r = true then runM (m.nx r) t + 1 else 0
theorem runM_le (m : Mo) (l : List Nat) : runM m l ≤ l.length := by
  induction l generalizing m with
  | nil => simp [runM]
  | cons r t ih => rw [runM, List.length_cons]; split; have := ih (m.nx r); omega; omega
theorem runM_no (l : List Nat) : runM .no l = 0 := by cases l <;> rfl
theorem runM_word (l : List Nat) : runM .word l = runN wordR l := by
  induction l with
  | nil => rfl
  | cons r t ih => rw [runM, runN, ← ih]; rfl
theorem runM_time (l : List Nat) : runM .time l = runN smallR l := by
  induction l with
  | nil => rfl
  | cons r t ih => rw [runM, runN, ← ih]; rfl

/-! The pieces. -/

def grp : Mo → List UInt8 → List (Nat × List UInt8) → List (List UInt8)
  | _, cur, [] => if cur = [] then [] else [cur]
  | m, cur, q :: t => if m.q q.1 = true then grp (m.nx q.1) (cur ++ q.2) t else (if cur = [] then [] else [cur]) ++ grp (beg q.1) q.2 t
def toB (l : List UInt8) : ByteArray := ⟨l.toArray⟩
theorem toB_data (l : List UInt8) : (toB l).data.toList = l := rfl
def pcs (s : ByteArray) : List ByteArray := (grp .no [] (ps s 0)).map toB

theorem grp_run (m : Mo) (cur : List UInt8) (hc : cur ≠ []) (t : List (Nat × List UInt8)) :
    grp m cur t = (cur ++ (t.take (runM m (t.map (·.1)))).flatMap (·.2)) :: grp .no [] (t.drop (runM m (t.map (·.1)))) := by
  induction t generalizing m cur with
  | nil => simp [grp, hc]
  | cons q t ih =>
    rw [grp, List.map_cons, runM]
    by_cases h : m.q q.1 = true
    · rw [if_pos h, if_pos h, ih _ _ (by simp [hc]), List.take_succ_cons, List.flatMap_cons, List.drop_succ_cons, List.append_assoc]
    · rw [if_neg h, if_neg h, if_neg hc]
      simp [grp, Mo.q]

/-- What is cut out of a text at its runes has these runes. -/
theorem cut_take (n : Nat) (l : List UInt8) : pc (l.take (plc n (pc l))) = (pc l).take n := by
  by_cases hn : n ≤ (pc l).length
  · induction n generalizing l with
    | zero => simp [plc, pc_nil]
    | succ n ih =>
      have hne : l ≠ [] := by rintro rfl; simp [pc_nil] at hn
      have hle := decodeL_le l hne
      have hw := decodeL_width l
      rw [pc_step l hne] at hn ⊢
      have hn2 : n ≤ (pc (l.drop (decodeL l).2)).length := by simpa using hn
      rw [plc, List.length_take, Nat.min_eq_left hle]
      obtain ⟨j, hj⟩ : ∃ j, j = plc n (pc (l.drop (decodeL l).2)) := ⟨_, rfl⟩
      rw [← hj]
      have hxl : (l.take ((decodeL l).2 + j)).length = min ((decodeL l).2 + j) l.length := List.length_take
      have hxne : l.take ((decodeL l).2 + j) ≠ [] := by
        intro h0; rw [h0] at hxl; simp at hxl; have := List.length_pos_iff.2 hne; omega
      have htk : ∀ k, k ≤ (decodeL l).2 + j → (l.take ((decodeL l).2 + j)).take k = l.take k := fun k hk => by rw [List.take_take, Nat.min_eq_left hk]
      have hg : (l.take ((decodeL l).2 + j)).getD 0 0 = l.getD 0 0 := by
        cases l with
        | nil => exact absurd rfl hne
        | cons b t =>
          obtain ⟨k, hk⟩ : ∃ k, (decodeL (b :: t)).2 + j = k + 1 := ⟨(decodeL (b :: t)).2 + j - 1, by omega⟩
          rw [hk]; rfl
      have hd : decodeL (l.take ((decodeL l).2 + j)) = decodeL l := by
        rcases dec_cases l hne with ⟨h, e⟩ | ⟨h, e⟩ | ⟨h1, h2, h3, h4⟩
        · rcases dec_cases _ hxne with ⟨k, f⟩ | ⟨k, f⟩ | ⟨k1, k2, k3, k4⟩
          · rw [f, hg]; exact e.symm
          · rw [hg] at k; omega
          · have hle2 := decodeL_le _ hxne
            exact (k4 l (by rw [hxl] at hle2; omega) (by rw [htk _ (by rw [hxl] at hle2; omega)])).symm
        · rcases dec_cases _ hxne with ⟨k, f⟩ | ⟨k, f⟩ | ⟨k1, k2, k3, k4⟩
          · rw [hg] at k; omega
          · rw [f, e]
          · have hle2 := decodeL_le _ hxne
            exact (k4 l (by rw [hxl] at hle2; omega) (by rw [htk _ (by rw [hxl] at hle2; omega)])).symm
        · exact h4 _ (by rw [hxl]; omega) (htk _ (by omega))
      rw [pc_step _ hxne, hd, htk _ (by omega), List.drop_take, Nat.add_sub_cancel_left, hj, ih _ hn2, List.take_succ_cons]
  · have h1 : ∀ (n : Nat) (q : List (Nat × List UInt8)), q.length ≤ n → plc n q = plc q.length q := by
      intro n q
      induction q generalizing n with
      | nil => intro _; cases n <;> rfl
      | cons a t ih => intro h; cases n with
        | zero => simp at h
        | succ n => rw [plc, List.length_cons, plc, ih n (by simpa using h)]
    rw [h1 n _ (by omega), plc_all, List.take_of_length_le (Nat.le_refl _), List.take_of_length_le (by omega)]
theorem flat_take (n : Nat) (l : List UInt8) : ((pc l).take n).flatMap (·.2) = l.take (plc n (pc l)) := by
  rw [← cut_take, pc_bytes]
theorem cut_mid (l : List UInt8) (i n : Nat) (hi : i ≤ (pc l).length) : pc ((((pc l).drop i).take n).flatMap (·.2)) = ((pc l).drop i).take n := by
  rw [← cut_back i l hi, flat_take, cut_take]

/-- The piece that begins at a place of a line. -/
def wid (R : List Nat) (i : Nat) : Nat := runM (beg (R.getD i 0)) (R.drop (i + 1)) + 1
def pieceAt (s : ByteArray) (i : Nat) : ByteArray := toB ((((ps s 0).drop i).take (wid (rn s) i)).flatMap (·.2))

theorem rn_drop (s : ByteArray) (i : Nat) : ((ps s 0).drop i).map (·.1) = (rn s).drop i := by unfold rn; rw [List.map_drop]
theorem rn_getD (s : ByteArray) (i : Nat) (hi : i < (ps s 0).length) : ((ps s 0)[i]).1 = (rn s).getD i 0 := by
  unfold rn; simp [List.getD, hi]

theorem grp_step (s : ByteArray) (i : Nat) (hi : i < (rn s).length) :
    (grp .no [] ((ps s 0).drop i)).map toB = pieceAt s i :: (grp .no [] ((ps s 0).drop (i + wid (rn s) i))).map toB := by
  have hi2 : i < (ps s 0).length := by unfold rn at hi; simpa using hi
  have hbne : ((ps s 0)[i]).2 ≠ [] := by
    have h : ∀ (l : List UInt8), ∀ q ∈ pc l, q.2 ≠ [] := by
      intro l
      induction l using pc_ind with
      | h0 => simp [pc_nil]
      | h1 l hne ih =>
        rw [pc_step l hne]
        intro q hq
        rcases List.mem_cons.1 hq with rfl | hq
        · have hw := decodeL_width l
          have hl := List.length_pos_iff.2 hne
          intro h0
          have := congrArg List.length h0
          rw [List.length_take, List.length_nil] at this
          omega
        · exact ih q hq
    exact h _ _ (List.getElem_mem hi2)
  rw [List.drop_eq_getElem_cons hi2, grp]
  rw [if_neg (by simp [Mo.q]), if_pos rfl, List.nil_append, grp_run _ _ hbne, List.map_cons, rn_drop, rn_getD s i hi2]
  congr 1
  · unfold pieceAt wid
    rw [List.drop_eq_getElem_cons hi2, List.take_succ_cons, List.flatMap_cons]
  · unfold wid
    rw [List.drop_drop]
    congr 3
    omega

theorem ps_piece (s : ByteArray) (i : Nat) (hi : i < (rn s).length) : ps (pieceAt s i) 0 = ((ps s 0).drop i).take (wid (rn s) i) := by
  unfold pieceAt
  rw [ps_zero, toB_data]
  have h : i ≤ (pc s.data.toList).length := by unfold rn at hi; rw [List.length_map] at hi; exact Nat.le_of_lt hi
  exact cut_mid s.data.toList i _ h
theorem wid_le (R : List Nat) (i : Nat) (hi : i < R.length) : 0 < wid R i ∧ i + wid R i ≤ R.length := by
  have := runM_le (beg (R.getD i 0)) (R.drop (i + 1))
  rw [List.length_drop] at this
  unfold wid; omega
theorem rn_piece (s : ByteArray) (i : Nat) (hi : i < (rn s).length) : rn (pieceAt s i) = cutR (rn s) i (i + wid (rn s) i) := by
  have h : rn (pieceAt s i) = (ps (pieceAt s i) 0).map (·.1) := rfl
  rw [h, ps_piece s i hi, List.map_take, rn_drop]
  unfold cutR
  rw [Nat.add_sub_cancel_left]
theorem rn_piece2 (s : ByteArray) (i : Nat) (hi : i < (rn s).length) : rn (pieceAt s i) = (rn s).getD i 0 :: ((rn s).drop (i + 1)).take (runM (beg ((rn s).getD i 0)) ((rn s).drop (i + 1))) := by
  rw [rn_piece s i hi]
  unfold cutR wid
  rw [Nat.add_sub_cancel_left, drop_cons _ i hi, List.take_succ_cons]
theorem cn_piece (s : ByteArray) (i : Nat) (hi : i < (rn s).length) : cn (pieceAt s i) = wid (rn s) i := by
  rw [← rn_length, rn_piece s i hi, cutR_length _ _ _ (wid_le _ i hi).2]; omega

end Go.Proofs.YtejppikbdplamaaDoor.Lex
