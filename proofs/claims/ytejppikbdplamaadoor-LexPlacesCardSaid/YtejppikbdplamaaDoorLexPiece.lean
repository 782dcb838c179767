/-
  Layer 5, plain: the token of a piece; a line's pieces have the document's tokens.
-/
import Derived.Test.YtejppikbdplamaaDoorLexGrp
namespace Go.Proofs.YtejppikbdplamaaDoor.Lex
open Go.RowKit
open Base Runes
open Go.Lib (encodeRune decodeL decodeL_le decodeL_width)
set_option linter.unusedVariables false
set_option linter.unusedSimpArgs false

/-! A text: where it ends, what is bad in it. -/

def chkR : Nat → List Nat → Nat × Bool
  | n, [] => (n, false)
  | n, r :: t => if cls (r : Int) = 0 then (n, true) else chkR (n + 1) t
theorem chk_map (n : Nat) (q : List (Nat × List UInt8)) : chk n q = chkR n (q.map (·.1)) := by
  induction q generalizing n with
  | nil => rfl
  | cons a t ih => rw [chk, List.map_cons, chkR, ih]
theorem chkR_good (l : List Nat) : ∀ n, GoodR l → chkR n l = (n + l.length, false) := by
  induction l with
  | nil => intro n _; rfl
  | cons r t ih =>
    intro n h
    rw [goodR_cons] at h
    rw [chkR, if_neg h.1, ih _ h.2, List.length_cons]
    congr 1; omega
theorem ck_rn (s : ByteArray) : ckN s = (chkR 0 (rn s)).1 ∧ ckE s = if (chkR 0 (rn s)).2 = true then 40 else 0 := by
  unfold ckN ckE
  rw [chk_map]
  exact ⟨rfl, rfl⟩
theorem ck_good {s : ByteArray} (h : GoodR (rn s)) : ckE s = 0 := by rw [(ck_rn s).2, chkR_good _ _ h]; rfl

theorem runM_end (m : Bool) (l : List Nat) : runM (.text m true) l = 0 := by cases l <;> rfl
theorem runM_text (m : Bool) (r : Nat) (t : List Nat) : runM (.text m false) (r :: t) = runM (.text (r == 92 && !m) (r == 34 && !m)) t + 1 := by
  rw [runM, if_pos (by rfl)]; rfl
theorem scn_run : ∀ (n : Nat) (Y : List Nat), Y.length ≤ n →
    ((scn Y).1 = 0 → runM (.text false false) Y = (scn Y).2 + 1) ∧
    ((scn Y).1 = 1 → ∀ k, chkR k (Y.take (runM (.text false false) Y)) = (k + (scn Y).2, true)) ∧
    ((scn Y).1 ≠ 0 → (scn Y).1 ≠ 1 → (scn Y).1 = 2 ∧ runM (.text false false) Y = Y.length ∧ GoodR Y)
  | _, [], _ => by
    refine ⟨fun h => ?_, fun h => ?_, fun _ _ => ⟨rfl, rfl, GoodR.nil⟩⟩ <;> simp [scn_nil] at h
  | 0, _ :: _, hl => by simp at hl
  | n + 1, r :: t, hl => by
    have hl2 : t.length ≤ n := by simpa using hl
    by_cases h34 : r = 34
    · subst h34
      rw [scn_end, runM_text]
      have e : runM (.text ((34 : Nat) == 92 && !false) ((34 : Nat) == 34 && !false)) t = 0 := runM_end _ _
      rw [e]
      exact ⟨fun _ => rfl, fun h => by simp at h, fun h => by simp at h⟩
    · have b34 : (r == 34 && !false) = false := by simp [h34]
      rw [runM_text, b34]
      by_cases hb : cls (r : Int) = 0
      · rw [scn_bad t h34 hb]
        refine ⟨fun h => by simp at h, fun _ k => ?_, fun _ h => by simp at h⟩
        rw [List.take_succ_cons, chkR, if_pos hb]; rfl
      · by_cases h92 : r = 92
        · subst h92
          have b92 : ((92 : Nat) == 92 && !false) = true := rfl
          rw [b92]
          cases t with
          | nil =>
            rw [scn_bs_end]
            exact ⟨fun h => by simp at h, fun h => by simp at h, fun _ _ => ⟨rfl, rfl, by rw [goodR_cons]; exact ⟨hb, GoodR.nil⟩⟩⟩
          | cons d u =>
            have bd : runM (.text true false) (d :: u) = runM (.text false false) u + 1 := by
              rw [runM_text]
              have e1 : (d == 92 && !true) = false := by simp
              have e2 : (d == 34 && !true) = false := by simp
              rw [e1, e2]
            rw [bd]
            by_cases hd : cls (d : Int) = 0
            · rw [scn_bs_bad u hd]
              refine ⟨fun h => by simp at h, fun _ k => ?_, fun _ h => by simp at h⟩
              rw [List.take_succ_cons, chkR, if_neg hb, List.take_succ_cons, chkR, if_pos hd]
            · obtain ⟨a, b, c⟩ := scn_run n u (by simp at hl2; omega)
              rw [scn_bs u hd]
              refine ⟨fun h => by dsimp only at h ⊢; rw [a h], fun h k => ?_, fun h0 h1 => ?_⟩
              · dsimp only at h ⊢
                rw [List.take_succ_cons, chkR, if_neg hb, List.take_succ_cons, chkR, if_neg hd, b h]
                congr 1; omega
              · dsimp only at h0 h1 ⊢
                obtain ⟨c1, c2, c3⟩ := c h0 h1
                exact ⟨c1, by rw [c2, List.length_cons, List.length_cons], by rw [goodR_cons, goodR_cons]; exact ⟨hb, hd, c3⟩⟩
        · obtain ⟨e1, e2⟩ := scn_on t h34 hb h92
          obtain ⟨a, b, c⟩ := scn_run n t hl2
          have b92 : (r == 92 && !false) = false := by simp [h92]
          rw [b92, e1]
          refine ⟨fun h => by rw [a h, e2 (by omega)], fun h k => ?_, fun h0 h1 => ?_⟩
          · rw [List.take_succ_cons, chkR, if_neg hb, b h, e2 (by omega)]
            congr 1; omega
          · obtain ⟨c1, c2, c3⟩ := c h0 h1
            exact ⟨c1, by rw [c2, List.length_cons], by rw [goodR_cons]; exact ⟨hb, c3⟩⟩

/-- What unmarks stands ahead of a " that ends a text. -/
theorem unR_scn : ∀ (n : Nat) (L : List (Nat × List UInt8)), L.length ≤ n → (∀ q ∈ L, cls (q.1 : Int) ≠ 0) → unR L false ≠ none → (scn (L.map (·.1) ++ [34])).1 = 0
  | _, [], _, _, _ => rfl
  | 0, _ :: _, hl, _, _ => by simp at hl
  | n + 1, q :: t, hl, hg, hu => by
    have hl2 : t.length ≤ n := by simpa using hl
    simp only [List.mem_cons, forall_eq_or_imp] at hg
    rw [List.map_cons, List.cons_append]
    by_cases h92 : q.1 = 92
    · rw [unR, if_pos ⟨h92, rfl⟩] at hu
      rw [h92]
      cases t with
      | nil => exact absurd rfl hu
      | cons c u =>
        simp only [List.mem_cons, forall_eq_or_imp] at hg
        rw [unR, if_neg (by simp)] at hu
        split at hu
        · exact absurd rfl hu
        · rw [List.map_cons, List.cons_append, scn_bs _ hg.2.1]
          refine unR_scn n u (by simp at hl2; omega) hg.2.2 fun h => ?_
          rw [h] at hu; exact hu rfl
    · rw [unR, if_neg (fun x => h92 x.1)] at hu
      split at hu
      · exact absurd rfl hu
      · rename_i hm
        have h34 : q.1 ≠ 34 := by
          intro h; apply hm; rw [h]; decide
        obtain ⟨e1, _⟩ := scn_on (t.map (·.1) ++ [34]) h34 hg.1 h92
        rw [e1]
        refine unR_scn n t hl2 hg.2 fun h => ?_
        rw [h] at hu; exact hu rfl

theorem uq_open {Y : List Nat} (hg : GoodR (34 :: Y)) (h : (scn Y).1 ≠ 0) : uqE (encB (34 :: Y)) = 50 := by
  have hE := good_encB _ hg
  refine (uq_no hE ?_).2.symm
  unfold uq
  split
  · rename_i hs
    have hgi : Runes.Good (inner (encB (34 :: Y)).data.toList) := good_inner hs ((ckE_good _).1 hE)
    have h1 := shut_eq hs
    cases hu : unB (inner (encB (34 :: Y)).data.toList) false with
    | none => rfl
    | some u =>
      exfalso
      apply h
      have e1 : pc (encB (34 :: Y)).data.toList = (34 :: Y).map fun r : Nat => (r, encodeRune (r : Int)) := pc_encL _ hg
      rw [h1, pc_ascii 34 _ (by decide), pc_append _ 34 [] (by decide)] at e1
      have e2 := congrArg (fun l => (l.map (·.1)).drop 1) e1
      simp only [List.map_cons, List.drop_succ_cons, List.drop_zero, List.map_append, List.map_map, pc_nil, List.map_nil] at e2
      have e3 : Y = (pc (inner (encB (34 :: Y)).data.toList)).map (·.1) ++ [34] := by
        conv => lhs; rw [← List.map_id Y]
        exact e2.symm
      rw [e3]
      refine unR_scn _ _ (Nat.le_refl _) hgi ?_
      rw [un_good _ hgi, hu]
      simp
  · rfl

/-! A token off a piece. -/

def anyS (l : List Nat) : Bool := l.any fun r : Nat => decide (97 ≤ r ∧ r ≤ 122)
def tokI (z : ByteArray) : Tok × Nat × Int :=
  if ckE z ≠ 0 then (zT, ckN z, ckE z)
  else if cls ((rn z).getD 0 0 : Nat) = 1 then (zT, 0, 0)
  else if cls ((rn z).getD 0 0 : Nat) = 2 then ((1, lowS z, 0, 0), 0, 0)
  else if cls ((rn z).getD 0 0 : Nat) = 3 then
    (if anyS (rn z) = true then ((3, z, 0, 0), 0, 0) else if numR (rn z) < 0 then ((2, ⟨#[]⟩, 0, 0), 0, 50) else ((2, ⟨#[]⟩, numR (rn z), 0), 0, 0))
  else if (rn z).getD 0 0 = 34 then ((4, uqS z, 0, 0), 0, uqE z)
  else if (rn z).getD 0 0 = 61 ∨ (rn z).getD 0 0 = 58 ∨ (rn z).getD 0 0 = 44 ∨ (rn z).getD 0 0 = 45 then ((5, z, 0, 0), 0, 0)
  else (zT, 0, 50)

/-- What a piece has that begins with a digit. -/
def PieceOk (z : ByteArray) : Prop := rn z ≠ [] ∧ (cls ((rn z).getD 0 0 : Nat) = 3 → ∀ r ∈ rn z, smallR r = true)

theorem any_small {l : List Nat} (h : ∀ r ∈ l, smallR r = true) : anyS l = anyL l := by
  unfold anyS anyL
  rw [Bool.eq_iff_iff, List.any_eq_true, List.any_eq_true]
  constructor
  · rintro ⟨r, hr, h1⟩
    rw [decide_eq_true_iff] at h1
    exact ⟨r, hr, by rw [decide_eq_true_iff]; omega⟩
  · rintro ⟨r, hr, h1⟩
    have h2 := h r hr
    unfold smallR at h2
    rw [decide_eq_true_iff] at h1 h2
    exact ⟨r, hr, by rw [decide_eq_true_iff]; omega⟩

theorem cls_four (r : Int) : cls r = 0 ∨ cls r = 1 ∨ cls r = 2 ∨ cls r = 3 ∨ cls r = 4 := by
  unfold cls
  repeat' split
  all_goals simp
theorem beg_no {r : Nat} (h2 : cls (r : Int) ≠ 2) (h3 : cls (r : Int) ≠ 3) (h : r ≠ 34) : beg r = .no := by
  unfold beg; rw [if_neg h2, if_neg h3, if_neg h]

theorem cls_small {r : Nat} (h : cls (r : Int) = 3) : smallR r = true := by
  unfold smallR
  rw [decide_eq_true_iff]
  unfold cls at h
  split at h
  · simp at h
  · split at h
    · simp at h
    · split at h
      · omega
      · split at h <;> simp at h

theorem piece_ok (s : ByteArray) (i : Nat) (hi : i < (rn s).length) : PieceOk (pieceAt s i) := by
  unfold PieceOk
  rw [rn_piece2 s i hi]
  refine ⟨by simp, fun h r hr => ?_⟩
  have h3 : cls ((rn s).getD i 0 : Nat) = 3 := h
  rcases List.mem_cons.1 hr with rfl | hr
  · exact cls_small h3
  · have hb : beg ((rn s).getD i 0) = .time := by unfold beg; rw [if_neg (by omega), if_pos h3]
    rw [hb, runM_time] at hr
    exact run_all _ _ r hr

/-- What a piece says of a place of a line is what the document says. -/
theorem step_tok (s : ByteArray) (i : Nat) (hi : i < (rn s).length) :
    (cls ((rn s).getD i 0 : Nat) = 1 → tokI (pieceAt s i) = (zT, 0, 0) ∧ wid (rn s) i = 1) ∧
    (cls ((rn s).getD i 0 : Nat) ≠ 1 → (oneR (rn s) i).2.2.2 = 0 → (tokI (pieceAt s i)).2.2 = 0 ∧ (tokI (pieceAt s i)).1.1 ≠ 0 ∧ atT (tokI (pieceAt s i)).1 i = (oneR (rn s) i).1 ∧ i + wid (rn s) i = (oneR (rn s) i).2.1) ∧
    (cls ((rn s).getD i 0 : Nat) ≠ 1 → (oneR (rn s) i).2.2.2 ≠ 0 → (tokI (pieceAt s i)).2.2 = (oneR (rn s) i).2.2.2 ∧ i + (tokI (pieceAt s i)).2.1 = (oneR (rn s) i).2.2.1) := by
  obtain ⟨r, hr⟩ : ∃ r, r = (rn s).getD i 0 := ⟨_, rfl⟩
  obtain ⟨Y, hY⟩ : ∃ Y, Y = (rn s).drop (i + 1) := ⟨_, rfl⟩
  have hrn := rn_piece2 s i hi
  have hcut := rn_piece s i hi
  have hwd : wid (rn s) i = runM (beg r) Y + 1 := by rw [hr, hY]; rfl
  rw [← hr, ← hY] at hrn
  have hg0 : (rn (pieceAt s i)).getD 0 0 = r := by rw [hrn]; rfl
  have hend : endR (rn s) i = i + 1 + runN (contR r) Y := by rw [hr, hY]; rfl
  unfold oneR textR
  rw [← hr, ← hY]
  obtain ⟨z, hz⟩ : ∃ z, z = pieceAt s i := ⟨_, rfl⟩
  rw [← hz] at hrn hcut hg0 ⊢
  unfold tokI
  rw [hg0]
  rcases cls_four (r : Int) with h0 | h1 | h2 | h3 | h4
  · -- bad
    have h34 : r ≠ 34 := by rintro rfl; revert h0; decide
    rw [beg_no (by omega) (by omega) h34, runM_no] at hrn hwd
    rw [List.take_zero] at hrn
    have hk := ck_rn z
    rw [hrn] at hk
    simp only [chkR, h0, if_true] at hk
    rw [if_pos h0, hk.2, hk.1, if_pos (by decide)]
    exact ⟨fun h => by omega, fun _ h => by simp at h, fun _ _ => ⟨rfl, rfl⟩⟩
  · -- blank
    have h34 : r ≠ 34 := by rintro rfl; revert h1; decide
    rw [beg_no (by omega) (by omega) h34, runM_no] at hrn hwd
    rw [List.take_zero] at hrn
    have hk := ck_good (s := z) (by rw [hrn, goodR_cons]; exact ⟨by omega, GoodR.nil⟩)
    rw [if_neg (by omega : ¬ ckE z ≠ 0), if_pos h1]
    exact ⟨fun _ => ⟨rfl, hwd⟩, fun h => absurd h1 h, fun h => absurd h1 h⟩
  · -- a word
    have hb : beg r = .word := by unfold beg; rw [if_pos h2]
    have hc : contR r = wordR := by funext x; unfold contR; rw [if_pos h2]
    rw [hb, runM_word] at hrn hwd
    rw [hc] at hend
    have hee : endR (rn s) i = i + wid (rn s) i := by rw [hend, hwd]; omega
    have hgd : GoodR (rn z) := by
      rw [hrn, goodR_cons]; exact ⟨by omega, fun x hx => word_good (run_all _ _ x hx)⟩
    have hk := ck_good hgd
    rw [if_neg (by omega : ¬ ckE z ≠ 0), if_neg (by omega : ¬ cls (r : Int) = 1), if_pos h2, if_neg (by omega : ¬ cls (r : Int) = 0), if_pos h2, hee, ← hcut, encB_rn hgd]
    exact ⟨fun h => by omega, fun _ _ => ⟨rfl, by simp, rfl, rfl⟩, fun _ h => absurd rfl h⟩
  · -- a run of digits and letters
    have hb : beg r = .time := by unfold beg; rw [if_neg (by omega), if_pos h3]
    have hc : contR r = smallR := by funext x; unfold contR; rw [if_neg (by omega), if_pos h3]
    rw [hb, runM_time] at hrn hwd
    rw [hc] at hend
    have hee : endR (rn s) i = i + wid (rn s) i := by rw [hend, hwd]; omega
    have hsm : ∀ x ∈ rn z, smallR x = true := by
      rw [hrn]; intro x hx
      rcases List.mem_cons.1 hx with rfl | hx
      · exact cls_small h3
      · exact run_all _ _ x hx
    have hgd : GoodR (rn z) := fun x hx => small_good (hsm x hx)
    have hk := ck_good hgd
    rw [if_neg (by omega : ¬ ckE z ≠ 0), if_neg (by omega : ¬ cls (r : Int) = 1), if_neg (by omega : ¬ cls (r : Int) = 2), if_pos h3, if_neg (by omega : ¬ cls (r : Int) = 0), if_neg (by omega : ¬ cls (r : Int) = 2), if_pos h3, hee, ← hcut, encB_rn hgd, any_small hsm]
    by_cases ha : anyL (rn z) = true
    · rw [if_pos ha, if_pos ha]
      exact ⟨fun h => by omega, fun _ _ => ⟨rfl, by simp, rfl, rfl⟩, fun _ h => absurd rfl h⟩
    · rw [if_neg ha, if_neg ha]
      by_cases hn : numR (rn z) < 0
      · rw [if_pos hn, if_pos hn]
        exact ⟨fun h => by omega, fun _ h => by simp at h, fun _ _ => ⟨rfl, rfl⟩⟩
      · rw [if_neg hn, if_neg hn]
        exact ⟨fun h => by omega, fun _ _ => ⟨rfl, by simp, rfl, rfl⟩, fun _ h => absurd rfl h⟩
  · by_cases h34 : r = 34
    · -- a text
      subst h34
      have hb : beg 34 = .text false false := rfl
      rw [hb] at hrn hwd
      obtain ⟨a, b, c⟩ := scn_run _ Y (Nat.le_refl _)
      have hk := ck_rn z
      rw [hrn, chkR, if_neg (by omega)] at hk
      rw [if_neg (by omega : ¬ cls ((34 : Nat) : Int) = 1), if_neg (by omega : ¬ cls ((34 : Nat) : Int) = 2), if_neg (by omega : ¬ cls ((34 : Nat) : Int) = 3), if_pos rfl,
        if_neg (by omega : ¬ cls ((34 : Nat) : Int) = 0), if_neg (by omega : ¬ cls ((34 : Nat) : Int) = 2), if_neg (by omega : ¬ cls ((34 : Nat) : Int) = 3), if_pos rfl]
      by_cases s1 : (scn Y).1 = 1
      · rw [b s1] at hk
        simp only [if_true] at hk
        rw [if_pos s1, hk.2, hk.1, if_pos (by decide)]
        exact ⟨fun h => by omega, fun _ h => by simp at h, fun _ _ => ⟨rfl, by dsimp only; omega⟩⟩
      · rw [if_neg s1]
        by_cases s0 : (scn Y).1 = 0
        · have hsc := a s0
          have hgd : GoodR (rn z) := by
            rw [hrn, goodR_cons, hsc]; exact ⟨by omega, scn_good _ Y (Nat.le_refl _) s0⟩
          have hke := ck_good hgd
          have hcut2 : cutR (rn s) i (i + (scn Y).2 + 2) = rn z := by rw [hcut, hwd, hsc]; rfl
          rw [if_neg (by omega : ¬ ckE z ≠ 0), if_pos s0, hcut2, encB_rn hgd]
          by_cases hu : uqE z = 0
          · rw [if_pos hu, hu]
            exact ⟨fun h => by omega, fun _ _ => ⟨rfl, by simp, rfl, by dsimp only; omega⟩, fun _ h => absurd rfl h⟩
          · rw [if_neg hu]
            have hu50 : uqE z = 50 := by
              unfold uqE at hu ⊢
              rw [if_pos hke] at hu ⊢
              split at hu
              · exact absurd rfl hu
              · rename_i h; rw [if_neg h]
            rw [hu50]
            exact ⟨fun h => by omega, fun _ h => by simp at h, fun _ _ => ⟨rfl, rfl⟩⟩
        · obtain ⟨_, c2, c3⟩ := c s0 s1
          rw [c2, List.take_of_length_le (Nat.le_refl _)] at hrn
          have hgd : GoodR (rn z) := by rw [hrn, goodR_cons]; exact ⟨by omega, c3⟩
          have hke := ck_good hgd
          have hu50 : uqE z = 50 := by
            rw [← encB_rn hgd, hrn]
            exact uq_open (by rw [goodR_cons]; exact ⟨by omega, c3⟩) s0
          rw [if_neg (by omega : ¬ ckE z ≠ 0), if_neg s0, hu50]
          exact ⟨fun h => by omega, fun _ h => by simp at h, fun _ _ => ⟨rfl, rfl⟩⟩
    · rw [beg_no (by omega) (by omega) h34, runM_no] at hrn hwd
      rw [List.take_zero] at hrn
      have hgd : GoodR (rn z) := by rw [hrn, goodR_cons]; exact ⟨by omega, GoodR.nil⟩
      have hk := ck_good hgd
      rw [if_neg (by omega : ¬ ckE z ≠ 0), if_neg (by omega : ¬ cls (r : Int) = 1), if_neg (by omega : ¬ cls (r : Int) = 2), if_neg (by omega : ¬ cls (r : Int) = 3), if_neg h34,
        if_neg (by omega : ¬ cls (r : Int) = 0), if_neg (by omega : ¬ cls (r : Int) = 2), if_neg (by omega : ¬ cls (r : Int) = 3), if_neg h34]
      by_cases hs : r = 61 ∨ r = 58 ∨ r = 44 ∨ r = 45
      · have hcut2 : cutR (rn s) i (i + 1) = rn z := by rw [hcut, hwd]
        rw [if_pos hs, if_pos hs, hcut2, encB_rn hgd]
        exact ⟨fun h => by omega, fun _ _ => ⟨rfl, by simp, rfl, by dsimp only; omega⟩, fun _ h => absurd rfl h⟩
      · rw [if_neg hs, if_neg hs]
        exact ⟨fun h => by omega, fun _ h => by simp at h, fun _ _ => ⟨rfl, rfl⟩⟩

/-! The tokens of a line's pieces. -/

def tkF : List ByteArray → Nat → List Tok → List Tok × Nat × Int
  | [], n, acc => (acc, n, 0)
  | z :: t, n, acc => if (tokI z).2.2 ≠ 0 then ([], n + (tokI z).2.1, (tokI z).2.2) else tkF t (n + cn z) (if (tokI z).1.1 ≠ 0 then acc ++ [atT (tokI z).1 n] else acc)

theorem tkF_toksR (s : ByteArray) : ∀ (f i : Nat) (acc : List Tok), (rn s).length ≤ i + f → i ≤ (rn s).length → tkF ((grp .no [] ((ps s 0).drop i)).map toB) i acc = toksR f (rn s) i acc
  | f, i, acc, hf, hi => by
    by_cases hp : i < (rn s).length
    · obtain ⟨g, rfl⟩ : ∃ g, f = g + 1 := ⟨f - 1, by omega⟩
      obtain ⟨a, b, c⟩ := step_tok s i hp
      have hw := wid_le (rn s) i hp
      rw [grp_step s i hp, tkF, toksR, if_pos hp, cn_piece s i hp]
      by_cases h1 : cls ((rn s).getD i 0 : Nat) = 1
      · obtain ⟨a1, a2⟩ := a h1
        rw [if_pos h1, a1, a2, if_neg (by simp), if_neg (by simp [zT])]
        exact tkF_toksR s g (i + 1) acc (by omega) (by omega)
      · rw [if_neg h1]
        by_cases he : (oneR (rn s) i).2.2.2 = 0
        · obtain ⟨b1, b2, b3, b4⟩ := b h1 he
          rw [if_pos he, b1, if_neg (by simp), if_pos b2, b3, b4]
          exact tkF_toksR s g _ _ (by omega) (by omega)
        · obtain ⟨c1, c2⟩ := c h1 he
          rw [if_neg he, c1, c2, if_pos he]
    · have : i = (rn s).length := by omega
      subst this
      have hl : (ps s 0).drop (rn s).length = [] := by rw [List.drop_eq_nil_iff]; unfold rn; simp
      rw [hl]
      cases f with
      | zero => rfl
      | succ f => rw [toksR, if_neg hp]; rfl

theorem pcs_tkA {s : ByteArray} (hs : ¬ 400 < s.size) : tkF (pcs s) 0 [] = tkA s := by
  unfold tkA
  rw [if_neg hs, ← tkF_toksR s _ 0 [] (by omega) (Nat.zero_le _)]
  rfl

/-- Each piece of a line begins at one of its places. -/
theorem grp_pieces (s : ByteArray) : ∀ (f i : Nat), (rn s).length ≤ i + f → ∀ z ∈ (grp .no [] ((ps s 0).drop i)).map toB, ∃ j, j < (rn s).length ∧ z = pieceAt s j
  | f, i, hf => by
    by_cases hp : i < (rn s).length
    · obtain ⟨g, rfl⟩ : ∃ g, f = g + 1 := ⟨f - 1, by omega⟩
      have hw := wid_le (rn s) i hp
      rw [grp_step s i hp]
      intro z hz
      rcases List.mem_cons.1 hz with rfl | hz
      · exact ⟨i, hp, rfl⟩
      · exact grp_pieces s g _ (by omega) z hz
    · have hl : (ps s 0).drop i = [] := by rw [List.drop_eq_nil_iff]; unfold rn at hp; simpa using hp
      rw [hl]
      intro z hz; simp [grp] at hz
theorem pcs_ok (s : ByteArray) : ∀ z ∈ pcs s, PieceOk z ∧ z.size ≤ s.size := by
  intro z hz
  obtain ⟨j, hj, rfl⟩ := grp_pieces s (rn s).length 0 (by omega) z hz
  refine ⟨piece_ok s j hj, ?_⟩
  unfold pieceAt
  rw [Lib.size_eq, toB_data, Lib.size_eq]
  have hl : j ≤ (pc s.data.toList).length := by unfold rn at hj; rw [List.length_map] at hj; exact Nat.le_of_lt hj
  rw [ps_zero, ← cut_back j _ hl, flat_take, List.length_take, List.length_drop]
  omega
theorem pcs_length (s : ByteArray) : ∀ (f i : Nat), (rn s).length ≤ i + f → ((grp .no [] ((ps s 0).drop i)).map toB).length ≤ f
  | f, i, hf => by
    by_cases hp : i < (rn s).length
    · obtain ⟨g, rfl⟩ : ∃ g, f = g + 1 := ⟨f - 1, by omega⟩
      have hw := wid_le (rn s) i hp
      rw [grp_step s i hp, List.length_cons]
      have := pcs_length s g (i + wid (rn s) i) (by omega)
      omega
    · have hl : (ps s 0).drop i = [] := by rw [List.drop_eq_nil_iff]; unfold rn at hp; simpa using hp
      rw [hl]; simp [grp]
theorem pcs_few (s : ByteArray) : (pcs s).length ≤ s.size := by
  have h1 := pcs_length s (rn s).length 0 (by omega)
  have h2 := cn_le s
  rw [← rn_length] at h2
  unfold pcs
  rw [List.drop_zero] at h1
  omega

end Go.Proofs.YtejppikbdplamaaDoor.Lex
