/-
  Layer 5, plain: a line's tokens may be written, and are the same again; tokens joined are the tokens.
-/
import Derived.Test.YtejppikbdplamaaDoorLexRow
namespace Go.Proofs.YtejppikbdplamaaDoor.Lex
open Go.RowKit
open Base Runes
open Go.Lib (encodeRune)
set_option linter.unusedVariables false
set_option linter.unusedSimpArgs false

/-! Texts, turned and back. -/

theorem qt_yes {s : ByteArray} (h : ckE s = 0) : qtS s = ⟨(qt s.data.toList).toArray⟩ := by unfold qtS; rw [if_pos h]
theorem unq_back {s : ByteArray} (h : ckE s = 0) (he : uqE s = 0) : qtS (uqS s) = s := by
  cases hu : uq s.data.toList with
  | none => have := (uq_no h hu).2; omega
  | some u =>
    obtain ⟨h1, h2⟩ := uq_yes h hu
    have h3 := uq_some hu
    have hg : ckE (uqS s) = 0 := by rw [ckE_good, ← h1, ofList_data, ← good_qt, h3, ← ckE_good]; exact h
    rw [qt_yes hg, ← h1, ofList_data, h3]

/-! Numbers, as digits. -/

def vN (n : Nat) (T : List Nat) : Nat := T.foldl (fun n r => 10 * n + (r - 48)) n
def DigR (T : List Nat) : Prop := ∀ r ∈ T, 48 ≤ r ∧ r ≤ 57
theorem numF_v (T : List Nat) : ∀ n : Nat, DigR T → numF (n : Int) T = (vN n T : Int) := by
  induction T with
  | nil => intro n _; rfl
  | cons r t ih =>
    intro n h
    have hr := h r (by simp)
    rw [numF, if_neg (by omega)]
    have e : 10 * (n : Int) + ((r : Int) - 48) = ((10 * n + (r - 48) : Nat) : Int) := by omega
    rw [e, ih _ (fun x hx => h x (by simp [hx]))]
    rfl
theorem dig_v : ∀ (f : Nat) (T : List Nat), T ≠ [] → DigR T → T.length ≤ f → (1 < T.length → T.getD 0 0 ≠ 48) → digF f (vN 0 T) = T.map UInt8.ofNat ∧ (T.getD 0 0 ≠ 48 → 1 ≤ vN 0 T)
  | 0, T, hne, _, hl, _ => by have := List.length_pos_iff.2 hne; omega
  | f + 1, T, hne, hd, hl, hz => by
    obtain ⟨U, d, rfl⟩ : ∃ U d, T = U ++ [d] := ⟨T.dropLast, T.getLast hne, (List.dropLast_concat_getLast hne).symm⟩
    have hdd := hd d (by simp)
    have ev : vN 0 (U ++ [d]) = 10 * vN 0 U + (d - 48) := by unfold vN; rw [List.foldl_append]; rfl
    rw [ev]
    by_cases hU : U = []
    · subst hU
      have e0 : vN 0 [] = 0 := rfl
      rw [e0, digF, if_pos (by omega)]
      refine ⟨?_, fun h => ?_⟩
      · rw [show 48 + (10 * 0 + (d - 48)) = d by omega]; rfl
      · have : d ≠ 48 := h
        omega
    · have hul := List.length_pos_iff.2 hU
      rw [List.length_append, List.length_singleton] at hl hz
      have hg : (U ++ [d]).getD 0 0 = U.getD 0 0 := by cases U with | nil => exact absurd rfl hU | cons a U => rfl
      rw [hg] at hz ⊢
      have h48 := hz (by omega)
      obtain ⟨i1, i2⟩ := dig_v f U hU (fun x hx => hd x (by simp [hx])) (by omega) (fun _ => h48)
      have h1 := i2 h48
      rw [digF, if_neg (by omega), show (10 * vN 0 U + (d - 48)) / 10 = vN 0 U by omega, i1, show 48 + (10 * vN 0 U + (d - 48)) % 10 = d by omega]
      exact ⟨by simp, fun _ => by omega⟩
theorem digR_good {T : List Nat} (h : DigR T) : GoodR T := fun r hr => by
  have := h r hr
  unfold cls; rw [if_neg (by omega), if_neg (by omega), if_pos (by omega)]; decide
theorem encL_dig (T : List Nat) (h : DigR T) : encL T = T.map UInt8.ofNat := by
  induction T with
  | nil => rfl
  | cons r t ih =>
    have hr := h r (by simp)
    have hg := digR_good h r (by simp)
    rcases (decode_encode r [] hg).2.1 with ⟨_, e⟩ | ⟨c, _⟩
    · have e2 : encL (r :: t) = encodeRune (r : Int) ++ encL t := rfl
      rw [e2, e, ih (fun x hx => h x (by simp [hx]))]; rfl
    · omega
theorem digB_num {T : List Nat} (hd : DigR T) (hn : ¬ numR T < 0) : digB (numR T) = encB T := by
  unfold numR at hn ⊢
  by_cases hc : T.length = 0 ∨ 9 < T.length ∨ (1 < T.length ∧ T.getD 0 0 = 48)
  · rw [if_pos hc] at hn; omega
  · rw [if_neg hc]
    have hne : T ≠ [] := fun h => hc (.inl (by rw [h]; rfl))
    have hv := numF_v T 0 hd
    rw [show numF 0 T = numF ((0 : Nat) : Int) T from rfl, hv]
    unfold digB encB
    rw [if_neg (by omega), Int.toNat_natCast, encL_dig T hd, (dig_v 20 T hne hd (by omega) (fun h h2 => hc (.inr (.inr ⟨h, h2⟩)))).1]

/-! What a token's runes are. -/

theorem run_all (q : Nat → Bool) (t : List Nat) : ∀ r ∈ t.take (runN q t), q r = true := by
  induction t with
  | nil => simp
  | cons c t ih =>
    rw [runN]
    by_cases h : q c = true
    · rw [if_pos h, List.take_succ_cons]
      intro r hr
      rcases List.mem_cons.1 hr with rfl | hr
      · exact h
      · exact ih r hr
    · rw [if_neg h]; simp
theorem runN_all (q : Nat → Bool) (t : List Nat) (h : ∀ r ∈ t, q r = true) : runN q t = t.length := by
  induction t with
  | nil => rfl
  | cons c t ih => rw [runN, if_pos (h c (by simp)), ih (fun r hr => h r (by simp [hr])), List.length_cons]
theorem head_tail {X : List Nat} (hne : X ≠ []) : X = X.getD 0 0 :: X.drop 1 := by
  cases X with
  | nil => exact absurd rfl hne
  | cons r t => rfl
theorem head_take {X : List Nat} (hne : X ≠ []) (n : Nat) : X.take (n + 1) = X.getD 0 0 :: (X.drop 1).take n := by
  cases X with
  | nil => exact absurd rfl hne
  | cons r t => rfl
theorem end_take {X : List Nat} (hne : X ≠ []) : X.take (endR X 0) = X.getD 0 0 :: (X.drop 1).take (runN (contR (X.getD 0 0)) (X.drop 1)) := by
  have e : endR X 0 = runN (contR (X.getD 0 0)) (X.drop 1) + 1 := by unfold endR; simp only [Nat.zero_add]; omega
  rw [e]
  conv => lhs; rw [head_tail hne, List.take_succ_cons]
  rw [← head_tail hne]
theorem word_good {r : Nat} (h : wordR r = true) : cls (r : Int) ≠ 0 := by
  unfold wordR at h
  rw [decide_eq_true_iff] at h
  rcases h with h | h | rfl | rfl
  · omega
  · omega
  · decide
  · decide
theorem small_good {r : Nat} (h : smallR r = true) : cls (r : Int) ≠ 0 := by
  unfold smallR at h
  rw [decide_eq_true_iff] at h
  unfold cls
  rw [if_neg (by omega), if_neg (by omega)]
  split
  · decide
  · rw [if_pos (by omega)]; decide
theorem end_good {X : List Nat} (hne : X ≠ []) (hc : cls (X.getD 0 0 : Nat) = 2 ∨ cls (X.getD 0 0 : Nat) = 3) : GoodR (X.take (endR X 0)) := by
  rw [end_take hne, goodR_cons]
  refine ⟨by omega, fun r hr => ?_⟩
  have h := run_all _ _ r hr
  unfold contR at h
  rcases hc with h2 | h3
  · rw [if_pos h2] at h; exact word_good h
  · rw [if_neg (by omega), if_pos h3] at h; exact small_good h
theorem scn_good : ∀ (n : Nat) (t : List Nat), t.length ≤ n → (scn t).1 = 0 → GoodR (t.take ((scn t).2 + 1))
  | _, [], _, h => by simp [scn_nil] at h
  | 0, _ :: _, hl, _ => by simp at hl
  | n + 1, r :: t, hl, h => by
    have hl2 : t.length ≤ n := by simpa using hl
    by_cases h34 : r = 34
    · subst h34; rw [scn_end, List.take_succ_cons, goodR_cons]; exact ⟨by decide, by simp [GoodR]⟩
    · by_cases hb : cls (r : Int) = 0
      · rw [scn_bad t h34 hb] at h; simp at h
      · by_cases h92 : r = 92
        · subst h92
          cases t with
          | nil => rw [scn_bs_end] at h; simp at h
          | cons d u =>
            by_cases hd : cls (d : Int) = 0
            · rw [scn_bs_bad u hd] at h; simp at h
            · rw [scn_bs u hd] at h ⊢
              rw [List.take_succ_cons, List.take_succ_cons, goodR_cons, goodR_cons]
              exact ⟨hb, hd, scn_good n u (by simp at hl2; omega) h⟩
        · obtain ⟨e1, e2⟩ := scn_on t h34 hb h92
          rw [e1] at h
          rw [e2 (by omega), List.take_succ_cons, goodR_cons]
          exact ⟨hb, scn_good n t hl2 h⟩

/-- A token that stands at the head: its runes are good; written, it is these runes, a word small. -/
theorem one_is {X : List Nat} (hne : X ≠ []) (he : (oneR X 0).2.2.2 = 0) (b : Nat) :
    GoodR (X.take (oneR X 0).2.1) ∧ ((cls (X.getD 0 0 : Nat) = 2 ∧ (oneR X 0).1 = (1, lowS (encB (X.take (oneR X 0).2.1)), 0, 0)) ∨ wrB (atT (oneR X 0).1 b) = encB (X.take (oneR X 0).2.1)) := by
  unfold oneR textR at he ⊢
  unfold atT
  by_cases h0 : cls (X.getD 0 0 : Nat) = 0
  · rw [if_pos h0] at he; simp at he
  · rw [if_neg h0] at he ⊢
    by_cases h2 : cls (X.getD 0 0 : Nat) = 2
    · rw [if_pos h2]
      dsimp only
      exact ⟨end_good hne (.inl h2), .inl ⟨h2, by rw [cutR_zero]; rfl⟩⟩
    · rw [if_neg h2] at he ⊢
      by_cases h3 : cls (X.getD 0 0 : Nat) = 3
      · rw [if_pos h3] at he ⊢
        by_cases ha : anyL (cutR X 0 (endR X 0)) = true
        · rw [if_pos ha]
          dsimp only
          refine ⟨end_good hne (.inr h3), .inr ?_⟩
          rw [cutR_zero]; rfl
        · rw [if_neg ha] at he ⊢
          by_cases hn : numR (cutR X 0 (endR X 0)) < 0
          · rw [if_pos hn] at he; simp at he
          · rw [if_neg hn]
            dsimp only
            refine ⟨end_good hne (.inr h3), .inr ?_⟩
            show digB _ = _
            rw [cutR_zero] at ha hn ⊢
            refine digB_num (fun r hr => ?_) hn
            have hr97 : ¬ 97 ≤ r := fun h => ha (by unfold anyL; rw [List.any_eq_true]; exact ⟨r, hr, by rw [decide_eq_true_iff]; exact h⟩)
            rw [end_take hne] at hr
            rcases List.mem_cons.1 hr with rfl | hr
            · unfold cls at h3
              split at h3
              · omega
              · split at h3
                · omega
                · split at h3
                  · omega
                  · split at h3 <;> omega
            · have h := run_all _ _ r hr
              unfold contR at h
              rw [if_neg h2, if_pos h3] at h
              unfold smallR at h
              rw [decide_eq_true_iff] at h
              omega
      · rw [if_neg h3] at he ⊢
        by_cases h34 : X.getD 0 0 = 34
        · rw [if_pos h34] at he ⊢
          by_cases s1 : (scn (X.drop (0 + 1))).1 = 1
          · rw [if_pos s1] at he; simp at he
          · rw [if_neg s1] at he ⊢
            by_cases s0 : (scn (X.drop (0 + 1))).1 = 0
            · rw [if_pos s0] at he ⊢
              by_cases hu : uqE (encB (cutR X 0 (0 + (scn (X.drop (0 + 1))).2 + 2))) = 0
              · rw [if_pos hu]
                dsimp only
                have hg : GoodR (X.take (0 + (scn (X.drop (0 + 1))).2 + 2)) := by
                  rw [head_take hne, goodR_cons]
                  refine ⟨h0, ?_⟩
                  have := scn_good _ (X.drop 1) (Nat.le_refl _) s0
                  rw [Nat.zero_add]; exact this
                refine ⟨hg, .inr ?_⟩
                show qtS _ = _
                rw [cutR_zero] at hu ⊢
                exact unq_back (good_encB _ hg) hu
              · rw [if_neg hu] at he; simp at he
            · rw [if_neg s0] at he; simp at he
        · rw [if_neg h34] at he ⊢
          by_cases hs : X.getD 0 0 = 61 ∨ X.getD 0 0 = 58 ∨ X.getD 0 0 = 44 ∨ X.getD 0 0 = 45
          · rw [if_pos hs]
            dsimp only
            refine ⟨?_, .inr (by rw [cutR_zero]; rfl)⟩
            rw [head_tail hne, Nat.zero_add, List.take_succ_cons, goodR_cons]
            exact ⟨h0, by simp [GoodR]⟩
          · rw [if_neg hs] at he; simp at he

theorem toks_good {X : List Nat} {b : Nat} {l : List Tok} (h : Toks X b l) : GoodR X := by
  induction h with
  | nil b => exact GoodR.nil
  | blank h1 _ ih => exact goodR_cons.2 ⟨by omega, ih⟩
  | @tok X b l hne h1 he _ ih =>
    have := goodR_append.2 ⟨(one_is hne he 0).1, ih⟩
    rwa [List.take_append_drop] at this

/-! Such a token may be written. -/

theorem chE_of (t : Tok) (T : List Nat) (hw : wrB t = encB T) (hg : GoodR T) (hs : (encB T).size ≤ 400) (hne : T ≠ []) (h1 : cls (T.getD 0 0 : Nat) ≠ 1) (he : (oneR T 0).2.2.2 = 0) (hl : (oneR T 0).2.1 = T.length)
    (e1 : (oneR T 0).1.1 = t.1) (e2 : (oneR T 0).1.2.1 = t.2.1) (e3 : (oneR T 0).1.2.2.1 = t.2.2.1) : chE t = 0 := by
  have h : Toks T 0 [atT (oneR T 0).1 0] := .tok hne h1 he (by rw [hl, List.drop_length]; exact .nil _)
  have h2 := toks_tkA (s := wrB t) (l := [atT (oneR T 0).1 0]) (by rw [hw]; exact hs) (by rw [hw, rn_encB T hg]; exact h)
  unfold chE
  rw [h2]
  exact (if_pos rfl).trans (if_pos ⟨e1, e2, e3⟩)

theorem chE_one {X : List Nat} (hne : X ≠ []) (h1 : cls (X.getD 0 0 : Nat) ≠ 1) (he : (oneR X 0).2.2.2 = 0) (hs : (encB (X.take (oneR X 0).2.1)).size ≤ 400) (b : Nat) : chE (atT (oneR X 0).1 b) = 0 := by
  obtain ⟨hg, hc⟩ := one_is hne he b
  obtain ⟨w1, w2⟩ := one_width hne he
  have hTl : (X.take (oneR X 0).2.1).length = (oneR X 0).2.1 := by rw [List.length_take]; omega
  have hTne : X.take (oneR X 0).2.1 ≠ [] := by intro h; rw [h] at hTl; simp at hTl; omega
  have hTg : (X.take (oneR X 0).2.1).getD 0 0 = X.getD 0 0 := getD_take (w := (oneR X 0).2.1) (by rw [List.take_take, Nat.min_self]) w1 (by omega) w2
  rcases hc with ⟨h2, e⟩ | hw
  · have hrun := one_run he (.inl h2)
    have ht := end_take hne
    rw [← hrun] at ht
    have hall := run_all (contR (X.getD 0 0)) (X.drop 1)
    obtain ⟨U, hU⟩ : ∃ U, U = (X.drop 1).take (runN (contR (X.getD 0 0)) (X.drop 1)) := ⟨_, rfl⟩
    rw [← hU] at ht hall
    obtain ⟨T, hT⟩ : ∃ T, T = X.take (oneR X 0).2.1 := ⟨_, rfl⟩
    rw [← hT] at hg hs hTl hTne hTg ht e
    have hgl := goodR_low hg
    have hlow : lowS (encB T) = encB (T.map lowR) := lowS_encB T hg
    have hlow2 : lowS (encB (T.map lowR)) = encB (T.map lowR) := by
      rw [lowS_encB _ hgl, List.map_map]; congr 1; exact List.map_congr_left fun r _ => lowR_low r
    have hhd : (T.map lowR).getD 0 0 = lowR (X.getD 0 0) := by rw [ht]; rfl
    have hc2 : cls ((T.map lowR).getD 0 0 : Nat) = 2 := by rw [hhd, lowR_cls]; exact h2
    have hend : endR (T.map lowR) 0 = (T.map lowR).length := by
      have hq : contR ((T.map lowR).getD 0 0) = wordR := by funext r; unfold contR; rw [if_pos hc2]
      unfold endR
      rw [hq, ht, List.map_cons]
      show 0 + 1 + runN wordR (U.map lowR) = _
      rw [runN_all wordR (U.map lowR) (fun r hr => by
        obtain ⟨x, hx, rfl⟩ := List.mem_map.1 hr
        rw [lowR_word]
        have := hall x hx
        unfold contR at this
        rw [if_pos h2] at this; exact this), List.length_cons]
      omega
    have hone : oneR (T.map lowR) 0 = ((1, encB (T.map lowR), 0, 0), (T.map lowR).length, 0, 0) := by
      unfold oneR
      rw [if_neg (by omega), if_pos hc2, hend, cutR_zero, List.take_length, hlow2]; rfl
    have hsz : (encB (T.map lowR)).size ≤ 400 := by
      rw [← hlow, Lib.size_eq]; unfold lowS; rw [ofList_data, List.length_map, ← Lib.size_eq]; exact hs
    refine chE_of _ (T.map lowR) ?_ hgl hsz (by intro h; rw [List.map_eq_nil_iff] at h; exact hTne h) (by omega) (by rw [hone]) (by rw [hone]) (by rw [hone, e]; rfl) (by rw [hone, e]; exact hlow.symm) (by rw [hone, e]; rfl)
    rw [e]; exact hlow
  · have hloc : oneR (X.take (oneR X 0).2.1) 0 = oneR X 0 := one_local X _ hne he (by omega) (by rw [List.take_take, Nat.min_self]) (fun _ => by rw [List.drop_eq_nil_of_le (by omega)]; rfl)
    exact chE_of _ _ hw hg hs hTne (by rw [hTg]; exact h1) (by rw [hloc]; exact he) (by rw [hloc, hTl]) (by rw [hloc]; rfl) (by rw [hloc]; rfl) (by rw [hloc]; rfl)

theorem encB_size_append (a b : List Nat) : (encB (a ++ b)).size = (encB a).size + (encB b).size := by
  rw [Lib.size_eq, Lib.size_eq, Lib.size_eq, encB_data, encB_data, encB_data, encL_append, List.length_append]
theorem toks_chE {X : List Nat} {b : Nat} {l : List Tok} (h : Toks X b l) : (encB X).size ≤ 400 → ∀ t ∈ l, chE t = 0 := by
  induction h with
  | nil b => intro _ t ht; simp at ht
  | @blank r X b l h1 _ ih =>
    intro hs
    have := encB_size_append [r] X
    rw [List.singleton_append] at this
    exact ih (by omega)
  | @tok X b l hne h1 he _ ih =>
    intro hs t ht
    have := encB_size_append (X.take (oneR X 0).2.1) (X.drop (oneR X 0).2.1)
    rw [List.take_append_drop] at this
    rcases List.mem_cons.1 ht with rfl | ht
    · exact chE_one hne h1 he (by omega) b
    · exact ih (by omega) t ht

theorem line_chE {s : ByteArray} (h : (tkA s).2.2 = 0) : ∀ t ∈ (tkA s).1, chE t = 0 := by
  obtain ⟨h1, h2, _⟩ := tkA_toks h
  exact toks_chE h2 (by rw [encB_rn (toks_good h2)]; exact h1)

/-! Tokens joined. -/

theorem chE_yes {t : Tok} (h : chE t = 0) : ∃ (T : List Nat) (x : Tok), wrB t = encB T ∧ GoodR T ∧ Toks T 0 [x] ∧ eqT false x t = true := by
  unfold chE at h
  split at h
  · rename_i he
    obtain ⟨h1, h2, _⟩ := tkA_toks he
    split at h
    · rename_i x hx
      rw [hx] at h2
      split at h
      · rename_i hc
        have hg := toks_good h2
        refine ⟨rn (wrB t), x, (encB_rn hg).symm, hg, h2, ?_⟩
        unfold eqT
        rw [decide_eq_true_iff]
        exact ⟨hc.1, hc.2.1, hc.2.2, fun h => by cases h⟩
      · simp at h
    · simp at h
  · simp at h

theorem sameT_append {p : Bool} {a b c d : List Tok} (h1 : sameT p a b = true) (h2 : sameT p c d = true) : sameT p (a ++ c) (b ++ d) = true := by
  induction a generalizing b with
  | nil => cases b with
    | nil => exact h2
    | cons y t => simp [sameT] at h1
  | cons x s ih => cases b with
    | nil => simp [sameT] at h1
    | cons y t =>
      rw [sameT, Bool.and_eq_true] at h1
      rw [List.cons_append, List.cons_append, sameT, h1.1, ih h1.2]; rfl
theorem eqT_trans {p : Bool} {x y z : Tok} (h1 : eqT p x y = true) (h2 : eqT p y z = true) : eqT p x z = true := by
  unfold eqT at h1 h2 ⊢
  rw [decide_eq_true_iff] at h1 h2 ⊢
  exact ⟨h1.1.trans h2.1, h1.2.1.trans h2.2.1, h1.2.2.1.trans h2.2.2.1, fun h => (h1.2.2.2 h).trans (h2.2.2.2 h)⟩

theorem sameT_one {p : Bool} {n : List Tok} {x : Tok} (h : sameT p n [x] = true) : ∃ y, n = [y] ∧ eqT p y x = true := by
  cases n with
  | nil => simp [sameT] at h
  | cons y t =>
    rw [sameT, Bool.and_eq_true] at h
    cases t with
    | nil => exact ⟨y, rfl, h.1⟩
    | cons z u => simp [sameT] at h
theorem jnF_toks (l : List Tok) : ∀ (A : List Nat) (m k : List Tok), GoodR A → Toks A 0 m → sameT false m k = true → (jnF l (encB A) false).2 = 0 →
    ∃ (B : List Nat) (n : List Tok), (jnF l (encB A) false).1 = encB B ∧ (encB B).size ≤ 400 ∧ Toks B 0 n ∧ sameT false n (k ++ l) = true := by
  induction l with
  | nil =>
    intro A m k hg ht hs h
    rw [jnF] at h ⊢
    by_cases hb : 400 < (encB A).size
    · rw [if_pos hb] at h; simp at h
    · rw [if_neg hb]; exact ⟨A, m, rfl, by omega, ht, by rw [List.append_nil]; exact hs⟩
  | cons t l ih =>
    intro A m k hg ht hs h
    rw [jnF] at h ⊢
    by_cases hc : chE t = 0
    · rw [if_pos hc, if_neg (by simp)] at h ⊢
      obtain ⟨T, x, hw, hgT, hT, hx⟩ := chE_yes hc
      have e : encB A ++ (⟨#[32]⟩ : ByteArray) ++ wrB t = encB (A ++ 32 :: T) := by
        rw [hw]
        apply ByteArray.ext; apply Array.toList_inj.1
        rw [ByteArray.data_append, Array.toList_append, ByteArray.data_append, Array.toList_append, encB_data, encB_data, encB_data, encL_append, List.append_assoc]
        rfl
      rw [e] at h ⊢
      obtain ⟨n, hn, hsn⟩ := toks_move hT (0 + A.length + 1)
      obtain ⟨B, q, r1, r2, r3, r4⟩ := ih (A ++ 32 :: T) (m ++ n) (k ++ [t]) (goodR_append.2 ⟨hg, goodR_cons.2 ⟨by decide, hgT⟩⟩) (toks_join ht _ _ hn) (sameT_append hs (by
        obtain ⟨y, rfl, hy⟩ := sameT_one hsn
        rw [sameT, eqT_trans hy hx]; rfl)) h
      exact ⟨B, q, r1, r2, r3, by rw [List.append_assoc] at r4; exact r4⟩
    · rw [if_neg hc] at h; simp at h

theorem join_back (l : List Tok) (h : (jn l).2 = 0) : (tkA (jn l).1).2.2 = 0 ∧ (tkA (jn l).1).2.1 = cn (jn l).1 ∧ sameT false (tkA (jn l).1).1 l = true := by
  have hfin : ∀ (s : ByteArray) (B : List Nat) (n : List Tok), s = encB B → (encB B).size ≤ 400 → Toks B 0 n → sameT false n l = true → (tkA s).2.2 = 0 ∧ (tkA s).2.1 = cn s ∧ sameT false (tkA s).1 l = true := fun s B n hs hz ht hn => by
    have hr : rn s = B := by rw [hs]; exact rn_encB B (toks_good ht)
    rw [toks_tkA (s := s) (l := n) (by rw [hs]; exact hz) (by rw [hr]; exact ht)]
    exact ⟨rfl, rn_length s, hn⟩
  cases l with
  | nil => exact hfin _ [] [] rfl (Nat.zero_le _) (.nil 0) rfl
  | cons t l =>
    unfold jn at h ⊢
    rw [jnF] at h ⊢
    by_cases hc : chE t = 0
    · rw [if_pos hc, if_pos rfl] at h ⊢
      obtain ⟨T, x, hw, hgT, hT, hx⟩ := chE_yes hc
      have e : (⟨#[]⟩ : ByteArray) ++ wrB t = encB T := by
        rw [hw]; apply ByteArray.ext; apply Array.toList_inj.1; rw [ByteArray.data_append, Array.toList_append]; rfl
      rw [e] at h ⊢
      obtain ⟨B, q, r1, r2, r3, r4⟩ := jnF_toks l T [x] [t] hgT hT (by rw [sameT, hx]; rfl) h
      exact hfin _ B q r1 r2 r3 r4
    · rw [if_neg hc] at h; simp at h

theorem jnF_all (l : List Tok) : ∀ (s : ByteArray) (b : Bool), (∀ t ∈ l, chE t = 0) → (jnF l s b).2 = 0 ∨ (jnF l s b).2 = 3 := by
  induction l with
  | nil =>
    intro s b _
    rw [jnF]
    by_cases hb : 400 < s.size
    · rw [if_pos hb]; exact .inr rfl
    · rw [if_neg hb]; exact .inl rfl
  | cons t l ih =>
    intro s b h
    rw [jnF, if_pos (h t (by simp))]
    exact ih _ _ (fun x hx => h x (by simp [hx]))
theorem line_join {s : ByteArray} (h : (tkA s).2.2 = 0) : (jn (tkA s).1).2 = 0 ∨ (jn (tkA s).1).2 = 3 := jnF_all _ _ _ (line_chE h)

/-- What stands ahead of a token has the tokens ahead of it. -/
theorem line_ahead {s : ByteArray} (h : (tkA s).2.2 = 0) (j : Nat) (hj : j < (tkA s).1.length) (n : Nat) (hn : (tkA s).1[j].2.2.2 = (n : Int)) :
    cuK s (n : Int) = true ∧ tkA (cuA s (n : Int)) = ((tkA s).1.take j, n, 0) := by
  obtain ⟨h1, h2, h3⟩ := tkA_toks h
  have hg := toks_good h2
  have hp := (toks_places h2).1 _ (List.getElem_mem hj)
  rw [hn] at hp
  obtain ⟨k1, k2⟩ := cuA_rn hg n (by omega)
  refine ⟨k1, ?_⟩
  have hr : rn (cuA s (n : Int)) = (rn s).take n := by rw [k2]; exact rn_encB _ (hg.take n)
  have hz : (cuA s (n : Int)).size ≤ 400 := by
    have := encB_size_append ((rn s).take n) ((rn s).drop n)
    rw [List.take_append_drop, encB_rn hg] at this
    rw [k2]; omega
  rw [toks_tkA hz (by rw [hr]; exact toks_prefix h2 j hj n (by rw [hn]; omega)), hr, List.length_take, Nat.min_eq_left (by omega)]
theorem line_places {s : ByteArray} (h : (tkA s).2.2 = 0) : (∀ t ∈ (tkA s).1, 0 ≤ t.2.2.2 ∧ t.2.2.2 < ((tkA s).2.1 : Int)) ∧ ∀ (i j : Nat) (hi : i < (tkA s).1.length) (hj : j < (tkA s).1.length), i < j → (tkA s).1[i].2.2.2 < (tkA s).1[j].2.2.2 := by
  obtain ⟨h1, h2, h3⟩ := tkA_toks h
  obtain ⟨p1, p2⟩ := toks_places h2
  refine ⟨fun t ht => ?_, fun i j hi hj hij => List.pairwise_iff_getElem.1 p2 i j hi hj hij⟩
  have := p1 t ht
  rw [h3]; omega

/-! A line's tokens are few, and small. -/

theorem mk_more (u : List UInt8) : u.length ≤ (mk u).length := by
  induction u with
  | nil => simp
  | cons b t ih => rw [mk_cons, List.length_append, List.length_cons]; split <;> simp only [List.length_cons, List.length_nil] <;> omega
theorem uqS_small (s : ByteArray) : (uqS s).size ≤ s.size := by
  unfold uqS
  split
  · cases hu : uq s.data.toList with
    | none => exact Nat.zero_le _
    | some u =>
      have h5 := congrArg List.length (uq_some hu)
      rw [Lib.size_eq, Lib.size_eq, ← h5]
      show u.length ≤ _
      unfold qt
      have := mk_more u
      rw [List.length_cons, List.length_append]; omega
  · exact Nat.zero_le _
theorem one_small {X : List Nat} (he : (oneR X 0).2.2.2 = 0) (hs : (encB (X.take (oneR X 0).2.1)).size ≤ 400) : (oneR X 0).1.2.1.size ≤ 400 ∧ (oneR X 0).1.2.2.1 ≤ 1000000000 := by
  have hz : (⟨#[]⟩ : ByteArray).size = 0 := rfl
  unfold oneR textR at he hs ⊢
  by_cases h0 : cls (X.getD 0 0 : Nat) = 0
  · rw [if_pos h0] at he; simp at he
  · rw [if_neg h0] at he hs ⊢
    by_cases h2 : cls (X.getD 0 0 : Nat) = 2
    · rw [if_pos h2] at hs ⊢
      dsimp only at hs ⊢
      rw [cutR_zero, Lib.size_eq]; unfold lowS; rw [ofList_data, List.length_map, ← Lib.size_eq]
      exact ⟨hs, by decide⟩
    · rw [if_neg h2] at he hs ⊢
      by_cases h3 : cls (X.getD 0 0 : Nat) = 3
      · rw [if_pos h3] at he hs ⊢
        by_cases ha : anyL (cutR X 0 (endR X 0)) = true
        · rw [if_pos ha] at hs ⊢
          dsimp only at hs ⊢
          rw [cutR_zero]; exact ⟨hs, by decide⟩
        · rw [if_neg ha] at he hs ⊢
          by_cases hn : numR (cutR X 0 (endR X 0)) < 0
          · rw [if_pos hn] at he; simp at he
          · rw [if_neg hn]
            dsimp only
            refine ⟨by rw [hz]; omega, ?_⟩
            unfold numR at hn ⊢
            split
            · omega
            · rename_i hc
              have h1 := numF_bound (cutR X 0 (endR X 0)) 0 0 (by omega) (by decide)
              have h2 := pow9 (0 + (cutR X 0 (endR X 0)).length) (by omega)
              have h3 : (10 : Int) ^ 9 = 1000000000 := by decide
              omega
      · rw [if_neg h3] at he hs ⊢
        by_cases h34 : X.getD 0 0 = 34
        · rw [if_pos h34] at he hs ⊢
          by_cases s1 : (scn (X.drop (0 + 1))).1 = 1
          · rw [if_pos s1] at he; simp at he
          · rw [if_neg s1] at he hs ⊢
            by_cases s0 : (scn (X.drop (0 + 1))).1 = 0
            · rw [if_pos s0] at he hs ⊢
              by_cases hu : uqE (encB (cutR X 0 (0 + (scn (X.drop (0 + 1))).2 + 2))) = 0
              · rw [if_pos hu] at hs ⊢
                dsimp only at hs ⊢
                rw [cutR_zero]
                have := uqS_small (encB (X.take (0 + (scn (X.drop (0 + 1))).2 + 2)))
                exact ⟨by omega, by decide⟩
              · rw [if_neg hu] at he; simp at he
            · rw [if_neg s0] at he; simp at he
        · rw [if_neg h34] at he hs ⊢
          by_cases hq : X.getD 0 0 = 61 ∨ X.getD 0 0 = 58 ∨ X.getD 0 0 = 44 ∨ X.getD 0 0 = 45
          · rw [if_pos hq] at hs ⊢
            dsimp only at hs ⊢
            rw [cutR_zero]; exact ⟨hs, by decide⟩
          · rw [if_neg hq] at he; simp at he
theorem toks_small {X : List Nat} {b : Nat} {l : List Tok} (h : Toks X b l) : (encB X).size ≤ 400 → l.length ≤ X.length ∧ ∀ t ∈ l, t.2.1.size ≤ 400 ∧ t.2.2.1 ≤ 1000000000 := by
  induction h with
  | nil b => intro _; exact ⟨Nat.le_refl _, fun t ht => by simp at ht⟩
  | @blank r X b l h1 _ ih =>
    intro hs
    have := encB_size_append [r] X
    rw [List.singleton_append] at this
    obtain ⟨a, b⟩ := ih (by omega)
    exact ⟨by rw [List.length_cons]; omega, b⟩
  | @tok X b l hne h1 he _ ih =>
    intro hs
    have := encB_size_append (X.take (oneR X 0).2.1) (X.drop (oneR X 0).2.1)
    rw [List.take_append_drop] at this
    obtain ⟨w1, w2⟩ := one_width hne he
    obtain ⟨p, q⟩ := ih (by omega)
    rw [List.length_drop] at p
    refine ⟨by rw [List.length_cons]; omega, fun t ht => ?_⟩
    rcases List.mem_cons.1 ht with rfl | ht
    · exact one_small he (by omega)
    · exact q t ht
theorem line_small {s : ByteArray} (h : (tkA s).2.2 = 0) : s.size ≤ 400 ∧ (tkA s).1.length ≤ 400 ∧ ∀ t ∈ (tkA s).1, t.2.1.size ≤ 400 ∧ t.2.2.1 ≤ 1000000000 := by
  obtain ⟨h1, h2, _⟩ := tkA_toks h
  obtain ⟨a, b⟩ := toks_small h2 (by rw [encB_rn (toks_good h2)]; exact h1)
  have := cn_le s
  rw [rn_length] at a
  exact ⟨h1, by omega, b⟩
theorem jnF_small (l : List Tok) : ∀ (s : ByteArray) (b : Bool), (jnF l s b).1.size ≤ 400 := by
  have hz : (⟨#[]⟩ : ByteArray).size = 0 := rfl
  induction l with
  | nil =>
    intro s b
    rw [jnF]
    split
    · rw [hz]; omega
    · dsimp only; omega
  | cons t l ih =>
    intro s b
    rw [jnF]
    split
    · exact ih _ _
    · rw [hz]; omega
theorem jn_small (l : List Tok) : (jn l).1.size ≤ 400 := jnF_small l _ _

end Go.Proofs.YtejppikbdplamaaDoor.Lex
