/-
  Layer 5, plain: what a token depends on; tokens of what stands ahead, of lines joined.
-/
import Derived.Test.YtejppikbdplamaaDoorLexEnc
namespace Go.Proofs.YtejppikbdplamaaDoor.Lex
open Go.RowKit
open Base Runes
set_option linter.unusedVariables false
set_option linter.unusedSimpArgs false

def stopB (q : Nat → Bool) : List Nat → Bool
  | [] => true
  | r :: _ => !q r

theorem run_local (q : Nat → Bool) (t z : List Nat) (h : z.take (runN q t) = t.take (runN q t)) (hl : runN q t ≤ z.length) (hs : stopB q (z.drop (runN q t)) = true) : runN q z = runN q t := by
  induction t generalizing z with
  | nil =>
    rw [runN] at hs ⊢
    cases z with
    | nil => rfl
    | cons r z => rw [List.drop_zero, stopB] at hs; rw [runN, if_neg (by simpa using hs)]
  | cons r t ih =>
    rw [runN] at h hl hs ⊢
    by_cases hq : q r = true
    · rw [if_pos hq] at h hl hs ⊢
      cases z with
      | nil => simp at hl
      | cons c z =>
        simp only [List.take_succ_cons, List.cons.injEq] at h
        rw [List.drop_succ_cons] at hs
        rw [runN, h.1, if_pos hq, ih z h.2 (by simpa using hl) hs]
    · rw [if_neg hq] at h hl hs ⊢
      cases z with
      | nil => rfl
      | cons c z => rw [List.drop_zero, stopB] at hs; rw [runN, if_neg (by simpa using hs)]
theorem run_stop (q : Nat → Bool) (t : List Nat) : stopB q (t.drop (runN q t)) = true := by
  induction t with
  | nil => rfl
  | cons r t ih =>
    rw [runN]
    by_cases hq : q r = true
    · rw [if_pos hq, List.drop_succ_cons]; exact ih
    · rw [if_neg hq, List.drop_zero, stopB]; simpa using hq

theorem scn_local : ∀ (n : Nat) (t z : List Nat), t.length ≤ n → (scn t).1 = 0 → z.take ((scn t).2 + 1) = t.take ((scn t).2 + 1) → (scn t).2 < z.length → scn z = scn t
  | _, [], _, _, h, _, _ => by simp [scn_nil] at h
  | 0, _ :: _, _, hl, _, _, _ => by simp at hl
  | n + 1, r :: t, z, hl, h, hz, hlt => by
    have hl2 : t.length ≤ n := by simpa using hl
    cases z with
    | nil => simp at hlt
    | cons c z =>
      have hc : c = r := by rw [List.take_succ_cons, List.take_succ_cons] at hz; simpa using (List.cons.inj hz).1
      subst hc
      by_cases h34 : c = 34
      · subst h34; rw [scn_end, scn_end]
      · by_cases hb : cls (c : Int) = 0
        · rw [scn_bad t h34 hb] at h; simp at h
        · by_cases h92 : c = 92
          · subst h92
            cases t with
            | nil => rw [scn_bs_end] at h; simp at h
            | cons d u =>
              by_cases hd : cls (d : Int) = 0
              · rw [scn_bs_bad u hd] at h; simp at h
              · rw [scn_bs u hd] at h hz hlt ⊢
                cases z with
                | nil => simp at hlt
                | cons d' u' =>
                  simp only [List.take_succ_cons, List.cons.injEq] at hz
                  obtain ⟨_, rfl, hz⟩ := hz
                  rw [scn_bs u' hd]
                  have := scn_local n u u' (by simp at hl2; omega) h hz (by simpa using hlt)
                  rw [this]
          · obtain ⟨e1, e2⟩ := scn_on t h34 hb h92
            obtain ⟨f1, f2⟩ := scn_on z h34 hb h92
            rw [e1] at h
            have e3 := e2 (by omega)
            rw [e3] at hz hlt
            rw [List.take_succ_cons, List.take_succ_cons] at hz
            have := scn_local n t z hl2 h (List.cons.inj hz).2 (by simpa using hlt)
            rw [this] at f1 f2
            exact Prod.ext (by rw [f1, e1]) (by rw [f2 (by omega), e3])

/-! A token at the head of some runes. -/

theorem cutR_zero (X : List Nat) (n : Nat) : cutR X 0 n = X.take n := by simp [cutR]
theorem getD_take {X Z : List Nat} {w : Nat} (h : Z.take w = X.take w) (hw : 0 < w) (hz : w ≤ Z.length) (hx : w ≤ X.length) : Z.getD 0 0 = X.getD 0 0 := by
  cases Z with
  | nil => simp at hz; omega
  | cons a Z => cases X with
    | nil => simp at hx; omega
    | cons b X =>
      obtain ⟨k, rfl⟩ : ∃ k, w = k + 1 := ⟨w - 1, by omega⟩
      simp only [List.take_succ_cons, List.cons.injEq] at h
      simp [h.1]
theorem tail_take {X Z : List Nat} {w : Nat} (h : Z.take (w + 1) = X.take (w + 1)) : (Z.drop 1).take w = (X.drop 1).take w := by
  cases Z <;> cases X <;> simp_all

theorem one_local (X Z : List Nat) (hX : X ≠ []) (h : (oneR X 0).2.2.2 = 0) (hz : (oneR X 0).2.1 ≤ Z.length) (he : Z.take (oneR X 0).2.1 = X.take (oneR X 0).2.1)
    (hs : cls (X.getD 0 0 : Nat) = 2 ∨ cls (X.getD 0 0 : Nat) = 3 → stopB (contR (X.getD 0 0)) (Z.drop (oneR X 0).2.1) = true) : oneR Z 0 = oneR X 0 := by
  have hxl : 0 < X.length := List.length_pos_iff.2 hX
  obtain ⟨hw0, hwl⟩ := oneR_to X 0 hxl h
  have hg := getD_take he hw0 hz hwl
  -- a run
  have hend : (oneR X 0).2.1 = endR X 0 → (cls (X.getD 0 0 : Nat) = 2 ∨ cls (X.getD 0 0 : Nat) = 3) → endR Z 0 = endR X 0 := fun hE hc => by
    have hs := hs hc
    rw [hE] at he hz hs
    unfold endR at he hz hs ⊢
    rw [hg]
    simp only [Nat.zero_add] at he hz hs ⊢
    rw [Nat.add_comm 1] at he hz hs
    have := run_local (contR (X.getD 0 0)) (X.drop 1) (Z.drop 1) (tail_take he) (by rw [List.length_drop]; omega) (by rw [List.drop_drop, Nat.add_comm 1]; exact hs)
    rw [this]
  unfold oneR at h hend he hz ⊢
  rw [hg]
  by_cases h0 : cls (X.getD 0 0 : Nat) = 0
  · rw [if_pos h0, if_pos h0]
  · rw [if_neg h0] at h hend he hz ⊢
    rw [if_neg h0]
    by_cases h2 : cls (X.getD 0 0 : Nat) = 2
    · rw [if_pos h2] at hend he hz ⊢
      rw [if_pos h2, hend rfl (.inl h2), cutR_zero, cutR_zero, he]
    · rw [if_neg h2] at h hend he hz ⊢
      rw [if_neg h2]
      by_cases h3 : cls (X.getD 0 0 : Nat) = 3
      · rw [if_pos h3] at h hend he hz ⊢
        rw [if_pos h3]
        by_cases ha : anyL (cutR X 0 (endR X 0)) = true
        · rw [if_pos ha] at hend he hz ⊢
          have e1 : cutR Z 0 (endR Z 0) = cutR X 0 (endR X 0) := by rw [hend rfl (.inr h3), cutR_zero, cutR_zero, he]
          rw [e1, if_pos ha, hend rfl (.inr h3)]
        · rw [if_neg ha] at h hend he hz ⊢
          by_cases hn : numR (cutR X 0 (endR X 0)) < 0
          · rw [if_pos hn] at h; simp at h
          · rw [if_neg hn] at hend he hz ⊢
            have e1 : cutR Z 0 (endR Z 0) = cutR X 0 (endR X 0) := by rw [hend rfl (.inr h3), cutR_zero, cutR_zero, he]
            rw [e1, if_neg ha, if_neg hn, hend rfl (.inr h3)]
      · rw [if_neg h3] at h hend he hz ⊢
        rw [if_neg h3]
        by_cases h34 : X.getD 0 0 = 34
        · rw [if_pos h34] at h he hz ⊢
          rw [if_pos h34]
          unfold textR at h he hz ⊢
          simp only [Nat.zero_add] at h he hz ⊢
          by_cases s1 : (scn (X.drop 1)).1 = 1
          · rw [if_pos s1] at h; simp at h
          · rw [if_neg s1] at h he hz ⊢
            by_cases s0 : (scn (X.drop 1)).1 = 0
            · rw [if_pos s0] at h he hz ⊢
              by_cases hu : uqE (encB (cutR X 0 ((scn (X.drop 1)).2 + 2))) = 0
              · rw [if_pos hu] at he hz ⊢
                dsimp only at he hz
                have e1 := scn_local _ (X.drop 1) (Z.drop 1) (Nat.le_refl _) s0 (tail_take he) (by rw [List.length_drop]; omega)
                rw [e1, if_neg s1, if_pos s0, cutR_zero, he, ← cutR_zero, if_pos hu]
              · rw [if_neg hu] at h; simp at h
            · rw [if_neg s0] at h; simp at h
        · rw [if_neg h34] at h he hz ⊢
          rw [if_neg h34]
          by_cases hs4 : X.getD 0 0 = 61 ∨ X.getD 0 0 = 58 ∨ X.getD 0 0 = 44 ∨ X.getD 0 0 = 45
          · rw [if_pos hs4] at he hz ⊢
            rw [if_pos hs4, cutR_zero, cutR_zero, he]
          · rw [if_neg hs4] at h; simp at h

end Go.Proofs.YtejppikbdplamaaDoor.Lex
