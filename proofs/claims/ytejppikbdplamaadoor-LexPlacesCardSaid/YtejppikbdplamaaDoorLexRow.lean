/-
  Layer 5, plain: the tokens of a row of runes as a relation; ahead of a token; joined; written again.
-/
import Derived.Test.YtejppikbdplamaaDoorLexPlain
namespace Go.Proofs.YtejppikbdplamaaDoor.Lex
open Go.RowKit
open Base Runes
open Go.Lib (encodeRune)
set_option linter.unusedVariables false
set_option linter.unusedSimpArgs false

def atT (t : Tok) (b : Nat) : Tok := (t.1, t.2.1, t.2.2.1, (b : Int))

theorem oneR_shift (R : List Nat) (i : Nat) (hi : i < R.length) :
    (oneR R i).2.2.2 = (oneR (R.drop i) 0).2.2.2 ∧ ((oneR R i).2.2.2 = 0 → (oneR R i).2.1 = i + (oneR (R.drop i) 0).2.1 ∧ (oneR R i).1 = atT (oneR (R.drop i) 0).1 i) := by
  have g : (R.drop i).getD 0 0 = R.getD i 0 := by simp [List.getD, List.getElem?_drop]
  have e : endR R i = i + endR (R.drop i) 0 := by
    unfold endR
    rw [g, List.drop_drop]
    simp only [Nat.zero_add]; omega
  have c : ∀ n, cutR R i (i + n) = cutR (R.drop i) 0 n := fun n => by
    unfold cutR
    rw [Nat.add_sub_cancel_left, List.drop_zero, Nat.sub_zero]
  have d : (R.drop i).drop (0 + 1) = R.drop (i + 1) := by rw [List.drop_drop]
  have c1 := c 1
  have cs : cutR R i (i + (scn (R.drop (i + 1))).2 + 2) = cutR (R.drop i) 0 (0 + (scn (R.drop (i + 1))).2 + 2) := by
    rw [Nat.add_assoc, c, Nat.zero_add]
  unfold oneR textR atT
  rw [g, e, c, c1, d, cs]
  by_cases h0 : cls (R.getD i 0 : Nat) = 0
  · rw [if_pos h0, if_pos h0]; exact ⟨rfl, fun h => by simp at h⟩
  · rw [if_neg h0, if_neg h0]
    by_cases h2 : cls (R.getD i 0 : Nat) = 2
    · rw [if_pos h2, if_pos h2]; exact ⟨rfl, fun _ => ⟨rfl, rfl⟩⟩
    · rw [if_neg h2, if_neg h2]
      by_cases h3 : cls (R.getD i 0 : Nat) = 3
      · rw [if_pos h3, if_pos h3]
        by_cases ha : anyL (cutR (R.drop i) 0 (endR (R.drop i) 0)) = true
        · rw [if_pos ha, if_pos ha]; exact ⟨rfl, fun _ => ⟨rfl, rfl⟩⟩
        · rw [if_neg ha, if_neg ha]
          by_cases hn : numR (cutR (R.drop i) 0 (endR (R.drop i) 0)) < 0
          · rw [if_pos hn, if_pos hn]; exact ⟨rfl, fun h => by simp at h⟩
          · rw [if_neg hn, if_neg hn]; exact ⟨rfl, fun _ => ⟨rfl, rfl⟩⟩
      · rw [if_neg h3, if_neg h3]
        by_cases h34 : R.getD i 0 = 34
        · rw [if_pos h34, if_pos h34]
          by_cases s1 : (scn (R.drop (i + 1))).1 = 1
          · rw [if_pos s1, if_pos s1]; exact ⟨rfl, fun h => by simp at h⟩
          · rw [if_neg s1, if_neg s1]
            by_cases s0 : (scn (R.drop (i + 1))).1 = 0
            · rw [if_pos s0, if_pos s0]
              by_cases hu : uqE (encB (cutR (R.drop i) 0 (0 + (scn (R.drop (i + 1))).2 + 2))) = 0
              · rw [if_pos hu, if_pos hu]; exact ⟨rfl, fun _ => ⟨by dsimp only; omega, rfl⟩⟩
              · rw [if_neg hu, if_neg hu]; exact ⟨rfl, fun h => by simp at h⟩
            · rw [if_neg s0, if_neg s0]; exact ⟨rfl, fun h => by simp at h⟩
        · rw [if_neg h34, if_neg h34]
          by_cases hs : R.getD i 0 = 61 ∨ R.getD i 0 = 58 ∨ R.getD i 0 = 44 ∨ R.getD i 0 = 45
          · rw [if_pos hs, if_pos hs]; exact ⟨rfl, fun _ => ⟨rfl, rfl⟩⟩
          · rw [if_neg hs, if_neg hs]; exact ⟨rfl, fun h => by simp at h⟩

inductive Toks : List Nat → Nat → List Tok → Prop
  | nil (b : Nat) : Toks [] b []
  | blank {r : Nat} {X : List Nat} {b : Nat} {l : List Tok} : cls (r : Int) = 1 → Toks X (b + 1) l → Toks (r :: X) b l
  | tok {X : List Nat} {b : Nat} {l : List Tok} : X ≠ [] → cls (X.getD 0 0 : Nat) ≠ 1 → (oneR X 0).2.2.2 = 0 → Toks (X.drop (oneR X 0).2.1) (b + (oneR X 0).2.1) l → Toks X b (atT (oneR X 0).1 b :: l)

theorem getD_drop (R : List Nat) (i : Nat) : (R.drop i).getD 0 0 = R.getD i 0 := by simp [List.getD, List.getElem?_drop]
theorem drop_cons (R : List Nat) (i : Nat) (h : i < R.length) : R.drop i = R.getD i 0 :: R.drop (i + 1) := by
  rw [List.drop_eq_getElem_cons h]; simp [List.getD, List.getElem?_eq_getElem h]

theorem toksR_toks (R : List Nat) : ∀ (f i : Nat) (acc : List Tok), R.length ≤ i + f → i ≤ R.length →
    ((toksR f R i acc).2.2 = 0 → ∃ l, toksR f R i acc = (acc ++ l, R.length, 0) ∧ Toks (R.drop i) i l) ∧ ((toksR f R i acc).2.2 ≠ 0 → (toksR f R i acc).1 = [])
  | 0, i, acc, hf, hi => by
    refine ⟨fun _ => ⟨[], by rw [toksR, List.append_nil], ?_⟩, fun h => absurd rfl h⟩
    rw [List.drop_eq_nil_of_le (by omega)]; exact .nil i
  | f + 1, i, acc, hf, hi => by
    rw [toksR]
    by_cases hp : i < R.length
    · rw [if_pos hp]
      by_cases h1 : cls (R.getD i 0 : Nat) = 1
      · rw [if_pos h1]
        obtain ⟨a, b⟩ := toksR_toks R f (i + 1) acc (by omega) (by omega)
        refine ⟨fun h => ?_, b⟩
        obtain ⟨l, e, t⟩ := a h
        exact ⟨l, e, by rw [drop_cons R i hp]; exact .blank h1 t⟩
      · rw [if_neg h1]
        obtain ⟨s1, s2⟩ := oneR_shift R i hp
        by_cases he : (oneR R i).2.2.2 = 0
        · rw [if_pos he]
          obtain ⟨t1, t2⟩ := s2 he
          obtain ⟨w1, w2⟩ := oneR_to R i hp he
          obtain ⟨a, b⟩ := toksR_toks R f (oneR R i).2.1 (acc ++ [(oneR R i).1]) (by omega) w2
          refine ⟨fun h => ?_, b⟩
          obtain ⟨l, e, t⟩ := a h
          refine ⟨(oneR R i).1 :: l, by rw [e, List.append_assoc]; rfl, ?_⟩
          rw [t2]
          refine .tok (by intro h0; rw [List.drop_eq_nil_iff] at h0; omega) (by rw [getD_drop]; exact h1) (by rw [← s1]; exact he) ?_
          rw [List.drop_drop, ← t1]; exact t
        · rw [if_neg he]; exact ⟨fun h => absurd h he, fun _ => rfl⟩
    · rw [if_neg hp]
      refine ⟨fun _ => ⟨[], by rw [List.append_nil], ?_⟩, fun h => absurd rfl h⟩
      rw [List.drop_eq_nil_of_le (by omega)]; exact .nil i

theorem toks_toksR {X : List Nat} {i : Nat} {l : List Tok} (h : Toks X i l) : ∀ (R : List Nat) (f : Nat) (acc : List Tok), X = R.drop i → i ≤ R.length → R.length ≤ i + f → toksR f R i acc = (acc ++ l, R.length, 0) := by
  induction h with
  | nil b =>
    intro R f acc hX hi hf
    have : R.length ≤ b := by rw [← List.drop_eq_nil_iff]; exact hX.symm
    cases f with
    | zero => rw [toksR, List.append_nil]
    | succ f => rw [toksR, if_neg (by omega), List.append_nil]
  | @blank r X b l h1 _ ih =>
    intro R f acc hX hi hf
    have hp : b < R.length := by
      rcases Nat.lt_or_ge b R.length with h | h
      · exact h
      · rw [List.drop_eq_nil_of_le h] at hX; cases hX
    rw [drop_cons R b hp] at hX
    obtain ⟨hr, hX⟩ := List.cons.inj hX
    obtain ⟨f, rfl⟩ : ∃ g, f = g + 1 := ⟨f - 1, by omega⟩
    rw [toksR, if_pos hp, if_pos (by rw [← hr]; exact h1)]
    exact ih R f acc hX (by omega) (by omega)
  | @tok X b l hne h1 he _ ih =>
    intro R f acc hX hi hf
    subst hX
    have hp : b < R.length := by
      rcases Nat.lt_or_ge b R.length with h | h
      · exact h
      · rw [List.drop_eq_nil_of_le h] at hne; exact absurd rfl hne
    obtain ⟨s1, s2⟩ := oneR_shift R b hp
    have he2 : (oneR R b).2.2.2 = 0 := by rw [s1]; exact he
    obtain ⟨t1, t2⟩ := s2 he2
    obtain ⟨w1, w2⟩ := oneR_to R b hp he2
    obtain ⟨f, rfl⟩ : ∃ g, f = g + 1 := ⟨f - 1, by omega⟩
    rw [getD_drop] at h1
    rw [toksR, if_pos hp, if_neg h1, if_pos he2]
    rw [t1, ih R f _ (by rw [List.drop_drop]) (by omega) (by omega), t2, List.append_assoc]
    rfl

theorem tkA_toks {s : ByteArray} (h : (tkA s).2.2 = 0) : s.size ≤ 400 ∧ Toks (rn s) 0 (tkA s).1 ∧ (tkA s).2.1 = (rn s).length := by
  unfold tkA at h ⊢
  by_cases hb : 400 < s.size
  · rw [if_pos hb] at h; simp at h
  · rw [if_neg hb] at h ⊢
    obtain ⟨l, e, t⟩ := (toksR_toks (rn s) (rn s).length 0 [] (by omega) (by omega)).1 h
    rw [e]
    exact ⟨by omega, by simpa using t, rfl⟩
theorem tkA_bad {s : ByteArray} (h : (tkA s).2.2 ≠ 0) : (tkA s).1 = [] := by
  unfold tkA at h ⊢
  by_cases hb : 400 < s.size
  · rw [if_pos hb]
  · rw [if_neg hb] at h ⊢
    exact (toksR_toks (rn s) (rn s).length 0 [] (by omega) (by omega)).2 h
theorem toks_tkA {s : ByteArray} {l : List Tok} (hs : s.size ≤ 400) (h : Toks (rn s) 0 l) : tkA s = (l, (rn s).length, 0) := by
  unfold tkA
  rw [if_neg (by omega), toks_toksR h (rn s) _ [] rfl (by omega) (by omega), List.nil_append]

/-! What a token's runes are. -/

theorem one_width {X : List Nat} (hne : X ≠ []) (h : (oneR X 0).2.2.2 = 0) : 0 < (oneR X 0).2.1 ∧ (oneR X 0).2.1 ≤ X.length := oneR_to X 0 (List.length_pos_iff.2 hne) h

theorem toks_places {X : List Nat} {b : Nat} {l : List Tok} (h : Toks X b l) : (∀ t ∈ l, (b : Int) ≤ t.2.2.2 ∧ t.2.2.2 < ((b + X.length : Nat) : Int)) ∧ l.Pairwise (fun x y => x.2.2.2 < y.2.2.2) := by
  induction h with
  | nil b => simp
  | blank h1 _ ih =>
    obtain ⟨a, p⟩ := ih
    refine ⟨fun t ht => ?_, p⟩
    have := a t ht
    rw [List.length_cons]; omega
  | @tok X b l hne h1 he _ ih =>
    obtain ⟨a, p⟩ := ih
    obtain ⟨w1, w2⟩ := one_width hne he
    rw [List.length_drop] at a
    refine ⟨fun t ht => ?_, List.pairwise_cons.2 ⟨fun t ht => ?_, p⟩⟩
    · rcases List.mem_cons.1 ht with rfl | ht
      · show (b : Int) ≤ (b : Int) ∧ (b : Int) < _
        have := List.length_pos_iff.2 hne; omega
      · have := a t ht; omega
    · have := a t ht
      show (b : Int) < _
      omega

theorem stop_take {q : Nat → Bool} {A : List Nat} (h : stopB q A = true) (n : Nat) : stopB q (A.take n) = true := by
  cases A with
  | nil => simpa using h
  | cons r A => cases n with
    | zero => rfl
    | succ n => exact h
theorem one_run {X : List Nat} (he : (oneR X 0).2.2.2 = 0) (hc : cls (X.getD 0 0 : Nat) = 2 ∨ cls (X.getD 0 0 : Nat) = 3) : (oneR X 0).2.1 = endR X 0 := by
  unfold oneR at he ⊢
  have h0 : cls (X.getD 0 0 : Nat) ≠ 0 := by omega
  rw [if_neg h0] at he ⊢
  by_cases h2 : cls (X.getD 0 0 : Nat) = 2
  · rw [if_pos h2]
  · have h3 : cls (X.getD 0 0 : Nat) = 3 := by omega
    rw [if_neg h2, if_pos h3] at he ⊢
    by_cases ha : anyL (cutR X 0 (endR X 0)) = true
    · rw [if_pos ha]
    · rw [if_neg ha] at he ⊢
      by_cases hn : numR (cutR X 0 (endR X 0)) < 0
      · rw [if_pos hn] at he; simp at he
      · rw [if_neg hn]
theorem one_stop {X : List Nat} (he : (oneR X 0).2.2.2 = 0) (hc : cls (X.getD 0 0 : Nat) = 2 ∨ cls (X.getD 0 0 : Nat) = 3) : stopB (contR (X.getD 0 0)) (X.drop (oneR X 0).2.1) = true := by
  rw [one_run he hc]
  unfold endR
  simp only [Nat.zero_add]
  rw [← List.drop_drop]
  exact run_stop _ _

theorem toks_prefix {X : List Nat} {b : Nat} {l : List Tok} (h : Toks X b l) : ∀ (j : Nat) (hj : j < l.length) (n : Nat), l[j].2.2.2 = ((b + n : Nat) : Int) → Toks (X.take n) b (l.take j) := by
  induction h with
  | nil b => intro j hj; simp at hj
  | @blank r X b l h1 ht ih =>
    intro j hj n hn
    have hge := ((toks_places ht).1 _ (List.getElem_mem hj)).1
    obtain ⟨n, rfl⟩ : ∃ m, n = m + 1 := ⟨n - 1, by omega⟩
    exact .blank h1 (ih j hj n (by rw [hn]; omega))
  | @tok X b l hne h1 he ht ih =>
    intro j hj n hn
    obtain ⟨w1, w2⟩ := one_width hne he
    cases j with
    | zero =>
      have hn0 : (b : Int) = ((b + n : Nat) : Int) := hn
      obtain rfl : n = 0 := by omega
      exact .nil b
    | succ j =>
      have hj2 : j < l.length := by simpa using hj
      have hn2 : l[j].2.2.2 = ((b + n : Nat) : Int) := hn
      have hge := ((toks_places ht).1 _ (List.getElem_mem hj2)).1
      obtain ⟨m, rfl⟩ : ∃ m, n = (oneR X 0).2.1 + m := ⟨n - (oneR X 0).2.1, by omega⟩
      have e : oneR (X.take ((oneR X 0).2.1 + m)) 0 = oneR X 0 := by
        refine one_local X _ hne he (by rw [List.length_take]; omega) (by rw [List.take_take, Nat.min_eq_left (by omega)]) (fun hc => ?_)
        rw [List.drop_take, Nat.add_sub_cancel_left]
        exact stop_take (one_stop he hc) m
      have hne2 : X.take ((oneR X 0).2.1 + m) ≠ [] := by
        intro h0; have := congrArg List.length h0; rw [List.length_take, List.length_nil] at this; omega
      have hg : (X.take ((oneR X 0).2.1 + m)).getD 0 0 = X.getD 0 0 := getD_take (w := (oneR X 0).2.1) (by rw [List.take_take, Nat.min_eq_left (by omega)]) w1 (by rw [List.length_take]; omega) w2
      have := Toks.tok (b := b) (l := l.take j) hne2 (by rw [hg]; exact h1) (by rw [e]; exact he) (by
        rw [e, List.drop_take, Nat.add_sub_cancel_left]
        exact ih j hj2 m (by rw [hn2]; omega))
      rw [e] at this
      exact this

theorem stop32 (r : Nat) (Y : List Nat) (hc : cls (r : Int) = 2 ∨ cls (r : Int) = 3) : stopB (contR r) (32 :: Y) = true := by
  have a : wordR 32 = false := by decide
  have b : smallR 32 = false := by decide
  show (!(contR r 32)) = true
  unfold contR
  by_cases h2 : cls (r : Int) = 2
  · rw [if_pos h2, a]; rfl
  · rw [if_neg h2, if_pos (by omega), b]; rfl

theorem toks_join {X : List Nat} {b : Nat} {l : List Tok} (h : Toks X b l) : ∀ (Y : List Nat) (m : List Tok), Toks Y (b + X.length + 1) m → Toks (X ++ 32 :: Y) b (l ++ m) := by
  induction h with
  | nil b => intro Y m hm; exact .blank (by decide) hm
  | @blank r X b l h1 _ ih => intro Y m hm; exact .blank h1 (ih Y m (by rw [List.length_cons] at hm; rw [show b + 1 + X.length + 1 = b + (X.length + 1) + 1 by omega]; exact hm))
  | @tok X b l hne h1 he _ ih =>
    intro Y m hm
    obtain ⟨w1, w2⟩ := one_width hne he
    have e : oneR (X ++ 32 :: Y) 0 = oneR X 0 := by
      refine one_local X _ hne he (by rw [List.length_append]; omega) (by rw [List.take_append_of_le_length w2]) (fun hc => ?_)
      rw [List.drop_append_of_le_length w2]
      have := one_stop he hc
      cases hd : X.drop (oneR X 0).2.1 with
      | nil => exact stop32 _ _ hc
      | cons r t => rw [hd] at this; exact this
    have hg : (X ++ 32 :: Y).getD 0 0 = X.getD 0 0 := getD_take (w := (oneR X 0).2.1) (by rw [List.take_append_of_le_length w2]) w1 (by rw [List.length_append]; omega) w2
    have := Toks.tok (X := X ++ 32 :: Y) (b := b) (l := l ++ m) (by simp) (by rw [hg]; exact h1) (by rw [e]; exact he) (by
      rw [e, List.drop_append_of_le_length w2]
      exact ih Y m (by rw [List.length_drop, show b + (oneR X 0).2.1 + (X.length - (oneR X 0).2.1) + 1 = b + X.length + 1 by omega]; exact hm))
    rw [e] at this
    exact this

/-- Places aside, tokens stand the same wherever they begin. -/
theorem toks_move {X : List Nat} {b : Nat} {l : List Tok} (h : Toks X b l) : ∀ c, ∃ m, Toks X c m ∧ sameT false m l = true := by
  induction h with
  | nil b => exact fun c => ⟨[], .nil c, rfl⟩
  | blank h1 _ ih => exact fun c => (ih (c + 1)).imp fun m h => ⟨.blank h1 h.1, h.2⟩
  | @tok X b l hne h1 he _ ih =>
    intro c
    obtain ⟨m, h, s⟩ := ih (c + (oneR X 0).2.1)
    exact ⟨_, .tok hne h1 he h, by rw [sameT, s]; simp [eqT, atT]⟩

end Go.Proofs.YtejppikbdplamaaDoor.Lex
