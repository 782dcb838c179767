/-
  The program's written tokens, whether they may be: plain, and walked.
-/
import Derived.Test.YtejppikbdplamaaGreatDoorLexTks
import Derived.Lib.ItoaLen
namespace Go.Proofs.YtejppikbdplamaaGreatDoor.Lex
open Go.RowKit
open Base Runes LexLib
set_option linter.unusedVariables false
set_option linter.unusedSimpArgs false

/-! Digits. -/

theorem dec_dig : ∀ (f u : Nat), u < 10 ^ f → 1 ≤ f → digF f u = Go.Lib.decDigits u
  | 0, _, _, h => absurd h (by decide)
  | f + 1, u, hu, _ => by
    rw [digF, Go.Lib.decDigits]
    by_cases h : u < 10
    · rw [if_pos h, dif_pos h]
    · rw [if_neg h, dif_neg h]
      have hf : 1 ≤ f := by
        rcases Nat.eq_zero_or_pos f with h0 | h0
        · subst h0; simp at hu; omega
        · exact h0
      rw [dec_dig f (u / 10) (by have := Nat.pow_succ 10 f; omega) hf]
def itB (n : Int) : ByteArray := ⟨(Go.Lib.itoa n).toArray⟩
theorem itB_nat {n : Int} (h : ¬ n < 0) (h1 : n ≤ 9223372036854775807) : itB n = digB n := by
  unfold itB digB Go.Lib.itoa
  rw [if_neg h, if_neg h, dec_dig 20 n.toNat (by omega) (by decide)]
theorem itB_neg {n : Int} (h : n < 0) : ∃ t, (itB n).data.toList = 45 :: t := by
  unfold itB Go.Lib.itoa
  rw [if_pos h]
  exact ⟨_, rfl⟩

def wrI (t : Tok) : ByteArray := if t.1 = 2 then itB t.2.2.1 else if t.1 = 4 then qtS t.2.1 else t.2.1

/-! Where the only token of a line stands that is its own writing. -/

theorem wrB_at (t : Tok) (b : Nat) : wrB (atT t b) = wrB t := rfl
theorem wrB_eq {x t : Tok} (h1 : x.1 = t.1) (h2 : x.2.1 = t.2.1) (h3 : x.2.2.1 = t.2.2.1) : wrB x = wrB t := by unfold wrB; rw [h1, h2, h3]
theorem toks_size {X : List Nat} {b : Nat} {l : List Tok} (h : Toks X b l) : ∀ t ∈ l, (wrB t).size ≤ (encB X).size := by
  induction h with
  | nil b => intro t ht; simp at ht
  | @blank r X b l h1 _ ih =>
    intro t ht
    have := ih t ht
    have h2 := encB_size_append [r] X
    rw [List.singleton_append] at h2
    omega
  | @tok X b l hne h1 he _ ih =>
    intro t ht
    have hap := encB_size_append (X.take (oneR X 0).2.1) (X.drop (oneR X 0).2.1)
    rw [List.take_append_drop] at hap
    rcases List.mem_cons.1 ht with rfl | ht
    · obtain ⟨hg, hc⟩ := one_is hne he b
      rcases hc with ⟨h2, e⟩ | e
      · have : (wrB (atT (oneR X 0).1 b)).size = (encB (X.take (oneR X 0).2.1)).size := by
          rw [wrB_at, e]
          show (lowS _).size = _
          rw [Lib.size_eq, Lib.size_eq]; unfold lowS; rw [ofList_data, List.length_map]
        omega
      · rw [e]; omega
    · have := ih t ht; omega
theorem encB_one (r : Nat) : 1 ≤ (encB [r]).size := by
  rw [Lib.size_eq, encB_data]
  unfold encL
  rw [List.flatMap_cons, List.flatMap_nil, List.append_nil]
  unfold Go.Lib.encodeRune
  rw [List.length_map]
  have : 1 ≤ (Go.Lib.encodeRuneZ (r : Int)).length := by
    unfold Go.Lib.encodeRuneZ
    repeat' split
    all_goals simp
  exact this

theorem chE_place {t x : Tok} (h : chE t = 0) (he : (tkA (wrB t)).1 = [x]) : x.1 = t.1 ∧ x.2.1 = t.2.1 ∧ x.2.2.1 = t.2.2.1 ∧ x.2.2.2 = 0 := by
  unfold chE at h
  split at h
  · rename_i hE
    rw [he] at h
    simp only at h
    split at h
    · rename_i hx
      obtain ⟨_, h2, _⟩ := tkA_toks hE
      rw [he] at h2
      have hgd := toks_good h2
      refine ⟨hx.1, hx.2.1, hx.2.2, ?_⟩
      generalize hX : rn (wrB t) = X at h2 hgd
      cases h2 with
      | @blank r X' _ _ h1 h3 =>
        exfalso
        have s1 := toks_size h3 x (by simp)
        rw [wrB_eq hx.1 hx.2.1 hx.2.2] at s1
        have s2 := encB_size_append [r] X'
        rw [List.singleton_append, ← hX, encB_rn (by rw [hX]; exact hgd)] at s2
        have := encB_one r
        omega
      | tok _ _ _ _ => rfl
    · simp at h
  · simp at h

/-- Whether a token may be, as the program asks. -/
theorem chE_neg {t : Tok} (h1 : t.1 = 2) (h2 : t.2.2.1 < 0) : chE t = 50 := by
  have e : wrB t = ⟨#[]⟩ := by unfold wrB digB; rw [if_pos h1, if_pos h2]
  have e2 : tkA ⟨#[]⟩ = ([], 0, 0) := by decide +kernel
  unfold chE
  rw [e, e2]; rfl
theorem minus_kind {W : ByteArray} {t : List UInt8} {x : Tok} (hW : W.data.toList = 45 :: t) (he : (tkA W).2.2 = 0) (hx : (tkA W).1 = [x]) : x.1 = 5 := by
  obtain ⟨_, h2, _⟩ := tkA_toks he
  rw [hx] at h2
  have hX : rn W = 45 :: (pc t).map (·.1) := by
    unfold rn
    rw [ps_zero, hW, pc_ascii 45 t (by decide)]; rfl
  rw [hX] at h2
  have hc : cls ((45 : Nat) : Int) = 4 := by decide
  cases h2 with
  | blank h1 _ => rw [hc] at h1; simp at h1
  | tok _ _ _ _ =>
    have g0 : (45 :: (pc t).map (·.1)).getD 0 0 = 45 := rfl
    unfold atT oneR
    rw [g0, if_neg (by rw [hc]; decide), if_neg (by rw [hc]; decide), if_neg (by rw [hc]; decide), if_neg (by decide), if_pos (by decide)]

theorem chI (k : Int) (s : ByteArray) (n a : Int) (hn : n ≤ 9223372036854775807) :
    (chE (k, s, n, a) = 0 → wrI (k, s, n, a) = wrB (k, s, n, a) ∧ (tkA (wrI (k, s, n, a))).2.2 = 0 ∧ (tkA (wrI (k, s, n, a))).1 = [(k, s, n, 0)]) ∧
    (chE (k, s, n, a) = 50 → ¬ ((tkA (wrI (k, s, n, a))).2.2 = 0 ∧ (tkA (wrI (k, s, n, a))).1 = [(k, s, n, 0)])) := by
  by_cases hneg : k = 2 ∧ n < 0
  · have h50 := chE_neg (t := (k, s, n, a)) hneg.1 hneg.2
    refine ⟨fun h => by rw [h50] at h; simp at h, fun _ ⟨h1, h2⟩ => ?_⟩
    obtain ⟨t, ht⟩ := itB_neg hneg.2
    have e : wrI (k, s, n, a) = itB n := by unfold wrI; rw [if_pos hneg.1]
    rw [e] at h1 h2
    have := minus_kind ht h1 h2
    dsimp only at this
    omega
  · have e : wrI (k, s, n, a) = wrB (k, s, n, a) := by
      unfold wrI wrB
      dsimp only
      by_cases h2 : k = 2
      · rw [if_pos h2, if_pos h2]; exact itB_nat (fun h => hneg ⟨h2, h⟩) hn
      · rw [if_neg h2, if_neg h2]
    rw [e]
    refine ⟨fun h => ⟨rfl, ?_⟩, fun h => ?_⟩
    · have h0 := h
      unfold chE at h
      split at h
      · rename_i hE
        split at h
        · rename_i x hx
          obtain ⟨a1, a2, a3, a4⟩ := chE_place h0 hx
          refine ⟨hE, ?_⟩
          rw [hx]
          obtain ⟨x1, x2, x3, x4⟩ := x
          dsimp only at a1 a2 a3 a4
          rw [a1, a2, a3, a4]
        · simp at h
      · simp at h
    · rintro ⟨h1, h2⟩
      unfold chE at h
      rw [if_pos h1, h2] at h
      simp at h
theorem chE_long {t : Tok} (h : 400 < t.2.1.size) : chE t = 50 := by
  rcases chE_or t with h0 | h0
  · exfalso
    have h1 := h0
    unfold chE at h1
    split at h1
    · rename_i hE
      split at h1
      · rename_i x hx
        obtain ⟨_, a2, _⟩ := chE_place h0 hx
        have hs := (line_small hE).2.2 x (by rw [hx]; simp)
        rw [a2] at hs
        omega
      · simp at h1
    · simp at h1
  · exact h0

theorem wrI_size (t : Tok) (h0 : -9223372036854775808 ≤ t.2.2.1) (h1 : t.2.2.1 ≤ 9223372036854775807) : (wrI t).size ≤ 2 * t.2.1.size + 21 := by
  unfold wrI
  split
  · have := Go.Lib.itoa_length_le t.2.2.1 h0 h1
    unfold itB
    rw [Lib.size_eq, ofList_data]; omega
  · split
    · have := qtS_size2 t.2.1; omega
    · omega

end Go.Proofs.YtejppikbdplamaaGreatDoor.Lex
