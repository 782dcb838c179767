/-
  The walk of the document's own tokens of a line.
-/
import Derived.Test.YtejppikbdplamaaDoorLexOne
namespace Go.Proofs.YtejppikbdplamaaDoor.Lex
open Go.RowKit
open Base Runes
set_option linter.unusedVariables false
set_option linter.unusedSimpArgs false

theorem textR_to (R : List Nat) (p : Nat) (hp : p < R.length) (h : (textR R p).2.2.2 = 0) : p < (textR R p).2.1 ∧ (textR R p).2.1 ≤ R.length := by
  have hle := scn_le (R.drop (p + 1)).length (R.drop (p + 1)) (Nat.le_refl _)
  rw [List.length_drop] at hle
  unfold textR at h ⊢
  split at h
  · simp at h
  · rename_i h1
    split at h
    · rename_i h0
      have := hle (by omega)
      split at h
      · rename_i hu
        rw [if_neg h1, if_pos h0, if_pos hu]
        dsimp only; omega
      · simp at h
    · simp at h
theorem oneR_to (R : List Nat) (p : Nat) (hp : p < R.length) (h : (oneR R p).2.2.2 = 0) : p < (oneR R p).2.1 ∧ (oneR R p).2.1 ≤ R.length := by
  have he := endR_le R p hp
  have ht := textR_to R p hp
  unfold oneR at h ⊢
  by_cases h0 : cls (R.getD p 0 : Nat) = 0
  · rw [if_pos h0] at h; simp at h
  · rw [if_neg h0] at h ⊢
    by_cases h2 : cls (R.getD p 0 : Nat) = 2
    · rw [if_pos h2]; exact he
    · rw [if_neg h2] at h ⊢
      by_cases h3 : cls (R.getD p 0 : Nat) = 3
      · rw [if_pos h3] at h ⊢
        by_cases ha : anyL (cutR R p (endR R p)) = true
        · rw [if_pos ha]; exact he
        · rw [if_neg ha] at h ⊢
          by_cases hn : numR (cutR R p (endR R p)) < 0
          · rw [if_pos hn] at h; simp at h
          · rw [if_neg hn]; exact he
      · rw [if_neg h3] at h ⊢
        by_cases h34 : R.getD p 0 = 34
        · rw [if_pos h34] at h ⊢; exact ht h
        · rw [if_neg h34] at h ⊢
          by_cases hs : R.getD p 0 = 61 ∨ R.getD p 0 = 58 ∨ R.getD p 0 = 44 ∨ R.getD p 0 = 45
          · rw [if_pos hs]; dsimp only; omega
          · rw [if_neg hs] at h; simp at h

theorem info_tok : (Tryd.prog.info? 37).map (fun i => (i.zero, i.size, i.bytes)) = some (some (.agg #[.int .i64 0, .string ⟨#[]⟩, .int .i64 0, .int .i64 0]), 4, 40) := by kernel_rfl
theorem tkC_one (t : Tok) : ∀ u ∈ tkC t, u.oneCell' = true := by
  intro u hu
  simp only [tkC, List.mem_cons, List.not_mem_nil, or_false] at hu
  rcases hu with rfl | rfl | rfl | rfl <;> rfl

theorem readsT_one {w : World} {n : Nat} (hn : n = w.heap.size) (t : Tok) (ty : TypeId) : ReadsS 4 tkC (w.alloc (.cells #[.int .i64 t.1, .string t.2.1, .int .i64 t.2.2.1, .int .i64 t.2.2.2] ty)) (some ⟨n, 0, none⟩) [t] :=
  readsS_one (f := tkC) hn t _ rfl rfl ty

/-- What a call answers that tells a row of tokens, a number and an error. -/
def LineSays (w w' : World) (e : Ending) (A : List Tok × Nat × Int) : Prop :=
  ∃ ao cap, e = .returned (.tuple #[.slice ao A.1.length cap, .int .i64 (A.2.1 : Int), .int .i64 A.2.2]) ∧ ReadsS 4 tkC w' ao A.1 ∧ (ao = none → cap = 0) ∧ A.1.length ≤ cap ∧ cap ≤ maxLen ∧ Below w.heap.size w w'

set_option maxRecDepth 100000 in
set_option maxHeartbeats 4000000 in
theorem rtokens_any (s : ByteArray) (hs : s.size ≤ maxLen) (w : World) :
    Calls Tryd.prog 7 #[.string s] w fun e w' => LineSays w w' e (tkA s) := by
  unfold maxLen at hs
  by_cases hbig : 400 < s.size
  · have hT : tkA s = ([], 0, 3) := by unfold tkA; rw [if_pos hbig]
    rw [hT]
    go_enter Tryd.func7, Tryd.ntmps7
    go_wp2
    go_ret3
    exact ⟨none, 0, rfl, .inl rfl, fun _ => rfl, Nat.le_refl _, Nat.zero_le _, Below.refl _ _⟩
  · obtain ⟨i0, hi, hz0, hz1, hz2⟩ := info_parts info_tok
    have HI := Lib.hid hi
    have HZ0 := Lib.hid hz0
    have HZ1 := Lib.hid hz1
    have HZ2 := Lib.hid hz2
    clear hi hz0 hz1 hz2
    obtain ⟨R, hR⟩ : ∃ R, R = rn s := ⟨_, rfl⟩
    have hRl : R.length ≤ 400 := by rw [hR, rn_length]; have := cn_le s; omega
    obtain ⟨A, hA⟩ : ∃ A, A = tkA s := ⟨_, rfl⟩
    rw [← hA]
    unfold tkA at hA
    rw [if_neg hbig, ← hR] at hA
    have c1 := fun w => rrunes_any s (by omega) w
    simp only [← hR] at c1
    have C1 := Lib.hid c1
    have HA := Lib.hid hA
    clear c1 hA hR
    go_enter Tryd.func7, Tryd.ntmps7
    go_wp2_with (first | (go_at_call 16; (with_reducible refine (C1.out _).mono ?_); rintro e w1 ⟨ro, rcap, rfl, hr, hrn, hrc, hrm, p1⟩) | fail)
    have HR := Lib.hid hr
    have P1 := Lib.hid p1
    clear hr p1
    go_loopw [6, 7] (fun v i wr => ∃ (k f : Nat) (acc : List Tok), i = .int .i64 (k : Int) ∧ k ≤ R.length ∧ R.length ≤ k + f ∧ OwnS 4 tkC w1.heap.size 37 v acc wr ∧ toksR f R k acc = A ∧ acc.length ≤ k ∧ Below w1.heap.size w1 wr) (fun _ i _ => R.length - (intOf i).toNat)
    case atStart => exact ⟨0, R.length, [], rfl, Nat.zero_le _, by omega, OwnS.nil (Nat.le_refl _), HA.out.symm, Nat.le_refl _, Below.refl _ _⟩
    case round =>
      obtain ⟨k, f, acc, rfl, hk, hf, ho, hc, hal, hb⟩ := hrel
      have HO := Lib.hid ho
      have HB := Lib.hid hb
      obtain ⟨ao, cap, rfl, hrd, hnil, hcap, hcm⟩ := ho.value tkC_length
      have HRD := Lib.hid hrd
      clear ho hb hrd
      by_cases hp : k < R.length
      · obtain ⟨f', rfl⟩ : ∃ f', f = f' + 1 := ⟨f - 1, by omega⟩
        rw [toksR, if_pos hp] at hc
        have hrw := HR.out.below HB.out
        obtain ⟨b0, off0, rfl, hcx⟩ := hrw.at_ hp
        obtain ⟨x, hx⟩ : ∃ x, x = R[k] := ⟨_, rfl⟩
        have hgx : R.getD k 0 = x := by rw [hx]; simp [List.getD, List.getElem?_eq_getElem hp]
        rw [← hx] at hcx
        unfold rV at hcx
        rw [hgx] at hc
        have HRW := Lib.hid hrw
        clear hrw hx hgx
        by_cases h1 : cls (x : Int) = 1
        · rw [if_pos h1] at hc
          have HC := Lib.hid hc
          have t1 : (cls (x : Int) == 1) = true := by rw [beq_iff_eq]; exact h1
          clear hc h1
          go_wp2_with (first | (go_at_call 17; (with_reducible refine (rclass_any _ _).mono ?_); rintro e w' ⟨rfl, rfl⟩) | fail)
          refine ⟨⟨k + 1, f', acc, by go_num, by omega, by omega, HO.out, HC.out, by omega, HB.out⟩, ?_⟩
          simp [intOf]; omega
        · have t1 : (cls (x : Int) == 1) = false := by rw [beq_eq_false_iff_ne]; exact h1
          rw [if_neg h1] at hc
          have hto := oneR_to R k hp
          have hone := rone_any (some ⟨b0, off0, none⟩) rcap R k wr (by omega) hrc hrm hp HRW.out
          obtain ⟨⟨⟨k', s', n', a'⟩, to', at', e'⟩, hQ⟩ : ∃ Q, Q = oneR R k := ⟨_, rfl⟩
          rw [← hQ] at hc hto hone
          dsimp only at hc hto
          simp only [resV, tokV] at hone
          have HONE := Lib.hid hone
          clear hQ hone h1
          by_cases he : e' = 0
          · rw [if_pos he] at hc
            subst he
            have hto2 := hto rfl
            have HC := Lib.hid hc
            clear hc hto
            go_wp2_with (first
              | (go_at_call 17; (with_reducible refine (rclass_any _ _).mono ?_); rintro e w' ⟨rfl, rfl⟩)
              | (go_at_call 18; (with_reducible refine (HONE.out).mono ?_); rintro e w2 ⟨rfl, p2⟩)
              | (at_builtin; refine wpList_append_srcS rfl (.tmp 41) (.tmp 43) 22 rfl tkC_length (by decide) i0 _ 40 Tryd.underlying22 HI.out HZ0.out HZ1.out HZ2.out rfl tkC_one rfl (((HO.out.below p2).alloc _).alloc _) _ 1 1 [((k', s', n', a') : Tok)] rfl rfl (readsT_one (by simp) (k', s', n', a') _) (by intro h; cases h) (by omega) (by unfold maxLen; omega) ?_; intro v4 w4 o4 b4)
              | fail)
            have hw2 : Below w1.heap.size w1 ((w2.alloc (.cells #[.int .i64 k', .string s', .int .i64 n', .int .i64 a'] 37)).alloc (.cells #[.int .i64 k', .string s', .int .i64 n', .int .i64 a'] 37)) := by
              have h1 := HB.out.trans (p2.mono HB.out.size)
              exact (h1.alloc h1.size _).alloc (by have := h1.size; simp; omega) _
            refine ⟨⟨to', f', acc ++ [(k', s', n', a')], rfl, hto2.2, by omega, o4, HC.out, by simp; omega, hw2.trans b4⟩, ?_⟩
            simp [intOf]; omega
          · rw [if_neg he] at hc
            have HC := Lib.hid hc
            have te : (e' != 0) = true := by rw [bne_iff_ne]; exact he
            clear hc hto he
            go_wp2_with (first
              | (go_at_call 17; (with_reducible refine (rclass_any _ _).mono ?_); rintro e w' ⟨rfl, rfl⟩)
              | (go_at_call 18; (with_reducible refine (HONE.out).mono ?_); rintro e w2 ⟨rfl, p2⟩)
              | fail)
            go_ret3
            have hw2 : Below w.heap.size w (w2.alloc (.cells #[.int .i64 k', .string s', .int .i64 n', .int .i64 a'] 37)) := by
              have h1 := (p2.from (HB.out.from P1.out))
              exact h1.alloc h1.size _
            rw [← HC.out]
            exact ⟨none, 0, rfl, .inl rfl, fun _ => rfl, Nat.le_refl _, Nat.zero_le _, hw2⟩
      · have hkk : k = R.length := by omega
        have hfin : (acc, R.length, (0 : Int)) = A := by
          rw [← hc]
          cases f with
          | zero => rfl
          | succ f => rw [toksR, if_neg hp]
        have HF := Lib.hid hfin
        clear hc hfin
        go_wp2
        go_ret3
        rw [← HF.out]
        exact ⟨ao, cap, rfl, HRD.out, hnil, hcap, hcm, HB.out.from P1.out⟩

end Go.Proofs.YtejppikbdplamaaDoor.Lex
