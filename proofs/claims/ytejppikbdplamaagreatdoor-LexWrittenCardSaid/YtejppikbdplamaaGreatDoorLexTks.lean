/-
  The walk of the program's tokens of a line.
-/
import Derived.Test.YtejppikbdplamaaGreatDoorLexTokI
namespace Go.Proofs.YtejppikbdplamaaGreatDoor.Lex
open Go.RowKit
open Base Runes LexLib
set_option linter.unusedVariables false
set_option linter.unusedSimpArgs false

theorem tokI_place (z : ByteArray) : (tokI z).2.1 ≤ z.size := by
  have h : ckN z ≤ z.size := by
    have h1 := chk_good 0 (ps z 0)
    have h2 := cn_le z
    unfold cn at h2
    unfold ckN
    rcases h1 with ⟨_, h1, _⟩ | ⟨_, _, h1, _⟩ <;> omega
  unfold tokI
  repeat' split
  all_goals first | exact h | exact Nat.zero_le _

/-- What a call answers that tells a row of tokens that it has made, a number and an error. -/
def LineNew (w w' : World) (e : Ending) (A : List Tok × Nat × Int) : Prop :=
  ∃ ao cap, e = .returned (.tuple #[.slice ao A.1.length cap, .int .i64 (A.2.1 : Int), .int .i64 A.2.2]) ∧ ReadsS 4 tkC w' ao A.1 ∧ (ao = none → cap = 0) ∧ A.1.length ≤ cap ∧ cap ≤ maxLen ∧ Below w.heap.size w w' ∧ ∀ b off, ao = some ⟨b, off, none⟩ → w.heap.size ≤ b

set_option maxRecDepth 100000 in
set_option maxHeartbeats 4000000 in
theorem tokens_new (s : ByteArray) (hs : s.size ≤ maxLen) (w : World) (hT : Tb w) :
    Calls Tryz.prog 12 #[.string s] w fun e w' => LineNew w w' e (tkA s) := by
  unfold maxLen at hs
  by_cases hbig : 400 < s.size
  · have hTk : tkA s = ([], 0, 3) := by unfold tkA; rw [if_pos hbig]
    rw [hTk]
    go_enter Tryz.func12, Tryz.ntmps12
    go_wp2
    go_ret3
    exact ⟨none, 0, rfl, .inl rfl, fun _ => rfl, Nat.le_refl _, Nat.zero_le _, Below.refl _ _, fun _ _ h => by cases h⟩
  · obtain ⟨i0, hi, hz0, hz1, hz2⟩ := info_parts info_tok
    have HI := Lib.hid hi
    have HZ0 := Lib.hid hz0
    have HZ1 := Lib.hid hz1
    have HZ2 := Lib.hid hz2
    clear hi hz0 hz1 hz2
    have c1 := pieces_any s (by omega) w
    have hok := pcs_ok s
    have hfew := pcs_few s
    obtain ⟨A, hA⟩ : ∃ A, A = tkA s := ⟨_, rfl⟩
    rw [← hA]
    rw [← pcs_tkA hbig] at hA
    obtain ⟨Z, hZ⟩ : ∃ Z, Z = pcs s := ⟨_, rfl⟩
    rw [← hZ] at hA c1 hok hfew
    have hZl : Z.length ≤ 400 := by omega
    have C1 := Lib.hid c1
    have HA := Lib.hid hA
    have HOK := Lib.hid hok
    have HT := Lib.hid hT
    clear c1 hA hZ hok hT hfew
    go_enter Tryz.func12, Tryz.ntmps12
    go_wp2_with (first | (go_at_call 20; (with_reducible refine (C1.out).mono ?_); rintro e w1 ⟨ro, rcap, rfl, hr, hrn, hrc, hrm, p1⟩) | fail)
    have HR := Lib.hid hr
    have P1 := Lib.hid p1
    have HT1 := Lib.hid (HT.out.later p1)
    clear hr p1
    go_loopw [5, 6, 18] (fun v nn i wr => ∃ (k n : Nat) (acc : List Tok), nn = .int .i64 (n : Int) ∧ i = .int .i64 (k : Int) ∧ k ≤ Z.length ∧ n ≤ 400 * k ∧ OwnS 4 tkC w1.heap.size 24 v acc wr ∧ tkF (Z.drop k) n acc = A ∧ acc.length ≤ k ∧ Below w1.heap.size w1 wr) (fun _ _ i _ => Z.length - (intOf i).toNat)
    case atStart => exact ⟨0, 0, [], rfl, rfl, Nat.zero_le _, Nat.zero_le _, OwnS.nil (Nat.le_refl _), HA.out.symm, Nat.le_refl _, Below.refl _ _⟩
    case round =>
      obtain ⟨k, n, acc, rfl, rfl, hk, hnk, ho, hc, hal, hb⟩ := hrel
      have HO := Lib.hid ho
      have HB := Lib.hid hb
      obtain ⟨ao, cap, rfl, hrd, hnil, hcap, hcm⟩ := ho.value tkC_length
      have HRD := Lib.hid hrd
      have HTB := Lib.hid (HT1.out.later hb)
      clear ho hb hrd
      by_cases hp : k < Z.length
      · rw [List.drop_eq_getElem_cons hp, tkF] at hc
        have hrw := HR.out.below HB.out
        obtain ⟨b0, off0, rfl, hcx⟩ := hrw.at_ hp
        have hzk := HOK.out Z[k] (List.getElem_mem hp)
        obtain ⟨z, hz⟩ : ∃ z, z = Z[k] := ⟨_, rfl⟩
        rw [← hz] at hcx hc hzk
        have hzs : z.size ≤ 400 := by omega
        have hpl := tokI_place z
        have hcn := cn_le z
        have c2 := token_any z hzk.1 (by omega) wr HTB.out
        have c3 := fun w => count_any z (by omega) w
        obtain ⟨⟨⟨k', s', n', a'⟩, q, e'⟩, hQ⟩ : ∃ Q, Q = tokI z := ⟨_, rfl⟩
        rw [← hQ] at hc c2 hpl
        simp only [pieV, tokV] at c2
        dsimp only at hc hpl
        obtain ⟨c, hcz⟩ : ∃ c, c = cn z := ⟨_, rfl⟩
        rw [← hcz] at hc hcn
        simp only [← hcz] at c3
        have C2 := Lib.hid c2
        have C3 := Lib.hid c3
        clear c2 c3 hz hzk hQ hcz hrw
        by_cases he : e' = 0
        · subst he
          rw [if_neg (by simp)] at hc
          by_cases h0 : k' = 0
          · subst h0
            rw [if_neg (by simp)] at hc
            have HC := Lib.hid hc
            clear hc
            go_wp2_with (first
              | (go_at_call 21; (with_reducible refine (C2.out).mono ?_); rintro e w2 ⟨rfl, p2⟩)
              | (go_at_call 22; (with_reducible refine (C3.out _).mono ?_); rintro e w3 ⟨rfl, p3⟩)
              | fail)
            have hw3 := p3.from (Below.from (below_one _) p2)
            refine ⟨⟨k + 1, n + c, acc, by go_num, by go_num, by omega, by omega, HO.out.below hw3, HC.out, by omega, HB.out.trans (hw3.mono HB.out.size)⟩, ?_⟩
            simp [intOf]; omega
          · rw [if_pos h0] at hc
            have t0 : (k' != 0) = true := by rw [bne_iff_ne]; exact h0
            have HC := Lib.hid hc
            clear hc h0
            go_wp2_with (first
              | (go_at_call 21; (with_reducible refine (C2.out).mono ?_); rintro e w2 ⟨rfl, p2⟩)
              | (go_at_call 22; (with_reducible refine (C3.out _).mono ?_); rintro e w5 ⟨rfl, p5⟩)
              | (at_builtin; refine wpList_append_srcS rfl (.tmp 39) (.tmp 41) 22 rfl tkC_length (by decide) i0 _ 40 Tryz.underlying22 HI.out HZ0.out HZ1.out HZ2.out rfl tkC_one rfl (((HO.out.below p2).alloc _).alloc _) _ 1 1 [((k', s', n', (n : Int)) : Tok)] rfl rfl (readsT_one (by simp) (k', s', n', (n : Int)) _) (by intro h; cases h) (by omega) (by unfold maxLen; omega) ?_; intro v4 w4 o4 b4)
              | fail)
            have hw2 : Below w1.heap.size w1 ((w2.alloc (.cells #[.int .i64 k', .string s', .int .i64 n', .int .i64 (n : Int)] 24)).alloc (.cells #[.int .i64 k', .string s', .int .i64 n', .int .i64 (n : Int)] 24)) := by
              have h1 := HB.out.trans (p2.mono HB.out.size)
              exact (h1.alloc h1.size _).alloc (by have := h1.size; simp; omega) _
            have hw4 := hw2.trans b4
            refine ⟨⟨k + 1, n + c, acc ++ [(k', s', n', (n : Int))], by go_num, by go_num, by omega, by omega, o4.below p5, HC.out, by simp; omega, hw4.trans (p5.mono hw4.size)⟩, ?_⟩
            simp [intOf]; omega
        · rw [if_pos he] at hc
          have HC := Lib.hid hc
          have te : (e' != 0) = true := by rw [bne_iff_ne]; exact he
          clear hc he
          go_wp2_with (first
            | (go_at_call 21; (with_reducible refine (C2.out).mono ?_); rintro e w2 ⟨rfl, p2⟩)
            | fail)
          go_ret3
          have hw2 : Below w.heap.size w (w2.alloc (.cells #[.int .i64 k', .string s', .int .i64 n', .int .i64 a'] 24)) := by
            have h1 := (p2.from (HB.out.from P1.out))
            exact h1.alloc h1.size _
          rw [← HC.out]
          exact ⟨none, 0, by simp, .inl rfl, fun _ => rfl, Nat.le_refl _, Nat.zero_le _, hw2, fun _ _ h => by cases h⟩
      · have hkk : k = Z.length := by omega
        rw [List.drop_eq_nil_of_le (by omega), tkF] at hc
        have HF := Lib.hid hc
        clear hc
        go_wp2
        go_ret3
        rw [← HF.out]
        exact ⟨ao, cap, rfl, HRD.out, hnil, hcap, hcm, HB.out.from P1.out, fun b off h => by subst h; have h1 := (HO.out.1.lt b rfl).1; have h2 := P1.out.size; omega⟩

theorem tokens_any (s : ByteArray) (hs : s.size ≤ maxLen) (w : World) (hT : Tb w) :
    Calls Tryz.prog 12 #[.string s] w fun e w' => LineSays w w' e (tkA s) :=
  (tokens_new s hs w hT).mono fun e w' ⟨ao, cap, h1, h2, h3, h4, h5, h6, _⟩ => ⟨ao, cap, h1, h2, h3, h4, h5, h6⟩

end Go.Proofs.YtejppikbdplamaaGreatDoor.Lex
