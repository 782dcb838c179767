/-
  The walks of the statements of layer 5 that stand without the document's answer: LexBack, LexPlaces.
-/
import Derived.Test.YtejppikbdplamaaDoorLaw05
import Derived.Test.YtejppikbdplamaaDoorLexAgain
namespace Go.Proofs.YtejppikbdplamaaDoor.Lex
open Go.RowKit
open Base Runes LexLib
set_option linter.unusedVariables false
set_option linter.unusedSimpArgs false

theorem oneR_nat {X : List Nat} (he : (oneR X 0).2.2.2 = 0) : 0 ≤ (oneR X 0).1.2.2.1 := by
  unfold oneR textR at he ⊢
  by_cases h0 : cls (X.getD 0 0 : Nat) = 0
  · rw [if_pos h0] at he; simp at he
  · rw [if_neg h0] at he ⊢
    by_cases h2 : cls (X.getD 0 0 : Nat) = 2
    · rw [if_pos h2]; exact Int.le_refl _
    · rw [if_neg h2] at he ⊢
      by_cases h3 : cls (X.getD 0 0 : Nat) = 3
      · rw [if_pos h3] at he ⊢
        by_cases ha : anyL (cutR X 0 (endR X 0)) = true
        · rw [if_pos ha]; exact Int.le_refl _
        · rw [if_neg ha] at he ⊢
          by_cases hn : numR (cutR X 0 (endR X 0)) < 0
          · rw [if_pos hn] at he; simp at he
          · rw [if_neg hn]; dsimp only; omega
      · rw [if_neg h3] at he ⊢
        by_cases h34 : X.getD 0 0 = 34
        · rw [if_pos h34] at he ⊢
          repeat' split
          all_goals exact Int.le_refl _
        · rw [if_neg h34] at he ⊢
          by_cases hs : X.getD 0 0 = 61 ∨ X.getD 0 0 = 58 ∨ X.getD 0 0 = 44 ∨ X.getD 0 0 = 45
          · rw [if_pos hs]; exact Int.le_refl _
          · rw [if_neg hs] at he; simp at he
theorem toks_nat {X : List Nat} {b : Nat} {l : List Tok} (h : Toks X b l) : ∀ t ∈ l, 0 ≤ t.2.2.1 := by
  induction h with
  | nil b => intro t ht; simp at ht
  | blank _ _ ih => exact ih
  | tok hne h1 he _ ih =>
    intro t ht
    rcases List.mem_cons.1 ht with rfl | ht
    · exact oneR_nat he
    · exact ih t ht
theorem line_nat {s : ByteArray} (h : (tkA s).2.2 = 0) : ∀ t ∈ (tkA s).1, 0 ≤ t.2.2.1 := toks_nat (tkA_toks h).2.1

set_option maxRecDepth 100000 in
set_option maxHeartbeats 4000000 in
theorem lexBack_any (ao : Option Addr) (len cap : Nat) (l : List Tok) (s : ByteArray) (hs : s.size ≤ maxLen) (w : World)
    (hlen : l.length = len) (hl : len ≤ maxLen) (hz : ∀ t ∈ l, t.2.1.size ≤ maxLen ∧ t.2.2.1 ≤ 9223372036854775807) (hm : ∀ t ∈ l, -9223372036854775808 ≤ t.2.2.1) (hr : ReadsS 4 tkC w ao l) (hT : Tb w) :
    Calls Tryd.prog 4 #[.slice ao len cap, .string s] w fun e w' => e = .returned (.bool true) ∧ Below w.heap.size w w' := by
  subst hlen
  have HT := Lib.hid hT
  have HMM := Lib.hid hm
  clear hT hm
  have cf := fun w hr => few_any ao cap l w hl (fun t ht => (hz t ht).1) hr
  have HR := Lib.hid hr
  cases hfl : fewB l with
  | false =>
    simp only [hfl] at cf
    have CF := Lib.hid cf
    clear cf hr hfl hz
    go_enter Tryd.func4, Tryd.ntmps4
    go_wp2_with (first
      | (go_at_call 10; (with_reducible refine (CF.out _ HR.out).mono ?_); rintro e w' ⟨rfl, rfl⟩)
      | (go_at_call 9; (with_reducible refine (awake_any _ (HT.out.later (by (focus repeat (first | exact Below.refl _ _ | assumption | (exact Hid.out (by assumption)) | (with_reducible refine Below.drew ?_) | (with_reducible refine Base.below_drewN ?_ _) | (refine Below.from (below_one _) ?_) | (refine Below.from (below_conv _ _ _) ?_) | (refine Below.setCell ?_ (by simp <;> omega) _) | (refine Below.from (by assumption) ?_)))))).mono ?_); rintro e w9 ⟨rfl, p9⟩)
      | fail)
    go_ret
    exact ⟨rfl, p9⟩
  | true =>
    simp only [hfl] at cf
    have CF := Lib.hid cf
    unfold fewB at hfl
    rw [decide_eq_true_iff] at hfl
    have hl1 := hfl.1
    have C1 := Lib.hid (fun w hT hr => ljoin_any ao cap l w hT (by omega) (fun t ht => ⟨by have := hfl.2 t ht; omega, (hz t ht).2⟩) HMM.out hr)
    have hjs := jn_small l
    have hjb := join_back l
    obtain ⟨⟨j1, j2⟩, hJ⟩ : ∃ J, J = jn l := ⟨_, rfl⟩
    rw [← hJ] at C1 hjs hjb
    dsimp only at C1 hjs hjb
    have T2 := Lib.hid (fun w hT => tokens_any s hs w hT)
    have HN2 := Lib.hid (fun h : (tkA s).2.2 = 0 => line_nat h)
    have HL2 := Lib.hid (fun h : (tkA s).2.2 = 0 => And.intro (line_small h).2 (And.intro (line_join h) (fun hj : (jn (tkA s).1).2 = 0 => And.intro (jn_small (tkA s).1) (join_back _ hj))))
    have HB2 := Lib.hid (fun h : (tkA s).2.2 ≠ 0 => tkA_bad h)
    obtain ⟨⟨L2, N2, E2⟩, hA2⟩ : ∃ A, A = tkA s := ⟨_, rfl⟩
    rw [← hA2] at T2 HL2 HB2 HN2
    unfold LineSays at T2
    dsimp only at T2 HL2 HB2 HN2
    clear cf hr hfl hz hJ hA2
    by_cases hj2 : j2 = 0
    · subst hj2
      obtain ⟨a1, a2, a3⟩ := hjb rfl
      have T1 := Lib.hid (fun w hT => tokens_any j1 (by unfold maxLen; omega) w hT)
      have K1 := Lib.hid (fun w => count_any j1 (by omega) w)
      obtain ⟨⟨L1, N1, E1⟩, hA1⟩ : ∃ A, A = tkA j1 := ⟨_, rfl⟩
      rw [← hA1] at T1 a1 a2 a3
      unfold LineSays at T1
      dsimp only at T1 a1 a2 a3
      rw [← a2] at K1
      subst a1
      have S1 := Lib.hid a3
      have hN : ((N1 : Int) != (N1 : Int)) = false := by rw [bne_eq_false_iff_eq]
      clear hjb a2 a3 hA1
      by_cases hE2 : E2 = 0
      · subst hE2
        obtain ⟨hsm, hjo, hjb⟩ := HL2.out rfl
        have hn2 := HN2.out rfl
        have C2 := Lib.hid (fun w ao cap hT hr => ljoin_any ao cap L2 w hT (by omega) (fun t ht => ⟨by have := (hsm.2 t ht).1; omega, by have := (hsm.2 t ht).2; omega⟩) (fun t ht => by have := hn2 t ht; omega) hr)
        have hl2 := hsm.1
        clear hsm hn2
        obtain ⟨⟨j3, j4⟩, hJ2⟩ : ∃ J, J = jn L2 := ⟨_, rfl⟩
        rw [← hJ2] at C2 hjo hjb
        dsimp only at C2 hjo hjb
        rcases hjo with rfl | rfl
        · obtain ⟨b1, b2, b3, b4⟩ := hjb rfl
          have T3 := Lib.hid (fun w hT => tokens_any j3 (by unfold maxLen; omega) w hT)
          obtain ⟨⟨L3, N3, E3⟩, hA3⟩ : ∃ A, A = tkA j3 := ⟨_, rfl⟩
          rw [← hA3] at T3 b2 b3 b4
          unfold LineSays at T3
          dsimp only at T3 b2 b3 b4
          subst b2
          have S3 := Lib.hid b4
          clear hjb hJ2 hA3 b3 b4
          go_enter Tryd.func4, Tryd.ntmps4
          go_wp2_with (first
            | (go_at_call 10; (with_reducible refine (CF.out _ HR.out).mono ?_); rintro e w' ⟨rfl, rfl⟩)
            | (go_at_call 11; (with_reducible refine (C1.out _ (HT.out.later (by (focus repeat (first | exact Below.refl _ _ | assumption | (exact Hid.out (by assumption)) | (with_reducible refine Below.drew ?_) | (with_reducible refine Base.below_drewN ?_ _) | (refine Below.from (below_one _) ?_) | (refine Below.from (below_conv _ _ _) ?_) | (refine Below.setCell ?_ (by simp <;> omega) _) | (refine Below.from (by assumption) ?_))))) HR.out).mono ?_); rintro e w1 ⟨rfl, p1⟩)
            | (go_at_call 6; (with_reducible refine (T1.out _ (HT.out.later (by (focus repeat (first | exact Below.refl _ _ | assumption | (exact Hid.out (by assumption)) | (with_reducible refine Below.drew ?_) | (with_reducible refine Base.below_drewN ?_ _) | (refine Below.from (below_one _) ?_) | (refine Below.from (below_conv _ _ _) ?_) | (refine Below.setCell ?_ (by simp <;> omega) _) | (refine Below.from (by assumption) ?_)))))).mono ?_); rintro e w2 ⟨ao2, cap2, rfl, hr2, hz2, hd1, hd2, p2⟩; have HR2 := Lib.hid hr2; have P2 := Lib.hid (p2.from p1); clear hr2)
            | (go_at_call 12; (with_reducible refine (K1.out _).mono ?_); rintro e w3 ⟨rfl, p3⟩)
            | (go_at_call 8; (with_reducible refine (rsame_any _ _ _ _ L1 l false _ (by omega) (by omega) (HR2.out.below tkC_length p3) (HR.out.below tkC_length (p3.from P2.out))).mono ?_); rintro e w4 ⟨rfl, p4⟩; rw [S1.out])
            | (go_at_call 6; (with_reducible refine (T2.out _ (HT.out.later (by (focus repeat (first | exact Below.refl _ _ | assumption | (exact Hid.out (by assumption)) | (with_reducible refine Below.drew ?_) | (with_reducible refine Base.below_drewN ?_ _) | (refine Below.from (below_one _) ?_) | (refine Below.from (below_conv _ _ _) ?_) | (refine Below.setCell ?_ (by simp <;> omega) _) | (refine Below.from (by assumption) ?_)))))).mono ?_); rintro e w5 ⟨ao5, cap5, rfl, hr5, hz5, he1, he2, p5⟩; have HR5 := Lib.hid hr5; have P5 := Lib.hid (p5.from (p4.from (p3.from P2.out))); clear hr5)
            | (go_at_call 11; (with_reducible refine (C2.out _ _ _ (HT.out.later (by (focus repeat (first | exact Below.refl _ _ | assumption | (exact Hid.out (by assumption)) | (with_reducible refine Below.drew ?_) | (with_reducible refine Base.below_drewN ?_ _) | (refine Below.from (below_one _) ?_) | (refine Below.from (below_conv _ _ _) ?_) | (refine Below.setCell ?_ (by simp <;> omega) _) | (refine Below.from (by assumption) ?_))))) HR5.out).mono ?_); rintro e w6 ⟨rfl, p6⟩)
            | (go_at_call 6; (with_reducible refine (T3.out _ (HT.out.later (by (focus repeat (first | exact Below.refl _ _ | assumption | (exact Hid.out (by assumption)) | (with_reducible refine Below.drew ?_) | (with_reducible refine Base.below_drewN ?_ _) | (refine Below.from (below_one _) ?_) | (refine Below.from (below_conv _ _ _) ?_) | (refine Below.setCell ?_ (by simp <;> omega) _) | (refine Below.from (by assumption) ?_)))))).mono ?_); rintro e w7 ⟨ao7, cap7, rfl, hr7, hz7, hf1, hf2, p7⟩; have HR7 := Lib.hid hr7; clear hr7)
            | (go_at_call 8; (with_reducible refine (rsame_any _ _ _ _ L3 L2 false _ (by omega) (by omega) HR7.out (HR5.out.below tkC_length (p7.from p6))).mono ?_); rintro e w8 ⟨rfl, p8⟩; rw [S3.out])
            | (go_at_call 9; (with_reducible refine (awake_any _ (HT.out.later (by (focus repeat (first | exact Below.refl _ _ | assumption | (exact Hid.out (by assumption)) | (with_reducible refine Below.drew ?_) | (with_reducible refine Base.below_drewN ?_ _) | (refine Below.from (below_one _) ?_) | (refine Below.from (below_conv _ _ _) ?_) | (refine Below.setCell ?_ (by simp <;> omega) _) | (refine Below.from (by assumption) ?_)))))).mono ?_); rintro e w9 ⟨rfl, p9⟩)
            | fail)
          go_ret
          exact ⟨rfl, p9.from (p8.from (p7.from (p6.from P5.out)))⟩
        · clear hjb hJ2
          go_enter Tryd.func4, Tryd.ntmps4
          go_wp2_with (first
            | (go_at_call 10; (with_reducible refine (CF.out _ HR.out).mono ?_); rintro e w' ⟨rfl, rfl⟩)
            | (go_at_call 11; (with_reducible refine (C1.out _ (HT.out.later (by (focus repeat (first | exact Below.refl _ _ | assumption | (exact Hid.out (by assumption)) | (with_reducible refine Below.drew ?_) | (with_reducible refine Base.below_drewN ?_ _) | (refine Below.from (below_one _) ?_) | (refine Below.from (below_conv _ _ _) ?_) | (refine Below.setCell ?_ (by simp <;> omega) _) | (refine Below.from (by assumption) ?_))))) HR.out).mono ?_); rintro e w1 ⟨rfl, p1⟩)
            | (go_at_call 6; (with_reducible refine (T1.out _ (HT.out.later (by (focus repeat (first | exact Below.refl _ _ | assumption | (exact Hid.out (by assumption)) | (with_reducible refine Below.drew ?_) | (with_reducible refine Base.below_drewN ?_ _) | (refine Below.from (below_one _) ?_) | (refine Below.from (below_conv _ _ _) ?_) | (refine Below.setCell ?_ (by simp <;> omega) _) | (refine Below.from (by assumption) ?_)))))).mono ?_); rintro e w2 ⟨ao2, cap2, rfl, hr2, hz2, hd1, hd2, p2⟩; have HR2 := Lib.hid hr2; have P2 := Lib.hid (p2.from p1); clear hr2)
            | (go_at_call 12; (with_reducible refine (K1.out _).mono ?_); rintro e w3 ⟨rfl, p3⟩)
            | (go_at_call 8; (with_reducible refine (rsame_any _ _ _ _ L1 l false _ (by omega) (by omega) (HR2.out.below tkC_length p3) (HR.out.below tkC_length (p3.from P2.out))).mono ?_); rintro e w4 ⟨rfl, p4⟩; rw [S1.out])
            | (go_at_call 6; (with_reducible refine (T2.out _ (HT.out.later (by (focus repeat (first | exact Below.refl _ _ | assumption | (exact Hid.out (by assumption)) | (with_reducible refine Below.drew ?_) | (with_reducible refine Base.below_drewN ?_ _) | (refine Below.from (below_one _) ?_) | (refine Below.from (below_conv _ _ _) ?_) | (refine Below.setCell ?_ (by simp <;> omega) _) | (refine Below.from (by assumption) ?_)))))).mono ?_); rintro e w5 ⟨ao5, cap5, rfl, hr5, hz5, he1, he2, p5⟩; have HR5 := Lib.hid hr5; have P5 := Lib.hid (p5.from (p4.from (p3.from P2.out))); clear hr5)
            | (go_at_call 11; (with_reducible refine (C2.out _ _ _ (HT.out.later (by (focus repeat (first | exact Below.refl _ _ | assumption | (exact Hid.out (by assumption)) | (with_reducible refine Below.drew ?_) | (with_reducible refine Base.below_drewN ?_ _) | (refine Below.from (below_one _) ?_) | (refine Below.from (below_conv _ _ _) ?_) | (refine Below.setCell ?_ (by simp <;> omega) _) | (refine Below.from (by assumption) ?_))))) HR5.out).mono ?_); rintro e w6 ⟨rfl, p6⟩)
            | (go_at_call 9; (with_reducible refine (awake_any _ (HT.out.later (by (focus repeat (first | exact Below.refl _ _ | assumption | (exact Hid.out (by assumption)) | (with_reducible refine Below.drew ?_) | (with_reducible refine Base.below_drewN ?_ _) | (refine Below.from (below_one _) ?_) | (refine Below.from (below_conv _ _ _) ?_) | (refine Below.setCell ?_ (by simp <;> omega) _) | (refine Below.from (by assumption) ?_)))))).mono ?_); rintro e w9 ⟨rfl, p9⟩)
            | fail)
          go_ret
          exact ⟨rfl, p9.from (p6.from P5.out)⟩
      · have te : (E2 != 0) = true := by rw [bne_iff_ne]; exact hE2
        have hL0 := HB2.out hE2
        subst hL0
        clear hE2
        go_enter Tryd.func4, Tryd.ntmps4
        go_wp2_with (first
          | (go_at_call 10; (with_reducible refine (CF.out _ HR.out).mono ?_); rintro e w' ⟨rfl, rfl⟩)
          | (go_at_call 11; (with_reducible refine (C1.out _ (HT.out.later (by (focus repeat (first | exact Below.refl _ _ | assumption | (exact Hid.out (by assumption)) | (with_reducible refine Below.drew ?_) | (with_reducible refine Base.below_drewN ?_ _) | (refine Below.from (below_one _) ?_) | (refine Below.from (below_conv _ _ _) ?_) | (refine Below.setCell ?_ (by simp <;> omega) _) | (refine Below.from (by assumption) ?_))))) HR.out).mono ?_); rintro e w1 ⟨rfl, p1⟩)
          | (go_at_call 6; (with_reducible refine (T1.out _ (HT.out.later (by (focus repeat (first | exact Below.refl _ _ | assumption | (exact Hid.out (by assumption)) | (with_reducible refine Below.drew ?_) | (with_reducible refine Base.below_drewN ?_ _) | (refine Below.from (below_one _) ?_) | (refine Below.from (below_conv _ _ _) ?_) | (refine Below.setCell ?_ (by simp <;> omega) _) | (refine Below.from (by assumption) ?_)))))).mono ?_); rintro e w2 ⟨ao2, cap2, rfl, hr2, hz2, hd1, hd2, p2⟩; have HR2 := Lib.hid hr2; have P2 := Lib.hid (p2.from p1); clear hr2)
          | (go_at_call 12; (with_reducible refine (K1.out _).mono ?_); rintro e w3 ⟨rfl, p3⟩)
          | (go_at_call 8; (with_reducible refine (rsame_any _ _ _ _ L1 l false _ (by omega) (by omega) (HR2.out.below tkC_length p3) (HR.out.below tkC_length (p3.from P2.out))).mono ?_); rintro e w4 ⟨rfl, p4⟩; rw [S1.out])
          | (go_at_call 6; (with_reducible refine (T2.out _ (HT.out.later (by (focus repeat (first | exact Below.refl _ _ | assumption | (exact Hid.out (by assumption)) | (with_reducible refine Below.drew ?_) | (with_reducible refine Base.below_drewN ?_ _) | (refine Below.from (below_one _) ?_) | (refine Below.from (below_conv _ _ _) ?_) | (refine Below.setCell ?_ (by simp <;> omega) _) | (refine Below.from (by assumption) ?_)))))).mono ?_); rintro e w5 ⟨ao5, cap5, rfl, hr5, hz5, he1, he2, p5⟩; have HR5 := Lib.hid hr5; have P5 := Lib.hid (p5.from (p4.from (p3.from P2.out))); clear hr5)
          | (go_at_call 9; (with_reducible refine (awake_any _ (HT.out.later (by (focus repeat (first | exact Below.refl _ _ | assumption | (exact Hid.out (by assumption)) | (with_reducible refine Below.drew ?_) | (with_reducible refine Base.below_drewN ?_ _) | (refine Below.from (below_one _) ?_) | (refine Below.from (below_conv _ _ _) ?_) | (refine Below.setCell ?_ (by simp <;> omega) _) | (refine Below.from (by assumption) ?_)))))).mono ?_); rintro e w9 ⟨rfl, p9⟩)
          | fail)
        go_ret
        exact ⟨rfl, p9.from P5.out⟩
    · have tj : (j2 == 0) = false := by rw [beq_eq_false_iff_ne]; exact hj2
      clear hjb
      by_cases hE2 : E2 = 0
      · subst hE2
        obtain ⟨hsm, hjo, hjb⟩ := HL2.out rfl
        have hn2 := HN2.out rfl
        have C2 := Lib.hid (fun w ao cap hT hr => ljoin_any ao cap L2 w hT (by omega) (fun t ht => ⟨by have := (hsm.2 t ht).1; omega, by have := (hsm.2 t ht).2; omega⟩) (fun t ht => by have := hn2 t ht; omega) hr)
        have hl2 := hsm.1
        clear hsm hn2
        obtain ⟨⟨j3, j4⟩, hJ2⟩ : ∃ J, J = jn L2 := ⟨_, rfl⟩
        rw [← hJ2] at C2 hjo hjb
        dsimp only at C2 hjo hjb
        rcases hjo with rfl | rfl
        · obtain ⟨b1, b2, b3, b4⟩ := hjb rfl
          have T3 := Lib.hid (fun w hT => tokens_any j3 (by unfold maxLen; omega) w hT)
          obtain ⟨⟨L3, N3, E3⟩, hA3⟩ : ∃ A, A = tkA j3 := ⟨_, rfl⟩
          rw [← hA3] at T3 b2 b3 b4
          unfold LineSays at T3
          dsimp only at T3 b2 b3 b4
          subst b2
          have S3 := Lib.hid b4
          clear hjb hJ2 hA3 b3 b4
          go_enter Tryd.func4, Tryd.ntmps4
          go_wp2_with (first
            | (go_at_call 10; (with_reducible refine (CF.out _ HR.out).mono ?_); rintro e w' ⟨rfl, rfl⟩)
            | (go_at_call 11; (with_reducible refine (C1.out _ (HT.out.later (by (focus repeat (first | exact Below.refl _ _ | assumption | (exact Hid.out (by assumption)) | (with_reducible refine Below.drew ?_) | (with_reducible refine Base.below_drewN ?_ _) | (refine Below.from (below_one _) ?_) | (refine Below.from (below_conv _ _ _) ?_) | (refine Below.setCell ?_ (by simp <;> omega) _) | (refine Below.from (by assumption) ?_))))) HR.out).mono ?_); rintro e w1 ⟨rfl, p1⟩)
            | (go_at_call 6; (with_reducible refine (T2.out _ (HT.out.later (by (focus repeat (first | exact Below.refl _ _ | assumption | (exact Hid.out (by assumption)) | (with_reducible refine Below.drew ?_) | (with_reducible refine Base.below_drewN ?_ _) | (refine Below.from (below_one _) ?_) | (refine Below.from (below_conv _ _ _) ?_) | (refine Below.setCell ?_ (by simp <;> omega) _) | (refine Below.from (by assumption) ?_)))))).mono ?_); rintro e w5 ⟨ao5, cap5, rfl, hr5, hz5, he1, he2, p5⟩; have HR5 := Lib.hid hr5; have P5 := Lib.hid (p5.from p1); clear hr5)
            | (go_at_call 11; (with_reducible refine (C2.out _ _ _ (HT.out.later (by (focus repeat (first | exact Below.refl _ _ | assumption | (exact Hid.out (by assumption)) | (with_reducible refine Below.drew ?_) | (with_reducible refine Base.below_drewN ?_ _) | (refine Below.from (below_one _) ?_) | (refine Below.from (below_conv _ _ _) ?_) | (refine Below.setCell ?_ (by simp <;> omega) _) | (refine Below.from (by assumption) ?_))))) HR5.out).mono ?_); rintro e w6 ⟨rfl, p6⟩)
            | (go_at_call 6; (with_reducible refine (T3.out _ (HT.out.later (by (focus repeat (first | exact Below.refl _ _ | assumption | (exact Hid.out (by assumption)) | (with_reducible refine Below.drew ?_) | (with_reducible refine Base.below_drewN ?_ _) | (refine Below.from (below_one _) ?_) | (refine Below.from (below_conv _ _ _) ?_) | (refine Below.setCell ?_ (by simp <;> omega) _) | (refine Below.from (by assumption) ?_)))))).mono ?_); rintro e w7 ⟨ao7, cap7, rfl, hr7, hz7, hf1, hf2, p7⟩; have HR7 := Lib.hid hr7; clear hr7)
            | (go_at_call 8; (with_reducible refine (rsame_any _ _ _ _ L3 L2 false _ (by omega) (by omega) HR7.out (HR5.out.below tkC_length (p7.from p6))).mono ?_); rintro e w8 ⟨rfl, p8⟩; rw [S3.out])
            | (go_at_call 9; (with_reducible refine (awake_any _ (HT.out.later (by (focus repeat (first | exact Below.refl _ _ | assumption | (exact Hid.out (by assumption)) | (with_reducible refine Below.drew ?_) | (with_reducible refine Base.below_drewN ?_ _) | (refine Below.from (below_one _) ?_) | (refine Below.from (below_conv _ _ _) ?_) | (refine Below.setCell ?_ (by simp <;> omega) _) | (refine Below.from (by assumption) ?_)))))).mono ?_); rintro e w9 ⟨rfl, p9⟩)
            | fail)
          go_ret
          exact ⟨rfl, p9.from (p8.from (p7.from (p6.from P5.out)))⟩
        · clear hjb hJ2
          go_enter Tryd.func4, Tryd.ntmps4
          go_wp2_with (first
            | (go_at_call 10; (with_reducible refine (CF.out _ HR.out).mono ?_); rintro e w' ⟨rfl, rfl⟩)
            | (go_at_call 11; (with_reducible refine (C1.out _ (HT.out.later (by (focus repeat (first | exact Below.refl _ _ | assumption | (exact Hid.out (by assumption)) | (with_reducible refine Below.drew ?_) | (with_reducible refine Base.below_drewN ?_ _) | (refine Below.from (below_one _) ?_) | (refine Below.from (below_conv _ _ _) ?_) | (refine Below.setCell ?_ (by simp <;> omega) _) | (refine Below.from (by assumption) ?_))))) HR.out).mono ?_); rintro e w1 ⟨rfl, p1⟩)
            | (go_at_call 6; (with_reducible refine (T2.out _ (HT.out.later (by (focus repeat (first | exact Below.refl _ _ | assumption | (exact Hid.out (by assumption)) | (with_reducible refine Below.drew ?_) | (with_reducible refine Base.below_drewN ?_ _) | (refine Below.from (below_one _) ?_) | (refine Below.from (below_conv _ _ _) ?_) | (refine Below.setCell ?_ (by simp <;> omega) _) | (refine Below.from (by assumption) ?_)))))).mono ?_); rintro e w5 ⟨ao5, cap5, rfl, hr5, hz5, he1, he2, p5⟩; have HR5 := Lib.hid hr5; have P5 := Lib.hid (p5.from p1); clear hr5)
            | (go_at_call 11; (with_reducible refine (C2.out _ _ _ (HT.out.later (by (focus repeat (first | exact Below.refl _ _ | assumption | (exact Hid.out (by assumption)) | (with_reducible refine Below.drew ?_) | (with_reducible refine Base.below_drewN ?_ _) | (refine Below.from (below_one _) ?_) | (refine Below.from (below_conv _ _ _) ?_) | (refine Below.setCell ?_ (by simp <;> omega) _) | (refine Below.from (by assumption) ?_))))) HR5.out).mono ?_); rintro e w6 ⟨rfl, p6⟩)
            | (go_at_call 9; (with_reducible refine (awake_any _ (HT.out.later (by (focus repeat (first | exact Below.refl _ _ | assumption | (exact Hid.out (by assumption)) | (with_reducible refine Below.drew ?_) | (with_reducible refine Base.below_drewN ?_ _) | (refine Below.from (below_one _) ?_) | (refine Below.from (below_conv _ _ _) ?_) | (refine Below.setCell ?_ (by simp <;> omega) _) | (refine Below.from (by assumption) ?_)))))).mono ?_); rintro e w9 ⟨rfl, p9⟩)
            | fail)
          go_ret
          exact ⟨rfl, p9.from (p6.from P5.out)⟩
      · have te : (E2 != 0) = true := by rw [bne_iff_ne]; exact hE2
        have hL0 := HB2.out hE2
        subst hL0
        clear hE2
        go_enter Tryd.func4, Tryd.ntmps4
        go_wp2_with (first
          | (go_at_call 10; (with_reducible refine (CF.out _ HR.out).mono ?_); rintro e w' ⟨rfl, rfl⟩)
          | (go_at_call 11; (with_reducible refine (C1.out _ (HT.out.later (by (focus repeat (first | exact Below.refl _ _ | assumption | (exact Hid.out (by assumption)) | (with_reducible refine Below.drew ?_) | (with_reducible refine Base.below_drewN ?_ _) | (refine Below.from (below_one _) ?_) | (refine Below.from (below_conv _ _ _) ?_) | (refine Below.setCell ?_ (by simp <;> omega) _) | (refine Below.from (by assumption) ?_))))) HR.out).mono ?_); rintro e w1 ⟨rfl, p1⟩)
          | (go_at_call 6; (with_reducible refine (T2.out _ (HT.out.later (by (focus repeat (first | exact Below.refl _ _ | assumption | (exact Hid.out (by assumption)) | (with_reducible refine Below.drew ?_) | (with_reducible refine Base.below_drewN ?_ _) | (refine Below.from (below_one _) ?_) | (refine Below.from (below_conv _ _ _) ?_) | (refine Below.setCell ?_ (by simp <;> omega) _) | (refine Below.from (by assumption) ?_)))))).mono ?_); rintro e w5 ⟨ao5, cap5, rfl, hr5, hz5, he1, he2, p5⟩; have HR5 := Lib.hid hr5; have P5 := Lib.hid (p5.from p1); clear hr5)
          | (go_at_call 9; (with_reducible refine (awake_any _ (HT.out.later (by (focus repeat (first | exact Below.refl _ _ | assumption | (exact Hid.out (by assumption)) | (with_reducible refine Below.drew ?_) | (with_reducible refine Base.below_drewN ?_ _) | (refine Below.from (below_one _) ?_) | (refine Below.from (below_conv _ _ _) ?_) | (refine Below.setCell ?_ (by simp <;> omega) _) | (refine Below.from (by assumption) ?_)))))).mono ?_); rintro e w9 ⟨rfl, p9⟩)
          | fail)
        go_ret
        exact ⟨rfl, p9.from P5.out⟩
end Go.Proofs.YtejppikbdplamaaDoor.Lex
