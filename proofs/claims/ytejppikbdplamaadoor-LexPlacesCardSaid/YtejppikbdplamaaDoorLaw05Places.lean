/-
  The walk of LexPlaces.
-/
import Derived.Test.YtejppikbdplamaaDoorLaw05
import Derived.Test.YtejppikbdplamaaDoorLexAgain
namespace Go.Proofs.YtejppikbdplamaaDoor.Lex
open Go.RowKit
open Base Runes LexLib
set_option linter.unusedVariables false
set_option linter.unusedSimpArgs false

theorem ReadsS_take {k : Nat} {w : World} {a : Option Addr} {zs : List Tok} (h : ReadsS k tkC w a zs) (n : Nat) (hn : n ≤ zs.length) : ReadsS k tkC w a (zs.take n) := by
  rcases h with rfl | ⟨b, off, ha, hc⟩
  · left; simp
  · refine .inr ⟨b, off, ha, fun j hj i hi => ?_⟩
    rw [List.length_take] at hj
    rw [hc j (by omega) i hi, List.getElem_take]

set_option maxRecDepth 100000 in
set_option maxHeartbeats 4000000 in
theorem lexPlaces_any (s : ByteArray) (n : Int) (hs : s.size ≤ maxLen) (hn : n ≤ 9223372036854775807) (w : World) (hT : Tb w) :
    Calls Tryd.prog 5 #[.string s, .int .i64 n] w fun e w' => e = .returned (.bool true) ∧ Below w.heap.size w w' := by
  have HT := Lib.hid hT
  clear hT
  have T1 := Lib.hid (fun w hT => tokens_any s hs w hT)
  have HS := Lib.hid (fun h : (tkA s).2.2 = 0 => And.intro (line_small h).1 (show (tkA s).2.1 ≤ 400 from by rw [(tkA_toks h).2.2, rn_length]; have := cn_le s; have := (line_small h).1; omega))
  have HP := Lib.hid (fun h : (tkA s).2.2 = 0 => line_places h)
  have HF := Lib.hid (fun h : (tkA s).2.2 = 0 => line_ahead h)
  obtain ⟨⟨L, N, E⟩, hA⟩ : ∃ A, A = tkA s := ⟨_, rfl⟩
  rw [← hA] at T1 HS HP HF
  unfold LineSays at T1
  dsimp only at T1 HS HP HF
  clear hA
  by_cases hE : E = 0
  · subst hE
    obtain ⟨hs4, hN4⟩ := HS.out rfl
    have HP2 := Lib.hid (HP.out rfl)
    have HF2 := Lib.hid (HF.out rfl)
    clear HS HP HF
    by_cases hneg : n < 0
    · go_enter Tryd.func5, Tryd.ntmps5
      go_wp2_with (first
        | (go_at_call 6; (with_reducible refine (T1.out _ (HT.out.later (by (focus repeat (first | exact Below.refl _ _ | assumption | (exact Hid.out (by assumption)) | (with_reducible refine Below.drew ?_) | (with_reducible refine Base.below_drewN ?_ _) | (refine Below.from (below_one _) ?_) | (refine Below.from (below_conv _ _ _) ?_) | (refine Below.setCell ?_ (by simp <;> omega) _) | (refine Below.from (by assumption) ?_)))))).mono ?_); rintro e w1 ⟨ao, cap, rfl, hr, hz, hd1, hd2, p1⟩; have HR := Lib.hid hr; clear hr)
        | (go_at_call 9; (with_reducible refine (awake_any _ (HT.out.later (by (focus repeat (first | exact Below.refl _ _ | assumption | (exact Hid.out (by assumption)) | (with_reducible refine Below.drew ?_) | (with_reducible refine Base.below_drewN ?_ _) | (refine Below.from (below_one _) ?_) | (refine Below.from (below_conv _ _ _) ?_) | (refine Below.setCell ?_ (by simp <;> omega) _) | (refine Below.from (by assumption) ?_)))))).mono ?_); rintro e w9 ⟨rfl, p9⟩)
        | fail)
      go_ret
      exact ⟨rfl, p9.from p1⟩
    · obtain ⟨j, rfl⟩ := Int.eq_ofNat_of_zero_le (show 0 ≤ n by omega)
      by_cases hbig : ¬ j < L.length
      · go_enter Tryd.func5, Tryd.ntmps5
        go_wp2_with (first
          | (go_at_call 6; (with_reducible refine (T1.out _ (HT.out.later (by (focus repeat (first | exact Below.refl _ _ | assumption | (exact Hid.out (by assumption)) | (with_reducible refine Below.drew ?_) | (with_reducible refine Base.below_drewN ?_ _) | (refine Below.from (below_one _) ?_) | (refine Below.from (below_conv _ _ _) ?_) | (refine Below.setCell ?_ (by simp <;> omega) _) | (refine Below.from (by assumption) ?_)))))).mono ?_); rintro e w1 ⟨ao, cap, rfl, hr, hz, hd1, hd2, p1⟩; have HR := Lib.hid hr; clear hr)
          | (go_at_call 9; (with_reducible refine (awake_any _ (HT.out.later (by (focus repeat (first | exact Below.refl _ _ | assumption | (exact Hid.out (by assumption)) | (with_reducible refine Below.drew ?_) | (with_reducible refine Base.below_drewN ?_ _) | (refine Below.from (below_one _) ?_) | (refine Below.from (below_conv _ _ _) ?_) | (refine Below.setCell ?_ (by simp <;> omega) _) | (refine Below.from (by assumption) ?_)))))).mono ?_); rintro e w9 ⟨rfl, p9⟩)
          | fail)
        go_ret
        exact ⟨rfl, p9.from p1⟩
      · have hj : j < L.length := by omega
        clear hbig hneg
        have hpj := HP2.out.1 L[j] (List.getElem_mem hj)
        obtain ⟨m, hm⟩ := Int.eq_ofNat_of_zero_le hpj.1
        obtain ⟨hk, hF⟩ := HF2.out j hj m hm
        have HM := Lib.hid hm
        have hcs : (cuA s (m : Int)).size ≤ 400 := (tkA_toks (by rw [hF])).1
        have hmb : m < N := by omega
        have CU := Lib.hid (fun w => cut_any s (by omega) (m : Int) (by have := hpj.2; omega) w)
        have hlj : (L.take j).length = j := by rw [List.length_take]; omega
        obtain ⟨X, hX⟩ : ∃ X, X = cuA s (m : Int) := ⟨_, rfl⟩
        obtain ⟨Y, hY⟩ : ∃ Y, Y = cuB s (m : Int) := ⟨_, rfl⟩
        rw [hk, ← hX, ← hY] at CU
        rw [← hX] at hF hcs
        have c2 := fun w hT => tokens_any X (by unfold maxLen; omega) w hT
        rw [hF] at c2
        unfold LineSays at c2
        dsimp only at c2
        simp only [hlj] at c2
        have T2 := Lib.hid c2
        have sm := fun w ao5 cap5 ao cap hr1 hr2 => rsame_any ao5 ao cap5 cap (L.take j) (L.take j) true w (by rw [hlj]; unfold maxLen; omega) (by rw [hlj]; unfold maxLen; omega) hr1 hr2
        simp only [sameT_refl, hlj] at sm
        have SM := Lib.hid sm
        clear c2 sm hF hX hY hk hm hpj HF2 hcs
        go_enter Tryd.func5, Tryd.ntmps5
        go_wp2_with (first
          | (go_at_call 6; (with_reducible refine (T1.out _ (HT.out.later (by (focus repeat (first | exact Below.refl _ _ | assumption | (exact Hid.out (by assumption)) | (with_reducible refine Below.drew ?_) | (with_reducible refine Base.below_drewN ?_ _) | (refine Below.from (below_one _) ?_) | (refine Below.from (below_conv _ _ _) ?_) | (refine Below.setCell ?_ (by simp <;> omega) _) | (refine Below.from (by assumption) ?_)))))).mono ?_); rintro e w1 ⟨ao, cap, rfl, hr, hz, hd1, hd2, p1⟩; have HR := Lib.hid hr; clear hr)
          | fail)
        have P1 := Lib.hid p1
        clear p1
        go_loopw [8] (fun i wr => ∃ k : Nat, i = .int .i64 (k : Int) ∧ k ≤ L.length ∧ Below w1.heap.size w1 wr) (fun i _ => L.length - (intOf i).toNat)
        case atStart => exact ⟨0, rfl, Nat.zero_le _, Below.refl _ _⟩
        case round =>
          obtain ⟨k, rfl, hk, hb⟩ := hrel
          have HB := Lib.hid hb
          have HBW := Lib.hid (Below.from hb P1.out)
          have HRW := Lib.hid (HR.out.below tkC_length hb)
          clear hb
          by_cases hp : k < L.length
          · obtain ⟨bb, bo, rfl, b0, b1, b2, b3⟩ := tok_cells HRW.out hp
            have hpk := HP2.out.1 L[k] (List.getElem_mem hp)
            have HLT := Lib.hid (fun (i : Nat) (hi : i < k) => HP2.out.2 i k (by omega) hp hi)
            obtain ⟨x, hx⟩ : ∃ x, x = L[k].2.2.2 := ⟨_, rfl⟩
            rw [← hx] at b3 hpk HLT
            clear b0 b1 b2 hx
            have t1 : decide (x < (0 : Int)) = false := by rw [decide_eq_false_iff_not]; omega
            have t2 : decide ((N : Int) ≤ x) = false := by rw [decide_eq_false_iff_not]; omega
            clear hpk
            have hLm : L.length ≤ 9223372036854775807 := by unfold maxLen at hd2; omega
            have hlow : (0 : Int) ≤ (k : Int) := by omega
            have hup : (k : Int) < ((L.length : Nat) : Int) := by omega
            by_cases hk0 : k = 0
            · have t3 : decide ((0 : Int) < (k : Int)) = false := by rw [decide_eq_false_iff_not]; omega
              have t5 : decide (0 < k) = false := by rw [decide_eq_false_iff_not]; omega
              have HK0 := Lib.hid hk0
              clear hk0
              go_wp2
              go_quiet (fail)
              go_wp2
              refine ⟨⟨k + 1, by go_num, by omega, Base.below_drewN HB.out _⟩, ?_⟩
              simp [intOf]; omega
            · obtain ⟨k', hk'⟩ : ∃ k', k = k' + 1 := ⟨k - 1, by omega⟩
              have t3 : decide ((0 : Int) < (k : Int)) = true := by rw [decide_eq_true_iff]; omega
              have t5 : decide (0 < k) = true := by rw [decide_eq_true_iff]; omega
              obtain ⟨bb', bo', hbb, c0, c1, c2, c3⟩ := tok_cells (j := k') HRW.out (by omega)
              obtain ⟨rfl, rfl⟩ : bb = bb' ∧ bo = bo' := by simpa using hbb
              have hlt := HLT.out k' (by omega)
              obtain ⟨y, hy⟩ : ∃ y, y = L[k'].2.2.2 := ⟨_, rfl⟩
              rw [← hy] at c3 hlt
              have t4 : decide (x ≤ y) = false := by rw [decide_eq_false_iff_not]; omega
              have hw1 : IntKind.i64.wrap ((k : Int) - 1) = (k' : Int) := by simp only [IntKind.wrap_i64]; omega
              have hlow2 : (0 : Int) ≤ (k' : Int) := by omega
              have hup2 : (k' : Int) < ((L.length : Nat) : Int) := by omega
              clear c0 c1 c2 hy hbb hk' hk0 hlt
              go_wp2
              go_quiet (fail)
              go_wp2
              refine ⟨⟨k + 1, by go_num, by omega, Base.below_drewN HB.out _⟩, ?_⟩
              simp [intOf]; omega
          · obtain ⟨bb, bo, rfl, b0, b1, b2, b3⟩ := tok_cells HRW.out hj
            rw [HM.out] at b3
            clear b0 b1 b2
            have hlow : (0 : Int) ≤ (j : Int) := by omega
            have hup : (j : Int) < ((L.length : Nat) : Int) := by omega
            go_wp2_with (first
              | (go_at_call 13; (with_reducible refine (CU.out _).mono ?_); rintro e w2 ⟨rfl, p2⟩)
              | (go_at_call 6; (with_reducible refine (T2.out _ (HT.out.later (by (focus repeat (first | exact Below.refl _ _ | assumption | (exact Hid.out (by assumption)) | (with_reducible refine Below.drew ?_) | (with_reducible refine Base.below_drewN ?_ _) | (refine Below.from (below_one _) ?_) | (refine Below.from (below_conv _ _ _) ?_) | (refine Below.setCell ?_ (by simp <;> omega) _) | (refine Below.from (by assumption) ?_)))))).mono ?_); rintro e w3 ⟨ao3, cap3, rfl, hr3, hz3, hd1, hd2, p3⟩; have HR3 := Lib.hid hr3; clear hr3; replace b3 := cell_below b3 (p3.from p2))
              | (go_at_call 8; (with_reducible refine (SM.out _ _ _ _ _ HR3.out (ReadsS_take (HRW.out.below tkC_length (p3.from p2)) j (by omega))).mono ?_); rintro e w4 ⟨rfl, p4⟩)
              | (go_at_call 9; (with_reducible refine (awake_any _ (HT.out.later (by (focus repeat (first | exact Below.refl _ _ | assumption | (exact Hid.out (by assumption)) | (with_reducible refine Below.drew ?_) | (with_reducible refine Base.below_drewN ?_ _) | (refine Below.from (below_one _) ?_) | (refine Below.from (below_conv _ _ _) ?_) | (refine Below.setCell ?_ (by simp <;> omega) _) | (refine Below.from (by assumption) ?_)))))).mono ?_); rintro e w9 ⟨rfl, p9⟩)
              | fail)
            go_ret
            exact ⟨rfl, p9.from (p4.from (p3.from (p2.from (HB.out.from P1.out))))⟩
  · have te : (E != 0) = true := by rw [bne_iff_ne]; exact hE
    clear HS HP HF hE
    go_enter Tryd.func5, Tryd.ntmps5
    go_wp2_with (first
      | (go_at_call 6; (with_reducible refine (T1.out _ (HT.out.later (by (focus repeat (first | exact Below.refl _ _ | assumption | (exact Hid.out (by assumption)) | (with_reducible refine Below.drew ?_) | (with_reducible refine Base.below_drewN ?_ _) | (refine Below.from (below_one _) ?_) | (refine Below.from (below_conv _ _ _) ?_) | (refine Below.setCell ?_ (by simp <;> omega) _) | (refine Below.from (by assumption) ?_)))))).mono ?_); rintro e w1 ⟨ao, cap, rfl, hr, hz, hd1, hd2, p1⟩; have HR := Lib.hid hr; clear hr)
      | (go_at_call 9; (with_reducible refine (awake_any _ (HT.out.later (by (focus repeat (first | exact Below.refl _ _ | assumption | (exact Hid.out (by assumption)) | (with_reducible refine Below.drew ?_) | (with_reducible refine Base.below_drewN ?_ _) | (refine Below.from (below_one _) ?_) | (refine Below.from (below_conv _ _ _) ?_) | (refine Below.setCell ?_ (by simp <;> omega) _) | (refine Below.from (by assumption) ?_)))))).mono ?_); rintro e w9 ⟨rfl, p9⟩)
      | fail)
    go_ret
    exact ⟨rfl, p9.from p1⟩

end Go.Proofs.YtejppikbdplamaaDoor.Lex
