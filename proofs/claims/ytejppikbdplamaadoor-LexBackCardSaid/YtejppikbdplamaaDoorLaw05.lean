/-
  The walks of the statements of layer 5: 'awake', 'few', LexTokens, LexWritten.
-/
import Derived.Test.YtejppikbdplamaaDoorLexJnI
import Derived.Deep.RegionHeld3
namespace Go.Proofs.YtejppikbdplamaaDoor.Lex
open Go.RowKit
open Base Runes LexLib
set_option linter.unusedVariables false
set_option linter.unusedSimpArgs false

abbrev za : ByteArray := ⟨#[83, 117, 98, 109, 105, 116, 32, 97, 50, 32, 110, 111, 100, 101, 115, 61, 52, 32, 49, 104, 32, 34, 120, 32, 121, 34]⟩
abbrev zb : ByteArray := ⟨#[97, 32, 48, 48, 55]⟩
abbrev zc : ByteArray := ⟨#[97, 34, 98]⟩
abbrev zd : ByteArray := ⟨#[34, 97, 92, 34, 98, 34]⟩
abbrev zl : List Tok := [(1, ⟨#[115, 117, 98, 109, 105, 116]⟩, 0, 0), (1, ⟨#[97, 50]⟩, 0, 7), (1, ⟨#[110, 111, 100, 101, 115]⟩, 0, 10), (5, ⟨#[61]⟩, 0, 15), (2, ⟨#[]⟩, 4, 16), (3, ⟨#[49, 104]⟩, 0, 18), (4, ⟨#[120, 32, 121]⟩, 0, 21)]

set_option maxRecDepth 100000 in
set_option maxHeartbeats 4000000 in
theorem awake_any (w : World) (hT : Tb w) :
    Calls Tryd.prog 9 #[] w fun e w' => e = .returned (.bool true) ∧ Below w.heap.size w w' := by
  have e1 : tkA za = (zl, 26, 0) := by decide +kernel
  have e2 : tkA zb = ([], 2, 50) := by decide +kernel
  have e3 : txS (4, zc, 0, 0) = zd ∧ chE (4, zc, 0, 0) = 0 := by decide +kernel
  have e4 : chE (0, ⟨#[]⟩, 0, 0) = 50 := by decide +kernel
  have c1 := fun w hT => tokens_any za (by decide) w hT
  have c2 := fun w hT => tokens_any zb (by decide) w hT
  have c3 := fun w hT => ltext_any 4 zc 0 0 (by decide) (by decide) (by decide) w hT
  have c4 := fun w hT => lcheck_any 0 ⟨#[]⟩ 0 0 (by decide) (by decide) (by decide) w hT
  simp only [e1] at c1
  simp only [e2] at c2
  simp only [e3.1, e3.2] at c3
  simp only [e4] at c4
  unfold LineSays at c1 c2
  unfold tokV at c3 c4
  dsimp only at c1 c2 c3 c4
  have C1 := Lib.hid c1
  have C2 := Lib.hid c2
  have C3 := Lib.hid c3
  have C4 := Lib.hid c4
  have HT := Lib.hid hT
  clear c1 c2 c3 c4 e1 e2 e3 e4 hT
  go_enter Tryd.func9, Tryd.ntmps9
  go_wp2_with (first
    | (go_at_call 6; (with_reducible refine (C1.out _ (HT.out.later (by (focus repeat (first | exact Below.refl _ _ | assumption | (exact Hid.out (by assumption)) | (with_reducible refine Below.drew ?_) | (with_reducible refine Base.below_drewN ?_ _) | (refine Below.from (below_one _) ?_) | (refine Below.from (below_conv _ _ _) ?_) | (refine Below.setCell ?_ (by simp <;> omega) _) | (refine Below.from (by assumption) ?_)))))).mono ?_); rintro e w1 ⟨ao, cap, rfl, hr, hz, hc1, hc2, p1⟩; have HR := Lib.hid hr; clear hr)
    | (go_at_call 6; (with_reducible refine (C2.out _ (HT.out.later (by (focus repeat (first | exact Below.refl _ _ | assumption | (exact Hid.out (by assumption)) | (with_reducible refine Below.drew ?_) | (with_reducible refine Base.below_drewN ?_ _) | (refine Below.from (below_one _) ?_) | (refine Below.from (below_conv _ _ _) ?_) | (refine Below.setCell ?_ (by simp <;> omega) _) | (refine Below.from (by assumption) ?_)))))).mono ?_); rintro e w2 ⟨ao2, cap2, rfl, hr2, hz2, hd1, hd2, p2⟩; clear hr2)
    | (go_at_call 19; (with_reducible refine (C3.out _ (HT.out.later (by (focus repeat (first | exact Below.refl _ _ | assumption | (exact Hid.out (by assumption)) | (with_reducible refine Below.drew ?_) | (with_reducible refine Base.below_drewN ?_ _) | (refine Below.from (below_one _) ?_) | (refine Below.from (below_conv _ _ _) ?_) | (refine Below.setCell ?_ (by simp <;> omega) _) | (refine Below.from (by assumption) ?_)))))).mono ?_); rintro e w3 ⟨rfl, p3⟩; have hr3 := HR.out.below tkC_length (p3.from p2); obtain ⟨bb, bo, rfl, x00, x01, x02, x03⟩ := tok_cells (j := 0) hr3 (by simp); obtain ⟨bb2, bo2, hb2, x20, x21, x22, x23⟩ := tok_cells (j := 2) hr3 (by simp); obtain ⟨bb4, bo4, hb4, x40, x41, x42, x43⟩ := tok_cells (j := 4) hr3 (by simp); obtain ⟨bb5, bo5, hb5, x50, x51, x52, x53⟩ := tok_cells (j := 5) hr3 (by simp); obtain ⟨bb6, bo6, hb6, x60, x61, x62, x63⟩ := tok_cells (j := 6) hr3 (by simp); simp only [Option.some.injEq, Addr.mk.injEq, and_true] at hb2 hb4 hb5 hb6; obtain ⟨rfl, rfl⟩ := hb2; obtain ⟨rfl, rfl⟩ := hb4; obtain ⟨rfl, rfl⟩ := hb5; obtain ⟨rfl, rfl⟩ := hb6; clear hr3; simp at x00 x01 x20 x23 x40 x42 x50 x61; clear x02 x03 x21 x22 x41 x43 x51 x52 x53 x60 x62 x63)
    | (go_at_call 20; (with_reducible refine (C4.out _ (HT.out.later (by (focus repeat (first | exact Below.refl _ _ | assumption | (exact Hid.out (by assumption)) | (with_reducible refine Below.drew ?_) | (with_reducible refine Base.below_drewN ?_ _) | (refine Below.from (below_one _) ?_) | (refine Below.from (below_conv _ _ _) ?_) | (refine Below.setCell ?_ (by simp <;> omega) _) | (refine Below.from (by assumption) ?_)))))).mono ?_); rintro e w4 ⟨rfl, p4⟩)
    | fail)
  go_ret
  exact ⟨rfl, p4.from (p3.from (p2.from p1))⟩

/-! Few tokens, and short ones. -/

def fewB (l : List Tok) : Bool := decide (l.length ≤ 100 ∧ ∀ t ∈ l, t.2.1.size ≤ 500)

set_option maxHeartbeats 1000000 in
theorem few_any (ao : Option Addr) (cap : Nat) (l : List Tok) (w : World) (hl : l.length ≤ maxLen) (hz : ∀ t ∈ l, t.2.1.size ≤ maxLen) (hr : ReadsS 4 tkC w ao l) :
    Calls Tryd.prog 10 #[.slice ao l.length cap] w fun e w' => e = .returned (.bool (fewB l)) ∧ w = w' := by
  unfold maxLen at hl
  have HR := Lib.hid hr
  have HZ := Lib.hid hz
  clear hr hz
  obtain ⟨F, hF⟩ : ∃ F, F = fewB l := ⟨_, rfl⟩
  rw [← hF]
  unfold fewB at hF
  by_cases h100 : 100 < l.length
  · rw [decide_eq_false (by omega)] at hF
    have HF := Lib.hid hF
    clear hF
    go_enter Tryd.func10, Tryd.ntmps10
    go_wp2
    go_ret
    exact ⟨ret_bool HF.out.symm, rfl⟩
  · have HF := Lib.hid hF
    clear hF
    go_enter Tryd.func10, Tryd.ntmps10
    go_wp2
    go_loopw [3] (fun i wr => ∃ k : Nat, i = .int .i64 (k : Int) ∧ k ≤ l.length ∧ (∀ t ∈ l.take k, t.2.1.size ≤ 500) ∧ w = wr) (fun i _ => l.length - (intOf i).toNat)
    case atStart => exact ⟨0, rfl, Nat.zero_le _, by simp, rfl⟩
    case round =>
      obtain ⟨k, rfl, hk, hs, rfl⟩ := hrel
      have HS := Lib.hid hs
      clear hs
      by_cases hp : k < l.length
      · obtain ⟨bb, bo, rfl, b0, b1, b2, b3⟩ := tok_cells HR.out hp
        have hzz := HZ.out l[k] (List.getElem_mem hp)
        obtain ⟨s, hs⟩ : ∃ s, s = l[k].2.1 := ⟨_, rfl⟩
        rw [← hs] at b1 hzz
        have HSS := Lib.hid hs
        unfold maxLen at hzz
        clear b0 b2 b3 hs
        by_cases h5 : 500 < s.size
        · have HN : Hid (false = F) := Lib.hid (by
            rw [HF.out]; symm; rw [decide_eq_false_iff_not]; intro h
            have := h.2 l[k] (List.getElem_mem hp)
            rw [← HSS.out] at this; omega)
          go_wp2
          go_ret
          exact ⟨ret_bool HN.out, rfl⟩
        · have HN : Hid (∀ t ∈ l.take (k + 1), t.2.1.size ≤ 500) := Lib.hid (by
            intro t ht
            rw [List.take_succ_eq_append_getElem hp, List.mem_append, List.mem_singleton] at ht
            rcases ht with ht | rfl
            · exact HS.out t ht
            · rw [← HSS.out]; omega)
          go_wp2
          refine ⟨⟨k + 1, by go_num, by omega, HN.out, by first | rfl | trivial⟩, ?_⟩
          simp [intOf]; omega
      · have HN : Hid (true = F) := Lib.hid (by
          rw [HF.out]; symm; rw [decide_eq_true_iff]
          refine ⟨by omega, fun t ht => HS.out t ?_⟩
          rw [List.take_of_length_le (by omega)]; exact ht)
        go_wp2
        go_ret
        exact ⟨ret_bool HN.out, rfl⟩

set_option maxRecDepth 100000 in
set_option maxHeartbeats 2000000 in
theorem lexTokens_any (s : ByteArray) (hs : s.size ≤ maxLen) (w : World) (hT : Tb w) :
    Calls Tryd.prog 3 #[.string s] w fun e w' => e = .returned (.bool true) ∧ Below w.heap.size w w' := by
  have c1 := fun w hT => tokens_any s hs w hT
  have c2 := fun w => rtokens_any s hs w
  obtain ⟨⟨L, N, E⟩, hA⟩ : ∃ A, A = tkA s := ⟨_, rfl⟩
  simp only [← hA] at c1 c2
  unfold LineSays at c1 c2
  dsimp only at c1 c2
  have C1 := Lib.hid c1
  have C2 := Lib.hid c2
  have HT := Lib.hid hT
  clear c1 c2 hA hT
  go_enter Tryd.func3, Tryd.ntmps3
  go_wp2_with (first
    | (go_at_call 6; (with_reducible refine (C1.out _ (HT.out.later (by (focus repeat (first | exact Below.refl _ _ | assumption | (exact Hid.out (by assumption)) | (with_reducible refine Below.drew ?_) | (with_reducible refine Base.below_drewN ?_ _) | (refine Below.from (below_one _) ?_) | (refine Below.from (below_conv _ _ _) ?_) | (refine Below.setCell ?_ (by simp <;> omega) _) | (refine Below.from (by assumption) ?_)))))).mono ?_); rintro e w1 ⟨ao, cap, rfl, hr, hz, hc1, hc2, p1⟩; have HR := Lib.hid hr; clear hr)
    | (go_at_call 7; (with_reducible refine (C2.out _).mono ?_); rintro e w2 ⟨ao2, cap2, rfl, hr2, hz2, hd1, hd2, p2⟩; have HR2 := Lib.hid hr2; clear hr2)
    | (go_at_call 8; (with_reducible refine (rsame_any _ _ _ _ L L true _ (by omega) (by omega) (HR.out.below tkC_length p2) HR2.out).mono ?_); rintro e w3 ⟨rfl, p3⟩; rw [sameT_refl])
    | (go_at_call 9; (with_reducible refine (awake_any _ (HT.out.later (by (focus repeat (first | exact Below.refl _ _ | assumption | (exact Hid.out (by assumption)) | (with_reducible refine Below.drew ?_) | (with_reducible refine Base.below_drewN ?_ _) | (refine Below.from (below_one _) ?_) | (refine Below.from (below_conv _ _ _) ?_) | (refine Below.setCell ?_ (by simp <;> omega) _) | (refine Below.from (by assumption) ?_)))))).mono ?_); rintro e w4 ⟨rfl, p4⟩)
    | fail)
  go_ret
  exact ⟨rfl, p4.from (p3.from (p2.from p1))⟩

end Go.Proofs.YtejppikbdplamaaDoor.Lex
