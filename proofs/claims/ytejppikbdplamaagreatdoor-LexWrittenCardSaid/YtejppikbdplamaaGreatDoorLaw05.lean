/-
  The walks of the statements of layer 5: 'awake', 'few', LexTokens, LexWritten.
-/
import Derived.Test.YtejppikbdplamaaGreatDoorLexJnI
import Derived.Deep.RegionHeld3
namespace Go.Proofs.YtejppikbdplamaaGreatDoor.Lex
open Go.RowKit
open Base Runes LexLib
set_option linter.unusedVariables false
set_option linter.unusedSimpArgs false

abbrev za : ByteArray := ⟨#[83, 117, 98, 109, 105, 116, 32, 97, 50, 32, 110, 111, 100, 101, 115, 61, 52, 32, 49, 104, 32, 34, 120, 32, 121, 34]⟩
abbrev zb : ByteArray := ⟨#[97, 32, 48, 48, 55]⟩
abbrev zc : ByteArray := ⟨#[97, 34, 98]⟩
abbrev zd : ByteArray := ⟨#[34, 97, 92, 34, 98, 34]⟩
abbrev zl : List Tok := [(1, ⟨#[115, 117, 98, 109, 105, 116]⟩, 0, 0), (1, ⟨#[97, 50]⟩, 0, 7), (1, ⟨#[110, 111, 100, 101, 115]⟩, 0, 10), (5, ⟨#[61]⟩, 0, 15), (2, ⟨#[]⟩, 4, 16), (3, ⟨#[49, 104]⟩, 0, 18), (4, ⟨#[120, 32, 121]⟩, 0, 21)]

set_option maxRecDepth 100000 in
set_option maxHeartbeats 4000000 in
theorem awake_any (w : World) (hT : Tb w) :
    Calls Tryz.prog 5 #[] w fun e w' => e = .returned (.bool true) ∧ Below w.heap.size w w' := by
  have e1 : tkA za = (zl, 26, 0) := by decide +kernel
  have e2 : tkA zb = ([], 2, 50) := by decide +kernel
  have e3 : txS (4, zc, 0, 0) = zd ∧ chE (4, zc, 0, 0) = 0 := by decide +kernel
  have e4 : chE (0, ⟨#[]⟩, 0, 0) = 50 := by decide +kernel
  have c1 := fun w hT => tokens_any za (by decide) w hT
  have c2 := fun w hT => tokens_any zb (by decide) w hT
  have c3 := fun w hT => ltext_any 4 zc 0 0 (by decide) (by decide) (by decide) w hT
  have c4 := fun w hT => lcheck_any 0 ⟨#[]⟩ 0 0 (by decide) (by decide) (by decide) w hT
  simp only [e1] at c1
  simp only [e2] at c2
  simp only [e3.1, e3.2] at c3
  simp only [e4] at c4
  unfold LineSays at c1 c2
  unfold tokV at c3 c4
  dsimp only at c1 c2 c3 c4
  have C1 := Lib.hid c1
  have C2 := Lib.hid c2
  have C3 := Lib.hid c3
  have C4 := Lib.hid c4
  have HT := Lib.hid hT
  clear c1 c2 c3 c4 e1 e2 e3 e4 hT
  go_enter Tryz.func5, Tryz.ntmps5
  go_wp2_with (first
    | (go_at_call 12; (with_reducible refine (C1.out _ (HT.out.later (by (focus repeat (first | exact Below.refl _ _ | assumption | (exact Hid.out (by assumption)) | (with_reducible refine Below.drew ?_) | (with_reducible refine Base.below_drewN ?_ _) | (refine Below.from (below_one _) ?_) | (refine Below.from (below_conv _ _ _) ?_) | (refine Below.setCell ?_ (by simp <;> omega) _) | (refine Below.from (by assumption) ?_)))))).mono ?_); rintro e w1 ⟨ao, cap, rfl, hr, hz, hc1, hc2, p1⟩; have HR := Lib.hid hr; clear hr)
    | (go_at_call 12; (with_reducible refine (C2.out _ (HT.out.later (by (focus repeat (first | exact Below.refl _ _ | assumption | (exact Hid.out (by assumption)) | (with_reducible refine Below.drew ?_) | (with_reducible refine Base.below_drewN ?_ _) | (refine Below.from (below_one _) ?_) | (refine Below.from (below_conv _ _ _) ?_) | (refine Below.setCell ?_ (by simp <;> omega) _) | (refine Below.from (by assumption) ?_)))))).mono ?_); rintro e w2 ⟨ao2, cap2, rfl, hr2, hz2, hd1, hd2, p2⟩; clear hr2)
    | (go_at_call 8; (with_reducible refine (C3.out _ (HT.out.later (by (focus repeat (first | exact Below.refl _ _ | assumption | (exact Hid.out (by assumption)) | (with_reducible refine Below.drew ?_) | (with_reducible refine Base.below_drewN ?_ _) | (refine Below.from (below_one _) ?_) | (refine Below.from (below_conv _ _ _) ?_) | (refine Below.setCell ?_ (by simp <;> omega) _) | (refine Below.from (by assumption) ?_)))))).mono ?_); rintro e w3 ⟨rfl, p3⟩; have hr3 := HR.out.below tkC_length (p3.from p2); obtain ⟨bb, bo, rfl, x00, x01, x02, x03⟩ := tok_cells (j := 0) hr3 (by simp); obtain ⟨bb2, bo2, hb2, x20, x21, x22, x23⟩ := tok_cells (j := 2) hr3 (by simp); obtain ⟨bb4, bo4, hb4, x40, x41, x42, x43⟩ := tok_cells (j := 4) hr3 (by simp); obtain ⟨bb5, bo5, hb5, x50, x51, x52, x53⟩ := tok_cells (j := 5) hr3 (by simp); obtain ⟨bb6, bo6, hb6, x60, x61, x62, x63⟩ := tok_cells (j := 6) hr3 (by simp); simp only [Option.some.injEq, Addr.mk.injEq, and_true] at hb2 hb4 hb5 hb6; obtain ⟨rfl, rfl⟩ := hb2; obtain ⟨rfl, rfl⟩ := hb4; obtain ⟨rfl, rfl⟩ := hb5; obtain ⟨rfl, rfl⟩ := hb6; clear hr3; simp at x00 x01 x20 x23 x40 x42 x50 x61; clear x02 x03 x21 x22 x41 x43 x51 x52 x53 x60 x62 x63)
    | (go_at_call 10; (with_reducible refine (C4.out _ (HT.out.later (by (focus repeat (first | exact Below.refl _ _ | assumption | (exact Hid.out (by assumption)) | (with_reducible refine Below.drew ?_) | (with_reducible refine Base.below_drewN ?_ _) | (refine Below.from (below_one _) ?_) | (refine Below.from (below_conv _ _ _) ?_) | (refine Below.setCell ?_ (by simp <;> omega) _) | (refine Below.from (by assumption) ?_)))))).mono ?_); rintro e w4 ⟨rfl, p4⟩)
    | fail)
  go_ret
  exact ⟨rfl, p4.from (p3.from (p2.from p1))⟩

/-! Few tokens, and short ones. -/

def fewB (l : List Tok) : Bool := decide (l.length ≤ 100 ∧ ∀ t ∈ l, t.2.1.size ≤ 500)

set_option maxHeartbeats 1000000 in
theorem few_any (ao : Option Addr) (cap : Nat) (l : List Tok) (w : World) (hl : l.length ≤ maxLen) (hz : ∀ t ∈ l, t.2.1.size ≤ maxLen) (hr : ReadsS 4 tkC w ao l) :
    Calls Tryz.prog 4 #[.slice ao l.length cap] w fun e w' => e = .returned (.bool (fewB l)) ∧ w = w' := by
  unfold maxLen at hl
  have HR := Lib.hid hr
  have HZ := Lib.hid hz
  clear hr hz
  obtain ⟨F, hF⟩ : ∃ F, F = fewB l := ⟨_, rfl⟩
  rw [← hF]
  unfold fewB at hF
  by_cases h100 : 100 < l.length
  · rw [decide_eq_false (by omega)] at hF
    have HF := Lib.hid hF
    clear hF
    go_enter Tryz.func4, Tryz.ntmps4
    go_wp2
    go_ret
    exact ⟨ret_bool HF.out.symm, rfl⟩
  · have HF := Lib.hid hF
    clear hF
    go_enter Tryz.func4, Tryz.ntmps4
    go_wp2
    go_loopw [3] (fun i wr => ∃ k : Nat, i = .int .i64 (k : Int) ∧ k ≤ l.length ∧ (∀ t ∈ l.take k, t.2.1.size ≤ 500) ∧ w = wr) (fun i _ => l.length - (intOf i).toNat)
    case atStart => exact ⟨0, rfl, Nat.zero_le _, by simp, rfl⟩
    case round =>
      obtain ⟨k, rfl, hk, hs, rfl⟩ := hrel
      have HS := Lib.hid hs
      clear hs
      by_cases hp : k < l.length
      · obtain ⟨bb, bo, rfl, b0, b1, b2, b3⟩ := tok_cells HR.out hp
        have hzz := HZ.out l[k] (List.getElem_mem hp)
        obtain ⟨s, hs⟩ : ∃ s, s = l[k].2.1 := ⟨_, rfl⟩
        rw [← hs] at b1 hzz
        have HSS := Lib.hid hs
        unfold maxLen at hzz
        clear b0 b2 b3 hs
        by_cases h5 : 500 < s.size
        · have HN : Hid (false = F) := Lib.hid (by
            rw [HF.out]; symm; rw [decide_eq_false_iff_not]; intro h
            have := h.2 l[k] (List.getElem_mem hp)
            rw [← HSS.out] at this; omega)
          go_wp2
          go_ret
          exact ⟨ret_bool HN.out, rfl⟩
        · have HN : Hid (∀ t ∈ l.take (k + 1), t.2.1.size ≤ 500) := Lib.hid (by
            intro t ht
            rw [List.take_succ_eq_append_getElem hp, List.mem_append, List.mem_singleton] at ht
            rcases ht with ht | rfl
            · exact HS.out t ht
            · rw [← HSS.out]; omega)
          go_wp2
          refine ⟨⟨k + 1, by go_num, by omega, HN.out, by first | rfl | trivial⟩, ?_⟩
          simp [intOf]; omega
      · have HN : Hid (true = F) := Lib.hid (by
          rw [HF.out]; symm; rw [decide_eq_true_iff]
          refine ⟨by omega, fun t ht => HS.out t ?_⟩
          rw [List.take_of_length_le (by omega)]; exact ht)
        go_wp2
        go_ret
        exact ⟨ret_bool HN.out, rfl⟩

set_option maxRecDepth 100000 in
set_option maxHeartbeats 4000000 in
theorem lexWritten_any (ao : Option Addr) (len cap : Nat) (l : List Tok) (k : Int) (s : ByteArray) (n a : Int) (hs : s.size ≤ maxLen) (hn : n ≤ 9223372036854775807) (hn0 : -9223372036854775808 ≤ n) (w : World) (hT : Tb w)
    (hlen : l.length = len) (hl : len ≤ maxLen) (hz : ∀ t ∈ l, t.2.1.size ≤ maxLen ∧ t.2.2.1 ≤ 9223372036854775807) (hm : ∀ t ∈ l, -9223372036854775808 ≤ t.2.2.1) (hr : ReadsS 4 tkC w ao l) :
    Calls Tryz.prog 3 #[.slice ao len cap, tokV (k, s, n, a)] w fun e w' => e = .returned (.bool true) ∧ Below w.heap.size w w' := by
  subst hlen
  have HT := Lib.hid hT
  clear hT
  have cf := fun w hr => few_any ao cap l w hl (fun t ht => (hz t ht).1) hr
  have cg := fun ao cap w hr => few_any ao cap [((k, s, n, a) : Tok)] w (by unfold maxLen; simp) (by intro t ht; rw [List.mem_singleton] at ht; subst ht; exact hs) hr
  simp only [List.length_singleton] at cg
  unfold tokV
  dsimp only
  cases hfl : fewB l with
  | false =>
    simp only [hfl] at cf
    have CF := Lib.hid cf
    have HR := Lib.hid hr
    clear cf cg hr hfl hz hm
    go_enter Tryz.func3, Tryz.ntmps3
    go_wp2_with (first
      | (go_at_call 4; (with_reducible refine (CF.out _ (HR.out.below tkC_length (below_one _))).mono ?_); rintro e w' ⟨rfl, rfl⟩)
      | (go_at_call 5; (with_reducible refine (awake_any _ (HT.out.later (by (focus repeat (first | exact Below.refl _ _ | assumption | (exact Hid.out (by assumption)) | (with_reducible refine Below.drew ?_) | (with_reducible refine Base.below_drewN ?_ _) | (refine Below.from (below_one _) ?_) | (refine Below.from (below_conv _ _ _) ?_) | (refine Below.setCell ?_ (by simp <;> omega) _) | (refine Below.from (by assumption) ?_)))))).mono ?_); rintro e w4 ⟨rfl, p4⟩)
      | fail)
    go_ret
    refine ⟨rfl, ?_⟩
    (focus repeat (first | exact Below.refl _ _ | assumption | (exact Hid.out (by assumption)) | (with_reducible refine Below.drew ?_) | (with_reducible refine Base.below_drewN ?_ _) | (refine Below.from (below_one _) ?_) | (refine Below.from (below_conv _ _ _) ?_) | (refine Below.setCell ?_ (by simp <;> omega) _) | (refine Below.from (by assumption) ?_)))
  | true =>
    simp only [hfl] at cf
    have CF := Lib.hid cf
    have HR := Lib.hid hr
    unfold fewB at hfl
    rw [decide_eq_true_iff] at hfl
    have hz2 : ∀ t ∈ l, t.2.1.size ≤ 100000 ∧ t.2.2.1 ≤ 9223372036854775807 := fun t ht => ⟨by have := hfl.2 t ht; omega, (hz t ht).2⟩
    cases hft : fewB [((k, s, n, a) : Tok)] with
    | false =>
      simp only [hft] at cg
      have CG := Lib.hid cg
      clear cf cg hr hfl hz hz2 hft hm
      go_enter Tryz.func3, Tryz.ntmps3
      go_wp2_with (first
        | (go_at_call 4; (with_reducible refine (CF.out _ (HR.out.below tkC_length (below_one _))).mono ?_); rintro e w' ⟨rfl, rfl⟩)
        | (go_at_call 4; (with_reducible refine (CG.out _ _ _ (readsT_one (by simp) (k, s, n, a) _)).mono ?_); rintro e w' ⟨rfl, rfl⟩)
        | (go_at_call 5; (with_reducible refine (awake_any _ (HT.out.later (by (focus repeat (first | exact Below.refl _ _ | assumption | (exact Hid.out (by assumption)) | (with_reducible refine Below.drew ?_) | (with_reducible refine Base.below_drewN ?_ _) | (refine Below.from (below_one _) ?_) | (refine Below.from (below_conv _ _ _) ?_) | (refine Below.setCell ?_ (by simp <;> omega) _) | (refine Below.from (by assumption) ?_)))))).mono ?_); rintro e w4 ⟨rfl, p4⟩)
        | fail)
      go_ret
      refine ⟨rfl, ?_⟩
      (focus repeat (first | exact Below.refl _ _ | assumption | (exact Hid.out (by assumption)) | (with_reducible refine Below.drew ?_) | (with_reducible refine Base.below_drewN ?_ _) | (refine Below.from (below_one _) ?_) | (refine Below.from (below_conv _ _ _) ?_) | (refine Below.setCell ?_ (by simp <;> omega) _) | (refine Below.from (by assumption) ?_)))
    | true =>
      simp only [hft] at cg
      unfold fewB at hft
      rw [decide_eq_true_iff] at hft
      have hs5 : s.size ≤ 500 := hft.2 (k, s, n, a) (by simp)
      have CG := Lib.hid cg
      have c1 := fun w hT hr => ljoin_any ao cap l w hT (by omega) hz2 hm hr
      have c2 := fun w hr => rjoin_any ao cap l w (by omega) hz2 hr
      have c3 := fun w hT => ltext_any k s n a hs hn0 hn w hT
      have c4 := fun w => rtxt_any k s n a (by omega) hn w
      have c5 := fun w hT => lcheck_any k s n a hs hn0 hn w hT
      have c6 := fun w => rchk_any k s n a (by omega) hn w
      obtain ⟨j1, hj1⟩ : ∃ x, x = (jn l).1 := ⟨_, rfl⟩
      obtain ⟨j2, hj2⟩ : ∃ x, x = (jn l).2 := ⟨_, rfl⟩
      obtain ⟨t1, ht1⟩ : ∃ x, x = txS (k, s, n, a) := ⟨_, rfl⟩
      obtain ⟨t2, ht2⟩ : ∃ x, x = chE (k, s, n, a) := ⟨_, rfl⟩
      simp only [← hj1, ← hj2, ← ht1, ← ht2] at c1 c2 c3 c4 c5 c6
      unfold tokV at c3 c4 c5 c6
      dsimp only at c3 c4 c5 c6
      have C1 := Lib.hid c1
      have C2 := Lib.hid c2
      have C3 := Lib.hid c3
      have C4 := Lib.hid c4
      have C5 := Lib.hid c5
      have C6 := Lib.hid c6
      have es1 : (j1.toList == j1.toList) = true := by rw [beq_iff_eq]
      have es2 : (t1.toList == t1.toList) = true := by rw [beq_iff_eq]
      have es3 : (j2 == j2) = true := by rw [beq_iff_eq]
      have es4 : (t2 == t2) = true := by rw [beq_iff_eq]
      clear cf cg c1 c2 c3 c4 c5 c6 hr hfl hz hz2 hm hft hj1 hj2 ht1 ht2
      go_enter Tryz.func3, Tryz.ntmps3
      go_wp2_with (first
        | (go_at_call 4; (with_reducible refine (CF.out _ (HR.out.below tkC_length (below_one _))).mono ?_); rintro e w' ⟨rfl, rfl⟩)
        | (go_at_call 4; (with_reducible refine (CG.out _ _ _ (readsT_one (by simp) (k, s, n, a) _)).mono ?_); rintro e w' ⟨rfl, rfl⟩)
        | (go_at_call 6; (with_reducible refine (C1.out _ (HT.out.later (by (focus repeat (first | exact Below.refl _ _ | assumption | (exact Hid.out (by assumption)) | (with_reducible refine Below.drew ?_) | (with_reducible refine Base.below_drewN ?_ _) | (refine Below.from (below_one _) ?_) | (refine Below.from (below_conv _ _ _) ?_) | (refine Below.setCell ?_ (by simp <;> omega) _) | (refine Below.from (by assumption) ?_))))) (HR.out.below tkC_length (below_two _ _))).mono ?_); rintro e w1 ⟨rfl, p1⟩)
        | (go_at_call 7; (with_reducible refine (C2.out _ (HR.out.below tkC_length (p1.from (below_two _ _)))).mono ?_); rintro e w2 ⟨rfl, p2⟩; obtain ⟨q0, _⟩ := two_blocks (p2.from p1); obtain ⟨⟨r0, r1, r2, r3⟩, _⟩ := blk4 q0; clear q0)
        | (go_at_call 8; (with_reducible refine (C3.out _ (HT.out.later (by (focus repeat (first | exact Below.refl _ _ | assumption | (exact Hid.out (by assumption)) | (with_reducible refine Below.drew ?_) | (with_reducible refine Base.below_drewN ?_ _) | (refine Below.from (below_one _) ?_) | (refine Below.from (below_conv _ _ _) ?_) | (refine Below.setCell ?_ (by simp <;> omega) _) | (refine Below.from (by assumption) ?_)))))).mono ?_); rintro e w3 ⟨rfl, p3⟩; replace r0 := cell_below r0 p3; replace r1 := cell_below r1 p3; replace r2 := cell_below r2 p3; replace r3 := cell_below r3 p3)
        | (go_at_call 9; (with_reducible refine (C4.out _).mono ?_); rintro e w4 ⟨rfl, p4⟩; replace r0 := cell_below r0 p4; replace r1 := cell_below r1 p4; replace r2 := cell_below r2 p4; replace r3 := cell_below r3 p4)
        | fail)
      have hb4 : Below w.heap.size w w4 := p4.from (p3.from (p2.from (p1.from (below_two _ _))))
      go_region_held3 (fun W => W.cell? ⟨w.heap.size, 0, none⟩ = some (.int .i64 k) ∧ W.cell? ⟨w.heap.size, 1, none⟩ = some (.string s) ∧ W.cell? ⟨w.heap.size, 2, none⟩ = some (.int .i64 n) ∧ W.cell? ⟨w.heap.size, 3, none⟩ = some (.int .i64 a) ∧ Below w.heap.size w W)
        (first | exact ⟨r0, r1, r2, r3, hb4.drew⟩ | exact ⟨x0, x1, x2, x3, xb⟩ | go_keep)
        (first
          | (go_at_call 10; refine (C5.out _ (HT.out.later hb4.drew)).mono ?_; rintro e w5 ⟨rfl, p5⟩; have x0 := cell_below (w := w4.drew) r0 p5; have x1 := cell_below (w := w4.drew) r1 p5; have x2 := cell_below (w := w4.drew) r2 p5; have x3 := cell_below (w := w4.drew) r3 p5; have xb := Below.from p5 hb4.drew)
          | (go_at_call 11; refine (C6.out _).mono ?_; rintro e w6 ⟨rfl, p6⟩; replace x0 := cell_below x0 p6; replace x1 := cell_below x1 p6; replace x2 := cell_below x2 p6; replace x3 := cell_below x3 p6; replace xb := Below.from p6 xb)
          | (go_at_call 5; refine (awake_any _ (HT.out.later xb)).mono ?_; rintro e w7 ⟨rfl, p7⟩; replace x0 := cell_below x0 p7; replace x1 := cell_below x1 p7; replace x2 := cell_below x2 p7; replace x3 := cell_below x3 p7; replace xb := Below.from p7 xb))
      go_wp2
      go_ret
      refine ⟨rfl, ?_⟩
      first | assumption | (focus repeat (first | exact Below.refl _ _ | assumption | (exact Hid.out (by assumption)) | (with_reducible refine Below.drew ?_) | (with_reducible refine Base.below_drewN ?_ _) | (refine Below.from (below_one _) ?_) | (refine Below.from (below_conv _ _ _) ?_) | (refine Below.setCell ?_ (by simp <;> omega) _) | (refine Below.from (by assumption) ?_)))

end Go.Proofs.YtejppikbdplamaaGreatDoor.Lex
