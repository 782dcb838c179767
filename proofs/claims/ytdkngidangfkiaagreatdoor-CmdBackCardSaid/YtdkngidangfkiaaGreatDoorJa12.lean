/-
  Joined out of: Layer 8, plain: the fixed examples of the statements. The walks of the program's written tokens: whether they may be, and each one's text.
-/
import Derived.Test.YtdkngidangfkiaaGreatDoorJa11
import Derived.Test.YtdkngidangfkiaaGreatDoorJa08
import Derived.Laws.StructEq
namespace Go.Proofs.YtdkngidangfkiaaGreatDoor.Cmd
open Go.RowKit
open Base Runes Lex
set_option linter.unusedVariables false
def awC : Co := ⟨1, 0, ⟨#[97]⟩, ⟨#[117]⟩, ⟨#[120]⟩, 1, [(2, 90)], 0, 0, 0, 0, false, 0, false, [], 0, 0, 0⟩
set_option maxRecDepth 100000 in
theorem aw_read : parseC ⟨#[115, 117, 98, 109, 105, 116, 32, 97, 32, 117, 115, 101, 114, 61, 117, 32, 97, 99, 99, 111, 117, 110, 116, 61, 120, 32, 110, 111, 100, 101, 115, 61, 50, 32, 116, 105, 109, 101, 61, 57, 48]⟩ = (awC, 41, 0) := by kernel_rfl
set_option maxRecDepth 100000 in
theorem aw_two : parseC ⟨#[99, 97, 110, 99, 101, 108, 32, 53, 32, 54]⟩ = (zCo 0, 9, 80) := by kernel_rfl
set_option maxRecDepth 100000 in
theorem aw_end : parseC ⟨#[99, 97, 110, 99, 101, 108]⟩ = (zCo 0, 6, 80) := by kernel_rfl
theorem aw_nil : chkC (zCo 0) = 80 := by kernel_rfl
set_option maxRecDepth 100000 in
theorem aw_show : showC awC = (⟨#[115, 117, 98, 109, 105, 116, 32, 97, 32, 117, 115, 101, 114, 61, 117, 32, 97, 99, 99, 111, 117, 110, 116, 61, 120, 32, 110, 111, 100, 101, 115, 61, 50, 32, 116, 105, 109, 101, 61, 49, 109, 51, 48, 115]⟩, 0) := by kernel_rfl
end Go.Proofs.YtdkngidangfkiaaGreatDoor.Cmd
namespace Go.Proofs.YtdkngidangfkiaaGreatDoor.Lex
open Go.RowKit
open Base Runes LexLib
set_option linter.unusedVariables false
set_option linter.unusedSimpArgs false
set_option maxRecDepth 100000 in
set_option maxHeartbeats 1000000 in
theorem written_any (k : Int) (s : ByteArray) (n a : Int) (hs : s.size ≤ 1000000) (h0 : -9223372036854775808 ≤ n) (hn : n ≤ 9223372036854775807) (w : World) (hT : Tb w) :
    Calls Tryz.prog 112 #[tokV (k, s, n, a)] w fun e w' => e = .returned (.string (wrI (k, s, n, a))) ∧ Below w.heap.size w w' := by
  unfold tokV
  have HT := Lib.hid hT
  clear hT
  by_cases h2 : k = 2
  · have HW : Hid (itB n = wrI (k, s, n, a)) := Lib.hid (by unfold wrI; rw [if_pos h2])
    have t2 : (k == 2) = true := by rw [beq_iff_eq]; exact h2
    have C1 := Lib.hid (fun w hT => itoa_any n h0 hn w hT)
    clear h2
    go_enter Tryz.func112, Tryz.ntmps112
    go_wp2_with (first
      | (go_at_call 44; (with_reducible refine (C1.out _ (HT.out.later (below_one _))).mono ?_); rintro e w1 ⟨rfl, p1⟩)
      | fail)
    go_ret
    refine ⟨ret_str HW.out, ?_⟩
    (focus repeat (first | exact Below.refl _ _ | assumption | (exact Hid.out (by assumption)) | (with_reducible refine Below.drew ?_) | (with_reducible refine Base.below_drewN ?_ _) | (refine Below.from (below_one _) ?_) | (refine Below.from (below_conv _ _ _) ?_) | (refine Below.setCell ?_ (by simp <;> omega) _) | (refine Below.from (by assumption) ?_)))
  · have t2 : (k == 2) = false := by rw [beq_eq_false_iff_ne]; exact h2
    by_cases h4 : k = 4
    · have HW : Hid (qtS s = wrI (k, s, n, a)) := Lib.hid (by unfold wrI; rw [if_neg h2, if_pos h4])
      have t4 : (k == 4) = true := by rw [beq_iff_eq]; exact h4
      clear h2 h4
      go_enter Tryz.func112, Tryz.ntmps112
      go_wp2_with (first
        | (go_at_call 146; (with_reducible refine (quote_any s hs _).mono ?_); rintro e w1 ⟨rfl, p1⟩)
        | fail)
      go_ret
      refine ⟨ret_str HW.out, ?_⟩
      (focus repeat (first | exact Below.refl _ _ | assumption | (exact Hid.out (by assumption)) | (with_reducible refine Below.drew ?_) | (with_reducible refine Base.below_drewN ?_ _) | (refine Below.from (below_one _) ?_) | (refine Below.from (below_conv _ _ _) ?_) | (refine Below.setCell ?_ (by simp <;> omega) _) | (refine Below.from (by assumption) ?_)))
    · have HW : Hid (s = wrI (k, s, n, a)) := Lib.hid (by unfold wrI; rw [if_neg h2, if_neg h4])
      have t4 : (k == 4) = false := by rw [beq_eq_false_iff_ne]; exact h4
      clear h2 h4
      go_enter Tryz.func112, Tryz.ntmps112
      go_wp2_with (first
        | (go_at_call 93; (with_reducible refine (strClone_any s hs _).mono ?_); rintro e w1 ⟨rfl, p1⟩)
        | fail)
      go_ret
      refine ⟨ret_str HW.out, ?_⟩
      (focus repeat (first | exact Below.refl _ _ | assumption | (exact Hid.out (by assumption)) | (with_reducible refine Below.drew ?_) | (with_reducible refine Base.below_drewN ?_ _) | (refine Below.from (below_one _) ?_) | (refine Below.from (below_conv _ _ _) ?_) | (refine Below.setCell ?_ (by simp <;> omega) _) | (refine Below.from (by assumption) ?_)))
set_option maxRecDepth 100000 in
theorem run_tok_neq (W : World) (k' n' a' k n a : Int) (s' s : ByteArray) : (binOp .neq 96 (.agg #[.int .i64 k', .string s', .int .i64 n', .int .i64 a']) (.agg #[.int .i64 k, .string s, .int .i64 n, .int .i64 a])).run Tryz.prog W = .ok (.bool (!decide ((k', s', n', a') = (k, s, n, a)))) W := by
  rw [run_neq_struct, run_equalIn_agg (ht := by simp [Program.fieldsOf, Tryz.underlying96]) (hp := by kernel_rfl)]
  simp only [Program.fieldsOf, Tryz.underlying96, Op.eqFields]
  have hs : (s'.toList = s.toList) = (s' = s) := by
    apply propext
    have := str_eq s' s
    rw [Bool.eq_iff_iff, beq_iff_eq, decide_eq_true_iff] at this
    exact this
  simp [go_sem, Tryz.underlying3, Tryz.underlying9, hs]
  by_cases h1 : k' = k
  · by_cases h2 : s' = s
    · by_cases h3 : n' = n
      · by_cases h4 : a' = a <;> simp [h1, h2, h3, h4]
      · simp [h1, h2, h3]
    · simp [h1, h2]
  · simp [h1]
theorem run_tok_guard (W : World) (x y : Operand) (xs ys : Array Value) : (eqGuard .neq 96 x y (.agg xs) (.agg ys)).run Tryz.prog W = .ok () W := run_eqGuard_agg W _ _ x y xs ys (by kernel_rfl)
theorem ltx_no {t : Tok} (h : chE t = 50) : Ending.returned (.tuple #[.string ⟨#[]⟩, .int .i64 50]) = .returned (.tuple #[.string (txS t), .int .i64 (chE t)]) := by rw [h, ← txS_no h]
theorem ltx_yes {t : Tok} {W : ByteArray} (h : chE t = 0) (hW : W = wrB t) : Ending.returned (.tuple #[.string W, .int .i64 0]) = .returned (.tuple #[.string (txS t), .int .i64 (chE t)]) := by rw [h, ← txS_yes h, hW]
set_option maxRecDepth 100000 in
set_option maxHeartbeats 4000000 in
theorem ltext_any (k : Int) (s : ByteArray) (n a : Int) (hs : s.size ≤ maxLen) (h0 : -9223372036854775808 ≤ n) (hn : n ≤ 9223372036854775807) (w : World) (hT : Tb w) :
    Calls Tryz.prog 73 #[tokV (k, s, n, a)] w fun e w' => e = .returned (.tuple #[.string (txS (k, s, n, a)), .int .i64 (chE (k, s, n, a))]) ∧ Below w.heap.size w w' := by
  unfold maxLen at hs
  have HT := Lib.hid hT
  clear hT
  by_cases hbig : 400 < s.size
  · have HX := Lib.hid (ltx_no (t := (k, s, n, a)) (chE_long hbig))
    unfold tokV
    dsimp only
    go_enter Tryz.func73, Tryz.ntmps73
    go_wp2
    go_ret2
    refine ⟨HX.out, ?_⟩
    (focus repeat (first | exact Below.refl _ _ | assumption | (exact Hid.out (by assumption)) | (with_reducible refine Below.drew ?_) | (with_reducible refine Base.below_drewN ?_ _) | (refine Below.from (below_one _) ?_) | (refine Below.from (below_conv _ _ _) ?_) | (refine Below.setCell ?_ (by simp <;> omega) _) | (refine Below.from (by assumption) ?_)))
  · have c1 := fun w hT => written_any k s n a (by omega) h0 hn w hT
    obtain ⟨hyes, hno⟩ := chI k s n a hn
    have hWs := wrI_size (k, s, n, a) h0 hn
    dsimp only at hWs
    obtain ⟨W, hW⟩ : ∃ W, W = wrI (k, s, n, a) := ⟨_, rfl⟩
    rw [← hW] at hyes hno hWs
    simp only [← hW] at c1
    have c2 := fun w hT => tokens_new W (by unfold maxLen; omega) w hT
    have hch := chE_or (k, s, n, a)
    have hXy : chE (k, s, n, a) = 0 → W = wrB (k, s, n, a) → Ending.returned (.tuple #[.string W, .int .i64 0]) = .returned (.tuple #[.string (txS (k, s, n, a)), .int .i64 (chE (k, s, n, a))]) := ltx_yes
    have hXn : chE (k, s, n, a) = 50 → Ending.returned (.tuple #[.string ⟨#[]⟩, .int .i64 50]) = .returned (.tuple #[.string (txS (k, s, n, a)), .int .i64 (chE (k, s, n, a))]) := ltx_no
    obtain ⟨⟨L, N, E⟩, hA⟩ : ∃ A, A = tkA W := ⟨_, rfl⟩
    rw [← hA] at hyes hno
    simp only [← hA] at c2
    dsimp only at hyes hno
    unfold LineNew at c2
    unfold tokV at c1 ⊢
    dsimp only at c1 c2 ⊢
    obtain ⟨x1, hx1⟩ : ∃ x, x = txS (k, s, n, a) := ⟨_, rfl⟩
    obtain ⟨x2, hx2⟩ : ∃ x, x = chE (k, s, n, a) := ⟨_, rfl⟩
    rw [← hx1, ← hx2] at hXy hXn ⊢
    rw [← hx2] at hyes hno hch
    obtain ⟨B, hB⟩ : ∃ B, B = wrB (k, s, n, a) := ⟨_, rfl⟩
    rw [← hB] at hyes hXy
    have C1 := Lib.hid c1
    have C2 := Lib.hid c2
    have HY := Lib.hid hyes
    have HN := Lib.hid hno
    have HXY := Lib.hid hXy
    have HXN := Lib.hid hXn
    have HCH := Lib.hid hch
    have hd : decide ((s.size : Int) > 400) = false := by rw [decide_eq_false_iff_not]; omega
    clear c1 c2 hA hW hWs hyes hno hXy hXn hx1 hx2 hB hch
    by_cases hE : E = 0
    · subst hE
      by_cases hL : L.length = 1
      · obtain ⟨⟨k', s', n', a'⟩, rfl⟩ : ∃ x, L = [x] := by
          match L, hL with
          | [x], _ => exact ⟨x, rfl⟩
        clear hL
        go_enter Tryz.func73, Tryz.ntmps73
        go_wp2_with (first
          | (go_at_call 112; (with_reducible refine (C1.out _ (HT.out.later (by (focus repeat (first | exact Below.refl _ _ | assumption | (exact Hid.out (by assumption)) | (with_reducible refine Below.drew ?_) | (with_reducible refine Base.below_drewN ?_ _) | (refine Below.from (below_one _) ?_) | (refine Below.from (below_conv _ _ _) ?_) | (refine Below.setCell ?_ (by simp <;> omega) _) | (refine Below.from (by assumption) ?_)))))).mono ?_); rintro e w1 ⟨rfl, p1⟩)
          | (go_at_call 39; (with_reducible refine (C2.out _ (HT.out.later (by (focus repeat (first | exact Below.refl _ _ | assumption | (exact Hid.out (by assumption)) | (with_reducible refine Below.drew ?_) | (with_reducible refine Base.below_drewN ?_ _) | (refine Below.from (below_one _) ?_) | (refine Below.from (below_conv _ _ _) ?_) | (refine Below.setCell ?_ (by simp <;> omega) _) | (refine Below.from (by assumption) ?_)))))).mono ?_); rintro e w2 ⟨ao, cap, rfl, hr, hz, hc1, hc2, p2, hnew⟩; obtain ⟨bb, bo, rfl, b0, b1, b2, b3⟩ := tok_cells (j := 0) hr (by simp); simp only [Nat.zero_mul, Nat.add_zero, List.getElem_cons_zero] at b0 b1 b2 b3; obtain ⟨⟨r0, r1, r2, r3⟩, f0, f1, f2, f3⟩ := tok_block rfl (p2.from p1); clear hr)
          | fail)
        have hs1 := p1.size
        have hs1 : w.heap.size + 1 ≤ w1.heap.size := by simpa using hs1
        have hbb := hnew bb bo rfl
        have V0 := (World.cell?_setCell_other w2 ⟨w.heap.size, 3, none⟩ ⟨bb, bo, none⟩ (.int .i64 0) (by intro h; injection h with h1; omega)).trans b0
        have V1 := (World.cell?_setCell_other w2 ⟨w.heap.size, 3, none⟩ ⟨bb, bo + 1, none⟩ (.int .i64 0) (by intro h; injection h with h1; omega)).trans b1
        have V2 := (World.cell?_setCell_other w2 ⟨w.heap.size, 3, none⟩ ⟨bb, bo + 2, none⟩ (.int .i64 0) (by intro h; injection h with h1; omega)).trans b2
        have V3 := (World.cell?_setCell_other w2 ⟨w.heap.size, 3, none⟩ ⟨bb, bo + 3, none⟩ (.int .i64 0) (by intro h; injection h with h1; omega)).trans b3
        have U3 := World.cell?_setCell_same w2 ⟨w.heap.size, 3, none⟩ (.int .i64 0) r3
        have U0 := (World.cell?_setCell_other w2 ⟨w.heap.size, 3, none⟩ ⟨w.heap.size, 0, none⟩ (.int .i64 0) (by simp)).trans r0
        have U1 := (World.cell?_setCell_other w2 ⟨w.heap.size, 3, none⟩ ⟨w.heap.size, 1, none⟩ (.int .i64 0) (by simp)).trans r1
        have U2 := (World.cell?_setCell_other w2 ⟨w.heap.size, 3, none⟩ ⟨w.heap.size, 2, none⟩ (.int .i64 0) (by simp)).trans r2
        have hw2 := (Below.from (p2.from p1) (below_one _)).setCell (p := ⟨w.heap.size, 3, none⟩) (Nat.le_refl _) (.int .i64 0)
        clear b0 b1 b2 b3 r0 r1 r2 r3 f0 f1 f2 f3
        by_cases hEq : ((k', s', n', a') : Tok) = (k, s, n, 0)
        · have hq := fun W => run_tok_neq W k' n' a' k n 0 s' s
          rw [decide_eq_true hEq] at hq
          simp only [Bool.not_true] at hq
          have hg := fun W (x y : Operand) => run_tok_guard W x y #[.int .i64 k', .string s', .int .i64 n', .int .i64 a'] #[.int .i64 k, .string s, .int .i64 n, .int .i64 0]
          have hX0 : x2 = 0 := by
            rcases HCH.out with h | h
            · exact h
            · exact absurd (by rw [hEq]; simp) (HN.out h)
          have HX := Lib.hid (HXY.out hX0 (HY.out hX0).1)
          clear hEq hX0
          go_quiet (fail)
          go_wp2
          go_ret2
          exact ⟨HX.out, Base.below_drewN hw2 _⟩
        · have hq := fun W => run_tok_neq W k' n' a' k n 0 s' s
          rw [decide_eq_false hEq] at hq
          simp only [Bool.not_false] at hq
          have hg := fun W (x y : Operand) => run_tok_guard W x y #[.int .i64 k', .string s', .int .i64 n', .int .i64 a'] #[.int .i64 k, .string s, .int .i64 n, .int .i64 0]
          have HX := Lib.hid (HXN.out (by
            rcases HCH.out with h | h
            · have := (HY.out h).2.2; simp only [List.cons.injEq, and_true] at this; exact absurd this hEq
            · exact h))
          clear hEq
          go_quiet (fail)
          go_wp2
          go_ret2
          exact ⟨HX.out, Base.below_drewN hw2 _⟩
      · have tl : ((L.length : Int) != 1) = true := by rw [bne_iff_ne]; omega
        have HX := Lib.hid (HXN.out (by rcases HCH.out with h | h; exact absurd (by rw [(HY.out h).2.2]; rfl) hL; exact h))
        clear hL
        go_enter Tryz.func73, Tryz.ntmps73
        go_wp2_with (first
          | (go_at_call 112; (with_reducible refine (C1.out _ (HT.out.later (by (focus repeat (first | exact Below.refl _ _ | assumption | (exact Hid.out (by assumption)) | (with_reducible refine Below.drew ?_) | (with_reducible refine Base.below_drewN ?_ _) | (refine Below.from (below_one _) ?_) | (refine Below.from (below_conv _ _ _) ?_) | (refine Below.setCell ?_ (by simp <;> omega) _) | (refine Below.from (by assumption) ?_)))))).mono ?_); rintro e w1 ⟨rfl, p1⟩)
          | (go_at_call 39; (with_reducible refine (C2.out _ (HT.out.later (by (focus repeat (first | exact Below.refl _ _ | assumption | (exact Hid.out (by assumption)) | (with_reducible refine Below.drew ?_) | (with_reducible refine Base.below_drewN ?_ _) | (refine Below.from (below_one _) ?_) | (refine Below.from (below_conv _ _ _) ?_) | (refine Below.setCell ?_ (by simp <;> omega) _) | (refine Below.from (by assumption) ?_)))))).mono ?_); rintro e w2 ⟨ao, cap, rfl, hr, hz, hc1, hc2, p2, hnew⟩; obtain ⟨⟨r0, r1, r2, r3⟩, f0, f1, f2, f3⟩ := tok_block rfl (p2.from p1); clear hr)
          | fail)
        go_quiet (fail)
        go_wp2
        go_ret2
        refine ⟨HX.out, Base.below_drewN ?_ _⟩
        (focus repeat (first | exact Below.refl _ _ | assumption | (exact Hid.out (by assumption)) | (with_reducible refine Below.drew ?_) | (with_reducible refine Base.below_drewN ?_ _) | (refine Below.from (below_one _) ?_) | (refine Below.from (below_conv _ _ _) ?_) | (refine Below.setCell ?_ (by simp <;> omega) _) | (refine Below.from (by assumption) ?_)))
    · have tE : (E != 0) = true := by rw [bne_iff_ne]; exact hE
      have HX := Lib.hid (HXN.out (by rcases HCH.out with h | h; exact absurd (HY.out h).2.1 hE; exact h))
      clear hE
      go_enter Tryz.func73, Tryz.ntmps73
      go_wp2_with (first
        | (go_at_call 112; (with_reducible refine (C1.out _ (HT.out.later (by (focus repeat (first | exact Below.refl _ _ | assumption | (exact Hid.out (by assumption)) | (with_reducible refine Below.drew ?_) | (with_reducible refine Base.below_drewN ?_ _) | (refine Below.from (below_one _) ?_) | (refine Below.from (below_conv _ _ _) ?_) | (refine Below.setCell ?_ (by simp <;> omega) _) | (refine Below.from (by assumption) ?_)))))).mono ?_); rintro e w1 ⟨rfl, p1⟩)
        | (go_at_call 39; (with_reducible refine (C2.out _ (HT.out.later (by (focus repeat (first | exact Below.refl _ _ | assumption | (exact Hid.out (by assumption)) | (with_reducible refine Below.drew ?_) | (with_reducible refine Base.below_drewN ?_ _) | (refine Below.from (below_one _) ?_) | (refine Below.from (below_conv _ _ _) ?_) | (refine Below.setCell ?_ (by simp <;> omega) _) | (refine Below.from (by assumption) ?_)))))).mono ?_); rintro e w2 ⟨ao, cap, rfl, hr, hz, hc1, hc2, p2, hnew⟩; obtain ⟨⟨r0, r1, r2, r3⟩, f0, f1, f2, f3⟩ := tok_block rfl (p2.from p1); clear hr)
        | fail)
      go_quiet (fail)
      go_wp2
      go_ret2
      refine ⟨HX.out, Base.below_drewN ?_ _⟩
      (focus repeat (first | exact Below.refl _ _ | assumption | (exact Hid.out (by assumption)) | (with_reducible refine Below.drew ?_) | (with_reducible refine Base.below_drewN ?_ _) | (refine Below.from (below_one _) ?_) | (refine Below.from (below_conv _ _ _) ?_) | (refine Below.setCell ?_ (by simp <;> omega) _) | (refine Below.from (by assumption) ?_)))
set_option maxRecDepth 100000 in
set_option maxHeartbeats 1000000 in
theorem lcheck_any (k : Int) (s : ByteArray) (n a : Int) (hs : s.size ≤ maxLen) (h0 : -9223372036854775808 ≤ n) (hn : n ≤ 9223372036854775807) (w : World) (hT : Tb w) :
    Calls Tryz.prog 111 #[tokV (k, s, n, a)] w fun e w' => e = .returned (.int .i64 (chE (k, s, n, a))) ∧ Below w.heap.size w w' := by
  have c1 := fun w hT => ltext_any k s n a hs h0 hn w hT
  have HT := Lib.hid hT
  obtain ⟨x1, hx1⟩ : ∃ x, x = txS (k, s, n, a) := ⟨_, rfl⟩
  obtain ⟨x2, hx2⟩ : ∃ x, x = chE (k, s, n, a) := ⟨_, rfl⟩
  simp only [← hx1, ← hx2] at c1 ⊢
  unfold tokV at c1 ⊢
  dsimp only at c1 ⊢
  have C1 := Lib.hid c1
  clear c1 hT hx1 hx2
  go_enter Tryz.func111, Tryz.ntmps111
  go_wp2_with (first
    | (go_at_call 73; (with_reducible refine (C1.out _ (HT.out.later (by (focus repeat (first | exact Below.refl _ _ | assumption | (exact Hid.out (by assumption)) | (with_reducible refine Below.drew ?_) | (with_reducible refine Base.below_drewN ?_ _) | (refine Below.from (below_one _) ?_) | (refine Below.from (below_conv _ _ _) ?_) | (refine Below.setCell ?_ (by simp <;> omega) _) | (refine Below.from (by assumption) ?_)))))).mono ?_); rintro e w1 ⟨rfl, p1⟩)
    | fail)
  go_ret
  refine ⟨rfl, ?_⟩
  (focus repeat (first | exact Below.refl _ _ | assumption | (exact Hid.out (by assumption)) | (with_reducible refine Below.drew ?_) | (with_reducible refine Base.below_drewN ?_ _) | (refine Below.from (below_one _) ?_) | (refine Below.from (below_conv _ _ _) ?_) | (refine Below.setCell ?_ (by simp <;> omega) _) | (refine Below.from (by assumption) ?_)))
end Go.Proofs.YtdkngidangfkiaaGreatDoor.Lex
