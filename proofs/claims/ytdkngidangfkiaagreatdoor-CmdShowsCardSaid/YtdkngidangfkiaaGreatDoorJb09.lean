/-
  Joined out of: The walks of the program's written tokens: whether they may be, and each one's text. What all of layer 8's walks ask of the world: the tables of the library, the program's own words; the walks of the small questions. The reader's block, and the walks of what takes the next token.
-/
import Derived.Test.YtdkngidangfkiaaGreatDoorJb06
import Derived.Laws.StructEq
import Derived.Test.YtdkngidangfkiaaGreatDoorJb08
import Derived.Test.YtdkngidangfkiaaGreatDoorJb01
namespace Go.Proofs.YtdkngidangfkiaaGreatDoor.Lex
open Go.RowKit
open Base Runes LexLib
set_option linter.unusedVariables false
set_option linter.unusedSimpArgs false
set_option maxRecDepth 100000 in
set_option maxHeartbeats 1000000 in
theorem written_any (k : Int) (s : ByteArray) (n a : Int) (hs : s.size ≤ 1000000) (h0 : -9223372036854775808 ≤ n) (hn : n ≤ 9223372036854775807) (w : World) (hT : Tb w) :
    Calls Tryz.prog 112 #[tokV (k, s, n, a)] w fun e w' => e = .returned (.string (wrI (k, s, n, a))) ∧ Below w.heap.size w w' := by
  unfold tokV
  have HT := Lib.hid hT
  clear hT
  by_cases h2 : k = 2
  · have HW : Hid (itB n = wrI (k, s, n, a)) := Lib.hid (by unfold wrI; rw [if_pos h2])
    have t2 : (k == 2) = true := by rw [beq_iff_eq]; exact h2
    have C1 := Lib.hid (fun w hT => itoa_any n h0 hn w hT)
    clear h2
    go_enter Tryz.func112, Tryz.ntmps112
    go_wp2_with (first
      | (go_at_call 44; (with_reducible refine (C1.out _ (HT.out.later (below_one _))).mono ?_); rintro e w1 ⟨rfl, p1⟩)
      | fail)
    go_ret
    refine ⟨ret_str HW.out, ?_⟩
    (exact Base.bel_)
  · have t2 : (k == 2) = false := by rw [beq_eq_false_iff_ne]; exact h2
    by_cases h4 : k = 4
    · have HW : Hid (qtS s = wrI (k, s, n, a)) := Lib.hid (by unfold wrI; rw [if_neg h2, if_pos h4])
      have t4 : (k == 4) = true := by rw [beq_iff_eq]; exact h4
      clear h2 h4
      go_enter Tryz.func112, Tryz.ntmps112
      go_wp2_with (first
        | (go_at_call 146; (with_reducible refine (quote_any s hs _).mono ?_); rintro e w1 ⟨rfl, p1⟩)
        | fail)
      go_ret
      refine ⟨ret_str HW.out, ?_⟩
      (exact Base.bel_)
    · have HW : Hid (s = wrI (k, s, n, a)) := Lib.hid (by unfold wrI; rw [if_neg h2, if_neg h4])
      have t4 : (k == 4) = false := by rw [beq_eq_false_iff_ne]; exact h4
      clear h2 h4
      go_enter Tryz.func112, Tryz.ntmps112
      go_wp2_with (first
        | (go_at_call 93; (with_reducible refine (strClone_any s hs _).mono ?_); rintro e w1 ⟨rfl, p1⟩)
        | fail)
      go_ret
      refine ⟨ret_str HW.out, ?_⟩
      (exact Base.bel_)
set_option maxRecDepth 100000 in
theorem run_tok_neq (W : World) (k' n' a' k n a : Int) (s' s : ByteArray) : (binOp .neq 96 (.agg #[.int .i64 k', .string s', .int .i64 n', .int .i64 a']) (.agg #[.int .i64 k, .string s, .int .i64 n, .int .i64 a])).run Tryz.prog W = .ok (.bool (!decide ((k', s', n', a') = (k, s, n, a)))) W := by
  rw [run_neq_struct, run_equalIn_agg (ht := by simp [Program.fieldsOf, Tryz.underlying96]) (hp := by kernel_rfl)]
  simp only [Program.fieldsOf, Tryz.underlying96, Op.eqFields]
  have hs : (s'.toList = s.toList) = (s' = s) := by
    apply propext
    have := str_eq s' s
    rw [Bool.eq_iff_iff, beq_iff_eq, decide_eq_true_iff] at this
    exact this
  simp [go_sem, Tryz.underlying3, Tryz.underlying9, hs]
  by_cases h1 : k' = k
  · by_cases h2 : s' = s
    · by_cases h3 : n' = n
      · by_cases h4 : a' = a <;> simp [h1, h2, h3, h4]
      · simp [h1, h2, h3]
    · simp [h1, h2]
  · simp [h1]
theorem run_tok_guard (W : World) (x y : Operand) (xs ys : Array Value) : (eqGuard .neq 96 x y (.agg xs) (.agg ys)).run Tryz.prog W = .ok () W := run_eqGuard_agg W _ _ x y xs ys (by kernel_rfl)
theorem ltx_no {t : Tok} (h : chE t = 50) : Ending.returned (.tuple #[.string ⟨#[]⟩, .int .i64 50]) = .returned (.tuple #[.string (txS t), .int .i64 (chE t)]) := by rw [h, ← txS_no h]
theorem ltx_yes {t : Tok} {W : ByteArray} (h : chE t = 0) (hW : W = wrB t) : Ending.returned (.tuple #[.string W, .int .i64 0]) = .returned (.tuple #[.string (txS t), .int .i64 (chE t)]) := by rw [h, ← txS_yes h, hW]
set_option maxRecDepth 100000 in
set_option maxHeartbeats 4000000 in
theorem ltext_any (k : Int) (s : ByteArray) (n a : Int) (hs : s.size ≤ maxLen) (h0 : -9223372036854775808 ≤ n) (hn : n ≤ 9223372036854775807) (w : World) (hT : Tb w) :
    Calls Tryz.prog 73 #[tokV (k, s, n, a)] w fun e w' => e = .returned (.tuple #[.string (txS (k, s, n, a)), .int .i64 (chE (k, s, n, a))]) ∧ Below w.heap.size w w' := by
  unfold maxLen at hs
  have HT := Lib.hid hT
  clear hT
  by_cases hbig : 400 < s.size
  · have HX := Lib.hid (ltx_no (t := (k, s, n, a)) (chE_long hbig))
    unfold tokV
    dsimp only
    go_enter Tryz.func73, Tryz.ntmps73
    go_wp2
    go_ret2
    refine ⟨HX.out, ?_⟩
    (exact Base.bel_)
  · have c1 := fun w hT => written_any k s n a (by omega) h0 hn w hT
    obtain ⟨hyes, hno⟩ := chI k s n a hn
    have hWs := wrI_size (k, s, n, a) h0 hn
    dsimp only at hWs
    obtain ⟨W, hW⟩ : ∃ W, W = wrI (k, s, n, a) := ⟨_, rfl⟩
    rw [← hW] at hyes hno hWs
    simp only [← hW] at c1
    have c2 := fun w hT => tokens_new W (by unfold maxLen; omega) w hT
    have hch := chE_or (k, s, n, a)
    have hXy : chE (k, s, n, a) = 0 → W = wrB (k, s, n, a) → Ending.returned (.tuple #[.string W, .int .i64 0]) = .returned (.tuple #[.string (txS (k, s, n, a)), .int .i64 (chE (k, s, n, a))]) := ltx_yes
    have hXn : chE (k, s, n, a) = 50 → Ending.returned (.tuple #[.string ⟨#[]⟩, .int .i64 50]) = .returned (.tuple #[.string (txS (k, s, n, a)), .int .i64 (chE (k, s, n, a))]) := ltx_no
    obtain ⟨⟨L, N, E⟩, hA⟩ : ∃ A, A = tkA W := ⟨_, rfl⟩
    rw [← hA] at hyes hno
    simp only [← hA] at c2
    dsimp only at hyes hno
    unfold LineNew at c2
    unfold tokV at c1 ⊢
    dsimp only at c1 c2 ⊢
    obtain ⟨x1, hx1⟩ : ∃ x, x = txS (k, s, n, a) := ⟨_, rfl⟩
    obtain ⟨x2, hx2⟩ : ∃ x, x = chE (k, s, n, a) := ⟨_, rfl⟩
    rw [← hx1, ← hx2] at hXy hXn ⊢
    rw [← hx2] at hyes hno hch
    obtain ⟨B, hB⟩ : ∃ B, B = wrB (k, s, n, a) := ⟨_, rfl⟩
    rw [← hB] at hyes hXy
    have C1 := Lib.hid c1
    have C2 := Lib.hid c2
    have HY := Lib.hid hyes
    have HN := Lib.hid hno
    have HXY := Lib.hid hXy
    have HXN := Lib.hid hXn
    have HCH := Lib.hid hch
    have hd : decide ((s.size : Int) > 400) = false := by rw [decide_eq_false_iff_not]; omega
    clear c1 c2 hA hW hWs hyes hno hXy hXn hx1 hx2 hB hch
    by_cases hE : E = 0
    · subst hE
      by_cases hL : L.length = 1
      · obtain ⟨⟨k', s', n', a'⟩, rfl⟩ : ∃ x, L = [x] := by
          match L, hL with
          | [x], _ => exact ⟨x, rfl⟩
        clear hL
        go_enter Tryz.func73, Tryz.ntmps73
        go_wp2_with (first
          | (go_at_call 112; (with_reducible refine (C1.out _ (HT.out.later (Base.bel_))).mono ?_); rintro e w1 ⟨rfl, p1⟩)
          | (go_at_call 39; (with_reducible refine (C2.out _ (HT.out.later (Base.bel_))).mono ?_); rintro e w2 ⟨ao, cap, rfl, hr, hz, hc1, hc2, p2, hnew⟩; obtain ⟨bb, bo, rfl, b0, b1, b2, b3⟩ := tok_cells (j := 0) hr (by simp); simp only [Nat.zero_mul, Nat.add_zero, List.getElem_cons_zero] at b0 b1 b2 b3; obtain ⟨⟨r0, r1, r2, r3⟩, f0, f1, f2, f3⟩ := tok_block rfl (p2.from p1); clear hr)
          | fail)
        have hs1 := p1.size
        have hs1 : w.heap.size + 1 ≤ w1.heap.size := by simpa using hs1
        have hbb := hnew bb bo rfl
        have V0 := (World.cell?_setCell_other w2 ⟨w.heap.size, 3, none⟩ ⟨bb, bo, none⟩ (.int .i64 0) (by intro h; injection h with h1; omega)).trans b0
        have V1 := (World.cell?_setCell_other w2 ⟨w.heap.size, 3, none⟩ ⟨bb, bo + 1, none⟩ (.int .i64 0) (by intro h; injection h with h1; omega)).trans b1
        have V2 := (World.cell?_setCell_other w2 ⟨w.heap.size, 3, none⟩ ⟨bb, bo + 2, none⟩ (.int .i64 0) (by intro h; injection h with h1; omega)).trans b2
        have V3 := (World.cell?_setCell_other w2 ⟨w.heap.size, 3, none⟩ ⟨bb, bo + 3, none⟩ (.int .i64 0) (by intro h; injection h with h1; omega)).trans b3
        have U3 := World.cell?_setCell_same w2 ⟨w.heap.size, 3, none⟩ (.int .i64 0) r3
        have U0 := (World.cell?_setCell_other w2 ⟨w.heap.size, 3, none⟩ ⟨w.heap.size, 0, none⟩ (.int .i64 0) (by simp)).trans r0
        have U1 := (World.cell?_setCell_other w2 ⟨w.heap.size, 3, none⟩ ⟨w.heap.size, 1, none⟩ (.int .i64 0) (by simp)).trans r1
        have U2 := (World.cell?_setCell_other w2 ⟨w.heap.size, 3, none⟩ ⟨w.heap.size, 2, none⟩ (.int .i64 0) (by simp)).trans r2
        have hw2 := (Below.from (p2.from p1) (below_one _)).setCell (p := ⟨w.heap.size, 3, none⟩) (Nat.le_refl _) (.int .i64 0)
        clear b0 b1 b2 b3 r0 r1 r2 r3 f0 f1 f2 f3
        by_cases hEq : ((k', s', n', a') : Tok) = (k, s, n, 0)
        · have hq := fun W => run_tok_neq W k' n' a' k n 0 s' s
          rw [decide_eq_true hEq] at hq
          simp only [Bool.not_true] at hq
          have hg := fun W (x y : Operand) => run_tok_guard W x y #[.int .i64 k', .string s', .int .i64 n', .int .i64 a'] #[.int .i64 k, .string s, .int .i64 n, .int .i64 0]
          have hX0 : x2 = 0 := by
            rcases HCH.out with h | h
            · exact h
            · exact absurd (by rw [hEq]; simp) (HN.out h)
          have HX := Lib.hid (HXY.out hX0 (HY.out hX0).1)
          clear hEq hX0
          go_quiet (fail)
          go_wp2
          go_ret2
          exact ⟨HX.out, Base.below_drewN hw2 _⟩
        · have hq := fun W => run_tok_neq W k' n' a' k n 0 s' s
          rw [decide_eq_false hEq] at hq
          simp only [Bool.not_false] at hq
          have hg := fun W (x y : Operand) => run_tok_guard W x y #[.int .i64 k', .string s', .int .i64 n', .int .i64 a'] #[.int .i64 k, .string s, .int .i64 n, .int .i64 0]
          have HX := Lib.hid (HXN.out (by
            rcases HCH.out with h | h
            · have := (HY.out h).2.2; simp only [List.cons.injEq, and_true] at this; exact absurd this hEq
            · exact h))
          clear hEq
          go_quiet (fail)
          go_wp2
          go_ret2
          exact ⟨HX.out, Base.below_drewN hw2 _⟩
      · have tl : ((L.length : Int) != 1) = true := by rw [bne_iff_ne]; omega
        have HX := Lib.hid (HXN.out (by rcases HCH.out with h | h; exact absurd (by rw [(HY.out h).2.2]; rfl) hL; exact h))
        clear hL
        go_enter Tryz.func73, Tryz.ntmps73
        go_wp2_with (first
          | (go_at_call 112; (with_reducible refine (C1.out _ (HT.out.later (Base.bel_))).mono ?_); rintro e w1 ⟨rfl, p1⟩)
          | (go_at_call 39; (with_reducible refine (C2.out _ (HT.out.later (Base.bel_))).mono ?_); rintro e w2 ⟨ao, cap, rfl, hr, hz, hc1, hc2, p2, hnew⟩; obtain ⟨⟨r0, r1, r2, r3⟩, f0, f1, f2, f3⟩ := tok_block rfl (p2.from p1); clear hr)
          | fail)
        go_quiet (fail)
        go_wp2
        go_ret2
        refine ⟨HX.out, Base.below_drewN ?_ _⟩
        (exact Base.bel_)
    · have tE : (E != 0) = true := by rw [bne_iff_ne]; exact hE
      have HX := Lib.hid (HXN.out (by rcases HCH.out with h | h; exact absurd (HY.out h).2.1 hE; exact h))
      clear hE
      go_enter Tryz.func73, Tryz.ntmps73
      go_wp2_with (first
        | (go_at_call 112; (with_reducible refine (C1.out _ (HT.out.later (Base.bel_))).mono ?_); rintro e w1 ⟨rfl, p1⟩)
        | (go_at_call 39; (with_reducible refine (C2.out _ (HT.out.later (Base.bel_))).mono ?_); rintro e w2 ⟨ao, cap, rfl, hr, hz, hc1, hc2, p2, hnew⟩; obtain ⟨⟨r0, r1, r2, r3⟩, f0, f1, f2, f3⟩ := tok_block rfl (p2.from p1); clear hr)
        | fail)
      go_quiet (fail)
      go_wp2
      go_ret2
      refine ⟨HX.out, Base.below_drewN ?_ _⟩
      (exact Base.bel_)
set_option maxRecDepth 100000 in
set_option maxHeartbeats 1000000 in
theorem lcheck_any (k : Int) (s : ByteArray) (n a : Int) (hs : s.size ≤ maxLen) (h0 : -9223372036854775808 ≤ n) (hn : n ≤ 9223372036854775807) (w : World) (hT : Tb w) :
    Calls Tryz.prog 111 #[tokV (k, s, n, a)] w fun e w' => e = .returned (.int .i64 (chE (k, s, n, a))) ∧ Below w.heap.size w w' := by
  have c1 := fun w hT => ltext_any k s n a hs h0 hn w hT
  have HT := Lib.hid hT
  obtain ⟨x1, hx1⟩ : ∃ x, x = txS (k, s, n, a) := ⟨_, rfl⟩
  obtain ⟨x2, hx2⟩ : ∃ x, x = chE (k, s, n, a) := ⟨_, rfl⟩
  simp only [← hx1, ← hx2] at c1 ⊢
  unfold tokV at c1 ⊢
  dsimp only at c1 ⊢
  have C1 := Lib.hid c1
  clear c1 hT hx1 hx2
  go_enter Tryz.func111, Tryz.ntmps111
  go_wp2_with (first
    | (go_at_call 73; (with_reducible refine (C1.out _ (HT.out.later (Base.bel_))).mono ?_); rintro e w1 ⟨rfl, p1⟩)
    | fail)
  go_ret
  refine ⟨rfl, ?_⟩
  (exact Base.bel_)
end Go.Proofs.YtdkngidangfkiaaGreatDoor.Lex
namespace Go.Proofs.YtdkngidangfkiaaGreatDoor.Cmd
open Go.RowKit
open Base
open Runes (ckE ckN ckE_or)
open Lex (chE tokV)
open Shape (frB sizeB wallB)
set_option linter.unusedVariables false
set_option linter.unusedSimpArgs false
def WordsAt (w : World) (g : Nat) (l : List ByteArray) : Prop := ∀ i, i < l.length → w.cell? ⟨g, i, none⟩ = some (.string (l.getD i nil_))
theorem WordsAt.later {w w' : World} {g : Nat} {l : List ByteArray} (h : WordsAt w g l) (hb : Below w.heap.size w w') : WordsAt w' g l := fun i hi => cell_below (h i hi) hb
structure Tb (w : World) : Prop where
  lex : LexLib.Tb w
  hours : HoursLib.Tb w
  words : WordsAt w 0 verbL
  hows : WordsAt w 1 howL
theorem Tb.later {w w' : World} (h : Tb w) (hb : Below w.heap.size w w') : Tb w' := ⟨h.lex.later hb, h.hours.later hb, h.words.later hb, h.hows.later hb⟩
theorem isFrom_any (n a b : Int) (w : World) :
    Calls Tryz.prog 83 #[.int .i64 n, .int .i64 a, .int .i64 b] w fun e w' => e = .returned (.bool (frB n a b)) ∧ w = w' := by
  go_enter Tryz.func83, Tryz.ntmps83
  go_wp2
  all_goals
    go_ret
    refine ⟨ret_bool ?_, rfl⟩
    unfold frB
    simp [*] <;> omega
theorem isId_any (n : Int) (w : World) : Calls Tryz.prog 51 #[.int .i64 n] w fun e w' => e = .returned (.bool (idB n)) ∧ w = w' := by
  go_enter Tryz.func51, Tryz.ntmps51
  go_wp2_with (first | (go_at_call 83; (with_reducible refine (isFrom_any _ _ _ _).mono ?_); rintro e w' ⟨rfl, rfl⟩) | fail)
  go_ret
  exact ⟨rfl, rfl⟩
theorem isTick_any (n : Int) (w : World) : Calls Tryz.prog 56 #[.int .i64 n] w fun e w' => e = .returned (.bool (tickB n)) ∧ w = w' := by
  go_enter Tryz.func56, Tryz.ntmps56
  go_wp2_with (first | (go_at_call 83; (with_reducible refine (isFrom_any _ _ _ _).mono ?_); rintro e w' ⟨rfl, rfl⟩) | fail)
  go_ret
  exact ⟨rfl, rfl⟩
theorem isLength_any (n : Int) (w : World) : Calls Tryz.prog 85 #[.int .i64 n] w fun e w' => e = .returned (.bool (lenB n)) ∧ w = w' := by
  go_enter Tryz.func85, Tryz.ntmps85
  go_wp2_with (first | (go_at_call 83; (with_reducible refine (isFrom_any _ _ _ _).mono ?_); rintro e w' ⟨rfl, rfl⟩) | fail)
  go_ret
  exact ⟨rfl, rfl⟩
theorem isPrio_any (n : Int) (w : World) : Calls Tryz.prog 84 #[.int .i64 n] w fun e w' => e = .returned (.bool (prB n)) ∧ w = w' := by
  go_enter Tryz.func84, Tryz.ntmps84
  go_wp2_with (first | (go_at_call 83; (with_reducible refine (isFrom_any _ _ _ _).mono ?_); rintro e w' ⟨rfl, rfl⟩) | fail)
  go_ret
  exact ⟨rfl, rfl⟩
theorem isSize_any (n : Int) (w : World) : Calls Tryz.prog 54 #[.int .i64 n] w fun e w' => e = .returned (.bool (sizeB n)) ∧ w = w' := by
  go_enter Tryz.func54, Tryz.ntmps54
  go_wp2_with (first | (go_at_call 83; (with_reducible refine (isFrom_any _ _ _ _).mono ?_); rintro e w' ⟨rfl, rfl⟩) | fail)
  go_ret
  exact ⟨rfl, rfl⟩
theorem isNode_any (n : Int) (w : World) : Calls Tryz.prog 55 #[.int .i64 n] w fun e w' => e = .returned (.bool (nodeB n)) ∧ w = w' := by
  go_enter Tryz.func55, Tryz.ntmps55
  go_wp2_with (first | (go_at_call 83; (with_reducible refine (isFrom_any _ _ _ _).mono ?_); rintro e w' ⟨rfl, rfl⟩) | fail)
  go_ret
  exact ⟨rfl, rfl⟩
theorem isName_any (s : ByteArray) (hs : s.size ≤ 1000000) (w : World) :
    Calls Tryz.prog 80 #[.string s] w fun e w' => e = .returned (.bool (nameB s)) ∧ Below w.heap.size w w' := by
  rcases ckE_or s with hE | hE
  · have c1 := fun w => Runes.check_any s hs w
    simp only [hE] at c1
    have HN : Hid (frB (ckN s : Nat) 1 16 = nameB s) := Lib.hid (by unfold nameB; rw [hE]; simp)
    obtain ⟨b, hb⟩ : ∃ b, b = nameB s := ⟨_, rfl⟩
    rw [← hb] at HN ⊢
    have C1 := Lib.hid c1
    clear c1 hb hE
    go_enter Tryz.func80, Tryz.ntmps80
    go_wp2_with (first
      | (go_at_call 87; (with_reducible refine (C1.out _).mono ?_); rintro e w1 ⟨rfl, p1⟩)
      | (go_at_call 83; (with_reducible refine (isFrom_any _ _ _ _).mono ?_); rintro e w' ⟨rfl, rfl⟩)
      | fail)
    go_ret
    exact ⟨ret_bool HN.out, Base.bel_⟩
  · have c1 := fun w => Runes.check_any s hs w
    simp only [hE] at c1
    have HN : Hid (false = nameB s) := Lib.hid (by unfold nameB; rw [hE]; simp)
    obtain ⟨b, hb⟩ : ∃ b, b = nameB s := ⟨_, rfl⟩
    rw [← hb] at HN ⊢
    have C1 := Lib.hid c1
    clear c1 hb hE
    go_enter Tryz.func80, Tryz.ntmps80
    go_wp2_with (first
      | (go_at_call 87; (with_reducible refine (C1.out _).mono ?_); rintro e w1 ⟨rfl, p1⟩)
      | fail)
    go_ret
    exact ⟨ret_bool HN.out, Base.bel_⟩
theorem isWord_any (s : ByteArray) (hs : s.size ≤ maxLen) (w : World) (hT : Tb w) :
    Calls Tryz.prog 72 #[.string s] w fun e w' => e = .returned (.bool (wordB s)) ∧ Below w.heap.size w w' := by
  have c1 := fun w hT => Lex.lcheck_any 1 s 0 0 hs (by decide) (by decide) w hT
  unfold tokV at c1
  have HT := Lib.hid hT.lex
  have HN : Hid ((chE (1, s, 0, 0) == 0) = wordB s) := Lib.hid (by unfold wordB; rw [Bool.eq_iff_iff]; simp)
  obtain ⟨b, hb⟩ : ∃ b, b = wordB s := ⟨_, rfl⟩
  rw [← hb] at HN ⊢
  have C1 := Lib.hid c1
  clear c1 hb hT
  go_enter Tryz.func72, Tryz.ntmps72
  go_wp2_with (first
    | (go_at_call 111; (with_reducible refine (C1.out _ HT.out).mono ?_); rintro e w1 ⟨rfl, p1⟩)
    | fail)
  go_ret
  exact ⟨ret_bool HN.out, Base.bel_⟩
theorem key_eq (s k : ByteArray) : (s.toList == k.toList) = decide (s = k) := Runes.str_eq s k
theorem key_is (s k : ByteArray) (l : List UInt8) (h : k.data.toList = l) : (s.toList == l) = decide (s = k) := by
  rw [← h, ← Lib.toList_data]; exact key_eq s k
theorem key_user (s : ByteArray) : (s.toList == [117, 115, 101, 114]) = decide (s = kUser) := key_is s kUser _ rfl
theorem key_account (s : ByteArray) : (s.toList == [97, 99, 99, 111, 117, 110, 116]) = decide (s = kAccount) := key_is s kAccount _ rfl
theorem key_any (s : ByteArray) : (s.toList == [97, 110, 121]) = decide (s = kAny) := key_is s kAny _ rfl
theorem key_good (s : ByteArray) : (s.toList == [103, 111, 111, 100]) = decide (s = kGood) := key_is s kGood _ rfl
theorem key_bad (s : ByteArray) : (s.toList == [98, 97, 100]) = decide (s = kBad) := key_is s kBad _ rfl
theorem key_alt (s : ByteArray) : (s.toList == [97, 108, 116]) = decide (s = kAlt) := key_is s kAlt _ rfl
theorem key_range (s : ByteArray) : (s.toList == [114, 97, 110, 103, 101]) = decide (s = kRange) := key_is s kRange _ rfl
theorem key_prio (s : ByteArray) : (s.toList == [112, 114, 105, 111]) = decide (s = kPrio) := key_is s kPrio _ rfl
theorem key_from (s : ByteArray) : (s.toList == [102, 114, 111, 109]) = decide (s = kFrom) := key_is s kFrom _ rfl
theorem key_nodes (s : ByteArray) : (s.toList == [110, 111, 100, 101, 115]) = decide (s = kNodes) := key_is s kNodes _ rfl
theorem key_time (s : ByteArray) : (s.toList == [116, 105, 109, 101]) = decide (s = kTime) := key_is s kTime _ rfl
set_option maxHeartbeats 2000000 in
theorem hasField_any (k : Int) (s : ByteArray) (w : World) :
    Calls Tryz.prog 102 #[.int .i64 k, .string s] w fun e w' => e = .returned (.bool (hasF k s)) ∧ w = w' := by
  go_enter Tryz.func102, Tryz.ntmps102
  go_wp2
  all_goals
    go_ret
    refine ⟨ret_bool ?_, rfl⟩
    simp only [key_user, key_account, key_any, key_good, key_bad, key_alt, key_range, key_prio, key_from, key_nodes, key_time, decide_eq_true_eq, decide_eq_false_iff_not] at *
    first | contradiction | (unfold hasF; simp (decide := true) [*]; done) | (unfold hasF; simp_all (decide := true); done)
set_option maxRecDepth 100000 in
set_option maxHeartbeats 4000000 in
theorem howOf_any (s : ByteArray) (w : World) (hT : Tb w) :
    Calls Tryz.prog 107 #[.string s] w fun e w' => e = .returned (.int .i64 (howN s : Nat)) ∧ w = w' := by
  have h0 := hT.hows 0 (by decide)
  have h1 := hT.hows 1 (by decide)
  have h2 := hT.hows 2 (by decide)
  have h3 := hT.hows 3 (by decide)
  obtain ⟨x0, e0⟩ : ∃ x, x = howL.getD 0 nil_ := ⟨_, rfl⟩
  obtain ⟨x1, e1⟩ : ∃ x, x = howL.getD 1 nil_ := ⟨_, rfl⟩
  obtain ⟨x2, e2⟩ : ∃ x, x = howL.getD 2 nil_ := ⟨_, rfl⟩
  obtain ⟨x3, e3⟩ : ∃ x, x = howL.getD 3 nil_ := ⟨_, rfl⟩
  rw [← e0] at h0
  rw [← e1] at h1
  rw [← e2] at h2
  rw [← e3] at h3
  obtain ⟨H, hH'⟩ : ∃ H, H = howN s := ⟨_, rfl⟩
  have hH : Hid (findN s [x0, x1, x2, x3] 0 = H) := Lib.hid (by rw [hH', e0, e1, e2, e3]; rfl)
  rw [← hH']
  clear hT hH' e0 e1 e2 e3
  go_enter Tryz.func107, Tryz.ntmps107
  go_wp2
  go_loopw [6] (fun i wr => ∃ k : Int, i = .int .i64 k ∧ 0 ≤ k ∧ k ≤ 4 ∧ findN s (List.drop k.toNat [x0, x1, x2, x3]) k.toNat = H ∧ w = wr) (fun i _ => 4 - (intOf i).toNat)
  case atStart => exact ⟨0, rfl, by decide, by decide, hH.out, rfl⟩
  case round =>
    obtain ⟨k, rfl, hk0, hk, hs, rfl⟩ := hrel
    have hks : k = 0 ∨ k = 1 ∨ k = 2 ∨ k = 3 ∨ k = 4 := by omega
    rcases hks with rfl | rfl | rfl | rfl | rfl
    · have hs : (if x0 = s then 0 else findN s (List.drop 1 [x0, x1, x2, x3]) 1) = H := hs
      have ix : ∀ w, (Instr.index 85 (.agg #[.string x0, .string x1, .string x2, .string x3]) (.int .i64 0)).run Tryz.prog w = .ok (.string x0) w := fun _ => by kernel_rfl
      by_cases hx : x0 = s
      · have t := (key_eq x0 s).trans (decide_eq_true hx)
        rw [if_pos hx] at hs
        have HS := Lib.hid hs
        clear hs hx
        go_wp2
        go_ret
        exact ⟨ret_int (by rw [← HS.out]; rfl), rfl⟩
      · have t := (key_eq x0 s).trans (decide_eq_false hx)
        rw [if_neg hx] at hs
        have HS := Lib.hid hs
        clear hs hx
        go_wp2
        exact ⟨⟨1, rfl, by decide, by decide, HS.out, by first | rfl | trivial⟩, by decide⟩
    · have hs : (if x1 = s then 1 else findN s (List.drop 2 [x0, x1, x2, x3]) 2) = H := hs
      have ix : ∀ w, (Instr.index 85 (.agg #[.string x0, .string x1, .string x2, .string x3]) (.int .i64 1)).run Tryz.prog w = .ok (.string x1) w := fun _ => by kernel_rfl
      by_cases hx : x1 = s
      · have t := (key_eq x1 s).trans (decide_eq_true hx)
        rw [if_pos hx] at hs
        have HS := Lib.hid hs
        clear hs hx
        go_wp2
        go_ret
        exact ⟨ret_int (by rw [← HS.out]; rfl), rfl⟩
      · have t := (key_eq x1 s).trans (decide_eq_false hx)
        rw [if_neg hx] at hs
        have HS := Lib.hid hs
        clear hs hx
        go_wp2
        exact ⟨⟨2, rfl, by decide, by decide, HS.out, by first | rfl | trivial⟩, by decide⟩
    · have hs : (if x2 = s then 2 else findN s (List.drop 3 [x0, x1, x2, x3]) 3) = H := hs
      have ix : ∀ w, (Instr.index 85 (.agg #[.string x0, .string x1, .string x2, .string x3]) (.int .i64 2)).run Tryz.prog w = .ok (.string x2) w := fun _ => by kernel_rfl
      by_cases hx : x2 = s
      · have t := (key_eq x2 s).trans (decide_eq_true hx)
        rw [if_pos hx] at hs
        have HS := Lib.hid hs
        clear hs hx
        go_wp2
        go_ret
        exact ⟨ret_int (by rw [← HS.out]; rfl), rfl⟩
      · have t := (key_eq x2 s).trans (decide_eq_false hx)
        rw [if_neg hx] at hs
        have HS := Lib.hid hs
        clear hs hx
        go_wp2
        exact ⟨⟨3, rfl, by decide, by decide, HS.out, by first | rfl | trivial⟩, by decide⟩
    · have hs : (if x3 = s then 3 else findN s (List.drop 4 [x0, x1, x2, x3]) 4) = H := hs
      have ix : ∀ w, (Instr.index 85 (.agg #[.string x0, .string x1, .string x2, .string x3]) (.int .i64 3)).run Tryz.prog w = .ok (.string x3) w := fun _ => by kernel_rfl
      by_cases hx : x3 = s
      · have t := (key_eq x3 s).trans (decide_eq_true hx)
        rw [if_pos hx] at hs
        have HS := Lib.hid hs
        clear hs hx
        go_wp2
        go_ret
        exact ⟨ret_int (by rw [← HS.out]; rfl), rfl⟩
      · have t := (key_eq x3 s).trans (decide_eq_false hx)
        rw [if_neg hx] at hs
        have HS := Lib.hid hs
        clear hs hx
        go_wp2
        exact ⟨⟨4, rfl, by decide, by decide, HS.out, by first | rfl | trivial⟩, by decide⟩
    · have HS : Hid ((0 : Nat) = H) := Lib.hid hs
      clear hs
      go_wp2
      go_ret
      exact ⟨ret_int (by rw [← HS.out]; rfl), rfl⟩
set_option maxRecDepth 100000 in
set_option maxHeartbeats 4000000 in
theorem kindOf_any (s : ByteArray) (w : World) (hT : Tb w) :
    Calls Tryz.prog 65 #[.string s] w fun e w' => e = .returned (.int .i64 (kindN s : Nat)) ∧ w = w' := by
  have h0 := hT.words 0 (by decide)
  have h1 := hT.words 1 (by decide)
  have h2 := hT.words 2 (by decide)
  have h3 := hT.words 3 (by decide)
  have h4 := hT.words 4 (by decide)
  have h5 := hT.words 5 (by decide)
  have h6 := hT.words 6 (by decide)
  have h7 := hT.words 7 (by decide)
  have h8 := hT.words 8 (by decide)
  have h9 := hT.words 9 (by decide)
  have h10 := hT.words 10 (by decide)
  have h11 := hT.words 11 (by decide)
  have h12 := hT.words 12 (by decide)
  obtain ⟨x0, e0⟩ : ∃ x, x = verbL.getD 0 nil_ := ⟨_, rfl⟩
  obtain ⟨x1, e1⟩ : ∃ x, x = verbL.getD 1 nil_ := ⟨_, rfl⟩
  obtain ⟨x2, e2⟩ : ∃ x, x = verbL.getD 2 nil_ := ⟨_, rfl⟩
  obtain ⟨x3, e3⟩ : ∃ x, x = verbL.getD 3 nil_ := ⟨_, rfl⟩
  obtain ⟨x4, e4⟩ : ∃ x, x = verbL.getD 4 nil_ := ⟨_, rfl⟩
  obtain ⟨x5, e5⟩ : ∃ x, x = verbL.getD 5 nil_ := ⟨_, rfl⟩
  obtain ⟨x6, e6⟩ : ∃ x, x = verbL.getD 6 nil_ := ⟨_, rfl⟩
  obtain ⟨x7, e7⟩ : ∃ x, x = verbL.getD 7 nil_ := ⟨_, rfl⟩
  obtain ⟨x8, e8⟩ : ∃ x, x = verbL.getD 8 nil_ := ⟨_, rfl⟩
  obtain ⟨x9, e9⟩ : ∃ x, x = verbL.getD 9 nil_ := ⟨_, rfl⟩
  obtain ⟨x10, e10⟩ : ∃ x, x = verbL.getD 10 nil_ := ⟨_, rfl⟩
  obtain ⟨x11, e11⟩ : ∃ x, x = verbL.getD 11 nil_ := ⟨_, rfl⟩
  obtain ⟨x12, e12⟩ : ∃ x, x = verbL.getD 12 nil_ := ⟨_, rfl⟩
  rw [← e0] at h0
  rw [← e1] at h1
  rw [← e2] at h2
  rw [← e3] at h3
  rw [← e4] at h4
  rw [← e5] at h5
  rw [← e6] at h6
  rw [← e7] at h7
  rw [← e8] at h8
  rw [← e9] at h9
  rw [← e10] at h10
  rw [← e11] at h11
  rw [← e12] at h12
  obtain ⟨H, hH'⟩ : ∃ H, H = kindN s := ⟨_, rfl⟩
  have hH : Hid (findN s [x0, x1, x2, x3, x4, x5, x6, x7, x8, x9, x10, x11, x12] 0 = H) := Lib.hid (by rw [hH', e0, e1, e2, e3, e4, e5, e6, e7, e8, e9, e10, e11, e12]; rfl)
  rw [← hH']
  clear hT hH' e0 e1 e2 e3 e4 e5 e6 e7 e8 e9 e10 e11 e12
  go_enter Tryz.func65, Tryz.ntmps65
  go_wp2
  go_loopw [6] (fun i wr => ∃ k : Int, i = .int .i64 k ∧ 0 ≤ k ∧ k ≤ 13 ∧ findN s (List.drop k.toNat [x0, x1, x2, x3, x4, x5, x6, x7, x8, x9, x10, x11, x12]) k.toNat = H ∧ w = wr) (fun i _ => 13 - (intOf i).toNat)
  case atStart => exact ⟨0, rfl, by decide, by decide, hH.out, rfl⟩
  case round =>
    obtain ⟨k, rfl, hk0, hk, hs, rfl⟩ := hrel
    have hks : k = 0 ∨ k = 1 ∨ k = 2 ∨ k = 3 ∨ k = 4 ∨ k = 5 ∨ k = 6 ∨ k = 7 ∨ k = 8 ∨ k = 9 ∨ k = 10 ∨ k = 11 ∨ k = 12 ∨ k = 13 := by omega
    rcases hks with rfl | rfl | rfl | rfl | rfl | rfl | rfl | rfl | rfl | rfl | rfl | rfl | rfl | rfl
    · have hs : (if x0 = s then 0 else findN s (List.drop 1 [x0, x1, x2, x3, x4, x5, x6, x7, x8, x9, x10, x11, x12]) 1) = H := hs
      have ix : ∀ w, (Instr.index 80 (.agg #[.string x0, .string x1, .string x2, .string x3, .string x4, .string x5, .string x6, .string x7, .string x8, .string x9, .string x10, .string x11, .string x12]) (.int .i64 0)).run Tryz.prog w = .ok (.string x0) w := fun _ => by kernel_rfl
      by_cases hx : x0 = s
      · have t := (key_eq x0 s).trans (decide_eq_true hx)
        rw [if_pos hx] at hs
        have HS := Lib.hid hs
        clear hs hx
        go_wp2
        go_ret
        exact ⟨ret_int (by rw [← HS.out]; rfl), rfl⟩
      · have t := (key_eq x0 s).trans (decide_eq_false hx)
        rw [if_neg hx] at hs
        have HS := Lib.hid hs
        clear hs hx
        go_wp2
        exact ⟨⟨1, rfl, by decide, by decide, HS.out, by first | rfl | trivial⟩, by decide⟩
    · have hs : (if x1 = s then 1 else findN s (List.drop 2 [x0, x1, x2, x3, x4, x5, x6, x7, x8, x9, x10, x11, x12]) 2) = H := hs
      have ix : ∀ w, (Instr.index 80 (.agg #[.string x0, .string x1, .string x2, .string x3, .string x4, .string x5, .string x6, .string x7, .string x8, .string x9, .string x10, .string x11, .string x12]) (.int .i64 1)).run Tryz.prog w = .ok (.string x1) w := fun _ => by kernel_rfl
      by_cases hx : x1 = s
      · have t := (key_eq x1 s).trans (decide_eq_true hx)
        rw [if_pos hx] at hs
        have HS := Lib.hid hs
        clear hs hx
        go_wp2
        go_ret
        exact ⟨ret_int (by rw [← HS.out]; rfl), rfl⟩
      · have t := (key_eq x1 s).trans (decide_eq_false hx)
        rw [if_neg hx] at hs
        have HS := Lib.hid hs
        clear hs hx
        go_wp2
        exact ⟨⟨2, rfl, by decide, by decide, HS.out, by first | rfl | trivial⟩, by decide⟩
    · have hs : (if x2 = s then 2 else findN s (List.drop 3 [x0, x1, x2, x3, x4, x5, x6, x7, x8, x9, x10, x11, x12]) 3) = H := hs
      have ix : ∀ w, (Instr.index 80 (.agg #[.string x0, .string x1, .string x2, .string x3, .string x4, .string x5, .string x6, .string x7, .string x8, .string x9, .string x10, .string x11, .string x12]) (.int .i64 2)).run Tryz.prog w = .ok (.string x2) w := fun _ => by kernel_rfl
      by_cases hx : x2 = s
      · have t := (key_eq x2 s).trans (decide_eq_true hx)
        rw [if_pos hx] at hs
        have HS := Lib.hid hs
        clear hs hx
        go_wp2
        go_ret
        exact ⟨ret_int (by rw [← HS.out]; rfl), rfl⟩
      · have t := (key_eq x2 s).trans (decide_eq_false hx)
        rw [if_neg hx] at hs
        have HS := Lib.hid hs
        clear hs hx
        go_wp2
        exact ⟨⟨3, rfl, by decide, by decide, HS.out, by first | rfl | trivial⟩, by decide⟩
    · have hs : (if x3 = s then 3 else findN s (List.drop 4 [x0, x1, x2, x3, x4, x5, x6, x7, x8, x9, x10, x11, x12]) 4) = H := hs
      have ix : ∀ w, (Instr.index 80 (.agg #[.string x0, .string x1, .string x2, .string x3, .string x4, .string x5, .string x6, .string x7, .string x8, .string x9, .string x10, .string x11, .string x12]) (.int .i64 3)).run Tryz.prog w = .ok (.string x3) w := fun _ => by kernel_rfl
      by_cases hx : x3 = s
      · have t := (key_eq x3 s).trans (decide_eq_true hx)
        rw [if_pos hx] at hs
        have HS := Lib.hid hs
        clear hs hx
        go_wp2
        go_ret
        exact ⟨ret_int (by rw [← HS.out]; rfl), rfl⟩
      · have t := (key_eq x3 s).trans (decide_eq_false hx)
        rw [if_neg hx] at hs
        have HS := Lib.hid hs
        clear hs hx
        go_wp2
        exact ⟨⟨4, rfl, by decide, by decide, HS.out, by first | rfl | trivial⟩, by decide⟩
    · have hs : (if x4 = s then 4 else findN s (List.drop 5 [x0, x1, x2, x3, x4, x5, x6, x7, x8, x9, x10, x11, x12]) 5) = H := hs
      have ix : ∀ w, (Instr.index 80 (.agg #[.string x0, .string x1, .string x2, .string x3, .string x4, .string x5, .string x6, .string x7, .string x8, .string x9, .string x10, .string x11, .string x12]) (.int .i64 4)).run Tryz.prog w = .ok (.string x4) w := fun _ => by kernel_rfl
      by_cases hx : x4 = s
      · have t := (key_eq x4 s).trans (decide_eq_true hx)
        rw [if_pos hx] at hs
        have HS := Lib.hid hs
        clear hs hx
        go_wp2
        go_ret
        exact ⟨ret_int (by rw [← HS.out]; rfl), rfl⟩
      · have t := (key_eq x4 s).trans (decide_eq_false hx)
        rw [if_neg hx] at hs
        have HS := Lib.hid hs
        clear hs hx
        go_wp2
        exact ⟨⟨5, rfl, by decide, by decide, HS.out, by first | rfl | trivial⟩, by decide⟩
    · have hs : (if x5 = s then 5 else findN s (List.drop 6 [x0, x1, x2, x3, x4, x5, x6, x7, x8, x9, x10, x11, x12]) 6) = H := hs
      have ix : ∀ w, (Instr.index 80 (.agg #[.string x0, .string x1, .string x2, .string x3, .string x4, .string x5, .string x6, .string x7, .string x8, .string x9, .string x10, .string x11, .string x12]) (.int .i64 5)).run Tryz.prog w = .ok (.string x5) w := fun _ => by kernel_rfl
      by_cases hx : x5 = s
      · have t := (key_eq x5 s).trans (decide_eq_true hx)
        rw [if_pos hx] at hs
        have HS := Lib.hid hs
        clear hs hx
        go_wp2
        go_ret
        exact ⟨ret_int (by rw [← HS.out]; rfl), rfl⟩
      · have t := (key_eq x5 s).trans (decide_eq_false hx)
        rw [if_neg hx] at hs
        have HS := Lib.hid hs
        clear hs hx
        go_wp2
        exact ⟨⟨6, rfl, by decide, by decide, HS.out, by first | rfl | trivial⟩, by decide⟩
    · have hs : (if x6 = s then 6 else findN s (List.drop 7 [x0, x1, x2, x3, x4, x5, x6, x7, x8, x9, x10, x11, x12]) 7) = H := hs
      have ix : ∀ w, (Instr.index 80 (.agg #[.string x0, .string x1, .string x2, .string x3, .string x4, .string x5, .string x6, .string x7, .string x8, .string x9, .string x10, .string x11, .string x12]) (.int .i64 6)).run Tryz.prog w = .ok (.string x6) w := fun _ => by kernel_rfl
      by_cases hx : x6 = s
      · have t := (key_eq x6 s).trans (decide_eq_true hx)
        rw [if_pos hx] at hs
        have HS := Lib.hid hs
        clear hs hx
        go_wp2
        go_ret
        exact ⟨ret_int (by rw [← HS.out]; rfl), rfl⟩
      · have t := (key_eq x6 s).trans (decide_eq_false hx)
        rw [if_neg hx] at hs
        have HS := Lib.hid hs
        clear hs hx
        go_wp2
        exact ⟨⟨7, rfl, by decide, by decide, HS.out, by first | rfl | trivial⟩, by decide⟩
    · have hs : (if x7 = s then 7 else findN s (List.drop 8 [x0, x1, x2, x3, x4, x5, x6, x7, x8, x9, x10, x11, x12]) 8) = H := hs
      have ix : ∀ w, (Instr.index 80 (.agg #[.string x0, .string x1, .string x2, .string x3, .string x4, .string x5, .string x6, .string x7, .string x8, .string x9, .string x10, .string x11, .string x12]) (.int .i64 7)).run Tryz.prog w = .ok (.string x7) w := fun _ => by kernel_rfl
      by_cases hx : x7 = s
      · have t := (key_eq x7 s).trans (decide_eq_true hx)
        rw [if_pos hx] at hs
        have HS := Lib.hid hs
        clear hs hx
        go_wp2
        go_ret
        exact ⟨ret_int (by rw [← HS.out]; rfl), rfl⟩
      · have t := (key_eq x7 s).trans (decide_eq_false hx)
        rw [if_neg hx] at hs
        have HS := Lib.hid hs
        clear hs hx
        go_wp2
        exact ⟨⟨8, rfl, by decide, by decide, HS.out, by first | rfl | trivial⟩, by decide⟩
    · have hs : (if x8 = s then 8 else findN s (List.drop 9 [x0, x1, x2, x3, x4, x5, x6, x7, x8, x9, x10, x11, x12]) 9) = H := hs
      have ix : ∀ w, (Instr.index 80 (.agg #[.string x0, .string x1, .string x2, .string x3, .string x4, .string x5, .string x6, .string x7, .string x8, .string x9, .string x10, .string x11, .string x12]) (.int .i64 8)).run Tryz.prog w = .ok (.string x8) w := fun _ => by kernel_rfl
      by_cases hx : x8 = s
      · have t := (key_eq x8 s).trans (decide_eq_true hx)
        rw [if_pos hx] at hs
        have HS := Lib.hid hs
        clear hs hx
        go_wp2
        go_ret
        exact ⟨ret_int (by rw [← HS.out]; rfl), rfl⟩
      · have t := (key_eq x8 s).trans (decide_eq_false hx)
        rw [if_neg hx] at hs
        have HS := Lib.hid hs
        clear hs hx
        go_wp2
        exact ⟨⟨9, rfl, by decide, by decide, HS.out, by first | rfl | trivial⟩, by decide⟩
    · have hs : (if x9 = s then 9 else findN s (List.drop 10 [x0, x1, x2, x3, x4, x5, x6, x7, x8, x9, x10, x11, x12]) 10) = H := hs
      have ix : ∀ w, (Instr.index 80 (.agg #[.string x0, .string x1, .string x2, .string x3, .string x4, .string x5, .string x6, .string x7, .string x8, .string x9, .string x10, .string x11, .string x12]) (.int .i64 9)).run Tryz.prog w = .ok (.string x9) w := fun _ => by kernel_rfl
      by_cases hx : x9 = s
      · have t := (key_eq x9 s).trans (decide_eq_true hx)
        rw [if_pos hx] at hs
        have HS := Lib.hid hs
        clear hs hx
        go_wp2
        go_ret
        exact ⟨ret_int (by rw [← HS.out]; rfl), rfl⟩
      · have t := (key_eq x9 s).trans (decide_eq_false hx)
        rw [if_neg hx] at hs
        have HS := Lib.hid hs
        clear hs hx
        go_wp2
        exact ⟨⟨10, rfl, by decide, by decide, HS.out, by first | rfl | trivial⟩, by decide⟩
    · have hs : (if x10 = s then 10 else findN s (List.drop 11 [x0, x1, x2, x3, x4, x5, x6, x7, x8, x9, x10, x11, x12]) 11) = H := hs
      have ix : ∀ w, (Instr.index 80 (.agg #[.string x0, .string x1, .string x2, .string x3, .string x4, .string x5, .string x6, .string x7, .string x8, .string x9, .string x10, .string x11, .string x12]) (.int .i64 10)).run Tryz.prog w = .ok (.string x10) w := fun _ => by kernel_rfl
      by_cases hx : x10 = s
      · have t := (key_eq x10 s).trans (decide_eq_true hx)
        rw [if_pos hx] at hs
        have HS := Lib.hid hs
        clear hs hx
        go_wp2
        go_ret
        exact ⟨ret_int (by rw [← HS.out]; rfl), rfl⟩
      · have t := (key_eq x10 s).trans (decide_eq_false hx)
        rw [if_neg hx] at hs
        have HS := Lib.hid hs
        clear hs hx
        go_wp2
        exact ⟨⟨11, rfl, by decide, by decide, HS.out, by first | rfl | trivial⟩, by decide⟩
    · have hs : (if x11 = s then 11 else findN s (List.drop 12 [x0, x1, x2, x3, x4, x5, x6, x7, x8, x9, x10, x11, x12]) 12) = H := hs
      have ix : ∀ w, (Instr.index 80 (.agg #[.string x0, .string x1, .string x2, .string x3, .string x4, .string x5, .string x6, .string x7, .string x8, .string x9, .string x10, .string x11, .string x12]) (.int .i64 11)).run Tryz.prog w = .ok (.string x11) w := fun _ => by kernel_rfl
      by_cases hx : x11 = s
      · have t := (key_eq x11 s).trans (decide_eq_true hx)
        rw [if_pos hx] at hs
        have HS := Lib.hid hs
        clear hs hx
        go_wp2
        go_ret
        exact ⟨ret_int (by rw [← HS.out]; rfl), rfl⟩
      · have t := (key_eq x11 s).trans (decide_eq_false hx)
        rw [if_neg hx] at hs
        have HS := Lib.hid hs
        clear hs hx
        go_wp2
        exact ⟨⟨12, rfl, by decide, by decide, HS.out, by first | rfl | trivial⟩, by decide⟩
    · have hs : (if x12 = s then 12 else findN s (List.drop 13 [x0, x1, x2, x3, x4, x5, x6, x7, x8, x9, x10, x11, x12]) 13) = H := hs
      have ix : ∀ w, (Instr.index 80 (.agg #[.string x0, .string x1, .string x2, .string x3, .string x4, .string x5, .string x6, .string x7, .string x8, .string x9, .string x10, .string x11, .string x12]) (.int .i64 12)).run Tryz.prog w = .ok (.string x12) w := fun _ => by kernel_rfl
      by_cases hx : x12 = s
      · have t := (key_eq x12 s).trans (decide_eq_true hx)
        rw [if_pos hx] at hs
        have HS := Lib.hid hs
        clear hs hx
        go_wp2
        go_ret
        exact ⟨ret_int (by rw [← HS.out]; rfl), rfl⟩
      · have t := (key_eq x12 s).trans (decide_eq_false hx)
        rw [if_neg hx] at hs
        have HS := Lib.hid hs
        clear hs hx
        go_wp2
        exact ⟨⟨13, rfl, by decide, by decide, HS.out, by first | rfl | trivial⟩, by decide⟩
    · have HS : Hid ((0 : Nat) = H) := Lib.hid hs
      clear hs
      go_wp2
      go_ret
      exact ⟨ret_int (by rw [← HS.out]; rfl), rfl⟩
end Go.Proofs.YtdkngidangfkiaaGreatDoor.Cmd
namespace Go.Proofs.YtdkngidangfkiaaGreatDoor.Cmd
open Go.RowKit
open Base
open Lex (Tok tkC tkC_length tokV zT tok_cells)
set_option linter.unusedVariables false
set_option linter.unusedSimpArgs false
theorem kp_alloc {a w : World} {r : Option Nat} (h : a.grownBy w r) (o : Obj) : a.grownBy (w.alloc o) r := by
  refine ⟨h.os, h.tape, h.output, by rw [World.size_alloc]; have := h.size; omega, fun k hk hn => ?_⟩
  have : k < w.heap.size := Nat.lt_of_lt_of_le hk h.size
  rw [show (w.alloc o).heap[k]? = w.heap[k]? from Lib.alloc_old _ _ _ this]
  exact h.block k hk hn
theorem kp_set {a w : World} {r : Option Nat} (h : a.grownBy w r) (p : Addr) (v : Value) (hp : some p.block = r ∨ a.heap.size ≤ p.block) : a.grownBy (w.setCell p v) r := by
  have g := grown_set w p v
  refine ⟨g.os.trans h.os, g.tape.trans h.tape, g.output.trans h.output, Nat.le_trans h.size g.size, fun k hk hn => ?_⟩
  have hne : some k ≠ some p.block := by
    intro e
    rcases hp with hp | hp
    · rw [hp] at e; exact hn e
    · injection e; omega
  rw [g.block k (Nat.lt_of_lt_of_le hk h.size) hne]
  exact h.block k hk hn
theorem kp_below {a w w' : World} {r : Option Nat} (h : a.grownBy w r) (hb : Below w.heap.size w w') : a.grownBy w' r := grown_trans h (grown_of_below hb r)
theorem heap_set_same {W : World} {X i : Nat} {arr : Array Value} {T : TypeId} (h : W.heap[X]? = some (.cells arr T)) (v : Value) : (W.setCell ⟨X, i, none⟩ v).heap[X]? = some (.cells (arr.setIfInBounds i v) T) := by
  simp [World.setCell, Array.getElem?_modify, h]
theorem heap_set_other {W : World} {X : Nat} (p : Addr) (v : Value) (h : p.block ≠ X) : (W.setCell p v).heap[X]? = W.heap[X]? := by
  simp [World.setCell, Array.getElem?_modify, h]
def RdAt (w : World) (B : Nat) (l : List Tok) (n : Nat) : Prop :=
  ∃ ao cap, w.heap[B]? = some (.cells #[.slice ao l.length cap, .int .i64 (n : Int)] 77) ∧ l.length ≤ cap ∧ cap ≤ maxLen ∧ ReadsS 4 tkC w ao l ∧ ∀ a, ao = some a → a.block < B
theorem RdAt.lt {w : World} {B : Nat} {l : List Tok} {n : Nat} (h : RdAt w B l n) : B < w.heap.size := by
  obtain ⟨ao, cap, h, _⟩ := h
  exact (Array.getElem?_eq_some_iff.1 h).1
theorem RdAt.below {w w' : World} {B : Nat} {l : List Tok} {n : Nat} (h : RdAt w B l n) (hb : Below w.heap.size w w') : RdAt w' B l n := by
  have hlt := h.lt
  obtain ⟨ao, cap, h1, h2, h3, h4, h5⟩ := h
  refine ⟨ao, cap, ?_, h2, h3, h4.below tkC_length hb, h5⟩
  rw [hb.block _ hlt]; exact h1
theorem reads_tail {w : World} {b off : Nat} {t : Tok} {l : List Tok} (h : ReadsS 4 tkC w (some ⟨b, off, none⟩) (t :: l)) : ReadsS 4 tkC w (some ⟨b, off + 4, none⟩) l := by
  refine .inr ⟨b, off + 4, rfl, fun j hj i hi => ?_⟩
  obtain ⟨b', off', ha, hc⟩ := h.at_ (j := j + 1) (by simpa using hj)
  obtain ⟨rfl, rfl⟩ : b = b' ∧ off = off' := by simpa using ha
  have := hc i hi
  rw [show off + (j + 1) * 4 + i = off + 4 + j * 4 + i by omega] at this
  simpa using this
theorem reads_kept {w w' : World} {B : Nat} {ao : Option Addr} {l : List Tok} (h : ReadsS 4 tkC w ao l) (hg : w.grownBy w' (some B)) (hB : ∀ a, ao = some a → a.block < w.heap.size ∧ a.block ≠ B) : ReadsS 4 tkC w' ao l := by
  rcases h with h | ⟨b, off, rfl, hc⟩
  · exact .inl h
  · obtain ⟨h1, h2⟩ := hB _ rfl
    refine .inr ⟨b, off, rfl, fun j hj i hi => ?_⟩
    have hb := hg.block b h1 (by intro e; injection e with e; exact h2 e)
    rw [← hc j hj i hi]
    exact World.cell?_of_block hb
theorem new_facts {w w3 : World} {v0 v1 v2 v3 : Value} {T : TypeId} (p : Below (w.alloc (.cells #[v0, v1, v2, v3] T)).heap.size (w.alloc (.cells #[v0, v1, v2, v3] T)) w3) :
    w3.cell? ⟨w.heap.size, 0, none⟩ = some v0 ∧ w3.cell? ⟨w.heap.size, 1, none⟩ = some v1 ∧ w3.cell? ⟨w.heap.size, 2, none⟩ = some v2 ∧ w3.cell? ⟨w.heap.size, 3, none⟩ = some v3 ∧ (∀ i, w3.frozen? ⟨w.heap.size, i, none⟩ = false) ∧ w.heap.size < w3.heap.size := by
  have h := p.block w.heap.size (by simp)
  rw [heap_alloc_new] at h
  refine ⟨?_, ?_, ?_, ?_, fun i => ?_, ?_⟩
  · simp [World.cell?, h]
  · simp [World.cell?, h]
  · simp [World.cell?, h]
  · simp [World.cell?, h]
  · simp [World.frozen?, h]
  · have := p.size; simp at this; omega
theorem set_other (X : World) (B C : Nat) (v : Value) (i : Nat) (h : B < C) : (X.setCell ⟨B, 0, none⟩ v).cell? ⟨C, i, none⟩ = X.cell? ⟨C, i, none⟩ := World.cell?_setCell_other _ _ _ _ (fun h => by injection h; omega)
theorem set_frozen (X : World) (B C : Nat) (v : Value) (i : Nat) : (X.setCell ⟨B, 0, none⟩ v).frozen? ⟨C, i, none⟩ = X.frozen? ⟨C, i, none⟩ := by
  by_cases h : B = C
  · subst h
    simp only [World.frozen?, World.setCell, Array.getElem?_modify, if_pos]
    cases X.heap[B]? with
    | none => rfl
    | some o => cases o <;> rfl
  · exact World.frozen?_of_block (heap_set_other _ _ h)
theorem fin_facts {w w3 : World} {B : Nat} {s0 nV z0 z1 z2 z3 v v0 v1 v2 v3 : Value} {TR TT : TypeId} {o : Obj} (hB : B < w.heap.size) (h1 : w.heap[B]? = some (.cells #[s0, nV] TR))
    (p : Below (w.alloc (.cells #[z0, z1, z2, z3] TT)).heap.size (w.alloc (.cells #[z0, z1, z2, z3] TT)) w3) :
    ((((((w3.setCell ⟨B, 0, none⟩ v).setCell ⟨w.heap.size, 0, none⟩ v0).setCell ⟨w.heap.size, 1, none⟩ v1).setCell ⟨w.heap.size, 2, none⟩ v2).setCell ⟨w.heap.size, 3, none⟩ v3).alloc o).heap[B]? = some (.cells #[v, nV] TR) ∧
    ((((((w3.setCell ⟨B, 0, none⟩ v).setCell ⟨w.heap.size, 0, none⟩ v0).setCell ⟨w.heap.size, 1, none⟩ v1).setCell ⟨w.heap.size, 2, none⟩ v2).setCell ⟨w.heap.size, 3, none⟩ v3).alloc o).heap[w.heap.size]? = some (.cells #[v0, v1, v2, v3] TT) ∧
    w.grownBy ((((((w3.setCell ⟨B, 0, none⟩ v).setCell ⟨w.heap.size, 0, none⟩ v0).setCell ⟨w.heap.size, 1, none⟩ v1).setCell ⟨w.heap.size, 2, none⟩ v2).setCell ⟨w.heap.size, 3, none⟩ v3).alloc o) (some B) := by
  have hb := p.block B (by simp; omega)
  rw [Lib.alloc_old _ _ _ hB, h1] at hb
  have hn := p.block w.heap.size (by simp)
  rw [heap_alloc_new] at hn
  have hsz := p.size
  rw [World.size_alloc] at hsz
  have ne : w.heap.size ≠ B := by omega
  refine ⟨?_, ?_, ?_⟩
  · rw [Lib.alloc_old _ _ _ (by simp [World.setCell]; omega), heap_set_other _ _ ne, heap_set_other _ _ ne, heap_set_other _ _ ne, heap_set_other _ _ ne, heap_set_same hb]
    rfl
  · rw [Lib.alloc_old _ _ _ (by simp [World.setCell]; omega)]
    rw [heap_set_same (heap_set_same (heap_set_same (heap_set_same ((heap_set_other _ _ (Ne.symm ne)).trans hn) v0) v1) v2) v3]
    rfl
  · have g := (grown_of_below (p.from (below_one _)) (some B))
    exact kp_alloc (kp_set (kp_set (kp_set (kp_set (kp_set g _ _ (.inl rfl)) _ _ (.inr (Nat.le_refl _))) _ _ (.inr (Nat.le_refl _))) _ _ (.inr (Nat.le_refl _))) _ _ (.inr (Nat.le_refl _))) _
theorem fin_none {w w3 : World} {z0 z1 z2 z3 v0 v1 v2 v3 : Value} {TT : TypeId} (p : Below (w.alloc (.cells #[z0, z1, z2, z3] TT)).heap.size (w.alloc (.cells #[z0, z1, z2, z3] TT)) w3) :
    ((((w3.setCell ⟨w.heap.size, 0, none⟩ v0).setCell ⟨w.heap.size, 1, none⟩ v1).setCell ⟨w.heap.size, 2, none⟩ v2).setCell ⟨w.heap.size, 3, none⟩ v3).heap[w.heap.size]? = some (.cells #[v0, v1, v2, v3] TT) ∧
    Below w.heap.size w ((((w3.setCell ⟨w.heap.size, 0, none⟩ v0).setCell ⟨w.heap.size, 1, none⟩ v1).setCell ⟨w.heap.size, 2, none⟩ v2).setCell ⟨w.heap.size, 3, none⟩ v3) := by
  refine ⟨?_, ((((p.from (below_one _)).setCell (Nat.le_refl _) _).setCell (Nat.le_refl _) _).setCell (Nat.le_refl _) _).setCell (Nat.le_refl _) _⟩
  have hn := p.block w.heap.size (by simp)
  rw [heap_alloc_new] at hn
  rw [heap_set_same (heap_set_same (heap_set_same (heap_set_same hn v0) v1) v2) v3]
  rfl
theorem four {W : World} {B : Nat} {v0 v1 v2 v3 : Value} {T : TypeId} (h : W.heap[B]? = some (.cells #[v0, v1, v2, v3] T)) :
    W.cell? ⟨B, 0, none⟩ = some v0 ∧ W.cell? ⟨B, 1, none⟩ = some v1 ∧ W.cell? ⟨B, 2, none⟩ = some v2 ∧ W.cell? ⟨B, 3, none⟩ = some v3 := by
  simp [World.cell?, h]
def NextSays (B n : Nat) (o : Option Tok) (r : List Tok) (w : World) (e : Ending) (w' : World) : Prop :=
  e = .returned (.tuple #[tokV (o.getD zT), .bool o.isSome]) ∧ RdAt w' B r n ∧ w.grownBy w' (some B)
set_option maxRecDepth 100000 in
set_option maxHeartbeats 1000000 in
theorem next_sign (P : Nat) (q : Tok → Bool) (B n : Nat) (l : List Tok) (w : World) (hR : RdAt w B l n)
    (hq : ∀ t, l.head? = some t → ∀ w2, Below w.heap.size w w2 → Calls Tryz.prog 140 #[tokV t, .pointer (some ⟨P, 0, none⟩)] w2 fun e w3 => e = .returned (.bool (q t)) ∧ Below w2.heap.size w2 w3) :
    Calls Tryz.prog 97 #[.pointer (some ⟨B, 0, none⟩), .func (.func 140) #[] #[.pointer (some ⟨P, 0, none⟩)]] w fun e w' => NextSays B n (nx q l).1 (nx q l).2 w e w' := by
  have hlt := hR.lt
  obtain ⟨ao, cap, h1, h2, h3, h4, h5⟩ := hR
  have c0 : w.cell? ⟨B, 0, none⟩ = some (.slice ao l.length cap) := by simp [World.cell?, h1]
  have c1 : w.cell? ⟨B, 1, none⟩ = some (.int .i64 (n : Int)) := by simp [World.cell?, h1]
  have hR2 : ∀ w2, Below w.heap.size w w2 → RdAt w2 B l n := fun w2 hb => RdAt.below ⟨ao, cap, h1, h2, h3, h4, h5⟩ hb
  have HCAP := Lib.hid h3
  have h3 : cap ≤ 9223372036854775807 := by unfold maxLen at h3; exact h3
  cases l with
  | nil =>
    have HR := Lib.hid hR2
    clear hR2 h1 h4 h5 hq
    rw [List.length_nil] at c0
    go_enter Tryz.func97, Tryz.ntmps97
    go_wp2
    refine bodyPost_ret (v := .tuple #[tokV zT, .bool false]) (by simp [results, Tryz.results97, go_sem, tokV, zT]) rfl ⟨rfl, HR.out _ (below_one _), kp_alloc (grown_refl w _) _⟩
  | cons t r =>
    have hq1 := hq t rfl
    obtain ⟨b, off, hao, hc⟩ := h4.at_ (j := 0) (by simp)
    subst hao
    have hb0 : b < B := h5 _ rfl
    have hb1 : b < w.heap.size := Nat.lt_trans hb0 hlt
    have hb2 : b ≠ B := Nat.ne_of_lt hb0
    have ht := reads_tail h4
    obtain ⟨tk, ts, tn, ta⟩ := t
    have d0 : w.cell? ⟨b, off, none⟩ = some (.int .i64 tk) := by have := hc 0 (by decide); simpa [tkC] using this
    have d1 : w.cell? ⟨b, off + 1, none⟩ = some (.string ts) := by have := hc 1 (by decide); simpa [tkC] using this
    have d2 : w.cell? ⟨b, off + 2, none⟩ = some (.int .i64 tn) := by have := hc 2 (by decide); simpa [tkC] using this
    have d3 : w.cell? ⟨b, off + 3, none⟩ = some (.int .i64 ta) := by have := hc 3 (by decide); simpa [tkC] using this
    rw [List.length_cons] at c0 h2
    have hlen0 : (((r.length + 1 : Nat) : Int) == 0) = false := by rw [beq_eq_false_iff_ne]; omega
    have hup : (0 : Int) < ((r.length + 1 : Nat) : Int) := by omega
    unfold tokV at hq1
    dsimp only at hq1
    have f0 : w.frozen? ⟨B, 0, none⟩ = false := by simp [World.frozen?, h1]
    obtain ⟨L, hL⟩ : ∃ L, L = r.length + 1 := ⟨_, rfl⟩
    rw [← hL] at c0 h2 hlen0 hup
    have HL := Lib.hid hL
    have HQ := Lib.hid hq1
    have H1 := Lib.hid h1
    have HT := Lib.hid ht
    clear hc h4 h5 hq hq1 h1 ht hL
    cases hqt : q (tk, ts, tn, ta) with
    | false =>
      rw [hqt] at HQ
      have hnx : nx q ((tk, ts, tn, ta) :: r) = (none, (tk, ts, tn, ta) :: r) := by rw [nx, if_neg (by rw [hqt]; simp)]
      rw [hnx]
      have HR := Lib.hid hR2
      clear hR2 hqt hnx
      go_enter Tryz.func97, Tryz.ntmps97
      go_wp2_with (first
        | (go_at_call 140; (with_reducible refine (HQ.out _ (Base.bel_)).mono ?_); rintro e w3 ⟨rfl, p3⟩; have c0' := cell_below c0 (p3.from (below_one _)); have d0' := cell_below d0 (p3.from (below_one _)); have d1' := cell_below d1 (p3.from (below_one _)); have d2' := cell_below d2 (p3.from (below_one _)); have d3' := cell_below d3 (p3.from (below_one _)); have hl' := lt_of_cell c0'; have hm' := lt_of_cell d0'; have hf' := frozen_below c0 f0 (p3.from (below_one _)); have hz := new_facts p3; obtain ⟨e0, e1, e2, e3, ef, el⟩ := hz; have hne := fun (X : World) (v : Value) (i : Nat) => set_other X B w.heap.size v i hlt; have hnf := fun (X : World) (v : Value) (i : Nat) => set_frozen X B w.heap.size v i)
        | fail)
      obtain ⟨g1, g2⟩ := fin_none (v0 := .int .i64 0) (v1 := .string ⟨#[]⟩) (v2 := .int .i64 0) (v3 := .int .i64 0) p3
      obtain ⟨y0, y1, y2, y3⟩ := four g1
      refine bodyPost_ret (v := .tuple #[tokV zT, .bool false]) (by simp [results, Tryz.results97, go_sem, tokV, zT, y0, y1, y2, y3]) rfl ⟨rfl, HR.out _ g2, grown_of_below g2 _⟩
    | true =>
      rw [hqt] at HQ
      have hnx : nx q ((tk, ts, tn, ta) :: r) = (some (tk, ts, tn, ta), r) := by rw [nx, if_pos hqt]
      rw [hnx]
      clear hR2 hqt hnx
      go_enter Tryz.func97, Tryz.ntmps97
      go_wp2_with (first
        | (go_at_call 140; (with_reducible refine (HQ.out _ (Base.bel_)).mono ?_); rintro e w3 ⟨rfl, p3⟩; have c0' := cell_below c0 (p3.from (below_one _)); have d0' := cell_below d0 (p3.from (below_one _)); have d1' := cell_below d1 (p3.from (below_one _)); have d2' := cell_below d2 (p3.from (below_one _)); have d3' := cell_below d3 (p3.from (below_one _)); have hl' := lt_of_cell c0'; have hm' := lt_of_cell d0'; have hf' := frozen_below c0 f0 (p3.from (below_one _)); have hz := new_facts p3; obtain ⟨e0, e1, e2, e3, ef, el⟩ := hz; have hne := fun (X : World) (v : Value) (i : Nat) => set_other X B w.heap.size v i hlt; have hnf := fun (X : World) (v : Value) (i : Nat) => set_frozen X B w.heap.size v i)
        | fail)
      · obtain ⟨g1, g2, g3⟩ := fin_facts (v := .slice (some ⟨b, off, none⟩) (L - 1) 0) (v0 := .int .i64 tk) (v1 := .string ts) (v2 := .int .i64 tn) (v3 := .int .i64 ta) (o := .cells #[.int .i64 tk, .string ts, .int .i64 tn, .int .i64 ta] 96) hlt H1.out p3
        obtain ⟨y0, y1, y2, y3⟩ := four g2
        have hl := HL.out
        have hr0 : r = [] := List.eq_nil_of_length_eq_zero (by omega)
        refine bodyPost_ret (v := .tuple #[tokV (tk, ts, tn, ta), .bool true]) (by simp [results, Tryz.results97, go_sem, tokV, y0, y1, y2, y3]) rfl ⟨rfl, ?_, g3⟩
        subst hr0
        obtain rfl : L = 1 := hl
        refine ⟨some ⟨b, off, none⟩, 0, g1, Nat.le_refl _, Nat.zero_le _, .inl rfl, ?_⟩
        intro a ha; injection ha with ha; subst ha; exact hb0
      · obtain ⟨g1, g2, g3⟩ := fin_facts (v := .slice (some ⟨b, off + 4, none⟩) (L - 1) (cap - 1)) (v0 := .int .i64 tk) (v1 := .string ts) (v2 := .int .i64 tn) (v3 := .int .i64 ta) (o := .cells #[.int .i64 tk, .string ts, .int .i64 tn, .int .i64 ta] 96) hlt H1.out p3
        obtain ⟨y0, y1, y2, y3⟩ := four g2
        have hl := HL.out
        refine bodyPost_ret (v := .tuple #[tokV (tk, ts, tn, ta), .bool true]) (by simp [results, Tryz.results97, go_sem, tokV, y0, y1, y2, y3]) rfl ⟨rfl, ?_, g3⟩
        have hl1 : L - 1 = r.length := by rw [hl]; exact Nat.add_sub_cancel _ _
        have a1 : r.length ≤ cap - 1 := by have := h2; rw [hl] at this; exact Nat.le_sub_one_of_lt this
        have a2 : cap - 1 ≤ maxLen := Nat.le_trans (Nat.sub_le _ _) HCAP.out
        refine ⟨some ⟨b, off + 4, none⟩, cap - 1, g1.trans (by rw [hl1]), a1, a2, reads_kept HT.out g3 ?_, ?_⟩
        · intro a ha; injection ha with ha; subst ha; exact ⟨hb1, hb2⟩
        · intro a ha; injection ha with ha; subst ha; exact hb0
end Go.Proofs.YtdkngidangfkiaaGreatDoor.Cmd
