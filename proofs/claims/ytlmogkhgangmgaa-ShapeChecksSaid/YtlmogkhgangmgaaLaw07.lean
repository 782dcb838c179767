/-
  The walks of the statements of layer 7: 'awake', 'Few', ShapeChecks, ShapeTurns.
-/
import Derived.Test.YtlmogkhgangmgaaShapeRAllow
import Derived.Test.YtlmogkhgangmgaaShapeRWall
import Derived.Test.YtlmogkhgangmgaaShapeRef
import Derived.Deep.RegionHeld3
namespace Go.Proofs.Ytlmogkhgangmgaa.Shape
open Go.RowKit
open Base
set_option linter.unusedVariables false
set_option linter.unusedSimpArgs false

set_option maxRecDepth 100000 in
theorem run_alt_eql (W : World) (a b c d : Int) : (binOp .eql 38 (.agg #[.int .i64 a, .int .i64 b]) (.agg #[.int .i64 c, .int .i64 d])).run Try.prog W = .ok (.bool (decide ((a, b) = (c, d)))) W := by
  rw [run_eql_struct, run_equalIn_agg (ht := by simp [Program.fieldsOf, Try.underlying38]) (hp := by kernel_rfl)]
  simp only [Program.fieldsOf, Try.underlying38, Op.eqFields]
  simp [go_sem, Try.underlying3]
  by_cases h1 : a = c
  · by_cases h2 : b = d <;> simp [h1, h2]
  · simp [h1]
theorem run_alt_eguard (W : World) (x y : Operand) (xs ys : Array Value) : (eqGuard .eql 38 x y (.agg xs) (.agg ys)).run Try.prog W = .ok () W := run_eqGuard_agg W _ _ x y xs ys (by kernel_rfl)

set_option maxRecDepth 100000 in
theorem run_wall_field (W : World) (v0 v1 v2 v3 v4 : Value) : (Instr.field 24 (.agg #[v0, v1, v2, v3, v4]) 4).run Try.prog W = .ok v4 W := by
  simp [Instr.field, run_underlying Try.underlying24, go_sem, part, asAgg, Result.andThen, Sem.run_pure, Try.isAgg3, Try.sizeOf3]

set_option maxRecDepth 100000 in
set_option maxHeartbeats 4000000 in
theorem awake_any (w : World) :
    Calls Try.prog 8 #[] w fun e w' => e = .returned (.bool true) ∧ Below w.heap.size w w' := by
  have k0 : (0 : Nat) ≤ maxLen := Nat.zero_le _
  have e1 : optL 3 [] 2 4 60 = [(4, 60), (3, 60), (2, 60)] := by decide
  have e2 : chkE 3 [] 2 4 60 = 0 := by decide
  have e3 : chkE 0 [] 0 0 0 = 70 := by decide
  have e4 : bestN lessB [(4, 60), (3, 60), (2, 60)] = 2 := by decide
  have e5 : bestN moreB [(4, 60), (3, 60), (2, 60)] = 4 := by decide
  have e6 : wallW 3 60 9 = 9 := by decide
  have e7 : allowB 3 [(4, 60), (3, 60), (2, 60)] 2 4 0 3 = true := by decide
  have e8 : allowB 3 [(4, 60), (3, 60), (2, 60)] 2 4 3 3 = false := by decide
  have e9 : sameB 3 [] 2 4 60 3 [] 2 4 60 = true := by decide
  have c1 := fun W => soptions_any 3 none 0 0 [] 2 4 60 W rfl (Nat.le_refl _) k0 (.inl rfl)
  have c2 := fun W => check_any 3 none 0 0 [] 2 4 60 W rfl (Nat.le_refl _) k0 (.inl rfl)
  have c3 := fun W => check_any 0 none 0 0 [] 0 0 0 W rfl (Nat.le_refl _) k0 (.inl rfl)
  have c4 := fun W => sleast_any 3 none 0 0 [] 2 4 60 W rfl (Nat.le_refl _) k0 (.inl rfl)
  have c5 := fun W => smost_any 3 none 0 0 [] 2 4 60 W rfl (Nat.le_refl _) k0 (.inl rfl)
  have c6 := fun W => swalls_any 3 none 0 0 [] 2 4 60 9 W rfl (Nat.le_refl _) k0 (Nat.zero_le _) (.inl rfl)
  have c7 := fun W => sallows_any 3 none 0 0 [] 2 4 60 0 3 W rfl (Nat.le_refl _) k0 (.inl rfl)
  have c8 := fun W => sallows_any 3 none 0 0 [] 2 4 60 3 3 W rfl (Nat.le_refl _) k0 (.inl rfl)
  have c9 := fun W => ssame_any 3 none 0 0 [] 2 4 60 3 none 0 0 [] 2 4 60 W rfl rfl k0 k0 (.inl rfl) (.inl rfl)
  unfold WallSays at c6
  simp only [e1, e2, e3, e4, e5, e6, e7, e8, e9, List.length_cons, List.length_nil, Nat.reduceAdd] at c1 c2 c3 c4 c5 c6 c7 c8 c9
  have hq := fun W => run_alt_eql W 4 60 4 60
  simp only [decide_true] at hq
  have hfd := fun W (v : Value) => run_wall_field W (.int .i64 3) v (.int .i64 2) (.int .i64 4) (.int .i64 9)
  have hg := fun W (x y : Operand) => run_alt_eguard W x y #[.int .i64 4, .int .i64 60] #[.int .i64 4, .int .i64 60]
  have C1 := Lib.hid c1
  have C2 := Lib.hid c2
  have C3 := Lib.hid c3
  have C4 := Lib.hid c4
  have C5 := Lib.hid c5
  have C6 := Lib.hid c6
  have C7 := Lib.hid c7
  have C8 := Lib.hid c8
  have C9 := Lib.hid c9
  have HSB := Lib.hid (SBox.new w 3 (.slice none 0 0) 2 4 60)
  clear c1 c2 c3 c4 c5 c6 c7 c8 c9 e1 e2 e3 e4 e5 e6 e7 e8 e9
  go_enter Try.func8, Try.ntmps8
  go_wp2_with (first
    | (go_at_call 12; (with_reducible refine (C1.out _).mono ?_); rintro e w1 ⟨ao, cap, rfl, hr, hz, hc1, hc2, p1⟩; have HR := Lib.hid hr; clear hr; obtain ⟨x0, x1, x2, x3, x4⟩ := (HSB.out.below p1).cells)
    | (go_at_call 9; (with_reducible refine (C2.out _).mono ?_); rintro e w2 ⟨rfl, p2⟩)
    | (go_at_call 9; (with_reducible refine (C3.out _).mono ?_); rintro e w3 ⟨rfl, p3⟩; have q3 := p3.from p2; obtain ⟨bb, bo, rfl, l0, l1⟩ := alt_cells (j := 0) (HR.out.below altC_length q3) (by simp); simp at l0 l1; obtain ⟨x0, x1, x2, x3, x4⟩ := (HSB.out.below (q3.from p1)).cells)
    | (go_at_call 14; (with_reducible refine (C4.out _).mono ?_); rintro e w4 ⟨rfl, p4⟩; have q4 := p4.from (q3.from p1); obtain ⟨x0, x1, x2, x3, x4⟩ := (HSB.out.below q4).cells)
    | (go_at_call 16; (with_reducible refine (C5.out _).mono ?_); rintro e w5 ⟨rfl, p5⟩; have q5 := p5.from q4; obtain ⟨x0, x1, x2, x3, x4⟩ := (HSB.out.below q5).cells)
    | (go_at_call 18; (with_reducible refine (C6.out _).mono ?_); rintro e w6 ⟨ao6, cap6, rfl, _, _, _, _, p6⟩; have q6 := p6.from q5; obtain ⟨x0, x1, x2, x3, x4⟩ := (HSB.out.below q6).cells)
    | (go_at_call 21; (with_reducible refine (C7.out _).mono ?_); rintro e w7 ⟨rfl, p7⟩; have q7 := p7.from q6; obtain ⟨x0, x1, x2, x3, x4⟩ := (HSB.out.below q7).cells)
    | (go_at_call 21; (with_reducible refine (C8.out _).mono ?_); rintro e w8 ⟨rfl, p8⟩; have q8 := p8.from q7; obtain ⟨x0, x1, x2, x3, x4⟩ := (HSB.out.below q8).cells)
    | (go_at_call 23; (with_reducible refine (C9.out _).mono ?_); rintro e w9 ⟨rfl, p9⟩; have q9 := p9.from q8)
    | fail)
  go_ret
  exact ⟨rfl, q9.from (below_one _)⟩

def fewB (len : Nat) : Bool := decide (len ≤ 100)
set_option maxHeartbeats 1000000 in
theorem few_any (k : Int) (ao : Option Addr) (len cap : Nat) (mn mx wl : Int) (w : World) (hl : len ≤ maxLen) :
    Calls Try.prog 7 #[.agg #[.int .i64 k, .slice ao len cap, .int .i64 mn, .int .i64 mx, .int .i64 wl]] w fun e w' => e = .returned (.bool (fewB len)) ∧ Below w.heap.size w w' := by
  unfold maxLen at hl
  by_cases h : len ≤ 100
  · have HX : Hid (true = fewB len) := Lib.hid (by unfold fewB; rw [decide_eq_true h])
    go_enter Try.func7, Try.ntmps7
    go_wp2
    go_ret
    exact ⟨ret_bool (by rw [← HX.out]; simp; omega), by (focus repeat (first | exact Below.refl _ _ | assumption | (exact Hid.out (by assumption)) | (with_reducible refine Below.drew ?_) | (with_reducible refine Base.below_drewN ?_ _) | (refine Below.from (below_one _) ?_) | (refine Below.from (below_conv _ _ _) ?_) | (refine Below.setCell ?_ (by simp <;> omega) _) | (refine Below.from (by assumption) ?_)))⟩
  · have HX : Hid (false = fewB len) := Lib.hid (by unfold fewB; rw [decide_eq_false h])
    go_enter Try.func7, Try.ntmps7
    go_wp2
    go_ret
    exact ⟨ret_bool (by rw [← HX.out]; simp; omega), by (focus repeat (first | exact Below.refl _ _ | assumption | (exact Hid.out (by assumption)) | (with_reducible refine Below.drew ?_) | (with_reducible refine Base.below_drewN ?_ _) | (refine Below.from (below_one _) ?_) | (refine Below.from (below_conv _ _ _) ?_) | (refine Below.setCell ?_ (by simp <;> omega) _) | (refine Below.from (by assumption) ?_)))⟩

set_option maxRecDepth 100000 in
set_option maxHeartbeats 4000000 in
theorem shapeChecks_any (k : Int) (ao : Option Addr) (len cap : Nat) (zs : List Alt) (mn mx wl : Int) (w : World) (hlen : zs.length = len) (hl : len ≤ cap) (hcap : cap ≤ maxLen) (hr : ReadsS 2 altC w ao zs) :
    Calls Try.prog 3 #[.agg #[.int .i64 k, .slice ao len cap, .int .i64 mn, .int .i64 mx, .int .i64 wl]] w fun e w' => e = .returned (.bool true) ∧ Below w.heap.size w w' := by
  have hl64 : len ≤ 9223372036854775807 := by unfold maxLen at hcap; omega
  have cF := fun w => few_any k ao len cap mn mx wl w (by omega)
  have HSB := Lib.hid (SBox.new w k (.slice ao len cap) mn mx wl)
  cases hf : fewB len with
  | false =>
    simp only [hf] at cF
    have CF := Lib.hid cF
    clear cF hr hlen hf
    go_enter Try.func3, Try.ntmps3
    go_wp2_with (first
      | (go_at_call 7; (with_reducible refine (CF.out _).mono ?_); rintro e w1 ⟨rfl, p1⟩)
      | (go_at_call 8; (with_reducible refine (awake_any _).mono ?_); rintro e w2 ⟨rfl, p2⟩)
      | fail)
    go_ret
    exact ⟨rfl, by (focus repeat (first | exact Below.refl _ _ | assumption | (exact Hid.out (by assumption)) | (with_reducible refine Below.drew ?_) | (with_reducible refine Base.below_drewN ?_ _) | (refine Below.from (below_one _) ?_) | (refine Below.from (below_conv _ _ _) ?_) | (refine Below.setCell ?_ (by simp <;> omega) _) | (refine Below.from (by assumption) ?_)))⟩
  | true =>
    simp only [hf] at cF
    have CF := Lib.hid cF
    have c1 := fun (w2 : World) (hb : Below w.heap.size w w2) => check_any k ao len cap zs mn mx wl w2 hlen hl hcap (hr.below altC_length hb)
    have c2 := fun (w2 : World) (hb : Below w.heap.size w w2) => rcheck_any k ao len cap zs mn mx wl w2 hlen hl hcap (hr.below altC_length hb)
    have c3 := fun (w2 : World) (hb : Below w.heap.size w w2) => soptions_any k ao len cap zs mn mx wl w2 hlen hl hcap (hr.below altC_length hb)
    have c4 := fun (w2 : World) (hb : Below w.heap.size w w2) => roptions_any k ao len cap zs mn mx wl w2 hlen hl hcap (hr.below altC_length hb)
    have c5 := fun (w2 : World) (hb : Below w.heap.size w w2) => sleast_any k ao len cap zs mn mx wl w2 hlen hl hcap (hr.below altC_length hb)
    have c6 := fun (w2 : World) (hb : Below w.heap.size w w2) => rleast_any k ao len cap zs mn mx wl w2 hlen hl hcap (hr.below altC_length hb)
    have c7 := fun (w2 : World) (hb : Below w.heap.size w w2) => smost_any k ao len cap zs mn mx wl w2 hlen hl hcap (hr.below altC_length hb)
    have c8 := fun (w2 : World) (hb : Below w.heap.size w w2) => rmost_any k ao len cap zs mn mx wl w2 hlen hl hcap (hr.below altC_length hb)
    unfold RowSays at c4
    have hZ48 := (optL_good k zs mn mx wl).2
    generalize optL k zs mn mx wl = Z at c3 c4 c5 c6 c7 c8 hZ48
    generalize bestN lessB Z = L at c5 c6
    generalize bestN moreB Z = M at c7 c8
    generalize chkE k zs mn mx wl = E at c1 c2
    have c9 := fun (a b : Option Addr) (ca cb : Nat) (W : World) (hx : ReadsS 2 altC W a Z) (hy : ReadsS 2 altC W b Z) => rsamealts_any a b Z.length Z.length ca cb Z Z W rfl rfl (by unfold maxLen; omega) (by unfold maxLen; omega) hx hy
    have hss : sameL Z Z = true := by unfold sameL; rw [decide_eq_true rfl]
    simp only [hss] at c9
    have C1 := Lib.hid c1
    have C2 := Lib.hid c2
    have C3 := Lib.hid c3
    have C4 := Lib.hid c4
    have C5 := Lib.hid c5
    have C6 := Lib.hid c6
    have C7 := Lib.hid c7
    have C8 := Lib.hid c8
    have C9 := Lib.hid c9
    have t1 : (E == E) = true := by simp
    have t2 : (L == L) = true := by simp
    have t3 : (M == M) = true := by simp
    clear c1 c2 c3 c4 c5 c6 c7 c8 c9 cF hr hlen hf hss
    go_enter Try.func3, Try.ntmps3
    go_wp2_with (first
      | (go_at_call 7; (with_reducible refine (CF.out _).mono ?_); rintro e w1 ⟨rfl, p1⟩; obtain ⟨r0, r1, r2, r3, r4⟩ := (HSB.out.below p1).cells)
      | fail)
    have hb1 : Below w.heap.size w w1 := by (focus repeat (first | exact Below.refl _ _ | assumption | (exact Hid.out (by assumption)) | (with_reducible refine Below.drew ?_) | (with_reducible refine Base.below_drewN ?_ _) | (refine Below.from (below_one _) ?_) | (refine Below.from (below_conv _ _ _) ?_) | (refine Below.setCell ?_ (by simp <;> omega) _) | (refine Below.from (by assumption) ?_)))
    go_region_held3 (fun W => W.cell? ⟨w.heap.size, 0, none⟩ = some (.int .i64 k) ∧ W.cell? ⟨w.heap.size, 1, none⟩ = some (.slice ao len cap) ∧ W.cell? ⟨w.heap.size, 2, none⟩ = some (.int .i64 mn) ∧ W.cell? ⟨w.heap.size, 3, none⟩ = some (.int .i64 mx) ∧ W.cell? ⟨w.heap.size, 4, none⟩ = some (.int .i64 wl) ∧ Below w.heap.size w W)
      (first | exact ⟨r0, r1, r2, r3, r4, hb1.drew⟩ | exact ⟨x0, x1, x2, x3, x4, xb⟩ | go_keep)
      (first
    | (go_at_call 9; refine (C1.out _ hb1.drew).mono ?_; rintro e w2 ⟨rfl, p2⟩; have x0 := cell_below (w := w1.drew) r0 p2; have x1 := cell_below (w := w1.drew) r1 p2; have x2 := cell_below (w := w1.drew) r2 p2; have x3 := cell_below (w := w1.drew) r3 p2; have x4 := cell_below (w := w1.drew) r4 p2; have xb := Below.from p2 hb1.drew)
    | (go_at_call 10; refine (C2.out _ xb).mono ?_; rintro e w3 ⟨rfl, p3⟩; replace x0 := cell_below x0 p3; replace x1 := cell_below x1 p3; replace x2 := cell_below x2 p3; replace x3 := cell_below x3 p3; replace x4 := cell_below x4 p3; replace xb := Below.from p3 xb)
    | (go_at_call 12; refine (C3.out _ xb).mono ?_; rintro e w4 ⟨ao4, cap4, rfl, y4, y5, y6, y7, p4⟩; have Y4 := Lib.hid y4; clear y4; replace x0 := cell_below x0 p4; replace x1 := cell_below x1 p4; replace x2 := cell_below x2 p4; replace x3 := cell_below x3 p4; replace x4 := cell_below x4 p4; replace xb := Below.from p4 xb)
    | (go_at_call 13; refine (C4.out _ xb).mono ?_; rintro e w5 ⟨ao5, cap5, rfl, v4, v6, v7, p5⟩; have V4 := Lib.hid v4; have W4 := Lib.hid (Y4.out.below altC_length p5); clear v4; replace x0 := cell_below x0 p5; replace x1 := cell_below x1 p5; replace x2 := cell_below x2 p5; replace x3 := cell_below x3 p5; replace x4 := cell_below x4 p5; replace xb := Below.from p5 xb)
    | (go_at_call 11; refine (C9.out _ _ _ _ _ W4.out V4.out).mono ?_; rintro e w6 ⟨rfl, p6⟩; replace x0 := cell_below x0 p6; replace x1 := cell_below x1 p6; replace x2 := cell_below x2 p6; replace x3 := cell_below x3 p6; replace x4 := cell_below x4 p6; replace xb := Below.from p6 xb)
    | (go_at_call 14; refine (C5.out _ xb).mono ?_; rintro e w7 ⟨rfl, p7⟩; replace x0 := cell_below x0 p7; replace x1 := cell_below x1 p7; replace x2 := cell_below x2 p7; replace x3 := cell_below x3 p7; replace x4 := cell_below x4 p7; replace xb := Below.from p7 xb)
    | (go_at_call 15; refine (C6.out _ xb).mono ?_; rintro e w8 ⟨rfl, p8⟩; replace x0 := cell_below x0 p8; replace x1 := cell_below x1 p8; replace x2 := cell_below x2 p8; replace x3 := cell_below x3 p8; replace x4 := cell_below x4 p8; replace xb := Below.from p8 xb)
    | (go_at_call 16; refine (C7.out _ xb).mono ?_; rintro e w9 ⟨rfl, p9⟩; replace x0 := cell_below x0 p9; replace x1 := cell_below x1 p9; replace x2 := cell_below x2 p9; replace x3 := cell_below x3 p9; replace x4 := cell_below x4 p9; replace xb := Below.from p9 xb)
    | (go_at_call 17; refine (C8.out _ xb).mono ?_; rintro e w10 ⟨rfl, p10⟩; replace x0 := cell_below x0 p10; replace x1 := cell_below x1 p10; replace x2 := cell_below x2 p10; replace x3 := cell_below x3 p10; replace x4 := cell_below x4 p10; replace xb := Below.from p10 xb)
    | (go_at_call 8; refine (awake_any _).mono ?_; rintro e w11 ⟨rfl, p11⟩; replace x0 := cell_below x0 p11; replace x1 := cell_below x1 p11; replace x2 := cell_below x2 p11; replace x3 := cell_below x3 p11; replace x4 := cell_below x4 p11; replace xb := Below.from p11 xb))
    go_wp2
    go_ret
    exact ⟨rfl, xb⟩

end Go.Proofs.Ytlmogkhgangmgaa.Shape
