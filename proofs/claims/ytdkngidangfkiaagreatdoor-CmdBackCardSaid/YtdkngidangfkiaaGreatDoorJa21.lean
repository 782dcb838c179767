/-
  Joined out of: The walk of the program's Same of commands.
-/
import Derived.Test.YtdkngidangfkiaaGreatDoorJa09
import Derived.Test.YtdkngidangfkiaaGreatDoorJa11
namespace Go.Proofs.YtdkngidangfkiaaGreatDoor.Cmd
open Go.RowKit
open Base Shape
set_option linter.unusedVariables false
set_option linter.unusedSimpArgs false
set_option maxRecDepth 100000 in
theorem run_dep_neq (W : World) (a b c d : Int) : (binOp .neq 64 (.agg #[.int .i64 a, .int .i64 b]) (.agg #[.int .i64 c, .int .i64 d])).run Tryz.prog W = .ok (.bool (!decide ((a, b) = (c, d)))) W := by
  rw [run_neq_struct, run_equalIn_agg (ht := by simp [Program.fieldsOf, Tryz.underlying64]) (hp := by kernel_rfl)]
  simp only [Program.fieldsOf, Tryz.underlying64, Op.eqFields]
  simp [go_sem, Tryz.underlying3]
  by_cases h1 : a = c
  · by_cases h2 : b = d <;> simp [h1, h2]
  · simp [h1]
theorem run_dep_nguard (W : World) (x y : Operand) (xs ys : Array Value) : (eqGuard .neq 64 x y (.agg xs) (.agg ys)).run Tryz.prog W = .ok () W := run_eqGuard_agg W _ _ x y xs ys (by kernel_rfl)
set_option maxRecDepth 100000 in
set_option maxHeartbeats 2000000 in
theorem equald_any (a b : Option Addr) (la lb ca cb : Nat) (x y : List Alt) (w : World) (hla : x.length = la) (hlb : y.length = lb) (hxl : la ≤ maxLen) (hyl : lb ≤ maxLen) (hx : ReadsS 2 altC w a x) (hy : ReadsS 2 altC w b y) :
    Calls Tryz.prog 37 #[.slice a la ca, .slice b lb cb] w fun e w' => e = .returned (.bool (sameL x y)) ∧ Below w.heap.size w w' := by
  subst hla hlb
  unfold maxLen at hxl hyl
  have HX := Lib.hid hx
  have HY := Lib.hid hy
  clear hx hy
  obtain ⟨S, hS⟩ : ∃ S, S = sameL x y := ⟨_, rfl⟩
  rw [← hS]
  by_cases hl : x.length = y.length
  · have hd : ((x.length : Int) != (y.length : Int)) = false := by rw [bne_eq_false_iff_eq]; omega
    have HS := Lib.hid hS
    clear hS
    go_enter Tryz.func37, Tryz.ntmps37
    go_wp2
    go_loopw [13] (fun i wr => ∃ k : Nat, i = .int .i64 (k : Int) ∧ k ≤ x.length ∧ sameL (x.drop k) (y.drop k) = S ∧ Below w.heap.size w wr) (fun i _ => x.length - (intOf i).toNat)
    case atStart => exact ⟨0, rfl, Nat.zero_le _, HS.out.symm, Below.refl _ _⟩
    case round =>
      obtain ⟨k, rfl, hk, hs, hb⟩ := hrel
      have HB := Lib.hid hb
      by_cases hp : k < x.length
      · have hp2 : k < y.length := by omega
        obtain ⟨ab, ao, rfl, a0, a1⟩ := alt_cells (HX.out.below altC_length hb) hp
        obtain ⟨bb, bo, rfl, b0, b1⟩ := alt_cells (HY.out.below altC_length hb) hp2
        have hye := sameL_step hp hp2
        have hno := sameL_no hp hp2
        obtain ⟨⟨k1, n1⟩, hX⟩ : ∃ X : Alt, X = x[k] := ⟨_, rfl⟩
        obtain ⟨⟨k2, n2⟩, hY⟩ : ∃ Y : Alt, Y = y[k] := ⟨_, rfl⟩
        rw [← hX] at a0 a1 hye hno
        rw [← hY] at b0 b1 hye hno
        dsimp only at a0 a1 b0 b1
        have hlow : (0 : Int) ≤ (k : Int) := by omega
        have hup1 : (k : Int) < ((x.length : Nat) : Int) := by omega
        have hup2 : (k : Int) < ((y.length : Nat) : Int) := by omega
        have hq := fun W => run_dep_neq W k1 n1 k2 n2
        have hg := fun W (x y : Operand) => run_dep_nguard W x y #[.int .i64 k1, .int .i64 n1] #[.int .i64 k2, .int .i64 n2]
        by_cases he : ((k1, n1) : Alt) = (k2, n2)
        · have HN := Lib.hid ((hye he).symm.trans hs)
          rw [decide_eq_true he] at hq
          simp only [Bool.not_true] at hq
          clear hX hY hb hs hye hno he
          go_wp2
          go_quiet (fail)
          go_wp2
          refine ⟨⟨k + 1, by go_num, by omega, HN.out, Base.below_drewN HB.out _⟩, ?_⟩
          simp [intOf]; omega
        · have HN := Lib.hid ((hno he).symm.trans hs)
          rw [decide_eq_false he] at hq
          simp only [Bool.not_false] at hq
          clear hX hY hb hs hye hno he
          go_wp2
          go_quiet (fail)
          go_wp2
          go_ret
          exact ⟨ret_bool HN.out, Base.below_drewN HB.out _⟩
      · have HN : Hid (true = S) := Lib.hid (by rw [← hs, List.drop_of_length_le (by omega), List.drop_of_length_le (by omega)]; rfl)
        go_wp2
        go_ret
        exact ⟨ret_bool HN.out, HB.out⟩
  · have hd : ((x.length : Int) != (y.length : Int)) = true := by rw [bne_iff_ne]; omega
    have HN : Hid (false = S) := Lib.hid (by rw [hS]; unfold sameL; symm; rw [decide_eq_false_iff_not]; intro h; rw [h] at hl; exact hl rfl)
    clear hS
    go_enter Tryz.func37, Tryz.ntmps37
    go_wp2
    go_ret
    exact ⟨ret_bool HN.out, Below.refl _ _⟩
theorem tl_eq (a b : ByteArray) : (a.toList = b.toList) = (a = b) := by
  have := Runes.str_eq a b
  rw [Bool.eq_iff_iff, beq_iff_eq, decide_eq_true_iff] at this
  exact propext this
def cmdV (c : Co) (va vd : Value) : Value :=
  .agg #[.int .i64 c.kind, .int .i64 c.job, .string c.name, .string c.user, .string c.account, .int .i64 c.sk, va, .int .i64 c.mn, .int .i64 c.mx, .int .i64 c.wl,
    .int .i64 c.prio, .bool c.hasPrio, .int .i64 c.time, .bool c.hasTime, vd, .int .i64 c.node, .int .i64 c.nodes, .int .i64 c.frm]
def Row (w : World) (v : Value) (zs : List Alt) : Prop := ∃ ao cap, v = .slice ao zs.length cap ∧ zs.length ≤ cap ∧ cap ≤ maxLen ∧ ReadsS 2 altC w ao zs ∧ (ao = none → cap = 0)
theorem Row.below {w w' : World} {v : Value} {zs : List Alt} (h : Row w v zs) (hb : Below w.heap.size w w') : Row w' v zs := by
  obtain ⟨ao, cap, h1, h2, h3, h4, h5⟩ := h
  exact ⟨ao, cap, h1, h2, h3, h4.below altC_length hb, h5⟩
theorem Row.nil (w : World) : Row w (.slice none 0 0) [] := ⟨none, 0, rfl, Nat.le_refl _, Nat.zero_le _, .inl rfl, fun _ => rfl⟩
theorem tail_cells {W : World} {B : Nat} {v0 v1 v2 v3 v4 v5 v6 v7 v8 v9 v10 v11 v12 v13 v14 v15 v16 v17 : Value} {T : TypeId} (h : W.heap[B]? = some (.cells #[v0, v1, v2, v3, v4, v5, v6, v7, v8, v9, v10, v11, v12, v13, v14, v15, v16, v17] T)) :
    W.cell? ⟨B, 10, none⟩ = some v10 ∧ W.cell? ⟨B, 11, none⟩ = some v11 ∧ W.cell? ⟨B, 12, none⟩ = some v12 ∧ W.cell? ⟨B, 13, none⟩ = some v13 ∧ W.cell? ⟨B, 14, none⟩ = some v14 ∧ W.cell? ⟨B, 15, none⟩ = some v15 ∧ W.cell? ⟨B, 16, none⟩ = some v16 ∧ W.cell? ⟨B, 17, none⟩ = some v17 := by
  simp [World.cell?, h]
theorem two_boxes {w w1 : World} {A B : Obj} (p : Below ((w.alloc A).alloc B).heap.size ((w.alloc A).alloc B) w1) : w1.heap[w.heap.size]? = some A ∧ w1.heap[w.heap.size + 1]? = some B := by
  have h1 := p.block w.heap.size (by simp; omega)
  have h2 := p.block (w.heap.size + 1) (by simp)
  rw [Lib.alloc_old _ _ _ (by simp), heap_alloc_new] at h1
  have h3 := heap_alloc_new (w.alloc A) B
  rw [World.size_alloc] at h3
  rw [h3] at h2
  exact ⟨h1, h2⟩
set_option maxRecDepth 100000 in
set_option maxHeartbeats 4000000 in
theorem same_any (a b : Co) (va vd ua ud : Value) (w : World) (h1 : Row w va a.alts) (h2 : Row w vd a.after) (h3 : Row w ua b.alts) (h4 : Row w ud b.after) :
    Calls Tryz.prog 13 #[cmdV a va vd, cmdV b ua ud] w fun e w' => e = .returned (.bool (sameC a b)) ∧ Below w.heap.size w w' := by
  obtain ⟨a1, a2, a3, a4, a5, a6, a7, a8, a9, a10, a11, a12, a13, a14, a15, a16, a17, a18⟩ := a
  obtain ⟨b1, b2, b3, b4, b5, b6, b7, b8, b9, b10, b11, b12, b13, b14, b15, b16, b17, b18⟩ := b
  obtain ⟨p1, q1, rfl, l1, m1, r1, n1⟩ := h1
  obtain ⟨p2, q2, rfl, l2, m2, r2, n2⟩ := h2
  obtain ⟨p3, q3, rfl, l3, m3, r3, n3⟩ := h3
  obtain ⟨p4, q4, rfl, l4, m4, r4, n4⟩ := h4
  unfold cmdV sameC
  dsimp only at *
  have cS := fun (w2 : World) (hb : Below w.heap.size w w2) => ssame_any a6 p1 a7.length q1 a7 a8 a9 a10 b6 p3 b7.length q3 b7 b8 b9 b10 w2 rfl rfl (by omega) (by omega) (r1.below altC_length hb) (r3.below altC_length hb)
  have cD := fun (w2 : World) (hb : Below w.heap.size w w2) => equald_any p2 p4 a15.length b15.length q2 q4 a15 b15 w2 rfl rfl (by omega) (by omega) (r2.below altC_length hb) (r4.below altC_length hb)
  have CS := Lib.hid cS
  have CD := Lib.hid cD
  clear cS cD r1 r2 r3 r4 n1 n2 n3 n4
  go_enter Tryz.func13, Tryz.ntmps13
  go_wp2_with (first
    | (go_at_call 36; (with_reducible refine (CS.out _ (by (focus repeat (first | exact Below.refl _ _ | assumption | (exact Hid.out (by assumption)) | (with_reducible refine Below.drew ?_) | (with_reducible refine Base.below_drewN ?_ _) | (refine Below.from (below_one _) ?_) | (refine Below.from (below_conv _ _ _) ?_) | (refine Below.setCell ?_ (by simp <;> omega) _) | (refine Below.from (by assumption) ?_))))).mono ?_); rintro e w2 ⟨rfl, p2⟩; obtain ⟨k1, k2⟩ := two_boxes p2; obtain ⟨x10, x11, x12, x13, x14, x15, x16, x17⟩ := tail_cells k1; obtain ⟨y10, y11, y12, y13, y14, y15, y16, y17⟩ := tail_cells k2; clear k1 k2)
    | (go_at_call 37; (with_reducible refine (CD.out _ (by (focus repeat (first | exact Below.refl _ _ | assumption | (exact Hid.out (by assumption)) | (with_reducible refine Below.drew ?_) | (with_reducible refine Base.below_drewN ?_ _) | (refine Below.from (below_one _) ?_) | (refine Below.from (below_conv _ _ _) ?_) | (refine Below.setCell ?_ (by simp <;> omega) _) | (refine Below.from (by assumption) ?_))))).mono ?_); rintro e w4 ⟨rfl, p4⟩; have x15' := cell_below x15 p4; have x16' := cell_below x16 p4; have x17' := cell_below x17 p4; have y15' := cell_below y15 p4; have y16' := cell_below y16 p4; have y17' := cell_below y17 p4)
    | fail)
  all_goals first
    | (go_ret; refine ⟨ret_bool ?_, by (focus repeat (first | exact Below.refl _ _ | assumption | (exact Hid.out (by assumption)) | (with_reducible refine Below.drew ?_) | (with_reducible refine Base.below_drewN ?_ _) | (refine Below.from (below_one _) ?_) | (refine Below.from (below_conv _ _ _) ?_) | (refine Below.setCell ?_ (by simp <;> omega) _) | (refine Below.from (by assumption) ?_)))⟩; (try simp only [tl_eq] at *); simp [*]; done)
    | trace_state
end Go.Proofs.YtdkngidangfkiaaGreatDoor.Cmd
