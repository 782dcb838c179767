/-
  Joined out of: The walk of what stands behind a command's word. The walks of what gathers a shape, and of what spreads it.
-/
import Derived.Test.YtdkngidangfkiaaGreatDoorJa23
import Derived.Test.YtdkngidangfkiaaGreatDoorJa22
import Derived.RegionTactic
import Derived.Laws.Rows
import Derived.Laws.Tables
import Derived.Great.Ranges
import Derived.Deep.DeepMust
import Derived.Deep.Cut
namespace Go.Proofs.YtdkngidangfkiaaGreatDoor.Cmd
open Go.RowKit
open Base
open Lex (Tok tkC tkC_length tokV zT)
open Shape (altC altC_length)
set_option linter.unusedVariables false
set_option linter.unusedSimpArgs false
structure TgK (B C : Nat) (w w' : World) : Prop where
  os : w'.os = w.os
  tape : w'.tape = w.tape
  output : w'.output = w.output
  size : w.heap.size ≤ w'.heap.size
  block : ∀ k, k < w.heap.size → k ≠ B → k ≠ C → w'.heap[k]? = w.heap[k]?
theorem TgK.refl (B C : Nat) (w : World) : TgK B C w w := ⟨rfl, rfl, rfl, Nat.le_refl _, fun _ _ _ _ => rfl⟩
theorem TgK.grown {B C : Nat} {w w' : World} (g : w.grownBy w' (some B)) : TgK B C w w' := ⟨g.os, g.tape, g.output, g.size, fun k hk h1 h2 => g.block k hk (by intro e; injection e with e; exact h1 e)⟩
theorem TgK.set {B C : Nat} {w w' : World} (h : TgK B C w w') (i : Nat) (v : Value) : TgK B C w (w'.setCell ⟨C, i, none⟩ v) := by
  have g := grown_set w' ⟨C, i, none⟩ v
  exact ⟨g.os.trans h.os, g.tape.trans h.tape, g.output.trans h.output, Nat.le_trans h.size g.size, fun k hk h1 h2 => (g.block k (Nat.lt_of_lt_of_le hk h.size) (by intro e; injection e with e; exact h2 e)).trans (h.block k hk h1 h2)⟩
theorem RdAt.set {B C n : Nat} {l : List Tok} {w : World} (h : RdAt w B l n) (hBC : B < C) (i : Nat) (v : Value) : RdAt (w.setCell ⟨C, i, none⟩ v) B l n := by
  have hlt := h.lt
  obtain ⟨ao, cap, h1, h2, h3, h4, h5⟩ := h
  have g := grown_set w ⟨C, i, none⟩ v
  refine ⟨ao, cap, ?_, h2, h3, ?_, h5⟩
  · rw [g.block B hlt (by intro e; injection e with e; have : B = C := e; omega)]; exact h1
  · exact reads_kept h4 g (fun a ha => ⟨Nat.lt_trans (h5 a ha) hlt, by have := h5 a ha; show a.block ≠ C; omega⟩)
def TgSays (b B C n : Nat) (o : Option Co) (r : List Tok) (va vd : Value) (w : World) (e : Ending) (w' : World) : Prop :=
  e = .returned (.bool o.isSome) ∧ RdAt w' B r n ∧ (∃ c', COwn w' b C c' va vd ∧ ∀ c1, o = some c1 → c' = c1) ∧ TgK B C w w'
set_option maxRecDepth 100000 in
set_option maxHeartbeats 2000000 in
theorem target_any (b B C n : Nat) (c : Co) (va vd : Value) (l : List Tok) (w : World) (hR : RdAt w B l n) (hs : ∀ t ∈ l, t.2.1.size ≤ 1000000) (h : COwn w b C c va vd) (hBC : B < C) :
    Calls Tryz.prog 66 #[.pointer (some ⟨B, 0, none⟩), .pointer (some ⟨C, 0, none⟩)] w
      fun e w' => TgSays b B C n (rdTgt c l).1 (rdTgt c l).2 va vd w e w' := by
  have hlt := hR.lt
  have hltC := h.isLt
  have hBb : B < b := Nat.lt_trans hBC h.lt
  have hne : B ≠ C := by omega
  have cN := name_any B n l w hR hs
  have cD := number_any 55 #[] nodeB B n l w hR (fun t ht P w2 hb hP => numc_isNode t P w2 hP)
  have cJ := number_any 51 #[] idB B n l w hR (fun t ht P w2 hb hP => numc_isId t P w2 hP)
  unfold RSays at cN cD cJ
  have HR := Lib.hid hR
  have d0 : w.cell? ⟨C, 0, none⟩ = some (.int .i64 c.kind) := h.cell 0 _ rfl
  obtain ⟨ao, cap, q1, q2, q3, q4, q5⟩ := hR
  have c0 : w.cell? ⟨B, 0, none⟩ = some (.slice ao l.length cap) := by simp [World.cell?, q1]
  have H := Lib.hid h
  have HO := Lib.hid (fun w2 (g : w.grownBy w2 (some B)) => h.other g hBb hne)
  have CN := Lib.hid cN
  have CD := Lib.hid cD
  have CJ := Lib.hid cJ
  obtain ⟨K, hK⟩ : ∃ K, K = c.kind := ⟨_, rfl⟩
  unfold rdTgt
  rw [← hK] at d0 ⊢
  have HK := Lib.hid hK
  clear h cN cD cJ q1 q4 q5 hs hK
  unfold maxLen at q3
  unfold TgSays
  by_cases k10 : K = 10
  · rw [if_pos (.inl k10)]
    have t10 : (K == 10) = true := by simpa using k10
    clear k10
    go_enter Tryz.func66, Tryz.ntmps66
    go_wp2
    exact bodyPost_ret (v := .bool true) (by simp [results, Tryz.results66, go_sem]) rfl ⟨rfl, HR.out, ⟨c, H.out, fun c1 h1 => by simpa using h1⟩, TgK.refl _ _ _⟩
  have t10 : (K == 10) = false := by simpa using k10
  by_cases k12 : K = 12
  · have t12 : (K == 12) = true := by simpa using k12
    cases l with
    | nil =>
      rw [if_pos (.inr ⟨k12, rfl⟩)]
      rw [List.length_nil] at c0
      clear k12 k10
      go_enter Tryz.func66, Tryz.ntmps66
      go_wp2
      exact bodyPost_ret (v := .bool true) (by simp [results, Tryz.results66, go_sem]) rfl ⟨rfl, HR.out, ⟨c, H.out, fun c1 h1 => by simpa using h1⟩, TgK.refl _ _ _⟩
    | cons t r =>
      rw [if_neg (by simp [k10])]
      have tl : (((t :: r).length : Int) == 0) = false := by rw [beq_eq_false_iff_ne]; simp; omega
      have t1 : (K == 1) = false := by rw [k12]; rfl
      have t7 : (K == 7) = false := by rw [k12]; rfl
      have t8 : (K == 8) = false := by rw [k12]; rfl
      have t9 : (K == 9) = false := by rw [k12]; rfl
      rw [if_neg (by omega), if_neg (by omega)]
      clear k12 k10
      go_enter Tryz.func66, Tryz.ntmps66
      go_wp2_with (first
        | (go_at_call 100; (with_reducible refine CJ.out.mono ?_); rintro e w2 ⟨rfl, r2, g2⟩; have h2 := HO.out _ g2; have ex : w2.cell? ⟨C, 1, none⟩ = some (.int .i64 c.job) := h2.cell 1 _ rfl; have ef := h2.frozen; have el := h2.isLt; have H2 := Lib.hid h2; have R2 := Lib.hid r2; have G2 := Lib.hid g2; clear h2 r2 g2)
        | fail)
      unfold rdNum getN
      refine bodyPost_ret (v := .bool (nx (qNum idB) (t :: r)).1.isSome) (by simp [results, Tryz.results66, go_sem]) rfl ⟨by rw [Option.isSome_map, Option.isSome_map], R2.out.set hBC _ _, ⟨{ c with job := ((nx (qNum idB) (t :: r)).1.getD zT).2.2.1 }, H2.out.set 1 (.int .i64 ((nx (qNum idB) (t :: r)).1.getD zT).2.2.1) rfl rfl rfl, ?_⟩, (TgK.grown G2.out).set _ _⟩
      intro c1 h1
      rcases hx : nx (qNum idB) (t :: r) with ⟨_ | t, r⟩
      · rw [hx] at h1; simp at h1
      · rw [hx] at h1; simpa [HK.out] using h1
  have t12 : (K == 12) = false := by simpa using k12
  rw [if_neg (by rintro (h | h); exact k10 h; exact k12 h.1)]
  by_cases k1 : K = 1
  · have t1 : (K == 1) = true := by simpa using k1
    rw [if_pos k1]
    clear k1 k10 k12
    go_enter Tryz.func66, Tryz.ntmps66
    go_wp2_with (first
      | (go_at_call 99; (with_reducible refine CN.out.mono ?_); rintro e w2 ⟨rfl, r2, g2⟩; have h2 := HO.out _ g2; have ex : w2.cell? ⟨C, 2, none⟩ = some (.string c.name) := h2.cell 2 _ rfl; have ef := h2.frozen; have el := h2.isLt; have H2 := Lib.hid h2; have R2 := Lib.hid r2; have G2 := Lib.hid g2; clear h2 r2 g2)
      | fail)
    refine bodyPost_ret (v := .bool (nx qName l).1.isSome) (by simp [results, Tryz.results66, go_sem]) rfl ⟨by rw [Option.isSome_map], R2.out.set hBC _ _, ⟨{ c with name := ((nx qName l).1.getD zT).2.1 }, H2.out.set 2 (.string ((nx qName l).1.getD zT).2.1) rfl rfl rfl, ?_⟩, (TgK.grown G2.out).set _ _⟩
    intro c1 h1
    rcases hx : nx qName l with ⟨_ | t, r⟩
    · rw [hx] at h1; simp at h1
    · rw [hx] at h1; simpa [HK.out] using h1
  have t1 : (K == 1) = false := by simpa using k1
  rw [if_neg k1]
  by_cases k7 : K = 7
  · have t7 : (K == 7) = true := by simpa using k7
    rw [if_pos (.inl k7)]
    clear k7 k1 k10 k12
    go_enter Tryz.func66, Tryz.ntmps66
    go_wp2_with (first
      | (go_at_call 100; (with_reducible refine CD.out.mono ?_); rintro e w2 ⟨rfl, r2, g2⟩; have h2 := HO.out _ g2; have ex : w2.cell? ⟨C, 15, none⟩ = some (.int .i64 c.node) := h2.cell 15 _ rfl; have ef := h2.frozen; have el := h2.isLt; have H2 := Lib.hid h2; have R2 := Lib.hid r2; have G2 := Lib.hid g2; clear h2 r2 g2)
      | fail)
    unfold rdNum getN
    refine bodyPost_ret (v := .bool (nx (qNum nodeB) l).1.isSome) (by simp [results, Tryz.results66, go_sem]) rfl ⟨by rw [Option.isSome_map, Option.isSome_map], R2.out.set hBC _ _, ⟨{ c with node := ((nx (qNum nodeB) l).1.getD zT).2.2.1 }, H2.out.set 15 (.int .i64 ((nx (qNum nodeB) l).1.getD zT).2.2.1) rfl rfl rfl, ?_⟩, (TgK.grown G2.out).set _ _⟩
    intro c1 h1
    rcases hx : nx (qNum nodeB) l with ⟨_ | t, r⟩
    · rw [hx] at h1; simp at h1
    · rw [hx] at h1; simpa [HK.out] using h1
  have t7 : (K == 7) = false := by simpa using k7
  by_cases k8 : K = 8
  · have t8 : (K == 8) = true := by simpa using k8
    rw [if_pos (.inr (.inl k8))]
    clear k8 k1 k10 k12
    go_enter Tryz.func66, Tryz.ntmps66
    go_wp2_with (first
      | (go_at_call 100; (with_reducible refine CD.out.mono ?_); rintro e w2 ⟨rfl, r2, g2⟩; have h2 := HO.out _ g2; have ex : w2.cell? ⟨C, 15, none⟩ = some (.int .i64 c.node) := h2.cell 15 _ rfl; have ef := h2.frozen; have el := h2.isLt; have H2 := Lib.hid h2; have R2 := Lib.hid r2; have G2 := Lib.hid g2; clear h2 r2 g2)
      | fail)
    unfold rdNum getN
    refine bodyPost_ret (v := .bool (nx (qNum nodeB) l).1.isSome) (by simp [results, Tryz.results66, go_sem]) rfl ⟨by rw [Option.isSome_map, Option.isSome_map], R2.out.set hBC _ _, ⟨{ c with node := ((nx (qNum nodeB) l).1.getD zT).2.2.1 }, H2.out.set 15 (.int .i64 ((nx (qNum nodeB) l).1.getD zT).2.2.1) rfl rfl rfl, ?_⟩, (TgK.grown G2.out).set _ _⟩
    intro c1 h1
    rcases hx : nx (qNum nodeB) l with ⟨_ | t, r⟩
    · rw [hx] at h1; simp at h1
    · rw [hx] at h1; simpa [HK.out] using h1
  have t8 : (K == 8) = false := by simpa using k8
  by_cases k9 : K = 9
  · have t9 : (K == 9) = true := by simpa using k9
    rw [if_pos (.inr (.inr k9))]
    clear k9 k1 k10 k12
    go_enter Tryz.func66, Tryz.ntmps66
    go_wp2_with (first
      | (go_at_call 100; (with_reducible refine CD.out.mono ?_); rintro e w2 ⟨rfl, r2, g2⟩; have h2 := HO.out _ g2; have ex : w2.cell? ⟨C, 15, none⟩ = some (.int .i64 c.node) := h2.cell 15 _ rfl; have ef := h2.frozen; have el := h2.isLt; have H2 := Lib.hid h2; have R2 := Lib.hid r2; have G2 := Lib.hid g2; clear h2 r2 g2)
      | fail)
    unfold rdNum getN
    refine bodyPost_ret (v := .bool (nx (qNum nodeB) l).1.isSome) (by simp [results, Tryz.results66, go_sem]) rfl ⟨by rw [Option.isSome_map, Option.isSome_map], R2.out.set hBC _ _, ⟨{ c with node := ((nx (qNum nodeB) l).1.getD zT).2.2.1 }, H2.out.set 15 (.int .i64 ((nx (qNum nodeB) l).1.getD zT).2.2.1) rfl rfl rfl, ?_⟩, (TgK.grown G2.out).set _ _⟩
    intro c1 h1
    rcases hx : nx (qNum nodeB) l with ⟨_ | t, r⟩
    · rw [hx] at h1; simp at h1
    · rw [hx] at h1; simpa [HK.out] using h1
  have t9 : (K == 9) = false := by simpa using k9
  rw [if_neg (by rintro (h | h | h); exact k7 h; exact k8 h; exact k9 h)]
  clear k1 k10 k12 k7 k8 k9
  go_enter Tryz.func66, Tryz.ntmps66
  go_wp2_with (first
    | (go_at_call 100; (with_reducible refine CJ.out.mono ?_); rintro e w2 ⟨rfl, r2, g2⟩; have h2 := HO.out _ g2; have ex : w2.cell? ⟨C, 1, none⟩ = some (.int .i64 c.job) := h2.cell 1 _ rfl; have ef := h2.frozen; have el := h2.isLt; have H2 := Lib.hid h2; have R2 := Lib.hid r2; have G2 := Lib.hid g2; clear h2 r2 g2)
    | fail)
  unfold rdNum getN
  refine bodyPost_ret (v := .bool (nx (qNum idB) l).1.isSome) (by simp [results, Tryz.results66, go_sem]) rfl ⟨by rw [Option.isSome_map, Option.isSome_map], R2.out.set hBC _ _, ⟨{ c with job := ((nx (qNum idB) l).1.getD zT).2.2.1 }, H2.out.set 1 (.int .i64 ((nx (qNum idB) l).1.getD zT).2.2.1) rfl rfl rfl, ?_⟩, (TgK.grown G2.out).set _ _⟩
  intro c1 h1
  rcases hx : nx (qNum idB) l with ⟨_ | t, r⟩
  · rw [hx] at h1; simp at h1
  · rw [hx] at h1; simpa [HK.out] using h1
end Go.Proofs.YtdkngidangfkiaaGreatDoor.Cmd
namespace Go.Proofs.YtdkngidangfkiaaGreatDoor.Cmd
open Go.RowKit
open Base
open Shape (altC altC_length chkB)
set_option linter.unusedVariables false
set_option linter.unusedSimpArgs false
def New (n : Nat) (v : Value) : Prop := ∀ a m c, v = .slice (some a) m c → n ≤ a.block
theorem New.nil (n : Nat) : New n (.slice none 0 0) := fun a m c h => by cases h
theorem New.mono {n m : Nat} {v : Value} (h : New n v) (hm : m ≤ n) : New m v := fun a l c he => Nat.le_trans hm (h a l c he)
def CoSays (c : Co) (va0 vd : Value) (w : World) (e : Ending) (w' : World) : Prop := ∃ va, e = .returned (cmdV c va vd) ∧ Row w' va c.alts ∧ Below w.heap.size w w' ∧ (va = va0 ∨ New w.heap.size va)
theorem info_cmd : (Tryz.prog.info? 27).map (·.size) = some 18 := by kernel_rfl
theorem ld_cmd {ops : Array Oper} {rest : List Oper} {o : Oper} {a : Act} {w : World} {Q : Exit → Act → World → Prop} (hgd : o.guard = none) (x : Operand) (ho : o.op = .load 27 x)
    (g : Nat) (cs : Array Value) (T : TypeId) (hx : a.eval x = .pointer (some ⟨g, 0, none⟩)) (hg : w.heap[g]? = some (.cells cs T)) (hs : cs.size = 18)
    (h : wpList Tryz.prog ops Q rest (a.put o.dst (.agg cs)) w) : wpList Tryz.prog ops Q (o :: rest) a w :=
  wpList_load_row hgd 27 x ho g hx T cs (0, 0) _ hg Tryz.underlying27 rfl (by rw [hs]; exact info_cmd) h
theorem st_cmd {ops : Array Oper} {rest : List Oper} {o : Oper} {a : Act} {w : World} {Q : Exit → Act → World → Prop} (hgd : o.guard = none) (x y : Operand) (ho : o.op = .store 27 x y)
    (g : Nat) (cs : Array Value) (T : TypeId) (old : Array Value) (hx : a.eval x = .pointer (some ⟨g, 0, none⟩)) (hy : a.eval y = .agg cs) (hg : w.heap[g]? = some (.cells old T)) (hs : cs.size = 18) (hold : old.size = 18) (h1 : cs.all (·.oneCell') = true)
    (h : wpList Tryz.prog ops Q rest (a.put o.dst undef) (w.setRow g cs)) : wpList Tryz.prog ops Q (o :: rest) a w :=
  wpList_store_row hgd 27 x y ho g cs hx hy T old hg (by rw [hs]; exact info_cmd) (by rw [hs, hold]) h1 h
theorem res_cmd {fn : Func} {p : Tmp} (h : fn.results = #[.cell p 27]) (tmps : Array Value) (w : World) (g : Nat) (T : TypeId) (cs : Array Value) (hp : tmps.getD p undef = .pointer (some ⟨g, 0, none⟩)) (hg : w.heap[g]? = some (.cells cs T)) (hs : cs.size = 18) :
    (results fn tmps).run Tryz.prog w = .ok (.agg cs) w :=
  results_cell_row h tmps w g T cs (0, 0) _ hp hg Tryz.underlying27 rfl (by rw [hs]; exact info_cmd)
theorem two_heap (w : World) (A B : Obj) : ((w.alloc A).alloc B).heap[w.heap.size]? = some A ∧ ((w.alloc A).alloc B).heap[w.heap.size + 1]? = some B := by
  have h3 := heap_alloc_new (w.alloc A) B
  rw [World.size_alloc] at h3
  refine ⟨?_, h3⟩
  rw [Lib.alloc_old _ _ _ (by simp), heap_alloc_new]
theorem three_heap (w : World) (A B D : Obj) : (((w.alloc A).alloc B).alloc D).heap[w.heap.size]? = some A ∧ (((w.alloc A).alloc B).alloc D).heap[w.heap.size + 1]? = some B ∧ (((w.alloc A).alloc B).alloc D).heap[w.heap.size + 1 + 1]? = some D := by
  obtain ⟨h1, h2⟩ := two_heap w A B
  have h3 := heap_alloc_new ((w.alloc A).alloc B) D
  rw [World.size_alloc, World.size_alloc] at h3
  exact ⟨by rw [Lib.alloc_old _ _ _ (by simp; omega)]; exact h1, by rw [Lib.alloc_old _ _ _ (by simp)]; exact h2, h3⟩
theorem row_at {W : World} {B : Nat} {p : Int × Int} {T : TypeId} (h : W.heap[B]? = some (.cells #[.int .i64 p.1, .int .i64 p.2] T)) : Row W (.slice (some ⟨B, 0, none⟩) 1 1) [p] := by
  refine ⟨_, 1, rfl, Nat.le_refl _, by unfold maxLen; omega, .inr ⟨B, 0, rfl, fun j hj i hi => ?_⟩, fun h => by cases h⟩
  have : j = 0 := by simpa using hj
  subst this
  simp [World.cell?, h, altC]
theorem below_three {w : World} (A B D : Obj) : Below w.heap.size w (((w.alloc A).alloc B).alloc D) := (below_two A B).trans ((below_one D).mono (by simp; omega))
theorem below_setRow {B : Nat} {w w' : World} (h : Below B w w') (g : Nat) (cs : Array Value) (hg : B ≤ g) : Below B w (w'.setRow g cs) :=
  ⟨h.os, h.tape, h.output, by rw [setRow_size]; exact h.size, fun k hk => by rw [setRow_other _ _ _ _ (by omega)]; exact h.block k hk⟩
set_option maxRecDepth 100000 in
set_option maxHeartbeats 2000000 in
theorem gather_none (c : Co) (va : Value) (pd : Option Addr) (ld qd : Nat) (w : World) (h1 : Row w va c.alts) (k1 : c.kind ≠ 1) :
    Calls Tryz.prog 69 #[cmdV c va (.slice pd ld qd)] w fun e w' => CoSays (gatherC c) va (.slice pd ld qd) w e w' := by
  obtain ⟨a1, a2, a3, a4, a5, a6, a7, a8, a9, a10, a11, a12, a13, a14, a15, a16, a17, a18⟩ := c
  obtain ⟨p1, q1, rfl, l1, m1, r1, n1⟩ := h1
  have HR := Lib.hid r1
  have HN := Lib.hid n1
  have HM := Lib.hid m1
  unfold cmdV gatherC CoSays cmdV
  dsimp only at *
  unfold maxLen at m1
  clear r1 n1
  have row : ∀ w', Below w.heap.size w w' → Row w' (.slice p1 a7.length q1) a7 := fun w' hb => ⟨p1, q1, rfl, l1, HM.out, HR.out.below altC_length hb, HN.out⟩
  have ROW := Lib.hid row
  clear row
  rw [if_pos k1]
  have t1 : (a1 != 1) = true := by simpa using k1
  clear k1
  go_enter Tryz.func69, Tryz.ntmps69
  go_upto_region 4 with fail
  refine wp_region_list ?_
  refine ld_cmd rfl (.tmp 1) rfl w.heap.size _ _ rfl (two_heap w _ _).1 rfl ?_
  refine st_cmd rfl (.tmp 2) (.tmp 20) rfl (w.heap.size + 1) _ _ _ rfl rfl (two_heap w _ _).2 rfl rfl (by kernel_rfl) ?_
  go_wp2
  exact bodyPost_ret (v := .agg #[.int .i64 a1, .int .i64 a2, .string a3, .string a4, .string a5, .int .i64 a6, .slice p1 a7.length q1, .int .i64 a8, .int .i64 a9, .int .i64 a10, .int .i64 a11, .bool a12, .int .i64 a13, .bool a14, .slice pd ld qd, .int .i64 a16, .int .i64 a17, .int .i64 a18]) (res_cmd Tryz.results69 _ _ (w.heap.size + 1) 27 _ rfl (setRow_heap _ _ _ _ _ _ (two_heap w _ _).2) rfl) rfl ⟨_, rfl, ROW.out _ (below_setRow (below_two _ _) _ _ (Nat.le_succ _)), below_setRow (below_two _ _) _ _ (Nat.le_succ _), .inl rfl⟩
set_option maxRecDepth 100000 in
set_option maxHeartbeats 2000000 in
theorem gather_alts (c : Co) (va : Value) (pd : Option Addr) (ld qd : Nat) (w : World) (h1 : Row w va c.alts) (k1 : c.kind = 1) (hz : c.alts ≠ []) :
    Calls Tryz.prog 69 #[cmdV c va (.slice pd ld qd)] w fun e w' => CoSays (gatherC c) va (.slice pd ld qd) w e w' := by
  obtain ⟨a1, a2, a3, a4, a5, a6, a7, a8, a9, a10, a11, a12, a13, a14, a15, a16, a17, a18⟩ := c
  obtain ⟨p1, q1, rfl, l1, m1, r1, n1⟩ := h1
  have HR := Lib.hid r1
  have HN := Lib.hid n1
  have HM := Lib.hid m1
  unfold cmdV gatherC CoSays cmdV
  dsimp only at *
  unfold maxLen at m1
  clear r1 n1
  have row : ∀ w', Below w.heap.size w w' → Row w' (.slice p1 a7.length q1) a7 := fun w' hb => ⟨p1, q1, rfl, l1, HM.out, HR.out.below altC_length hb, HN.out⟩
  have ROW := Lib.hid row
  clear row
  subst k1
  rw [if_neg (by simp)]
  rw [if_pos hz]
  have tz : decide (0 < a7.length) = true := by have := List.length_pos_iff.2 hz; simpa using this
  have tz2 : 0 < a7.length := List.length_pos_iff.2 hz
  clear hz
  go_enter Tryz.func69, Tryz.ntmps69
  go_upto_region 10 with fail
  refine wp_region_list ?_
  refine ld_cmd rfl (.tmp 1) rfl w.heap.size _ _ rfl (two_heap w _ _).1 rfl ?_
  refine st_cmd rfl (.tmp 2) (.tmp 42) rfl (w.heap.size + 1) _ _ _ rfl rfl (two_heap w _ _).2 rfl rfl (by kernel_rfl) ?_
  go_wp2
  exact bodyPost_ret (v := .agg #[.int .i64 1, .int .i64 a2, .string a3, .string a4, .string a5, .int .i64 2, .slice p1 a7.length q1, .int .i64 a8, .int .i64 a9, .int .i64 a10, .int .i64 a11, .bool a12, .int .i64 a13, .bool a14, .slice pd ld qd, .int .i64 a16, .int .i64 a17, .int .i64 a18]) (res_cmd Tryz.results69 _ _ (w.heap.size + 1) 27 _ rfl (setRow_heap _ _ _ _ _ _ (two_heap w _ _).2) rfl) rfl ⟨_, rfl, ROW.out _ (below_setRow (below_two _ _) _ _ (Nat.le_succ _)), below_setRow (below_two _ _) _ _ (Nat.le_succ _), .inl rfl⟩
set_option maxRecDepth 100000 in
set_option maxHeartbeats 2000000 in
theorem gather_span (c : Co) (va : Value) (pd : Option Addr) (ld qd : Nat) (w : World) (h1 : Row w va c.alts) (k1 : c.kind = 1) (hz : c.alts = []) (hm : c.mx ≠ 0) :
    Calls Tryz.prog 69 #[cmdV c va (.slice pd ld qd)] w fun e w' => CoSays (gatherC c) va (.slice pd ld qd) w e w' := by
  obtain ⟨a1, a2, a3, a4, a5, a6, a7, a8, a9, a10, a11, a12, a13, a14, a15, a16, a17, a18⟩ := c
  obtain ⟨p1, q1, rfl, l1, m1, r1, n1⟩ := h1
  have HR := Lib.hid r1
  have HN := Lib.hid n1
  have HM := Lib.hid m1
  unfold cmdV gatherC CoSays cmdV
  dsimp only at *
  unfold maxLen at m1
  clear r1 n1
  have row : ∀ w', Below w.heap.size w w' → Row w' (.slice p1 a7.length q1) a7 := fun w' hb => ⟨p1, q1, rfl, l1, HM.out, HR.out.below altC_length hb, HN.out⟩
  have ROW := Lib.hid row
  clear row
  subst k1
  rw [if_neg (by simp)]
  subst hz
  rw [if_neg (by simp)]
  rw [if_pos hm]
  have tm : (a9 != 0) = true := by simpa using hm
  rw [List.length_nil] at *
  clear hm
  go_enter Tryz.func69, Tryz.ntmps69
  go_upto_region 10 with fail
  refine wp_region_list ?_
  refine ld_cmd rfl (.tmp 1) rfl w.heap.size _ _ rfl (two_heap w _ _).1 rfl ?_
  refine st_cmd rfl (.tmp 2) (.tmp 42) rfl (w.heap.size + 1) _ _ _ rfl rfl (two_heap w _ _).2 rfl rfl (by kernel_rfl) ?_
  go_wp2
  exact bodyPost_ret (v := .agg #[.int .i64 1, .int .i64 a2, .string a3, .string a4, .string a5, .int .i64 3, .slice p1 0 q1, .int .i64 a8, .int .i64 a9, .int .i64 a13, .int .i64 a11, .bool a12, .int .i64 0, .bool false, .slice pd ld qd, .int .i64 a16, .int .i64 a17, .int .i64 a18]) (res_cmd Tryz.results69 _ _ (w.heap.size + 1) 27 _ rfl (setRow_heap _ _ _ _ _ _ (two_heap w _ _).2) rfl) rfl ⟨_, rfl, ROW.out _ (below_setRow (below_two _ _) _ _ (Nat.le_succ _)), below_setRow (below_two _ _) _ _ (Nat.le_succ _), .inl rfl⟩
set_option maxRecDepth 100000 in
set_option maxHeartbeats 2000000 in
theorem gather_rigid (c : Co) (va : Value) (pd : Option Addr) (ld qd : Nat) (w : World) (h1 : Row w va c.alts) (k1 : c.kind = 1) (hz : c.alts = []) (hm : c.mx = 0) :
    Calls Tryz.prog 69 #[cmdV c va (.slice pd ld qd)] w fun e w' => CoSays (gatherC c) va (.slice pd ld qd) w e w' := by
  obtain ⟨a1, a2, a3, a4, a5, a6, a7, a8, a9, a10, a11, a12, a13, a14, a15, a16, a17, a18⟩ := c
  obtain ⟨p1, q1, rfl, l1, m1, r1, n1⟩ := h1
  have HR := Lib.hid r1
  have HN := Lib.hid n1
  have HM := Lib.hid m1
  unfold cmdV gatherC CoSays cmdV
  dsimp only at *
  unfold maxLen at m1
  clear r1 n1
  have row : ∀ w', Below w.heap.size w w' → Row w' (.slice p1 a7.length q1) a7 := fun w' hb => ⟨p1, q1, rfl, l1, HM.out, HR.out.below altC_length hb, HN.out⟩
  have ROW := Lib.hid row
  clear row
  subst k1
  rw [if_neg (by simp)]
  subst hz
  rw [if_neg (by simp)]
  rw [if_neg (by simpa using hm)]
  subst hm
  rw [List.length_nil]
  clear ROW
  go_enter Tryz.func69, Tryz.ntmps69
  go_upto_region 10 with fail
  refine wp_region_list ?_
  refine ld_cmd rfl (.tmp 1) rfl w.heap.size _ _ rfl (three_heap w _ _ _).1 rfl ?_
  refine st_cmd rfl (.tmp 2) (.tmp 42) rfl (w.heap.size + 1) _ _ _ rfl rfl (three_heap w _ _ _).2.1 rfl rfl (by kernel_rfl) ?_
  go_wp2
  exact bodyPost_ret (v := .agg #[.int .i64 1, .int .i64 a2, .string a3, .string a4, .string a5, .int .i64 1, .slice (some ⟨w.heap.size + 1 + 1, 0, none⟩) 1 1, .int .i64 a8, .int .i64 0, .int .i64 a10, .int .i64 a11, .bool a12, .int .i64 0, .bool false, .slice pd ld qd, .int .i64 a16, .int .i64 0, .int .i64 a18]) (res_cmd Tryz.results69 _ _ (w.heap.size + 1) 27 _ rfl (setRow_heap _ _ _ _ _ _ (three_heap w _ _ _).2.1) rfl) rfl ⟨_, rfl, row_at (p := (a17, a13)) ((setRow_other _ _ _ _ (by simp)).trans (three_heap w _ _ _).2.2), below_setRow (below_three _ _ _) _ _ (Nat.le_succ _), .inr (fun a m c h => by injection h with h; injection h with h; subst h; show w.heap.size ≤ w.heap.size + 1 + 1; omega)⟩
theorem gather_any (c : Co) (va : Value) (pd : Option Addr) (ld qd : Nat) (w : World) (h1 : Row w va c.alts) :
    Calls Tryz.prog 69 #[cmdV c va (.slice pd ld qd)] w fun e w' => CoSays (gatherC c) va (.slice pd ld qd) w e w' := by
  by_cases k1 : c.kind = 1
  · by_cases hz : c.alts = []
    · by_cases hm : c.mx = 0
      · exact gather_rigid c va pd ld qd w h1 k1 hz hm
      · exact gather_span c va pd ld qd w h1 k1 hz hm
    · exact gather_alts c va pd ld qd w h1 k1 hz
  · exact gather_none c va pd ld qd w h1 k1
set_option maxRecDepth 100000 in
set_option maxHeartbeats 2000000 in
theorem spread_none (c : Co) (va : Value) (pd : Option Addr) (ld qd : Nat) (w : World) (h1 : Row w va c.alts) (k1 : c.sk ≠ 1) (k3 : c.sk ≠ 3) :
    Calls Tryz.prog 45 #[cmdV c va (.slice pd ld qd)] w fun e w' => CoSays (spreadC c) va (.slice pd ld qd) w e w' := by
  obtain ⟨a1, a2, a3, a4, a5, a6, a7, a8, a9, a10, a11, a12, a13, a14, a15, a16, a17, a18⟩ := c
  obtain ⟨p1, q1, rfl, l1, m1, r1, n1⟩ := h1
  have HR := Lib.hid r1
  have HN := Lib.hid n1
  have HM := Lib.hid m1
  unfold cmdV spreadC CoSays cmdV
  dsimp only at *
  unfold maxLen at m1
  clear r1 n1
  have row : ∀ w', Below w.heap.size w w' → Row w' (.slice p1 a7.length q1) a7 := fun w' hb => ⟨p1, q1, rfl, l1, HM.out, HR.out.below altC_length hb, HN.out⟩
  have ROW := Lib.hid row
  clear row
  rw [if_neg k1, if_neg k3]
  have t1 : (a6 == 1) = false := by simpa using k1
  have t3 : (a6 == 3) = false := by simpa using k3
  clear k1 k3
  go_enter Tryz.func45, Tryz.ntmps45
  go_upto_region 8 with fail
  refine wp_region_list ?_
  refine ld_cmd rfl (.tmp 1) rfl w.heap.size _ _ rfl (two_heap w _ _).1 rfl ?_
  refine st_cmd rfl (.tmp 2) (.tmp 30) rfl (w.heap.size + 1) _ _ _ rfl rfl (two_heap w _ _).2 rfl rfl (by kernel_rfl) ?_
  go_wp2
  exact bodyPost_ret (v := .agg #[.int .i64 a1, .int .i64 a2, .string a3, .string a4, .string a5, .int .i64 a6, .slice p1 a7.length q1, .int .i64 a8, .int .i64 a9, .int .i64 a10, .int .i64 a11, .bool a12, .int .i64 a13, .bool a14, .slice pd ld qd, .int .i64 a16, .int .i64 a17, .int .i64 a18]) (res_cmd Tryz.results45 _ _ (w.heap.size + 1) 27 _ rfl (setRow_heap _ _ _ _ _ _ (two_heap w _ _).2) rfl) rfl ⟨_, rfl, ROW.out _ (below_setRow (below_two _ _) _ _ (Nat.le_succ _)), below_setRow (below_two _ _) _ _ (Nat.le_succ _), .inl rfl⟩
set_option maxRecDepth 100000 in
set_option maxHeartbeats 2000000 in
theorem spread_span (c : Co) (va : Value) (pd : Option Addr) (ld qd : Nat) (w : World) (h1 : Row w va c.alts) (k3 : c.sk = 3) :
    Calls Tryz.prog 45 #[cmdV c va (.slice pd ld qd)] w fun e w' => CoSays (spreadC c) va (.slice pd ld qd) w e w' := by
  obtain ⟨a1, a2, a3, a4, a5, a6, a7, a8, a9, a10, a11, a12, a13, a14, a15, a16, a17, a18⟩ := c
  obtain ⟨p1, q1, rfl, l1, m1, r1, n1⟩ := h1
  have HR := Lib.hid r1
  have HN := Lib.hid n1
  have HM := Lib.hid m1
  unfold cmdV spreadC CoSays cmdV
  dsimp only at *
  unfold maxLen at m1
  clear r1 n1
  have row : ∀ w', Below w.heap.size w w' → Row w' (.slice p1 a7.length q1) a7 := fun w' hb => ⟨p1, q1, rfl, l1, HM.out, HR.out.below altC_length hb, HN.out⟩
  have ROW := Lib.hid row
  clear row
  subst k3
  rw [if_neg (by decide), if_pos rfl]
  go_enter Tryz.func45, Tryz.ntmps45
  go_upto_region 8 with fail
  refine wp_region_list ?_
  refine ld_cmd rfl (.tmp 1) rfl w.heap.size _ _ rfl (two_heap w _ _).1 rfl ?_
  refine st_cmd rfl (.tmp 2) (.tmp 30) rfl (w.heap.size + 1) _ _ _ rfl rfl (two_heap w _ _).2 rfl rfl (by kernel_rfl) ?_
  go_wp2
  exact bodyPost_ret (v := .agg #[.int .i64 a1, .int .i64 a2, .string a3, .string a4, .string a5, .int .i64 3, .slice p1 a7.length q1, .int .i64 a8, .int .i64 a9, .int .i64 a10, .int .i64 a11, .bool a12, .int .i64 a10, .bool true, .slice pd ld qd, .int .i64 a16, .int .i64 a17, .int .i64 a18]) (res_cmd Tryz.results45 _ _ (w.heap.size + 1) 27 _ rfl (setRow_heap _ _ _ _ _ _ (two_heap w _ _).2) rfl) rfl ⟨_, rfl, ROW.out _ (below_setRow (below_two _ _) _ _ (Nat.le_succ _)), below_setRow (below_two _ _) _ _ (Nat.le_succ _), .inl rfl⟩
set_option maxRecDepth 100000 in
set_option maxHeartbeats 2000000 in
theorem spread_rigid (c : Co) (va : Value) (pd : Option Addr) (ld qd : Nat) (w : World) (h1 : Row w va c.alts) (k1 : c.sk = 1) (hne : c.alts ≠ []) :
    Calls Tryz.prog 45 #[cmdV c va (.slice pd ld qd)] w fun e w' => CoSays (spreadC c) va (.slice pd ld qd) w e w' := by
  obtain ⟨a1, a2, a3, a4, a5, a6, a7, a8, a9, a10, a11, a12, a13, a14, a15, a16, a17, a18⟩ := c
  obtain ⟨p1, q1, rfl, l1, m1, r1, n1⟩ := h1
  have HR := Lib.hid r1
  have HN := Lib.hid n1
  have HM := Lib.hid m1
  unfold cmdV spreadC CoSays cmdV
  dsimp only at *
  unfold maxLen at m1
  clear r1 n1
  have row : ∀ w', Below w.heap.size w w' → Row w' (.slice p1 a7.length q1) a7 := fun w' hb => ⟨p1, q1, rfl, l1, HM.out, HR.out.below altC_length hb, HN.out⟩
  have ROW := Lib.hid row
  clear row
  subst k1
  rw [if_pos rfl]
  cases a7 with
  | nil => exact absurd rfl hne
  | cons t r =>
    obtain ⟨b, off, rfl, c0, c1⟩ := Shape.alt_cells HR.out (j := 0) (by simp)
    obtain ⟨t1, t2⟩ := t
    simp only [List.getElem_cons_zero, Nat.zero_mul, Nat.add_zero] at c0 c1
    have hlb := lt_of_cell c0
    have hup : (0 : Int) < ((((t1, t2) :: r).length : Nat) : Int) := by simp
    obtain ⟨L, hL⟩ : ∃ L, L = ((t1, t2) :: r).length := ⟨_, rfl⟩
    dsimp only [List.getD_cons_zero]
    rw [← hL] at hup ⊢
    clear ROW HR HN HM hne hL l1
    go_enter Tryz.func45, Tryz.ntmps45
    go_upto_region 4 with fail
    go_region
    all_goals
      go_upto_region 8 with fail
      refine wp_region_list ?_
      refine ld_cmd rfl (.tmp 1) rfl w.heap.size _ _ rfl (three_heap w _ _ _).1 rfl ?_
      refine st_cmd rfl (.tmp 2) (.tmp 30) rfl (w.heap.size + 1) _ _ _ rfl rfl (three_heap w _ _ _).2.1 rfl rfl (by kernel_rfl) ?_
      go_wp2
      exact bodyPost_ret (v := .agg #[.int .i64 a1, .int .i64 a2, .string a3, .string a4, .string a5, .int .i64 1, .slice none 0 0, .int .i64 a8, .int .i64 a9, .int .i64 a10, .int .i64 a11, .bool a12, .int .i64 t2, .bool true, .slice pd ld qd, .int .i64 a16, .int .i64 t1, .int .i64 a18]) (res_cmd Tryz.results45 _ _ (w.heap.size + 1) 27 _ rfl (setRow_heap _ _ _ _ _ _ (three_heap w _ _ _).2.1) rfl) rfl ⟨_, rfl, Row.nil _, below_setRow (below_three _ _ _).drew _ _ (Nat.le_succ _), .inr (New.nil _)⟩
theorem spread_any (c : Co) (va : Value) (pd : Option Addr) (ld qd : Nat) (w : World) (h1 : Row w va c.alts) (hm : c.sk = 1 → c.alts ≠ []) :
    Calls Tryz.prog 45 #[cmdV c va (.slice pd ld qd)] w fun e w' => CoSays (spreadC c) va (.slice pd ld qd) w e w' := by
  by_cases k1 : c.sk = 1
  · exact spread_rigid c va pd ld qd w h1 k1 (hm k1)
  · by_cases k3 : c.sk = 3
    · exact spread_span c va pd ld qd w h1 k3
    · exact spread_none c va pd ld qd w h1 k1 k3
end Go.Proofs.YtdkngidangfkiaaGreatDoor.Cmd
