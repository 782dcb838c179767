/-
  Joined out of: Two regions of what tells a command with nothing but what it has by its kind: what a submission has. The walk of what tells a command with nothing but what it has by its kind: a submission; all kinds together. The walk of the program's Check of commands. The walk of Show. The walk of Show: a command that may be; all commands.
-/
import Derived.Test.YtdkngidangfkiaaGreatDoorJb21
import Derived.Test.YtdkngidangfkiaaGreatDoorJb27
import Derived.Maps.RangeWalk
import Derived.Test.YtdkngidangfkiaaGreatDoorJb25
import Derived.Test.YtdkngidangfkiaaGreatDoorJb22
import Derived.Test.YtdkngidangfkiaaGreatDoorJb08
import Derived.Deep.LoopGhost
namespace Go.Proofs.YtdkngidangfkiaaGreatDoor.Cmd
open Go.RowKit
open Base
open Shape (altC altC_length)
set_option linter.unusedVariables false
set_option linter.unusedSimpArgs false
theorem drew_at {X : World} {N : Nat} {o : Option Obj} (h : X.heap[N]? = o) : X.drew.heap[N]? = o := h
theorem grown_ds {w X : World} {N i : Nat} {v : Value} (h : w.grownBy X.drew (some N)) : w.grownBy (X.setCell ⟨N, i, none⟩ v).drew (some N) := grown_trans h (grown_set X.drew ⟨N, i, none⟩ v)
noncomputable def alone_r5C : Code := ((Tryz.f30.body.bind (codeAt 5)).getD .skip)
set_option maxRecDepth 100000 in
set_option maxHeartbeats 2000000 in
theorem alone_r5 (C N R : Nat) (c : Co) (pa pd : Option Addr) (la qa ld qd : Nat) (old : Array Value) (wr : World) (hC : wr.heap[C]? = some (.cells (cmdArr c (.slice pa la qa) (.slice pd ld qd)) 27)) (hN : wr.heap[N]? = some (.cells old 27)) (hs : old.size = 18) (hCN : C ≠ N)
    (t0 t4 t5 t6 t7 t8 t9 t10 t11 t12 t13 t14 t15 t16 t17 t18 t19 t20 t21 t22 t23 t24 t25 t26 t27 t28 t29 t30 t31 t32 t33 t34 t35 t36 t37 t38 t39 t40 t41 t42 t43 t44 t45 t46 t47 t48 t49 t50 t51 t52 t53 t54 t55 t56 t57 t58 t59 t60 t61 t62 t63 t64 t65 t66 t67 t68 t69 t70 t71 t72 t73 t74 t75 t76 t77 t78 t79 t80 t81 : Value) (Q : Exit → Act → World → Prop) (hP : ∀ c a (d : Tmp) v w, Q (.panic c) (Act.put a (some d) v) w → Q (.panic c) a w)
    (hQ : ∀ (W' : World) (u14 u15 u16 u17 u18 u19 u20 u21 u22 : Value), W'.heap[N]? = some (.cells ((((old).setIfInBounds 2 (.string c.name)).setIfInBounds 3 (.string c.user)).setIfInBounds 4 (.string c.account)) 27) → wr.grownBy W' (some N) →
      Q .normal ⟨#[t0, .pointer (some ⟨C, 0, none⟩), .pointer (some ⟨R, 0, none⟩), .pointer (some ⟨N, 0, none⟩), t4, t5, t6, t7, t8, t9, t10, t11, t12, t13, u14, u15, u16, u17, u18, u19, u20, u21, u22, t23, t24, t25, t26, t27, t28, t29, t30, t31, t32, t33, t34, t35, t36, t37, t38, t39, t40, t41, t42, t43, t44, t45, t46, t47, t48, t49, t50, t51, t52, t53, t54, t55, t56, t57, t58, t59, t60, t61, t62, t63, t64, t65, t66, t67, t68, t69, t70, t71, t72, t73, t74, t75, t76, t77, t78, t79, t80, t81], []⟩ W') :
    Code.wp Tryz.prog alone_r5C Q ⟨#[t0, .pointer (some ⟨C, 0, none⟩), .pointer (some ⟨R, 0, none⟩), .pointer (some ⟨N, 0, none⟩), t4, t5, t6, t7, t8, t9, t10, t11, t12, t13, t14, t15, t16, t17, t18, t19, t20, t21, t22, t23, t24, t25, t26, t27, t28, t29, t30, t31, t32, t33, t34, t35, t36, t37, t38, t39, t40, t41, t42, t43, t44, t45, t46, t47, t48, t49, t50, t51, t52, t53, t54, t55, t56, t57, t58, t59, t60, t61, t62, t63, t64, t65, t66, t67, t68, t69, t70, t71, t72, t73, t74, t75, t76, t77, t78, t79, t80, t81], []⟩ wr := by
  have hClt : C < wr.heap.size := (Array.getElem?_eq_some_iff.1 hC).1
  have YC : ∀ W, wr.grownBy W (some N) → W.heap[C]? = some (.cells (cmdArr c (.slice pa la qa) (.slice pd ld qd)) 27) := fun W h => (h.block C hClt (fun e => hCN (Option.some.inj e))).trans hC
  have YK : ∀ W, wr.grownBy W (some N) → ∀ i v, (cmdArr c (.slice pa la qa) (.slice pd ld qd))[i]? = some v → W.cell? ⟨C, i, none⟩ = some v := fun W h i v hv => cmd_cells (YC W h) i v hv
  have hdc : ∀ (X : World) (a : Addr), X.drew.cell? a = X.cell? a := fun _ _ => rfl
  have hdf : ∀ (X : World) (a : Addr), X.drew.frozen? a = X.frozen? a := fun _ _ => rfl
  have hN0 : wr.heap[N]? = some (.cells old 27) := hN
  have hCc : ∀ (W : World) (cs : Array Value), W.heap[N]? = some (.cells cs 27) → cs.size = 18 → ∀ i, i < 18 → ∃ v, W.cell? ⟨N, i, none⟩ = some v := fun W cs h h18 i hi => ⟨cs[i]'(by omega), by simp [World.cell?, h]⟩
  have hCf : ∀ (W : World) (cs : Array Value), W.heap[N]? = some (.cells cs 27) → ∀ i, W.frozen? ⟨N, i, none⟩ = false := fun W cs h i => by simp [World.frozen?, h]
  have HYK := Lib.hid YK
  have HC := Lib.hid hCc
  have HF := Lib.hid hCf
  have HN0 := Lib.hid hN0
  have HQ := Lib.hid hQ
  clear YC YK hN0 hCc hCf hC hN hQ
  conv => arg 2; whnf
  refine wp_region_held_drew (S := fun W => wr.grownBy W (some N)) (by kernel_rfl) (grown_of_below ((Below.refl wr.heap.size wr).drew) _) (fun hHeld => ?_)
  refine takeL (i := 0) (v := ?_) rfl (by kernel_rfl) (by kernel_rfl) (by kernel_rfl) (by first | exact fun c a w h => hP c a _ _ w h | exact fun _ _ _ h => h) (Or.inl ⟨by rfl, ?_⟩) (by assumption) ?_
  rotate_left
  · intro W hS; go_simp; (try with_reducible rfl)
  go_frame
  refine takeL (i := 1) (v := ?_) rfl (by kernel_rfl) (by kernel_rfl) (by kernel_rfl) (by first | exact fun c a w h => hP c a _ _ w h | exact fun _ _ _ h => h) (Or.inl ⟨by rfl, ?_⟩) (by assumption) ?_
  rotate_left
  · intro W hS; have := HYK.out W hS 2 (.string c.name) rfl; go_simp; (try with_reducible rfl)
  go_frame
  refine takeL (i := 2) (v := ?_) rfl (by kernel_rfl) (by kernel_rfl) (by kernel_rfl) (by first | exact fun c a w h => hP c a _ _ w h | exact fun _ _ _ h => h) (Or.inl ⟨by rfl, ?_⟩) (by assumption) ?_
  rotate_left
  · intro W hS; go_simp; (try with_reducible rfl)
  go_frame
  refine takeL (i := 3) (v := ?_) rfl (by kernel_rfl) (by kernel_rfl) (by kernel_rfl) (by first | exact fun c a w h => hP c a _ _ w h | exact fun _ _ _ h => h) (Or.inl ⟨by rfl, ?_⟩) (by assumption) ?_
  rotate_left
  · intro W hS; have := HYK.out W hS 3 (.string c.user) rfl; go_simp; (try with_reducible rfl)
  go_frame
  refine takeL (i := 4) (v := ?_) rfl (by kernel_rfl) (by kernel_rfl) (by kernel_rfl) (by first | exact fun c a w h => hP c a _ _ w h | exact fun _ _ _ h => h) (Or.inl ⟨by rfl, ?_⟩) (by assumption) ?_
  rotate_left
  · intro W hS; go_simp; (try with_reducible rfl)
  go_frame
  refine takeL (i := 5) (v := ?_) rfl (by kernel_rfl) (by kernel_rfl) (by kernel_rfl) (by first | exact fun c a w h => hP c a _ _ w h | exact fun _ _ _ h => h) (Or.inl ⟨by rfl, ?_⟩) (by assumption) ?_
  rotate_left
  · intro W hS; have := HYK.out W hS 4 (.string c.account) rfl; go_simp; (try with_reducible rfl)
  go_frame
  obtain ⟨v2, k2⟩ := HC.out wr _ HN0.out hs 2 (by decide)
  obtain ⟨v3, k3⟩ := HC.out wr _ HN0.out hs 3 (by decide)
  obtain ⟨v4, k4⟩ := HC.out wr _ HN0.out hs 4 (by decide)
  have ff := HF.out wr _ HN0.out
  refine takeL (i := 6) (v := ?_) rfl (by kernel_rfl) (by kernel_rfl) (by kernel_rfl) (by first | exact fun c a w h => hP c a _ _ w h | exact fun _ _ _ h => h) (Or.inl ⟨by rfl, ?_⟩) (by assumption) ?_
  rotate_left
  · intro W hS; go_simp; (try with_reducible rfl)
  go_frame
  refine wpAnyH_ready (rs := [7]) (by kernel_rfl) (by simp) ?_
  refine readyL rfl ?_ ?_
  rotate_left
  · exact AllReadyH.nil
  intro K hK
  go_simp
  refine hK.out _ _ (grown_ds (i := 2) (v := .string c.name) (hHeld)) (fun hNew => ?_)
  clear hK K
  replace hHeld := hNew
  clear hNew
  refine takeL (i := 8) (v := ?_) rfl (by kernel_rfl) (by kernel_rfl) (by kernel_rfl) (by first | exact fun c a w h => hP c a _ _ w h | exact fun _ _ _ h => h) (Or.inl ⟨by rfl, ?_⟩) (by assumption) ?_
  rotate_left
  · intro W hS; go_simp; (try with_reducible rfl)
  go_frame
  refine wpAnyH_ready (rs := [9]) (by kernel_rfl) (by simp) ?_
  refine readyL rfl ?_ ?_
  rotate_left
  · exact AllReadyH.nil
  intro K hK
  go_simp
  refine hK.out _ _ (grown_ds (i := 3) (v := .string c.user) (hHeld)) (fun hNew => ?_)
  clear hK K
  replace hHeld := hNew
  clear hNew
  refine takeL (i := 10) (v := ?_) rfl (by kernel_rfl) (by kernel_rfl) (by kernel_rfl) (by first | exact fun c a w h => hP c a _ _ w h | exact fun _ _ _ h => h) (Or.inl ⟨by rfl, ?_⟩) (by assumption) ?_
  rotate_left
  · intro W hS; go_simp; (try with_reducible rfl)
  go_frame
  refine wpAnyH_ready (rs := [11]) (by kernel_rfl) (by simp) ?_
  refine readyL rfl ?_ ?_
  rotate_left
  · exact AllReadyH.nil
  intro K hK
  go_simp
  refine hK.out _ _ (grown_ds (i := 4) (v := .string c.account) (hHeld)) (fun hNew => ?_)
  clear hK K
  replace hHeld := hNew
  clear hNew
  refine wpAnyH_done (by kernel_rfl) ?_ _
  exact HQ.out _ _ _ _ _ _ _ _ _ _ (drew_at (heap_set_same (i := 4) (heap_set_same (i := 3) (heap_set_same (i := 2) (HN0.out) (.string c.name)) (.string c.user)) (.string c.account))) hHeld
noncomputable def alone_r6C : Code := ((Tryz.f30.body.bind (codeAt 6)).getD .skip)
set_option maxRecDepth 100000 in
set_option maxHeartbeats 2000000 in
theorem alone_r6 (C N R : Nat) (c : Co) (pa pd : Option Addr) (la qa ld qd : Nat) (old : Array Value) (wr : World) (hC : wr.heap[C]? = some (.cells (cmdArr c (.slice pa la qa) (.slice pd ld qd)) 27)) (hN : wr.heap[N]? = some (.cells old 27)) (hs : old.size = 18) (hCN : C ≠ N)
    (t0 t4 t5 t6 t7 t8 t9 t10 t11 t12 t13 t14 t15 t16 t17 t18 t19 t20 t21 t22 t23 t24 t25 t26 t27 t28 t29 t30 t31 t32 t33 t34 t35 t36 t37 t38 t39 t40 t41 t42 t43 t44 t45 t46 t47 t48 t49 t50 t51 t52 t53 t54 t55 t56 t57 t58 t59 t60 t61 t62 t63 t64 t65 t66 t67 t68 t69 t70 t71 t72 t73 t74 t75 t76 t77 t78 t79 t80 t81 : Value) (Q : Exit → Act → World → Prop) (hP : ∀ c a (d : Tmp) v w, Q (.panic c) (Act.put a (some d) v) w → Q (.panic c) a w)
    (hQ : ∀ (W' : World) (u23 u24 u25 u26 u27 u28 u29 u30 u31 u32 u33 u34 : Value), W'.heap[N]? = some (.cells (((((((((old).setIfInBounds 5 (.int .i64 c.sk)).setIfInBounds 6 (.slice pa la qa)).setIfInBounds 7 (.int .i64 c.mn)).setIfInBounds 8 (.int .i64 c.mx)).setIfInBounds 9 (.int .i64 c.wl)).setIfInBounds 10 (.int .i64 c.prio)).setIfInBounds 11 (.bool c.hasPrio)).setIfInBounds 14 (.slice pd ld qd)) 27) → wr.grownBy W' (some N) →
      Q .normal ⟨#[t0, .pointer (some ⟨C, 0, none⟩), .pointer (some ⟨R, 0, none⟩), .pointer (some ⟨N, 0, none⟩), t4, t5, t6, t7, t8, t9, t10, t11, t12, t13, t14, t15, t16, t17, t18, t19, t20, t21, t22, u23, u24, u25, u26, u27, u28, u29, u30, u31, u32, u33, u34, t35, t36, t37, t38, t39, t40, t41, t42, t43, t44, t45, t46, t47, t48, t49, t50, t51, t52, t53, t54, t55, t56, t57, t58, t59, t60, t61, t62, t63, t64, t65, t66, t67, t68, t69, t70, t71, t72, t73, t74, t75, t76, t77, t78, t79, t80, t81], []⟩ W') :
    Code.wp Tryz.prog alone_r6C Q ⟨#[t0, .pointer (some ⟨C, 0, none⟩), .pointer (some ⟨R, 0, none⟩), .pointer (some ⟨N, 0, none⟩), t4, t5, t6, t7, t8, t9, t10, t11, t12, t13, t14, t15, t16, t17, t18, t19, t20, t21, t22, t23, t24, t25, t26, t27, t28, t29, t30, t31, t32, t33, t34, t35, t36, t37, t38, t39, t40, t41, t42, t43, t44, t45, t46, t47, t48, t49, t50, t51, t52, t53, t54, t55, t56, t57, t58, t59, t60, t61, t62, t63, t64, t65, t66, t67, t68, t69, t70, t71, t72, t73, t74, t75, t76, t77, t78, t79, t80, t81], []⟩ wr := by
  have hClt : C < wr.heap.size := (Array.getElem?_eq_some_iff.1 hC).1
  have YC : ∀ W, wr.grownBy W (some N) → W.heap[C]? = some (.cells (cmdArr c (.slice pa la qa) (.slice pd ld qd)) 27) := fun W h => (h.block C hClt (fun e => hCN (Option.some.inj e))).trans hC
  have YK : ∀ W, wr.grownBy W (some N) → ∀ i v, (cmdArr c (.slice pa la qa) (.slice pd ld qd))[i]? = some v → W.cell? ⟨C, i, none⟩ = some v := fun W h i v hv => cmd_cells (YC W h) i v hv
  have hdc : ∀ (X : World) (a : Addr), X.drew.cell? a = X.cell? a := fun _ _ => rfl
  have hdf : ∀ (X : World) (a : Addr), X.drew.frozen? a = X.frozen? a := fun _ _ => rfl
  have hN0 : wr.heap[N]? = some (.cells old 27) := hN
  have hCc : ∀ (W : World) (cs : Array Value), W.heap[N]? = some (.cells cs 27) → cs.size = 18 → ∀ i, i < 18 → ∃ v, W.cell? ⟨N, i, none⟩ = some v := fun W cs h h18 i hi => ⟨cs[i]'(by omega), by simp [World.cell?, h]⟩
  have hCf : ∀ (W : World) (cs : Array Value), W.heap[N]? = some (.cells cs 27) → ∀ i, W.frozen? ⟨N, i, none⟩ = false := fun W cs h i => by simp [World.frozen?, h]
  have HYK := Lib.hid YK
  have HC := Lib.hid hCc
  have HF := Lib.hid hCf
  have HN0 := Lib.hid hN0
  have HQ := Lib.hid hQ
  clear YC YK hN0 hCc hCf hC hN hQ
  conv => arg 2; whnf
  refine wp_region_held_drew (S := fun W => wr.grownBy W (some N)) (by kernel_rfl) (grown_of_below ((Below.refl wr.heap.size wr).drew) _) (fun hHeld => ?_)
  refine takeL (i := 0) (v := ?_) rfl (by kernel_rfl) (by kernel_rfl) (by kernel_rfl) (by first | exact fun c a w h => hP c a _ _ w h | exact fun _ _ _ h => h) (Or.inl ⟨by rfl, ?_⟩) (by assumption) ?_
  rotate_left
  · intro W hS; go_simp; (try with_reducible rfl)
  go_frame
  refine takeL (i := 1) (v := ?_) rfl (by kernel_rfl) (by kernel_rfl) (by kernel_rfl) (fun c a w h => hP c a _ _ w h) (Or.inl ⟨by rfl, ?_⟩) (by assumption) ?_
  rotate_left
  · intro W hS; have z5 := HYK.out W hS 5 (.int .i64 c.sk) rfl; have z6 := HYK.out W hS 6 (.slice pa la qa) rfl; have z7 := HYK.out W hS 7 (.int .i64 c.mn) rfl; have z8 := HYK.out W hS 8 (.int .i64 c.mx) rfl; have z9 := HYK.out W hS 9 (.int .i64 c.wl) rfl; go_simp; (try with_reducible rfl)
  go_frame
  refine takeL (i := 2) (v := ?_) rfl (by kernel_rfl) (by kernel_rfl) (by kernel_rfl) (by first | exact fun c a w h => hP c a _ _ w h | exact fun _ _ _ h => h) (Or.inl ⟨by rfl, ?_⟩) (by assumption) ?_
  rotate_left
  · intro W hS; go_simp; (try with_reducible rfl)
  go_frame
  refine takeL (i := 3) (v := ?_) rfl (by kernel_rfl) (by kernel_rfl) (by kernel_rfl) (by first | exact fun c a w h => hP c a _ _ w h | exact fun _ _ _ h => h) (Or.inl ⟨by rfl, ?_⟩) (by assumption) ?_
  rotate_left
  · intro W hS; have := HYK.out W hS 10 (.int .i64 c.prio) rfl; go_simp; (try with_reducible rfl)
  go_frame
  refine takeL (i := 4) (v := ?_) rfl (by kernel_rfl) (by kernel_rfl) (by kernel_rfl) (by first | exact fun c a w h => hP c a _ _ w h | exact fun _ _ _ h => h) (Or.inl ⟨by rfl, ?_⟩) (by assumption) ?_
  rotate_left
  · intro W hS; go_simp; (try with_reducible rfl)
  go_frame
  refine takeL (i := 5) (v := ?_) rfl (by kernel_rfl) (by kernel_rfl) (by kernel_rfl) (by first | exact fun c a w h => hP c a _ _ w h | exact fun _ _ _ h => h) (Or.inl ⟨by rfl, ?_⟩) (by assumption) ?_
  rotate_left
  · intro W hS; have := HYK.out W hS 11 (.bool c.hasPrio) rfl; go_simp; (try with_reducible rfl)
  go_frame
  refine takeL (i := 6) (v := ?_) rfl (by kernel_rfl) (by kernel_rfl) (by kernel_rfl) (by first | exact fun c a w h => hP c a _ _ w h | exact fun _ _ _ h => h) (Or.inl ⟨by rfl, ?_⟩) (by assumption) ?_
  rotate_left
  · intro W hS; go_simp; (try with_reducible rfl)
  go_frame
  refine takeL (i := 7) (v := ?_) rfl (by kernel_rfl) (by kernel_rfl) (by kernel_rfl) (by first | exact fun c a w h => hP c a _ _ w h | exact fun _ _ _ h => h) (Or.inl ⟨by rfl, ?_⟩) (by assumption) ?_
  rotate_left
  · intro W hS; have := HYK.out W hS 14 (.slice pd ld qd) rfl; go_simp; (try with_reducible rfl)
  go_frame
  obtain ⟨v5, k5⟩ := HC.out wr _ HN0.out hs 5 (by decide)
  obtain ⟨v6, k6⟩ := HC.out wr _ HN0.out hs 6 (by decide)
  obtain ⟨v7, k7⟩ := HC.out wr _ HN0.out hs 7 (by decide)
  obtain ⟨v8, k8⟩ := HC.out wr _ HN0.out hs 8 (by decide)
  obtain ⟨v9, k9⟩ := HC.out wr _ HN0.out hs 9 (by decide)
  obtain ⟨v10, k10⟩ := HC.out wr _ HN0.out hs 10 (by decide)
  obtain ⟨v11, k11⟩ := HC.out wr _ HN0.out hs 11 (by decide)
  obtain ⟨v14, k14⟩ := HC.out wr _ HN0.out hs 14 (by decide)
  have ff := HF.out wr _ HN0.out
  refine takeL (i := 8) (v := ?_) rfl (by kernel_rfl) (by kernel_rfl) (by kernel_rfl) (by first | exact fun c a w h => hP c a _ _ w h | exact fun _ _ _ h => h) (Or.inl ⟨by rfl, ?_⟩) (by assumption) ?_
  rotate_left
  · intro W hS; go_simp; (try with_reducible rfl)
  go_frame
  refine wpAnyH_ready (rs := [9]) (by kernel_rfl) (by simp) ?_
  refine readyL rfl ?_ ?_
  rotate_left
  · exact AllReadyH.nil
  intro K hK
  go_simp
  refine hK.out _ _ (grown_ds (i := 9) (v := .int .i64 c.wl) (grown_ds (i := 8) (v := .int .i64 c.mx) (grown_ds (i := 7) (v := .int .i64 c.mn) (grown_ds (i := 6) (v := .slice pa la qa) (grown_ds (i := 5) (v := .int .i64 c.sk) (hHeld)))))) (fun hNew => ?_)
  clear hK K
  replace hHeld := hNew
  clear hNew
  refine takeL (i := 10) (v := ?_) rfl (by kernel_rfl) (by kernel_rfl) (by kernel_rfl) (by first | exact fun c a w h => hP c a _ _ w h | exact fun _ _ _ h => h) (Or.inl ⟨by rfl, ?_⟩) (by assumption) ?_
  rotate_left
  · intro W hS; go_simp; (try with_reducible rfl)
  go_frame
  refine wpAnyH_ready (rs := [11]) (by kernel_rfl) (by simp) ?_
  refine readyL rfl ?_ ?_
  rotate_left
  · exact AllReadyH.nil
  intro K hK
  go_simp
  refine hK.out _ _ (grown_ds (i := 10) (v := .int .i64 c.prio) (hHeld)) (fun hNew => ?_)
  clear hK K
  replace hHeld := hNew
  clear hNew
  refine takeL (i := 12) (v := ?_) rfl (by kernel_rfl) (by kernel_rfl) (by kernel_rfl) (by first | exact fun c a w h => hP c a _ _ w h | exact fun _ _ _ h => h) (Or.inl ⟨by rfl, ?_⟩) (by assumption) ?_
  rotate_left
  · intro W hS; go_simp; (try with_reducible rfl)
  go_frame
  refine wpAnyH_ready (rs := [13]) (by kernel_rfl) (by simp) ?_
  refine readyL rfl ?_ ?_
  rotate_left
  · exact AllReadyH.nil
  intro K hK
  go_simp
  refine hK.out _ _ (grown_ds (i := 11) (v := .bool c.hasPrio) (hHeld)) (fun hNew => ?_)
  clear hK K
  replace hHeld := hNew
  clear hNew
  refine takeL (i := 14) (v := ?_) rfl (by kernel_rfl) (by kernel_rfl) (by kernel_rfl) (by first | exact fun c a w h => hP c a _ _ w h | exact fun _ _ _ h => h) (Or.inl ⟨by rfl, ?_⟩) (by assumption) ?_
  rotate_left
  · intro W hS; go_simp; (try with_reducible rfl)
  go_frame
  refine wpAnyH_ready (rs := [15]) (by kernel_rfl) (by simp) ?_
  refine readyL rfl ?_ ?_
  rotate_left
  · exact AllReadyH.nil
  intro K hK
  go_simp
  refine hK.out _ _ (grown_ds (i := 14) (v := .slice pd ld qd) (hHeld)) (fun hNew => ?_)
  clear hK K
  replace hHeld := hNew
  clear hNew
  refine wpAnyH_done (by kernel_rfl) ?_ _
  exact HQ.out _ _ _ _ _ _ _ _ _ _ _ _ _ (drew_at (heap_set_same (i := 14) (heap_set_same (i := 11) (heap_set_same (i := 10) (heap_set_same (i := 9) (heap_set_same (i := 8) (heap_set_same (i := 7) (heap_set_same (i := 6) (heap_set_same (i := 5) (HN0.out) (.int .i64 c.sk)) (.slice pa la qa)) (.int .i64 c.mn)) (.int .i64 c.mx)) (.int .i64 c.wl)) (.int .i64 c.prio)) (.bool c.hasPrio)) (.slice pd ld qd))) hHeld
end Go.Proofs.YtdkngidangfkiaaGreatDoor.Cmd
namespace Go.Proofs.YtdkngidangfkiaaGreatDoor.Cmd
open Go.RowKit
open Base
open Shape (altC altC_length)
set_option linter.unusedVariables false
set_option linter.unusedSimpArgs false
set_option maxRecDepth 100000 in
set_option maxHeartbeats 8000000 in
theorem alone1 (c : Co) (va vd : Value) (w : World) (h1 : Row w va c.alts) (h2 : Row w vd c.after) (hk : c.kind = 1) :
    Calls Tryz.prog 30 #[cmdV c va vd] w fun e w' => Co2Says (aloneC c) w e w' := by
  obtain ⟨K, a2, a3, a4, a5, a6, a7, a8, a9, a10, a11, a12, a13, a14, a15, a16, a17, a18⟩ := c
  have HA := Lib.hid (fun w' (hb : Below w.heap.size w w') => h1.below hb)
  have HD := Lib.hid (fun w' (hb : Below w.heap.size w w') => h2.below hb)
  obtain ⟨pa, qa, rfl, l1, m1, r1, n1⟩ := h1
  obtain ⟨pd, qd, rfl, l2, m2, r2, n2⟩ := h2
  unfold aloneC Co2Says cmdV zCo
  dsimp only at *
  have t1 : (K == 1) = true := by simpa using hk
  have t5 : (K == 5) = false := by rw [hk]; rfl
  have t6 : (K == 6) = false := by rw [hk]; rfl
  have t7 : (K == 7) = false := by rw [hk]; rfl
  have t8 : (K == 8) = false := by rw [hk]; rfl
  have t9 : (K == 9) = false := by rw [hk]; rfl
  have t10 : (K == 10) = false := by rw [hk]; rfl
  rw [if_pos hk]
  clear r1 n1 r2 n2 l1 l2 m1 m2 hk
  go_enter Tryz.func30, Tryz.ntmps30
  go_upto_region 2 with (first
    | (refine st_cmd rfl (.tmp 3) (.tmp 6) rfl (w.heap.size + 1 + 1) _ _ _ rfl rfl (three_heap w _ _ _).2.2 rfl rfl (by kernel_rfl) ?_)
    | fail)
  obtain ⟨W1, hW⟩ : ∃ W1, W1 = (((w.alloc (.cells #[.int .i64 K, .int .i64 a2, .string a3, .string a4, .string a5, .int .i64 a6, .slice pa a7.length qa, .int .i64 a8, .int .i64 a9, .int .i64 a10, .int .i64 a11, .bool a12, .int .i64 a13, .bool a14, .slice pd a15.length qd, .int .i64 a16, .int .i64 a17, .int .i64 a18] 27)).alloc (.cells #[.int .i64 0, .int .i64 0, .string ⟨#[]⟩, .string ⟨#[]⟩, .string ⟨#[]⟩, .int .i64 0, .slice none 0 0, .int .i64 0, .int .i64 0, .int .i64 0, .int .i64 0, .bool false, .int .i64 0, .bool false, .slice none 0 0, .int .i64 0, .int .i64 0, .int .i64 0] 27)).alloc (.cells #[.int .i64 0, .int .i64 0, .string ⟨#[]⟩, .string ⟨#[]⟩, .string ⟨#[]⟩, .int .i64 0, .slice none 0 0, .int .i64 0, .int .i64 0, .int .i64 0, .int .i64 0, .bool false, .int .i64 0, .bool false, .slice none 0 0, .int .i64 0, .int .i64 0, .int .i64 0] 27)).setRow (w.heap.size + 1 + 1) #[.int .i64 K, .int .i64 0, .string ⟨#[]⟩, .string ⟨#[]⟩, .string ⟨#[]⟩, .int .i64 0, .slice none 0 0, .int .i64 0, .int .i64 0, .int .i64 0, .int .i64 0, .bool false, .int .i64 0, .bool false, .slice none 0 0, .int .i64 0, .int .i64 0, .int .i64 0] := ⟨_, rfl⟩
  have hA1 : W1.heap[w.heap.size]? = some (.cells #[.int .i64 K, .int .i64 a2, .string a3, .string a4, .string a5, .int .i64 a6, .slice pa a7.length qa, .int .i64 a8, .int .i64 a9, .int .i64 a10, .int .i64 a11, .bool a12, .int .i64 a13, .bool a14, .slice pd a15.length qd, .int .i64 a16, .int .i64 a17, .int .i64 a18] 27) := by rw [hW, setRow_other _ _ _ _ (by omega)]; exact (three_heap w _ _ _).1
  have hR1 : W1.heap[w.heap.size + 1]? = some (.cells #[.int .i64 0, .int .i64 0, .string ⟨#[]⟩, .string ⟨#[]⟩, .string ⟨#[]⟩, .int .i64 0, .slice none 0 0, .int .i64 0, .int .i64 0, .int .i64 0, .int .i64 0, .bool false, .int .i64 0, .bool false, .slice none 0 0, .int .i64 0, .int .i64 0, .int .i64 0] 27) := by rw [hW, setRow_other _ _ _ _ (by omega)]; exact (three_heap w _ _ _).2.1
  have hN1 : W1.heap[w.heap.size + 1 + 1]? = some (.cells #[.int .i64 K, .int .i64 0, .string ⟨#[]⟩, .string ⟨#[]⟩, .string ⟨#[]⟩, .int .i64 0, .slice none 0 0, .int .i64 0, .int .i64 0, .int .i64 0, .int .i64 0, .bool false, .int .i64 0, .bool false, .slice none 0 0, .int .i64 0, .int .i64 0, .int .i64 0] 27) := by rw [hW]; exact setRow_heap _ _ _ _ _ _ (three_heap w _ _ _).2.2
  have hB1 : Below w.heap.size w W1 := by rw [hW]; exact below_setRow (below_three _ _ _) _ _ (by omega)
  have hf : ∀ i, W1.frozen? ⟨w.heap.size + 1 + 1, i, none⟩ = false := fun i => by simp [World.frozen?, hN1]
  have hne : ∀ (X : World) (v : Value) (i j : Nat), (X.setCell ⟨w.heap.size + 1 + 1, i, none⟩ v).cell? ⟨w.heap.size, j, none⟩ = X.cell? ⟨w.heap.size, j, none⟩ := fun X v i j => World.cell?_setCell_other _ _ _ _ (fun h => by injection h; omega)
  obtain ⟨x0, x1, x2, x3, x4, x5, x6, x7, x8, x9, x10, x11, x12, x13, x14, x15, x16, x17⟩ := all18 hA1
  clear x1 x2 x3 x4 x5 x6 x7 x8 x9 x10 x11 x12 x13 x14 x15 x16 x17
  rw [← hW]
  have HA1 := Lib.hid hA1
  have HR1 := Lib.hid hR1
  have HN1 := Lib.hid hN1
  have HB1 := Lib.hid hB1
  clear hW hA1 hR1 hN1 hB1
  go_upto_region 5 with fail
  refine alone_r5 w.heap.size (w.heap.size + 1 + 1) (w.heap.size + 1) ⟨K, a2, a3, a4, a5, a6, a7, a8, a9, a10, a11, a12, a13, a14, a15, a16, a17, a18⟩ pa pd a7.length qa a15.length qd _ W1 HA1.out HN1.out rfl (by omega) _ _ _ _ _ _ _ _ _ _ _ _ _ _ _ _ _ _ _ _ _ _ _ _ _ _ _ _ _ _ _ _ _ _ _ _ _ _ _ _ _ _ _ _ _ _ _ _ _ _ _ _ _ _ _ _ _ _ _ _ _ _ _ _ _ _ _ _ _ _ _ _ _ _ _ _ _ _ _ _ (fun _ _ _ _ _ h => h) (fun W2 u14 u15 u16 u17 u18 u19 u20 u21 u22 hN2 hG2 => ?_)
  have HN2 := Lib.hid hN2
  have HG2 := Lib.hid hG2
  have HA2 := Lib.hid ((hG2.block w.heap.size (Array.getElem?_eq_some_iff.1 HA1.out).1 (by intro e; injection e with e; omega)).trans HA1.out)
  clear hN2 hG2 x0
  go_upto_region 6 with fail
  refine alone_r6 w.heap.size (w.heap.size + 1 + 1) (w.heap.size + 1) ⟨K, a2, a3, a4, a5, a6, a7, a8, a9, a10, a11, a12, a13, a14, a15, a16, a17, a18⟩ pa pd a7.length qa a15.length qd _ W2 HA2.out HN2.out rfl (by omega) _ _ _ _ _ _ _ _ _ _ _ _ _ _ _ _ _ _ _ _ _ _ _ _ _ _ _ _ _ _ _ _ _ _ _ _ _ _ _ _ _ _ _ _ _ _ _ _ _ _ _ _ _ _ _ _ _ _ _ _ _ _ _ _ _ _ _ _ _ _ _ _ _ _ _ _ _ _ _ _ (fun _ _ _ _ _ h => h) (fun W3 u23 u24 u25 u26 u27 u28 u29 u30 u31 u32 u33 u34 hN3 hG3 => ?_)
  have hN3b : W3.heap[w.heap.size + 1 + 1]? = some (.cells #[.int .i64 K, .int .i64 0, .string a3, .string a4, .string a5, .int .i64 a6, .slice pa a7.length qa, .int .i64 a8, .int .i64 a9, .int .i64 a10, .int .i64 a11, .bool a12, .int .i64 0, .bool false, .slice pd a15.length qd, .int .i64 0, .int .i64 0, .int .i64 0] 27) := by rw [hN3]; kernel_rfl
  have hG := grown_trans HG2.out hG3
  have hR3 := (hG.block (w.heap.size + 1) (Array.getElem?_eq_some_iff.1 HR1.out).1 (by intro e; injection e with e; omega)).trans HR1.out
  have hB3 : Below w.heap.size w W3 := ⟨hG.os.trans HB1.out.os, hG.tape.trans HB1.out.tape, hG.output.trans HB1.out.output, Nat.le_trans HB1.out.size hG.size, fun k hk => (hG.block k (Nat.lt_of_lt_of_le hk HB1.out.size) (by intro e; injection e with e; omega)).trans (HB1.out.block k hk)⟩
  have HN3 := Lib.hid hN3b
  have HR3 := Lib.hid hR3
  have HB3 := Lib.hid hB3
  clear hN3 hN3b hG3 hG hR3 hB3 HN2 HG2 HA2 HA1 HR1 HN1 HB1
  go_upto_region 17 with fail
  refine wp_region_list ?_
  refine ld_cmd rfl (.tmp 3) rfl (w.heap.size + 1 + 1) _ _ rfl HN3.out rfl ?_
  refine st_cmd rfl (.tmp 2) (.tmp 81) rfl (w.heap.size + 1) _ _ _ rfl rfl HR3.out rfl rfl (by kernel_rfl) ?_
  go_wp2
  exact bodyPost_ret (v := .agg #[.int .i64 K, .int .i64 0, .string a3, .string a4, .string a5, .int .i64 a6, .slice pa a7.length qa, .int .i64 a8, .int .i64 a9, .int .i64 a10, .int .i64 a11, .bool a12, .int .i64 0, .bool false, .slice pd a15.length qd, .int .i64 0, .int .i64 0, .int .i64 0]) (res_cmd Tryz.results30 _ _ (w.heap.size + 1) 27 _ rfl (setRow_heap _ _ _ _ _ _ HR3.out) rfl) rfl ⟨_, _, rfl, HA.out _ (below_setRow HB3.out _ _ (Nat.le_succ _)), HD.out _ (below_setRow HB3.out _ _ (Nat.le_succ _)), below_setRow HB3.out _ _ (Nat.le_succ _)⟩
theorem partsAlone_any (c : Co) (va vd : Value) (w : World) (h1 : Row w va c.alts) (h2 : Row w vd c.after) :
    Calls Tryz.prog 30 #[cmdV c va vd] w fun e w' => Co2Says (aloneC c) w e w' := by
  by_cases k1 : c.kind = 1
  · exact alone1 c va vd w h1 h2 k1
  by_cases k5 : c.kind = 5
  · exact alone5 c va vd w h1 h2 k5
  by_cases k6 : c.kind = 6
  · exact alone6 c va vd w h1 h2 k6
  by_cases k7 : c.kind = 7
  · exact alone7 c va vd w h1 h2 k7
  by_cases k8 : c.kind = 8
  · exact alone8 c va vd w h1 h2 k8
  by_cases k9 : c.kind = 9
  · exact alone9 c va vd w h1 h2 k9
  by_cases k10 : c.kind = 10
  · exact alone10 c va vd w h1 h2 k10
  exact aloneElse c va vd w h1 h2 ⟨k1, k5, k6, k7, k8, k9, k10⟩
end Go.Proofs.YtdkngidangfkiaaGreatDoor.Cmd
namespace Go.Proofs.YtdkngidangfkiaaGreatDoor.Cmd
open Go.RowKit
open Base
open Shape (altC altC_length)
set_option linter.unusedVariables false
set_option linter.unusedSimpArgs false
set_option maxRecDepth 100000 in
set_option maxHeartbeats 1000000 in
theorem check_any (c : Co) (va vd : Value) (w : World) (hT : Tb w) (h1 : Row w va c.alts) (h2 : Row w vd c.after) (hn : c.name.size ≤ 1000000) (hu : c.user.size ≤ 1000000) (ha : c.account.size ≤ 1000000) :
    Calls Tryz.prog 11 #[cmdV c va vd] w fun e w' => e = .returned (.int .i64 (chkC c)) ∧ Below w.heap.size w w' := by
  have cM := fun w2 (hb : Below w.heap.size w w2) => partsMay_any c va vd w2 (hT.later hb) (h1.below hb) (h2.below hb) hn hu ha
  have cA := fun w2 (hb : Below w.heap.size w w2) => partsAlone_any c va vd w2 (h1.below hb) (h2.below hb)
  have cS := fun ua ud w2 (hb : Below w.heap.size w w2) (h3 : Row w2 ua (aloneC c).alts) (h4 : Row w2 ud (aloneC c).after) => same_any c (aloneC c) va vd ua ud w2 (h1.below hb) (h2.below hb) h3 h4
  obtain ⟨pa, qa, rfl, l1, m1, r1, n1⟩ := h1
  obtain ⟨pd, qd, rfl, l2, m2, r2, n2⟩ := h2
  have hC : chkC c = if (partsB c && sameC c (aloneC c)) = true then 0 else 80 := rfl
  rw [hC]
  obtain ⟨M, hM⟩ : ∃ M, M = partsB c := ⟨_, rfl⟩
  obtain ⟨S, hS⟩ : ∃ S, S = sameC c (aloneC c) := ⟨_, rfl⟩
  rw [← hM] at cM ⊢
  rw [← hS] at cS ⊢
  have hbx : ∀ w2, Below (w.alloc (.cells (cmdArr c (.slice pa c.alts.length qa) (.slice pd c.after.length qd)) 27)).heap.size (w.alloc (.cells (cmdArr c (.slice pa c.alts.length qa) (.slice pd c.after.length qd)) 27)) w2 → ∃ T, w2.heap[w.heap.size]? = some (.cells (cmdArr c (.slice pa c.alts.length qa) (.slice pd c.after.length qd)) T) := fun w2 hb => ⟨_, box_cmd hb⟩
  have hb0 : Below w.heap.size w (w.alloc (.cells (cmdArr c (.slice pa c.alts.length qa) (.slice pd c.after.length qd)) 27)) := below_one _
  obtain ⟨W0, hW0⟩ : ∃ W0, W0 = w.alloc (.cells (cmdArr c (.slice pa c.alts.length qa) (.slice pd c.after.length qd)) 27) := ⟨_, rfl⟩
  rw [← hW0] at hbx hb0
  unfold Co2Says at cA
  unfold cmdV at cM cA cS ⊢
  unfold cmdArr at hW0 hbx
  have CM := Lib.hid cM
  have CA := Lib.hid cA
  have CS := Lib.hid cS
  have HBX := Lib.hid hbx
  have HB0 := Lib.hid hb0
  clear cM cA cS hM hS hC r1 r2 n1 n2 l1 l2 m1 m2 hn hu ha hT hbx hb0
  have hb1 : Below W0.heap.size W0 W0.drew := (Below.refl _ _).drew
  cases M with
  | false =>
    go_enter Tryz.func11, Tryz.ntmps11
    go_upto_region 1 with fail
    rw [← hW0]
    clear hW0
    refine wp_region_held_drew (S := fun W => Below W0.heap.size W0 W) (by kernel_rfl) (hb1) (fun hHeld => ?_)
    refine takeL (i := 0) rfl (by kernel_rfl) (by kernel_rfl) (by kernel_rfl) (by first | exact fun c a w h => hP c a _ _ w h | exact fun _ _ _ h => h) (yif_cmd (S := fun W => Below W0.heap.size W0 W) (by rfl) _ rfl (w.heap.size) rfl _ (HBX.out) rfl) (by assumption) ?_
    go_frame
    refine wpAnyH_ready (rs := [1]) (by kernel_rfl) (by simp) ?_
    refine readyL rfl ?_ ?_
    rotate_left
    · exact AllReadyH.nil
    intro K hK
    go_simp
    go_wp2_with (first
      | (go_at_call 29; go_loud ((with_reducible refine (CM.out _ (HB0.out.trans (hb1.mono HB0.out.size))).mono ?_); rintro e w1 ⟨rfl, p1⟩))
      | fail)
    have q1 : Below W0.heap.size W0 w1 := hb1.trans p1
    refine hK.out _ _ (q1) (fun hNew => ?_)
    clear hK K
    replace hHeld := hNew
    clear hNew
    refine takeL (i := 2) (v := ?_) rfl (by kernel_rfl) (by kernel_rfl) (by kernel_rfl) (by first | exact fun c a w h => hP c a _ _ w h | exact fun _ _ _ h => h) (Or.inl ⟨by rfl, ?_⟩) (by assumption) ?_
    rotate_left
    · intro W hS; go_simp; (try with_reducible rfl)
    go_frame
    refine takeL (i := 3) (v := ?_) rfl (by kernel_rfl) (by kernel_rfl) (by kernel_rfl) (by first | exact fun c a w h => hP c a _ _ w h | exact fun _ _ _ h => h) (Or.inl ⟨by rfl, ?_⟩) (by assumption) ?_
    rotate_left
    · intro W hS; go_simp; (try with_reducible rfl)
    go_frame
    refine takeL (i := 4) (v := undef) rfl (by kernel_rfl) (by kernel_rfl) (by kernel_rfl) (by first | exact fun c a w h => hP c a _ _ w h | exact fun _ _ _ h => h) (Or.inr ⟨by rfl, rfl⟩) (by assumption) ?_
    go_frame
    refine takeL (i := 5) (v := undef) rfl (by kernel_rfl) (by kernel_rfl) (by kernel_rfl) (by first | exact fun c a w h => hP c a _ _ w h | exact fun _ _ _ h => h) (Or.inr ⟨by rfl, rfl⟩) (by assumption) ?_
    go_frame
    refine wpAnyH_ready (rs := [6]) (by kernel_rfl) (by simp) ?_
    refine readyL rfl ?_ ?_
    rotate_left
    · exact AllReadyH.nil
    intro K hK
    go_simp
    refine hK.out _ _ hHeld (fun hNew => ?_)
    clear hK K hNew
    refine wpAnyH_ready (rs := [7]) (by kernel_rfl) (by simp) ?_
    refine readyL rfl ?_ ?_
    rotate_left
    · exact AllReadyH.nil
    intro K hK
    go_simp
    refine hK.out _ _ hHeld (fun hNew => ?_)
    clear hK K hNew
    refine takeL (i := 8) (v := undef) rfl (by kernel_rfl) (by kernel_rfl) (by kernel_rfl) (by first | exact fun c a w h => hP c a _ _ w h | exact fun _ _ _ h => h) (Or.inr ⟨by rfl, rfl⟩) (by assumption) ?_
    go_frame
    refine takeL (i := 9) (v := ?_) rfl (by kernel_rfl) (by kernel_rfl) (by kernel_rfl) (by first | exact fun c a w h => hP c a _ _ w h | exact fun _ _ _ h => h) (Or.inl ⟨by rfl, ?_⟩) (by assumption) ?_
    rotate_left
    · intro W hS; go_simp; (try with_reducible rfl)
    go_frame
    refine wpAnyH_done (by kernel_rfl) ?_ _
    go_wp2
    go_ret
    exact ⟨rfl, HB0.out.trans (q1.mono HB0.out.size)⟩
  | true =>
    go_enter Tryz.func11, Tryz.ntmps11
    go_upto_region 1 with fail
    rw [← hW0]
    clear hW0
    refine wp_region_held_drew (S := fun W => Below W0.heap.size W0 W) (by kernel_rfl) (hb1) (fun hHeld => ?_)
    refine takeL (i := 0) rfl (by kernel_rfl) (by kernel_rfl) (by kernel_rfl) (by first | exact fun c a w h => hP c a _ _ w h | exact fun _ _ _ h => h) (yif_cmd (S := fun W => Below W0.heap.size W0 W) (by rfl) _ rfl (w.heap.size) rfl _ (HBX.out) rfl) (by assumption) ?_
    go_frame
    refine wpAnyH_ready (rs := [1]) (by kernel_rfl) (by simp) ?_
    refine readyL rfl ?_ ?_
    rotate_left
    · exact AllReadyH.nil
    intro K hK
    go_simp
    go_wp2_with (first
      | (go_at_call 29; go_loud ((with_reducible refine (CM.out _ (HB0.out.trans (hb1.mono HB0.out.size))).mono ?_); rintro e w1 ⟨rfl, p1⟩))
      | fail)
    have q1 : Below W0.heap.size W0 w1 := hb1.trans p1
    refine hK.out _ _ (q1) (fun hNew => ?_)
    clear hK K
    replace hHeld := hNew
    clear hNew
    refine takeL (i := 2) (v := ?_) rfl (by kernel_rfl) (by kernel_rfl) (by kernel_rfl) (by first | exact fun c a w h => hP c a _ _ w h | exact fun _ _ _ h => h) (Or.inl ⟨by rfl, ?_⟩) (by assumption) ?_
    rotate_left
    · intro W hS; go_simp; (try with_reducible rfl)
    go_frame
    refine takeL (i := 3) (v := ?_) rfl (by kernel_rfl) (by kernel_rfl) (by kernel_rfl) (by first | exact fun c a w h => hP c a _ _ w h | exact fun _ _ _ h => h) (Or.inl ⟨by rfl, ?_⟩) (by assumption) ?_
    rotate_left
    · intro W hS; go_simp; (try with_reducible rfl)
    go_frame
    refine takeL (i := 4) rfl (by kernel_rfl) (by kernel_rfl) (by kernel_rfl) (by first | exact fun c a w h => hP c a _ _ w h | exact fun _ _ _ h => h) (yif_cmd (S := fun W => Below W0.heap.size W0 W) (by rfl) _ rfl (w.heap.size) rfl _ (HBX.out) rfl) (by assumption) ?_
    go_frame
    refine takeL (i := 5) rfl (by kernel_rfl) (by kernel_rfl) (by kernel_rfl) (by first | exact fun c a w h => hP c a _ _ w h | exact fun _ _ _ h => h) (yif_cmd (S := fun W => Below W0.heap.size W0 W) (by rfl) _ rfl (w.heap.size) rfl _ (HBX.out) rfl) (by assumption) ?_
    go_frame
    refine wpAnyH_ready (rs := [6]) (by kernel_rfl) (by simp) ?_
    refine readyL rfl ?_ ?_
    rotate_left
    · exact AllReadyH.nil
    intro K hK
    go_simp
    go_wp2_with (first
      | (go_at_call 30; go_loud ((with_reducible refine (CA.out _ (HB0.out.trans (q1.mono HB0.out.size))).mono ?_); rintro e w2 ⟨ua, ud, rfl, r3, r4, p2⟩; have R3 := Lib.hid r3; have R4 := Lib.hid r4; clear r3 r4))
      | fail)
    have q2 : Below W0.heap.size W0 w2 := q1.trans (p2.mono q1.size)
    refine hK.out _ _ (q2) (fun hNew => ?_)
    clear hK K
    replace hHeld := hNew
    clear hNew
    refine wpAnyH_ready (rs := [7]) (by kernel_rfl) (by simp) ?_
    refine readyL rfl ?_ ?_
    rotate_left
    · exact AllReadyH.nil
    intro K hK
    go_simp
    go_wp2_with (first
      | (go_at_call 13; go_loud ((with_reducible refine (CS.out ua ud _ (HB0.out.trans (q2.mono HB0.out.size)) R3.out R4.out).mono ?_); rintro e w3 ⟨rfl, p3⟩))
      | fail)
    have q3 : Below W0.heap.size W0 w3 := q2.trans (p3.mono q2.size)
    refine hK.out _ _ (q3) (fun hNew => ?_)
    clear hK K
    replace hHeld := hNew
    clear hNew
    refine takeL (i := 8) (v := ?_) rfl (by kernel_rfl) (by kernel_rfl) (by kernel_rfl) (by first | exact fun c a w h => hP c a _ _ w h | exact fun _ _ _ h => h) (Or.inl ⟨by rfl, ?_⟩) (by assumption) ?_
    rotate_left
    · intro W hS; go_simp; (try with_reducible rfl)
    go_frame
    refine takeL (i := 9) (v := ?_) rfl (by kernel_rfl) (by kernel_rfl) (by kernel_rfl) (by first | exact fun c a w h => hP c a _ _ w h | exact fun _ _ _ h => h) (Or.inl ⟨by rfl, ?_⟩) (by assumption) ?_
    rotate_left
    · intro W hS; go_simp; (try with_reducible rfl)
    go_frame
    refine wpAnyH_done (by kernel_rfl) ?_ _
    cases S with
    | false =>
      go_wp2
      go_ret
      exact ⟨rfl, HB0.out.trans (q3.mono HB0.out.size)⟩
    | true =>
      go_wp2
      go_ret
      exact ⟨rfl, HB0.out.trans (q3.mono HB0.out.size)⟩
end Go.Proofs.YtdkngidangfkiaaGreatDoor.Cmd
namespace Go.Proofs.YtdkngidangfkiaaGreatDoor.Cmd
open Go.RowKit
open Base
open HoursLib (BldR Kept)
open Lex (wrB chE)
open Shape (altC altC_length)
set_option linter.unusedVariables false
set_option linter.unusedSimpArgs false
theorem chE_size {t : Lex.Tok} (h : chE t = 0) : (wrB t).size ≤ 400 := by
  unfold Lex.chE at h
  split at h
  · rename_i hE; exact (Lex.tkA_toks hE).1
  · simp at h
theorem fds_small {c : Co} (h : mayC c = true) : ∀ f ∈ fieldsC c, f.1.size ≤ 1000 ∧ vlFit f.2 ∧ (∀ x, f.2 = .word x → x.size ≤ 1000) ∧ (fdT f).length ≤ 3000 := by
  intro f hf
  obtain ⟨h1, h2⟩ := fields_wr h f hf
  obtain ⟨s, v⟩ := f
  have h3 : s.size ≤ 400 := chE_size h1
  have h4 : vlFit v ∧ ∀ x, v = .word x → x.size ≤ 1000 := by
    cases v with
    | word x => exact ⟨trivial, fun y hy => by injection hy with hy; subst hy; have := chE_size (of_decide_eq_true h2 : chE (1, x, 0, 0) = 0); have : x.size ≤ 400 := this; omega⟩
    | num n => exact ⟨by unfold vlOk at h2; unfold vlFit fitI; omega, fun y hy => by cases hy⟩
    | id n => exact ⟨by unfold vlOk at h2; unfold vlFit fitI; omega, fun y hy => by cases hy⟩
    | tk n => exact ⟨trivial, fun y hy => by cases hy⟩
    | opt a b => exact ⟨by unfold vlOk at h2; unfold vlFit fitI; omega, fun y hy => by cases hy⟩
    | span a b => exact ⟨by unfold vlOk at h2; unfold vlFit fitI; omega, fun y hy => by cases hy⟩
  have h5 := val_short v h4.1 h4.2
  refine ⟨by dsimp only; omega, h4.1, h4.2, ?_⟩
  unfold fdT
  have h6 : s.data.toList.length = s.size := (Lib.size_eq s).symm
  simp only [List.length_cons, List.length_append]
  omega
theorem fds_few {c : Co} (h : mayC c = true) : (fieldsC c).length ≤ 20 := by
  obtain ⟨s1, _⟩ := may_ok h
  have h1 := s1.after.2.1
  have h2 := s1.alts.2.1
  unfold fieldsC fieldsS
  simp only [List.length_append, List.length_map]
  have a1 := onF_len (decide ((spreadC c).user ≠ nil_)) kUser (.word (spreadC c).user)
  have a2 := onF_len (decide ((spreadC c).account ≠ nil_)) kAccount (.word (spreadC c).account)
  have a3 := onF_len (spreadC c).hasPrio kPrio (.num (spreadC c).prio)
  have a4 := onF_len ((spreadC c).kind == 10) kFrom (.num (spreadC c).frm)
  have a5 := onF_len (decide ((spreadC c).nodes ≠ 0)) kNodes (.num (spreadC c).nodes)
  have a6 := onF_len (decide ((spreadC c).mx ≠ 0)) kRange (.span (spreadC c).mn (spreadC c).mx)
  have a7 := onF_len (spreadC c).hasTime kTime (.tk (spreadC c).time)
  omega
theorem fld_len : ∀ (F : List Fd), (∀ f ∈ F, (fdT f).length ≤ 3000) → (fldT F).length ≤ 3000 * F.length
  | [], _ => Nat.le_refl _
  | f :: F, h => by
    have h1 := h f (by simp)
    have h2 := fld_len F (fun x hx => h x (by simp [hx]))
    unfold fldT at h2 ⊢
    rw [List.flatMap_cons, List.length_append, List.length_cons]
    omega
theorem fld_take (F : List Fd) (k : Nat) (h : k < F.length) : fldT (F.take (k + 1)) = fldT (F.take k) ++ fdT F[k] := by
  unfold fldT
  rw [List.take_succ_eq_append_getElem h, List.flatMap_append]
  simp
structure MayN (c : Co) : Prop where
  kind : 0 ≤ c.kind ∧ c.kind ≤ 12
  node : fitI c.node
  job : fitI c.job
  alts : c.sk = 1 → c.alts ≠ []
  few1 : c.alts.length ≤ 100
  few2 : c.after.length ≤ 100
  deps : ∀ d ∈ c.after, 0 ≤ d.1 ∧ d.1 ≤ 3
theorem may_n {c : Co} (h : mayC c = true) : MayN c := by
  have hb := kind_bd h
  by_cases hk : c.kind = 1
  · have s := sub_ok h hk
    obtain ⟨d1, d2, d3⟩ := (depsB_iff _).1 s.after
    have hd : ∀ d ∈ c.after, 0 ≤ d.1 ∧ d.1 ≤ 3 := fun d hd => by have := (depOk_iff d).1 (d2 d hd); omega
    have hn : fitI c.node := by rw [s.node]; unfold fitI; omega
    have hj : fitI c.job := by rw [s.job]; unfold fitI; omega
    rcases shape_cases s.shape with ⟨k1, ⟨a, ea, oa⟩, e1, e2, e3⟩ | ⟨k2, n2, l2, o2, e1, e2, e3⟩ | ⟨k3, n3, b1, b2, b3⟩
    · exact ⟨by omega, hn, hj, fun _ => by rw [ea]; simp, by rw [ea]; simp, by omega, hd⟩
    · exact ⟨by omega, hn, hj, fun _ => n2, by omega, by omega, hd⟩
    · exact ⟨by omega, hn, hj, fun e => by omega, by rw [n3]; simp, by omega, hd⟩
  · obtain ⟨q, _, h3, _, h5, _, g2, _, _, g5, _, g7, _⟩ := other_ok h hk
    obtain ⟨f1, f2, f3, f4, f5, f6, f7⟩ := alone_facts ((mayC_iff c).1 h).2
    have ha := (f1 hk).2.2.2.2.2.2.2.2
    refine ⟨by omega, ?_, ?_, fun e => by omega, by rw [h5]; simp, by rw [ha]; simp, by rw [ha]; simp⟩
    · unfold fitI
      by_cases k : c.kind = 7 ∨ c.kind = 8 ∨ c.kind = 9
      · have := g5 k; omega
      · have := f6 (by omega) (by omega) (by omega); omega
    · unfold fitI
      by_cases k : c.kind = 2 ∨ c.kind = 3 ∨ c.kind = 4 ∨ c.kind = 11 ∨ c.kind = 5 ∨ c.kind = 6
      · have := g2 k; omega
      · by_cases k12 : c.kind = 12
        · have := g7 k12; omega
        · have := f7 (by omega); omega
theorem head_len {c : Co} (h : mayC c = true) : (headT c).length ≤ 1000 := by
  have hb := kind_bd h
  have n := may_n h
  have hv : (verb c.kind).size ≤ 9 := by
    obtain ⟨m, hm⟩ := Int.eq_ofNat_of_zero_le n.kind.1
    have hk := n.kind.2
    have := verb_short ⟨m, by omega⟩
    rw [hm]; exact this
  have hv2 : (verb c.kind).data.toList.length = (verb c.kind).size := (Lib.size_eq _).symm
  have h1 := num_short c.node n.node
  have h2 := num_short c.job n.job
  unfold headT
  rw [List.length_append]
  split
  · rename_i hk
    have s := sub_ok h hk
    have h3 : (nameT c.name).length ≤ 400 := by
      rw [← (name_ok s.name).2, ← Lib.size_eq]
      exact chE_size (name_ok s.name).1
    rw [List.length_cons]; omega
  · split
    · rw [List.length_cons]; omega
    · split
      · rw [List.length_cons]; omega
      · simp; omega
set_option maxRecDepth 100000 in
set_option maxHeartbeats 2000000 in
theorem show_no (c : Co) (va vd : Value) (w : World) (hT : Tb w) (h1 : Row w va c.alts) (h2 : Row w vd c.after) (hn : c.name.size ≤ 1000000) (hu : c.user.size ≤ 1000000) (ha : c.account.size ≤ 1000000) (hm : mayC c = false) :
    Calls Tryz.prog 9 #[cmdV c va vd] w fun e w' => e = .returned (.tuple #[.string (showC c).1, .int .i64 (showC c).2]) ∧ Below w.heap.size w w' := by
  have c1 := fun w2 (hb : Below w.heap.size w w2) => check_any c va vd w2 (hT.later hb) (h1.below hb) (h2.below hb) hn hu ha
  have hs : showC c = (nil_, 80) := by unfold showC; rw [hm]; rfl
  have hc : chkC c = 80 := by unfold chkC; rw [hm]; rfl
  rw [hs]
  rw [hc] at c1
  obtain ⟨pd, qd, rfl, l2, m2, r2, n2⟩ := h2
  obtain ⟨pa, qa, rfl, l1, m1, r1, n1⟩ := h1
  unfold cmdV at c1 ⊢
  have C1 := Lib.hid c1
  clear c1 hs hc hT r1 r2 n1 n2 hm
  go_enter Tryz.func9, Tryz.ntmps9
  go_wp2_with (first
    | (refine ld_cmd rfl (.tmp 1) rfl w.heap.size _ _ rfl (heap_alloc_new w _) rfl ?_)
    | (go_at_call 11; go_loud ((with_reducible refine (C1.out _ (Base.bel_)).mono ?_); rintro e w1 ⟨rfl, p1⟩))
    | fail)
  go_ret2
  exact ⟨rfl, Base.bel_⟩
end Go.Proofs.YtdkngidangfkiaaGreatDoor.Cmd
namespace Go.Proofs.YtdkngidangfkiaaGreatDoor.Cmd
open Go.RowKit
open Base
open HoursLib (BldR Kept)
open Shape (altC altC_length)
set_option linter.unusedVariables false
set_option linter.unusedSimpArgs false
theorem own_kept {b4 b : Nat} {v : Value} {F : List Fd} {W U : World} (o : OwnS 2 fdC b4 57 v F W) (k : Kept b W U) (hb : b < b4) (hF : 0 < F.length) : OwnS 2 fdC b4 57 v F U := by
  rcases o.1.2 with ⟨rfl, hn⟩ | ⟨x, cap, cur, rfl, q1, q2, q3⟩
  · omega
  · have h := k x _ q2 (by intro e; injection e with e; omega) (by intro c fz e; injection e with _ e; revert e; decide)
    have hl := (Array.getElem?_eq_some_iff.1 h).1
    exact ⟨⟨o.1.1, .inr ⟨x, cap, cur, rfl, q1, h, q3⟩⟩, by omega⟩
structure SwAt (w W : World) (b b4 : Nat) (v : Value) (HL : List UInt8) (F : List Fd) (k : Nat) : Prop where
  le : k ≤ F.length
  bld : BldR w w.heap.size b (HL ++ fldT (F.take k)) W
  own : OwnS 2 fdC b4 57 v F W
set_option maxRecDepth 100000 in
set_option maxHeartbeats 4000000 in
theorem show_yes (c : Co) (va vd : Value) (w : World) (hT : Tb w) (h1 : Row w va c.alts) (h2 : Row w vd c.after) (hn : c.name.size ≤ 1000000) (hu : c.user.size ≤ 1000000) (ha : c.account.size ≤ 1000000) (hm : mayC c = true) :
    Calls Tryz.prog 9 #[cmdV c va vd] w fun e w' => e = .returned (.tuple #[.string (showC c).1, .int .i64 (showC c).2]) ∧ Below w.heap.size w w' := by
  have mn := may_n hm
  have c1 := fun w2 (hb : Below w.heap.size w w2) => check_any c va vd w2 (hT.later hb) (h1.below hb) (h2.below hb) hn hu ha
  have c2 := fun w2 (hb : Below w.heap.size w w2) => head_any c va vd w2 (hT.later hb) (h1.below hb) (h2.below hb) mn.kind hn mn.node mn.job
  have c3 := fun w2 (hb : Below w.heap.size w w2) => fields_any c va vd w2 (hT.later hb) (h1.below hb) (h2.below hb) mn.alts mn.few1 mn.few2 mn.deps
  have hs : showC c = if 400 < (lineT c).length then (nil_, 3) else (lineB c, 0) := by unfold showC; rw [if_pos hm]
  have hc : chkC c = 0 := by unfold chkC; rw [hm]; rfl
  rw [hc] at c1
  have hfs := fds_small hm
  have hff := fds_few hm
  have hhl := head_len hm
  have hlt : lineT c = headT c ++ fldT (fieldsC c) := rfl
  have hlb : lineB c = ⟨(lineT c).toArray⟩ := rfl
  rw [hlb, hlt] at hs
  obtain ⟨F, hF⟩ : ∃ F, F = fieldsC c := ⟨_, rfl⟩
  rw [← hF] at hfs hff hs c3
  obtain ⟨HL, hHL⟩ : ∃ l, l = headT c := ⟨_, rfl⟩
  have hhb : headB c = ⟨HL.toArray⟩ := by unfold headB; rw [hHL]
  rw [← hHL] at hhl hs
  rw [hhb] at c2
  obtain ⟨SB, hSB⟩ : ∃ x, x = showC c := ⟨_, rfl⟩
  rw [← hSB] at hs ⊢
  obtain ⟨pd, qd, rfl, l2, m2, r2, n2⟩ := h2
  obtain ⟨pa, qa, rfl, l1, m1, r1, n1⟩ := h1
  have hbx : ∀ w2, Below (w.alloc (.cells #[.int .i64 c.kind, .int .i64 c.job, .string c.name, .string c.user, .string c.account, .int .i64 c.sk, .slice pa c.alts.length qa, .int .i64 c.mn, .int .i64 c.mx, .int .i64 c.wl, .int .i64 c.prio, .bool c.hasPrio, .int .i64 c.time, .bool c.hasTime, .slice pd c.after.length qd, .int .i64 c.node, .int .i64 c.nodes, .int .i64 c.frm] 27)).heap.size (w.alloc (.cells #[.int .i64 c.kind, .int .i64 c.job, .string c.name, .string c.user, .string c.account, .int .i64 c.sk, .slice pa c.alts.length qa, .int .i64 c.mn, .int .i64 c.mx, .int .i64 c.wl, .int .i64 c.prio, .bool c.hasPrio, .int .i64 c.time, .bool c.hasTime, .slice pd c.after.length qd, .int .i64 c.node, .int .i64 c.nodes, .int .i64 c.frm] 27)) w2 → w2.heap[w.heap.size]? = some (.cells #[.int .i64 c.kind, .int .i64 c.job, .string c.name, .string c.user, .string c.account, .int .i64 c.sk, .slice pa c.alts.length qa, .int .i64 c.mn, .int .i64 c.mx, .int .i64 c.wl, .int .i64 c.prio, .bool c.hasPrio, .int .i64 c.time, .bool c.hasTime, .slice pd c.after.length qd, .int .i64 c.node, .int .i64 c.nodes, .int .i64 c.frm] 27) := fun w2 hb => box_cmd hb
  unfold cmdV at c1 c2 c3 ⊢
  have C1 := Lib.hid c1
  have C2 := Lib.hid c2
  have C3 := Lib.hid c3
  have HBX := Lib.hid hbx
  have HB0 := Lib.hid (below_one (w := w) (.cells #[.int .i64 c.kind, .int .i64 c.job, .string c.name, .string c.user, .string c.account, .int .i64 c.sk, .slice pa c.alts.length qa, .int .i64 c.mn, .int .i64 c.mx, .int .i64 c.wl, .int .i64 c.prio, .bool c.hasPrio, .int .i64 c.time, .bool c.hasTime, .slice pd c.after.length qd, .int .i64 c.node, .int .i64 c.nodes, .int .i64 c.frm] 27))
  have HFS := Lib.hid hfs
  have HS := Lib.hid hs
  have HT := Lib.hid hT
  have HHL := Lib.hid hhl
  clear c1 c2 c3 hs hc hT r1 r2 n1 n2 hm hfs hlt hlb hF hHL hhb hSB hhl hbx mn hn hu ha
  go_enter Tryz.func9, Tryz.ntmps9
  go_wp2_with (first
    | (go_at_call 11; go_loud ((with_reducible refine (C1.out _ HB0.out).mono ?_); rintro e w1 ⟨rfl, p1⟩; have X1 := Lib.hid (HBX.out w1 p1); have Q1 := Lib.hid (HB0.out.trans (p1.mono HB0.out.size)); have hq1 := HoursLib.bldR_new w w1 Q1.out _ rfl; have R1 := Lib.hid hq1; have X1b := Lib.hid ((Lib.alloc_old w1 (.cells #[.pointer none, .slice none 0 0] 46) w.heap.size (Array.getElem?_eq_some_iff.1 X1.out).1).trans X1.out); clear hq1 p1))
    | (go_at_call 19; go_loud ((with_reducible refine (C2.out _ (Hours.bldBel R1.out)).mono ?_); rintro e w2 ⟨rfl, p2⟩; have R2 := Lib.hid (R1.out.below p2); have X2 := Lib.hid ((p2.block w.heap.size (Array.getElem?_eq_some_iff.1 X1b.out).1).trans X1b.out)))
    | (go_at_call 18; go_loud ((with_reducible refine (HoursLib.writeString_r w w2 w.heap.size w1.heap.size [] ⟨HL.toArray⟩ R2.out (by have h9 := HHL.out; have h8 : (⟨HL.toArray⟩ : ByteArray).size = HL.length := Lib.size_eq _; rw [h8]; simp only [List.length_nil]; omega)).mono ?_); rintro e w3 ⟨rfl, r3, k3⟩; have R3 := Lib.hid r3; have X3 := Lib.hid (k3 w.heap.size _ X2.out (by intro e; injection e with e; have := X1.out; have := (Array.getElem?_eq_some_iff.1 this).1; omega) (by intro c fz e; injection e with _ e; revert e; decide))))
    | (go_at_call 20; go_loud ((with_reducible refine (C3.out _ (Hours.bldBel R3.out)).mono ?_); rintro e w4 ⟨v4, b4, rfl, hb4, ho4, p4⟩; obtain ⟨o4, q4, rfl, hr4, _, _, hm4⟩ := ho4.value fdC_length; have R4 := Lib.hid (R3.out.below p4)))
    | (refine ld_cmd rfl (.tmp 1) rfl w.heap.size _ _ rfl X3.out rfl ?_)
    | (refine ld_cmd rfl (.tmp 1) rfl w.heap.size _ _ rfl X1b.out rfl ?_)
    | (refine ld_cmd rfl (.tmp 1) rfl w.heap.size _ _ rfl (heap_alloc_new w _) rfl ?_)
    | fail)
  clear hr4 hm4
  have hst : SwAt w w4 w1.heap.size b4 (.slice o4 F.length q4) HL F 0 := ⟨Nat.zero_le _, by have := R4.out; rw [List.nil_append] at this; rw [List.take_zero]; show BldR w w.heap.size w1.heap.size (HL ++ []) w4; rw [List.append_nil]; exact this, ho4⟩
  have HST := Lib.hid hst
  have hbb : w1.heap.size < b4 := by
    rcases R3.out.1 with ⟨_, v, h, _⟩ | ⟨_, v, h, _⟩
    · have := (Array.getElem?_eq_some_iff.1 h).1; omega
    · have := (Array.getElem?_eq_some_iff.1 h).1; omega
  have HBB := Lib.hid hbb
  clear hst hbb ho4 R1 R2 R3 r3 k3 R4 hb4 p4 X1 X1b X2 X3 C1 C2 C3 HBX HB0
  go_loopw [19] (fun i wr => ∃ k : Nat, i = .int .i64 (k : Int) ∧ SwAt w wr w1.heap.size b4 (.slice o4 F.length q4) HL F k) (fun i _ => F.length - (intOf i).toNat)
  case atStart => exact ⟨0, rfl, HST.out⟩
  case round =>
    obtain ⟨k, rfl, hs⟩ := hrel
    have hk := hs.le
    have HS0 := Lib.hid hs
    by_cases hp : k < F.length
    · obtain ⟨_, _, e1, hr, _, _, _⟩ := hs.own.value fdC_length
      injection e1 with e1 _ e2
      subst e1
      obtain ⟨bb, off, rfl, y0, y1⟩ := fd_cells hr hp
      have hft := fld_take F k hp
      have hfs := HFS.out _ (List.getElem_mem hp)
      have hll := fld_len (F.take k) (fun f hf => (HFS.out f (List.mem_of_mem_take hf)).2.2.2)
      obtain ⟨⟨s, v⟩, hf⟩ : ∃ f : Fd, f = F[k] := ⟨_, rfl⟩
      rw [← hf] at y0 y1 hft hfs
      dsimp only at y0 y1 hfs
      obtain ⟨T, y, hv⟩ := vl_cases v
      rw [hv] at y1
      have HV := Lib.hid hv
      have HFT := Lib.hid hft
      have HF2 := Lib.hid hfs
      have HLL := Lib.hid hll
      have hlow : (0 : Int) ≤ (k : Int) := by omega
      have hup : (k : Int) < ((F.length : Nat) : Int) := by omega
      clear hft hfs hll hf hs hr e2 hv
      go_upto_region 9 with fail
      have hnb : wr.heap.size ≠ w1.heap.size := by
        rcases HS0.out.bld.1 with ⟨_, v, h, _⟩ | ⟨_, v, h, _⟩
        · have := (Array.getElem?_eq_some_iff.1 h).1; omega
        · have := (Array.getElem?_eq_some_iff.1 h).1; omega
      have HNB := Lib.hid hnb
      clear hnb
      refine show_r9 w w.heap.size w1.heap.size wr.heap.size (HL ++ fldT (F.take k)) s v _ (HS0.out.bld.alloc _) (by rw [HV.out]; exact heap_alloc_new wr _) HNB.out (HT.out.later (Hours.bldBel (HS0.out.bld.alloc _))) HF2.out.1 HF2.out.2.1 HF2.out.2.2.1 (by have h7 := HLL.out; have h8 := HHL.out; rw [List.length_append]; rw [List.length_take] at h7; omega) _ _ _ _ _ _ _ _ _ _ _ _ _ _ _ _ _ _ _ _ _ _ _ _ _ _ _ _ _ _ _ _ _ _ _ (fun _ _ _ _ _ h => h) (fun W2 u23 u24 u25 u26 u27 u28 u29 u30 u31 hB2 hK2 => ?_)
      have HB2 := Lib.hid hB2
      have HK2 := Lib.hid hK2
      clear hB2 hK2
      go_wp2
      refine ⟨⟨k + 1, by go_num, ⟨by omega, ?_, ?_⟩⟩, ?_⟩
      · rw [HFT.out, ← List.append_assoc]; exact HB2.out
      · exact own_kept (HS0.out.own.alloc _) HK2.out HBB.out (by omega)
      · simp [intOf]; omega
    · have hlow : ¬ (k : Int) < ((F.length : Nat) : Int) := by omega
      have hbl := hs.bld
      rw [List.take_of_length_le (by omega)] at hbl
      obtain ⟨L, hL⟩ : ∃ l, l = HL ++ fldT F := ⟨_, rfl⟩
      rw [← hL] at hbl HS
      have HBL := Lib.hid hbl
      clear hL hbl hs HS0 HST
      by_cases h4 : 400 < L.length
      · have h5 : (400 : Int) < ((L.length : Nat) : Int) := by omega
        have hsb : SB = (nil_, 3) := by have := HS.out; rw [if_pos h4] at this; exact this
        subst hsb
        clear HS h4
        go_wp2_with (first
          | (go_at_call 21; go_loud ((with_reducible refine (len_r w _ w.heap.size w1.heap.size L HBL.out).mono ?_); rintro e w5 ⟨rfl, rfl⟩))
          | fail)
        go_ret2
        exact ⟨rfl, Hours.bldBel HBL.out⟩
      · have h5 : ¬ (400 : Int) < ((L.length : Nat) : Int) := by omega
        have hsb : SB = (⟨L.toArray⟩, 0) := by have := HS.out; rw [if_neg h4] at this; exact this
        subst hsb
        clear HS h4
        go_wp2_with (first
          | (go_at_call 21; go_loud ((with_reducible refine (len_r w _ w.heap.size w1.heap.size L HBL.out).mono ?_); rintro e w5 ⟨rfl, rfl⟩))
          | (go_at_call 22; go_loud ((with_reducible refine (HoursLib.string_r w _ w.heap.size w1.heap.size L HBL.out).mono ?_); rintro e w6 ⟨rfl, p6⟩))
          | fail)
        go_ret2
        exact ⟨rfl, p6⟩
theorem show_any (c : Co) (va vd : Value) (w : World) (hT : Tb w) (h1 : Row w va c.alts) (h2 : Row w vd c.after) (hn : c.name.size ≤ 1000000) (hu : c.user.size ≤ 1000000) (ha : c.account.size ≤ 1000000) :
    Calls Tryz.prog 9 #[cmdV c va vd] w fun e w' => e = .returned (.tuple #[.string (showC c).1, .int .i64 (showC c).2]) ∧ Below w.heap.size w w' := by
  cases hm : mayC c with
  | true => exact show_yes c va vd w hT h1 h2 hn hu ha hm
  | false => exact show_no c va vd w hT h1 h2 hn hu ha hm
end Go.Proofs.YtdkngidangfkiaaGreatDoor.Cmd
