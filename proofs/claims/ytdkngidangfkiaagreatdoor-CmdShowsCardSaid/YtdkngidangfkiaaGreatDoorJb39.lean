/-
  Joined out of: The walks of the document's own answer for layer 8: verbs, and the fields of a shape. The walks of the document's own answer for layer 8: the fields of a rigid shape, and of options. The walks of the document's own answer for layer 8: the fields of a shape of options. Layer 8, plain: a command's line as the document's own answer grows it, piece by piece.
-/
import Derived.Test.YtdkngidangfkiaaGreatDoorJb38
import Derived.Test.YtdkngidangfkiaaGreatDoorJb21
import Derived.Test.YtdkngidangfkiaaGreatDoorJb28
import Derived.Maps.RangeWalk
import Derived.Test.YtdkngidangfkiaaGreatDoorJb08
namespace Go.Proofs.YtdkngidangfkiaaGreatDoor.Cmd
open Go.RowKit
open Base Runes Lex
open Shape (frB altC_length altC alt_cells Alt)
set_option linter.unusedVariables false
set_option linter.unusedSimpArgs false
set_option maxRecDepth 100000 in
set_option maxHeartbeats 2000000 in
theorem rverb_any (k : Int) (h : 1 ≤ k ∧ k ≤ 12) (w : World) :
    Calls Tryz.prog 23 #[.int .i64 k] w fun e w' => e = .returned (.string (verb k)) ∧ Below w.heap.size w w' := by
  have hk : k = 1 ∨ k = 2 ∨ k = 3 ∨ k = 4 ∨ k = 5 ∨ k = 6 ∨ k = 7 ∨ k = 8 ∨ k = 9 ∨ k = 10 ∨ k = 11 ∨ k = 12 := by omega
  clear h
  rcases hk with rfl | rfl | rfl | rfl | rfl | rfl | rfl | rfl | rfl | rfl | rfl | rfl
  all_goals
    go_enter Tryz.func23, Tryz.ntmps23
    go_wp2
    go_ret
    exact ⟨rfl, Base.bel_⟩
theorem sh_cells {W : World} {B : Nat} {v0 v1 v2 v3 v4 : Value} {T : TypeId} (h : W.heap[B]? = some (.cells #[v0, v1, v2, v3, v4] T)) :
    W.cell? ⟨B, 0, none⟩ = some v0 ∧ W.cell? ⟨B, 1, none⟩ = some v1 ∧ W.cell? ⟨B, 2, none⟩ = some v2 ∧ W.cell? ⟨B, 3, none⟩ = some v3 ∧ W.cell? ⟨B, 4, none⟩ = some v4 := by
  simp [World.cell?, h]
set_option maxRecDepth 100000 in
set_option maxHeartbeats 2000000 in
theorem rshape3 (mn mx wl : Int) (w : World) (h1 : 0 ≤ mn) (h2 : 0 ≤ mx) (f1 : fitI mn) (f2 : fitI mx) (v : Value) (zs : List (Int × Int)) (hv : Row w v zs) :
    Calls Tryz.prog 27 #[.agg #[.int .i64 3, v, .int .i64 mn, .int .i64 mx, .int .i64 wl]] w fun e w' => e = .returned (.string ⟨(fldT [(kRange, .span mn mx), (kTime, .tk wl)]).toArray⟩) ∧ Below w.heap.size w w' := by
  obtain ⟨pa, qa, rfl, _, _, _, _⟩ := hv
  have c1 := fun w => rdig_any mn h1 (by unfold fitI at f1; omega) w
  have c2 := fun w => rdig_any mx h2 (by unfold fitI at f2; omega) w
  have c3 := fun w => rspan_any wl w
  have s1 := num_short mn f1
  have s2 := num_short mx f2
  have s3 := tim_short wl
  obtain ⟨A, hA⟩ : ∃ A : ByteArray, A = ⟨(numT mn).toArray⟩ := ⟨_, rfl⟩
  obtain ⟨B, hB⟩ : ∃ A : ByteArray, A = ⟨(numT mx).toArray⟩ := ⟨_, rfl⟩
  obtain ⟨C, hC⟩ : ∃ A : ByteArray, A = Hours.shB wl := ⟨_, rfl⟩
  have z1 : A.size ≤ 30 := by rw [hA, Lib.size_eq]; show (numT mn).length ≤ 30; omega
  have z2 : B.size ≤ 30 := by rw [hB, Lib.size_eq]; show (numT mx).length ≤ 30; omega
  have z3 : C.size ≤ 1000 := by rw [hC, Lib.size_eq]; show (timT wl).length ≤ 1000; omega
  have hR : (⟨(fldT [(kRange, .span mn mx), (kTime, .tk wl)]).toArray⟩ : ByteArray) = (⟨#[32, 114, 97, 110, 103, 101, 61]⟩ : ByteArray) ++ A ++ (⟨#[45]⟩ : ByteArray) ++ B ++ (⟨#[32, 116, 105, 109, 101, 61]⟩ : ByteArray) ++ C := by
    rw [hA, hB, hC]
    apply ByteArray.ext; apply Array.toList_inj.1
    simp [ByteArray.data_append, fldT, fdT, valT, kRange, kTime, timT]
  rw [hR]
  rw [← hA] at c1
  rw [← hB] at c2
  rw [← hC] at c3
  have C1 := Lib.hid c1
  have C2 := Lib.hid c2
  have C3 := Lib.hid c3
  have Z1 := Lib.hid z1
  have Z2 := Lib.hid z2
  have Z3 := Lib.hid z3
  clear hA hB hC hR c1 c2 c3 s1 s2 s3 f1 f2 h1 h2 z1 z2 z3
  go_enter Tryz.func27, Tryz.ntmps27
  go_upto_region 6 with fail
  have hdb : (w.alloc (.cells #[.int .i64 3, .slice pa zs.length qa, .int .i64 mn, .int .i64 mx, .int .i64 wl] 24)).heap[w.heap.size]? = some (.cells #[.int .i64 3, .slice pa zs.length qa, .int .i64 mn, .int .i64 mx, .int .i64 wl] 24) := heap_alloc_new _ _
  have hbw : Below w.heap.size w (w.alloc (.cells #[.int .i64 3, .slice pa zs.length qa, .int .i64 mn, .int .i64 mx, .int .i64 wl] 24)) := below_one _
  obtain ⟨W0, hW0⟩ : ∃ W0, W0 = w.alloc (.cells #[.int .i64 3, .slice pa zs.length qa, .int .i64 mn, .int .i64 mx, .int .i64 wl] 24) := ⟨_, rfl⟩
  rw [← hW0] at hdb hbw ⊢
  have HDB := Lib.hid hdb
  have HBW := Lib.hid hbw.drew
  have hlt : w.heap.size < W0.heap.size := (Array.getElem?_eq_some_iff.1 hdb).1
  have HLT := Lib.hid hlt
  have g1 : ¬ 9223372036854775807 < 7 + A.size := by have := Z1.out; omega
  have g2 : ¬ 9223372036854775807 < 7 + A.size + 1 := by have := Z1.out; omega
  have g3 : ¬ 9223372036854775807 < 7 + A.size + 1 + B.size := by have := Z1.out; have := Z2.out; omega
  have g4 : ¬ 9223372036854775807 < 7 + A.size + 1 + B.size + 6 := by have := Z1.out; have := Z2.out; omega
  have g5 : ¬ 9223372036854775807 < 7 + A.size + 1 + B.size + 6 + C.size := by have := Z1.out; have := Z2.out; have := Z3.out; omega
  clear hdb hbw hW0 hlt
  refine wp_region_held_drew (S := fun W => W.heap[w.heap.size]? = some (.cells #[.int .i64 3, .slice pa zs.length qa, .int .i64 mn, .int .i64 mx, .int .i64 wl] 24)) (by kernel_rfl) (HDB.out) (fun hHeld => ?_)
  refine takeL (i := 0) (v := ?_) rfl (by kernel_rfl) (by kernel_rfl) (by kernel_rfl) (by first | exact fun c a w h => hP c a _ _ w h | exact fun _ _ _ h => h) (Or.inl ⟨by rfl, ?_⟩) (by assumption) ?_
  rotate_left
  · intro W hS; go_simp; (try with_reducible rfl)
  go_frame
  refine takeL (i := 1) (v := ?_) rfl (by kernel_rfl) (by kernel_rfl) (by kernel_rfl) (by first | exact fun c a w h => hP c a _ _ w h | exact fun _ _ _ h => h) (Or.inl ⟨by rfl, ?_⟩) (by assumption) ?_
  rotate_left
  · intro W hS; have := (sh_cells hS).2.2.1; go_simp; (try with_reducible rfl)
  go_frame
  refine takeL (i := 5) (v := ?_) rfl (by kernel_rfl) (by kernel_rfl) (by kernel_rfl) (by first | exact fun c a w h => hP c a _ _ w h | exact fun _ _ _ h => h) (Or.inl ⟨by rfl, ?_⟩) (by assumption) ?_
  rotate_left
  · intro W hS; go_simp; (try with_reducible rfl)
  go_frame
  refine takeL (i := 6) (v := ?_) rfl (by kernel_rfl) (by kernel_rfl) (by kernel_rfl) (by first | exact fun c a w h => hP c a _ _ w h | exact fun _ _ _ h => h) (Or.inl ⟨by rfl, ?_⟩) (by assumption) ?_
  rotate_left
  · intro W hS; have := (sh_cells hS).2.2.2.1; go_simp; (try with_reducible rfl)
  go_frame
  refine takeL (i := 10) (v := ?_) rfl (by kernel_rfl) (by kernel_rfl) (by kernel_rfl) (by first | exact fun c a w h => hP c a _ _ w h | exact fun _ _ _ h => h) (Or.inl ⟨by rfl, ?_⟩) (by assumption) ?_
  rotate_left
  · intro W hS; go_simp; (try with_reducible rfl)
  go_frame
  refine takeL (i := 11) (v := ?_) rfl (by kernel_rfl) (by kernel_rfl) (by kernel_rfl) (by first | exact fun c a w h => hP c a _ _ w h | exact fun _ _ _ h => h) (Or.inl ⟨by rfl, ?_⟩) (by assumption) ?_
  rotate_left
  · intro W hS; have := (sh_cells hS).2.2.2.2; go_simp; (try with_reducible rfl)
  go_frame
  refine wpAnyH_ready (rs := [2]) (by kernel_rfl) (by simp) ?_
  refine readyL rfl ?_ ?_
  rotate_left
  · exact AllReadyH.nil
  intro K hK
  go_simp
  go_wp2_with (first
    | (go_at_call 26; go_loud ((with_reducible refine (C1.out _).mono ?_); rintro e w1 ⟨rfl, p1⟩))
    | fail)
  have q1 : Below w.heap.size w w1 := HBW.out.trans (p1.mono HBW.out.size)
  have k1 := (p1.block w.heap.size HLT.out).trans HDB.out
  have l1 : w.heap.size < w1.heap.size := (Array.getElem?_eq_some_iff.1 k1).1
  refine hK.out _ _ (k1) (fun hNew => ?_)
  clear hK K
  replace hHeld := hNew
  clear hNew
  refine takeL (i := 3) (v := ?_) rfl (by kernel_rfl) (by kernel_rfl) (by kernel_rfl) (by first | exact fun c a w h => hP c a _ _ w h | exact fun _ _ _ h => h) (Or.inl ⟨by rfl, ?_⟩) (by assumption) ?_
  rotate_left
  · intro W hS; go_simp; (try with_reducible rfl)
  go_frame
  refine takeL (i := 4) (v := ?_) rfl (by kernel_rfl) (by kernel_rfl) (by kernel_rfl) (by first | exact fun c a w h => hP c a _ _ w h | exact fun _ _ _ h => h) (Or.inl ⟨by rfl, ?_⟩) (by assumption) ?_
  rotate_left
  · intro W hS; go_simp; (try with_reducible rfl)
  go_frame
  refine wpAnyH_ready (rs := [7]) (by kernel_rfl) (by simp) ?_
  refine readyL rfl ?_ ?_
  rotate_left
  · exact AllReadyH.nil
  intro K hK
  go_simp
  go_wp2_with (first
    | (go_at_call 26; go_loud ((with_reducible refine (C2.out _).mono ?_); rintro e w2 ⟨rfl, p2⟩))
    | fail)
  have q2 : Below w.heap.size w w2 := q1.trans (p2.mono q1.size)
  have k2 := (p2.block w.heap.size l1).trans k1
  have l2 : w.heap.size < w2.heap.size := (Array.getElem?_eq_some_iff.1 k2).1
  refine hK.out _ _ (k2) (fun hNew => ?_)
  clear hK K
  replace hHeld := hNew
  clear hNew
  refine takeL (i := 8) (v := ?_) rfl (by kernel_rfl) (by kernel_rfl) (by kernel_rfl) (by first | exact fun c a w h => hP c a _ _ w h | exact fun _ _ _ h => h) (Or.inl ⟨by rfl, ?_⟩) (by assumption) ?_
  rotate_left
  · intro W hS; go_simp; (try with_reducible rfl)
  go_frame
  refine takeL (i := 9) (v := ?_) rfl (by kernel_rfl) (by kernel_rfl) (by kernel_rfl) (by first | exact fun c a w h => hP c a _ _ w h | exact fun _ _ _ h => h) (Or.inl ⟨by rfl, ?_⟩) (by assumption) ?_
  rotate_left
  · intro W hS; go_simp; (try with_reducible rfl)
  go_frame
  refine wpAnyH_ready (rs := [12]) (by kernel_rfl) (by simp) ?_
  refine readyL rfl ?_ ?_
  rotate_left
  · exact AllReadyH.nil
  intro K hK
  go_simp
  go_wp2_with (first
    | (go_at_call 28; go_loud ((with_reducible refine (C3.out _).mono ?_); rintro e w3 ⟨rfl, p3⟩))
    | fail)
  have q3 : Below w.heap.size w w3 := q2.trans (p3.mono q2.size)
  have k3 := (p3.block w.heap.size l2).trans k2
  refine hK.out _ _ (k3) (fun hNew => ?_)
  clear hK K
  replace hHeld := hNew
  clear hNew
  refine takeL (i := 13) (v := ?_) rfl (by kernel_rfl) (by kernel_rfl) (by kernel_rfl) (by first | exact fun c a w h => hP c a _ _ w h | exact fun _ _ _ h => h) (Or.inl ⟨by rfl, ?_⟩) (by assumption) ?_
  rotate_left
  · intro W hS; go_simp; (try with_reducible rfl)
  go_frame
  refine takeL (i := 14) (v := ?_) rfl (by kernel_rfl) (by kernel_rfl) (by kernel_rfl) (by first | exact fun c a w h => hP c a _ _ w h | exact fun _ _ _ h => h) (Or.inl ⟨by rfl, ?_⟩) (by assumption) ?_
  rotate_left
  · intro W hS; go_simp; (try with_reducible rfl)
  go_frame
  refine wpAnyH_done (by kernel_rfl) ?_ _
  go_wp2
  go_ret
  exact ⟨rfl, q3⟩
end Go.Proofs.YtdkngidangfkiaaGreatDoor.Cmd
namespace Go.Proofs.YtdkngidangfkiaaGreatDoor.Cmd
open Go.RowKit
open Base Runes Lex
open Shape (frB altC_length altC alt_cells Alt)
set_option linter.unusedVariables false
set_option linter.unusedSimpArgs false
set_option maxRecDepth 100000 in
set_option maxHeartbeats 2000000 in
theorem rshape1 (mn mx wl : Int) (w : World) (v : Value) (zs : List (Int × Int)) (hv : Row w v zs) (hz : 0 < zs.length) (h1 : 0 ≤ zs[0].1) (f1 : fitI zs[0].1) :
    Calls Tryz.prog 27 #[.agg #[.int .i64 1, v, .int .i64 mn, .int .i64 mx, .int .i64 wl]] w fun e w' => e = .returned (.string ⟨(fldT [(kNodes, .num zs[0].1), (kTime, .tk zs[0].2)]).toArray⟩) ∧ Below w.heap.size w w' := by
  obtain ⟨pa, qa, rfl, l0, m0, r0, _⟩ := hv
  obtain ⟨bb, bo, rfl, y0, y1⟩ := alt_cells r0 hz
  rw [Nat.zero_mul, Nat.add_zero] at y0 y1
  obtain ⟨⟨n, t⟩, hx⟩ : ∃ x : Int × Int, x = zs[0] := ⟨_, rfl⟩
  rw [← hx] at y0 y1 h1 f1 ⊢
  dsimp only at y0 y1 h1 f1 ⊢
  have c1 := fun w => rdig_any n h1 (by unfold fitI at f1; omega) w
  have c3 := fun w => rspan_any t w
  have s1 := num_short n f1
  have s3 := tim_short t
  obtain ⟨A, hA⟩ : ∃ A : ByteArray, A = ⟨(numT n).toArray⟩ := ⟨_, rfl⟩
  obtain ⟨C, hC⟩ : ∃ A : ByteArray, A = Hours.shB t := ⟨_, rfl⟩
  have z1 : A.size ≤ 30 := by rw [hA, Lib.size_eq]; show (numT n).length ≤ 30; omega
  have z3 : C.size ≤ 1000 := by rw [hC, Lib.size_eq]; show (timT t).length ≤ 1000; omega
  have hR : (⟨(fldT [(kNodes, .num n), (kTime, .tk t)]).toArray⟩ : ByteArray) = (⟨#[32, 110, 111, 100, 101, 115, 61]⟩ : ByteArray) ++ A ++ (⟨#[32, 116, 105, 109, 101, 61]⟩ : ByteArray) ++ C := by
    rw [hA, hC]
    apply ByteArray.ext; apply Array.toList_inj.1
    simp [ByteArray.data_append, fldT, fdT, valT, kNodes, kTime, timT]
  rw [hR]
  rw [← hA] at c1
  rw [← hC] at c3
  have C1 := Lib.hid c1
  have C3 := Lib.hid c3
  have Z1 := Lib.hid z1
  have Z3 := Lib.hid z3
  have g0 : (0 : Int) < ((zs.length : Nat) : Int) := by omega
  clear hA hC hR c1 c3 s1 s3 f1 h1 z1 z3 hx r0
  have Y0 := Lib.hid y0
  have Y1 := Lib.hid y1
  clear y0 y1
  go_enter Tryz.func27, Tryz.ntmps27
  go_upto_region 4 with fail
  have hdb : (w.alloc (.cells #[.int .i64 1, .slice (some ⟨bb, bo, none⟩) zs.length qa, .int .i64 mn, .int .i64 mx, .int .i64 wl] 24)).heap[w.heap.size]? = some (.cells #[.int .i64 1, .slice (some ⟨bb, bo, none⟩) zs.length qa, .int .i64 mn, .int .i64 mx, .int .i64 wl] 24) := heap_alloc_new _ _
  have hbw : Below w.heap.size w (w.alloc (.cells #[.int .i64 1, .slice (some ⟨bb, bo, none⟩) zs.length qa, .int .i64 mn, .int .i64 mx, .int .i64 wl] 24)) := below_one _
  obtain ⟨W0, hW0⟩ : ∃ W0, W0 = w.alloc (.cells #[.int .i64 1, .slice (some ⟨bb, bo, none⟩) zs.length qa, .int .i64 mn, .int .i64 mx, .int .i64 wl] 24) := ⟨_, rfl⟩
  rw [← hW0] at hdb hbw ⊢
  have HDB := Lib.hid hdb
  have HBW := Lib.hid hbw.drew
  have hlt : w.heap.size < W0.heap.size := (Array.getElem?_eq_some_iff.1 hdb).1
  have HLT := Lib.hid hlt
  have g1 : ¬ 9223372036854775807 < 7 + A.size := by have := Z1.out; omega
  have g2 : ¬ 9223372036854775807 < 7 + A.size + 6 := by have := Z1.out; omega
  have g3 : ¬ 9223372036854775807 < 7 + A.size + 6 + C.size := by have := Z1.out; have := Z3.out; omega
  clear hdb hbw hW0 hlt
  refine wp_region_held_drew (S := fun W => W.heap[w.heap.size]? = some (.cells #[.int .i64 1, .slice (some ⟨bb, bo, none⟩) zs.length qa, .int .i64 mn, .int .i64 mx, .int .i64 wl] 24) ∧ (W.cell? ⟨bb, bo, none⟩ = some (.int .i64 n) ∧ W.cell? ⟨bb, bo + 1, none⟩ = some (.int .i64 t))) (by kernel_rfl) (⟨HDB.out, cell_below Y0.out HBW.out, cell_below Y1.out HBW.out⟩) (fun hHeld => ?_)
  refine takeL (i := 0) (v := ?_) rfl (by kernel_rfl) (by kernel_rfl) (by kernel_rfl) (by first | exact fun c a w h => hP c a _ _ w h | exact fun _ _ _ h => h) (Or.inl ⟨by rfl, ?_⟩) (by assumption) ?_
  rotate_left
  · intro W hS; go_simp; (try with_reducible rfl)
  go_frame
  refine takeL (i := 1) (v := ?_) rfl (by kernel_rfl) (by kernel_rfl) (by kernel_rfl) (by first | exact fun c a w h => hP c a _ _ w h | exact fun _ _ _ h => h) (Or.inl ⟨by rfl, ?_⟩) (by assumption) ?_
  rotate_left
  · intro W hS; have := (sh_cells hS.1).2.1; go_simp; (try with_reducible rfl)
  go_frame
  refine takeL (i := 2) (v := ?_) rfl (by kernel_rfl) (by kernel_rfl) (by kernel_rfl) (by first | exact fun c a w h => hP c a _ _ w h | exact fun _ _ _ h => h) (Or.inl ⟨by rfl, ?_⟩) (by assumption) ?_
  rotate_left
  · intro W hS; go_simp; (try with_reducible rfl)
  go_frame
  refine takeL (i := 3) (v := ?_) rfl (by kernel_rfl) (by kernel_rfl) (by kernel_rfl) (by first | exact fun c a w h => hP c a _ _ w h | exact fun _ _ _ h => h) (Or.inl ⟨by rfl, ?_⟩) (by assumption) ?_
  rotate_left
  · intro W hS; go_simp; (try with_reducible rfl)
  go_frame
  refine takeL (i := 4) (v := ?_) rfl (by kernel_rfl) (by kernel_rfl) (by kernel_rfl) (by first | exact fun c a w h => hP c a _ _ w h | exact fun _ _ _ h => h) (Or.inl ⟨by rfl, ?_⟩) (by assumption) ?_
  rotate_left
  · intro W hS; have := hS.2.1; go_simp; (try with_reducible rfl)
  go_frame
  refine takeL (i := 8) (v := ?_) rfl (by kernel_rfl) (by kernel_rfl) (by kernel_rfl) (by first | exact fun c a w h => hP c a _ _ w h | exact fun _ _ _ h => h) (Or.inl ⟨by rfl, ?_⟩) (by assumption) ?_
  rotate_left
  · intro W hS; go_simp; (try with_reducible rfl)
  go_frame
  refine takeL (i := 9) (v := ?_) rfl (by kernel_rfl) (by kernel_rfl) (by kernel_rfl) (by first | exact fun c a w h => hP c a _ _ w h | exact fun _ _ _ h => h) (Or.inl ⟨by rfl, ?_⟩) (by assumption) ?_
  rotate_left
  · intro W hS; have := (sh_cells hS.1).2.1; go_simp; (try with_reducible rfl)
  go_frame
  refine takeL (i := 10) (v := ?_) rfl (by kernel_rfl) (by kernel_rfl) (by kernel_rfl) (by first | exact fun c a w h => hP c a _ _ w h | exact fun _ _ _ h => h) (Or.inl ⟨by rfl, ?_⟩) (by assumption) ?_
  rotate_left
  · intro W hS; go_simp; (try with_reducible rfl)
  go_frame
  refine takeL (i := 11) (v := ?_) rfl (by kernel_rfl) (by kernel_rfl) (by kernel_rfl) (by first | exact fun c a w h => hP c a _ _ w h | exact fun _ _ _ h => h) (Or.inl ⟨by rfl, ?_⟩) (by assumption) ?_
  rotate_left
  · intro W hS; go_simp; (try with_reducible rfl)
  go_frame
  refine takeL (i := 12) (v := ?_) rfl (by kernel_rfl) (by kernel_rfl) (by kernel_rfl) (by first | exact fun c a w h => hP c a _ _ w h | exact fun _ _ _ h => h) (Or.inl ⟨by rfl, ?_⟩) (by assumption) ?_
  rotate_left
  · intro W hS; have := hS.2.2; go_simp; (try with_reducible rfl)
  go_frame
  refine wpAnyH_ready (rs := [5]) (by kernel_rfl) (by simp) ?_
  refine readyL rfl ?_ ?_
  rotate_left
  · exact AllReadyH.nil
  intro K hK
  go_simp
  go_wp2_with (first
    | (go_at_call 26; go_loud ((with_reducible refine (C1.out _).mono ?_); rintro e w1 ⟨rfl, p1⟩))
    | fail)
  have q1 : Below w.heap.size w w1 := HBW.out.trans (p1.mono HBW.out.size)
  have k1 := (p1.block w.heap.size HLT.out).trans HDB.out
  have l1 : w.heap.size < w1.heap.size := (Array.getElem?_eq_some_iff.1 k1).1
  refine hK.out _ _ (⟨k1, cell_below Y0.out q1, cell_below Y1.out q1⟩) (fun hNew => ?_)
  clear hK K
  replace hHeld := hNew
  clear hNew
  refine takeL (i := 6) (v := ?_) rfl (by kernel_rfl) (by kernel_rfl) (by kernel_rfl) (by first | exact fun c a w h => hP c a _ _ w h | exact fun _ _ _ h => h) (Or.inl ⟨by rfl, ?_⟩) (by assumption) ?_
  rotate_left
  · intro W hS; go_simp; (try with_reducible rfl)
  go_frame
  refine takeL (i := 7) (v := ?_) rfl (by kernel_rfl) (by kernel_rfl) (by kernel_rfl) (by first | exact fun c a w h => hP c a _ _ w h | exact fun _ _ _ h => h) (Or.inl ⟨by rfl, ?_⟩) (by assumption) ?_
  rotate_left
  · intro W hS; go_simp; (try with_reducible rfl)
  go_frame
  refine wpAnyH_ready (rs := [13]) (by kernel_rfl) (by simp) ?_
  refine readyL rfl ?_ ?_
  rotate_left
  · exact AllReadyH.nil
  intro K hK
  go_simp
  go_wp2_with (first
    | (go_at_call 28; go_loud ((with_reducible refine (C3.out _).mono ?_); rintro e w3 ⟨rfl, p3⟩))
    | fail)
  have q3 : Below w.heap.size w w3 := q1.trans (p3.mono q1.size)
  have k3 := (p3.block w.heap.size l1).trans k1
  refine hK.out _ _ (⟨k3, cell_below Y0.out q3, cell_below Y1.out q3⟩) (fun hNew => ?_)
  clear hK K
  replace hHeld := hNew
  clear hNew
  refine takeL (i := 14) (v := ?_) rfl (by kernel_rfl) (by kernel_rfl) (by kernel_rfl) (by first | exact fun c a w h => hP c a _ _ w h | exact fun _ _ _ h => h) (Or.inl ⟨by rfl, ?_⟩) (by assumption) ?_
  rotate_left
  · intro W hS; go_simp; (try with_reducible rfl)
  go_frame
  refine takeL (i := 15) (v := ?_) rfl (by kernel_rfl) (by kernel_rfl) (by kernel_rfl) (by first | exact fun c a w h => hP c a _ _ w h | exact fun _ _ _ h => h) (Or.inl ⟨by rfl, ?_⟩) (by assumption) ?_
  rotate_left
  · intro W hS; go_simp; (try with_reducible rfl)
  go_frame
  refine wpAnyH_done (by kernel_rfl) ?_ _
  go_wp2
  go_ret
  exact ⟨rfl, q3⟩
end Go.Proofs.YtdkngidangfkiaaGreatDoor.Cmd
namespace Go.Proofs.YtdkngidangfkiaaGreatDoor.Cmd
open Go.RowKit
open Base Runes Lex
open Shape (frB altC_length altC alt_cells Alt)
set_option linter.unusedVariables false
set_option linter.unusedSimpArgs false
theorem fldT_snoc (F : List Fd) (f : Fd) : fldT (F ++ [f]) = fldT F ++ fdT f := by unfold fldT; simp
theorem alt_len (a : Int × Int) (h : fitI a.1) : (fdT (altF a)).length ≤ 3000 := by
  have := val_short (.opt a.1 a.2) h (fun _ e => by cases e)
  unfold altF fdT
  have e : kAlt.data.toList.length = 3 := rfl
  simp only [List.length_cons, List.length_append]
  omega
set_option maxRecDepth 100000 in
set_option maxHeartbeats 2000000 in
theorem rshapeO (K mn mx wl : Int) (hK1 : K ≠ 1) (hK3 : K ≠ 3) (w : World) (v : Value) (zs : List (Int × Int)) (hv : Row w v zs) (hz : zs.length ≤ 100) (hf : ∀ a ∈ zs, 0 ≤ a.1 ∧ fitI a.1) :
    Calls Tryz.prog 27 #[.agg #[.int .i64 K, v, .int .i64 mn, .int .i64 mx, .int .i64 wl]] w fun e w' => e = .returned (.string ⟨(fldT (zs.map altF)).toArray⟩) ∧ Below w.heap.size w w' := by
  obtain ⟨pa, qa, rfl, l0, m0, r0, _⟩ := hv
  have t1 : (K == 1) = false := by simpa using hK1
  have t3 : (K == 3) = false := by simpa using hK3
  have HF := Lib.hid hf
  have HR := Lib.hid r0
  obtain ⟨R, hR⟩ : ∃ r : ByteArray, r = ⟨(fldT (zs.map altF)).toArray⟩ := ⟨_, rfl⟩
  rw [← hR]
  have HRR := Lib.hid hR
  clear hf r0 hK1 hK3 hR
  go_enter Tryz.func27, Tryz.ntmps27
  go_wp2
  go_loopw [4, 3] (fun i c wr => ∃ k : Nat, i = .int .i64 (k : Int) ∧ c = .string ⟨(fldT ((zs.take k).map altF)).toArray⟩ ∧ k ≤ zs.length ∧ wr.heap[w.heap.size]? = some (.cells #[.int .i64 K, .slice pa zs.length qa, .int .i64 mn, .int .i64 mx, .int .i64 wl] 24) ∧ Below w.heap.size w wr) (fun i _ _ => zs.length - (intOf i).toNat)
  case atStart => exact ⟨0, rfl, rfl, Nat.zero_le _, heap_alloc_new _ _, below_one _⟩
  case round =>
    obtain ⟨k, rfl, rfl, hk, hdb, hbw⟩ := hrel
    obtain ⟨x0, x1, x2, x3, x4⟩ := sh_cells hdb
    have HDB := Lib.hid hdb
    have HBW := Lib.hid hbw
    by_cases hp : k < zs.length
    · obtain ⟨bb, bo, rfl, y0, y1⟩ := alt_cells (HR.out.below altC_length hbw) hp
      have htm := take_map altF zs k hp
      have hff := HF.out _ (List.getElem_mem hp)
      obtain ⟨⟨n, t⟩, hx⟩ : ∃ x : Int × Int, x = zs[k] := ⟨_, rfl⟩
      rw [← hx] at y0 y1 htm hff
      dsimp only at y0 y1 hff
      have c1 := fun w => rdig_any n hff.1 (by have := hff.2; unfold fitI at this; omega) w
      have c3 := fun w => rspan_any t w
      have s1 := num_short n hff.2
      have s3 := tim_short t
      obtain ⟨A, hA⟩ : ∃ A : ByteArray, A = ⟨(numT n).toArray⟩ := ⟨_, rfl⟩
      obtain ⟨C, hC⟩ : ∃ A : ByteArray, A = Hours.shB t := ⟨_, rfl⟩
      obtain ⟨O, hO⟩ : ∃ A : ByteArray, A = ⟨(fldT ((zs.take k).map altF)).toArray⟩ := ⟨_, rfl⟩
      have z1 : A.size ≤ 30 := by rw [hA, Lib.size_eq]; show (numT n).length ≤ 30; omega
      have z3 : C.size ≤ 1000 := by rw [hC, Lib.size_eq]; show (timT t).length ≤ 1000; omega
      have z0 : O.size ≤ 300000 := by
        rw [hO, Lib.size_eq]
        show (fldT ((zs.take k).map altF)).length ≤ 300000
        have := fld_len ((zs.take k).map altF) (fun f hf => by
          obtain ⟨a, ha, rfl⟩ := List.mem_map.1 hf
          exact alt_len a (HF.out a (List.mem_of_mem_take ha)).2)
        rw [List.length_map, List.length_take] at this
        omega
      have hN : (⟨(fldT ((zs.take (k + 1)).map altF)).toArray⟩ : ByteArray) = O ++ (⟨#[32, 97, 108, 116, 61]⟩ : ByteArray) ++ A ++ (⟨#[58]⟩ : ByteArray) ++ C := by
        rw [htm, fldT_snoc, hA, hC, hO]
        apply ByteArray.ext; apply Array.toList_inj.1
        simp [ByteArray.data_append, fdT, altF, valT, kAlt, timT]
      rw [← hO]
      rw [← hA] at c1
      rw [← hC] at c3
      have C1 := Lib.hid c1
      have C3 := Lib.hid c3
      have HN := Lib.hid hN
      have Y0 := Lib.hid y0
      have Y1 := Lib.hid y1
      have g1 : ¬ 9223372036854775807 < O.size + 5 := by omega
      have g2 : ¬ 9223372036854775807 < O.size + 5 + A.size := by omega
      have g3 : ¬ 9223372036854775807 < O.size + 5 + A.size + 1 := by omega
      have g4 : ¬ 9223372036854775807 < O.size + 5 + A.size + 1 + C.size := by omega
      have hlow : (0 : Int) ≤ (k : Int) := by omega
      have hup : (k : Int) < ((zs.length : Nat) : Int) := by omega
      have HLT := Lib.hid (Array.getElem?_eq_some_iff.1 hdb).1
      have hb1 := hbw.drew
      have HB1 := Lib.hid hb1
      have hd1 : Below wr.heap.size wr wr.drew := (Below.refl wr.heap.size wr).drew
      have HD1 := Lib.hid hd1
      clear hA hC hO hN c1 c3 s1 s3 z0 z1 z3 hx htm hff hdb hbw y0 y1 hb1 hd1 x0 x2 x3 x4
      go_upto_region 10 with fail
      refine wp_region_held_drew (S := fun W => W.heap[w.heap.size]? = some (.cells #[.int .i64 K, .slice (some ⟨bb, bo, none⟩) zs.length qa, .int .i64 mn, .int .i64 mx, .int .i64 wl] 24) ∧ (W.cell? ⟨bb, bo + k * 2, none⟩ = some (.int .i64 n) ∧ W.cell? ⟨bb, bo + k * 2 + 1, none⟩ = some (.int .i64 t))) (by kernel_rfl) (⟨HDB.out, Y0.out, Y1.out⟩) (fun hHeld => ?_)
      refine takeL (i := 0) (v := ?_) rfl (by kernel_rfl) (by kernel_rfl) (by kernel_rfl) (by first | exact fun c a w h => hP c a _ _ w h | exact fun _ _ _ h => h) (Or.inl ⟨by rfl, ?_⟩) (by assumption) ?_
      rotate_left
      · intro W hS; go_simp; (try with_reducible rfl)
      go_frame
      refine takeL (i := 1) (v := ?_) rfl (by kernel_rfl) (by kernel_rfl) (by kernel_rfl) (by first | exact fun c a w h => hP c a _ _ w h | exact fun _ _ _ h => h) (Or.inl ⟨by rfl, ?_⟩) (by assumption) ?_
      rotate_left
      · intro W hS; go_simp; (try with_reducible rfl)
      go_frame
      refine takeL (i := 2) (v := ?_) rfl (by kernel_rfl) (by kernel_rfl) (by kernel_rfl) (by first | exact fun c a w h => hP c a _ _ w h | exact fun _ _ _ h => h) (Or.inl ⟨by rfl, ?_⟩) (by assumption) ?_
      rotate_left
      · intro W hS; go_simp; (try with_reducible rfl)
      go_frame
      refine takeL (i := 3) (v := ?_) rfl (by kernel_rfl) (by kernel_rfl) (by kernel_rfl) (by first | exact fun c a w h => hP c a _ _ w h | exact fun _ _ _ h => h) (Or.inl ⟨by rfl, ?_⟩) (by assumption) ?_
      rotate_left
      · intro W hS; have := (sh_cells hS.1).2.1; go_simp; (try with_reducible rfl)
      go_frame
      refine takeL (i := 4) (v := ?_) rfl (by kernel_rfl) (by kernel_rfl) (by kernel_rfl) (by first | exact fun c a w h => hP c a _ _ w h | exact fun _ _ _ h => h) (Or.inl ⟨by rfl, ?_⟩) (by assumption) ?_
      rotate_left
      · intro W hS; go_simp; (try with_reducible rfl)
      go_frame
      refine takeL (i := 5) (v := ?_) rfl (by kernel_rfl) (by kernel_rfl) (by kernel_rfl) (by first | exact fun c a w h => hP c a _ _ w h | exact fun _ _ _ h => h) (Or.inl ⟨by rfl, ?_⟩) (by assumption) ?_
      rotate_left
      · intro W hS; go_simp; (try with_reducible rfl)
      go_frame
      refine takeL (i := 6) (v := ?_) rfl (by kernel_rfl) (by kernel_rfl) (by kernel_rfl) (by first | exact fun c a w h => hP c a _ _ w h | exact fun _ _ _ h => h) (Or.inl ⟨by rfl, ?_⟩) (by assumption) ?_
      rotate_left
      · intro W hS; go_simp; (try with_reducible rfl)
      go_frame
      refine takeL (i := 7) (v := ?_) rfl (by kernel_rfl) (by kernel_rfl) (by kernel_rfl) (by first | exact fun c a w h => hP c a _ _ w h | exact fun _ _ _ h => h) (Or.inl ⟨by rfl, ?_⟩) (by assumption) ?_
      rotate_left
      · intro W hS; have := hS.2.1; go_simp; (try with_reducible rfl)
      go_frame
      refine takeL (i := 11) (v := ?_) rfl (by kernel_rfl) (by kernel_rfl) (by kernel_rfl) (by first | exact fun c a w h => hP c a _ _ w h | exact fun _ _ _ h => h) (Or.inl ⟨by rfl, ?_⟩) (by assumption) ?_
      rotate_left
      · intro W hS; go_simp; (try with_reducible rfl)
      go_frame
      refine takeL (i := 12) (v := ?_) rfl (by kernel_rfl) (by kernel_rfl) (by kernel_rfl) (by first | exact fun c a w h => hP c a _ _ w h | exact fun _ _ _ h => h) (Or.inl ⟨by rfl, ?_⟩) (by assumption) ?_
      rotate_left
      · intro W hS; have := (sh_cells hS.1).2.1; go_simp; (try with_reducible rfl)
      go_frame
      refine takeL (i := 13) (v := ?_) rfl (by kernel_rfl) (by kernel_rfl) (by kernel_rfl) (by first | exact fun c a w h => hP c a _ _ w h | exact fun _ _ _ h => h) (Or.inl ⟨by rfl, ?_⟩) (by assumption) ?_
      rotate_left
      · intro W hS; go_simp; (try with_reducible rfl)
      go_frame
      refine takeL (i := 14) (v := ?_) rfl (by kernel_rfl) (by kernel_rfl) (by kernel_rfl) (by first | exact fun c a w h => hP c a _ _ w h | exact fun _ _ _ h => h) (Or.inl ⟨by rfl, ?_⟩) (by assumption) ?_
      rotate_left
      · intro W hS; go_simp; (try with_reducible rfl)
      go_frame
      refine takeL (i := 15) (v := ?_) rfl (by kernel_rfl) (by kernel_rfl) (by kernel_rfl) (by first | exact fun c a w h => hP c a _ _ w h | exact fun _ _ _ h => h) (Or.inl ⟨by rfl, ?_⟩) (by assumption) ?_
      rotate_left
      · intro W hS; go_simp; (try with_reducible rfl)
      go_frame
      refine takeL (i := 16) (v := ?_) rfl (by kernel_rfl) (by kernel_rfl) (by kernel_rfl) (by first | exact fun c a w h => hP c a _ _ w h | exact fun _ _ _ h => h) (Or.inl ⟨by rfl, ?_⟩) (by assumption) ?_
      rotate_left
      · intro W hS; have := hS.2.2; go_simp; (try with_reducible rfl)
      go_frame
      refine wpAnyH_ready (rs := [8]) (by kernel_rfl) (by simp) ?_
      refine readyL rfl ?_ ?_
      rotate_left
      · exact AllReadyH.nil
      intro K hK
      go_simp
      go_wp2_with (first
        | (go_at_call 26; go_loud ((with_reducible refine (C1.out _).mono ?_); rintro e w1 ⟨rfl, p1⟩))
        | fail)
      have r1 : Below wr.heap.size wr w1 := HD1.out.trans p1
      have k1 := (r1.block w.heap.size HLT.out).trans HDB.out
      have v1 := cell_below Y1.out r1
      have v0 := cell_below Y0.out r1
      refine hK.out _ _ (⟨k1, v0, v1⟩) (fun hNew => ?_)
      clear hK K
      replace hHeld := hNew
      clear hNew
      refine takeL (i := 9) (v := ?_) rfl (by kernel_rfl) (by kernel_rfl) (by kernel_rfl) (by first | exact fun c a w h => hP c a _ _ w h | exact fun _ _ _ h => h) (Or.inl ⟨by rfl, ?_⟩) (by assumption) ?_
      rotate_left
      · intro W hS; go_simp; (try with_reducible rfl)
      go_frame
      refine takeL (i := 10) (v := ?_) rfl (by kernel_rfl) (by kernel_rfl) (by kernel_rfl) (by first | exact fun c a w h => hP c a _ _ w h | exact fun _ _ _ h => h) (Or.inl ⟨by rfl, ?_⟩) (by assumption) ?_
      rotate_left
      · intro W hS; go_simp; (try with_reducible rfl)
      go_frame
      refine wpAnyH_ready (rs := [17]) (by kernel_rfl) (by simp) ?_
      refine readyL rfl ?_ ?_
      rotate_left
      · exact AllReadyH.nil
      intro K hK
      go_simp
      go_wp2_with (first
        | (go_at_call 28; go_loud ((with_reducible refine (C3.out _).mono ?_); rintro e w3 ⟨rfl, p3⟩))
        | fail)
      have r3 : Below wr.heap.size wr w3 := r1.trans (p3.mono r1.size)
      have k3 := (r3.block w.heap.size HLT.out).trans HDB.out
      have v3 := cell_below Y1.out r3
      have v2 := cell_below Y0.out r3
      refine hK.out _ _ (⟨k3, v2, v3⟩) (fun hNew => ?_)
      clear hK K
      replace hHeld := hNew
      clear hNew
      refine takeL (i := 18) (v := ?_) rfl (by kernel_rfl) (by kernel_rfl) (by kernel_rfl) (by first | exact fun c a w h => hP c a _ _ w h | exact fun _ _ _ h => h) (Or.inl ⟨by rfl, ?_⟩) (by assumption) ?_
      rotate_left
      · intro W hS; go_simp; (try with_reducible rfl)
      go_frame
      refine takeL (i := 19) (v := ?_) rfl (by kernel_rfl) (by kernel_rfl) (by kernel_rfl) (by first | exact fun c a w h => hP c a _ _ w h | exact fun _ _ _ h => h) (Or.inl ⟨by rfl, ?_⟩) (by assumption) ?_
      rotate_left
      · intro W hS; go_simp; (try with_reducible rfl)
      go_frame
      refine wpAnyH_done (by kernel_rfl) ?_ _
      go_wp2
      refine ⟨⟨k + 1, by go_num, by rw [HN.out], by omega, k3, HBW.out.trans (r3.mono HBW.out.size)⟩, ?_⟩
      simp [intOf]; omega
    · obtain rfl : k = zs.length := by omega
      have hR : (⟨(fldT ((zs.take zs.length).map altF)).toArray⟩ : ByteArray) = R := by rw [HRR.out, List.take_length]
      rw [hR]
      have hlow : ¬ ((zs.length : Nat) : Int) < ((zs.length : Nat) : Int) := by omega
      clear hdb hbw hR
      go_wp2
      go_ret
      exact ⟨rfl, HBW.out⟩
end Go.Proofs.YtdkngidangfkiaaGreatDoor.Cmd
namespace Go.Proofs.YtdkngidangfkiaaGreatDoor.Cmd
open Go.RowKit
open Base Runes Lex
open Shape (frB frB_iff chkB goodB altOk sizeB wallB sizeB_iff wallB_iff mayB spanB)
set_option linter.unusedVariables false
set_option linter.unusedSimpArgs false
theorem fldT_app (a b : List Fd) : fldT (a ++ b) = fldT a ++ fldT b := by unfold fldT; simp
theorem fldT_nil : fldT [] = [] := rfl
theorem fldT_one (f : Fd) : fldT [f] = fdT f := by unfold fldT; simp
theorem onF_yes {s : ByteArray} {v : Vl} : onF true s v = [(s, v)] := by unfold onF; rw [if_pos rfl]
theorem onF_no {s : ByteArray} {v : Vl} : onF false s v = [] := by unfold onF; rw [if_neg (by decide)]
def shpT (c : Co) : List UInt8 :=
  if c.sk = 1 then fldT [(kNodes, .num (c.alts.getD 0 (0, 0)).1), (kTime, .tk (c.alts.getD 0 (0, 0)).2)]
  else if c.sk = 3 then fldT [(kRange, .span c.mn c.mx), (kTime, .tk c.wl)]
  else fldT (c.alts.map altF)
def priT (c : Co) : List UInt8 := fldT (onF c.hasPrio kPrio (.num c.prio))
theorem line_sub {c : Co} (h : mayC c = true) (hk : c.kind = 1) :
    lineT c = (verb 1).data.toList ++ (32 :: nameT c.name) ++ fdT (kUser, .word c.user) ++ fdT (kAccount, .word c.account) ++ priT c ++ fldT (c.after.map depF) ++ shpT c := by
  have s := sub_ok h hk
  have t1 := s.time.1
  have t2 := s.time.2
  have t3 := s.nodes
  have u1 : decide (c.user ≠ nil_) = true := decide_eq_true (name_ne s.user.1)
  have u2 : decide (c.account ≠ nil_) = true := decide_eq_true (name_ne s.account.1)
  have k10 : (c.kind == 10) = false := by rw [hk]; rfl
  have hh : headT c = (verb 1).data.toList ++ (32 :: nameT c.name) := by unfold headT; rw [if_pos hk, hk]
  unfold lineT priT
  rw [hh]
  rcases shape_cases s.shape with ⟨k1, ⟨a, ea, oa⟩, e1, e2, e3⟩ | ⟨k2, n2, l2, o2, e1, e2, e3⟩ | ⟨k3, n3, b1, b2, b3⟩
  · have hn : decide (a.1 ≠ 0) = true := decide_eq_true (by have := (sizeB_iff _).1 ((altOk_iff a).1 oa).1; omega)
    have hs : shpT c = fdT (kNodes, .num a.1) ++ fdT (kTime, .tk a.2) := by
      unfold shpT; rw [if_pos k1, ea]; simp [fldT]
    unfold fieldsC
    rw [spread1 k1 ea, hs]
    unfold fieldsS
    dsimp only
    rw [u1, u2, k10, hn, e2, onF_yes, onF_yes, onF_yes, onF_yes, onF_no]
    simp only [fldT_app, fldT_one, fldT_nil, List.map_nil, ne_eq, not_true_eq_false, decide_false, onF_no, List.append_nil, List.append_assoc]
  · have hs : shpT c = fldT (c.alts.map altF) := by
      unfold shpT; rw [if_neg (by omega), if_neg (by omega)]
    unfold fieldsC
    rw [spread2 k2, hs]
    unfold fieldsS
    rw [u1, u2, k10, t2, t3, e2, onF_yes, onF_yes, onF_no, onF_no]
    simp only [fldT_app, fldT_one, fldT_nil, List.map_nil, ne_eq, not_true_eq_false, decide_false, onF_no, List.append_nil, List.append_assoc]
  · have hn : decide (c.mx ≠ 0) = true := decide_eq_true (by have := (sizeB_iff _).1 b2; omega)
    have hs : shpT c = fdT (kRange, .span c.mn c.mx) ++ fdT (kTime, .tk c.wl) := by
      unfold shpT; rw [if_neg (by omega), if_pos k3]; simp [fldT]
    unfold fieldsC
    rw [spread3 k3, hs]
    unfold fieldsS
    dsimp only
    rw [u1, u2, k10, t3, hn, n3, onF_yes, onF_yes, onF_yes, onF_yes, onF_no]
    simp only [fldT_app, fldT_one, fldT_nil, List.map_nil, ne_eq, not_true_eq_false, decide_false, onF_no, List.append_nil, List.append_assoc]
theorem line_oth {c : Co} (h : mayC c = true) (hk : c.kind ≠ 1) :
    lineT c = (verb c.kind).data.toList ++ (if c.kind = 7 ∨ c.kind = 8 ∨ c.kind = 9 then 32 :: numT c.node else if c.job ≠ 0 then 32 :: numT c.job else []) ++ priT c ++
      fldT (onF (c.kind == 10) kFrom (.num c.frm)) ++ fldT (onF (decide (c.nodes ≠ 0)) kNodes (.num c.nodes)) ++ fldT (onF c.hasTime kTime (.tk c.time)) := by
  obtain ⟨f1, f2, f3, f4, f5, f6, f7⟩ := alone_facts ((mayC_iff c).1 h).2
  obtain ⟨g1, g2, g3, g4, g5, g6, g7, g8, g9⟩ := f1 hk
  have hh : headT c = (verb c.kind).data.toList ++ (if c.kind = 7 ∨ c.kind = 8 ∨ c.kind = 9 then 32 :: numT c.node else if c.job ≠ 0 then 32 :: numT c.job else []) := by unfold headT; rw [if_neg hk]
  unfold lineT priT
  rw [hh]
  unfold fieldsC
  rw [spread_plain g4]
  unfold fieldsS
  rw [g2, g3, g5, g7, g9]
  simp only [fldT_app, fldT_one, fldT_nil, List.map_nil, ne_eq, not_true_eq_false, decide_false, onF_no, List.append_nil, List.nil_append, List.append_assoc]
theorem size_bd {n : Int} (h : sizeB n = true) : 0 ≤ n ∧ fitI n := by
  have := (sizeB_iff n).1 h
  unfold fitI; omega
theorem rshape_may (c : Co) (s : chkB c.sk c.alts c.mn c.mx c.wl = true) (va : Value) (w : World) (h1 : Row w va c.alts) :
    Calls Tryz.prog 27 #[.agg #[.int .i64 c.sk, va, .int .i64 c.mn, .int .i64 c.mx, .int .i64 c.wl]] w fun e w' => e = .returned (.string ⟨(shpT c).toArray⟩) ∧ Below w.heap.size w w' := by
  rcases shape_cases s with ⟨k1, ⟨a, ea, oa⟩, e1, e2, e3⟩ | ⟨k2, n2, l2, o2, e1, e2, e3⟩ | ⟨k3, n3, b1, b2, b3⟩
  · have hz : 0 < c.alts.length := by rw [ea]; exact Nat.one_pos
    have e : c.alts.getD 0 (0, 0) = c.alts[0] := by simp [List.getD, List.getElem?_eq_getElem hz]
    have e0 : c.alts[0] = a := by simp [ea]
    obtain ⟨q1, q2⟩ := size_bd ((altOk_iff a).1 oa).1
    unfold shpT
    rw [if_pos k1, k1, e]
    exact rshape1 c.mn c.mx c.wl w va c.alts h1 hz (by rw [e0]; exact q1) (by rw [e0]; exact q2)
  · unfold shpT
    rw [if_neg (by omega), if_neg (by omega)]
    exact rshapeO c.sk c.mn c.mx c.wl (by omega) (by omega) w va c.alts h1 (by omega) (fun a ha => size_bd ((altOk_iff a).1 (o2 a ha)).1)
  · unfold shpT
    rw [if_neg (by omega), if_pos k3, k3]
    obtain ⟨q1, q2⟩ := size_bd b1
    obtain ⟨q3, q4⟩ := size_bd b2
    exact rshape3 c.mn c.mx c.wl w q1 q3 q2 q4 va c.alts h1
theorem shp_len (c : Co) (s : chkB c.sk c.alts c.mn c.mx c.wl = true) : (shpT c).length ≤ 20000 := by
  have one : ∀ (k : ByteArray) (v : Vl), k.size ≤ 10 → vlFit v → (∀ s, v ≠ .word s) → (fdT (k, v)).length ≤ 3000 := fun k v hk hv hn => by
    have := val_short v hv (fun s e => absurd e (hn s))
    rw [Lib.size_eq] at hk
    unfold fdT
    simp only [List.length_cons, List.length_append]
    omega
  have two : ∀ a b : Fd, (fldT [a, b]).length = (fdT a).length + (fdT b).length := fun a b => by simp [fldT]
  have hw : ∀ n : Int, 1 ≤ n → n ≤ 100000 → fitI n := fun n h1 h2 => by unfold fitI; omega
  rcases shape_cases s with ⟨k1, ⟨a, ea, oa⟩, e1, e2, e3⟩ | ⟨k2, n2, l2, o2, e1, e2, e3⟩ | ⟨k3, n3, b1, b2, b3⟩
  · obtain ⟨q1, q2⟩ := (altOk_iff a).1 oa
    have q4 := (lenB_iff _).1 q2
    unfold shpT
    rw [if_pos k1, ea, two]
    have h1 := one kNodes (.num a.1) (by decide) (size_bd q1).2 (fun s e => by cases e)
    have h2 := one kTime (.tk a.2) (by decide) trivial (fun s e => by cases e)
    exact Nat.le_trans (Nat.add_le_add h1 h2) (by decide)
  · unfold shpT
    rw [if_neg (by omega), if_neg (by omega)]
    have := fld_len (c.alts.map altF) (fun f hf => by
      obtain ⟨a, ha, rfl⟩ := List.mem_map.1 hf
      exact alt_len a (size_bd ((altOk_iff a).1 (o2 a ha)).1).2)
    rw [List.length_map] at this
    omega
  · have q4 := (lenB_iff _).1 b3
    unfold shpT
    rw [if_neg (by omega), if_pos k3, two]
    have h1 := one kRange (.span c.mn c.mx) (by decide) ⟨(size_bd b1).2, (size_bd b2).2⟩ (fun s e => by cases e)
    have h2 := one kTime (.tk c.wl) (by decide) trivial (fun s e => by cases e)
    exact Nat.le_trans (Nat.add_le_add h1 h2) (by decide)
theorem dep_len (d : Int × Int) (h : depOk d = true) : (fdT (depF d)).length ≤ 3000 := by
  obtain ⟨q1, q2⟩ := (depOk_iff d).1 h
  have h2 := num_short d.2 (by unfold fitI; omega)
  unfold depF fdT valT
  have h1 : (howW d.1).data.toList.length ≤ 10 := by
    rcases how3 q1 with ⟨_, e⟩ | ⟨_, e⟩ | ⟨_, e⟩ <;> (rw [e]; decide)
  simp only [List.length_cons, List.length_append]
  omega
theorem deps_len (l : List (Int × Int)) (h : depsB l = true) (k : Nat) : (fldT ((l.take k).map depF)).length ≤ 12000 := by
  obtain ⟨h1, h2, _⟩ := (depsB_iff l).1 h
  have := fld_len ((l.take k).map depF) (fun f hf => by
    obtain ⟨a, ha, rfl⟩ := List.mem_map.1 hf
    exact dep_len a (h2 a (List.mem_of_mem_take ha)))
  rw [List.length_map, List.length_take] at this
  omega
theorem name_len (s : ByteArray) (h : nameB s = true) : (nameT s).length ≤ 200 := by
  rw [← (name_ok h).2]
  have h1 := (name_bytes h).2
  have h2 := qtS_size2 s
  unfold wrB nameTk
  dsimp only
  have h3 : s.data.toList.length ≤ 200 := by rw [← Lib.size_eq]; omega
  have h4 : (qtS s).data.toList.length ≤ 200 := by rw [← Lib.size_eq]; omega
  cases wordB s with
  | true => exact h3
  | false => exact h4
theorem verb_len (k : Int) : (verb k).size ≤ 20 := by
  unfold verb
  rcases Nat.lt_or_ge k.toNat 13 with h | h
  · have key : ∀ i : Fin 13, (verbL.getD i.val nil_).size ≤ 20 := by decide +kernel
    exact key ⟨k.toNat, h⟩
  · rw [List.getD_eq_getElem?_getD, List.getElem?_eq_none (by exact h)]; decide
theorem app_none (O : ByteArray) (l : List (Int × Int)) : O ++ (⟨(fldT ((l.take 0).map depF)).toArray⟩ : ByteArray) = O := by
  apply ByteArray.ext; apply Array.toList_inj.1
  simp [ByteArray.data_append, fldT]
theorem app_one (O : ByteArray) (l : List (Int × Int)) (k : Nat) (h : k < l.length) :
    O ++ (⟨(fldT ((l.take (k + 1)).map depF)).toArray⟩ : ByteArray) = O ++ (⟨(fldT ((l.take k).map depF)).toArray⟩ : ByteArray) ++ (⟨#[32]⟩ : ByteArray) ++ howW l[k].1 ++ (⟨#[61]⟩ : ByteArray) ++ (⟨(numT l[k].2).toArray⟩ : ByteArray) := by
  have e : (l.take (k + 1)).map depF = (l.take k).map depF ++ [depF l[k]] := by rw [List.take_add_one, List.getElem?_eq_getElem h, List.map_append]; rfl
  rw [e, fldT_app, fldT_one]
  apply ByteArray.ext; apply Array.toList_inj.1
  simp [ByteArray.data_append, depF, fdT, valT]
end Go.Proofs.YtdkngidangfkiaaGreatDoor.Cmd
