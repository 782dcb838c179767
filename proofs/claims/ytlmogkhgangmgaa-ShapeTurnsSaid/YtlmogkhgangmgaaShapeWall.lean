/-
  The walk of the program's Walls.
-/
import Derived.Test.YtlmogkhgangmgaaShapeOpt
namespace Go.Proofs.Ytlmogkhgangmgaa.Shape
open Go.RowKit
open Base
set_option linter.unusedVariables false
set_option linter.unusedSimpArgs false

theorem SBox.frozen {W : World} {B : Nat} {k mn mx wl : Int} {sl : Value} (h : SBox W B k sl mn mx wl) : W.frozen? ⟨B, 0, none⟩ = false ∧ W.frozen? ⟨B, 1, none⟩ = false ∧ W.frozen? ⟨B, 2, none⟩ = false ∧ W.frozen? ⟨B, 3, none⟩ = false ∧ W.frozen? ⟨B, 4, none⟩ = false := by
  unfold SBox at h
  simp [World.frozen?, h]

theorem readsA_one {w : World} {n : Nat} (hn : n = w.heap.size) (a : Alt) (ty : TypeId) : ReadsS 2 altC (w.alloc (.cells #[.int .i64 a.1, .int .i64 a.2] ty)) (some ⟨n, 0, none⟩) [a] :=
  readsS_one (f := altC) hn a _ rfl rfl ty

theorem own_set {α : Type} {k : Nat} {f : α → List Value} {B : Nat} {e : TypeId} {v : Value} {zs : List α} {w : World} (h : OwnS k f B e v zs w) (p : Addr) (u : Value) (hp : p.block < B) : OwnS k f B e v zs (w.setCell p u) :=
  h.kept (grown_set w p u) (fun j hj => by cases hj; exact hp)
theorem own_reads {α : Type} {k : Nat} {f : α → List Value} {B : Nat} {e : TypeId} {ao : Option Addr} {n cap : Nat} {zs : List α} {w : World} (h : OwnS k f B e (.slice ao n cap) zs w) (hf : ∀ x, (f x).length = k) : ReadsS k f w ao zs := by
  obtain ⟨ao2, cap2, hv, q, _⟩ := h.value hf
  injection hv with h1 h2 h3
  rw [h1]; exact q
theorem shp_set {W : World} {B : Nat} {a0 a1 a2 a3 a4 : Value} (v0 v1 v2 v3 v4 : Value) (r0 : W.cell? ⟨B, 0, none⟩ = some a0) (r1 : W.cell? ⟨B, 1, none⟩ = some a1) (r2 : W.cell? ⟨B, 2, none⟩ = some a2) (r3 : W.cell? ⟨B, 3, none⟩ = some a3) (r4 : W.cell? ⟨B, 4, none⟩ = some a4) :
    (((((W.setCell ⟨B, 0, none⟩ v0).setCell ⟨B, 1, none⟩ v1).setCell ⟨B, 2, none⟩ v2).setCell ⟨B, 3, none⟩ v3).setCell ⟨B, 4, none⟩ v4).cell? ⟨B, 0, none⟩ = some v0 ∧
    (((((W.setCell ⟨B, 0, none⟩ v0).setCell ⟨B, 1, none⟩ v1).setCell ⟨B, 2, none⟩ v2).setCell ⟨B, 3, none⟩ v3).setCell ⟨B, 4, none⟩ v4).cell? ⟨B, 1, none⟩ = some v1 ∧
    (((((W.setCell ⟨B, 0, none⟩ v0).setCell ⟨B, 1, none⟩ v1).setCell ⟨B, 2, none⟩ v2).setCell ⟨B, 3, none⟩ v3).setCell ⟨B, 4, none⟩ v4).cell? ⟨B, 2, none⟩ = some v2 ∧
    (((((W.setCell ⟨B, 0, none⟩ v0).setCell ⟨B, 1, none⟩ v1).setCell ⟨B, 2, none⟩ v2).setCell ⟨B, 3, none⟩ v3).setCell ⟨B, 4, none⟩ v4).cell? ⟨B, 3, none⟩ = some v3 ∧
    (((((W.setCell ⟨B, 0, none⟩ v0).setCell ⟨B, 1, none⟩ v1).setCell ⟨B, 2, none⟩ v2).setCell ⟨B, 3, none⟩ v3).setCell ⟨B, 4, none⟩ v4).cell? ⟨B, 4, none⟩ = some v4 := by
  have ne : ∀ i j : Nat, i ≠ j → (⟨B, i, none⟩ : Addr) ≠ ⟨B, j, none⟩ := fun i j h e => h (by injection e)
  have o : ∀ (X : World) (i j : Nat) (v : Value), i ≠ j → (X.setCell ⟨B, i, none⟩ v).cell? ⟨B, j, none⟩ = X.cell? ⟨B, j, none⟩ := fun X i j v h => World.cell?_setCell_other _ _ _ _ (ne i j h)
  refine ⟨?_, ?_, ?_, ?_, ?_⟩
  · rw [o _ 4 0 _ (by decide), o _ 3 0 _ (by decide), o _ 2 0 _ (by decide), o _ 1 0 _ (by decide)]; exact World.cell?_setCell_same _ _ _ r0
  · rw [o _ 4 1 _ (by decide), o _ 3 1 _ (by decide), o _ 2 1 _ (by decide)]; exact World.cell?_setCell_same _ _ _ (u := a1) (by rw [o _ 0 1 _ (by decide)]; exact r1)
  · rw [o _ 4 2 _ (by decide), o _ 3 2 _ (by decide)]; exact World.cell?_setCell_same _ _ _ (u := a2) (by rw [o _ 1 2 _ (by decide), o _ 0 2 _ (by decide)]; exact r2)
  · rw [o _ 4 3 _ (by decide)]; exact World.cell?_setCell_same _ _ _ (u := a3) (by rw [o _ 2 3 _ (by decide), o _ 1 3 _ (by decide), o _ 0 3 _ (by decide)]; exact r3)
  · exact World.cell?_setCell_same _ _ _ (u := a4) (by rw [o _ 3 4 _ (by decide), o _ 2 4 _ (by decide), o _ 1 4 _ (by decide), o _ 0 4 _ (by decide)]; exact r4)

/-- What Walls answers. -/
def WallSays (k : Int) (zs : List Alt) (mn mx wl x : Int) (w : World) (e : Ending) (w' : World) : Prop :=
  ∃ ao2 cap2, e = .returned (.agg #[.int .i64 k, .slice ao2 zs.length cap2, .int .i64 mn, .int .i64 mx, .int .i64 (wallW k wl x)]) ∧ ReadsS 2 altC w' ao2 (wallL zs x) ∧ (ao2 = none → cap2 = 0) ∧ zs.length ≤ cap2 ∧ cap2 ≤ maxLen ∧ Below w.heap.size w w'

set_option maxRecDepth 100000 in
set_option maxHeartbeats 4000000 in
theorem swalls_any (k : Int) (ao : Option Addr) (len cap : Nat) (zs : List Alt) (mn mx wl x : Int) (w : World) (hlen : zs.length = len) (hl : len ≤ cap) (hcap : cap ≤ maxLen) (hsmall : len ≤ 1000) (hr : ReadsS 2 altC w ao zs) :
    Calls Try.prog 18 #[.agg #[.int .i64 k, .slice ao len cap, .int .i64 mn, .int .i64 mx, .int .i64 wl], .int .i64 x] w
      fun e w' => WallSays k zs mn mx wl x w e w' := by
  subst hlen
  obtain ⟨i0, hi, hz0, hz1, hz2⟩ := info_parts info_alt
  have HI := Lib.hid hi
  have HZ0 := Lib.hid hz0
  have HZ1 := Lib.hid hz1
  have HZ2 := Lib.hid hz2
  have HR := Lib.hid hr
  clear hi hz0 hz1 hz2 hr
  have hl64 : zs.length ≤ 9223372036854775807 := by omega
  go_enter Try.func18, Try.ntmps18
  go_wp2
  go_loopw [5, 11] (fun v i wr => ∃ j : Nat, i = .int .i64 (j : Int) ∧ j ≤ zs.length ∧ OwnS 2 altC (w.heap.size + 2) 38 v ((wallL zs x).take j) wr ∧ SBox wr w.heap.size k (.slice ao zs.length cap) mn mx wl ∧ SBox wr (w.heap.size + 1) 0 (.slice none 0 0) 0 0 0 ∧ Below w.heap.size w wr) (fun _ i _ => zs.length - (intOf i).toNat)
  case atStart =>
    refine ⟨0, rfl, Nat.zero_le _, OwnS.nil (by simp), (SBox.new w _ _ _ _ _).alloc _, ?_, below_two _ _⟩
    have := SBox.new (w.alloc (.cells #[.int .i64 k, .slice ao zs.length cap, .int .i64 mn, .int .i64 mx, .int .i64 wl] 24)) 0 (.slice none 0 0) 0 0 0
    simpa using this
  case round =>
    obtain ⟨j, rfl, hj, ho, hs, hres, hb⟩ := hrel
    have HO := Lib.hid ho
    have HS := Lib.hid hs
    have HRES := Lib.hid hres
    have HB := Lib.hid hb
    have hwr : w.heap.size + 1 < wr.heap.size := hres.lt
    by_cases hp : j < zs.length
    · obtain ⟨bb, bo, hao, b0, b1⟩ := alt_cells (HR.out.below altC_length hb) hp
      have hT := wallL_take zs x j hp
      have hlt : ((wallL zs x).take j).length = j := by rw [List.length_take, wallL_length]; omega
      obtain ⟨⟨n, y⟩, hA⟩ : ∃ A : Alt, A = zs[j] := ⟨_, rfl⟩
      rw [← hA] at b0 b1 hT
      dsimp only at b0 b1 hT
      have HT := Lib.hid hT
      have HLT := Lib.hid hlt
      subst hao
      clear hT hlt hA hb hs hres ho
      go_wp2_with (first
        | (at_builtin; refine wpList_append_srcS rfl (.tmp 17) (.tmp 19) 22 rfl altC_length (by decide) i0 _ 16 Try.underlying22 HI.out HZ0.out HZ1.out HZ2.out rfl altC_one rfl ((HO.out.alloc _).alloc _) _ 1 1 [((n, x) : Alt)] rfl rfl (readsA_one (by simp) (n, x) _) (by intro h; cases h) (by have := HLT.out; omega) (by have := HLT.out; unfold maxLen; omega) ?_; intro v4 w4 o4 b4)
        | fail)
      have s4 : SBox w4 w.heap.size k (.slice (some ⟨bb, bo, none⟩) zs.length cap) mn mx wl := ((HS.out.alloc _).alloc _).kept b4 (by omega)
      have r4 : SBox w4 (w.heap.size + 1) 0 (.slice none 0 0) 0 0 0 := ((HRES.out.alloc _).alloc _).kept b4 (by omega)
      refine ⟨⟨j + 1, by go_num, by omega, by rw [HT.out]; exact o4, s4, r4, ?_⟩, ?_⟩
      · exact ((HB.out.alloc HB.out.size _).alloc (by simp; omega) _).trans (b4.mono (by omega))
      · simp [intOf]; omega
    · obtain ⟨s0, s1, s2, s3, s4⟩ := hs.cells
      obtain ⟨f0, f1, f2, f3, f4⟩ := hs.frozen
      obtain ⟨r0, r1, r2, r3, r4⟩ := hres.cells
      obtain ⟨g0, g1, g2, g3, g4⟩ := hres.frozen
      rw [List.take_of_length_le (by rw [wallL_length]; omega)] at ho
      obtain ⟨ao2, cap2, hv, q1, q2, q3, q4⟩ := ho.value altC_length
      rw [wallL_length] at hv q3
      subst hv
      have HO := Lib.hid ho
      have Q2 := Lib.hid q2
      have cS := fun (X : World) (r0 : X.cell? ⟨w.heap.size + 1, 0, none⟩ = some (.int .i64 0)) (r1 : X.cell? ⟨w.heap.size + 1, 1, none⟩ = some (.slice none 0 0)) (r2 : X.cell? ⟨w.heap.size + 1, 2, none⟩ = some (.int .i64 0)) (r3 : X.cell? ⟨w.heap.size + 1, 3, none⟩ = some (.int .i64 0)) (r4 : X.cell? ⟨w.heap.size + 1, 4, none⟩ = some (.int .i64 0)) (v0 v1 v2 v3 v4 : Value) => shp_set (B := w.heap.size + 1) v0 v1 v2 v3 v4 r0 r1 r2 r3 r4
      have CS := Lib.hid cS
      have hne : ∀ (X : World) (i j : Nat) (v : Value), (X.setCell ⟨w.heap.size, i, none⟩ v).cell? ⟨w.heap.size + 1, j, none⟩ = X.cell? ⟨w.heap.size + 1, j, none⟩ := fun X i j v => World.cell?_setCell_other _ _ _ _ (fun h => by injection h; omega)
      have HNE := Lib.hid hne
      clear q1 q2 ho hs hres hb cS hne
      by_cases k3 : k = 3
      · subst k3
        have HW : Hid (wallW 3 wl x = x) := Lib.hid (by unfold wallW; rw [if_pos rfl])
        go_wp2
        obtain ⟨y0, y1, y2, y3, y4⟩ := CS.out ((wr.setCell ⟨w.heap.size, 1, none⟩ (.slice ao2 zs.length cap2)).setCell ⟨w.heap.size, 4, none⟩ (.int .i64 x)) (by rw [HNE.out, HNE.out]; exact r0) (by rw [HNE.out, HNE.out]; exact r1) (by rw [HNE.out, HNE.out]; exact r2) (by rw [HNE.out, HNE.out]; exact r3) (by rw [HNE.out, HNE.out]; exact r4) (.int .i64 3) (.slice ao2 zs.length cap2) (.int .i64 mn) (.int .i64 mx) (.int .i64 x)
        refine bodyPost_ret (v := .agg #[.int .i64 3, .slice ao2 zs.length cap2, .int .i64 mn, .int .i64 mx, .int .i64 x]) (by simp [results, Try.results18, go_sem, y0, y1, y2, y3, y4]) rfl ⟨ao2, cap2, by rw [HW.out], ?_, Q2.out, q3, q4, ?_⟩
        · refine own_reads (own_set (own_set (own_set (own_set (own_set (own_set (own_set HO.out _ _ ?_) _ _ ?_) _ _ ?_) _ _ ?_) _ _ ?_) _ _ ?_) _ _ ?_) altC_length <;> simp
        · repeat (refine Below.setCell ?_ (by simp) _)
          exact HB.out
      · have t3 : (k == 3) = false := by simpa using k3
        have HW : Hid (wallW k wl x = wl) := Lib.hid (by unfold wallW; rw [if_neg k3])
        go_wp2
        obtain ⟨y0, y1, y2, y3, y4⟩ := CS.out (wr.setCell ⟨w.heap.size, 1, none⟩ (.slice ao2 zs.length cap2)) (by rw [HNE.out]; exact r0) (by rw [HNE.out]; exact r1) (by rw [HNE.out]; exact r2) (by rw [HNE.out]; exact r3) (by rw [HNE.out]; exact r4) (.int .i64 k) (.slice ao2 zs.length cap2) (.int .i64 mn) (.int .i64 mx) (.int .i64 wl)
        refine bodyPost_ret (v := .agg #[.int .i64 k, .slice ao2 zs.length cap2, .int .i64 mn, .int .i64 mx, .int .i64 wl]) (by simp [results, Try.results18, go_sem, y0, y1, y2, y3, y4]) rfl ⟨ao2, cap2, by rw [HW.out], ?_, Q2.out, q3, q4, ?_⟩
        · refine own_reads (own_set (own_set (own_set (own_set (own_set (own_set HO.out _ _ ?_) _ _ ?_) _ _ ?_) _ _ ?_) _ _ ?_) _ _ ?_) altC_length <;> simp
        · repeat (refine Below.setCell ?_ (by simp) _)
          exact HB.out

end Go.Proofs.Ytlmogkhgangmgaa.Shape
