/-
  The walk of the document's own Walls.
-/
import Derived.Test.YtlmogkhgangmgaaShapeWall
import Derived.Deep.RegionLaw
import Derived.Deep.AppendLies
namespace Go.Proofs.Ytlmogkhgangmgaa.Shape
open Go.RowKit
open Base
set_option linter.unusedVariables false
set_option linter.unusedSimpArgs false

theorem SBox.setAlts {W : World} {B : Nat} {k mn mx wl : Int} {sl : Value} (h : SBox W B k sl mn mx wl) (u : Value) : SBox (W.setCell ⟨B, 1, none⟩ u) B k u mn mx wl := by
  unfold SBox at h ⊢
  obtain ⟨hlt, hk⟩ := Array.getElem?_eq_some_iff.1 h
  show (W.heap.modify B _)[B]? = _
  rw [Array.getElem?_eq_getElem (by rw [Array.size_modify]; exact hlt), Array.getElem_modify_self, hk]
  rfl
theorem SBox.other {W : World} {B : Nat} {k mn mx wl : Int} {sl : Value} (h : SBox W B k sl mn mx wl) (p : Addr) (u : Value) (hp : B ≠ p.block) : SBox (W.setCell p u) B k sl mn mx wl := by
  unfold SBox at h ⊢
  rw [Below.heap_setCell _ _ _ _ hp]; exact h
theorem SBox.grown {W W' : World} {B : Nat} {k mn mx wl : Int} {sl : Value} {r : Option Nat} (h : SBox W B k sl mn mx wl) (hg : W.grownBy W' r) (hr : ∀ j, r = some j → B ≠ j) : SBox W' B k sl mn mx wl := by
  unfold SBox at h ⊢
  rw [hg.block B (Array.getElem?_eq_some_iff.1 h).1 (fun e => hr B e.symm rfl)]; exact h

set_option maxRecDepth 100000 in
set_option maxHeartbeats 4000000 in
theorem rwalls_any (k : Int) (ao : Option Addr) (len cap : Nat) (zs : List Alt) (mn mx wl x : Int) (w : World) (hlen : zs.length = len) (hl : len ≤ cap) (hcap : cap ≤ maxLen) (hsmall : len ≤ 1000) (hr : ReadsS 2 altC w ao zs) :
    Calls Try.prog 20 #[.agg #[.int .i64 k, .slice ao len cap, .int .i64 mn, .int .i64 mx, .int .i64 wl], .int .i64 x] w
      fun e w' => WallSays k zs mn mx wl x w e w' := by
  subst hlen
  obtain ⟨i0, hi, hz0, hz1, hz2⟩ := info_parts info_alt
  have HI := Lib.hid hi
  have HZ0 := Lib.hid hz0
  have HZ1 := Lib.hid hz1
  have HZ2 := Lib.hid hz2
  have HR := Lib.hid hr
  clear hi hz0 hz1 hz2 hr
  have hl64 : zs.length ≤ 9223372036854775807 := by omega
  go_enter Try.func20, Try.ntmps20
  go_wp2
  go_loopw [6] (fun i wr => ∃ (j : Nat) (v : Value), i = .int .i64 (j : Int) ∧ j ≤ zs.length ∧ OwnS 2 altC (w.heap.size + 3) 38 v ((wallL zs x).take j) wr ∧ SBox wr w.heap.size k (.slice ao zs.length cap) mn mx wl ∧ SBox wr (w.heap.size + 1) 0 (.slice none 0 0) 0 0 0 ∧ SBox wr (w.heap.size + 1 + 1) k v mn mx wl ∧ Below w.heap.size w wr) (fun i _ => zs.length - (intOf i).toNat)
  case atStart =>
    refine ⟨0, _, rfl, Nat.zero_le _, OwnS.nil (by simp), ((SBox.new w _ _ _ _ _).alloc _).alloc _, ?_, ?_, (below_two _ _).alloc (by simp; omega) _⟩
    · have := (SBox.new (w.alloc (.cells #[.int .i64 k, .slice ao zs.length cap, .int .i64 mn, .int .i64 mx, .int .i64 wl] 24)) 0 (.slice none 0 0) 0 0 0).alloc (.cells #[.int .i64 k, .slice none 0 0, .int .i64 mn, .int .i64 mx, .int .i64 wl] 24)
      simpa using this
    · have := SBox.new ((w.alloc (.cells #[.int .i64 k, .slice ao zs.length cap, .int .i64 mn, .int .i64 mx, .int .i64 wl] 24)).alloc (.cells #[.int .i64 0, .slice none 0 0, .int .i64 0, .int .i64 0, .int .i64 0] 24)) k (.slice none 0 0) mn mx wl
      simpa using this
  case round =>
    obtain ⟨j, v, rfl, hj, ho, hs, hres, hout, hb⟩ := hrel
    obtain ⟨s0, s1, s2, s3, s4⟩ := hs.cells
    obtain ⟨o0, o1, o2, o3, o4⟩ := hout.cells
    obtain ⟨e0, e1, e2, e3, e4⟩ := hout.frozen
    obtain ⟨ao2, cap2, rfl, q1, q2, q3, q4⟩ := ho.value altC_length
    by_cases hp : j < zs.length
    · obtain ⟨bb, bo, hao, b0, b1⟩ := alt_cells (HR.out.below altC_length hb) hp
      have hT := wallL_take zs x j hp
      have hlt : ((wallL zs x).take j).length = j := by rw [List.length_take, wallL_length]; omega
      have hwr := hout.lt
      obtain ⟨L, hL⟩ : ∃ L, L = (wallL zs x).take j := ⟨_, rfl⟩
      rw [← hL] at ho hT hlt o1 hout
      rw [hlt] at o1 hout ho
      obtain ⟨⟨n, y⟩, hA⟩ : ∃ A : Alt, A = zs[j] := ⟨_, rfl⟩
      rw [← hA] at b0 b1 hT
      dsimp only at b0 b1 hT
      have HT := Lib.hid hT
      have HLT := Lib.hid hlt
      have HO := Lib.hid ho
      have HS := Lib.hid hs
      have HRES := Lib.hid hres
      have HOUT := Lib.hid hout
      have HB := Lib.hid hb
      have hlow : (0 : Int) ≤ (j : Int) := by omega
      have hup : (j : Int) < ((zs.length : Nat) : Int) := by omega
      have hw1 : IntKind.i64.wrap ((j : Int) + 1) = (j : Int) + 1 := by simp only [IntKind.wrap_i64]; omega
      subst hao
      clear hT hlt hA hb hs hres ho hout hL q1 q2 q3 q4
      have hOD : OwnS 2 altC (w.heap.size + 3) 38 (.slice ao2 j cap2) L (wr.drew.alloc (.cells #[.int .i64 n, .int .i64 x] 38)) := OwnS.alloc (w := wr.drew) HO.out _
      have HOD := Lib.hid hOD
      have HOUTD : Hid (SBox (wr.drew.alloc (.cells #[.int .i64 n, .int .i64 x] 38)) (w.heap.size + 1 + 1) k (.slice ao2 j cap2) mn mx wl) := Lib.hid (SBox.alloc (W := wr.drew) HOUT.out _)
      have HOWN : Hid (∀ i, Value.ownBlock (.slice ao2 j cap2) = some i → w.heap.size + 3 ≤ i) := Lib.hid (fun i hi => (HO.out.1.lt i hi).1)
      clear hOD
      go_wp2
      go_region_law ((refine step_append_lies _ rfl (.tmp 24) (.tmp 33) 22 rfl (w.heap.size + 3) 38 i0 _ 2 16 Try.underlying22 HI.out HZ0.out HZ1.out HZ2.out rfl (by decide) (.slice ao2 j cap2) L.length (L.flatMap altC) (by simp [Act.eval, Act.put]) HOD.out.1 ⟨wr.heap.size, 0, none⟩ 1 1 (altC (n, x)) (by simp [Act.eval, Act.put]) rfl (cell_alt_new wr.drew (n, x) _) (altC_one (n, x)) (by decide) (by have := HLT.out; unfold maxLen; omega) (by have := HLT.out; omega) (by simp; omega) _ rfl ?_; intro g cap4 w4 o4 g4 hat hlt4; have t4 := HOUTD.out.grown g4 (fun i hi => by have := HOWN.out i hi; omega); obtain ⟨y0, y1, y2, y3, y4⟩ := t4.cells; obtain ⟨z0, z1, z2, z3, z4⟩ := t4.frozen; have T4 := Lib.hid t4; clear t4))
      all_goals
        have hown4 : OwnS 2 altC (w.heap.size + 3) 38 (.slice (some ⟨g, 0, none⟩) (L.length + 1) cap4) (L ++ [(n, x)]) w4 := by
          refine ⟨?_, by have := g4.size; simp at this; omega⟩
          rw [List.length_append, List.flatMap_append]
          simpa using o4
        have hs4 := (SBox.alloc (W := wr.drew) HS.out (.cells #[.int .i64 n, .int .i64 x] 38)).grown g4 (fun i hi => by have := HOWN.out i hi; omega)
        have hr4 := (SBox.alloc (W := wr.drew) HRES.out (.cells #[.int .i64 n, .int .i64 x] 38)).grown g4 (fun i hi => by have := HOWN.out i hi; omega)
        have hb4 : Below w.heap.size w w4 := (HB.out.drew.alloc (show w.heap.size ≤ wr.drew.heap.size from HB.out.size) (.cells #[.int .i64 n, .int .i64 x] 38)).grown g4 (by have := HB.out.size; simp; omega) (fun i hi => by have := HOWN.out i hi; omega)
        have HOWN4 := Lib.hid hown4
        have HS4 := Lib.hid hs4
        have HR4 := Lib.hid hr4
        have HB4 := Lib.hid hb4
        clear hown4 hs4 hr4 hb4 o4 g4 hat
        go_wp2
        refine ⟨⟨j + 1, .slice (some ⟨g, 0, none⟩) (L.length + 1) cap4, by go_num, by omega, by rw [HT.out]; exact own_set HOWN4.out _ _ (by first | (simp; done) | (simp; omega)), HS4.out.other _ _ (by first | (simp; done) | (simp; omega)), HR4.out.other _ _ (by first | (simp; done) | (simp; omega)), T4.out.setAlts _, HB4.out.setCell (by first | (simp; done) | (simp; omega)) _⟩, ?_⟩
        simp [intOf]; omega
    · obtain ⟨r0, r1, r2, r3, r4⟩ := hres.cells
      obtain ⟨g0, g1, g2, g3, g4⟩ := hres.frozen
      have hlj : ((wallL zs x).take j).length = zs.length := by rw [List.length_take, wallL_length]; omega
      have hL : (wallL zs x).take j = wallL zs x := List.take_of_length_le (by rw [wallL_length]; omega)
      rw [hlj] at ho o1 q3
      rw [hL] at ho
      have HO := Lib.hid ho
      have Q2 := Lib.hid q2
      have HB := Lib.hid hb
      have hne : ∀ (X : World) (i i2 : Nat) (u : Value), (X.setCell ⟨w.heap.size + 1 + 1, i, none⟩ u).cell? ⟨w.heap.size + 1, i2, none⟩ = X.cell? ⟨w.heap.size + 1, i2, none⟩ := fun X i i2 u => World.cell?_setCell_other _ _ _ _ (fun h => by injection h; omega)
      have HNE := Lib.hid hne
      have cS := fun (X : World) (r0 : X.cell? ⟨w.heap.size + 1, 0, none⟩ = some (.int .i64 0)) (r1 : X.cell? ⟨w.heap.size + 1, 1, none⟩ = some (.slice none 0 0)) (r2 : X.cell? ⟨w.heap.size + 1, 2, none⟩ = some (.int .i64 0)) (r3 : X.cell? ⟨w.heap.size + 1, 3, none⟩ = some (.int .i64 0)) (r4 : X.cell? ⟨w.heap.size + 1, 4, none⟩ = some (.int .i64 0)) (v0 v1 v2 v3 v4 : Value) => shp_set (B := w.heap.size + 1) v0 v1 v2 v3 v4 r0 r1 r2 r3 r4
      have CS := Lib.hid cS
      clear q1 q2 ho hs hres hout hb cS hne hlj hL
      by_cases k3 : k = 3
      · subst k3
        have HW : Hid (wallW 3 wl x = x) := Lib.hid (by unfold wallW; rw [if_pos rfl])
        go_wp2
        obtain ⟨y0, y1, y2, y3, y4⟩ := CS.out (wr.setCell ⟨w.heap.size + 1 + 1, 4, none⟩ (.int .i64 x)) (by rw [HNE.out]; exact r0) (by rw [HNE.out]; exact r1) (by rw [HNE.out]; exact r2) (by rw [HNE.out]; exact r3) (by rw [HNE.out]; exact r4) (.int .i64 3) (.slice ao2 zs.length cap2) (.int .i64 mn) (.int .i64 mx) (.int .i64 x)
        refine bodyPost_ret (v := .agg #[.int .i64 3, .slice ao2 zs.length cap2, .int .i64 mn, .int .i64 mx, .int .i64 x]) (by simp [results, Try.results20, go_sem, y0, y1, y2, y3, y4]) rfl ⟨ao2, cap2, by rw [HW.out], ?_, Q2.out, q3, q4, ?_⟩
        · refine own_reads (own_set (own_set (own_set (own_set (own_set (own_set HO.out _ _ ?_) _ _ ?_) _ _ ?_) _ _ ?_) _ _ ?_) _ _ ?_) altC_length <;> first | (simp; done) | (simp; omega)
        · repeat (refine Below.setCell ?_ (by first | (simp; done) | (simp; omega)) _)
          exact HB.out
      · have t3 : (k == 3) = false := by simpa using k3
        have HW : Hid (wallW k wl x = wl) := Lib.hid (by unfold wallW; rw [if_neg k3])
        go_wp2
        obtain ⟨y0, y1, y2, y3, y4⟩ := CS.out wr r0 r1 r2 r3 r4 (.int .i64 k) (.slice ao2 zs.length cap2) (.int .i64 mn) (.int .i64 mx) (.int .i64 wl)
        refine bodyPost_ret (v := .agg #[.int .i64 k, .slice ao2 zs.length cap2, .int .i64 mn, .int .i64 mx, .int .i64 wl]) (by simp [results, Try.results20, go_sem, y0, y1, y2, y3, y4]) rfl ⟨ao2, cap2, by rw [HW.out], ?_, Q2.out, q3, q4, ?_⟩
        · refine own_reads (own_set (own_set (own_set (own_set (own_set HO.out _ _ ?_) _ _ ?_) _ _ ?_) _ _ ?_) _ _ ?_) altC_length <;> first | (simp; done) | (simp; omega)
        · repeat (refine Below.setCell ?_ (by first | (simp; done) | (simp; omega)) _)
          exact HB.out

end Go.Proofs.Ytlmogkhgangmgaa.Shape
