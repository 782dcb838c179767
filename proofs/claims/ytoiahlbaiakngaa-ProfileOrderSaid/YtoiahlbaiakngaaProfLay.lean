/-
  The walk of the closure that lays a step, unless the one ahead tells the same.
-/
import Derived.Test.YtoiahlbaiakngaaProfBits
import Derived.Deep.AppendLies
import Derived.RangeFuncBox
namespace Go.Proofs.Ytoiahlbaiakngaa.Prof
open Go.RowKit
open Base
set_option linter.unusedVariables false
set_option linter.unusedSimpArgs false

theorem info_st : (Try.prog.info? 43).map (fun i => (i.zero, i.size, i.bytes)) = some (some (.agg #[.int .i64 0, .int .i64 0]), 2, 16) := by kernel_rfl
theorem info_parts' {o : Option TypeInfo} {z : Option Value} {s b : Nat} (h : o.map (fun i => (i.zero, i.size, i.bytes)) = some (z, s, b)) : ∃ i, o = some i ∧ i.zero = z ∧ i.size = s ∧ i.bytes = b := by
  cases o with
  | none => simp at h
  | some i => simp only [Option.map_some, Option.some.injEq, Prod.mk.injEq] at h; exact ⟨i, rfl, h.1, h.2.1, h.2.2⟩

theorem own_lt {w : World} {B : Nat} {e : TypeId} {v : Value} {zs : List St} (h : OwnS 2 stC B e v zs w) : ∀ g, v.ownBlock = some g → B ≤ g ∧ g < w.heap.size := fun g hg => h.1.lt g hg

theorem st_new (w : World) (x : St) (t : TypeId) : ∀ j u, (stC x)[j]? = some u → (w.alloc (.cells #[.int .i64 x.1, .int .i64 x.2] t)).cell? ((⟨w.heap.size, 0, none⟩ : Addr).add j) = some u := by
  intro j u hj
  match j, hj with
  | 0, hj => simp [stC] at hj; subst hj; simp [Addr.add]
  | 1, hj => simp [stC] at hj; subst hj; simp [Addr.add]

/-- The collecting variable's box holds a slice of the call's own. -/
def Acc (w : World) (C B : Nat) (v : Value) (Q : List St) : Prop := Boxed w C 22 v ∧ OwnS 2 stC B 43 v Q w ∧ B ≤ C

theorem layL_same {q : List St} {a n : Int} (h : q ≠ []) (hn : (q.getD (q.length - 1) (0, 0)).2 = n) : layL q a n = q := by unfold layL; rw [if_pos ⟨h, hn⟩]
theorem layL_new {q : List St} {a n : Int} (h : ¬ (q ≠ [] ∧ (q.getD (q.length - 1) (0, 0)).2 = n)) : layL q a n = q ++ [(a, n)] := by unfold layL; rw [if_neg h]

def LaySays (w : World) (C B : Nat) (v : Value) (Q : List St) (e : Ending) (w' : World) : Prop :=
  ∃ v', e = .returned (.tuple #[]) ∧ Acc w' C B v' Q ∧ Below B w w' ∧ (∀ g, v'.ownBlock = some g → v.ownBlock = some g ∨ w.heap.size ≤ g) ∧
    (∀ k, k < w.heap.size → k ≠ C → v.ownBlock ≠ some k → w'.heap[k]? = w.heap[k]?)

theorem lay_appended {w w7 : World} {C B g cap : Nat} {v : Value} {Q : List St} {x : St} (hA : Acc w C B v Q)
    (o7 : w7.ownsRow B 43 2 (.slice (some ⟨g, 0, none⟩) (Q.length + 1) cap) (Q.length + 1) (Q.flatMap stC ++ stC x)) (g7 : (w.alloc (.cells #[.int .i64 x.1, .int .i64 x.2] 43)).grownBy w7 v.ownBlock) (hat : v.ownBlock = some g ∨ w.heap.size ≤ g) :
    Boxed w7 C 22 v ∧ LaySays w C B v (Q ++ [x]) (.returned (.tuple #[])) (w7.setCell ⟨C, 0, none⟩ (.slice (some ⟨g, 0, none⟩) (Q.length + 1) cap)) := by
  obtain ⟨hb, ho, hBC⟩ := hA
  obtain ⟨hv1, hv2, hr2, hk2, hb2⟩ := hb.appended (by decide) ho.1 ho.2 hBC o7 g7
  refine ⟨hv1, _, rfl, ⟨hv2, ⟨?_, by have := g7.size; have := ho.2; simp [World.setCell] at *; omega⟩, hBC⟩, hb2, ?_, ?_⟩
  · rw [List.length_append, List.flatMap_append]
    simpa using hr2
  · intro k hk
    have : g = k := by simpa [Value.ownBlock] using hk
    subst this
    rcases hat with h | h
    · exact .inl h
    · exact .inr h
  · intro k hk hkC hko
    rw [Below.heap_setCell _ _ _ _ hkC, g7.block k (by simp; omega) (fun e => hko e.symm), heap_alloc_old w _ hk]

set_option maxRecDepth 100000 in
set_option maxHeartbeats 2000000 in
theorem lay_any (C B : Nat) (v : Value) (Q : List St) (a f : Int) (w : World) (hA : Acc w C B v Q) (hq : Q.length ≤ 5000) :
    Calls Try.prog 34 #[.int .i64 a, .int .i64 f, .pointer (some ⟨C, 0, none⟩)] w fun e w' => LaySays w C B v (layL Q a f) e w' := by
  have hc := hA.1.cell
  have hf := hA.1.frozen
  have hClt := hA.1.lt
  obtain ⟨vo, vcap, rfl, q1, q2, q3, q4⟩ := hA.2.1.value stC_length
  obtain ⟨i0, hi, hz0, hz1, hz2⟩ := info_parts' info_st
  have HI := Lib.hid hi
  have HZ0 := Lib.hid hz0
  have HZ1 := Lib.hid hz1
  have HZ2 := Lib.hid hz2
  clear hi hz0 hz1 hz2
  have HA := Lib.hid hA
  have HOA := Lib.hid (OwnS.alloc hA.2.1 (.cells #[.int .i64 a, .int .i64 f] 43))
  have HB := Lib.hid hA.2.1.2
  have HLEN := Lib.hid hq
  have hq64 : Q.length ≤ 9223372036854775807 := by omega
  by_cases h0 : Q = []
  · have HL := Lib.hid (layL_new (a := a) (n := f) (fun h => h.1 h0))
    have t1 : ((Q.length : Int) == 0) = true := by rw [beq_iff_eq, h0]; rfl
    have t1' : (Q.length == 0) = true := by rw [beq_iff_eq, h0]; rfl
    clear hA q1 q2 q3 q4 h0 hq
    go_enter Try.func34, Try.ntmps34
    go_wp2_with (first
      | (at_builtin; go_loud (refine wpList_append_lies _ rfl (.tmp 19) (.tmp 23) 22 rfl B 43 i0 _ 2 16 Try.underlying22 HI.out HZ0.out HZ1.out HZ2.out rfl (by decide) (.slice vo Q.length vcap) Q.length (Q.flatMap stC) rfl HOA.out.1 ⟨w.heap.size, 0, none⟩ 1 1 (stC (a, f)) rfl rfl (st_new w (a, f) _) (stC_one (a, f)) (by decide) (by have := HLEN.out; unfold maxLen; omega) (by have := HLEN.out; omega) (by have := HB.out; simp; omega) _ rfl ?_; intro g7 cap7 w7 o7 g7r hat hlt; obtain ⟨hv1, hsay⟩ := lay_appended HA.out o7 g7r (hat.imp id fun h => by rw [h]; simp); have hc7 := hv1.cell; have hf7 := hv1.frozen; have HSAY := Lib.hid hsay; clear o7 g7r hat hsay hv1))
      | fail)
    refine bodyPost_end (v := .tuple #[]) (by simp [results, Try.results34, go_sem]) rfl ?_
    rw [HL.out]
    exact HSAY.out
  · have hpos : 0 < Q.length := List.length_pos_iff.2 h0
    have t1 : ((Q.length : Int) == 0) = false := by rw [beq_eq_false_iff_ne]; omega
    have t1' : (Q.length == 0) = false := by rw [beq_eq_false_iff_ne]; omega
    obtain ⟨m, hm⟩ : ∃ m, Q.length = m + 1 := ⟨Q.length - 1, by omega⟩
    obtain ⟨g0, o0, rfl, b0, b1⟩ := st_cells q1 (j := m) (by omega)
    have hlow : (0 : Int) ≤ (m : Int) := by omega
    have hup : (m : Int) < ((Q.length : Nat) : Int) := by omega
    have hwm : IntKind.i64.wrap ((Q.length : Int) - 1) = (m : Int) := by simp only [IntKind.wrap_i64]; omega
    have hgd : Q.getD (Q.length - 1) (0, 0) = Q[m]'(by omega) := by rw [show Q.length - 1 = m from (by omega)]; exact getD_eq _
    obtain ⟨⟨x, y⟩, hX⟩ : ∃ A : St, A = Q[m]'(by omega) := ⟨_, rfl⟩
    rw [← hX] at b1 hgd
    dsimp only at b1
    by_cases hy : y = f
    · have t2 : (y != f) = false := by rw [hy]; simp
      have HL := Lib.hid (layL_same (a := a) (n := f) h0 (by rw [hgd]; exact hy))
      clear q1 q2 q3 q4 h0 hq hm hX hgd b0 hA hy
      go_enter Try.func34, Try.ntmps34
      go_wp2
      refine bodyPost_end (v := .tuple #[]) (by simp [results, Try.results34, go_sem]) rfl ?_
      rw [HL.out]
      exact ⟨_, rfl, HA.out, (Below.refl _ _).mono HB.out, fun g hg => .inl hg, fun _ _ _ _ => rfl⟩
    · have t2 : (y != f) = true := by rw [bne_iff_ne]; exact hy
      have HL := Lib.hid (layL_new (a := a) (n := f) (fun h => hy (by rw [hgd] at h; exact h.2)))
      clear q1 q2 q3 q4 h0 hq hm hX hgd b0 hA hy
      go_enter Try.func34, Try.ntmps34
      go_wp2_with (first
        | (at_builtin; go_loud (refine wpList_append_lies _ rfl (.tmp 19) (.tmp 23) 22 rfl B 43 i0 _ 2 16 Try.underlying22 HI.out HZ0.out HZ1.out HZ2.out rfl (by decide) (.slice (some ⟨g0, o0, none⟩) Q.length vcap) Q.length (Q.flatMap stC) rfl HOA.out.1 ⟨w.heap.size, 0, none⟩ 1 1 (stC (a, f)) rfl rfl (st_new w (a, f) _) (stC_one (a, f)) (by decide) (by have := HLEN.out; unfold maxLen; omega) (by have := HLEN.out; omega) (by have := HB.out; simp; omega) _ rfl ?_; intro g7 cap7 w7 o7 g7r hat hlt; obtain ⟨hv1, hsay⟩ := lay_appended HA.out o7 g7r (hat.imp id fun h => by rw [h]; simp); have hc7 := hv1.cell; have hf7 := hv1.frozen; have HSAY := Lib.hid hsay; clear o7 g7r hat hsay hv1))
        | fail)
      refine bodyPost_end (v := .tuple #[]) (by simp [results, Try.results34, go_sem]) rfl ?_
      rw [HL.out]
      exact HSAY.out

end Go.Proofs.Ytoiahlbaiakngaa.Prof
