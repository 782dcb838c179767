/-
  Small words for all seats: endings, worlds that came after, slices that read as lists.
-/
import Derived.Test.YtoiahlbaiakngaaRows
import Derived.WalkKit
import Derived.WalkSpells
import Derived.WideShapes
import Derived.Outline
import Derived.RegionTactic
import Derived.Lib.Hide
import Derived.Lib.Strings
import Derived.SliceStrings
import Derived.Deep.Draws
namespace Go.Proofs.Ytoiahlbaiakngaa.Base
open Go.RowKit
set_option linter.unusedVariables false

theorem ret_int {k : IntKind} {a b : Int} (h : a = b) : Ending.returned (.int k a) = .returned (.int k b) := by rw [h]
theorem ret_bool {c d : Bool} (h : c = d) : Ending.returned (.bool c) = .returned (.bool d) := by rw [h]
theorem ret_str {c d : ByteArray} (h : c = d) : Ending.returned (.string c) = .returned (.string d) := by rw [h]

/-- What is below the world as it came is below a later one. -/
theorem _root_.Go.RowKit.Below.from {w w1 w2 : World} (h : Below w1.heap.size w1 w2) (h0 : Below w.heap.size w w1) : Below w.heap.size w w2 :=
  h0.trans (h.mono h0.size)

theorem below_one {w : World} (o : Obj) : Below w.heap.size w (w.alloc o) := (Below.refl _ _).alloc (Nat.le_refl _) _
theorem below_two {w : World} (o p : Obj) : Below w.heap.size w ((w.alloc o).alloc p) := (below_one o).alloc (by simp) _

theorem below_drewN {B : Nat} {a w : World} (h : Below B a w) (n : Nat) : Below B a (w.drewN n) := ⟨h.os, h.tape, h.output, h.size, h.block⟩

theorem lt_of_cell {w : World} {b o : Nat} {v : Value} (h : w.cell? ⟨b, o, none⟩ = some v) : b < w.heap.size := World.block_lt_of_cell? _ _ h

/-- A cell that was there is there in a later world. -/
theorem cell_below {w w' : World} {b o : Nat} {v : Value} (h : w.cell? ⟨b, o, none⟩ = some v) (hb : Below w.heap.size w w') : w'.cell? ⟨b, o, none⟩ = some v := by
  rw [hb.cell (p := ⟨b, o, none⟩) (lt_of_cell h)]; exact h
theorem frozen_below {w w' : World} {b o : Nat} {v : Value} {f : Bool} (hc : w.cell? ⟨b, o, none⟩ = some v) (h : w.frozen? ⟨b, o, none⟩ = f) (hb : Below w.heap.size w w') : w'.frozen? ⟨b, o, none⟩ = f := by
  rw [hb.frozen (p := ⟨b, o, none⟩) (lt_of_cell hc)]; exact h

/-- What a slice reads as: a list of things, each by one cell. -/
def Reads {α : Type} (f : α → Value) (w : World) (a : Option Addr) (zs : List α) : Prop :=
  zs = [] ∨ ∃ b off, a = some ⟨b, off, none⟩ ∧ ∀ j (h : j < zs.length), w.cell? ⟨b, off + j, none⟩ = some (f zs[j])

section
variable {α : Type} {f : α → Value} {w w' : World} {a : Option Addr} {zs : List α}

theorem Reads.nil_ : Reads f w a [] := .inl rfl

theorem Reads.at_ (h : Reads f w a zs) {k : Nat} (hk : k < zs.length) : ∃ b off, a = some ⟨b, off, none⟩ ∧ w.cell? ⟨b, off + k, none⟩ = some (f zs[k]) := by
  rcases h with h | ⟨b, off, rfl, hc⟩
  · subst h; simp at hk
  · exact ⟨b, off, rfl, hc k hk⟩

theorem Reads.below (h : Reads f w a zs) (hb : Below w.heap.size w w') : Reads f w' a zs := by
  rcases h with h | ⟨b, off, rfl, hc⟩
  · exact .inl h
  · exact .inr ⟨b, off, rfl, fun j hj => cell_below (hc j hj) hb⟩

theorem Reads.alloc (h : Reads f w a zs) (o : Obj) : Reads f (w.alloc o) a zs := h.below (below_one o)

theorem Reads.drew (h : Reads f w a zs) : Reads f w.drew a zs := h

theorem reads_one {n : Nat} (hn : n = w.heap.size) (x : α) (t : TypeId) : Reads f (w.alloc (.cells #[f x] t)) (some ⟨n, 0, none⟩) [x] := by
  refine .inr ⟨n, 0, rfl, fun j hj => ?_⟩
  rw [World.cell?_alloc_at _ _ _ _ hn]
  match j, hj with
  | 0, _ => rfl

theorem reads_two {n : Nat} (hn : n = w.heap.size) (x y : α) (t : TypeId) : Reads f (w.alloc (.cells #[f x, f y] t)) (some ⟨n, 0, none⟩) [x, y] := by
  refine .inr ⟨n, 0, rfl, fun j hj => ?_⟩
  rw [World.cell?_alloc_at _ _ _ _ hn]
  match j, hj with
  | 0, _ => rfl
  | 1, _ => rfl

theorem reads_three {n : Nat} (hn : n = w.heap.size) (x y z : α) (t : TypeId) : Reads f (w.alloc (.cells #[f x, f y, f z] t)) (some ⟨n, 0, none⟩) [x, y, z] := by
  refine .inr ⟨n, 0, rfl, fun j hj => ?_⟩
  rw [World.cell?_alloc_at _ _ _ _ hn]
  match j, hj with
  | 0, _ => rfl
  | 1, _ => rfl
  | 2, _ => rfl
end

/-- What the walk of a law is told of a slice of integers, of strings, that came in. -/
def IsRow {α : Type} (f : α → Value) (z : α) (ok : α → Prop) (w : World) (a : Option Addr) (len cap : Nat) (zs : List α) : Prop :=
  (a = none ∧ len = 0 ∧ cap = 0 ∧ zs = []) ∨
  ∃ x, a = some x ∧ len ≤ cap ∧ cap ≤ maxLen ∧ zs.length = cap ∧ (∀ i, i < zs.length → w.cell? (x.add i) = some (f (zs.getD i z))) ∧ ∀ n ∈ zs, ok n

theorem IsRow.reads {α : Type} {f : α → Value} {z : α} {ok : α → Prop} {w : World} {a : Option Addr} {len cap : Nat} {zs : List α} (h : IsRow f z ok w a len cap zs) :
    (zs.take len).length = len ∧ len ≤ cap ∧ cap ≤ 9223372036854775807 ∧ Reads f w a (zs.take len) ∧ (∀ n ∈ zs.take len, ok n) ∧ (a = none → cap = 0) := by
  rcases h with ⟨rfl, rfl, rfl, rfl⟩ | ⟨x, rfl, hl, hm, hz, hc, ho⟩
  · exact ⟨rfl, by omega, by omega, .inl rfl, by simp, fun _ => rfl⟩
  · refine ⟨by simp; omega, hl, by unfold maxLen at hm; omega, ?_, fun n hn => ho n (List.mem_of_mem_take hn), fun h => by cases h⟩
    by_cases h0 : len = 0
    · subst h0; exact .inl (by simp)
    · obtain ⟨b, off, spot⟩ := x
      have hspot : spot = none := by simpa [Addr.add] using World.cell?_spot (hc 0 (by omega))
      subst hspot
      refine .inr ⟨b, off, rfl, fun j hj => ?_⟩
      have hj2 : j < zs.length := by simp at hj; omega
      rw [List.getElem_take, ← Go.WideShapes.add_plain, hc j hj2]
      simp [List.getD, List.getElem?_eq_getElem hj2]

/-- The bounds of integers that came in. -/
theorem bd_of {k : IntKind} {a : Int} (h : (Lit.int k a).wf = true) : k.min ≤ a ∧ a ≤ k.max := by simpa [Lit.wf] using h
theorem bd_u8 {a : Int} (h : (Lit.int .u8 a).wf = true) : 0 ≤ a ∧ a ≤ 255 := bd_of h
theorem bd_u32 {a : Int} (h : (Lit.int .u32 a).wf = true) : 0 ≤ a ∧ a ≤ 4294967295 := bd_of h
theorem bd_u64 {a : Int} (h : (Lit.int .u64 a).wf = true) : 0 ≤ a ∧ a ≤ 18446744073709551615 := bd_of h
theorem bd_i32 {a : Int} (h : (Lit.int .i32 a).wf = true) : -2147483648 ≤ a ∧ a ≤ 2147483647 := bd_of h
theorem bd_i64 {a : Int} (h : (Lit.int .i64 a).wf = true) : -9223372036854775808 ≤ a ∧ a ≤ 9223372036854775807 := bd_of h

end Go.Proofs.Ytoiahlbaiakngaa.Base
