/-
  A slice of bytes that the call itself made of a text, or wrote into: what its cells hold, and the text that it makes.
-/
import Derived.Test.YtoiahlbaiakngaaBase
import Derived.Lib.ConvBytes
import Derived.Laws.BytesArg
import Derived.Lib.SmallJoins
namespace Go.Proofs.Ytoiahlbaiakngaa.Base
open Go.RowKit
set_option linter.unusedVariables false

/-- Block b holds, from its head on, these bytes. -/
def ByteRow (w : World) (b : Nat) (l : List UInt8) : Prop := ∀ i (h : i < l.length), w.cell? ⟨b, i, none⟩ = some (.int .u8 (l[i].toNat : Int)) ∧ w.frozen? ⟨b, i, none⟩ = false

theorem ByteRow.below {w w' : World} {b : Nat} {l : List UInt8} (h : ByteRow w b l) (hb : Below w.heap.size w w') : ByteRow w' b l :=
  fun i hi => ⟨cell_below (h i hi).1 hb, frozen_below (h i hi).1 (h i hi).2 hb⟩

theorem ByteRow.drew {w : World} {b : Nat} {l : List UInt8} (h : ByteRow w b l) : ByteRow w.drew b l := h

theorem ByteRow.drewN {w : World} {b : Nat} {l : List UInt8} (h : ByteRow w b l) (n : Nat) : ByteRow (w.drewN n) b l := h

theorem ByteRow.set {w : World} {b : Nat} {l : List UInt8} (h : ByteRow w b l) (k : Nat) (x : UInt8) : ByteRow (w.setCell ⟨b, k, none⟩ (.int .u8 (x.toNat : Int))) b (l.set k x) := by
  intro i hi
  rw [List.length_set] at hi
  obtain ⟨h1, h2⟩ := h i hi
  refine ⟨?_, by simpa using h2⟩
  by_cases he : k = i
  · subst he
    rw [World.cell?_setCell_same _ _ _ h1]; simp
  · rw [World.cell?_setCell_other w ⟨b, k, none⟩ ⟨b, i, none⟩ _ (fun e => he (by injection e)), h1, List.getElem_set_ne he]

/-- '[]byte(s)' of a text: the row. -/
theorem byteRow_conv (w : World) (e : TypeId) (s : ByteArray) : ByteRow (Lib.bytesWorld w e s) w.heap.size s.data.toList := by
  intro i hi
  have hs : i < s.size := by rw [Lib.size_eq]; exact hi
  constructor
  · rw [Lib.bytesWorld_cell w e s i hs]; simp [List.getD, List.getElem?_eq_getElem hi]
  · have hl : s.size ≤ (Lib.bytesCells w e s).size := by simp only [Lib.bytesCells, Array.size_append, Array.size_map]; exact Nat.le_add_right _ _
    simp [World.frozen?, Lib.bytesWorld_at_new]
    omega

theorem below_conv (w : World) (e : TypeId) (s : ByteArray) : Below w.heap.size w (Lib.bytesWorld w e s) := by
  refine ⟨rfl, rfl, rfl, by rw [Lib.bytesWorld_size]; omega, fun k hk => Lib.bytesWorld_at_old w e s k hk⟩

/-- 'string(b)' of such a row. -/
theorem run_conv_row {P : Program} {w : World} {b : Nat} {l : List UInt8} (h : ByteRow w b l) (src dst e : TypeId) (hs : P.underlying src = some (.slice e)) (he : P.underlying e = some (.int .u8)) (hd : P.underlying dst = some .string) (n cap : Nat) (hn : l.length = n) :
    (convert src dst (.slice (some ⟨b, 0, none⟩) n cap)).run P w = .ok (.string ⟨l.toArray⟩) w := by
  have h1 := run_convert_bytes_arg (P := P) w src e hs he b 0 n cap (l.map fun c => (c.toNat : Int)) (by simp [hn]) (fun i hi => by
    have hi' : i < l.length := by omega
    rw [Nat.zero_add, (h i hi').1]; simp [List.getD, List.getElem?_eq_getElem hi']) dst hd
  rw [h1]
  congr 2
  unfold strOfNums
  congr 1
  rw [List.map_map]
  congr 1
  conv => rhs; rw [← List.map_id l]
  apply List.map_congr_left
  intro x _
  simp

/-- '[]byte(s)' in one word: some slice at the head of a new row, some world. -/
theorem conv_at {P : Program} (w : World) (src dst e : TypeId) (s : ByteArray) {u : TypeDesc} (hs : P.underlying src = some u) (hd : P.underlying dst = some (.slice e)) (he : P.underlying e = some (.int .u8)) :
    ∃ W C, (convert src dst (.string s)).run P w = .ok (.slice (some ⟨w.heap.size, 0, none⟩) s.size C) W ∧ ByteRow W w.heap.size s.data.toList ∧ Below w.heap.size w W ∧ w.heap.size < W.heap.size :=
  ⟨_, _, Lib.run_convert_string_bytes w src dst e s hs hd he, byteRow_conv w e s, below_conv w e s, by rw [Lib.bytesWorld_size]; omega⟩

end Go.Proofs.Ytoiahlbaiakngaa.Base
