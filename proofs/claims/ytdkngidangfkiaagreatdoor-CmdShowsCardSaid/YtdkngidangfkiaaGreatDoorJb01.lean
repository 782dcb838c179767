/-
  Joined out of: Small words for all seats: endings, worlds that came after, slices that read as lists. A slice of bytes that the call itself made of a text, or wrote into: what its cells hold, and the text that it makes. A slice that the call itself makes by append, of things that take one cell each: what it owns, and append from a slice that may be nil, or of a text's bytes. Slices of structs whose fields take one cell each: what came in, and what the call itself makes by append. Layer 4, plain: the runes of a text as pieces of its bytes; checking, cutting, small letters, quoting. The walks of layer 4's classes. A strings.Builder that the call itself makes, written rune by rune while a text is gone through; and what else of package strings layer 4 calls. The walks of layer 4's checking, counting and cutting. The walks of layer 4's small letters. The walks of the document's own answers of layer 4 that go byte by byte.
-/
import Derived.Test.YtdkngidangfkiaaGreatDoorRows
import Derived.WalkKit
import Derived.WalkSpells
import Derived.WideShapes
import Derived.Outline
import Derived.RegionTactic
import Derived.Lib.Hide
import Derived.Lib.Strings
import Derived.SliceStrings
import Derived.Deep.Draws
import Derived.Lib.ConvBytes
import Derived.Laws.BytesArg
import Derived.Lib.SmallJoins
import Derived.OwnWalk
import Derived.Laws.AppendOwnNone
import Derived.Lib.AppendStr
import Derived.Lib.UnsafeStr
import Derived.Deep.Slices
import Derived.Deep.Fields
import Derived.Lib.MapLaws
import Derived.Shelf.Strings.BuilderRune
import Derived.Shelf.Small.Wraps
import Derived.Shelf.Strconv.Clone
import Derived.Laws.RangeAny
import Derived.Deep.RegionWith
import Derived.BigQuiet
namespace Go.Proofs.YtdkngidangfkiaaGreatDoor.Base
open Go.RowKit
set_option linter.unusedVariables false
theorem ret_int {k : IntKind} {a b : Int} (h : a = b) : Ending.returned (.int k a) = .returned (.int k b) := by rw [h]
theorem ret_bool {c d : Bool} (h : c = d) : Ending.returned (.bool c) = .returned (.bool d) := by rw [h]
theorem ret_str {c d : ByteArray} (h : c = d) : Ending.returned (.string c) = .returned (.string d) := by rw [h]
theorem _root_.Go.RowKit.Below.from {w w1 w2 : World} (h : Below w1.heap.size w1 w2) (h0 : Below w.heap.size w w1) : Below w.heap.size w w2 :=
  h0.trans (h.mono h0.size)
theorem below_one {w : World} (o : Obj) : Below w.heap.size w (w.alloc o) := (Below.refl _ _).alloc (Nat.le_refl _) _
theorem below_two {w : World} (o p : Obj) : Below w.heap.size w ((w.alloc o).alloc p) := (below_one o).alloc (by simp) _
theorem below_drewN {B : Nat} {a w : World} (h : Below B a w) (n : Nat) : Below B a (w.drewN n) := ⟨h.os, h.tape, h.output, h.size, h.block⟩
theorem lt_of_cell {w : World} {b o : Nat} {v : Value} (h : w.cell? ⟨b, o, none⟩ = some v) : b < w.heap.size := World.block_lt_of_cell? _ _ h
theorem cell_below {w w' : World} {b o : Nat} {v : Value} (h : w.cell? ⟨b, o, none⟩ = some v) (hb : Below w.heap.size w w') : w'.cell? ⟨b, o, none⟩ = some v := by
  rw [hb.cell (p := ⟨b, o, none⟩) (lt_of_cell h)]; exact h
theorem frozen_below {w w' : World} {b o : Nat} {v : Value} {f : Bool} (hc : w.cell? ⟨b, o, none⟩ = some v) (h : w.frozen? ⟨b, o, none⟩ = f) (hb : Below w.heap.size w w') : w'.frozen? ⟨b, o, none⟩ = f := by
  rw [hb.frozen (p := ⟨b, o, none⟩) (lt_of_cell hc)]; exact h
def Reads {α : Type} (f : α → Value) (w : World) (a : Option Addr) (zs : List α) : Prop :=
  zs = [] ∨ ∃ b off, a = some ⟨b, off, none⟩ ∧ ∀ j (h : j < zs.length), w.cell? ⟨b, off + j, none⟩ = some (f zs[j])
section
variable {α : Type} {f : α → Value} {w w' : World} {a : Option Addr} {zs : List α}
theorem Reads.nil_ : Reads f w a [] := .inl rfl
theorem Reads.at_ (h : Reads f w a zs) {k : Nat} (hk : k < zs.length) : ∃ b off, a = some ⟨b, off, none⟩ ∧ w.cell? ⟨b, off + k, none⟩ = some (f zs[k]) := by
  rcases h with h | ⟨b, off, rfl, hc⟩
  · subst h; simp at hk
  · exact ⟨b, off, rfl, hc k hk⟩
theorem Reads.below (h : Reads f w a zs) (hb : Below w.heap.size w w') : Reads f w' a zs := by
  rcases h with h | ⟨b, off, rfl, hc⟩
  · exact .inl h
  · exact .inr ⟨b, off, rfl, fun j hj => cell_below (hc j hj) hb⟩
theorem Reads.alloc (h : Reads f w a zs) (o : Obj) : Reads f (w.alloc o) a zs := h.below (below_one o)
theorem Reads.drew (h : Reads f w a zs) : Reads f w.drew a zs := h
theorem reads_one {n : Nat} (hn : n = w.heap.size) (x : α) (t : TypeId) : Reads f (w.alloc (.cells #[f x] t)) (some ⟨n, 0, none⟩) [x] := by
  refine .inr ⟨n, 0, rfl, fun j hj => ?_⟩
  rw [World.cell?_alloc_at _ _ _ _ hn]
  match j, hj with
  | 0, _ => rfl
theorem reads_two {n : Nat} (hn : n = w.heap.size) (x y : α) (t : TypeId) : Reads f (w.alloc (.cells #[f x, f y] t)) (some ⟨n, 0, none⟩) [x, y] := by
  refine .inr ⟨n, 0, rfl, fun j hj => ?_⟩
  rw [World.cell?_alloc_at _ _ _ _ hn]
  match j, hj with
  | 0, _ => rfl
  | 1, _ => rfl
end
def IsRow {α : Type} (f : α → Value) (z : α) (ok : α → Prop) (w : World) (a : Option Addr) (len cap : Nat) (zs : List α) : Prop :=
  (a = none ∧ len = 0 ∧ cap = 0 ∧ zs = []) ∨
  ∃ x, a = some x ∧ len ≤ cap ∧ cap ≤ maxLen ∧ zs.length = cap ∧ (∀ i, i < zs.length → w.cell? (x.add i) = some (f (zs.getD i z))) ∧ ∀ n ∈ zs, ok n
theorem IsRow.reads {α : Type} {f : α → Value} {z : α} {ok : α → Prop} {w : World} {a : Option Addr} {len cap : Nat} {zs : List α} (h : IsRow f z ok w a len cap zs) :
    (zs.take len).length = len ∧ len ≤ cap ∧ cap ≤ 9223372036854775807 ∧ Reads f w a (zs.take len) ∧ (∀ n ∈ zs.take len, ok n) ∧ (a = none → cap = 0) := by
  rcases h with ⟨rfl, rfl, rfl, rfl⟩ | ⟨x, rfl, hl, hm, hz, hc, ho⟩
  · exact ⟨rfl, by omega, by omega, .inl rfl, by simp, fun _ => rfl⟩
  · refine ⟨by simp; omega, hl, by unfold maxLen at hm; omega, ?_, fun n hn => ho n (List.mem_of_mem_take hn), fun h => by cases h⟩
    by_cases h0 : len = 0
    · subst h0; exact .inl (by simp)
    · obtain ⟨b, off, spot⟩ := x
      have hspot : spot = none := by simpa [Addr.add] using World.cell?_spot (hc 0 (by omega))
      subst hspot
      refine .inr ⟨b, off, rfl, fun j hj => ?_⟩
      have hj2 : j < zs.length := by simp at hj; omega
      rw [List.getElem_take, ← Go.WideShapes.add_plain, hc j hj2]
      simp [List.getD, List.getElem?_eq_getElem hj2]
theorem bel_ {B : Nat} {w w' : World} (h : Below B w w' := by (focus repeat (first | exact Below.refl _ _ | assumption | (exact Hid.out (by assumption)) | (with_reducible refine Below.drew ?_) | (with_reducible refine Base.below_drewN ?_ _) | (refine Below.from (below_one _) ?_) | (refine Below.from (below_conv _ _ _) ?_) | (refine Below.setCell ?_ (by simp <;> omega) _) | (refine Below.from (by assumption) ?_)))) : Below B w w' := h
end Go.Proofs.YtdkngidangfkiaaGreatDoor.Base
namespace Go.Proofs.YtdkngidangfkiaaGreatDoor.Base
open Go.RowKit
set_option linter.unusedVariables false
def ByteRow (w : World) (b : Nat) (l : List UInt8) : Prop := ∀ i (h : i < l.length), w.cell? ⟨b, i, none⟩ = some (.int .u8 (l[i].toNat : Int)) ∧ w.frozen? ⟨b, i, none⟩ = false
theorem ByteRow.below {w w' : World} {b : Nat} {l : List UInt8} (h : ByteRow w b l) (hb : Below w.heap.size w w') : ByteRow w' b l :=
  fun i hi => ⟨cell_below (h i hi).1 hb, frozen_below (h i hi).1 (h i hi).2 hb⟩
theorem ByteRow.drew {w : World} {b : Nat} {l : List UInt8} (h : ByteRow w b l) : ByteRow w.drew b l := h
theorem ByteRow.drewN {w : World} {b : Nat} {l : List UInt8} (h : ByteRow w b l) (n : Nat) : ByteRow (w.drewN n) b l := h
theorem ByteRow.set {w : World} {b : Nat} {l : List UInt8} (h : ByteRow w b l) (k : Nat) (x : UInt8) : ByteRow (w.setCell ⟨b, k, none⟩ (.int .u8 (x.toNat : Int))) b (l.set k x) := by
  intro i hi
  rw [List.length_set] at hi
  obtain ⟨h1, h2⟩ := h i hi
  refine ⟨?_, by simpa using h2⟩
  by_cases he : k = i
  · subst he
    rw [World.cell?_setCell_same _ _ _ h1]; simp
  · rw [World.cell?_setCell_other w ⟨b, k, none⟩ ⟨b, i, none⟩ _ (fun e => he (by injection e)), h1, List.getElem_set_ne he]
theorem byteRow_conv (w : World) (e : TypeId) (s : ByteArray) : ByteRow (Lib.bytesWorld w e s) w.heap.size s.data.toList := by
  intro i hi
  have hs : i < s.size := by rw [Lib.size_eq]; exact hi
  constructor
  · rw [Lib.bytesWorld_cell w e s i hs]; simp [List.getD, List.getElem?_eq_getElem hi]
  · have hl : s.size ≤ (Lib.bytesCells w e s).size := by simp only [Lib.bytesCells, Array.size_append, Array.size_map]; exact Nat.le_add_right _ _
    simp [World.frozen?, Lib.bytesWorld_at_new]
    omega
theorem below_conv (w : World) (e : TypeId) (s : ByteArray) : Below w.heap.size w (Lib.bytesWorld w e s) := by
  refine ⟨rfl, rfl, rfl, by rw [Lib.bytesWorld_size]; omega, fun k hk => Lib.bytesWorld_at_old w e s k hk⟩
theorem run_conv_row {P : Program} {w : World} {b : Nat} {l : List UInt8} (h : ByteRow w b l) (src dst e : TypeId) (hs : P.underlying src = some (.slice e)) (he : P.underlying e = some (.int .u8)) (hd : P.underlying dst = some .string) (n cap : Nat) (hn : l.length = n) :
    (convert src dst (.slice (some ⟨b, 0, none⟩) n cap)).run P w = .ok (.string ⟨l.toArray⟩) w := by
  have h1 := run_convert_bytes_arg (P := P) w src e hs he b 0 n cap (l.map fun c => (c.toNat : Int)) (by simp [hn]) (fun i hi => by
    have hi' : i < l.length := by omega
    rw [Nat.zero_add, (h i hi').1]; simp [List.getD, List.getElem?_eq_getElem hi']) dst hd
  rw [h1]
  congr 2
  unfold strOfNums
  congr 1
  rw [List.map_map]
  congr 1
  conv => rhs; rw [← List.map_id l]
  apply List.map_congr_left
  intro x _
  simp
theorem conv_at {P : Program} (w : World) (src dst e : TypeId) (s : ByteArray) {u : TypeDesc} (hs : P.underlying src = some u) (hd : P.underlying dst = some (.slice e)) (he : P.underlying e = some (.int .u8)) :
    ∃ W C, (convert src dst (.string s)).run P w = .ok (.slice (some ⟨w.heap.size, 0, none⟩) s.size C) W ∧ ByteRow W w.heap.size s.data.toList ∧ Below w.heap.size w W ∧ w.heap.size < W.heap.size :=
  ⟨_, _, Lib.run_convert_string_bytes w src dst e s hs hd he, byteRow_conv w e s, below_conv w e s, by rw [Lib.bytesWorld_size]; omega⟩
end Go.Proofs.YtdkngidangfkiaaGreatDoor.Base
namespace Go.Proofs.YtdkngidangfkiaaGreatDoor.Base
open Go.RowKit
set_option linter.unusedVariables false
theorem grown_refl (w : World) (r : Option Nat) : w.grownBy w r := ⟨rfl, rfl, rfl, Nat.le_refl _, fun _ _ _ => rfl⟩
theorem grown_trans {a b c : World} {r : Option Nat} (h : a.grownBy b r) (k : b.grownBy c r) : a.grownBy c r :=
  ⟨k.os.trans h.os, k.tape.trans h.tape, k.output.trans h.output, Nat.le_trans h.size k.size, fun i hi hn => (k.block i (Nat.lt_of_lt_of_le hi h.size) hn).trans (h.block i hi hn)⟩
theorem grown_of_below {a b : World} (h : Below a.heap.size a b) (r : Option Nat) : a.grownBy b r := ⟨h.os, h.tape, h.output, h.size, fun i hi _ => h.block i hi⟩
theorem grown_set (w : World) (p : Addr) (v : Value) : w.grownBy (w.setCell p v) (some p.block) := by
  refine ⟨rfl, rfl, rfl, by simp [World.setCell], fun k hk hn => ?_⟩
  have : p.block ≠ k := fun h => hn (by rw [h])
  simp [World.setCell, Array.getElem?_modify, this]
theorem below_grown {B : Nat} {a b : World} {r : Option Nat} (h : a.grownBy b r) (hB : B ≤ a.heap.size) (hr : ∀ k, r = some k → B ≤ k) : Below B a b := (Below.refl B a).grown h hB hr
def Own {α : Type} (f : α → Value) (B : Nat) (e : TypeId) (v : Value) (zs : List α) (w : World) : Prop :=
  w.ownsRow B e 1 v zs.length (zs.map f) ∧ B ≤ w.heap.size
section
variable {α : Type} {f : α → Value} {w : World} {B : Nat} {e : TypeId} {v : Value} {zs : List α}
theorem Own.nil (hB : B ≤ w.heap.size) : Own f B e (.slice none 0 0) [] w := ⟨World.ownsRow_nil w B e 1, hB⟩
theorem Own.kept {w' : World} {r : Option Nat} (h : Own f B e v zs w) (hg : w.grownBy w' r) (hr : ∀ k, r = some k → k < B) : Own f B e v zs w' := by
  refine ⟨h.1.kept hg ?_, Nat.le_trans h.2 hg.size⟩
  cases hv : v.ownBlock with
  | none => exact .inl rfl
  | some k =>
    refine .inr fun he => ?_
    have h1 := (h.1.lt k hv).1
    have h2 := hr k he.symm
    omega
theorem Own.alloc (h : Own f B e v zs w) (o : Obj) : Own f B e v zs (w.alloc o) := ⟨h.1.alloc o, by simp; have := h.2; omega⟩
theorem Own.drew (h : Own f B e v zs w) : Own f B e v zs w.drew := h
theorem Own.below {w' : World} (h : Own f B e v zs w) (hb : Below w.heap.size w w') : Own f B e v zs w' := h.kept (grown_of_below hb none) (fun _ h => by cases h)
theorem Own.value (h : Own f B e v zs w) : ∃ ao cap, v = .slice ao zs.length cap ∧ Reads f w ao zs ∧ (ao = none → cap = 0) ∧ zs.length ≤ cap ∧ cap ≤ maxLen := by
  rcases h.1.2 with ⟨rfl, hn⟩ | ⟨g, cap, cur, rfl, hb, hg, hnc, hcm, hcs, ht⟩
  · have : zs = [] := List.eq_nil_of_length_eq_zero hn
    subst this
    exact ⟨none, 0, rfl, .inl rfl, fun _ => rfl, Nat.le_refl _, Nat.zero_le _⟩
  · refine ⟨_, cap, rfl, .inr ⟨g, 0, rfl, fun j hj => ?_⟩, (fun h => by cases h), hnc, hcm⟩
    have := h.1.cells (g := g) rfl j (f zs[j]) (by simp [hj])
    rw [Go.WideShapes.add_plain] at this
    exact this
theorem Own.one {n : Nat} (hB : B ≤ w.heap.size) (x : α) (hn : n = w.heap.size) : Own f B e (.slice (some ⟨n, 0, none⟩) 1 1) [x] (w.alloc (.cells #[f x] e)) := by
  subst hn
  refine ⟨⟨by simp, .inr ⟨w.heap.size, 1, #[f x], rfl, hB, heap_alloc_new w _, Nat.le_refl _, by unfold maxLen; omega, by simp, by simp⟩⟩, by simp; omega⟩
theorem wpList_append_src {P : Program} {ops : Array Oper} {rest : List Oper} {o : Oper} {a : Act} {Q : Exit → Act → World → Prop} (hgd : o.guard = none) (s x : Operand) (t : TypeId)
    (ho : o.op = .call { callee := .builtin .append, args := #[s, x], argTypes := #[t, t] })
    (i : TypeInfo) (z : Value) (by8 : Nat) (ht : P.underlying t = some (.slice e)) (hi : P.info? e = some i) (hz : i.zero = some z) (hsize : i.size = 1) (hby : i.bytes = by8) (hzs : z.cells.size = 1)
    (hone : ∀ y, (f y).oneCell' = true) (hs : a.eval s = v) (hown : Own f B e v zs w)
    (ao : Option Addr) (m c : Nat) (news : List α) (hx : a.eval x = .slice ao m c) (hm : news.length = m) (hr : Reads f w ao news) (hnil : ao = none → c = 0)
    (hsmall : (zs.length + m) * by8 ≤ 140737488355328) (hmax : zs.length + m ≤ maxLen)
    (h : ∀ v' w', Own f B e v' (zs ++ news) w' → Below B w w' → wpList P ops Q rest (a.put o.dst v') w') : wpList P ops Q (o :: rest) a w := by
  subst hm
  have hlen : (zs ++ news).length = zs.length + news.length := List.length_append
  cases ao with
  | none =>
    obtain rfl : c = 0 := hnil rfl
    have hn : news = [] := by
      rcases hr with h | ⟨b, off, h, _⟩
      · exact h
      · cases h
    subst hn
    refine wpList_append_own_none hgd s x t ho B e i 1 ht hi v zs.length (zs.map f) hs hown.1 hx ?_
    exact h v w (by simpa using hown) (Below.refl _ _)
  | some ad =>
    refine wpList_append_own _ hgd s x t ho B e i z 1 by8 ht hi hz hsize hby hzs (by decide) v zs.length (zs.map f) hs hown.1 ad news.length c (news.map f) hx (by simp) ?_ ?_ hmax hsmall hown.2 ?_
    · intro j u hu
      rcases hr with h | ⟨b, off, h, hc⟩
      · subst h; simp at hu
      · obtain rfl : ad = ⟨b, off, none⟩ := by simpa using h
        rw [List.getElem?_map] at hu
        obtain ⟨n, hn, rfl⟩ := Option.map_eq_some_iff.1 hu
        obtain ⟨hj, rfl⟩ := List.getElem?_eq_some_iff.1 hn
        rw [Go.WideShapes.add_plain]
        exact hc j hj
    · intro u hu
      obtain ⟨y, _, rfl⟩ := List.mem_map.1 hu
      exact hone y
    · intro v' w' ho' hg' _
      refine h v' w' ⟨?_, Nat.le_trans hown.2 hg'.size⟩ (below_grown hg' hown.2 fun k hk => (hown.1.lt k hk).1)
      rw [hlen, List.map_append]
      exact ho'
end
def u8 (b : UInt8) : Value := .int .u8 (b.toNat : Int)
theorem Own.byteRow {w : World} {B : Nat} {e : TypeId} {ao : Option Addr} {n cap : Nat} {zs : List UInt8} (h : Own u8 B e (.slice ao n cap) zs w) (h0 : zs ≠ []) :
    ∃ g, ao = some ⟨g, 0, none⟩ ∧ n = zs.length ∧ ByteRow w g zs := by
  rcases h.1.2 with ⟨hv, hn⟩ | ⟨g, cap', cur, hv, hb, hg, hnc, hcm, hcs, ht⟩
  · exact absurd (List.eq_nil_of_length_eq_zero hn) h0
  · injection hv with h1 h2 h3
    refine ⟨g, h1, h2, fun j hj => ⟨?_, by simp [World.frozen?, hg]⟩⟩
    have := h.1.cells (g := g) (by rw [h1]; rfl) j _ (by rw [List.getElem?_map, List.getElem?_eq_getElem hj]; rfl)
    rw [Go.WideShapes.add_plain, Nat.zero_add] at this
    exact this
end Go.Proofs.YtdkngidangfkiaaGreatDoor.Base
namespace Go.Proofs.YtdkngidangfkiaaGreatDoor.Base
open Go.RowKit
set_option linter.unusedVariables false
def ReadsS {α : Type} (k : Nat) (f : α → List Value) (w : World) (a : Option Addr) (zs : List α) : Prop :=
  zs = [] ∨ ∃ b off, a = some ⟨b, off, none⟩ ∧ ∀ j (h : j < zs.length) i, i < k → w.cell? ⟨b, off + j * k + i, none⟩ = (f zs[j])[i]?
section
variable {α : Type} {k : Nat} {f : α → List Value} {w w' : World} {a : Option Addr} {zs : List α}
theorem ReadsS.nil_ : ReadsS k f w a [] := .inl rfl
theorem ReadsS.at_ (h : ReadsS k f w a zs) {j : Nat} (hj : j < zs.length) : ∃ b off, a = some ⟨b, off, none⟩ ∧ ∀ i, i < k → w.cell? ⟨b, off + j * k + i, none⟩ = (f zs[j])[i]? := by
  rcases h with h | ⟨b, off, rfl, hc⟩
  · subst h; simp at hj
  · exact ⟨b, off, rfl, hc j hj⟩
theorem ReadsS.below (h : ReadsS k f w a zs) (hf : ∀ x, (f x).length = k) (hb : Below w.heap.size w w') : ReadsS k f w' a zs := by
  rcases h with h | ⟨b, off, rfl, hc⟩
  · exact .inl h
  · refine .inr ⟨b, off, rfl, fun j hj i hi => ?_⟩
    have h1 := hc j hj i hi
    have h2 : i < (f zs[j]).length := by rw [hf]; exact hi
    rw [List.getElem?_eq_getElem h2] at h1 ⊢
    exact cell_below h1 hb
theorem readsS_one {n : Nat} (hn : n = w.heap.size) (x : α) (vs : Array Value) (hv : vs.toList = f x) (hk : (f x).length = k) (t : TypeId) : ReadsS k f (w.alloc (.cells vs t)) (some ⟨n, 0, none⟩) [x] := by
  refine .inr ⟨n, 0, rfl, fun j hj i hi => ?_⟩
  have : j = 0 := by simpa using hj
  subst this
  rw [World.cell?_alloc_at _ _ _ _ hn]
  simp only [Nat.zero_mul, Nat.zero_add, List.getElem_cons_zero]
  rw [← hv]; simp
end
def IsRowS {α : Type} (k : Nat) (f : α → List Value) (ok : α → Prop) (w : World) (a : Option Addr) (len cap : Nat) (zs : List α) : Prop :=
  (a = none ∧ len = 0 ∧ cap = 0 ∧ zs = []) ∨
  ∃ x, a = some x ∧ len ≤ cap ∧ cap ≤ maxLen ∧ zs.length = cap ∧ (∀ j (h : j < zs.length) i, i < k → w.cell? (x.add (j * k + i)) = (f zs[j])[i]?) ∧ ∀ z ∈ zs, ok z
theorem IsRowS.reads {α : Type} {k : Nat} {f : α → List Value} {ok : α → Prop} {w : World} {a : Option Addr} {len cap : Nat} {zs : List α} (h : IsRowS k f ok w a len cap zs) (hk : 0 < k) (hf : ∀ x, (f x).length = k) :
    (zs.take len).length = len ∧ len ≤ cap ∧ cap ≤ maxLen ∧ ReadsS k f w a (zs.take len) ∧ (∀ z ∈ zs.take len, ok z) ∧ (a = none → cap = 0) := by
  rcases h with ⟨rfl, rfl, rfl, rfl⟩ | ⟨x, rfl, hl, hm, hz, hc, ho⟩
  · exact ⟨rfl, Nat.le_refl _, Nat.zero_le _, .inl rfl, by simp, fun _ => rfl⟩
  · refine ⟨by simp; omega, hl, hm, ?_, fun z hz' => ho z (List.mem_of_mem_take hz'), fun h => by cases h⟩
    by_cases h0 : len = 0
    · subst h0; exact .inl (by simp)
    · obtain ⟨b, off, spot⟩ := x
      have hspot : spot = none := by
        have h1 := hc 0 (by omega) 0 hk
        have h2 : 0 < (f zs[0]).length := by rw [hf]; exact hk
        rw [List.getElem?_eq_getElem h2] at h1
        simpa [Addr.add] using World.cell?_spot h1
      subst hspot
      refine .inr ⟨b, off, rfl, fun j hj i hi => ?_⟩
      have hj2 : j < zs.length := by simp at hj; omega
      rw [List.getElem_take, Nat.add_assoc, ← Go.WideShapes.add_plain]
      exact hc j hj2 i hi
def OwnS {α : Type} (k : Nat) (f : α → List Value) (B : Nat) (e : TypeId) (v : Value) (zs : List α) (w : World) : Prop :=
  w.ownsRow B e k v zs.length (zs.flatMap f) ∧ B ≤ w.heap.size
section
variable {α : Type} {k : Nat} {f : α → List Value} {w : World} {B : Nat} {e : TypeId} {v : Value} {zs : List α}
theorem flat_length (hf : ∀ x, (f x).length = k) (zs : List α) : (zs.flatMap f).length = zs.length * k := by
  induction zs with
  | nil => simp
  | cons z t ih => rw [List.flatMap_cons, List.length_append, hf, ih, List.length_cons, Nat.add_mul, Nat.one_mul, Nat.add_comm]
theorem flat_at (hf : ∀ x, (f x).length = k) (zs : List α) (j : Nat) (hj : j < zs.length) (i : Nat) (hi : i < k) : (zs.flatMap f)[j * k + i]? = (f zs[j])[i]? := by
  induction zs generalizing j with
  | nil => simp at hj
  | cons z t ih =>
    cases j with
    | zero => rw [List.flatMap_cons, Nat.zero_mul, Nat.zero_add, List.getElem?_append_left (by rw [hf]; exact hi)]; rfl
    | succ j =>
      rw [List.flatMap_cons, List.getElem?_append_right (by rw [hf, Nat.add_mul, Nat.one_mul]; omega), hf]
      have e1 : (j + 1) * k + i - k = j * k + i := by rw [Nat.add_mul, Nat.one_mul]; omega
      rw [e1, ih j (by simpa using hj)]
      rfl
theorem OwnS.nil (hB : B ≤ w.heap.size) : OwnS k f B e (.slice none 0 0) [] w := ⟨World.ownsRow_nil w B e k, hB⟩
theorem OwnS.kept {w' : World} {r : Option Nat} (h : OwnS k f B e v zs w) (hg : w.grownBy w' r) (hr : ∀ k, r = some k → k < B) : OwnS k f B e v zs w' := by
  refine ⟨h.1.kept hg ?_, Nat.le_trans h.2 hg.size⟩
  cases hv : v.ownBlock with
  | none => exact .inl rfl
  | some g =>
    refine .inr fun he => ?_
    have h1 := (h.1.lt g hv).1
    have h2 := hr g he.symm
    omega
theorem OwnS.alloc (h : OwnS k f B e v zs w) (o : Obj) : OwnS k f B e v zs (w.alloc o) := ⟨h.1.alloc o, by simp; have := h.2; omega⟩
theorem OwnS.drew (h : OwnS k f B e v zs w) : OwnS k f B e v zs w.drew := h
theorem OwnS.below {w' : World} (h : OwnS k f B e v zs w) (hb : Below w.heap.size w w') : OwnS k f B e v zs w' := h.kept (grown_of_below hb none) (fun _ h => by cases h)
theorem OwnS.value (h : OwnS k f B e v zs w) (hf : ∀ x, (f x).length = k) : ∃ ao cap, v = .slice ao zs.length cap ∧ ReadsS k f w ao zs ∧ (ao = none → cap = 0) ∧ zs.length ≤ cap ∧ cap ≤ maxLen := by
  rcases h.1.2 with ⟨rfl, hn⟩ | ⟨g, cap, cur, rfl, hb, hg, hnc, hcm, hcs, ht⟩
  · have : zs = [] := List.eq_nil_of_length_eq_zero hn
    subst this
    exact ⟨none, 0, rfl, .inl rfl, fun _ => rfl, Nat.le_refl _, Nat.zero_le _⟩
  · refine ⟨_, cap, rfl, .inr ⟨g, 0, rfl, fun j hj i hi => ?_⟩, (fun h => by cases h), hnc, hcm⟩
    have h2 : i < (f zs[j]).length := by rw [hf]; exact hi
    have := h.1.cells (g := g) rfl (j * k + i) _ ((flat_at hf zs j hj i hi).trans (List.getElem?_eq_getElem h2))
    rw [Go.WideShapes.add_plain] at this
    rw [List.getElem?_eq_getElem h2, Nat.add_assoc]
    exact this
theorem wpList_append_srcS {P : Program} {ops : Array Oper} {rest : List Oper} {o : Oper} {a : Act} {Q : Exit → Act → World → Prop} (hgd : o.guard = none) (s x : Operand) (t : TypeId)
    (ho : o.op = .call { callee := .builtin .append, args := #[s, x], argTypes := #[t, t] })
    (hf : ∀ x, (f x).length = k) (hk : 0 < k)
    (i : TypeInfo) (z : Value) (by8 : Nat) (ht : P.underlying t = some (.slice e)) (hi : P.info? e = some i) (hz : i.zero = some z) (hsize : i.size = k) (hby : i.bytes = by8) (hzs : z.cells.size = k)
    (hone : ∀ y, ∀ u ∈ f y, u.oneCell' = true) (hs : a.eval s = v) (hown : OwnS k f B e v zs w)
    (ao : Option Addr) (m c : Nat) (news : List α) (hx : a.eval x = .slice ao m c) (hm : news.length = m) (hr : ReadsS k f w ao news) (hnil : ao = none → c = 0)
    (hsmall : (zs.length + m) * by8 ≤ 140737488355328) (hmax : zs.length + m ≤ maxLen)
    (h : ∀ v' w', OwnS k f B e v' (zs ++ news) w' → Below B w w' → wpList P ops Q rest (a.put o.dst v') w') : wpList P ops Q (o :: rest) a w := by
  subst hm
  have hlen : (zs ++ news).length = zs.length + news.length := List.length_append
  cases ao with
  | none =>
    obtain rfl : c = 0 := hnil rfl
    have hn : news = [] := by
      rcases hr with h | ⟨b, off, h, _⟩
      · exact h
      · cases h
    subst hn
    refine wpList_append_own_none hgd s x t ho B e i k ht hi v zs.length _ hs hown.1 hx ?_
    exact h v w (by simpa using hown) (Below.refl _ _)
  | some ad =>
    refine wpList_append_own _ hgd s x t ho B e i z k by8 ht hi hz hsize hby hzs hk v zs.length _ hs hown.1 ad news.length c (news.flatMap f) hx (flat_length hf news) ?_ ?_ hmax hsmall hown.2 ?_
    · intro j u hu
      rcases hr with h | ⟨b, off, h, hc⟩
      · subst h; simp at hu
      · obtain rfl : ad = ⟨b, off, none⟩ := by simpa using h
        have hj : j < news.length * k := by
          have := (List.getElem?_eq_some_iff.1 hu).1
          rwa [flat_length hf] at this
        have hjk : j / k < news.length := (Nat.div_lt_iff_lt_mul hk).2 hj
        have hm : j % k < k := Nat.mod_lt _ hk
        have hsp : j = j / k * k + j % k := by have := Nat.div_add_mod j k; rw [Nat.mul_comm] at this; exact this.symm
        rw [hsp, flat_at hf news _ hjk _ hm] at hu
        rw [Go.WideShapes.add_plain, hsp, ← Nat.add_assoc, hc _ hjk _ hm]
        exact hu
    · intro u hu
      obtain ⟨y, _, hy⟩ := List.mem_flatMap.1 hu
      exact hone y u hy
    · intro v' w' ho' hg' _
      refine h v' w' ⟨?_, Nat.le_trans hown.2 hg'.size⟩ (below_grown hg' hown.2 fun k hk => (hown.1.lt k hk).1)
      rw [hlen, List.flatMap_append]
      exact ho'
end
section
open Go.ChangeShapes Go.WideShapes Go.Deep
variable {H : Type} {enc : TypeId × Value → H} {P : Program} {w : World} {base : Nat} {spare : Nat → Bool} {held : Bool}
theorem open_rowS {α : Type} [Inhabited α] {k : Nat} {f : α → List Value} {ok : α → Prop} {t e : TypeId} {fuel : Nat} {cs : List Value} {x : DataW H × List MemPlace} (ht : P.underlying t = some (.slice e)) (hk : P.cellsOf e = k)
    (hdec : ∀ n cs y, DataW.trod enc P w base spare held n e cs = some y → ∃ z : α, cs = f z ∧ ok z) (hspare : ∀ b, spare b = true) (h : DataW.trod enc P w base spare held fuel t cs = some x) :
    (cs = [.slice none 0 0]) ∨ ∃ (a : Addr) (len cap : Nat) (zs : List α), cs = [.slice (some a) len cap] ∧ len ≤ cap ∧ cap ≤ maxLen ∧ zs.length = cap ∧
      (∀ j (h : j < zs.length) i, i < k → w.cell? (a.add (j * k + i)) = (f zs[j])[i]?) ∧ ∀ z ∈ zs, ok z := by
  rcases Go.Deep.open_slice ht h with ⟨h0, _⟩ | ⟨a, len, cap, m, n, D, Pl, hcs, hb, hl, hm, hmm, hx, hi⟩
  · exact .inl h0
  · right
    rw [hspare, if_pos rfl] at hmm
    subst hmm
    rw [hk] at hi
    have each : ∀ j, j < m → ∃ z : α, (∀ i, i < k → w.cell? (a.add (j * k + i)) = (f z)[i]?) ∧ ok z := fun j hj => by
      obtain ⟨cs', hc, ht'⟩ := hi j hj
      obtain ⟨z, rfl, hz⟩ := hdec _ _ _ ht'
      obtain ⟨_, _, hat⟩ := World.cells?_some hc
      refine ⟨z, fun i hi => ?_, hz⟩
      rw [← Go.Deep.add_add]
      exact hat i hi
    obtain ⟨Z, hZ⟩ := choose_lt each
    refine ⟨a, len, m, (List.range m).map Z, hcs, hl, hm, by simp, fun j hj i hi => ?_, fun z hz => ?_⟩
    · have hj' : j < m := by simpa using hj
      rw [(hZ j hj').1 i hi]; simp
    · obtain ⟨j, hj, rfl⟩ := List.mem_map.1 hz
      exact (hZ j (List.mem_range.1 hj)).2
end
end Go.Proofs.YtdkngidangfkiaaGreatDoor.Base
namespace Go.Proofs.YtdkngidangfkiaaGreatDoor.Runes
open Go.RowKit
open Base
open Go.Lib (decodeL decodeN encodeRune decodeL_N decodeN_shape decodeN_ascii decodeL_le decodeL_width takeA takeB takeC takeD encode_decode decodeL_drop)
set_option linter.unusedVariables false
set_option linter.unusedSimpArgs false
theorem dec2 (n b0 b1 b2 b3 : Nat) (h : b0 / 32 = 6) (h1 : 1 < n) (h2 : b1 / 64 = 2) (h3 : 128 ≤ b0 % 32 * 64 + b1 % 64) : decodeN n b0 b1 b2 b3 = (b0 % 32 * 64 + b1 % 64, 2) := by
  unfold decodeN; rw [if_neg (by omega), if_pos ⟨h, h1, h2⟩, if_pos h3]
theorem dec3 (n b0 b1 b2 b3 : Nat) (h : b0 / 16 = 14) (h1 : 2 < n) (h2 : b1 / 64 = 2) (h3 : b2 / 64 = 2) (h4 : 2048 ≤ b0 % 16 * 4096 + b1 % 64 * 64 + b2 % 64)
    (h5 : b0 % 16 * 4096 + b1 % 64 * 64 + b2 % 64 < 55296 ∨ 57344 ≤ b0 % 16 * 4096 + b1 % 64 * 64 + b2 % 64) : decodeN n b0 b1 b2 b3 = (b0 % 16 * 4096 + b1 % 64 * 64 + b2 % 64, 3) := by
  unfold decodeN; rw [if_neg (by omega), if_neg (by omega), if_pos ⟨h, ⟨by omega, h2⟩, h1, h3⟩, if_pos ⟨h4, by omega⟩]
theorem dec4 (n b0 b1 b2 b3 : Nat) (h : b0 / 8 = 30) (h1 : 3 < n) (h2 : b1 / 64 = 2) (h3 : b2 / 64 = 2) (h4 : b3 / 64 = 2) (h5 : 65536 ≤ b0 % 8 * 262144 + b1 % 64 * 4096 + b2 % 64 * 64 + b3 % 64)
    (h6 : b0 % 8 * 262144 + b1 % 64 * 4096 + b2 % 64 * 64 + b3 % 64 ≤ 1114111) : decodeN n b0 b1 b2 b3 = (b0 % 8 * 262144 + b1 % 64 * 4096 + b2 % 64 * 64 + b3 % 64, 4) := by
  unfold decodeN; rw [if_neg (by omega), if_neg (by omega), if_neg (by omega), if_pos ⟨h, ⟨by omega, h2⟩, ⟨by omega, h3⟩, h1, h4⟩, if_pos ⟨h5, by omega⟩]
theorem dec_cases (l : List UInt8) (hne : l ≠ []) :
    ((l.getD 0 0).toNat < 128 ∧ decodeL l = ((l.getD 0 0).toNat, 1)) ∨
    (128 ≤ (l.getD 0 0).toNat ∧ decodeL l = (65533, 1)) ∨
    (2 ≤ (decodeL l).2 ∧ 128 ≤ (decodeL l).1 ∧ (∀ b ∈ l.take (decodeL l).2, 128 ≤ b.toNat) ∧ ∀ m : List UInt8, (decodeL l).2 ≤ m.length → m.take (decodeL l).2 = l.take (decodeL l).2 → decodeL m = decodeL l) := by
  rw [decodeL_N l]
  have k0 := (l.getD 0 0).toNat_lt
  rcases decodeN_shape l.length (l.getD 0 0).toNat (l.getD 1 0).toNat (l.getD 2 0).toNat (l.getD 3 0).toNat with ⟨c, e⟩ | ⟨c1, c2, c3, cv, e⟩ | ⟨c1, c2, c3, c4, cv, cs, e⟩ | ⟨c1, c2, c3, c4, c5, cv, cw, e⟩ | e
  · exact .inl ⟨c, e⟩
  · right; right
    rw [e]
    refine ⟨Nat.le_refl _, cv, ?_, fun m hm ht => ?_⟩
    · rw [takeB l c2]; simp only [List.mem_cons, List.not_mem_nil, or_false]
      rintro b (rfl | rfl) <;> omega
    · dsimp only at hm ht
      rw [takeB l c2, takeB m (by omega)] at ht
      simp only [List.cons.injEq, and_true] at ht
      rw [decodeL_N m, ht.1, ht.2]
      exact dec2 _ _ _ _ _ c1 (by omega) c3 cv
  · right; right
    rw [e]
    refine ⟨by dsimp only; omega, by dsimp only; omega, ?_, fun m hm ht => ?_⟩
    · rw [takeC l c2]; simp only [List.mem_cons, List.not_mem_nil, or_false]
      rintro b (rfl | rfl | rfl) <;> omega
    · dsimp only at hm ht
      rw [takeC l c2, takeC m (by omega)] at ht
      simp only [List.cons.injEq, and_true] at ht
      rw [decodeL_N m, ht.1, ht.2.1, ht.2.2]
      exact dec3 _ _ _ _ _ c1 (by omega) c3 c4 cv cs
  · right; right
    rw [e]
    refine ⟨by dsimp only; omega, by dsimp only; omega, ?_, fun m hm ht => ?_⟩
    · rw [takeD l c2]; simp only [List.mem_cons, List.not_mem_nil, or_false]
      rintro b (rfl | rfl | rfl | rfl) <;> omega
    · dsimp only at hm ht
      rw [takeD l c2, takeD m (by omega)] at ht
      simp only [List.cons.injEq, and_true] at ht
      rw [decodeL_N m, ht.1, ht.2.1, ht.2.2.1, ht.2.2.2]
      exact dec4 _ _ _ _ _ c1 (by omega) c3 c4 c5 cv cw
  · by_cases h : (l.getD 0 0).toNat < 128
    · exact .inl ⟨h, decodeN_ascii _ _ _ _ _ h⟩
    · exact .inr (.inl ⟨by omega, e⟩)
def pcF : Nat → List UInt8 → List (Nat × List UInt8)
  | 0, _ => []
  | f + 1, l => if l = [] then [] else ((decodeL l).1, l.take (decodeL l).2) :: pcF f (l.drop (decodeL l).2)
def pc (l : List UInt8) : List (Nat × List UInt8) := pcF l.length l
theorem pcF_nil (f : Nat) : pcF f [] = [] := by cases f <;> simp [pcF]
theorem pcF_fuel : ∀ (n m : Nat) (l : List UInt8), l.length ≤ n → l.length ≤ m → pcF n l = pcF m l
  | 0, m, l, hn, _ => by
    have : l = [] := List.eq_nil_of_length_eq_zero (by omega)
    subst this; rw [pcF_nil, pcF_nil]
  | n + 1, 0, l, _, hm => by
    have : l = [] := List.eq_nil_of_length_eq_zero (by omega)
    subst this; rw [pcF_nil, pcF_nil]
  | n + 1, m + 1, l, hn, hm => by
    by_cases hne : l = []
    · subst hne; rw [pcF_nil, pcF_nil]
    · have hw := decodeL_width l
      have hl : 0 < l.length := List.length_pos_iff.2 hne
      simp only [pcF, if_neg hne]
      rw [pcF_fuel n m _ (by rw [List.length_drop]; omega) (by rw [List.length_drop]; omega)]
theorem pc_nil : pc [] = [] := rfl
theorem pc_step (l : List UInt8) (hne : l ≠ []) : pc l = ((decodeL l).1, l.take (decodeL l).2) :: pc (l.drop (decodeL l).2) := by
  have hw := decodeL_width l
  have hl : 0 < l.length := List.length_pos_iff.2 hne
  unfold pc
  obtain ⟨n, hn⟩ : ∃ n, l.length = n + 1 := ⟨l.length - 1, by omega⟩
  rw [hn]
  simp only [pcF, if_neg hne]
  rw [pcF_fuel n _ _ (by rw [List.length_drop]; omega) (Nat.le_refl _)]
theorem pc_ind {P : List UInt8 → Prop} (h0 : P []) (h1 : ∀ l, l ≠ [] → P (l.drop (decodeL l).2) → P l) (l : List UInt8) : P l := by
  suffices h : ∀ n (l : List UInt8), l.length ≤ n → P l from h l.length l (Nat.le_refl _)
  intro n
  induction n with
  | zero => intro l hl; have : l = [] := List.eq_nil_of_length_eq_zero (by omega); subst this; exact h0
  | succ n ih =>
    intro l hl
    by_cases hne : l = []
    · subst hne; exact h0
    · have hw := decodeL_width l
      exact h1 l hne (ih _ (by rw [List.length_drop]; omega))
theorem pc_ascii (b : UInt8) (t : List UInt8) (h : b.toNat < 128) : pc (b :: t) = (b.toNat, [b]) :: pc t := by
  have hd : decodeL (b :: t) = (b.toNat, 1) := by
    rw [decodeL_N]; exact decodeN_ascii _ _ _ _ _ (by simpa using h)
  rw [pc_step _ (by simp), hd]; simp
theorem dec_ahead (x : List UInt8) (b : UInt8) (t : List UInt8) (hx : x ≠ []) (hb : b.toNat < 128) : decodeL (x ++ b :: t) = decodeL x := by
  have hg : (x ++ b :: t).getD 0 0 = x.getD 0 0 := by
    cases x with
    | nil => exact absurd rfl hx
    | cons y z => rfl
  rcases dec_cases x hx with ⟨h, e⟩ | ⟨h, e⟩ | ⟨h1, h2, h3, h4⟩
  · rcases dec_cases (x ++ b :: t) (by simp) with ⟨k, f⟩ | ⟨k, f⟩ | ⟨k1, k2, k3, k4⟩
    · rw [e, f, hg]
    · rw [hg] at k; omega
    · have := k3 (x.getD 0 0) (by
        cases x with
        | nil => exact absurd rfl hx
        | cons y z =>
          obtain ⟨k, hk⟩ : ∃ k, (decodeL (y :: z ++ b :: t)).2 = k + 1 := ⟨(decodeL (y :: z ++ b :: t)).2 - 1, by omega⟩
          rw [hk]; simp)
      omega
  · rcases dec_cases (x ++ b :: t) (by simp) with ⟨k, f⟩ | ⟨k, f⟩ | ⟨k1, k2, k3, k4⟩
    · rw [hg] at k; omega
    · rw [e, f]
    · by_cases hk : (decodeL (x ++ b :: t)).2 ≤ x.length
      · rw [k4 x hk (by rw [List.take_append_of_le_length hk])]
      · have := k3 b (by
          obtain ⟨j, hj⟩ : ∃ j, (decodeL (x ++ b :: t)).2 = x.length + (j + 1) := ⟨(decodeL (x ++ b :: t)).2 - x.length - 1, by omega⟩
          rw [hj, List.take_length_add_append]; simp)
        omega
  · have hle := decodeL_le x hx
    exact h4 _ (by simp; omega) (List.take_append_of_le_length hle)
theorem pc_append (x : List UInt8) (b : UInt8) (t : List UInt8) (hb : b.toNat < 128) : pc (x ++ b :: t) = pc x ++ (b.toNat, [b]) :: pc t := by
  induction x using pc_ind with
  | h0 => rw [List.nil_append, pc_nil, List.nil_append, pc_ascii b t hb]
  | h1 x hne ih =>
    have hle := decodeL_le x hne
    rw [pc_step _ (by simp), pc_step x hne, dec_ahead x b t hne hb, List.take_append_of_le_length hle, List.drop_append_of_le_length hle, ih, List.cons_append]
theorem pc_bytes (l : List UInt8) : (pc l).flatMap (·.2) = l := by
  induction l using pc_ind with
  | h0 => rfl
  | h1 l hne ih => rw [pc_step l hne, List.flatMap_cons, ih, List.take_append_drop]
theorem pc_length (l : List UInt8) : (pc l).length ≤ l.length := by
  induction l using pc_ind with
  | h0 => simp [pc_nil]
  | h1 l hne ih =>
    have hw := decodeL_width l
    have hle := decodeL_le l hne
    rw [pc_step l hne, List.length_cons]
    rw [List.length_drop] at ih
    omega
def cls (r : Int) : Int :=
  if r < 9 ∨ (10 ≤ r ∧ r ≤ 31) ∨ (127 ≤ r ∧ r ≤ 160) ∨ (55296 ≤ r ∧ r ≤ 57343) ∨ r = 65533 ∨ 1114111 < r then 0
  else if r = 9 ∨ r = 32 then 1 else if 48 ≤ r ∧ r ≤ 57 then 3 else if (65 ≤ r ∧ r ≤ 90) ∨ (97 ≤ r ∧ r ≤ 122) ∨ 161 ≤ r then 2 else 4
def chk : Nat → List (Nat × List UInt8) → Nat × Bool
  | n, [] => (n, false)
  | n, q :: t => if cls q.1 = 0 then (n, true) else chk (n + 1) t
theorem chk_good (n : Nat) (l : List (Nat × List UInt8)) : ((chk n l).2 = false ∧ (chk n l).1 = n + l.length ∧ ∀ q ∈ l, cls q.1 ≠ 0) ∨ ((chk n l).2 = true ∧ n ≤ (chk n l).1 ∧ (chk n l).1 < n + l.length ∧ ¬ ∀ q ∈ l, cls q.1 ≠ 0) := by
  induction l generalizing n with
  | nil => left; simp [chk]
  | cons q t ih =>
    by_cases h : cls q.1 = 0
    · right; simp [chk, h]
    · simp only [chk, if_neg h, List.length_cons, List.mem_cons, forall_eq_or_imp]
      rcases ih (n + 1) with ⟨a, b, c⟩ | ⟨a, b, c, d⟩
      · left; exact ⟨a, by omega, h, c⟩
      · right; exact ⟨a, by omega, by omega, fun x => d x.2⟩
def Good (l : List UInt8) : Prop := ∀ q ∈ pc l, cls q.1 ≠ 0
theorem good_append (x : List UInt8) (b : UInt8) (t : List UInt8) (hb : b.toNat < 128) : Good (x ++ b :: t) ↔ Good x ∧ cls b.toNat ≠ 0 ∧ Good t := by
  unfold Good
  rw [pc_append x b t hb]
  simp only [List.mem_append, List.mem_cons]
  constructor
  · intro h
    have h2 := h (b.toNat, [b]) (Or.inr (Or.inl rfl))
    exact ⟨fun q hq => h q (Or.inl hq), h2, fun q hq => h q (Or.inr (Or.inr hq))⟩
  · rintro ⟨h1, h2, h3⟩ q (hq | hq | hq)
    · exact h1 q hq
    · rw [hq]; exact h2
    · exact h3 q hq
theorem good_nil : Good [] := by simp [Good, pc_nil]
theorem good_cons (b : UInt8) (t : List UInt8) (hb : b.toNat < 128) : Good (b :: t) ↔ cls b.toNat ≠ 0 ∧ Good t := by
  have := good_append [] b t hb
  simpa [good_nil] using this
theorem good_head (l : List UInt8) (hne : l ≠ []) (hg : Good l) :
    encodeRune ((decodeL l).1 : Int) = l.take (decodeL l).2 ∧ Good (l.drop (decodeL l).2) ∧
    ((∃ b, l.take (decodeL l).2 = [b] ∧ b.toNat = (decodeL l).1 ∧ b.toNat < 128) ∨ (128 ≤ (decodeL l).1 ∧ ∀ b ∈ l.take (decodeL l).2, 128 ≤ b.toNat)) := by
  unfold Good at hg
  rw [pc_step l hne] at hg
  simp only [List.mem_cons, forall_eq_or_imp] at hg
  have hv : ¬ ((decodeL l).1 = 65533 ∧ (decodeL l).2 = 1) := by
    rintro ⟨h, _⟩
    exact hg.1 (by rw [h]; decide)
  refine ⟨encode_decode l hne hv, hg.2, ?_⟩
  rcases dec_cases l hne with ⟨h, e⟩ | ⟨h, e⟩ | ⟨h1, h2, h3, h4⟩
  · left
    refine ⟨l.getD 0 0, ?_, by rw [e], h⟩
    rw [e]; exact takeA l (List.length_pos_iff.2 hne)
  · rw [e] at hv; exact absurd ⟨rfl, rfl⟩ hv
  · exact .inr ⟨h2, h3⟩
def mkB (b : UInt8) : Bool := b == 34 || b == 92
def mkR (r : Nat) : Bool := r == 34 || r == 92
def mk (l : List UInt8) : List UInt8 := l.flatMap fun b => if mkB b then [92, b] else [b]
theorem mkB_nat (b : UInt8) : mkB b = mkR b.toNat := by
  unfold mkB mkR
  have e1 : (b == 34) = (b.toNat == 34) := by rw [Bool.eq_iff_iff, beq_iff_eq, beq_iff_eq, ← UInt8.toNat_inj]; exact Iff.rfl
  have e2 : (b == 92) = (b.toNat == 92) := by rw [Bool.eq_iff_iff, beq_iff_eq, beq_iff_eq, ← UInt8.toNat_inj]; exact Iff.rfl
  rw [e1, e2]
theorem mk_nil : mk [] = [] := rfl
theorem mk_cons (b : UInt8) (t : List UInt8) : mk (b :: t) = (if mkB b then [92, b] else [b]) ++ mk t := by simp [mk, List.flatMap_cons]
theorem mk_append (x y : List UInt8) : mk (x ++ y) = mk x ++ mk y := by simp [mk, List.flatMap_append]
theorem mk_high (l : List UInt8) (h : ∀ b ∈ l, mkB b = false) : mk l = l := by
  induction l with
  | nil => rfl
  | cons b t ih =>
    simp only [List.mem_cons, forall_eq_or_imp] at h
    rw [mk_cons, ih h.2, h.1]; rfl
theorem high_mark {b : UInt8} (h : 128 ≤ b.toNat) : mkB b = false := by
  rw [mkB_nat]; simp [mkR]; omega
theorem mk_length (l : List UInt8) : (mk l).length ≤ 2 * l.length := by
  induction l with
  | nil => simp [mk]
  | cons b t ih =>
    rw [mk_cons, List.length_append, List.length_cons]
    split <;> simp <;> omega
theorem mark_low {b : UInt8} (h : mkB b = true) : b.toNat < 128 ∧ cls b.toNat ≠ 0 := by
  rw [mkB_nat] at h
  simp only [mkR, Bool.or_eq_true, beq_iff_eq] at h
  rcases h with h | h <;> rw [h] <;> decide
theorem first_mark (l : List UInt8) : (∀ b ∈ l, mkB b = false) ∨ ∃ x m t, l = x ++ m :: t ∧ (∀ b ∈ x, mkB b = false) ∧ mkB m = true := by
  induction l with
  | nil => left; simp
  | cons b t ih =>
    cases hb : mkB b with
    | true => right; exact ⟨[], b, t, rfl, by simp, hb⟩
    | false =>
      rcases ih with h | ⟨x, m, u, rfl, hx, hm⟩
      · left; simp only [List.mem_cons, forall_eq_or_imp]; exact ⟨hb, h⟩
      · right; exact ⟨b :: x, m, u, rfl, by simp only [List.mem_cons, forall_eq_or_imp]; exact ⟨hb, hx⟩, hm⟩
theorem good_mk (l : List UInt8) : Good (mk l) ↔ Good l := by
  suffices h : ∀ n (l : List UInt8), l.length ≤ n → (Good (mk l) ↔ Good l) from h l.length l (Nat.le_refl _)
  intro n
  induction n with
  | zero => intro l hl; have : l = [] := List.eq_nil_of_length_eq_zero (by omega); subst this; rw [mk_nil]
  | succ n ih =>
    intro l hl
    rcases first_mark l with h | ⟨x, m, t, rfl, hx, hm⟩
    · rw [mk_high l h]
    · have hlo := mark_low hm
      have e : mk (x ++ m :: t) = x ++ (92 : UInt8) :: ([] ++ m :: mk t) := by rw [mk_append, mk_high x hx, mk_cons, if_pos hm]; rfl
      simp only [List.length_append, List.length_cons] at hl
      rw [e, good_append x 92 _ (by decide), good_append [] m _ hlo.1, good_append x m t hlo.1, ih t (by omega)]
      constructor
      · rintro ⟨a, _, _, b, c⟩; exact ⟨a, b, c⟩
      · rintro ⟨a, b, c⟩; exact ⟨a, by decide, good_nil, b, c⟩
def qt (l : List UInt8) : List UInt8 := 34 :: (mk l ++ [34])
theorem good_qt (l : List UInt8) : Good (qt l) ↔ Good l := by
  unfold qt
  rw [good_cons _ _ (by decide), good_append (mk l) 34 [] (by decide), good_mk]
  constructor
  · rintro ⟨_, h, _⟩; exact h
  · intro h; exact ⟨by decide, h, by decide, good_nil⟩
def qr : List (Nat × List UInt8) → List UInt8
  | [] => []
  | q :: t => (if mkR q.1 then [92] else []) ++ encodeRune (q.1 : Int) ++ qr t
theorem qr_good (l : List UInt8) (hg : Good l) : qr (pc l) = mk l := by
  induction l using pc_ind with
  | h0 => rfl
  | h1 l hne ih =>
    obtain ⟨h1, h2, h3⟩ := good_head l hne hg
    rw [pc_step l hne, qr, ih h2, h1]
    conv => rhs; rw [← List.take_append_drop (decodeL l).2 l, mk_append]
    congr 1
    rcases h3 with ⟨b, e, eb, hb⟩ | ⟨h4, h5⟩
    · rw [e, ← eb, ← mkB_nat, mk_cons, mk_nil, List.append_nil]
      cases mkB b <;> rfl
    · rw [mk_high _ fun b hb => high_mark (h5 b hb)]
      have : mkR (decodeL l).1 = false := by simp [mkR]; omega
      rw [this]; rfl
def unR : List (Nat × List UInt8) → Bool → Option (List UInt8)
  | [], m => if m then none else some []
  | q :: t, m => if q.1 = 92 ∧ m = false then unR t true else if mkR q.1 ≠ m then none else (unR t false).map (encodeRune (q.1 : Int) ++ ·)
def unB : List UInt8 → Bool → Option (List UInt8)
  | [], m => if m then none else some []
  | b :: t, m => if b = 92 ∧ m = false then unB t true else if mkB b ≠ m then none else (unB t false).map (b :: ·)
theorem unB_high (p t : List UInt8) (h : ∀ b ∈ p, 128 ≤ b.toNat) : unB (p ++ t) false = (unB t false).map (p ++ ·) := by
  induction p with
  | nil => simp
  | cons b p ih =>
    simp only [List.mem_cons, forall_eq_or_imp] at h
    have h1 := high_mark h.1
    have h2 : b ≠ 92 := by rintro rfl; exact absurd h.1 (by decide)
    rw [List.cons_append, unB, if_neg (fun x => h2 x.1), if_neg (by rw [h1]; simp), ih h.2, Option.map_map]
    rfl
theorem un_good (l : List UInt8) (hg : Good l) (m : Bool) : unR (pc l) m = unB l m := by
  induction l using pc_ind generalizing m with
  | h0 => rfl
  | h1 l hne ih =>
    obtain ⟨h1, h2, h3⟩ := good_head l hne hg
    rw [pc_step l hne, unR, h1, ih h2, ih h2]
    conv => rhs; rw [← List.take_append_drop (decodeL l).2 l]
    rcases h3 with ⟨b, e, eb, hb⟩ | ⟨h4, h5⟩
    · have e92 : (b.toNat = 92) = (b = 92) := by
        apply propext; constructor
        · intro h; apply UInt8.toNat_inj.1; rw [h]; rfl
        · rintro rfl; rfl
      rw [e, ← eb, ← mkB_nat, List.singleton_append, unB]
      simp only [e92]
      rfl
    · have h6 : mkR (decodeL l).1 = false := by simp [mkR]; omega
      have h8 : ¬ ((decodeL l).1 = 92 ∧ m = false) := by rintro ⟨h, _⟩; omega
      rw [if_neg h8, h6]
      cases m with
      | false => rw [if_neg (by simp), unB_high _ _ h5]
      | true =>
        rw [if_pos (by simp)]
        have hw := decodeL_width l
        have hle := decodeL_le l hne
        cases hp : l.take (decodeL l).2 with
        | nil =>
          have h9 := congrArg List.length hp
          rw [List.length_take, List.length_nil] at h9
          have := List.length_pos_iff.2 hne
          omega
        | cons b p =>
          rw [hp] at h5
          have h7 := high_mark (h5 b (by simp))
          rw [List.cons_append, unB, if_neg (by simp), if_pos (by rw [h7]; simp)]
theorem un_mk (u : List UInt8) : unB (mk u) false = some u := by
  induction u with
  | nil => rfl
  | cons b t ih =>
    rw [mk_cons]
    cases hb : mkB b with
    | true =>
      have h92 : mkB 92 = true := by decide
      rw [if_pos rfl, List.cons_append, List.singleton_append, unB, if_pos ⟨rfl, rfl⟩, unB, if_neg (by simp), if_neg (by rw [hb]; simp), ih]; rfl
    | false =>
      have : b ≠ 92 := by rintro rfl; exact absurd hb (by decide)
      rw [if_neg (by simp), List.singleton_append, unB, if_neg (fun x => this x.1), if_neg (by rw [hb]; simp), ih]; rfl
theorem mk_un (m : List UInt8) : (∀ u, unB m false = some u → mk u = m) ∧ (∀ u, unB m true = some u → ∃ b t u', m = b :: t ∧ mkB b = true ∧ u = b :: u' ∧ mk u' = t) := by
  induction m with
  | nil => refine ⟨fun u h => ?_, fun u h => ?_⟩ <;> simp [unB] at h; subst h; rfl
  | cons b t ih =>
    refine ⟨fun u h => ?_, fun u h => ?_⟩
    · rw [unB] at h
      split at h
      · rename_i hb
        obtain ⟨c, t', u', rfl, hc, rfl, rfl⟩ := ih.2 u h
        rw [mk_cons, if_pos hc, hb.1]; rfl
      · split at h
        · cases h
        · rename_i h1 h2
          obtain ⟨v, hv, rfl⟩ := Option.map_eq_some_iff.1 h
          have hb : mkB b = false := by simpa using h2
          rw [mk_cons, hb, ih.1 v hv]; rfl
    · rw [unB, if_neg (by simp)] at h
      split at h
      · cases h
      · rename_i h2
        obtain ⟨v, hv, rfl⟩ := Option.map_eq_some_iff.1 h
        exact ⟨b, t, v, rfl, by simpa using h2, rfl, ih.1 v hv⟩
def skp : List UInt8 → List UInt8
  | [] => []
  | [b] => [b]
  | b :: c :: t => if b = 92 then c :: skp t else b :: skp (c :: t)
theorem skp_cons {b : UInt8} (h : b ≠ 92) (t : List UInt8) : skp (b :: t) = b :: skp t := by
  cases t with
  | nil => rfl
  | cons c t => rw [skp, if_neg h]
theorem skp_mk (u : List UInt8) : skp (mk u) = u := by
  induction u with
  | nil => rfl
  | cons b t ih =>
    rw [mk_cons]
    cases hb : mkB b with
    | true => rw [if_pos rfl, List.cons_append, List.singleton_append, skp, if_pos rfl, ih]
    | false =>
      have : b ≠ 92 := by rintro rfl; exact absurd hb (by decide)
      rw [if_neg (by simp), List.singleton_append, skp_cons this, ih]
def inner (l : List UInt8) : List UInt8 := l.tail.dropLast
def shut (l : List UInt8) : Bool := l.head? == some 34 && l.tail.getLast? == some 34
def uq (l : List UInt8) : Option (List UInt8) := if shut l then unB (inner l) false else none
theorem shut_eq {l : List UInt8} (h : shut l = true) : l = 34 :: (inner l ++ [34]) := by
  simp only [shut, Bool.and_eq_true, beq_iff_eq] at h
  cases l with
  | nil => simp at h
  | cons b t =>
    simp only [List.head?_cons, Option.some.injEq, List.tail_cons] at h
    unfold inner
    rw [List.tail_cons, h.1]
    congr 1
    cases t with
    | nil => simp at h
    | cons c t =>
      have h2 := h.2
      rw [List.getLast?_eq_some_getLast (by simp), Option.some.injEq] at h2
      rw [← h2]
      exact (List.dropLast_concat_getLast _).symm
theorem shut_qt (x : List UInt8) : shut (34 :: (x ++ [34])) = true ∧ inner (34 :: (x ++ [34])) = x := by
  unfold shut inner
  constructor
  · simp
  · simp
theorem uq_some {l u : List UInt8} (h : uq l = some u) : qt u = l := by
  unfold uq at h
  split at h
  · rename_i hs
    have h1 := shut_eq hs
    rw [h1]
    unfold qt
    rw [(mk_un _).1 u h]
  · cases h
theorem uq_qt (u : List UInt8) : uq (qt u) = some u := by
  unfold uq qt
  rw [(shut_qt _).1, (shut_qt _).2, if_pos rfl, un_mk]
theorem skp_uq {l u : List UInt8} (h : uq l = some u) : skp (inner l) = u := by
  have h1 := uq_some h
  rw [← h1]
  unfold qt
  rw [(shut_qt _).2, skp_mk]
theorem good_inner {l : List UInt8} (hs : shut l = true) (hg : Good l) : Good (inner l) := by
  rw [shut_eq hs, good_cons _ _ (by decide), good_append _ 34 [] (by decide)] at hg
  exact hg.2.1
def plc : Nat → List (Nat × List UInt8) → Nat
  | 0, _ => 0
  | _ + 1, [] => 0
  | n + 1, q :: t => q.2.length + plc n t
theorem cut_back (n : Nat) (l : List UInt8) (hn : n ≤ (pc l).length) : pc (l.drop (plc n (pc l))) = (pc l).drop n := by
  induction n generalizing l with
  | zero => simp [plc]
  | succ n ih =>
    have hne : l ≠ [] := by rintro rfl; simp [pc_nil] at hn
    have hle := decodeL_le l hne
    rw [pc_step l hne] at hn ⊢
    have hn2 : n ≤ (pc (l.drop (decodeL l).2)).length := by simpa using hn
    rw [plc, List.length_take, Nat.min_eq_left hle, ← List.drop_drop, ih _ hn2, List.drop_succ_cons]
def lowB (b : UInt8) : UInt8 := if 64 < b.toNat ∧ b.toNat < 91 then b + 32 else b
theorem low_high {b : UInt8} (h : 128 ≤ b.toNat) : lowB b = b := by unfold lowB; rw [if_neg (by omega)]
theorem low_head (l : List UInt8) (hne : l ≠ []) :
    (65 ≤ (decodeL l).1 ∧ (decodeL l).1 ≤ 90 ∧ (decodeL l).2 = 1 ∧ (l.getD 0 0).toNat = (decodeL l).1) ∨ (¬ (65 ≤ (decodeL l).1 ∧ (decodeL l).1 ≤ 90) ∧ (l.take (decodeL l).2).map lowB = l.take (decodeL l).2) := by
  have hmap : ∀ x : List UInt8, (∀ b ∈ x, lowB b = b) → x.map lowB = x := fun x h => by
    conv => rhs; rw [← List.map_id x]
    exact List.map_congr_left h
  rcases dec_cases l hne with ⟨h, e⟩ | ⟨h, e⟩ | ⟨h1, h2, h3, h4⟩
  · by_cases h1 : 65 ≤ (l.getD 0 0).toNat ∧ (l.getD 0 0).toNat ≤ 90
    · left; rw [e]; exact ⟨h1.1, h1.2, rfl, rfl⟩
    · right; rw [e]
      refine ⟨h1, hmap _ ?_⟩
      dsimp only
      rw [takeA l (List.length_pos_iff.2 hne)]
      simp only [List.mem_singleton, forall_eq]
      unfold lowB; rw [if_neg (by omega)]
  · right; rw [e]
    refine ⟨by dsimp only; omega, hmap _ ?_⟩
    dsimp only
    rw [takeA l (List.length_pos_iff.2 hne)]
    simp only [List.mem_singleton, forall_eq]
    exact low_high h
  · right
    exact ⟨by omega, hmap _ fun b hb => low_high (h3 b hb)⟩
def ps (s : ByteArray) (pos : Nat) : List (Nat × List UInt8) := pc (s.data.toList.drop pos)
theorem drop_ne (s : ByteArray) (pos : Nat) (h : pos < s.size) : s.data.toList.drop pos ≠ [] := by
  intro h0
  have := congrArg List.length h0
  rw [List.length_drop, ← Lib.size_eq] at this
  simp at this
  omega
theorem ps_end (s : ByteArray) (pos : Nat) (h : ¬ pos < s.size) : ps s pos = [] := by
  unfold ps
  rw [List.drop_eq_nil_of_le (by rw [← Lib.size_eq]; omega), pc_nil]
theorem ps_step (s : ByteArray) (pos : Nat) (h : pos < s.size) : ps s pos = ((Utf8.decode s pos).1, (s.data.toList.drop pos).take (Utf8.decode s pos).2) :: ps s (pos + (Utf8.decode s pos).2) := by
  unfold ps
  rw [pc_step _ (drop_ne s pos h), decodeL_drop, List.drop_drop]
theorem ps_width (s : ByteArray) (pos : Nat) (h : pos < s.size) : 1 ≤ (Utf8.decode s pos).2 ∧ pos + (Utf8.decode s pos).2 ≤ s.size ∧ ((s.data.toList.drop pos).take (Utf8.decode s pos).2).length = (Utf8.decode s pos).2 := by
  have h1 := decodeL_width (s.data.toList.drop pos)
  have h2 := decodeL_le _ (drop_ne s pos h)
  rw [decodeL_drop] at h1 h2
  rw [List.length_drop, ← Lib.size_eq] at h2
  refine ⟨h1, by omega, ?_⟩
  rw [List.length_take, List.length_drop, ← Lib.size_eq]
  omega
theorem ps_zero (s : ByteArray) : ps s 0 = pc s.data.toList := rfl
end Go.Proofs.YtdkngidangfkiaaGreatDoor.Runes
namespace Go.Proofs.YtdkngidangfkiaaGreatDoor.Runes
open Go.RowKit
open Base
set_option linter.unusedVariables false
theorem within_any (r a b : Int) (w : World) :
    Calls Tryz.prog 130 #[.int .i32 r, .int .i32 a, .int .i32 b] w fun e w' => e = .returned (.bool (decide (a ≤ r ∧ r ≤ b))) ∧ w = w' := by
  go_enter Tryz.func130, Tryz.ntmps130
  go_wp2
  all_goals
    go_ret
    refine ⟨ret_bool ?_, rfl⟩
    rw [Bool.eq_iff_iff]
    first | (simp [*]; done) | (simp [*]; omega)
theorem isMark_any (r : Int) (w : World) :
    Calls Tryz.prog 166 #[.int .i32 r] w fun e w' => e = .returned (.bool (decide (r = 34 ∨ r = 92))) ∧ w = w' := by
  go_enter Tryz.func166, Tryz.ntmps166
  go_wp2
  all_goals
    go_ret
    refine ⟨ret_bool ?_, rfl⟩
    rw [Bool.eq_iff_iff]
    simp [*]
def bdB (r : Int) : Bool := decide (r < 9 ∨ (10 ≤ r ∧ r ≤ 31) ∨ (127 ≤ r ∧ r ≤ 160) ∨ (55296 ≤ r ∧ r ≤ 57343) ∨ r = 65533 ∨ 1114111 < r)
theorem bdB_iff (r : Int) : bdB r = true ↔ (r < 9 ∨ (10 ≤ r ∧ r ≤ 31) ∨ (127 ≤ r ∧ r ≤ 160) ∨ (55296 ≤ r ∧ r ≤ 57343) ∨ r = 65533 ∨ 1114111 < r) := decide_eq_true_iff
theorem bdB_not (r : Int) : bdB r = false ↔ ¬ (r < 9 ∨ (10 ≤ r ∧ r ≤ 31) ∨ (127 ≤ r ∧ r ≤ 160) ∨ (55296 ≤ r ∧ r ≤ 57343) ∨ r = 65533 ∨ 1114111 < r) := by rw [← bdB_iff, Bool.not_eq_true]
set_option maxHeartbeats 1000000 in
theorem isBad_any (r : Int) (w : World) :
    Calls Tryz.prog 129 #[.int .i32 r] w fun e w' => e = .returned (.bool (bdB r)) ∧ w = w' := by
  go_enter Tryz.func129, Tryz.ntmps129
  go_wp2_with (first | (go_at_call 130; (with_reducible refine (within_any _ _ _ _).mono ?_); rintro e w' ⟨rfl, rfl⟩) | fail)
  all_goals
    go_ret
    refine ⟨ret_bool ?_, rfl⟩
    rw [Bool.eq_iff_iff, bdB_iff]
    first | (simp [*]; done) | (simp [*]; omega) | (simp; omega)
set_option maxHeartbeats 1000000 in
theorem class_any (r : Int) (w : World) :
    Calls Tryz.prog 89 #[.int .i32 r] w fun e w' => e = .returned (.int .i64 (cls r)) ∧ w = w' := by
  obtain ⟨c, hc⟩ : ∃ c, c = cls r := ⟨_, rfl⟩
  rw [← hc]
  have HC := Lib.hid hc
  clear hc
  go_enter Tryz.func89, Tryz.ntmps89
  go_wp2_with (first
    | (go_at_call 130; (with_reducible refine (within_any _ _ _ _).mono ?_); rintro e w' ⟨rfl, rfl⟩)
    | (go_at_call 129; (with_reducible refine (isBad_any _ _).mono ?_); rintro e w' ⟨rfl, rfl⟩)
    | fail)
  all_goals
    go_ret
    refine ⟨ret_int ?_, rfl⟩
    rw [HC.out]
    unfold cls
    try simp only [bdB_iff, bdB_not, beq_iff_eq, beq_eq_false_iff_ne, ne_eq] at *
    repeat' split
    all_goals first | rfl | (exfalso; omega)
set_option maxHeartbeats 2000000 in
theorem rclass_any (r : Int) (w : World) :
    Calls Tryz.prog 77 #[.int .i32 r] w fun e w' => e = .returned (.int .i64 (cls r)) ∧ w = w' := by
  obtain ⟨c, hc⟩ : ∃ c, c = cls r := ⟨_, rfl⟩
  rw [← hc]
  have HC := Lib.hid hc
  clear hc
  go_enter Tryz.func77, Tryz.ntmps77
  go_wp2
  all_goals
    go_ret
    refine ⟨ret_int ?_, rfl⟩
    rw [HC.out]
    unfold cls
    try simp only [beq_iff_eq, beq_eq_false_iff_ne, ne_eq] at *
    repeat' split
    all_goals first | rfl | (exfalso; omega)
end Go.Proofs.YtdkngidangfkiaaGreatDoor.Runes
namespace Go.Proofs.YtdkngidangfkiaaGreatDoor.Bld
open Go.Shelf Go.RowKit
open Base
set_option linter.unusedVariables false
def ren : Go.Shelf.Ren := ⟨fun | 103 => 134 | 104 => 135 | 167 => 172 | 168 => 167 | 169 => 22 | 206 => 186 | 207 => 187 | 210 => 164 | 211 => 165 | 240 => 42 | 242 => 188 | 276 => 71 | 278 => 195 | 316 => 132 | n => n, fun | 0 => 0 | 3 => 3 | 4 => 4 | 5 => 5 | 9 => 9 | 20 => 20 | 21 => 21 | 24 => 134 | 37 => 44 | 46 => 180 | 51 => 192 | 70 => 43 | 72 => 46 | 75 => 48 | 80 => 58 | 127 => 93 | 164 => 114 | n => n, fun | n => n⟩
theorem lays167 : Go.Proofs.Lays.n167 Tryz.prog ren := {
  mixed := by kernel_rfl
  f167 := Tryz.func172.trans (congrArg some (by kernel_rfl))
  f240 := Tryz.func42.trans (congrArg some (by kernel_rfl))
  f276 := Tryz.func71.trans (congrArg some (by kernel_rfl))
  t0 := Tryz.underlying0
  a0 := Tryz.isAgg0
  z0 := Tryz.sizeOf0
  v0 := Tryz.zeroValue0
  t4 := Tryz.underlying4
  a4 := Tryz.isAgg4
  z4 := Tryz.sizeOf4
  v4 := Tryz.zeroValue4
  t5 := Tryz.underlying5
  a5 := Tryz.isAgg5
  z5 := Tryz.sizeOf5
  v5 := Tryz.zeroValue5
  t9 := Tryz.underlying9
  a9 := Tryz.isAgg9
  z9 := Tryz.sizeOf9
  v9 := Tryz.zeroValue9
  t20 := Tryz.underlying20
  a20 := Tryz.isAgg20
  z20 := Tryz.sizeOf20
  v20 := Tryz.zeroValue20
  t37 := Tryz.underlying44
  a37 := Tryz.isAgg44
  z37 := Tryz.sizeOf44
  v37 := Tryz.zeroValue44
  t70 := Tryz.underlying43
  a70 := Tryz.isAgg43
  z70 := Tryz.sizeOf43
  v70 := Tryz.zeroValue43
  t72 := Tryz.underlying46
  a72 := Tryz.isAgg46
  z72 := Tryz.sizeOf46
  v72 := Tryz.zeroValue46
  t75 := Tryz.underlying48
  a75 := Tryz.isAgg48
  z75 := Tryz.sizeOf48
  v75 := Tryz.zeroValue48
  t164 := Tryz.underlying114
  a164 := Tryz.isAgg114
  z164 := Tryz.sizeOf114
  v164 := Tryz.zeroValue114 }
theorem lays168 : Go.Proofs.Lays.n168 Tryz.prog ren := {
  mixed := by kernel_rfl
  f168 := Tryz.func167.trans (congrArg some (by kernel_rfl))
  f240 := Tryz.func42.trans (congrArg some (by kernel_rfl))
  f242 := Tryz.func188.trans (congrArg some (by kernel_rfl))
  f276 := Tryz.func71.trans (congrArg some (by kernel_rfl))
  f278 := Tryz.func195.trans (congrArg some (by kernel_rfl))
  t0 := Tryz.underlying0
  a0 := Tryz.isAgg0
  z0 := Tryz.sizeOf0
  v0 := Tryz.zeroValue0
  t3 := Tryz.underlying3
  a3 := Tryz.isAgg3
  z3 := Tryz.sizeOf3
  v3 := Tryz.zeroValue3
  t4 := Tryz.underlying4
  a4 := Tryz.isAgg4
  z4 := Tryz.sizeOf4
  v4 := Tryz.zeroValue4
  t5 := Tryz.underlying5
  a5 := Tryz.isAgg5
  z5 := Tryz.sizeOf5
  v5 := Tryz.zeroValue5
  t9 := Tryz.underlying9
  a9 := Tryz.isAgg9
  z9 := Tryz.sizeOf9
  v9 := Tryz.zeroValue9
  t20 := Tryz.underlying20
  a20 := Tryz.isAgg20
  z20 := Tryz.sizeOf20
  v20 := Tryz.zeroValue20
  t21 := Tryz.underlying21
  a21 := Tryz.isAgg21
  z21 := Tryz.sizeOf21
  v21 := Tryz.zeroValue21
  t37 := Tryz.underlying44
  a37 := Tryz.isAgg44
  z37 := Tryz.sizeOf44
  v37 := Tryz.zeroValue44
  t46 := Tryz.underlying180
  a46 := Tryz.isAgg180
  z46 := Tryz.sizeOf180
  v46 := Tryz.zeroValue180
  t51 := Tryz.underlying192
  a51 := Tryz.isAgg192
  z51 := Tryz.sizeOf192
  v51 := Tryz.zeroValue192
  t70 := Tryz.underlying43
  a70 := Tryz.isAgg43
  z70 := Tryz.sizeOf43
  v70 := Tryz.zeroValue43
  t72 := Tryz.underlying46
  a72 := Tryz.isAgg46
  z72 := Tryz.sizeOf46
  v72 := Tryz.zeroValue46
  t75 := Tryz.underlying48
  a75 := Tryz.isAgg48
  z75 := Tryz.sizeOf48
  v75 := Tryz.zeroValue48
  t164 := Tryz.underlying114
  a164 := Tryz.isAgg114
  z164 := Tryz.sizeOf114
  v164 := Tryz.zeroValue114 }
theorem lays169 : Go.Proofs.Lays.n169 Tryz.prog ren := {
  mixed := by kernel_rfl
  f169 := Tryz.func22.trans (congrArg some (by kernel_rfl))
  t0 := Tryz.underlying0
  a0 := Tryz.isAgg0
  z0 := Tryz.sizeOf0
  v0 := Tryz.zeroValue0
  t3 := Tryz.underlying3
  a3 := Tryz.isAgg3
  z3 := Tryz.sizeOf3
  v3 := Tryz.zeroValue3
  t9 := Tryz.underlying9
  a9 := Tryz.isAgg9
  z9 := Tryz.sizeOf9
  v9 := Tryz.zeroValue9
  t37 := Tryz.underlying44
  a37 := Tryz.isAgg44
  z37 := Tryz.sizeOf44
  v37 := Tryz.zeroValue44
  t70 := Tryz.underlying43
  a70 := Tryz.isAgg43
  z70 := Tryz.sizeOf43
  v70 := Tryz.zeroValue43
  t72 := Tryz.underlying46
  a72 := Tryz.isAgg46
  z72 := Tryz.sizeOf46
  v72 := Tryz.zeroValue46
  t127 := Tryz.underlying93
  a127 := Tryz.isAgg93
  z127 := Tryz.sizeOf93
  v127 := Tryz.zeroValue93 }
theorem lays103 : Go.Proofs.Lays.n103 Tryz.prog ren := {
  mixed := by kernel_rfl
  f103 := Tryz.func134.trans (congrArg some (by kernel_rfl))
  f206 := Tryz.func186.trans (congrArg some (by kernel_rfl))
  f210 := Tryz.func164.trans (congrArg some (by kernel_rfl))
  t3 := Tryz.underlying3
  a3 := Tryz.isAgg3
  z3 := Tryz.sizeOf3
  v3 := Tryz.zeroValue3
  t4 := Tryz.underlying4
  a4 := Tryz.isAgg4
  z4 := Tryz.sizeOf4
  v4 := Tryz.zeroValue4
  t9 := Tryz.underlying9
  a9 := Tryz.isAgg9
  z9 := Tryz.sizeOf9
  v9 := Tryz.zeroValue9
  t24 := Tryz.underlying134
  a24 := Tryz.isAgg134
  z24 := Tryz.sizeOf134
  v24 := Tryz.zeroValue134 }
theorem lays104 : Go.Proofs.Lays.n104 Tryz.prog ren := {
  mixed := by kernel_rfl
  f104 := Tryz.func135.trans (congrArg some (by kernel_rfl))
  f207 := Tryz.func187.trans (congrArg some (by kernel_rfl))
  f211 := Tryz.func165.trans (congrArg some (by kernel_rfl))
  t3 := Tryz.underlying3
  a3 := Tryz.isAgg3
  z3 := Tryz.sizeOf3
  v3 := Tryz.zeroValue3
  t4 := Tryz.underlying4
  a4 := Tryz.isAgg4
  z4 := Tryz.sizeOf4
  v4 := Tryz.zeroValue4
  t9 := Tryz.underlying9
  a9 := Tryz.isAgg9
  z9 := Tryz.sizeOf9
  v9 := Tryz.zeroValue9
  t24 := Tryz.underlying134
  a24 := Tryz.isAgg134
  z24 := Tryz.sizeOf134
  v24 := Tryz.zeroValue134 }
theorem laysM316 : Go.Proofs.LaysM.n316 Tryz.prog ren := {
  mixed := by kernel_rfl
  f316 := Tryz.func132.trans (congrArg some (by kernel_rfl))
  t0 := Tryz.underlying0
  a0 := Tryz.isAgg0
  z0 := Tryz.sizeOf0
  v0 := Tryz.zeroValue0
  t3 := Tryz.underlying3
  a3 := Tryz.isAgg3
  z3 := Tryz.sizeOf3
  v3 := Tryz.zeroValue3
  t4 := Tryz.underlying4
  a4 := Tryz.isAgg4
  z4 := Tryz.sizeOf4
  v4 := Tryz.zeroValue4
  t9 := Tryz.underlying9
  a9 := Tryz.isAgg9
  z9 := Tryz.sizeOf9
  v9 := Tryz.zeroValue9
  t37 := Tryz.underlying44
  a37 := Tryz.isAgg44
  z37 := Tryz.sizeOf44
  v37 := Tryz.zeroValue44
  t127 := Tryz.underlying93
  a127 := Tryz.isAgg93
  z127 := Tryz.sizeOf93
  v127 := Tryz.zeroValue93
  t5 := Tryz.underlying5
  a5 := Tryz.isAgg5
  z5 := Tryz.sizeOf5
  v5 := Tryz.zeroValue5
  i0 := by kernel_rfl
  i3 := by kernel_rfl
  i4 := by kernel_rfl
  i5 := by kernel_rfl
  i9 := by kernel_rfl
  i37 := by kernel_rfl
  i127 := by kernel_rfl }
theorem extra : Builder.Extra Tryz.prog ren := {
  sizeBuilder := by kernel_rfl 
  liesBuilder := by kernel_rfl
  t5 := Tryz.underlying5
  a5 := Tryz.isAgg5
  z5 := Tryz.sizeOf5
  v5 := Tryz.zeroValue5
  infoByte := by kernel_rfl
  cellsByte := by kernel_rfl
  sizeByte := by kernel_rfl
  neB5 := by decide }
def BldR (w : World) (B b : Nat) (l : List UInt8) (w' : World) : Prop := Lib.IsBuilderF 46 5 B b (Lib.byteCells l) w' ∧ Below B w w' ∧ B ≤ w'.heap.size
abbrev Kept (b : Nat) (w w' : World) : Prop := Lib.OthersKept 5 (some b) w w'
theorem bldR_new (w w1 : World) (hb : Below w.heap.size w w1) (n : Nat) (hn : n = w1.heap.size) : BldR w w.heap.size n [] (w1.alloc (.cells #[.pointer none, .slice none 0 0] 46)) := by
  subst hn
  have h := Lib.fresh_isBuilder 46 5 w1
  have hs := hb.size
  refine ⟨Lib.IsBuilderF.of ?_, hb.alloc hs _, by simp; omega⟩
  rcases h with ⟨_, h⟩ | ⟨_, h⟩
  · obtain ⟨v, h1, h2, h3⟩ := h
    refine .inl ⟨hs, v, h1, ?_, h3⟩
    rcases h2.2 with h4 | ⟨g, cap, cur, h4, h5, h6⟩
    · exact ⟨h2.1, .inl h4⟩
    · exact ⟨h2.1, .inr ⟨g, cap, cur, h4, Nat.le_trans hs h5, h6⟩⟩
  · obtain ⟨v, h1, h2, h3⟩ := h
    refine .inr ⟨hs, v, h1, ?_, h3⟩
    rcases h2.2 with h4 | ⟨g, cap, cur, h4, h5, h6⟩
    · exact ⟨h2.1, .inl h4⟩
    · exact ⟨h2.1, .inr ⟨g, cap, cur, h4, Nat.le_trans hs h5, h6⟩⟩
theorem BldR.alloc {w w1 : World} {B b : Nat} {l : List UInt8} (h : BldR w B b l w1) (o : Obj) : BldR w B b l (w1.alloc o) :=
  ⟨h.1.alloc o, h.2.1.alloc h.2.2 o, by simp; have := h.2.2; omega⟩
theorem BldR.iterAt {w w1 : World} {B b k : Nat} {l : List UInt8} {s : ByteArray} {pos : Nat} (h : BldR w B b l w1) (hk : w1.heap[k]? = some (.stringIter s pos)) (hB : B ≤ k) (pos' : Nat) : BldR w B b l (w1.iterAt k s pos') :=
  ⟨h.1.iterAt hk pos', Lib.below_iterAt h.2.1 hB s pos', by rw [Lib.iterAt_size]; exact h.2.2⟩
theorem writeByte_r (w w1 : World) (B b : Nat) (l : List UInt8) (z : Int) (c : UInt8) (hz : z = (c.toNat : Int)) (h : BldR w B b l w1) (hl : l.length < 140737488355328) :
    Calls Tryz.prog 172 #[.pointer (some ⟨b, 0, none⟩), .int .u8 z] w1 fun e w' => e = .returned .nilIface ∧ BldR w B b (l ++ [c]) w' ∧ Kept b w1 w' := by
  subst hz
  refine (Any.Builder_WriteByte_k lays167 extra B b _ (c.toNat : Int) w1 h.1 (by rw [Lib.byteCells_length]; omega) h.2.2).mono ?_
  rintro e w' ⟨rfl, h1, h2, h3⟩
  exact ⟨rfl, ⟨by rw [Lib.byteCells_append]; exact .inr h1, h.2.1.trans h2, Nat.le_trans h.2.2 h2.size⟩, h3⟩
theorem writeRune_r (w w1 : World) (B b : Nat) (l : List UInt8) (r : Int) (h0 : 0 ≤ r) (h1 : r ≤ 2147483647) (h : BldR w B b l w1) (hl : l.length + 4 ≤ 140737488355328) :
    Calls Tryz.prog 167 #[.pointer (some ⟨b, 0, none⟩), .int .i32 r] w1 fun e w' => e = .returned (.tuple #[.int .i64 (Lib.runeCells r).length, .nilIface]) ∧ BldR w B b (l ++ Lib.encodeRune r) w' ∧ Kept b w1 w' := by
  refine (Any.Builder_WriteRune_k lays168 extra B b _ r (by omega) h1 w1 h.1 (by rw [Lib.byteCells_length]; omega) h.2.2).mono ?_
  rintro e w' ⟨rfl, h1, h2, h3⟩
  exact ⟨rfl, ⟨by rw [Lib.byteCells_append, Lib.byteCells_encodeRune]; exact .inr h1, h.2.1.trans h2, Nat.le_trans h.2.2 h2.size⟩, h3⟩
theorem string_r (w w1 : World) (B b : Nat) (l : List UInt8) (h : BldR w B b l w1) :
    Calls Tryz.prog 22 #[.pointer (some ⟨b, 0, none⟩)] w1 fun e w' => e = .returned (.string ⟨l.toArray⟩) ∧ Below B w w' := by
  refine (Any.Builder_String_any_k lays169 extra B b l w1 h.1 h.2.2).mono ?_
  rintro e w' ⟨rfl, _, h2, _⟩
  exact ⟨rfl, h.2.1.trans h2⟩
theorem clone_at (s : ByteArray) (w : World) (h : s.size ≤ 281474976710656) :
    Calls Tryz.prog 132 #[.string s] w fun e w' => e = .returned (.string s) ∧ Below w.heap.size w w' := Any.stringslite_Clone laysM316 s w h
theorem cutPrefix_at (s p : ByteArray) (w : World) :
    Calls Tryz.prog 134 #[.string s, .string p] w fun e w' => e = .returned (.tuple #[.string ⟨(Lib.trimPrefix s.data.toList p.data.toList).toArray⟩, .bool (Lib.hasPrefix s.data.toList p.data.toList)]) ∧ w' = w := Any.strings_CutPrefix lays103 s p w
theorem cutSuffix_at (s p : ByteArray) (w : World) (h : s.size ≤ 9223372036854775807) :
    Calls Tryz.prog 135 #[.string s, .string p] w fun e w' => e = .returned (.tuple #[.string ⟨(Lib.trimSuffix s.data.toList p.data.toList).toArray⟩, .bool (Lib.hasSuffix s.data.toList p.data.toList)]) ∧ w' = w := Any.strings_CutSuffix lays104 s p w h
end Go.Proofs.YtdkngidangfkiaaGreatDoor.Bld
namespace Go.Proofs.YtdkngidangfkiaaGreatDoor.Runes
open Go.RowKit
open Base Bld
set_option linter.unusedVariables false
theorem lt_of_heap {w : World} {k : Nat} {o : Obj} (h : w.heap[k]? = some o) : k < w.heap.size := (Array.getElem?_eq_some_iff.1 h).1
theorem below_iter (w : World) (s : ByteArray) (pos : Nat) : Below w.heap.size w (w.iter s pos) := below_one _
def ckN (s : ByteArray) : Nat := (chk 0 (ps s 0)).1
def ckE (s : ByteArray) : Int := if (chk 0 (ps s 0)).2 = true then 40 else 0
theorem ck_of {s : ByteArray} {n : Nat} {b : Bool} (h : chk 0 (ps s 0) = (n, b)) : n = ckN s ∧ (if b = true then 40 else 0) = ckE s := by
  unfold ckN ckE; rw [h]; exact ⟨rfl, rfl⟩
theorem ret_ni {n n' : Nat} {e e' : Int} (h : n = n') (h' : e = e') : Ending.returned (.tuple #[.int .i64 (n : Int), .int .i64 e]) = .returned (.tuple #[.int .i64 (n' : Int), .int .i64 e']) := by rw [h, h']
set_option maxHeartbeats 1000000 in
theorem check_any (s : ByteArray) (hs : s.size ≤ 1000000) (w : World) :
    Calls Tryz.prog 87 #[.string s] w fun e w' => e = .returned (.tuple #[.int .i64 (ckN s : Nat), .int .i64 (ckE s)]) ∧ Below w.heap.size w w' := by
  go_enter Tryz.func87, Tryz.ntmps87
  go_wp2
  go_loopw [4] (fun n wr => ∃ pos k : Nat, wr = w.iter s pos ∧ n = .int .i64 (k : Int) ∧ chk k (ps s pos) = chk 0 (ps s 0) ∧ k ≤ pos ∧ pos ≤ s.size) (fun _ wr => s.size - wr.iterPos w.heap.size)
  case atStart => exact ⟨0, 0, rfl, rfl, rfl, Nat.le_refl _, Nat.zero_le _⟩
  case round =>
    obtain ⟨pos, k, rfl, rfl, hc, hk, hp0⟩ := hrel
    by_cases hp : pos < s.size
    · have hnx : ∀ ty, (Instr.next (.pointer (some ⟨w.heap.size, 0, none⟩)) true ty).run Tryz.prog (w.iter s pos) = _ := fun ty => run_next_any w s pos ty hp
      have hwd := ps_width s pos hp
      rw [ps_step s pos hp] at hc
      simp only [chk] at hc
      by_cases hb : cls ((Utf8.decode s pos).1 : Int) = 0
      · rw [if_pos hb] at hc
        have HC := Lib.hid (ck_of hc.symm)
        clear hc
        go_wp2_with (first | (go_at_call 89; (with_reducible refine (class_any _ _).mono ?_); rintro e w' ⟨rfl, rfl⟩) | fail)
        go_ret2
        exact ⟨ret_ni HC.out.1 HC.out.2, below_iter w s _⟩
      · rw [if_neg hb] at hc
        have HC := Lib.hid hc
        clear hc
        go_wp2_with (first | (go_at_call 89; (with_reducible refine (class_any _ _).mono ?_); rintro e w' ⟨rfl, rfl⟩) | fail)
        refine ⟨⟨_, k + 1, rfl, by go_num, HC.out, by omega, by omega⟩, ?_⟩
        simp; omega
    · have hnx : ∀ ty, (Instr.next (.pointer (some ⟨w.heap.size, 0, none⟩)) true ty).run Tryz.prog (w.iter s pos) = _ := fun ty => run_next_end w s pos ty hp
      rw [ps_end s pos hp] at hc
      simp only [chk] at hc
      have HC := Lib.hid (ck_of hc.symm)
      clear hc
      go_wp2
      go_ret2
      exact ⟨ret_ni HC.out.1 HC.out.2, below_iter w s _⟩
set_option maxHeartbeats 1000000 in
theorem rcheck_any (s : ByteArray) (hs : s.size ≤ 1000000) (w : World) :
    Calls Tryz.prog 48 #[.string s] w fun e w' => e = .returned (.tuple #[.int .i64 (ckN s : Nat), .int .i64 (ckE s)]) ∧ Below w.heap.size w w' := by
  go_enter Tryz.func48, Tryz.ntmps48
  go_wp2
  go_loopw [4] (fun n wr => ∃ pos k : Nat, wr = w.iter s pos ∧ n = .int .i64 (k : Int) ∧ chk k (ps s pos) = chk 0 (ps s 0) ∧ k ≤ pos ∧ pos ≤ s.size) (fun _ wr => s.size - wr.iterPos w.heap.size)
  case atStart => exact ⟨0, 0, rfl, rfl, rfl, Nat.le_refl _, Nat.zero_le _⟩
  case round =>
    obtain ⟨pos, k, rfl, rfl, hc, hk, hp0⟩ := hrel
    by_cases hp : pos < s.size
    · have hnx : ∀ ty, (Instr.next (.pointer (some ⟨w.heap.size, 0, none⟩)) true ty).run Tryz.prog (w.iter s pos) = _ := fun ty => run_next_any w s pos ty hp
      have hwd := ps_width s pos hp
      rw [ps_step s pos hp] at hc
      simp only [chk] at hc
      by_cases hb : cls ((Utf8.decode s pos).1 : Int) = 0
      · rw [if_pos hb] at hc
        have HC := Lib.hid (ck_of hc.symm)
        clear hc
        go_wp2_with (first | (go_at_call 77; (with_reducible refine (rclass_any _ _).mono ?_); rintro e w' ⟨rfl, rfl⟩) | fail)
        go_ret2
        exact ⟨ret_ni HC.out.1 HC.out.2, below_iter w s _⟩
      · rw [if_neg hb] at hc
        have HC := Lib.hid hc
        clear hc
        go_wp2_with (first | (go_at_call 77; (with_reducible refine (rclass_any _ _).mono ?_); rintro e w' ⟨rfl, rfl⟩) | fail)
        refine ⟨⟨_, k + 1, rfl, by go_num, HC.out, by omega, by omega⟩, ?_⟩
        simp; omega
    · have hnx : ∀ ty, (Instr.next (.pointer (some ⟨w.heap.size, 0, none⟩)) true ty).run Tryz.prog (w.iter s pos) = _ := fun ty => run_next_end w s pos ty hp
      rw [ps_end s pos hp] at hc
      simp only [chk] at hc
      have HC := Lib.hid (ck_of hc.symm)
      clear hc
      go_wp2
      go_ret2
      exact ⟨ret_ni HC.out.1 HC.out.2, below_iter w s _⟩
def cn (s : ByteArray) : Nat := (ps s 0).length
theorem cn_le (s : ByteArray) : cn s ≤ s.size := by
  unfold cn; rw [ps_zero, Lib.size_eq]; exact pc_length _
set_option maxHeartbeats 1000000 in
theorem count_any (s : ByteArray) (hs : s.size ≤ 1000000) (w : World) :
    Calls Tryz.prog 16 #[.string s] w fun e w' => e = .returned (.int .i64 (cn s : Nat)) ∧ Below w.heap.size w w' := by
  go_enter Tryz.func16, Tryz.ntmps16
  go_wp2
  go_loopw [3] (fun n wr => ∃ pos k : Nat, wr = w.iter s pos ∧ n = .int .i64 (k : Int) ∧ k + (ps s pos).length = cn s ∧ k ≤ pos ∧ pos ≤ s.size) (fun _ wr => s.size - wr.iterPos w.heap.size)
  case atStart => exact ⟨0, 0, rfl, rfl, Nat.zero_add _, Nat.le_refl _, Nat.zero_le _⟩
  case round =>
    obtain ⟨pos, k, rfl, rfl, hc, hk, hp0⟩ := hrel
    by_cases hp : pos < s.size
    · have hnx : ∀ ty, (Instr.next (.pointer (some ⟨w.heap.size, 0, none⟩)) true ty).run Tryz.prog (w.iter s pos) = _ := fun ty => run_next_any w s pos ty hp
      have hwd := ps_width s pos hp
      rw [ps_step s pos hp, List.length_cons] at hc
      have HC := Lib.hid hc
      clear hc
      go_wp2
      refine ⟨⟨_, k + 1, rfl, by go_num, by have := HC.out; omega, by omega, by omega⟩, ?_⟩
      simp; omega
    · have hnx : ∀ ty, (Instr.next (.pointer (some ⟨w.heap.size, 0, none⟩)) true ty).run Tryz.prog (w.iter s pos) = _ := fun ty => run_next_end w s pos ty hp
      rw [ps_end s pos hp] at hc
      have HC : Hid ((k : Int) = (cn s : Nat)) := Lib.hid (by simp at hc; omega)
      clear hc
      go_wp2
      go_ret
      exact ⟨ret_int HC.out, below_iter w s _⟩
theorem strClone_any (s : ByteArray) (hs : s.size ≤ 1000000) (w : World) :
    Calls Tryz.prog 93 #[.string s] w fun e w' => e = .returned (.string s) ∧ Below w.heap.size w w' := by
  go_enter Tryz.func93, Tryz.ntmps93
  go_wp2_with (first | (go_at_call 132; (with_reducible refine (clone_at _ _ (by omega)).mono ?_); rintro e w' ⟨rfl, p1⟩) | fail)
  go_ret
  exact ⟨rfl, p1⟩
theorem grown_iterAt (w : World) (k : Nat) (s : ByteArray) (pos : Nat) : w.grownBy (w.iterAt k s pos) (some k) :=
  ⟨rfl, rfl, rfl, by rw [Lib.iterAt_size]; exact Nat.le_refl _, fun i hi hn => Lib.iterAt_other w k i s pos (fun h => hn (by rw [h]))⟩
end Go.Proofs.YtdkngidangfkiaaGreatDoor.Runes
namespace Go.Proofs.YtdkngidangfkiaaGreatDoor.Runes
open Go.RowKit
open Base Bld
set_option linter.unusedVariables false
def lowS (s : ByteArray) : ByteArray := ⟨(s.data.toList.map lowB).toArray⟩
def lowTo (l : List UInt8) (pos : Nat) : List UInt8 := (l.take pos).map lowB ++ l.drop pos
theorem lowTo_zero (l : List UInt8) : lowTo l 0 = l := by simp [lowTo]
theorem lowTo_all (l : List UInt8) (pos : Nat) (h : l.length ≤ pos) : lowTo l pos = l.map lowB := by simp [lowTo, List.take_of_length_le h, List.drop_eq_nil_of_le h]
theorem lowTo_length (l : List UInt8) (pos : Nat) : (lowTo l pos).length = l.length := by simp [lowTo]; omega
theorem lowTo_at (l : List UInt8) (pos : Nat) (h : pos < l.length) (h' : pos < (lowTo l pos).length) : (lowTo l pos)[pos] = l[pos] := by
  have e : (lowTo l pos)[pos]? = l[pos]? := by
    unfold lowTo
    rw [List.getElem?_append_right (by simp; omega), List.length_map, List.length_take, Nat.min_eq_left (by omega), Nat.sub_self, List.getElem?_drop, Nat.add_zero]
  rw [List.getElem?_eq_getElem h, List.getElem?_eq_getElem h', Option.some.injEq] at e
  exact e
theorem set_mid {α : Type} (A t : List α) (x y : α) (p : Nat) (h : A.length = p) : (A ++ x :: t).set p y = A ++ y :: t := by subst h; simp
theorem lowTo_next (l : List UInt8) (pos : Nat) (h : pos < l.length) : lowTo l (pos + 1) = (lowTo l pos).set pos (lowB l[pos]) := by
  have hl : ((l.take pos).map lowB).length = pos := by simp; omega
  unfold lowTo
  rw [List.take_succ_eq_append_getElem h, List.map_append, List.drop_eq_getElem_cons h, List.append_assoc, set_mid _ _ _ _ _ hl]
  rfl
theorem lowTo_one (s : ByteArray) (pos : Nat) (hp : pos < s.size) (hl : pos < s.data.toList.length) (h1 : 65 ≤ (Utf8.decode s pos).1) (h2 : (Utf8.decode s pos).1 ≤ 90) :
    (Utf8.decode s pos).2 = 1 ∧ s.data.toList[pos].toNat = (Utf8.decode s pos).1 ∧ (lowB s.data.toList[pos]).toNat = (Utf8.decode s pos).1 + 32 := by
  have hd := low_head _ (drop_ne s pos hp)
  rw [Lib.decodeL_drop] at hd
  rcases hd with ⟨_, _, h3, h4⟩ | ⟨h3, _⟩
  · have h5 : s.data.toList[pos].toNat = (Utf8.decode s pos).1 := by
      rw [← h4]; congr 1
      simp [List.getD, List.getElem?_drop, List.getElem?_eq_getElem hl]
    refine ⟨h3, h5, ?_⟩
    unfold lowB
    rw [if_pos ⟨by omega, by omega⟩, UInt8.toNat_add, h5]
    show ((Utf8.decode s pos).1 + 32) % 256 = _
    omega
  · exact absurd ⟨h1, h2⟩ h3
theorem lowTo_more (s : ByteArray) (pos : Nat) (hp : pos < s.size) (h : ¬ (65 ≤ (Utf8.decode s pos).1 ∧ (Utf8.decode s pos).1 ≤ 90)) : lowTo s.data.toList (pos + (Utf8.decode s pos).2) = lowTo s.data.toList pos := by
  have hd := low_head _ (drop_ne s pos hp)
  rw [Lib.decodeL_drop] at hd
  rcases hd with ⟨h1, h2, _⟩ | ⟨_, h4⟩
  · exact absurd ⟨h1, h2⟩ h
  · unfold lowTo
    rw [List.take_add, List.map_append, h4, ← List.drop_drop, List.append_assoc, List.take_append_drop]
theorem byteRow_other {w w' : World} {b : Nat} {l : List UInt8} (h : ByteRow w b l) (hh : w'.heap[b]? = w.heap[b]?) : ByteRow w' b l := fun i hi => by
  have := h i hi
  simp only [World.cell?, World.frozen?, hh] at this ⊢
  exact this
set_option maxRecDepth 100000 in
set_option maxHeartbeats 1000000 in
theorem lower_any (s : ByteArray) (hs : s.size ≤ 1000000) (w : World) :
    Calls Tryz.prog 90 #[.string s] w fun e w' => e = .returned (.string (lowS s)) ∧ Below w.heap.size w w' := by
  obtain ⟨W, C, hcv, hR, hB, hsz⟩ := conv_at (P := Tryz.prog) w 9 44 5 s Tryz.underlying9 Tryz.underlying44 Tryz.underlying5
  have HRW := Lib.hid hR
  have HBW := Lib.hid hB
  clear hR hB
  go_enter Tryz.func90, Tryz.ntmps90
  go_wp2
  go_loopw [] (fun wr => ∃ pos : Nat, wr.heap[W.heap.size]? = some (.stringIter s pos) ∧ ByteRow wr w.heap.size (lowTo s.data.toList pos) ∧ Below w.heap.size w wr ∧ pos ≤ s.size) (fun wr => s.size - wr.iterPos W.heap.size)
  case atStart => exact ⟨0, World.iter_heap W s 0, by rw [lowTo_zero]; exact HRW.out.below (below_iter W s 0), (below_iter W s 0).from HBW.out, Nat.zero_le _⟩
  case round =>
    obtain ⟨pos, hit, hr, hb, hp0⟩ := hrel
    by_cases hp : pos < s.size
    · have hnx : ∀ ty, (Instr.next (.pointer (some ⟨W.heap.size, 0, none⟩)) true ty).run Tryz.prog wr = _ := fun ty => Lib.run_next_any_at wr W.heap.size s pos ty hit hp
      have hwd := ps_width s pos hp
      have hm0 : wr.iterPos W.heap.size = pos := by simp [World.iterPos, hit]
      have hit2 := Lib.iterAt_heap wr W.heap.size s pos (pos + (Utf8.decode s pos).2) hit
      have hr2 := byteRow_other hr (Lib.iterAt_other wr W.heap.size w.heap.size s (pos + (Utf8.decode s pos).2) (by omega))
      have hb2 := Lib.below_iterAt hb (k := W.heap.size) (by omega) s (pos + (Utf8.decode s pos).2)
      have hm2 : (wr.iterAt W.heap.size s (pos + (Utf8.decode s pos).2)).iterPos W.heap.size = pos + (Utf8.decode s pos).2 := by simp [World.iterPos, hit2]
      by_cases hA : 65 ≤ (Utf8.decode s pos).1 ∧ (Utf8.decode s pos).1 ≤ 90
      · have hl : pos < s.data.toList.length := by rw [← Lib.size_eq]; exact hp
        have hl' : pos < (lowTo s.data.toList pos).length := by rw [lowTo_length]; exact hl
        obtain ⟨h1, h2, h3⟩ := lowTo_one s pos hp hl hA.1 hA.2
        obtain ⟨hc, hz⟩ := hr2 pos hl'
        rw [lowTo_at _ _ hl, h2] at hc
        have hst := hr2.set pos (lowB s.data.toList[pos])
        rw [h3, ← lowTo_next _ _ hl, show (((Utf8.decode s pos).1 + 32 : Nat) : Int) = ((Utf8.decode s pos).1 : Int) + 32 by omega, show pos + 1 = pos + (Utf8.decode s pos).2 by omega] at hst
        have HST := Lib.hid hst
        have HIT := Lib.hid hit2
        have HB2 := Lib.hid hb2
        have HM2 := Lib.hid hm2
        have H1 := Lib.hid h1
        clear hst hit2 hb2 hm2 h1 hr2 hr hb
        go_wp2_with (first | (go_at_call 130; (with_reducible refine (within_any _ _ _ _).mono ?_); rintro e w' ⟨rfl, rfl⟩) | fail)
        have hit3 : ((wr.iterAt W.heap.size s (pos + (Utf8.decode s pos).2)).setCell ⟨w.heap.size, pos, none⟩ (.int .u8 (((Utf8.decode s pos).1 : Int) + 32))).heap[W.heap.size]? = some (.stringIter s (pos + (Utf8.decode s pos).2)) := by
          rw [Below.heap_setCell _ _ _ _ (by simp; omega)]; exact HIT.out
        refine ⟨⟨_, hit3, HST.out, HB2.out.setCell (p := ⟨w.heap.size, pos, none⟩) (Nat.le_refl _) _, hwd.2.1⟩, ?_⟩
        rw [hm0]
        simp only [World.iterPos, hit3]
        omega
      · have HR2 := Lib.hid hr2
        have HIT := Lib.hid hit2
        have HB2 := Lib.hid hb2
        have HM2 := Lib.hid hm2
        have HM := Lib.hid (lowTo_more s pos hp hA)
        have hAf : decide ((65 : Int) ≤ ((Utf8.decode s pos).1 : Int) ∧ ((Utf8.decode s pos).1 : Int) ≤ 90) = false := by rw [decide_eq_false_iff_not]; omega
        clear hr2 hr hb hb2 hit2 hm2
        go_wp2_with (first | (go_at_call 130; (with_reducible refine (within_any _ _ _ _).mono ?_); rintro e w' ⟨rfl, rfl⟩) | fail)
        refine ⟨⟨_, HIT.out, by rw [HM.out]; exact HR2.out, HB2.out, hwd.2.1⟩, ?_⟩
        rw [hm0, HM2.out]; omega
    · have hnx : ∀ ty, (Instr.next (.pointer (some ⟨W.heap.size, 0, none⟩)) true ty).run Tryz.prog wr = _ := fun ty => Lib.run_next_end_at wr W.heap.size s pos ty hit hp
      have hcv2 := run_conv_row (P := Tryz.prog) hr 44 9 5 Tryz.underlying44 Tryz.underlying5 Tryz.underlying9 s.size C (by rw [lowTo_length, Lib.size_eq])
      have HA : Hid ((⟨(lowTo s.data.toList pos).toArray⟩ : ByteArray) = lowS s) := Lib.hid (by rw [lowTo_all _ _ (by rw [← Lib.size_eq]; omega)]; rfl)
      have HB := Lib.hid hb
      clear hr hb
      go_wp2
      go_ret
      exact ⟨ret_str HA.out, HB.out⟩
end Go.Proofs.YtdkngidangfkiaaGreatDoor.Runes
namespace Go.Proofs.YtdkngidangfkiaaGreatDoor.Runes
open Go.RowKit
open Base Bld
set_option linter.unusedVariables false
theorem own_conv {P : Program} {w : World} {B : Nat} {t : TypeId} {v : Value} {zs : List UInt8} (h : Own Base.u8 B t v zs w) (src dst e : TypeId) (hs : P.underlying src = some (.slice e)) (he : P.underlying e = some (.int .u8)) (hd : P.underlying dst = some .string) :
    (convert src dst v).run P w = .ok (.string ⟨zs.toArray⟩) w := by
  obtain ⟨ao, cap, rfl, hr, hn, _, _⟩ := h.value
  by_cases h0 : zs = []
  · subst h0
    cases ao with
    | none => exact run_convert_bytes_nil w src e hs he _ _ dst hd
    | some a =>
      rcases h.1.2 with ⟨h1, _⟩ | ⟨g, c, cur, h1, _⟩
      · cases h1
      · injection h1 with h1
        rw [h1]
        have := run_convert_bytes_arg (P := P) w src e hs he g 0 0 cap [] rfl (fun i hi => absurd hi (Nat.not_lt_zero i)) dst hd
        rw [List.length_nil]
        exact this
  · obtain ⟨g, rfl, hl, hb⟩ := h.byteRow h0
    exact run_conv_row hb src dst e hs he hd _ _ rfl
theorem info_u8 : (Tryz.prog.info? 5).map (fun i => (i.zero, i.size, i.bytes)) = some (some (.int .u8 0), 1, 1) := by kernel_rfl
theorem one_of {w : World} {n : Nat} {val : Value} (x : UInt8) (hn : n = w.heap.size) (hv : val = Base.u8 x) : Reads Base.u8 (w.alloc (.cells #[val] 5)) (some ⟨n, 0, none⟩) [x] := by
  subst hv; exact reads_one hn x _
def lowK (s : ByteArray) (k : Nat) : List UInt8 := (s.data.toList.take k).map lowB
set_option maxRecDepth 100000 in
set_option maxHeartbeats 1000000 in
theorem rlower_any (s : ByteArray) (hs : s.size ≤ 1000000) (w : World) :
    Calls Tryz.prog 152 #[.string s] w fun e w' => e = .returned (.string (lowS s)) ∧ Below w.heap.size w w' := by
  obtain ⟨i0, hi, hz0, hz1, hz2⟩ := info_parts info_u8
  have HI := Lib.hid hi
  have HZ0 := Lib.hid hz0
  have HZ1 := Lib.hid hz1
  have HZ2 := Lib.hid hz2
  clear hi hz0 hz1 hz2
  go_enter Tryz.func152, Tryz.ntmps152
  go_wp2
  go_loopw [3, 4] (fun v i wr => ∃ k : Nat, i = .int .i64 (k : Int) ∧ k ≤ s.size ∧ Own Base.u8 w.heap.size 5 v (lowK s k) wr ∧ Below w.heap.size w wr) (fun _ i _ => s.size - (intOf i).toNat)
  case atStart => exact ⟨0, rfl, Nat.zero_le _, Own.nil (Nat.le_refl _), Below.refl _ _⟩
  case round =>
    obtain ⟨k, rfl, hk, ho, hb⟩ := hrel
    have HO := Lib.hid ho
    have HB := Lib.hid hb
    by_cases hp : k < s.size
    · have hl : k < s.data.toList.length := by rw [← Lib.size_eq]; exact hp
      have hx : s.data.toList[k] = s[k] := Array.getElem_toList hp
      have HN : Hid (lowK s k ++ [lowB s[k]] = lowK s (k + 1)) := Lib.hid (by unfold lowK; rw [List.take_succ_eq_append_getElem hl, List.map_append, hx]; rfl)
      have HL : Hid ((lowK s k).length = k) := Lib.hid (by unfold lowK; simp; omega)
      obtain ⟨ao, cap, rfl, _, _, _, _⟩ := ho.value
      have hx255 := s[k].toNat_lt
      clear ho hb hx
      by_cases hA : 64 < s[k].toNat ∧ s[k].toNat < 91
      · have HV : Hid (Value.int .u8 ((s[k].toNat : Int) + 32) = Base.u8 (lowB s[k])) := Lib.hid (by
          unfold Base.u8 lowB; rw [if_pos hA, UInt8.toNat_add]
          congr 1
          show _ = (((s[k].toNat + 32) % 256 : Nat) : Int)
          omega)
        go_wp2_with (first
          | (at_builtin; refine wpList_append_src rfl (.tmp 21) (.tmp 26) 44 rfl i0 _ 1 Tryz.underlying44 HI.out HZ0.out HZ1.out HZ2.out rfl (fun _ => rfl) rfl (HO.out.alloc _) _ 1 1 [lowB s[k]] rfl rfl (one_of _ rfl HV.out) (by intro h; cases h) (by have := HL.out; omega) (by have := HL.out; unfold maxLen; omega) ?_; intro v4 w4 o4 b4)
          | fail)
        refine ⟨⟨k + 1, by go_num, by omega, by rw [← HN.out]; exact o4, (HB.out.alloc HO.out.2 _).trans b4⟩, ?_⟩
        simp [intOf]; omega
      · have HV : Hid (Value.int .u8 (s[k].toNat : Int) = Base.u8 (lowB s[k])) := Lib.hid (by unfold Base.u8 lowB; rw [if_neg hA])
        go_wp2_with (first
          | (at_builtin; refine wpList_append_src rfl (.tmp 28) (.tmp 32) 44 rfl i0 _ 1 Tryz.underlying44 HI.out HZ0.out HZ1.out HZ2.out rfl (fun _ => rfl) rfl (HO.out.alloc _) _ 1 1 [lowB s[k]] rfl rfl (one_of _ rfl HV.out) (by intro h; cases h) (by have := HL.out; omega) (by have := HL.out; unfold maxLen; omega) ?_; intro v4 w4 o4 b4)
          | fail)
        all_goals
          refine ⟨⟨k + 1, by go_num, by omega, by rw [← HN.out]; exact o4, (HB.out.alloc HO.out.2 _).trans b4⟩, ?_⟩
          simp [intOf]; omega
    · obtain rfl : k = s.size := by omega
      have hcv := own_conv (P := Tryz.prog) ho 44 9 5 Tryz.underlying44 Tryz.underlying5 Tryz.underlying9
      have HA : Hid ((⟨(lowK s s.size).toArray⟩ : ByteArray) = lowS s) := Lib.hid (by unfold lowK; rw [List.take_of_length_le (by rw [← Lib.size_eq]; exact Nat.le_refl _)]; rfl)
      clear ho hb
      go_wp2
      go_ret
      exact ⟨ret_str HA.out, HB.out⟩
def qtS (s : ByteArray) : ByteArray := if ckE s = 0 then ⟨(qt s.data.toList).toArray⟩ else ⟨#[]⟩
def qtK (s : ByteArray) (k : Nat) : List UInt8 := 34 :: mk (s.data.toList.take k)
theorem qtK_le (s : ByteArray) (k : Nat) : (qtK s k).length ≤ 2 * k + 1 := by
  unfold qtK; have := mk_length (s.data.toList.take k); simp at this ⊢; omega
theorem qtK_next (s : ByteArray) (k : Nat) (h : k < s.size) : qtK s (k + 1) = if mkB s[k] = true then (qtK s k ++ [92]) ++ [s[k]] else qtK s k ++ [s[k]] := by
  have hl : k < s.data.toList.length := by rw [← Lib.size_eq]; exact h
  have hx : s.data.toList[k] = s[k] := Array.getElem_toList h
  unfold qtK
  rw [List.take_succ_eq_append_getElem hl, mk_append, mk_cons, hx, mk_nil, List.append_nil]
  split <;> simp
theorem qtK_all (s : ByteArray) : qtK s s.size ++ [34] = qt s.data.toList := by
  unfold qtK qt; rw [List.take_of_length_le (by rw [← Lib.size_eq]; exact Nat.le_refl _)]; rfl
theorem ckE_or (s : ByteArray) : ckE s = 0 ∨ ckE s = 40 := by unfold ckE; split; exact .inr rfl; exact .inl rfl
theorem ret_si {a a' : ByteArray} {e e' : Int} (h : a = a') (h1 : e = e') : Ending.returned (.tuple #[.string a, .int .i64 e]) = .returned (.tuple #[.string a', .int .i64 e']) := by rw [h, h1]
theorem own_eq {B : Nat} {e : TypeId} {v : Value} {zs zs' : List UInt8} {w : World} (h : Own Base.u8 B e v zs w) (hz : zs = zs') : Own Base.u8 B e v zs' w := by rw [← hz]; exact h
set_option maxRecDepth 100000 in
set_option maxHeartbeats 1000000 in
theorem rquote_any (s : ByteArray) (hs : s.size ≤ 1000000) (w : World) :
    Calls Tryz.prog 25 #[.string s] w fun e w' => e = .returned (.tuple #[.string (qtS s), .int .i64 (ckE s)]) ∧ Below w.heap.size w w' := by
  have c1 := fun w => rcheck_any s hs w
  rcases ckE_or s with hE | hE
  · have HA : Hid ((⟨(qt s.data.toList).toArray⟩ : ByteArray) = qtS s) := Lib.hid (by unfold qtS; rw [if_pos hE])
    simp only [hE] at c1 ⊢
    have C1 := Lib.hid c1
    obtain ⟨i0, hi, hz0, hz1, hz2⟩ := info_parts info_u8
    have HI := Lib.hid hi
    have HZ0 := Lib.hid hz0
    have HZ1 := Lib.hid hz1
    have HZ2 := Lib.hid hz2
    clear hi hz0 hz1 hz2 c1
    go_enter Tryz.func25, Tryz.ntmps25
    go_wp2_with (first | (go_at_call 48; (with_reducible refine (C1.out _).mono ?_); rintro e w1 ⟨rfl, p1⟩) | fail)
    have P1 := Lib.hid p1
    go_loopw [6, 7] (fun v i wr => ∃ k : Nat, i = .int .i64 (k : Int) ∧ k ≤ s.size ∧ Own Base.u8 w.heap.size 5 v (qtK s k) wr ∧ Below w.heap.size w wr) (fun _ i _ => s.size - (intOf i).toNat)
    case atStart => exact ⟨0, rfl, Nat.zero_le _, Own.one P1.out.size 34 rfl, (below_one _).from p1⟩
    case round =>
      obtain ⟨k, rfl, hk, ho, hb⟩ := hrel
      have HO := Lib.hid ho
      have HB := Lib.hid hb
      have HL := Lib.hid (qtK_le s k)
      obtain ⟨ao, cap, rfl, _, _, _, _⟩ := ho.value
      clear ho hb p1
      by_cases hp : k < s.size
      · have hnx := qtK_next s k hp
        obtain ⟨z4, hz4⟩ : ∃ z, qtK s k ++ [92] = z := ⟨_, rfl⟩
        have HL4 : Hid (z4.length ≤ 2 * k + 2) := Lib.hid (by have := HL.out; rw [← hz4, List.length_append, List.length_singleton]; omega)
        rw [hz4] at hnx
        have HZ4 := Lib.hid hz4
        clear hz4
        have H92 : Hid (Value.int .u8 92 = Base.u8 92) := Lib.hid rfl
        by_cases hA : s[k].toNat = 34
        · have hb1 : ((s[k].toNat : Int) == 34) = true := by rw [beq_iff_eq]; omega
          have HX : Hid (Value.int .u8 34 = Base.u8 s[k]) := Lib.hid (by unfold Base.u8; rw [hA]; rfl)
          rw [if_pos (by rw [mkB_nat]; simp [mkR]; omega)] at hnx
          have HN := Lib.hid hnx
          clear hnx
          go_wp2_with (first
            | (at_builtin; refine wpList_append_src rfl (.tmp 33) (.tmp 34) 44 rfl i0 _ 1 Tryz.underlying44 HI.out HZ0.out HZ1.out HZ2.out rfl (fun _ => rfl) rfl (HO.out.alloc _) _ 1 1 [92] rfl rfl (one_of _ rfl H92.out) (by intro h; cases h) (by have := HL.out; omega) (by have := HL.out; unfold maxLen; omega) ?_; intro v4 w4 o4 b4; replace o4 := own_eq o4 HZ4.out)
            | (at_builtin; refine wpList_append_src rfl (.tmp 36) (.tmp 40) 44 rfl i0 _ 1 Tryz.underlying44 HI.out HZ0.out HZ1.out HZ2.out rfl (fun _ => rfl) rfl (o4.alloc _) _ 1 1 [s[k]] rfl rfl (one_of _ rfl HX.out) (by intro h; cases h) (by have := HL4.out; omega) (by have := HL4.out; unfold maxLen; omega) ?_; intro v5 w5 o5 b5)
            | fail)
          refine ⟨⟨k + 1, by go_num, by omega, own_eq o5 HN.out.symm, ((HB.out.alloc HO.out.2 _).trans b4).trans (((Below.refl _ w4).alloc o4.2 _).trans b5)⟩, ?_⟩
          simp [intOf]; omega
        · by_cases hA2 : s[k].toNat = 92
          · have hb1 : ((s[k].toNat : Int) == 34) = false := by rw [beq_eq_false_iff_ne]; omega
            have hb2 : ((s[k].toNat : Int) == 92) = true := by rw [beq_iff_eq]; omega
            have HX : Hid (Value.int .u8 92 = Base.u8 s[k]) := Lib.hid (by unfold Base.u8; rw [hA2]; rfl)
            rw [if_pos (by rw [mkB_nat]; simp [mkR]; omega)] at hnx
            have HN := Lib.hid hnx
            clear hnx
            go_wp2_with (first
              | (at_builtin; refine wpList_append_src rfl (.tmp 33) (.tmp 34) 44 rfl i0 _ 1 Tryz.underlying44 HI.out HZ0.out HZ1.out HZ2.out rfl (fun _ => rfl) rfl (HO.out.alloc _) _ 1 1 [92] rfl rfl (one_of _ rfl H92.out) (by intro h; cases h) (by have := HL.out; omega) (by have := HL.out; unfold maxLen; omega) ?_; intro v4 w4 o4 b4; replace o4 := own_eq o4 HZ4.out)
              | (at_builtin; refine wpList_append_src rfl (.tmp 36) (.tmp 40) 44 rfl i0 _ 1 Tryz.underlying44 HI.out HZ0.out HZ1.out HZ2.out rfl (fun _ => rfl) rfl (o4.alloc _) _ 1 1 [s[k]] rfl rfl (one_of _ rfl HX.out) (by intro h; cases h) (by have := HL4.out; omega) (by have := HL4.out; unfold maxLen; omega) ?_; intro v5 w5 o5 b5)
              | fail)
            refine ⟨⟨k + 1, by go_num, by omega, own_eq o5 HN.out.symm, ((HB.out.alloc HO.out.2 _).trans b4).trans (((Below.refl _ w4).alloc o4.2 _).trans b5)⟩, ?_⟩
            simp [intOf]; omega
          · have hb1 : ((s[k].toNat : Int) == 34) = false := by rw [beq_eq_false_iff_ne]; omega
            have hb2 : ((s[k].toNat : Int) == 92) = false := by rw [beq_eq_false_iff_ne]; omega
            have HX : Hid (Value.int .u8 (s[k].toNat : Int) = Base.u8 s[k]) := Lib.hid rfl
            rw [if_neg (by rw [mkB_nat]; simp [mkR]; omega)] at hnx
            have HN := Lib.hid hnx
            clear hnx
            go_wp2_with (first
              | (at_builtin; refine wpList_append_src rfl (.tmp 36) (.tmp 40) 44 rfl i0 _ 1 Tryz.underlying44 HI.out HZ0.out HZ1.out HZ2.out rfl (fun _ => rfl) rfl (HO.out.alloc _) _ 1 1 [s[k]] rfl rfl (one_of _ rfl HX.out) (by intro h; cases h) (by have := HL.out; omega) (by have := HL.out; unfold maxLen; omega) ?_; intro v4 w4 o4 b4)
              | fail)
            refine ⟨⟨k + 1, by go_num, by omega, own_eq o4 HN.out.symm, (HB.out.alloc HO.out.2 _).trans b4⟩, ?_⟩
            simp [intOf]; omega
      · obtain rfl : k = s.size := by omega
        go_wp2_with (first
          | (at_builtin; refine wpList_append_src rfl (.tmp 42) (.tmp 43) 44 rfl i0 _ 1 Tryz.underlying44 HI.out HZ0.out HZ1.out HZ2.out rfl (fun _ => rfl) rfl (HO.out.alloc _) _ 1 1 [34] rfl rfl (one_of _ rfl rfl) (by intro h; cases h) (by have := HL.out; omega) (by have := HL.out; unfold maxLen; omega) ?_; intro v4 w4 o4 b4; rw [qtK_all] at o4; have hcv := own_conv (P := Tryz.prog) o4 44 9 5 Tryz.underlying44 Tryz.underlying5 Tryz.underlying9; clear o4)
          | fail)
        go_ret2
        exact ⟨ret_si HA.out rfl, (HB.out.alloc HO.out.2 _).trans b4⟩
  · have HA : Hid ((⟨#[]⟩ : ByteArray) = qtS s) := Lib.hid (by unfold qtS; rw [if_neg (by omega)])
    simp only [hE] at c1 ⊢
    have C1 := Lib.hid c1
    clear c1
    go_enter Tryz.func25, Tryz.ntmps25
    go_wp2_with (first | (go_at_call 48; (with_reducible refine (C1.out _).mono ?_); rintro e w1 ⟨rfl, p1⟩) | fail)
    go_ret2
    exact ⟨ret_si HA.out rfl, p1⟩
end Go.Proofs.YtdkngidangfkiaaGreatDoor.Runes
