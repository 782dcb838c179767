/-
  A slice that the call itself makes by append, of things that take one cell each: what it owns, and append from a slice that may be nil, or of a text's bytes.
-/
import Derived.Test.YtoiahlbaiakngaaByteRows
import Derived.OwnWalk
import Derived.Laws.AppendOwnNone
import Derived.Lib.AppendStr
import Derived.Lib.UnsafeStr
namespace Go.Proofs.Ytoiahlbaiakngaa.Base
open Go.RowKit
set_option linter.unusedVariables false

/-! Worlds of which but one block is as it was. -/

theorem grown_refl (w : World) (r : Option Nat) : w.grownBy w r := ⟨rfl, rfl, rfl, Nat.le_refl _, fun _ _ _ => rfl⟩
theorem grown_trans {a b c : World} {r : Option Nat} (h : a.grownBy b r) (k : b.grownBy c r) : a.grownBy c r :=
  ⟨k.os.trans h.os, k.tape.trans h.tape, k.output.trans h.output, Nat.le_trans h.size k.size, fun i hi hn => (k.block i (Nat.lt_of_lt_of_le hi h.size) hn).trans (h.block i hi hn)⟩
theorem grown_of_below {a b : World} (h : Below a.heap.size a b) (r : Option Nat) : a.grownBy b r := ⟨h.os, h.tape, h.output, h.size, fun i hi _ => h.block i hi⟩
theorem grown_set (w : World) (p : Addr) (v : Value) : w.grownBy (w.setCell p v) (some p.block) := by
  refine ⟨rfl, rfl, rfl, by simp [World.setCell], fun k hk hn => ?_⟩
  have : p.block ≠ k := fun h => hn (by rw [h])
  simp [World.setCell, Array.getElem?_modify, this]
theorem grown_drewN {a b : World} {r : Option Nat} (h : a.grownBy b r) (n : Nat) : a.grownBy (b.drewN n) r := ⟨h.os, h.tape, h.output, h.size, h.block⟩
theorem below_grown {B : Nat} {a b : World} {r : Option Nat} (h : a.grownBy b r) (hB : B ≤ a.heap.size) (hr : ∀ k, r = some k → B ≤ k) : Below B a b := (Below.refl B a).grown h hB hr

/-- A slice v of the call's own, in a block from B on, holds these things, each in one cell. -/
def Own {α : Type} (f : α → Value) (B : Nat) (e : TypeId) (v : Value) (zs : List α) (w : World) : Prop :=
  w.ownsRow B e 1 v zs.length (zs.map f) ∧ B ≤ w.heap.size

section
variable {α : Type} {f : α → Value} {w : World} {B : Nat} {e : TypeId} {v : Value} {zs : List α}

theorem Own.nil (hB : B ≤ w.heap.size) : Own f B e (.slice none 0 0) [] w := ⟨World.ownsRow_nil w B e 1, hB⟩

theorem Own.kept {w' : World} {r : Option Nat} (h : Own f B e v zs w) (hg : w.grownBy w' r) (hr : ∀ k, r = some k → k < B) : Own f B e v zs w' := by
  refine ⟨h.1.kept hg ?_, Nat.le_trans h.2 hg.size⟩
  cases hv : v.ownBlock with
  | none => exact .inl rfl
  | some k =>
    refine .inr fun he => ?_
    have h1 := (h.1.lt k hv).1
    have h2 := hr k he.symm
    omega

theorem Own.alloc (h : Own f B e v zs w) (o : Obj) : Own f B e v zs (w.alloc o) := ⟨h.1.alloc o, by simp; have := h.2; omega⟩

theorem Own.drew (h : Own f B e v zs w) : Own f B e v zs w.drew := h

theorem Own.below {w' : World} (h : Own f B e v zs w) (hb : Below w.heap.size w w') : Own f B e v zs w' := h.kept (grown_of_below hb none) (fun _ h => by cases h)

theorem Own.weaken {α : Type} {f : α → Value} {B C : Nat} {e : TypeId} {v : Value} {zs : List α} {w : World} (h : Own f B e v zs w) (hC : C ≤ B) : Own f C e v zs w := by
  refine ⟨⟨h.1.1, ?_⟩, Nat.le_trans hC h.2⟩
  rcases h.1.2 with hn | ⟨g, cap, cur, hv, hg, rest⟩
  · exact .inl hn
  · exact .inr ⟨g, cap, cur, hv, Nat.le_trans hC hg, rest⟩

/-- What such a slice is as a value, and that it reads as these things. -/
theorem Own.value (h : Own f B e v zs w) : ∃ ao cap, v = .slice ao zs.length cap ∧ Reads f w ao zs ∧ (ao = none → cap = 0) ∧ zs.length ≤ cap ∧ cap ≤ maxLen := by
  rcases h.1.2 with ⟨rfl, hn⟩ | ⟨g, cap, cur, rfl, hb, hg, hnc, hcm, hcs, ht⟩
  · have : zs = [] := List.eq_nil_of_length_eq_zero hn
    subst this
    exact ⟨none, 0, rfl, .inl rfl, fun _ => rfl, Nat.le_refl _, Nat.zero_le _⟩
  · refine ⟨_, cap, rfl, .inr ⟨g, 0, rfl, fun j hj => ?_⟩, (fun h => by cases h), hnc, hcm⟩
    have := h.1.cells (g := g) rfl j (f zs[j]) (by simp [hj])
    rw [Go.WideShapes.add_plain] at this
    exact this

/-- One thing alone in a new block: a slice of the call's own. -/
theorem Own.one {n : Nat} (hB : B ≤ w.heap.size) (x : α) (hn : n = w.heap.size) : Own f B e (.slice (some ⟨n, 0, none⟩) 1 1) [x] (w.alloc (.cells #[f x] e)) := by
  subst hn
  refine ⟨⟨by simp, .inr ⟨w.heap.size, 1, #[f x], rfl, hB, heap_alloc_new w _, Nat.le_refl _, by unfold maxLen; omega, by simp, by simp⟩⟩, by simp; omega⟩

/-- 'append(own, src...)'. -/
theorem wpList_append_src {P : Program} {ops : Array Oper} {rest : List Oper} {o : Oper} {a : Act} {Q : Exit → Act → World → Prop} (hgd : o.guard = none) (s x : Operand) (t : TypeId)
    (ho : o.op = .call { callee := .builtin .append, args := #[s, x], argTypes := #[t, t] })
    (i : TypeInfo) (z : Value) (by8 : Nat) (ht : P.underlying t = some (.slice e)) (hi : P.info? e = some i) (hz : i.zero = some z) (hsize : i.size = 1) (hby : i.bytes = by8) (hzs : z.cells.size = 1)
    (hone : ∀ y, (f y).oneCell' = true) (hs : a.eval s = v) (hown : Own f B e v zs w)
    (ao : Option Addr) (m c : Nat) (news : List α) (hx : a.eval x = .slice ao m c) (hm : news.length = m) (hr : Reads f w ao news) (hnil : ao = none → c = 0)
    (hsmall : (zs.length + m) * by8 ≤ 140737488355328) (hmax : zs.length + m ≤ maxLen)
    (h : ∀ v' w', Own f B e v' (zs ++ news) w' → Below B w w' → wpList P ops Q rest (a.put o.dst v') w') : wpList P ops Q (o :: rest) a w := by
  subst hm
  have hlen : (zs ++ news).length = zs.length + news.length := List.length_append
  cases ao with
  | none =>
    obtain rfl : c = 0 := hnil rfl
    have hn : news = [] := by
      rcases hr with h | ⟨b, off, h, _⟩
      · exact h
      · cases h
    subst hn
    refine wpList_append_own_none hgd s x t ho B e i 1 ht hi v zs.length (zs.map f) hs hown.1 hx ?_
    exact h v w (by simpa using hown) (Below.refl _ _)
  | some ad =>
    refine wpList_append_own _ hgd s x t ho B e i z 1 by8 ht hi hz hsize hby hzs (by decide) v zs.length (zs.map f) hs hown.1 ad news.length c (news.map f) hx (by simp) ?_ ?_ hmax hsmall hown.2 ?_
    · intro j u hu
      rcases hr with h | ⟨b, off, h, hc⟩
      · subst h; simp at hu
      · obtain rfl : ad = ⟨b, off, none⟩ := by simpa using h
        rw [List.getElem?_map] at hu
        obtain ⟨n, hn, rfl⟩ := Option.map_eq_some_iff.1 hu
        obtain ⟨hj, rfl⟩ := List.getElem?_eq_some_iff.1 hn
        rw [Go.WideShapes.add_plain]
        exact hc j hj
    · intro u hu
      obtain ⟨y, _, rfl⟩ := List.mem_map.1 hu
      exact hone y
    · intro v' w' ho' hg' _
      refine h v' w' ⟨?_, Nat.le_trans hown.2 hg'.size⟩ (below_grown hg' hown.2 fun k hk => (hown.1.lt k hk).1)
      rw [hlen, List.map_append]
      exact ho'
end

/-- A byte in its cell. -/
def u8 (b : UInt8) : Value := .int .u8 (b.toNat : Int)

/-- 'append(own, s...)' of a text's bytes. -/
theorem wpList_append_txt {P : Program} {w : World} {B : Nat} {e : TypeId} {v : Value} {zs : List UInt8} {ops : Array Oper} {rest : List Oper} {o : Oper} {a : Act} {Q : Exit → Act → World → Prop} (hgd : o.guard = none) (sl x : Operand) (t u : TypeId)
    (ho : o.op = .call { callee := .builtin .append, args := #[sl, x], argTypes := #[t, u] })
    (i : TypeInfo) (ht : P.underlying t = some (.slice e)) (hu : P.underlying u = some .string) (hi : P.info? e = some i) (hz : i.zero = some (.int .u8 0)) (hsize : i.size = 1) (hby : i.bytes = 1)
    (hs : a.eval sl = v) (hown : Own u8 B e v zs w) (s : ByteArray) (hx : a.eval x = .string s) (hsmall : zs.length + s.size ≤ 140737488355328)
    (h : ∀ v' w', Own u8 B e v' (zs ++ s.data.toList) w' → Below B w w' → wpList P ops Q rest (a.put o.dst v') w') : wpList P ops Q (o :: rest) a w := by
  refine Lib.wpList_append_own_string w hgd sl x t u ho B e i ht hu hi hz hsize hby v zs.length _ hs hown.1 s hx (by unfold maxLen; omega) hsmall hown.2 ?_
  intro v' w' ho' hg' _
  refine h v' w' ⟨?_, Nat.le_trans hown.2 hg'.size⟩ (below_grown hg' hown.2 fun k hk => (hown.1.lt k hk).1)
  rw [List.length_append, ← Lib.size_eq, List.map_append]
  exact ho'

/-- The bytes of such a slice. -/
theorem Own.byteRow {w : World} {B : Nat} {e : TypeId} {ao : Option Addr} {n cap : Nat} {zs : List UInt8} (h : Own u8 B e (.slice ao n cap) zs w) (h0 : zs ≠ []) :
    ∃ g, ao = some ⟨g, 0, none⟩ ∧ n = zs.length ∧ ByteRow w g zs := by
  rcases h.1.2 with ⟨hv, hn⟩ | ⟨g, cap', cur, hv, hb, hg, hnc, hcm, hcs, ht⟩
  · exact absurd (List.eq_nil_of_length_eq_zero hn) h0
  · injection hv with h1 h2 h3
    refine ⟨g, h1, h2, fun j hj => ⟨?_, by simp [World.frozen?, hg]⟩⟩
    have := h.1.cells (g := g) (by rw [h1]; rfl) j _ (by rw [List.getElem?_map, List.getElem?_eq_getElem hj]; rfl)
    rw [Go.WideShapes.add_plain, Nat.zero_add] at this
    exact this

end Go.Proofs.Ytoiahlbaiakngaa.Base
