/-
  A slice of integers that the call itself makes by append, from whatever slice of integers.
-/
import Derived.Test.YtgiiaapilcjckaaSatWalks
import Derived.OwnWalk
import Derived.Laws.AppendOwnNone
namespace Go.Proofs.Ytgiiaapilcjckaa.Sat
open Go.RowKit
set_option linter.unusedVariables false

def Own (w : World) (B : Nat) (e : TypeId) (v : Value) (zs : List Int) : Prop := w.ownsRow B e 1 v zs.length (zs.map (Value.int .i64))

theorem Own.nil (w : World) (B : Nat) (e : TypeId) : Own w B e (.slice none 0 0) [] := World.ownsRow_nil w B e 1
theorem Own.alloc {w : World} {B : Nat} {e : TypeId} {v : Value} {zs : List Int} (h : Own w B e v zs) (o : Obj) : Own (w.alloc o) B e v zs := World.ownsRow.alloc h o

theorem Own.value {w : World} {B : Nat} {e : TypeId} {v : Value} {zs : List Int} (h : Own w B e v zs) :
    ∃ ao cap, v = .slice ao zs.length cap ∧ Reads w ao zs ∧ (ao = none → cap = 0) := by
  have hh : w.ownsRow B e 1 v zs.length (zs.map (Value.int .i64)) := h
  rcases h.2 with ⟨rfl, hn⟩ | ⟨g, cap, cur, rfl, hb, hg, hnc, hcm, hcs, ht⟩
  · have : zs = [] := List.eq_nil_of_length_eq_zero hn
    subst this
    exact ⟨none, 0, rfl, .inl rfl, fun _ => rfl⟩
  · refine ⟨_, cap, rfl, .inr ⟨g, 0, rfl, fun j hj => ?_⟩, fun h => by cases h⟩
    have := hh.cells (g := g) rfl j (.int .i64 zs[j]) (by simp [hj])
    rw [Go.WideShapes.add_plain] at this
    exact this

/-- 'append(own, src...)': what is owned then, and that nothing below is changed. -/
theorem wpList_append_ints {P : Program} {w : World} {ops : Array Oper} {rest : List Oper} {o : Oper} {a : Act} {Q : Exit → Act → World → Prop} (hgd : o.guard = none) (s x : Operand) (t : TypeId)
    (ho : o.op = .call { callee := .builtin .append, args := #[s, x], argTypes := #[t, t] })
    (B : Nat) (e : TypeId) (i : TypeInfo) (ht : P.underlying t = some (.slice e)) (hi : P.info? e = some i) (hz : i.zero = some (.int .i64 0)) (hsize : i.size = 1) (hby : i.bytes = 8)
    (w0 : World) (hb0 : Below B w0 w) (hB : B ≤ w.heap.size)
    (v : Value) (zs : List Int) (hs : a.eval s = v) (hown : Own w B e v zs)
    (ao : Option Addr) (m c : Nat) (news : List Int) (hx : a.eval x = .slice ao m c) (hm : news.length = m) (hr : Reads w ao news) (hnil : ao = none → c = 0) (hsmall : zs.length + m ≤ 1000000)
    (h : ∀ v' w', Own w' B e v' (zs ++ news) → Below B w0 w' → wpList P ops Q rest (a.put o.dst v') w') : wpList P ops Q (o :: rest) a w := by
  subst hm
  have hlen : (zs ++ news).length = zs.length + news.length := List.length_append
  cases ao with
  | none =>
    obtain rfl : c = 0 := hnil rfl
    have hn : news = [] := by
      rcases hr with h | ⟨b, off, h, _⟩
      · exact h
      · cases h
    subst hn
    refine wpList_append_own_none hgd s x t ho B e i 1 ht hi v zs.length (zs.map (Value.int .i64)) hs hown hx ?_
    exact h v w (by simpa using hown) hb0
  | some ad =>
    refine wpList_append_own _ hgd s x t ho B e i (.int .i64 0) 1 8 ht hi hz hsize hby rfl (by decide) v zs.length (zs.map (Value.int .i64)) hs hown ad news.length c (news.map (Value.int .i64)) hx (by simp) ?_ ?_ (by unfold maxLen; omega) (by omega) hB ?_
    · intro j u hu
      rcases hr with h | ⟨b, off, h, hc⟩
      · subst h; simp at hu
      · obtain rfl : ad = ⟨b, off, none⟩ := by simpa using h
        rw [List.getElem?_map] at hu
        obtain ⟨n, hn, rfl⟩ := Option.map_eq_some_iff.1 hu
        obtain ⟨hj, rfl⟩ := List.getElem?_eq_some_iff.1 hn
        rw [Go.WideShapes.add_plain]
        exact hc j hj
    · intro u hu
      obtain ⟨_, _, rfl⟩ := List.mem_map.1 hu
      rfl
    · intro v' w' ho' hg' _
      refine h v' w' ?_ (hb0.grown hg' hB fun k hk => (hown.lt k hk).1)
      unfold Own
      rw [hlen, List.map_append]
      exact ho'

end Go.Proofs.Ytgiiaapilcjckaa.Sat
