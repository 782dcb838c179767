/-
  Joined out of: A command in a block of its own, its two slices grown by the call itself; what 'lay' leaves as it was.
-/
import Derived.Test.YtdkngidangfkiaaGreatDoorJa20
import Derived.Test.YtdkngidangfkiaaGreatDoorJa21
namespace Go.Proofs.YtdkngidangfkiaaGreatDoor.Cmd
open Go.RowKit
open Base
open Shape (altC altC_length)
set_option linter.unusedVariables false
set_option linter.unusedSimpArgs false
theorem wpList_append_grown {α : Type} {k : Nat} {f : α → List Value} {w : World} {B : Nat} {e : TypeId} {v : Value} {zs : List α} {P : Program} {ops : Array Oper} {rest : List Oper} {o : Oper} {a : Act} {Q : Exit → Act → World → Prop} (hgd : o.guard = none) (s x : Operand) (t : TypeId)
    (ho : o.op = .call { callee := .builtin .append, args := #[s, x], argTypes := #[t, t] })
    (hf : ∀ x, (f x).length = k) (hk : 0 < k)
    (i : TypeInfo) (z : Value) (by8 : Nat) (ht : P.underlying t = some (.slice e)) (hi : P.info? e = some i) (hz : i.zero = some z) (hsize : i.size = k) (hby : i.bytes = by8) (hzs : z.cells.size = k)
    (hone : ∀ y, ∀ u ∈ f y, u.oneCell' = true) (hs : a.eval s = v) (hown : OwnS k f B e v zs w)
    (ad : Addr) (c : Nat) (new : α) (hx : a.eval x = .slice (some ad) 1 c) (hr : ReadsS k f w (some ad) [new])
    (hsmall : (zs.length + 1) * by8 ≤ 140737488355328) (hmax : zs.length + 1 ≤ maxLen)
    (h : ∀ v' w', OwnS k f B e v' (zs ++ [new]) w' → w.grownBy w' v.ownBlock → wpList P ops Q rest (a.put o.dst v') w') : wpList P ops Q (o :: rest) a w := by
  refine wpList_append_own _ hgd s x t ho B e i z k by8 ht hi hz hsize hby hzs hk v zs.length _ hs hown.1 ad 1 c ([new].flatMap f) hx (by simp [hf]) ?_ ?_ hmax hsmall hown.2 ?_
  · intro j u hu
    rcases hr with h | ⟨b, off, h, hc⟩
    · simp at h
    · obtain rfl : ad = ⟨b, off, none⟩ := by simpa using h
      have hj : j < k := by
        have := (List.getElem?_eq_some_iff.1 hu).1
        simpa [hf] using this
      have := hc 0 (by simp) j hj
      simp only [List.flatMap_cons, List.flatMap_nil, List.append_nil] at hu
      rw [Go.WideShapes.add_plain]
      simp only [Nat.zero_mul, Nat.add_zero, List.getElem_cons_zero] at this
      rw [this]; exact hu
  · intro u hu
    obtain ⟨y, _, hy⟩ := List.mem_flatMap.1 hu
    exact hone y u hy
  · intro v' w' ho' hg' _
    refine h v' w' ⟨?_, Nat.le_trans hown.2 hg'.size⟩ hg'
    rw [List.length_append, List.flatMap_append]
    exact ho'
theorem own_at {α : Type} {k : Nat} {f : α → List Value} {w : World} {B : Nat} {e : TypeId} {v : Value} {zs : List α} (h : OwnS k f B e v zs w) : ∀ g, v.ownBlock = some g → B ≤ g ∧ g < w.heap.size ∧ ∃ cur, w.heap[g]? = some (.cells cur e) := by
  intro g hg
  rcases h.1.2 with ⟨rfl, _⟩ | ⟨g', cap, cur, rfl, hb, hh, _⟩
  · cases hg
  · injection hg with hg
    have hg : g' = g := hg
    subst hg
    exact ⟨hb, (Array.getElem?_eq_some_iff.1 hh).1, cur, hh⟩
theorem own_other {α : Type} {k : Nat} {f : α → List Value} {w w' : World} {B : Nat} {e : TypeId} {v : Value} {zs : List α} {r : Option Nat} (h : OwnS k f B e v zs w) (hg : w.grownBy w' r) (hr : ∀ g, r = some g → g < B ∨ ∃ cur e2, w.heap[g]? = some (.cells cur e2) ∧ e2 ≠ e) : OwnS k f B e v zs w' := by
  refine ⟨h.1.kept hg ?_, Nat.le_trans h.2 hg.size⟩
  cases hv : v.ownBlock with
  | none => exact .inl rfl
  | some g =>
    refine .inr fun he => ?_
    obtain ⟨h1, h2, cur, h3⟩ := own_at h g hv
    rcases hr g he.symm with h4 | ⟨cur2, e2, h4, h5⟩
    · omega
    · rw [h3] at h4
      injection h4 with h4
      injection h4 with _ h4
      exact h5 h4.symm
def cmdArr (c : Co) (va vd : Value) : Array Value :=
  #[.int .i64 c.kind, .int .i64 c.job, .string c.name, .string c.user, .string c.account, .int .i64 c.sk, va, .int .i64 c.mn, .int .i64 c.mx, .int .i64 c.wl,
    .int .i64 c.prio, .bool c.hasPrio, .int .i64 c.time, .bool c.hasTime, vd, .int .i64 c.node, .int .i64 c.nodes, .int .i64 c.frm]
structure COwn (w : World) (b C : Nat) (c : Co) (va vd : Value) : Prop where
  blk : w.heap[C]? = some (.cells (cmdArr c va vd) 27)
  lt : C < b
  alts : OwnS 2 altC b 88 va c.alts w
  after : OwnS 2 altC b 64 vd c.after w
structure LayK (b C : Nat) (w w' : World) : Prop where
  os : w'.os = w.os
  tape : w'.tape = w.tape
  output : w'.output = w.output
  size : w.heap.size ≤ w'.heap.size
  block : ∀ k, k < w.heap.size → k ≠ C → (k < b ∨ ∀ a T, w.heap[k]? = some (.cells a T) → T ≠ 88 ∧ T ≠ 64) → w'.heap[k]? = w.heap[k]?
section
variable {w w' w2 : World} {b C : Nat} {c c' : Co} {va vd : Value}
theorem LayK.refl (b C : Nat) (w : World) : LayK b C w w := ⟨rfl, rfl, rfl, Nat.le_refl _, fun _ _ _ _ => rfl⟩
theorem LayK.trans (h : LayK b C w w') (k : LayK b C w' w2) : LayK b C w w2 := by
  refine ⟨k.os.trans h.os, k.tape.trans h.tape, k.output.trans h.output, Nat.le_trans h.size k.size, fun i hi hn hc => ?_⟩
  have h1 := h.block i hi hn hc
  rw [← h1]
  refine k.block i (Nat.lt_of_lt_of_le hi h.size) hn ?_
  rw [h1]; exact hc
theorem LayK.below (h : Below w.heap.size w w') : LayK b C w w' := ⟨h.os, h.tape, h.output, h.size, fun i hi _ _ => h.block i hi⟩
theorem LayK.grown (h : w.grownBy w' (some C)) : LayK b C w w' := ⟨h.os, h.tape, h.output, h.size, fun i hi hn _ => h.block i hi (by intro e; injection e with e; exact hn e)⟩
theorem LayK.set (h : LayK b C w w') (i : Nat) (v : Value) : LayK b C w (w'.setCell ⟨C, i, none⟩ v) := h.trans (LayK.grown (C := C) (grown_set w' ⟨C, i, none⟩ v))
theorem LayK.new (h : LayK b C w w') (o : Obj) : LayK b C w (w'.alloc o) := h.trans (LayK.below (below_one o))
theorem LayK.own {α : Type} {k : Nat} {f : α → List Value} {e : TypeId} {v : Value} {zs : List α} (ho : OwnS k f b e v zs w) (he : e = 88 ∨ e = 64) (h : w.grownBy w' v.ownBlock) : LayK b C w w' := by
  refine ⟨h.os, h.tape, h.output, h.size, fun i hi hn hc => h.block i hi ?_⟩
  intro hv
  obtain ⟨h1, h2, cur, h3⟩ := own_at ho i hv.symm
  rcases hc with hc | hc
  · omega
  · have := hc _ _ h3
    rcases he with rfl | rfl
    · exact this.1 rfl
    · exact this.2 rfl
theorem COwn.set (h : COwn w b C c va vd) (i : Nat) (v : Value) (hA : c'.alts = c.alts) (hD : c'.after = c.after) (he : (cmdArr c va vd).setIfInBounds i v = cmdArr c' va vd) : COwn (w.setCell ⟨C, i, none⟩ v) b C c' va vd := by
  refine ⟨?_, h.lt, ?_, ?_⟩
  · rw [heap_set_same h.blk, he]
  · rw [hA]; exact h.alts.kept (grown_set w _ _) (fun k hk => by injection hk with hk; subst hk; exact h.lt)
  · rw [hD]; exact h.after.kept (grown_set w _ _) (fun k hk => by injection hk with hk; subst hk; exact h.lt)
theorem COwn.below (h : COwn w b C c va vd) (hb : Below w.heap.size w w') : COwn w' b C c va vd := by
  refine ⟨?_, h.lt, h.alts.below hb, h.after.below hb⟩
  rw [hb.block _ (Array.getElem?_eq_some_iff.1 h.blk).1]; exact h.blk
theorem COwn.other (h : COwn w b C c va vd) {B : Nat} (hg : w.grownBy w' (some B)) (hB : B < b) (hC : B ≠ C) : COwn w' b C c va vd := by
  refine ⟨?_, h.lt, h.alts.kept hg (fun k hk => by injection hk with hk; omega), h.after.kept hg (fun k hk => by injection hk with hk; omega)⟩
  rw [hg.block C (Array.getElem?_eq_some_iff.1 h.blk).1 (by intro e; injection e with e; exact hC e.symm)]; exact h.blk
theorem COwn.cell (h : COwn w b C c va vd) (i : Nat) (v : Value) (hv : (cmdArr c va vd)[i]? = some v) : w.cell? ⟨C, i, none⟩ = some v := by
  rw [← hv]; simp [World.cell?, h.blk]
theorem COwn.frozen (h : COwn w b C c va vd) (i : Nat) : w.frozen? ⟨C, i, none⟩ = false := by simp [World.frozen?, h.blk]
theorem COwn.isLt (h : COwn w b C c va vd) : C < w.heap.size := (Array.getElem?_eq_some_iff.1 h.blk).1
end
end Go.Proofs.YtdkngidangfkiaaGreatDoor.Cmd
