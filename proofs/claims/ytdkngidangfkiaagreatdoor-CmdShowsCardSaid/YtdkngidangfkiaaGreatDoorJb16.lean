/-
  Joined out of: A command in a block of its own, its two slices grown by the call itself; what 'lay' leaves as it was. The walks of what lays a field into a command. The walk of what stands behind a command's word.
-/
import Derived.Test.YtdkngidangfkiaaGreatDoorJb14
import Derived.Test.YtdkngidangfkiaaGreatDoorJb15
import Derived.Deep.RegionLaw
import Derived.Deep.AppendLies
namespace Go.Proofs.YtdkngidangfkiaaGreatDoor.Cmd
open Go.RowKit
open Base
open Shape (altC altC_length)
set_option linter.unusedVariables false
set_option linter.unusedSimpArgs false
theorem wpList_append_grown {α : Type} {k : Nat} {f : α → List Value} {w : World} {B : Nat} {e : TypeId} {v : Value} {zs : List α} {P : Program} {ops : Array Oper} {rest : List Oper} {o : Oper} {a : Act} {Q : Exit → Act → World → Prop} (hgd : o.guard = none) (s x : Operand) (t : TypeId)
    (ho : o.op = .call { callee := .builtin .append, args := #[s, x], argTypes := #[t, t] })
    (hf : ∀ x, (f x).length = k) (hk : 0 < k)
    (i : TypeInfo) (z : Value) (by8 : Nat) (ht : P.underlying t = some (.slice e)) (hi : P.info? e = some i) (hz : i.zero = some z) (hsize : i.size = k) (hby : i.bytes = by8) (hzs : z.cells.size = k)
    (hone : ∀ y, ∀ u ∈ f y, u.oneCell' = true) (hs : a.eval s = v) (hown : OwnS k f B e v zs w)
    (ad : Addr) (c : Nat) (new : α) (hx : a.eval x = .slice (some ad) 1 c) (hr : ReadsS k f w (some ad) [new])
    (hsmall : (zs.length + 1) * by8 ≤ 140737488355328) (hmax : zs.length + 1 ≤ maxLen)
    (h : ∀ v' w', OwnS k f B e v' (zs ++ [new]) w' → w.grownBy w' v.ownBlock → wpList P ops Q rest (a.put o.dst v') w') : wpList P ops Q (o :: rest) a w := by
  refine wpList_append_own _ hgd s x t ho B e i z k by8 ht hi hz hsize hby hzs hk v zs.length _ hs hown.1 ad 1 c ([new].flatMap f) hx (by simp [hf]) ?_ ?_ hmax hsmall hown.2 ?_
  · intro j u hu
    rcases hr with h | ⟨b, off, h, hc⟩
    · simp at h
    · obtain rfl : ad = ⟨b, off, none⟩ := by simpa using h
      have hj : j < k := by
        have := (List.getElem?_eq_some_iff.1 hu).1
        simpa [hf] using this
      have := hc 0 (by simp) j hj
      simp only [List.flatMap_cons, List.flatMap_nil, List.append_nil] at hu
      rw [Go.WideShapes.add_plain]
      simp only [Nat.zero_mul, Nat.add_zero, List.getElem_cons_zero] at this
      rw [this]; exact hu
  · intro u hu
    obtain ⟨y, _, hy⟩ := List.mem_flatMap.1 hu
    exact hone y u hy
  · intro v' w' ho' hg' _
    refine h v' w' ⟨?_, Nat.le_trans hown.2 hg'.size⟩ hg'
    rw [List.length_append, List.flatMap_append]
    exact ho'
theorem own_at {α : Type} {k : Nat} {f : α → List Value} {w : World} {B : Nat} {e : TypeId} {v : Value} {zs : List α} (h : OwnS k f B e v zs w) : ∀ g, v.ownBlock = some g → B ≤ g ∧ g < w.heap.size ∧ ∃ cur, w.heap[g]? = some (.cells cur e) := by
  intro g hg
  rcases h.1.2 with ⟨rfl, _⟩ | ⟨g', cap, cur, rfl, hb, hh, _⟩
  · cases hg
  · injection hg with hg
    have hg : g' = g := hg
    subst hg
    exact ⟨hb, (Array.getElem?_eq_some_iff.1 hh).1, cur, hh⟩
theorem own_other {α : Type} {k : Nat} {f : α → List Value} {w w' : World} {B : Nat} {e : TypeId} {v : Value} {zs : List α} {r : Option Nat} (h : OwnS k f B e v zs w) (hg : w.grownBy w' r) (hr : ∀ g, r = some g → g < B ∨ ∃ cur e2, w.heap[g]? = some (.cells cur e2) ∧ e2 ≠ e) : OwnS k f B e v zs w' := by
  refine ⟨h.1.kept hg ?_, Nat.le_trans h.2 hg.size⟩
  cases hv : v.ownBlock with
  | none => exact .inl rfl
  | some g =>
    refine .inr fun he => ?_
    obtain ⟨h1, h2, cur, h3⟩ := own_at h g hv
    rcases hr g he.symm with h4 | ⟨cur2, e2, h4, h5⟩
    · omega
    · rw [h3] at h4
      injection h4 with h4
      injection h4 with _ h4
      exact h5 h4.symm
def cmdArr (c : Co) (va vd : Value) : Array Value :=
  #[.int .i64 c.kind, .int .i64 c.job, .string c.name, .string c.user, .string c.account, .int .i64 c.sk, va, .int .i64 c.mn, .int .i64 c.mx, .int .i64 c.wl,
    .int .i64 c.prio, .bool c.hasPrio, .int .i64 c.time, .bool c.hasTime, vd, .int .i64 c.node, .int .i64 c.nodes, .int .i64 c.frm]
structure COwn (w : World) (b C : Nat) (c : Co) (va vd : Value) : Prop where
  blk : w.heap[C]? = some (.cells (cmdArr c va vd) 27)
  lt : C < b
  alts : OwnS 2 altC b 88 va c.alts w
  after : OwnS 2 altC b 64 vd c.after w
structure LayK (b C : Nat) (w w' : World) : Prop where
  os : w'.os = w.os
  tape : w'.tape = w.tape
  output : w'.output = w.output
  size : w.heap.size ≤ w'.heap.size
  block : ∀ k, k < w.heap.size → k ≠ C → (k < b ∨ ∀ a T, w.heap[k]? = some (.cells a T) → T ≠ 88 ∧ T ≠ 64) → w'.heap[k]? = w.heap[k]?
section
variable {w w' w2 : World} {b C : Nat} {c c' : Co} {va vd : Value}
theorem LayK.refl (b C : Nat) (w : World) : LayK b C w w := ⟨rfl, rfl, rfl, Nat.le_refl _, fun _ _ _ _ => rfl⟩
theorem LayK.trans (h : LayK b C w w') (k : LayK b C w' w2) : LayK b C w w2 := by
  refine ⟨k.os.trans h.os, k.tape.trans h.tape, k.output.trans h.output, Nat.le_trans h.size k.size, fun i hi hn hc => ?_⟩
  have h1 := h.block i hi hn hc
  rw [← h1]
  refine k.block i (Nat.lt_of_lt_of_le hi h.size) hn ?_
  rw [h1]; exact hc
theorem LayK.below (h : Below w.heap.size w w') : LayK b C w w' := ⟨h.os, h.tape, h.output, h.size, fun i hi _ _ => h.block i hi⟩
theorem LayK.grown (h : w.grownBy w' (some C)) : LayK b C w w' := ⟨h.os, h.tape, h.output, h.size, fun i hi hn _ => h.block i hi (by intro e; injection e with e; exact hn e)⟩
theorem LayK.set (h : LayK b C w w') (i : Nat) (v : Value) : LayK b C w (w'.setCell ⟨C, i, none⟩ v) := h.trans (LayK.grown (C := C) (grown_set w' ⟨C, i, none⟩ v))
theorem LayK.new (h : LayK b C w w') (o : Obj) : LayK b C w (w'.alloc o) := h.trans (LayK.below (below_one o))
theorem LayK.own {α : Type} {k : Nat} {f : α → List Value} {e : TypeId} {v : Value} {zs : List α} (ho : OwnS k f b e v zs w) (he : e = 88 ∨ e = 64) (h : w.grownBy w' v.ownBlock) : LayK b C w w' := by
  refine ⟨h.os, h.tape, h.output, h.size, fun i hi hn hc => h.block i hi ?_⟩
  intro hv
  obtain ⟨h1, h2, cur, h3⟩ := own_at ho i hv.symm
  rcases hc with hc | hc
  · omega
  · have := hc _ _ h3
    rcases he with rfl | rfl
    · exact this.1 rfl
    · exact this.2 rfl
theorem COwn.set (h : COwn w b C c va vd) (i : Nat) (v : Value) (hA : c'.alts = c.alts) (hD : c'.after = c.after) (he : (cmdArr c va vd).setIfInBounds i v = cmdArr c' va vd) : COwn (w.setCell ⟨C, i, none⟩ v) b C c' va vd := by
  refine ⟨?_, h.lt, ?_, ?_⟩
  · rw [heap_set_same h.blk, he]
  · rw [hA]; exact h.alts.kept (grown_set w _ _) (fun k hk => by injection hk with hk; subst hk; exact h.lt)
  · rw [hD]; exact h.after.kept (grown_set w _ _) (fun k hk => by injection hk with hk; subst hk; exact h.lt)
theorem COwn.below (h : COwn w b C c va vd) (hb : Below w.heap.size w w') : COwn w' b C c va vd := by
  refine ⟨?_, h.lt, h.alts.below hb, h.after.below hb⟩
  rw [hb.block _ (Array.getElem?_eq_some_iff.1 h.blk).1]; exact h.blk
theorem COwn.other (h : COwn w b C c va vd) {B : Nat} (hg : w.grownBy w' (some B)) (hB : B < b) (hC : B ≠ C) : COwn w' b C c va vd := by
  refine ⟨?_, h.lt, h.alts.kept hg (fun k hk => by injection hk with hk; omega), h.after.kept hg (fun k hk => by injection hk with hk; omega)⟩
  rw [hg.block C (Array.getElem?_eq_some_iff.1 h.blk).1 (by intro e; injection e with e; exact hC e.symm)]; exact h.blk
theorem COwn.cell (h : COwn w b C c va vd) (i : Nat) (v : Value) (hv : (cmdArr c va vd)[i]? = some v) : w.cell? ⟨C, i, none⟩ = some v := by
  rw [← hv]; simp [World.cell?, h.blk]
theorem COwn.frozen (h : COwn w b C c va vd) (i : Nat) : w.frozen? ⟨C, i, none⟩ = false := by simp [World.frozen?, h.blk]
theorem COwn.isLt (h : COwn w b C c va vd) : C < w.heap.size := (Array.getElem?_eq_some_iff.1 h.blk).1
end
end Go.Proofs.YtdkngidangfkiaaGreatDoor.Cmd
namespace Go.Proofs.YtdkngidangfkiaaGreatDoor.Cmd
open Go.RowKit
open Base
open Shape (altC altC_length)
set_option linter.unusedVariables false
set_option linter.unusedSimpArgs false
def LaySays (b C : Nat) (c : Co) (w : World) (e : Ending) (w' : World) : Prop := e = .returned (.tuple #[]) ∧ (∃ va vd, COwn w' b C c va vd) ∧ LayK b C w w'
set_option maxRecDepth 100000 in
set_option maxHeartbeats 800000 in
theorem layNumber_any (b C : Nat) (c : Co) (va vd : Value) (s : ByteArray) (n : Int) (w : World) (h : COwn w b C c va vd) :
    Calls Tryz.prog 106 #[.pointer (some ⟨C, 0, none⟩), .string s, .int .i64 n] w fun e w' => LaySays b C (layC c (s, .num n)) w e w' := by
  have hlt := h.isLt
  have d10 := h.cell 10 _ rfl
  have d11 := h.cell 11 _ rfl
  have d16 := h.cell 16 _ rfl
  have d17 := h.cell 17 _ rfl
  have ff := h.frozen
  have H := Lib.hid h
  have k1 := key_prio s
  have k2 := key_from s
  have k3 := key_nodes s
  unfold layC
  dsimp only
  clear h
  by_cases h1 : s = kPrio
  · rw [if_pos h1]
    rw [decide_eq_true h1] at k1
    clear h1
    go_enter Tryz.func106, Tryz.ntmps106
    go_wp2
    refine bodyPost_ret (v := .tuple #[]) (by simp [results, Tryz.results106, go_sem]) rfl ⟨rfl, ⟨va, vd, ?_⟩, ?_⟩
    · exact COwn.set (c := { c with prio := n }) (c' := { c with prio := n, hasPrio := true }) (H.out.set (c' := { c with prio := n }) 10 (.int .i64 n) rfl rfl rfl) 11 (.bool true) rfl rfl rfl
    · exact ((LayK.refl _ _ _).set _ _).set _ _
  · rw [if_neg h1]
    rw [decide_eq_false h1] at k1
    by_cases h2 : s = kFrom
    · rw [if_pos h2]
      rw [decide_eq_true h2] at k2
      clear h1 h2
      go_enter Tryz.func106, Tryz.ntmps106
      go_wp2
      refine bodyPost_ret (v := .tuple #[]) (by simp [results, Tryz.results106, go_sem]) rfl ⟨rfl, ⟨va, vd, ?_⟩, (LayK.refl _ _ _).set _ _⟩
      exact H.out.set (c' := { c with frm := n }) 17 (.int .i64 n) rfl rfl rfl
    · rw [if_neg h2]
      rw [decide_eq_false h2] at k2
      by_cases h3 : s = kNodes
      · rw [if_pos h3]
        rw [decide_eq_true h3] at k3
        clear h1 h2 h3
        go_enter Tryz.func106, Tryz.ntmps106
        go_wp2
        refine bodyPost_ret (v := .tuple #[]) (by simp [results, Tryz.results106, go_sem]) rfl ⟨rfl, ⟨va, vd, ?_⟩, (LayK.refl _ _ _).set _ _⟩
        exact H.out.set (c' := { c with nodes := n }) 16 (.int .i64 n) rfl rfl rfl
      · rw [if_neg h3]
        rw [decide_eq_false h3] at k3
        clear h1 h2 h3
        go_enter Tryz.func106, Tryz.ntmps106
        go_wp2
        refine bodyPost_ret (v := .tuple #[]) (by simp [results, Tryz.results106, go_sem]) rfl ⟨rfl, ⟨va, vd, H.out⟩, LayK.refl _ _ _⟩
set_option maxRecDepth 100000 in
theorem info_dep : (Tryz.prog.info? 64).map (fun i => (i.zero, i.size, i.bytes)) = some (some (.agg #[.int .i64 0, .int .i64 0]), 2, 16) := by kernel_rfl
set_option maxRecDepth 100000 in
theorem info_alt : (Tryz.prog.info? 88).map (fun i => (i.zero, i.size, i.bytes)) = some (some (.agg #[.int .i64 0, .int .i64 0]), 2, 16) := by kernel_rfl
theorem altC_one (a : Int × Int) : ∀ u ∈ altC a, u.oneCell' = true := by
  intro u hu
  simp only [altC, List.mem_cons, List.not_mem_nil, or_false] at hu
  rcases hu with rfl | rfl <;> rfl
theorem cell_pair_new (w : World) (a : Int × Int) (T : TypeId) (B : Nat) (hB : B = w.heap.size) : ∀ j u, (altC a)[j]? = some u → (w.alloc (.cells #[.int .i64 a.1, .int .i64 a.2] T)).cell? ((⟨B, 0, none⟩ : Addr).add j) = some u := by
  subst hB
  intro j u h
  rw [Go.WideShapes.add_plain, World.cell?_alloc_at _ _ _ _ rfl, Nat.zero_add]
  rw [← h]
  simp [altC]
theorem step_wp {P : Program} {ops : Array Oper} {o : Oper} {a : Act} {w : World} {K : Act → World → Prop} {Q : Exit → Act → World → Prop} {E : Prop} (hgd : o.guard = none) (h : Oper.wp P o a w K Q) :
    if Region.wanted o (yielded ops a.tmps) = true then Oper.wp P o a w K Q else E := by
  have hw : Region.wanted o (yielded ops a.tmps) = true := by simp [Region.wanted, hgd]
  rw [if_pos hw]
  exact h
theorem cown_after {w W w4 : World} {b C : Nat} {c : Co} {va vd vd' : Value} {p : Int × Int} (h : COwn w b C c va vd) (hW : Below w.heap.size w W) (o4 : w4.ownsRow b 64 2 vd' (c.after.length + 1) (c.after.flatMap altC ++ altC p)) (g4 : W.grownBy w4 vd.ownBlock) :
    COwn (w4.setCell ⟨C, 14, none⟩ vd') b C { c with after := c.after ++ [p] } va vd' ∧ LayK b C w (w4.setCell ⟨C, 14, none⟩ vd') ∧ w4.cell? ⟨C, 14, none⟩ = some vd ∧ w4.frozen? ⟨C, 14, none⟩ = false := by
  have hw := h.below hW
  have hty : ∀ g, vd.ownBlock = some g → b ≤ g ∧ ∃ cur, W.heap[g]? = some (.cells cur 64) := fun g hg => by
    obtain ⟨h1, h2, cur, h3⟩ := own_at hw.after g hg
    exact ⟨h1, cur, h3⟩
  have hC : w4.heap[C]? = W.heap[C]? := g4.block C hw.isLt (by
    intro e
    have := (hty C e.symm).1
    have := h.lt
    omega)
  have hblk : w4.heap[C]? = some (.cells (cmdArr c va vd) 27) := by rw [hC]; exact hw.blk
  have hsz : b ≤ w4.heap.size := Nat.le_trans hw.after.2 g4.size
  have oA : OwnS 2 altC b 88 va c.alts w4 := own_other hw.alts g4 (fun g hg => by
    obtain ⟨_, cur, h3⟩ := hty g hg
    exact .inr ⟨cur, _, h3, by decide⟩)
  have oD : OwnS 2 altC b 64 vd' (c.after ++ [p]) w4 := by
    refine ⟨?_, hsz⟩
    rw [List.length_append, List.flatMap_append]
    simpa using o4
  refine ⟨⟨?_, h.lt, oA.kept (grown_set _ _ _) (fun k hk => by injection hk with hk; subst hk; exact h.lt), oD.kept (grown_set _ _ _) (fun k hk => by injection hk with hk; subst hk; exact h.lt)⟩, ?_, ?_, ?_⟩
  · rw [heap_set_same hblk]; rfl
  · exact ((LayK.below hW).trans (LayK.own hw.after (.inr rfl) g4)).set _ _
  · simp [World.cell?, hblk, cmdArr]
  · simp [World.frozen?, hblk]
theorem cown_alts {w W w4 : World} {b C : Nat} {c : Co} {va vd va' : Value} {p : Int × Int} (h : COwn w b C c va vd) (hW : Below w.heap.size w W) (o4 : w4.ownsRow b 88 2 va' (c.alts.length + 1) (c.alts.flatMap altC ++ altC p)) (g4 : W.grownBy w4 va.ownBlock) :
    COwn (w4.setCell ⟨C, 6, none⟩ va') b C { c with alts := c.alts ++ [p] } va' vd ∧ LayK b C w (w4.setCell ⟨C, 6, none⟩ va') ∧ w4.cell? ⟨C, 6, none⟩ = some va ∧ w4.frozen? ⟨C, 6, none⟩ = false := by
  have hw := h.below hW
  have hty : ∀ g, va.ownBlock = some g → b ≤ g ∧ ∃ cur, W.heap[g]? = some (.cells cur 88) := fun g hg => by
    obtain ⟨h1, h2, cur, h3⟩ := own_at hw.alts g hg
    exact ⟨h1, cur, h3⟩
  have hC : w4.heap[C]? = W.heap[C]? := g4.block C hw.isLt (by
    intro e
    have := (hty C e.symm).1
    have := h.lt
    omega)
  have hblk : w4.heap[C]? = some (.cells (cmdArr c va vd) 27) := by rw [hC]; exact hw.blk
  have hsz : b ≤ w4.heap.size := Nat.le_trans hw.alts.2 g4.size
  have oD : OwnS 2 altC b 64 vd c.after w4 := own_other hw.after g4 (fun g hg => by
    obtain ⟨_, cur, h3⟩ := hty g hg
    exact .inr ⟨cur, _, h3, by decide⟩)
  have oA : OwnS 2 altC b 88 va' (c.alts ++ [p]) w4 := by
    refine ⟨?_, hsz⟩
    rw [List.length_append, List.flatMap_append]
    simpa using o4
  refine ⟨⟨?_, h.lt, oA.kept (grown_set _ _ _) (fun k hk => by injection hk with hk; subst hk; exact h.lt), oD.kept (grown_set _ _ _) (fun k hk => by injection hk with hk; subst hk; exact h.lt)⟩, ?_, ?_, ?_⟩
  · rw [heap_set_same hblk]; rfl
  · exact ((LayK.below hW).trans (LayK.own hw.alts (.inl rfl) g4)).set _ _
  · simp [World.cell?, hblk, cmdArr]
  · simp [World.frozen?, hblk]
set_option maxRecDepth 100000 in
set_option maxHeartbeats 800000 in
theorem lay_plain (b C : Nat) (c : Co) (va vd : Value) (f : Fd) (w : World) (h : COwn w b C c va vd) (hv : (∃ s, f.2 = .word s) ∨ (∃ n, f.2 = .num n) ∨ (∃ n, f.2 = .tk n) ∨ ∃ p q, f.2 = .span p q) :
    Calls Tryz.prog 68 #[.pointer (some ⟨C, 0, none⟩), fdV f] w fun e w' => LaySays b C (layC c f) w e w' := by
  obtain ⟨x, v⟩ := f
  dsimp only at hv
  have hlt := h.isLt
  have ff := h.frozen
  have H := Lib.hid h
  rcases hv with ⟨s, rfl⟩ | ⟨n, rfl⟩ | ⟨n, rfl⟩ | ⟨p, q, rfl⟩
  · have d3 : w.cell? ⟨C, 3, none⟩ = some (.string c.user) := h.cell 3 _ rfl
    have d4 : w.cell? ⟨C, 4, none⟩ = some (.string c.account) := h.cell 4 _ rfl
    have a1 := as_word_word
    have k1 := key_user x
    unfold layC fdV
    dsimp only [vlV]
    clear h
    by_cases h1 : x = kUser
    · rw [if_pos h1]
      rw [decide_eq_true h1] at k1
      clear h1
      go_enter Tryz.func68, Tryz.ntmps68
      go_wp2
      refine bodyPost_ret (v := .tuple #[]) (by simp [results, Tryz.results68, go_sem]) rfl ⟨rfl, ⟨va, vd, ?_⟩, ?_⟩
      · exact (H.out.set (c' := { c with user := s }) 3 (.string s) rfl rfl rfl).below (below_one _)
      · exact ((LayK.refl _ _ _).set _ _).new _
    · rw [if_neg h1]
      rw [decide_eq_false h1] at k1
      clear h1
      go_enter Tryz.func68, Tryz.ntmps68
      go_wp2
      refine bodyPost_ret (v := .tuple #[]) (by simp [results, Tryz.results68, go_sem]) rfl ⟨rfl, ⟨va, vd, ?_⟩, ?_⟩
      · exact (H.out.set (c' := { c with account := s }) 4 (.string s) rfl rfl rfl).below (below_one _)
      · exact ((LayK.refl _ _ _).set _ _).new _
  · have c1 := fun (w2 : World) (hb : Below w.heap.size w w2) => layNumber_any b C c va vd x n w2 (h.below hb)
    have C1 := Lib.hid c1
    have a1 := as_num_word
    have a2 := as_num_num
    unfold fdV
    dsimp only [vlV]
    clear h c1
    go_enter Tryz.func68, Tryz.ntmps68
    go_wp2_with (first
      | (go_at_call 106; (with_reducible refine (C1.out _ (Base.bel_)).mono ?_); rintro e w2 ⟨rfl, q2, g2⟩)
      | fail)
    refine bodyPost_ret (v := .tuple #[]) (by simp [results, Tryz.results68, go_sem]) rfl ⟨rfl, q2, (LayK.below (below_one _)).trans g2⟩
  · have a1 := as_tk_word
    have a2 := as_tk_num
    have a3 := as_tk_id
    have a4 := as_tk_tk
    have d12 : w.cell? ⟨C, 12, none⟩ = some (.int .i64 c.time) := h.cell 12 _ rfl
    have d13 : w.cell? ⟨C, 13, none⟩ = some (.bool c.hasTime) := h.cell 13 _ rfl
    unfold layC fdV
    dsimp only [vlV]
    clear h
    go_enter Tryz.func68, Tryz.ntmps68
    go_wp2
    refine bodyPost_ret (v := .tuple #[]) (by simp [results, Tryz.results68, go_sem]) rfl ⟨rfl, ⟨va, vd, ?_⟩, ?_⟩
    · exact (COwn.set (c := { c with time := n }) (c' := { c with time := n, hasTime := true }) (H.out.set (c' := { c with time := n }) 12 (.int .i64 n) rfl rfl rfl) 13 (.bool true) rfl rfl rfl).below (below_one _)
    · exact (((LayK.refl _ _ _).set _ _).set _ _).new _
  · have a1 := as_span_word
    have a2 := as_span_num
    have a3 := as_span_id
    have a4 := as_span_tk
    have a5 := as_span_opt
    have a6 := as_span_span
    have d7 : w.cell? ⟨C, 7, none⟩ = some (.int .i64 c.mn) := h.cell 7 _ rfl
    have d8 : w.cell? ⟨C, 8, none⟩ = some (.int .i64 c.mx) := h.cell 8 _ rfl
    unfold layC fdV
    dsimp only [vlV]
    clear h
    go_enter Tryz.func68, Tryz.ntmps68
    go_wp2
    go_region
    all_goals
      go_wp2
      refine bodyPost_ret (v := .tuple #[]) (by simp [results, Tryz.results68, go_sem]) rfl ⟨rfl, ⟨va, vd, ?_⟩, ?_⟩
      · exact ((COwn.set (c := { c with mn := p }) (c' := { c with mn := p, mx := q }) (H.out.set (c' := { c with mn := p }) 7 (.int .i64 p) rfl rfl rfl) 8 (.int .i64 q) rfl rfl rfl).below (below_two _ _).drew)
      · exact (((LayK.refl _ _ _).set _ _).set _ _).trans (LayK.below (below_two _ _).drew)
set_option maxRecDepth 100000 in
set_option maxHeartbeats 1000000 in
theorem lay_id (b C : Nat) (c : Co) (va vd : Value) (x : ByteArray) (n : Int) (w : World) (h : COwn w b C c va vd) (hT : Tb w) (hs2 : c.after.length ≤ 1000) :
    Calls Tryz.prog 68 #[.pointer (some ⟨C, 0, none⟩), fdV (x, .id n)] w fun e w' => LaySays b C (layC c (x, .id n)) w e w' := by
  have hlt := h.isLt
  have a1 := as_id_word
  have a2 := as_id_num
  have a3 := as_id_id
  have d14 : w.cell? ⟨C, 14, none⟩ = some vd := h.cell 14 _ rfl
  have ff := h.frozen
  have c1 := fun (w2 : World) (hb : Below w.heap.size w w2) => howOf_any x w2 (hT.later hb)
  have H := Lib.hid h
  obtain ⟨i0, hi, hz0, hz1, hz2⟩ := info_parts info_dep
  have HI := Lib.hid hi
  have HZ0 := Lib.hid hz0
  have HZ1 := Lib.hid hz1
  have HZ2 := Lib.hid hz2
  unfold layC fdV
  dsimp only [vlV]
  obtain ⟨q, hq⟩ : ∃ q, q = howN x := ⟨_, rfl⟩
  rw [← hq] at c1 ⊢
  have C1 := Lib.hid c1
  have hW : Below w.heap.size w ((w.alloc (.cells #[.string x, .iface 86 (.int .i64 n)] 57)).drew.alloc (.cells #[.int .i64 (q : Int), .int .i64 n] 64)) := ((below_one _).drew).trans ((below_one _).mono (by simp))
  have HW := Lib.hid hW
  have HOD := Lib.hid (h.below hW).after.1
  have HBS := Lib.hid (h.below hW).after.2
  have HNEW := Lib.hid (cell_pair_new (w.alloc (.cells #[.string x, .iface 86 (.int .i64 n)] 57)).drew ((q : Int), n) 64 (w.heap.size + 1) (by simp))
  clear hi hz0 hz1 hz2 h hT c1 hq hW
  go_enter Tryz.func68, Tryz.ntmps68
  go_wp2
  go_region_law (first
    | (refine step_wp rfl ?_; unfold Oper.wp; go_simp; go_at_call 107; refine (C1.out _ (Base.bel_)).mono ?_; rintro e w1 ⟨rfl, rfl⟩)
    | (refine step_append_lies _ rfl (.tmp 41) (.tmp 47) 25 rfl b 64 i0 _ 2 16 Tryz.underlying25 HI.out HZ0.out HZ1.out HZ2.out rfl (by decide) vd c.after.length (c.after.flatMap altC) (by simp [Act.eval, Act.put]) HOD.out ⟨w.heap.size + 1, 0, none⟩ 1 1 (altC ((q : Int), n)) (by simp [Act.eval, Act.put]) rfl HNEW.out (altC_one _) (by decide) (by unfold maxLen; omega) (by omega) HBS.out _ rfl ?_; intro g cap4 w4 o4 g4 hat hlt4; obtain ⟨f1, f2, f3, f4⟩ := cown_after H.out HW.out o4 g4; have F1 := Lib.hid f1; have F2 := Lib.hid f2; clear f1 f2 o4 g4))
  all_goals
    go_wp2
    refine bodyPost_ret (v := .tuple #[]) (by simp [results, Tryz.results68, go_sem]) rfl ⟨rfl, ⟨va, _, F1.out⟩, F2.out⟩
set_option maxRecDepth 100000 in
set_option maxHeartbeats 1000000 in
theorem lay_opt (b C : Nat) (c : Co) (va vd : Value) (x : ByteArray) (p q : Int) (w : World) (h : COwn w b C c va vd) (hs1 : c.alts.length ≤ 1000) :
    Calls Tryz.prog 68 #[.pointer (some ⟨C, 0, none⟩), fdV (x, .opt p q)] w fun e w' => LaySays b C (layC c (x, .opt p q)) w e w' := by
  have hlt := h.isLt
  have a1 := as_opt_word
  have a2 := as_opt_num
  have a3 := as_opt_id
  have a4 := as_opt_tk
  have a5 := as_opt_opt
  have d6 : w.cell? ⟨C, 6, none⟩ = some va := h.cell 6 _ rfl
  have ff := h.frozen
  have d6b := cell_below d6 (below_two (.cells #[.string x, .iface 89 (.agg #[.int .i64 p, .int .i64 q])] 57) (.cells #[.int .i64 p, .int .i64 q] 89))
  have d6c := cell_below d6b (below_one (.cells #[.int .i64 p, .int .i64 q] 88))
  have H := Lib.hid h
  obtain ⟨i0, hi, hz0, hz1, hz2⟩ := info_parts info_alt
  have HI := Lib.hid hi
  have HZ0 := Lib.hid hz0
  have HZ1 := Lib.hid hz1
  have HZ2 := Lib.hid hz2
  unfold layC fdV
  dsimp only [vlV]
  have hW : Below w.heap.size w (((w.alloc (.cells #[.string x, .iface 89 (.agg #[.int .i64 p, .int .i64 q])] 57)).alloc (.cells #[.int .i64 p, .int .i64 q] 89)).drew.alloc (.cells #[.int .i64 p, .int .i64 q] 88)) := ((below_two _ _).drew).trans ((below_one _).mono (by simp; omega))
  have HW := Lib.hid hW
  have HOD := Lib.hid (h.below hW).alts.1
  have HBS := Lib.hid (h.below hW).alts.2
  have HNEW := Lib.hid (cell_pair_new ((w.alloc (.cells #[.string x, .iface 89 (.agg #[.int .i64 p, .int .i64 q])] 57)).alloc (.cells #[.int .i64 p, .int .i64 q] 89)).drew (p, q) 88 (w.heap.size + 1 + 1) (by simp))
  clear hi hz0 hz1 hz2 h hW
  go_enter Tryz.func68, Tryz.ntmps68
  go_wp2
  go_region_law (refine step_append_lies _ rfl (.tmp 69) (.tmp 71) 22 rfl b 88 i0 _ 2 16 Tryz.underlying22 HI.out HZ0.out HZ1.out HZ2.out rfl (by decide) va c.alts.length (c.alts.flatMap altC) (by simp [Act.eval, Act.put]) HOD.out ⟨w.heap.size + 1 + 1, 0, none⟩ 1 1 (altC (p, q)) (by simp [Act.eval, Act.put]) rfl HNEW.out (altC_one _) (by decide) (by unfold maxLen; omega) (by omega) HBS.out _ rfl ?_; intro g cap4 w4 o4 g4 hat hlt4; obtain ⟨f1, f2, f3, f4⟩ := cown_alts H.out HW.out o4 g4; have F1 := Lib.hid f1; have F2 := Lib.hid f2; clear f1 f2 o4 g4)
  all_goals
    go_wp2
    refine bodyPost_ret (v := .tuple #[]) (by simp [results, Tryz.results68, go_sem]) rfl ⟨rfl, ⟨_, vd, F1.out⟩, F2.out⟩
theorem lay_any (b C : Nat) (c : Co) (va vd : Value) (f : Fd) (w : World) (h : COwn w b C c va vd) (hT : Tb w) (hs1 : c.alts.length ≤ 1000) (hs2 : c.after.length ≤ 1000) :
    Calls Tryz.prog 68 #[.pointer (some ⟨C, 0, none⟩), fdV f] w fun e w' => LaySays b C (layC c f) w e w' := by
  obtain ⟨x, v⟩ := f
  cases v with
  | word s => exact lay_plain b C c va vd _ w h (.inl ⟨s, rfl⟩)
  | num n => exact lay_plain b C c va vd _ w h (.inr (.inl ⟨n, rfl⟩))
  | id n => exact lay_id b C c va vd x n w h hT hs2
  | tk n => exact lay_plain b C c va vd _ w h (.inr (.inr (.inl ⟨n, rfl⟩)))
  | opt p q => exact lay_opt b C c va vd x p q w h hs1
  | span p q => exact lay_plain b C c va vd _ w h (.inr (.inr (.inr ⟨p, q, rfl⟩)))
end Go.Proofs.YtdkngidangfkiaaGreatDoor.Cmd
namespace Go.Proofs.YtdkngidangfkiaaGreatDoor.Cmd
open Go.RowKit
open Base
open Lex (Tok tkC tkC_length tokV zT)
open Shape (altC altC_length)
set_option linter.unusedVariables false
set_option linter.unusedSimpArgs false
structure TgK (B C : Nat) (w w' : World) : Prop where
  os : w'.os = w.os
  tape : w'.tape = w.tape
  output : w'.output = w.output
  size : w.heap.size ≤ w'.heap.size
  block : ∀ k, k < w.heap.size → k ≠ B → k ≠ C → w'.heap[k]? = w.heap[k]?
theorem TgK.refl (B C : Nat) (w : World) : TgK B C w w := ⟨rfl, rfl, rfl, Nat.le_refl _, fun _ _ _ _ => rfl⟩
theorem TgK.grown {B C : Nat} {w w' : World} (g : w.grownBy w' (some B)) : TgK B C w w' := ⟨g.os, g.tape, g.output, g.size, fun k hk h1 h2 => g.block k hk (by intro e; injection e with e; exact h1 e)⟩
theorem TgK.set {B C : Nat} {w w' : World} (h : TgK B C w w') (i : Nat) (v : Value) : TgK B C w (w'.setCell ⟨C, i, none⟩ v) := by
  have g := grown_set w' ⟨C, i, none⟩ v
  exact ⟨g.os.trans h.os, g.tape.trans h.tape, g.output.trans h.output, Nat.le_trans h.size g.size, fun k hk h1 h2 => (g.block k (Nat.lt_of_lt_of_le hk h.size) (by intro e; injection e with e; exact h2 e)).trans (h.block k hk h1 h2)⟩
theorem RdAt.set {B C n : Nat} {l : List Tok} {w : World} (h : RdAt w B l n) (hBC : B < C) (i : Nat) (v : Value) : RdAt (w.setCell ⟨C, i, none⟩ v) B l n := by
  have hlt := h.lt
  obtain ⟨ao, cap, h1, h2, h3, h4, h5⟩ := h
  have g := grown_set w ⟨C, i, none⟩ v
  refine ⟨ao, cap, ?_, h2, h3, ?_, h5⟩
  · rw [g.block B hlt (by intro e; injection e with e; have : B = C := e; omega)]; exact h1
  · exact reads_kept h4 g (fun a ha => ⟨Nat.lt_trans (h5 a ha) hlt, by have := h5 a ha; show a.block ≠ C; omega⟩)
def TgSays (b B C n : Nat) (o : Option Co) (r : List Tok) (va vd : Value) (w : World) (e : Ending) (w' : World) : Prop :=
  e = .returned (.bool o.isSome) ∧ RdAt w' B r n ∧ (∃ c', COwn w' b C c' va vd ∧ ∀ c1, o = some c1 → c' = c1) ∧ TgK B C w w'
set_option maxRecDepth 100000 in
set_option maxHeartbeats 2000000 in
theorem target_any (b B C n : Nat) (c : Co) (va vd : Value) (l : List Tok) (w : World) (hR : RdAt w B l n) (hs : ∀ t ∈ l, t.2.1.size ≤ 1000000) (h : COwn w b C c va vd) (hBC : B < C) :
    Calls Tryz.prog 66 #[.pointer (some ⟨B, 0, none⟩), .pointer (some ⟨C, 0, none⟩)] w
      fun e w' => TgSays b B C n (rdTgt c l).1 (rdTgt c l).2 va vd w e w' := by
  have hlt := hR.lt
  have hltC := h.isLt
  have hBb : B < b := Nat.lt_trans hBC h.lt
  have hne : B ≠ C := by omega
  have cN := name_any B n l w hR hs
  have cD := number_any 55 #[] nodeB B n l w hR (fun t ht P w2 hb hP => numc_isNode t P w2 hP)
  have cJ := number_any 51 #[] idB B n l w hR (fun t ht P w2 hb hP => numc_isId t P w2 hP)
  unfold RSays at cN cD cJ
  have HR := Lib.hid hR
  have d0 : w.cell? ⟨C, 0, none⟩ = some (.int .i64 c.kind) := h.cell 0 _ rfl
  obtain ⟨ao, cap, q1, q2, q3, q4, q5⟩ := hR
  have c0 : w.cell? ⟨B, 0, none⟩ = some (.slice ao l.length cap) := by simp [World.cell?, q1]
  have H := Lib.hid h
  have HO := Lib.hid (fun w2 (g : w.grownBy w2 (some B)) => h.other g hBb hne)
  have CN := Lib.hid cN
  have CD := Lib.hid cD
  have CJ := Lib.hid cJ
  obtain ⟨K, hK⟩ : ∃ K, K = c.kind := ⟨_, rfl⟩
  unfold rdTgt
  rw [← hK] at d0 ⊢
  have HK := Lib.hid hK
  clear h cN cD cJ q1 q4 q5 hs hK
  unfold maxLen at q3
  unfold TgSays
  by_cases k10 : K = 10
  · rw [if_pos (.inl k10)]
    have t10 : (K == 10) = true := by simpa using k10
    clear k10
    go_enter Tryz.func66, Tryz.ntmps66
    go_wp2
    exact bodyPost_ret (v := .bool true) (by simp [results, Tryz.results66, go_sem]) rfl ⟨rfl, HR.out, ⟨c, H.out, fun c1 h1 => by simpa using h1⟩, TgK.refl _ _ _⟩
  have t10 : (K == 10) = false := by simpa using k10
  by_cases k12 : K = 12
  · have t12 : (K == 12) = true := by simpa using k12
    cases l with
    | nil =>
      rw [if_pos (.inr ⟨k12, rfl⟩)]
      rw [List.length_nil] at c0
      clear k12 k10
      go_enter Tryz.func66, Tryz.ntmps66
      go_wp2
      exact bodyPost_ret (v := .bool true) (by simp [results, Tryz.results66, go_sem]) rfl ⟨rfl, HR.out, ⟨c, H.out, fun c1 h1 => by simpa using h1⟩, TgK.refl _ _ _⟩
    | cons t r =>
      rw [if_neg (by simp [k10])]
      have tl : (((t :: r).length : Int) == 0) = false := by rw [beq_eq_false_iff_ne]; simp; omega
      have t1 : (K == 1) = false := by rw [k12]; rfl
      have t7 : (K == 7) = false := by rw [k12]; rfl
      have t8 : (K == 8) = false := by rw [k12]; rfl
      have t9 : (K == 9) = false := by rw [k12]; rfl
      rw [if_neg (by omega), if_neg (by omega)]
      clear k12 k10
      go_enter Tryz.func66, Tryz.ntmps66
      go_wp2_with (first
        | (go_at_call 100; (with_reducible refine CJ.out.mono ?_); rintro e w2 ⟨rfl, r2, g2⟩; have h2 := HO.out _ g2; have ex : w2.cell? ⟨C, 1, none⟩ = some (.int .i64 c.job) := h2.cell 1 _ rfl; have ef := h2.frozen; have el := h2.isLt; have H2 := Lib.hid h2; have R2 := Lib.hid r2; have G2 := Lib.hid g2; clear h2 r2 g2)
        | fail)
      unfold rdNum getN
      refine bodyPost_ret (v := .bool (nx (qNum idB) (t :: r)).1.isSome) (by simp [results, Tryz.results66, go_sem]) rfl ⟨by rw [Option.isSome_map, Option.isSome_map], R2.out.set hBC _ _, ⟨{ c with job := ((nx (qNum idB) (t :: r)).1.getD zT).2.2.1 }, H2.out.set 1 (.int .i64 ((nx (qNum idB) (t :: r)).1.getD zT).2.2.1) rfl rfl rfl, ?_⟩, (TgK.grown G2.out).set _ _⟩
      intro c1 h1
      rcases hx : nx (qNum idB) (t :: r) with ⟨_ | t, r⟩
      · rw [hx] at h1; simp at h1
      · rw [hx] at h1; simpa [HK.out] using h1
  have t12 : (K == 12) = false := by simpa using k12
  rw [if_neg (by rintro (h | h); exact k10 h; exact k12 h.1)]
  by_cases k1 : K = 1
  · have t1 : (K == 1) = true := by simpa using k1
    rw [if_pos k1]
    clear k1 k10 k12
    go_enter Tryz.func66, Tryz.ntmps66
    go_wp2_with (first
      | (go_at_call 99; (with_reducible refine CN.out.mono ?_); rintro e w2 ⟨rfl, r2, g2⟩; have h2 := HO.out _ g2; have ex : w2.cell? ⟨C, 2, none⟩ = some (.string c.name) := h2.cell 2 _ rfl; have ef := h2.frozen; have el := h2.isLt; have H2 := Lib.hid h2; have R2 := Lib.hid r2; have G2 := Lib.hid g2; clear h2 r2 g2)
      | fail)
    refine bodyPost_ret (v := .bool (nx qName l).1.isSome) (by simp [results, Tryz.results66, go_sem]) rfl ⟨by rw [Option.isSome_map], R2.out.set hBC _ _, ⟨{ c with name := ((nx qName l).1.getD zT).2.1 }, H2.out.set 2 (.string ((nx qName l).1.getD zT).2.1) rfl rfl rfl, ?_⟩, (TgK.grown G2.out).set _ _⟩
    intro c1 h1
    rcases hx : nx qName l with ⟨_ | t, r⟩
    · rw [hx] at h1; simp at h1
    · rw [hx] at h1; simpa [HK.out] using h1
  have t1 : (K == 1) = false := by simpa using k1
  rw [if_neg k1]
  by_cases k7 : K = 7
  · have t7 : (K == 7) = true := by simpa using k7
    rw [if_pos (.inl k7)]
    clear k7 k1 k10 k12
    go_enter Tryz.func66, Tryz.ntmps66
    go_wp2_with (first
      | (go_at_call 100; (with_reducible refine CD.out.mono ?_); rintro e w2 ⟨rfl, r2, g2⟩; have h2 := HO.out _ g2; have ex : w2.cell? ⟨C, 15, none⟩ = some (.int .i64 c.node) := h2.cell 15 _ rfl; have ef := h2.frozen; have el := h2.isLt; have H2 := Lib.hid h2; have R2 := Lib.hid r2; have G2 := Lib.hid g2; clear h2 r2 g2)
      | fail)
    unfold rdNum getN
    refine bodyPost_ret (v := .bool (nx (qNum nodeB) l).1.isSome) (by simp [results, Tryz.results66, go_sem]) rfl ⟨by rw [Option.isSome_map, Option.isSome_map], R2.out.set hBC _ _, ⟨{ c with node := ((nx (qNum nodeB) l).1.getD zT).2.2.1 }, H2.out.set 15 (.int .i64 ((nx (qNum nodeB) l).1.getD zT).2.2.1) rfl rfl rfl, ?_⟩, (TgK.grown G2.out).set _ _⟩
    intro c1 h1
    rcases hx : nx (qNum nodeB) l with ⟨_ | t, r⟩
    · rw [hx] at h1; simp at h1
    · rw [hx] at h1; simpa [HK.out] using h1
  have t7 : (K == 7) = false := by simpa using k7
  by_cases k8 : K = 8
  · have t8 : (K == 8) = true := by simpa using k8
    rw [if_pos (.inr (.inl k8))]
    clear k8 k1 k10 k12
    go_enter Tryz.func66, Tryz.ntmps66
    go_wp2_with (first
      | (go_at_call 100; (with_reducible refine CD.out.mono ?_); rintro e w2 ⟨rfl, r2, g2⟩; have h2 := HO.out _ g2; have ex : w2.cell? ⟨C, 15, none⟩ = some (.int .i64 c.node) := h2.cell 15 _ rfl; have ef := h2.frozen; have el := h2.isLt; have H2 := Lib.hid h2; have R2 := Lib.hid r2; have G2 := Lib.hid g2; clear h2 r2 g2)
      | fail)
    unfold rdNum getN
    refine bodyPost_ret (v := .bool (nx (qNum nodeB) l).1.isSome) (by simp [results, Tryz.results66, go_sem]) rfl ⟨by rw [Option.isSome_map, Option.isSome_map], R2.out.set hBC _ _, ⟨{ c with node := ((nx (qNum nodeB) l).1.getD zT).2.2.1 }, H2.out.set 15 (.int .i64 ((nx (qNum nodeB) l).1.getD zT).2.2.1) rfl rfl rfl, ?_⟩, (TgK.grown G2.out).set _ _⟩
    intro c1 h1
    rcases hx : nx (qNum nodeB) l with ⟨_ | t, r⟩
    · rw [hx] at h1; simp at h1
    · rw [hx] at h1; simpa [HK.out] using h1
  have t8 : (K == 8) = false := by simpa using k8
  by_cases k9 : K = 9
  · have t9 : (K == 9) = true := by simpa using k9
    rw [if_pos (.inr (.inr k9))]
    clear k9 k1 k10 k12
    go_enter Tryz.func66, Tryz.ntmps66
    go_wp2_with (first
      | (go_at_call 100; (with_reducible refine CD.out.mono ?_); rintro e w2 ⟨rfl, r2, g2⟩; have h2 := HO.out _ g2; have ex : w2.cell? ⟨C, 15, none⟩ = some (.int .i64 c.node) := h2.cell 15 _ rfl; have ef := h2.frozen; have el := h2.isLt; have H2 := Lib.hid h2; have R2 := Lib.hid r2; have G2 := Lib.hid g2; clear h2 r2 g2)
      | fail)
    unfold rdNum getN
    refine bodyPost_ret (v := .bool (nx (qNum nodeB) l).1.isSome) (by simp [results, Tryz.results66, go_sem]) rfl ⟨by rw [Option.isSome_map, Option.isSome_map], R2.out.set hBC _ _, ⟨{ c with node := ((nx (qNum nodeB) l).1.getD zT).2.2.1 }, H2.out.set 15 (.int .i64 ((nx (qNum nodeB) l).1.getD zT).2.2.1) rfl rfl rfl, ?_⟩, (TgK.grown G2.out).set _ _⟩
    intro c1 h1
    rcases hx : nx (qNum nodeB) l with ⟨_ | t, r⟩
    · rw [hx] at h1; simp at h1
    · rw [hx] at h1; simpa [HK.out] using h1
  have t9 : (K == 9) = false := by simpa using k9
  rw [if_neg (by rintro (h | h | h); exact k7 h; exact k8 h; exact k9 h)]
  clear k1 k10 k12 k7 k8 k9
  go_enter Tryz.func66, Tryz.ntmps66
  go_wp2_with (first
    | (go_at_call 100; (with_reducible refine CJ.out.mono ?_); rintro e w2 ⟨rfl, r2, g2⟩; have h2 := HO.out _ g2; have ex : w2.cell? ⟨C, 1, none⟩ = some (.int .i64 c.job) := h2.cell 1 _ rfl; have ef := h2.frozen; have el := h2.isLt; have H2 := Lib.hid h2; have R2 := Lib.hid r2; have G2 := Lib.hid g2; clear h2 r2 g2)
    | fail)
  unfold rdNum getN
  refine bodyPost_ret (v := .bool (nx (qNum idB) l).1.isSome) (by simp [results, Tryz.results66, go_sem]) rfl ⟨by rw [Option.isSome_map, Option.isSome_map], R2.out.set hBC _ _, ⟨{ c with job := ((nx (qNum idB) l).1.getD zT).2.2.1 }, H2.out.set 1 (.int .i64 ((nx (qNum idB) l).1.getD zT).2.2.1) rfl rfl rfl, ?_⟩, (TgK.grown G2.out).set _ _⟩
  intro c1 h1
  rcases hx : nx (qNum idB) l with ⟨_ | t, r⟩
  · rw [hx] at h1; simp at h1
  · rw [hx] at h1; simpa [HK.out] using h1
end Go.Proofs.YtdkngidangfkiaaGreatDoor.Cmd
