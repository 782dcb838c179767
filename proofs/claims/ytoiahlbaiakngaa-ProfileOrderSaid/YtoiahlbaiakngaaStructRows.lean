/-
  Slices of structs whose fields take one cell each: what came in, and what the call itself makes by append.
-/
import Derived.Test.YtoiahlbaiakngaaOwnRows
import Derived.Deep.Slices
import Derived.Deep.Fields
import Derived.Lib.SmallJoins
namespace Go.Proofs.Ytoiahlbaiakngaa.Base
open Go.RowKit
set_option linter.unusedVariables false

/-- What a slice reads as: a list of things of k cells each. -/
def ReadsS {α : Type} (k : Nat) (f : α → List Value) (w : World) (a : Option Addr) (zs : List α) : Prop :=
  zs = [] ∨ ∃ b off, a = some ⟨b, off, none⟩ ∧ ∀ j (h : j < zs.length) i, i < k → w.cell? ⟨b, off + j * k + i, none⟩ = (f zs[j])[i]?

section
variable {α : Type} {k : Nat} {f : α → List Value} {w w' : World} {a : Option Addr} {zs : List α}

theorem ReadsS.nil_ : ReadsS k f w a [] := .inl rfl
theorem ReadsS.at_ (h : ReadsS k f w a zs) {j : Nat} (hj : j < zs.length) : ∃ b off, a = some ⟨b, off, none⟩ ∧ ∀ i, i < k → w.cell? ⟨b, off + j * k + i, none⟩ = (f zs[j])[i]? := by
  rcases h with h | ⟨b, off, rfl, hc⟩
  · subst h; simp at hj
  · exact ⟨b, off, rfl, hc j hj⟩

theorem cell_belowB {B : Nat} {w w' : World} {p : Addr} {v : Value} (h : w.cell? p = some v) (hb : Below B w w') (hp : p.block < B) : w'.cell? p = some v := by
  rw [hb.cell hp]; exact h

/-- Each thing gives k cells: then what is below the worlds' parting stays. -/
theorem ReadsS.below (h : ReadsS k f w a zs) (hf : ∀ x, (f x).length = k) (hb : Below w.heap.size w w') : ReadsS k f w' a zs := by
  rcases h with h | ⟨b, off, rfl, hc⟩
  · exact .inl h
  · refine .inr ⟨b, off, rfl, fun j hj i hi => ?_⟩
    have h1 := hc j hj i hi
    have h2 : i < (f zs[j]).length := by rw [hf]; exact hi
    rw [List.getElem?_eq_getElem h2] at h1 ⊢
    exact cell_below h1 hb

theorem readsS_one {n : Nat} (hn : n = w.heap.size) (x : α) (vs : Array Value) (hv : vs.toList = f x) (hk : (f x).length = k) (t : TypeId) : ReadsS k f (w.alloc (.cells vs t)) (some ⟨n, 0, none⟩) [x] := by
  refine .inr ⟨n, 0, rfl, fun j hj i hi => ?_⟩
  have : j = 0 := by simpa using hj
  subst this
  rw [World.cell?_alloc_at _ _ _ _ hn]
  simp only [Nat.zero_mul, Nat.zero_add, List.getElem_cons_zero]
  rw [← hv]; simp
end

/-- What the walk of a law is told of a slice of structs that came in. -/
def IsRowS {α : Type} (k : Nat) (f : α → List Value) (ok : α → Prop) (w : World) (a : Option Addr) (len cap : Nat) (zs : List α) : Prop :=
  (a = none ∧ len = 0 ∧ cap = 0 ∧ zs = []) ∨
  ∃ x, a = some x ∧ len ≤ cap ∧ cap ≤ maxLen ∧ zs.length = cap ∧ (∀ j (h : j < zs.length) i, i < k → w.cell? (x.add (j * k + i)) = (f zs[j])[i]?) ∧ ∀ z ∈ zs, ok z

theorem IsRowS.reads {α : Type} {k : Nat} {f : α → List Value} {ok : α → Prop} {w : World} {a : Option Addr} {len cap : Nat} {zs : List α} (h : IsRowS k f ok w a len cap zs) (hk : 0 < k) (hf : ∀ x, (f x).length = k) :
    (zs.take len).length = len ∧ len ≤ cap ∧ cap ≤ maxLen ∧ ReadsS k f w a (zs.take len) ∧ (∀ z ∈ zs.take len, ok z) ∧ (a = none → cap = 0) := by
  rcases h with ⟨rfl, rfl, rfl, rfl⟩ | ⟨x, rfl, hl, hm, hz, hc, ho⟩
  · exact ⟨rfl, Nat.le_refl _, Nat.zero_le _, .inl rfl, by simp, fun _ => rfl⟩
  · refine ⟨by simp; omega, hl, hm, ?_, fun z hz' => ho z (List.mem_of_mem_take hz'), fun h => by cases h⟩
    by_cases h0 : len = 0
    · subst h0; exact .inl (by simp)
    · obtain ⟨b, off, spot⟩ := x
      have hspot : spot = none := by
        have h1 := hc 0 (by omega) 0 hk
        have h2 : 0 < (f zs[0]).length := by rw [hf]; exact hk
        rw [List.getElem?_eq_getElem h2] at h1
        simpa [Addr.add] using World.cell?_spot h1
      subst hspot
      refine .inr ⟨b, off, rfl, fun j hj i hi => ?_⟩
      have hj2 : j < zs.length := by simp at hj; omega
      rw [List.getElem_take, Nat.add_assoc, ← Go.WideShapes.add_plain]
      exact hc j hj2 i hi

/-- A slice v of the call's own, in a block from B on, holds these things of k cells each. -/
def OwnS {α : Type} (k : Nat) (f : α → List Value) (B : Nat) (e : TypeId) (v : Value) (zs : List α) (w : World) : Prop :=
  w.ownsRow B e k v zs.length (zs.flatMap f) ∧ B ≤ w.heap.size

section
variable {α : Type} {k : Nat} {f : α → List Value} {w : World} {B : Nat} {e : TypeId} {v : Value} {zs : List α}

theorem flat_length (hf : ∀ x, (f x).length = k) (zs : List α) : (zs.flatMap f).length = zs.length * k := by
  induction zs with
  | nil => simp
  | cons z t ih => rw [List.flatMap_cons, List.length_append, hf, ih, List.length_cons, Nat.add_mul, Nat.one_mul, Nat.add_comm]
theorem flat_at (hf : ∀ x, (f x).length = k) (zs : List α) (j : Nat) (hj : j < zs.length) (i : Nat) (hi : i < k) : (zs.flatMap f)[j * k + i]? = (f zs[j])[i]? := by
  induction zs generalizing j with
  | nil => simp at hj
  | cons z t ih =>
    cases j with
    | zero => rw [List.flatMap_cons, Nat.zero_mul, Nat.zero_add, List.getElem?_append_left (by rw [hf]; exact hi)]; rfl
    | succ j =>
      rw [List.flatMap_cons, List.getElem?_append_right (by rw [hf, Nat.add_mul, Nat.one_mul]; omega), hf]
      have e1 : (j + 1) * k + i - k = j * k + i := by rw [Nat.add_mul, Nat.one_mul]; omega
      rw [e1, ih j (by simpa using hj)]
      rfl

theorem OwnS.nil (hB : B ≤ w.heap.size) : OwnS k f B e (.slice none 0 0) [] w := ⟨World.ownsRow_nil w B e k, hB⟩

theorem OwnS.kept {w' : World} {r : Option Nat} (h : OwnS k f B e v zs w) (hg : w.grownBy w' r) (hr : ∀ k, r = some k → k < B) : OwnS k f B e v zs w' := by
  refine ⟨h.1.kept hg ?_, Nat.le_trans h.2 hg.size⟩
  cases hv : v.ownBlock with
  | none => exact .inl rfl
  | some g =>
    refine .inr fun he => ?_
    have h1 := (h.1.lt g hv).1
    have h2 := hr g he.symm
    omega
theorem OwnS.alloc (h : OwnS k f B e v zs w) (o : Obj) : OwnS k f B e v zs (w.alloc o) := ⟨h.1.alloc o, by simp; have := h.2; omega⟩
theorem OwnS.drew (h : OwnS k f B e v zs w) : OwnS k f B e v zs w.drew := h
theorem OwnS.below {w' : World} (h : OwnS k f B e v zs w) (hb : Below w.heap.size w w') : OwnS k f B e v zs w' := h.kept (grown_of_below hb none) (fun _ h => by cases h)

theorem OwnS.value (h : OwnS k f B e v zs w) (hf : ∀ x, (f x).length = k) : ∃ ao cap, v = .slice ao zs.length cap ∧ ReadsS k f w ao zs ∧ (ao = none → cap = 0) ∧ zs.length ≤ cap ∧ cap ≤ maxLen := by
  rcases h.1.2 with ⟨rfl, hn⟩ | ⟨g, cap, cur, rfl, hb, hg, hnc, hcm, hcs, ht⟩
  · have : zs = [] := List.eq_nil_of_length_eq_zero hn
    subst this
    exact ⟨none, 0, rfl, .inl rfl, fun _ => rfl, Nat.le_refl _, Nat.zero_le _⟩
  · refine ⟨_, cap, rfl, .inr ⟨g, 0, rfl, fun j hj i hi => ?_⟩, (fun h => by cases h), hnc, hcm⟩
    have h2 : i < (f zs[j]).length := by rw [hf]; exact hi
    have := h.1.cells (g := g) rfl (j * k + i) _ ((flat_at hf zs j hj i hi).trans (List.getElem?_eq_getElem h2))
    rw [Go.WideShapes.add_plain] at this
    rw [List.getElem?_eq_getElem h2, Nat.add_assoc]
    exact this

/-- 'append(own, src...)'. -/
theorem wpList_append_srcS {P : Program} {ops : Array Oper} {rest : List Oper} {o : Oper} {a : Act} {Q : Exit → Act → World → Prop} (hgd : o.guard = none) (s x : Operand) (t : TypeId)
    (ho : o.op = .call { callee := .builtin .append, args := #[s, x], argTypes := #[t, t] })
    (hf : ∀ x, (f x).length = k) (hk : 0 < k)
    (i : TypeInfo) (z : Value) (by8 : Nat) (ht : P.underlying t = some (.slice e)) (hi : P.info? e = some i) (hz : i.zero = some z) (hsize : i.size = k) (hby : i.bytes = by8) (hzs : z.cells.size = k)
    (hone : ∀ y, ∀ u ∈ f y, u.oneCell' = true) (hs : a.eval s = v) (hown : OwnS k f B e v zs w)
    (ao : Option Addr) (m c : Nat) (news : List α) (hx : a.eval x = .slice ao m c) (hm : news.length = m) (hr : ReadsS k f w ao news) (hnil : ao = none → c = 0)
    (hsmall : (zs.length + m) * by8 ≤ 140737488355328) (hmax : zs.length + m ≤ maxLen)
    (h : ∀ v' w', OwnS k f B e v' (zs ++ news) w' → Below B w w' → wpList P ops Q rest (a.put o.dst v') w') : wpList P ops Q (o :: rest) a w := by
  subst hm
  have hlen : (zs ++ news).length = zs.length + news.length := List.length_append
  cases ao with
  | none =>
    obtain rfl : c = 0 := hnil rfl
    have hn : news = [] := by
      rcases hr with h | ⟨b, off, h, _⟩
      · exact h
      · cases h
    subst hn
    refine wpList_append_own_none hgd s x t ho B e i k ht hi v zs.length _ hs hown.1 hx ?_
    exact h v w (by simpa using hown) (Below.refl _ _)
  | some ad =>
    refine wpList_append_own _ hgd s x t ho B e i z k by8 ht hi hz hsize hby hzs hk v zs.length _ hs hown.1 ad news.length c (news.flatMap f) hx (flat_length hf news) ?_ ?_ hmax hsmall hown.2 ?_
    · intro j u hu
      rcases hr with h | ⟨b, off, h, hc⟩
      · subst h; simp at hu
      · obtain rfl : ad = ⟨b, off, none⟩ := by simpa using h
        have hj : j < news.length * k := by
          have := (List.getElem?_eq_some_iff.1 hu).1
          rwa [flat_length hf] at this
        have hjk : j / k < news.length := (Nat.div_lt_iff_lt_mul hk).2 hj
        have hm : j % k < k := Nat.mod_lt _ hk
        have hsp : j = j / k * k + j % k := by have := Nat.div_add_mod j k; rw [Nat.mul_comm] at this; exact this.symm
        rw [hsp, flat_at hf news _ hjk _ hm] at hu
        rw [Go.WideShapes.add_plain, hsp, ← Nat.add_assoc, hc _ hjk _ hm]
        exact hu
    · intro u hu
      obtain ⟨y, _, hy⟩ := List.mem_flatMap.1 hu
      exact hone y u hy
    · intro v' w' ho' hg' _
      refine h v' w' ⟨?_, Nat.le_trans hown.2 hg'.size⟩ (below_grown hg' hown.2 fun k hk => (hown.1.lt k hk).1)
      rw [hlen, List.flatMap_append]
      exact ho'
end

/-! What comes in, opened. -/

section
open Go.ChangeShapes Go.WideShapes Go.Deep
variable {H : Type} {enc : TypeId × Value → H} {P : Program} {w : World} {base : Nat} {spare : Nat → Bool} {held : Bool}

/-- A slice of whatever structs, given how the cells of one are told. -/
theorem open_rowS {α : Type} [Inhabited α] {k : Nat} {f : α → List Value} {ok : α → Prop} {t e : TypeId} {fuel : Nat} {cs : List Value} {x : DataW H × List MemPlace} (ht : P.underlying t = some (.slice e)) (hk : P.cellsOf e = k)
    (hdec : ∀ n cs y, DataW.trod enc P w base spare held n e cs = some y → ∃ z : α, cs = f z ∧ ok z) (hspare : ∀ b, spare b = true) (h : DataW.trod enc P w base spare held fuel t cs = some x) :
    (cs = [.slice none 0 0]) ∨ ∃ (a : Addr) (len cap : Nat) (zs : List α), cs = [.slice (some a) len cap] ∧ len ≤ cap ∧ cap ≤ maxLen ∧ zs.length = cap ∧
      (∀ j (h : j < zs.length) i, i < k → w.cell? (a.add (j * k + i)) = (f zs[j])[i]?) ∧ ∀ z ∈ zs, ok z := by
  rcases Go.Deep.open_slice ht h with ⟨h0, _⟩ | ⟨a, len, cap, m, n, D, Pl, hcs, hb, hl, hm, hmm, hx, hi⟩
  · exact .inl h0
  · right
    rw [hspare, if_pos rfl] at hmm
    subst hmm
    rw [hk] at hi
    have each : ∀ j, j < m → ∃ z : α, (∀ i, i < k → w.cell? (a.add (j * k + i)) = (f z)[i]?) ∧ ok z := fun j hj => by
      obtain ⟨cs', hc, ht'⟩ := hi j hj
      obtain ⟨z, rfl, hz⟩ := hdec _ _ _ ht'
      obtain ⟨_, _, hat⟩ := World.cells?_some hc
      refine ⟨z, fun i hi => ?_, hz⟩
      rw [← Go.Deep.add_add]
      exact hat i hi
    obtain ⟨Z, hZ⟩ := choose_lt each
    refine ⟨a, len, m, (List.range m).map Z, hcs, hl, hm, by simp, fun j hj i hi => ?_, fun z hz => ?_⟩
    · have hj' : j < m := by simpa using hj
      rw [(hZ j hj').1 i hi]; simp
    · obtain ⟨j, hj, rfl⟩ := List.mem_map.1 hz
      exact (hZ j (List.mem_range.1 hj)).2
/-- The cells of a struct whose fields take one cell each, field by field. -/
theorem trod_fields {t : TypeId} {fs : Array Field} {fuel : Nat} {cs : List Value} {x : DataW H × List MemPlace} (ht : P.underlying t = some (.struct fs)) (hone : oneCellFields P fs = true) (hC : P.cellsOf t = fs.size)
    (h : DataW.trod enc P w base spare held fuel t cs = some x) :
    cs.length = fs.size ∧ ∃ n, ∀ (j : Nat) (f : Field), fs[j]? = some f → ∃ (v : Value) (y : DataW H × List MemPlace), cs[j]? = some v ∧ DataW.trod enc P w base spare held n f.type [v] = some y := by
  obtain ⟨xs, n, _, _, hl, hx, hf⟩ := DataW.trod_struct ht h
  rw [hC] at hl
  refine ⟨hl, n, fun j f hj => ?_⟩
  obtain ⟨ho, hk⟩ := hone_of hone j f hj
  have hjl : j < fs.size := (Array.getElem?_eq_some_iff.1 hj).1
  have h1 := hf j f hj
  rw [ho, hk, List.drop_eq_getElem_cons (by omega), List.take_succ_cons, List.take_zero, List.getElem?_eq_getElem (by omega)] at h1
  exact ⟨_, _, List.getElem?_eq_getElem (by omega), h1⟩
end

end Go.Proofs.Ytoiahlbaiakngaa.Base
