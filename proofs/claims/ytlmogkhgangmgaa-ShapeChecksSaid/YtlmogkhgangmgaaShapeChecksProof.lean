/-
  musterlaw07.ShapeChecks: for every input the law returns true, and each argument reads behind the call as it read before. No conditions.
-/
import Derived.Test.YtlmogkhgangmgaaRows
import Derived.Test.YtlmogkhgangmgaaLaw07
import Derived.WalkKit
import Derived.ProofKit
import Derived.OpenShut
import Derived.ShutString
import Derived.ChangeOld
import Derived.Below
namespace Go.Proofs.Ytlmogkhgangmgaa.shapeChecks
open Go.ChangeShapes Go.WideShapes Go.ChangeAt Go.RowKit
open Go.ChangeMaps (open_string shut_string)
open Base
set_option linter.unusedVariables false

theorem okWide_array {P : Program} {w : World} {r : Reach} {base : Nat} {t : TypeId} {v : Value} {n : Nat} {e : TypeId} (ht : P.underlying t = some (.array n e)) (h : Value.okWide P w r base t v) : ∃ cs, v = .agg cs ∧ cs.size = P.cellsOf t := by
  simp only [Value.okWide, ht] at h
  obtain ⟨cs, h1, h2, _⟩ := h
  exact ⟨cs, h1, h2⟩
abbrev T38 := Int × Int
def cells38 (z : T38) : List Value := [.int .i64 z.1, .int .i64 z.2]
def ok38 (W : World) (z : T38) : Prop := (Lit.int .i64 z.1).wf = true ∧ (Lit.int .i64 z.2).wf = true
theorem len38 (z : T38) : (cells38 z).length = 2 := rfl
theorem dec38 {H : Type} {enc : TypeId × Value → H} {W : World} (n : Nat) (cs : List Value) (y : DataW H × List MemPlace) (h : DataW.trod enc Try.prog W 0 (fun _ => true) true n 38 cs = some y) : ∃ z : T38, cs = cells38 z ∧ ok38 W z := by
  obtain ⟨xs, m, _, _, hl, hx, hf⟩ := DataW.trod_struct Try.underlying38 h
  rw [show Try.prog.cellsOf 38 = 2 from by kernel_rfl] at hl
  have hx' : xs.length = 2 := hx
  match cs, hl with
  | [c0, c1], _ =>
    obtain ⟨y0, e0⟩ : ∃ y, xs[0]? = some y := ⟨_, List.getElem?_eq_getElem (by omega)⟩
    have g0a := hf 0 _ rfl
    rw [e0] at g0a
    have g0 : DataW.trod enc Try.prog W 0 (fun _ => true) true m 3 (([c0, c1].drop 0).take (Try.prog.cellsOf 3)) = some y0 := g0a
    rw [show Try.prog.cellsOf 3 = 1 from by kernel_rfl] at g0
    change DataW.trod enc Try.prog W 0 (fun _ => true) true m 3 [c0] = some y0 at g0
    obtain ⟨y1, e1⟩ : ∃ y, xs[1]? = some y := ⟨_, List.getElem?_eq_getElem (by omega)⟩
    have g1a := hf 1 _ rfl
    rw [e1] at g1a
    have g1 : DataW.trod enc Try.prog W 0 (fun _ => true) true m 3 (([c0, c1].drop 1).take (Try.prog.cellsOf 3)) = some y1 := g1a
    rw [show Try.prog.cellsOf 3 = 1 from by kernel_rfl] at g1
    change DataW.trod enc Try.prog W 0 (fun _ => true) true m 3 [c1] = some y1 at g1
    obtain ⟨a0, q0, _, w0⟩ := DataW.trod_int Try.underlying3 g0
    obtain rfl : c0 = .int .i64 a0 := by simpa using q0
    obtain ⟨a1, q1, _, w1⟩ := DataW.trod_int Try.underlying3 g1
    obtain rfl : c1 = .int .i64 a1 := by simpa using q1
    exact ⟨(a0, a1), rfl, w0, w1⟩

abbrev T22 := Option Addr × Nat × Nat × List T38
def ok22 (W : World) (z : T22) : Prop := IsRowS 2 cells38 (ok38 W) W z.1 z.2.1 z.2.2.1 z.2.2.2
theorem row22 {H : Type} {enc : TypeId × Value → H} {W : World} (n : Nat) (c : Value) (y : DataW H × List MemPlace) (h : DataW.trod enc Try.prog W 0 (fun _ => true) true n 22 [c] = some y) : ∃ z : T22, c = .slice z.1 z.2.1 z.2.2.1 ∧ ok22 W z := by
  rcases open_rowS (f := cells38) (ok := ok38 W) Try.underlying22 (by kernel_rfl) dec38 (fun _ => rfl) h with hcs | ⟨x, l, c', zs, hcs, hl, hm, hz, hcell, hwz⟩
  · obtain rfl : c = .slice none 0 0 := by simpa using hcs
    exact ⟨(none, 0, 0, []), rfl, .inl ⟨rfl, rfl, rfl, rfl⟩⟩
  · obtain rfl : c = .slice (some x) l c' := by simpa using hcs
    exact ⟨(some x, l, c', zs), rfl, .inr ⟨_, rfl, hl, hm, hz, hcell, hwz⟩⟩

abbrev T24 := Int × T22 × Int × Int × Int
def cells24 (z : T24) : List Value := [.int .i64 z.1, .slice z.2.1.1 z.2.1.2.1 z.2.1.2.2.1, .int .i64 z.2.2.1, .int .i64 z.2.2.2.1, .int .i64 z.2.2.2.2]
def ok24 (W : World) (z : T24) : Prop := (Lit.int .i64 z.1).wf = true ∧ ok22 W z.2.1 ∧ (Lit.int .i64 z.2.2.1).wf = true ∧ (Lit.int .i64 z.2.2.2.1).wf = true ∧ (Lit.int .i64 z.2.2.2.2).wf = true
theorem len24 (z : T24) : (cells24 z).length = 5 := rfl
theorem dec24 {H : Type} {enc : TypeId × Value → H} {W : World} (n : Nat) (cs : List Value) (y : DataW H × List MemPlace) (h : DataW.trod enc Try.prog W 0 (fun _ => true) true n 24 cs = some y) : ∃ z : T24, cs = cells24 z ∧ ok24 W z := by
  obtain ⟨xs, m, _, _, hl, hx, hf⟩ := DataW.trod_struct Try.underlying24 h
  rw [show Try.prog.cellsOf 24 = 5 from by kernel_rfl] at hl
  have hx' : xs.length = 5 := hx
  match cs, hl with
  | [c0, c1, c2, c3, c4], _ =>
    obtain ⟨y0, e0⟩ : ∃ y, xs[0]? = some y := ⟨_, List.getElem?_eq_getElem (by omega)⟩
    have g0a := hf 0 _ rfl
    rw [e0] at g0a
    have g0 : DataW.trod enc Try.prog W 0 (fun _ => true) true m 3 (([c0, c1, c2, c3, c4].drop 0).take (Try.prog.cellsOf 3)) = some y0 := g0a
    rw [show Try.prog.cellsOf 3 = 1 from by kernel_rfl] at g0
    change DataW.trod enc Try.prog W 0 (fun _ => true) true m 3 [c0] = some y0 at g0
    obtain ⟨y1, e1⟩ : ∃ y, xs[1]? = some y := ⟨_, List.getElem?_eq_getElem (by omega)⟩
    have g1a := hf 1 _ rfl
    rw [e1] at g1a
    have g1 : DataW.trod enc Try.prog W 0 (fun _ => true) true m 22 (([c0, c1, c2, c3, c4].drop 1).take (Try.prog.cellsOf 22)) = some y1 := g1a
    rw [show Try.prog.cellsOf 22 = 1 from by kernel_rfl] at g1
    change DataW.trod enc Try.prog W 0 (fun _ => true) true m 22 [c1] = some y1 at g1
    obtain ⟨y2, e2⟩ : ∃ y, xs[2]? = some y := ⟨_, List.getElem?_eq_getElem (by omega)⟩
    have g2a := hf 2 _ rfl
    rw [e2] at g2a
    have g2 : DataW.trod enc Try.prog W 0 (fun _ => true) true m 3 (([c0, c1, c2, c3, c4].drop 2).take (Try.prog.cellsOf 3)) = some y2 := g2a
    rw [show Try.prog.cellsOf 3 = 1 from by kernel_rfl] at g2
    change DataW.trod enc Try.prog W 0 (fun _ => true) true m 3 [c2] = some y2 at g2
    obtain ⟨y3, e3⟩ : ∃ y, xs[3]? = some y := ⟨_, List.getElem?_eq_getElem (by omega)⟩
    have g3a := hf 3 _ rfl
    rw [e3] at g3a
    have g3 : DataW.trod enc Try.prog W 0 (fun _ => true) true m 3 (([c0, c1, c2, c3, c4].drop 3).take (Try.prog.cellsOf 3)) = some y3 := g3a
    rw [show Try.prog.cellsOf 3 = 1 from by kernel_rfl] at g3
    change DataW.trod enc Try.prog W 0 (fun _ => true) true m 3 [c3] = some y3 at g3
    obtain ⟨y4, e4⟩ : ∃ y, xs[4]? = some y := ⟨_, List.getElem?_eq_getElem (by omega)⟩
    have g4a := hf 4 _ rfl
    rw [e4] at g4a
    have g4 : DataW.trod enc Try.prog W 0 (fun _ => true) true m 3 (([c0, c1, c2, c3, c4].drop 4).take (Try.prog.cellsOf 3)) = some y4 := g4a
    rw [show Try.prog.cellsOf 3 = 1 from by kernel_rfl] at g4
    change DataW.trod enc Try.prog W 0 (fun _ => true) true m 3 [c4] = some y4 at g4
    obtain ⟨a0, q0, _, w0⟩ := DataW.trod_int Try.underlying3 g0
    obtain rfl : c0 = .int .i64 a0 := by simpa using q0
    obtain ⟨a1, rfl, w1⟩ := row22 m _ _ g1
    obtain ⟨a2, q2, _, w2⟩ := DataW.trod_int Try.underlying3 g2
    obtain rfl : c2 = .int .i64 a2 := by simpa using q2
    obtain ⟨a3, q3, _, w3⟩ := DataW.trod_int Try.underlying3 g3
    obtain rfl : c3 = .int .i64 a3 := by simpa using q3
    obtain ⟨a4, q4, _, w4⟩ := DataW.trod_int Try.underlying3 g4
    obtain rfl : c4 = .int .i64 a4 := by simpa using q4
    exact ⟨(a0, a1, a2, a3, a4), rfl, w0, w1, w2, w3, w4⟩

theorem own : ownKnob Try.prog.godebug = none := by kernel_rfl
theorem laidOut : laidOutB Try.prog = true := by kernel_rfl

theorem walk (z0 : T24) (w : World) (w0 : ok24 w z0) :
    Calls Try.prog 3 #[.agg #[.int .i64 z0.1, .slice z0.2.1.1 z0.2.1.2.1 z0.2.1.2.2.1, .int .i64 z0.2.2.1, .int .i64 z0.2.2.2.1, .int .i64 z0.2.2.2.2]] w fun e w' => e = .returned (.bool true) ∧ Below w.heap.size w w' := by
  obtain ⟨k, ⟨ao, len, cap, zs⟩, mn, mx, wl⟩ := z0
  obtain ⟨h1, h2, h3, h4, _, _⟩ := IsRowS.reads w0.2.1 (by decide) (fun _ => rfl)
  exact Shape.shapeChecks_any k ao len cap _ mn mx wl w h1 h2 h3 h4

set_option maxRecDepth 100000 in
theorem lifted (os : Os) (started : os.Started) (H : Type) (enc : TypeId × Value → H) :
    ReturnsInHanded {} Try.checked os 3 .any (Rows.shapeChecksSpec.pre6 enc Try.prog Try.f3 Rows.shapeChecksRow.domain false) (Rows.shapeChecksSpec.post enc Try.prog Try.f3 false true false false) := by
  refine returnsInHanded_of_change (C := Try.checked) own started (by kernel_rfl) Try.func3
    (ChangeSpec.witness6 (enc := enc) (C := Try.checked) false ⟨#[], #[.agg #[.int .i64 0, .slice none 0 0, .int .i64 0, .int .i64 0, .int .i64 0]], []⟩ 8 (by kernel_rfl) (by kernel_rfl) (by kernel_rfl) (by kernel_rfl)) ?_
  intro W base args ds gs before hval0 hW hcnd _
  have hval : ∀ (j : Nat) t v, Try.f3.params[j]? = some t → args[j]? = some v → Value.okWide Try.prog W .any base t v := hval0
  have hW' := hW
  obtain ⟨p, q, hA0, hV, rfl, hfz, hnd⟩ := hW
  have hA : DataW.TrodAll enc Try.prog W 0 (fun _ => true) true Try.f3.params.toList args.toList ds p := hA0
  rw [Try.params3] at hA hval
  obtain ⟨v0, vs0, d0, ds0, p0, q0, hargs, rfl, rfl, h0, r0⟩ := trodAll_cons hA
  obtain ⟨rfl, rfl, rfl⟩ := trodAll_nil r0
  obtain rfl : args = #[v0] := by cases args; simp_all
  obtain ⟨rfl, rfl⟩ := trodVars_none hV
  obtain ⟨cs0, rfl, hsz0⟩ := okWide_struct Try.underlying24 (hval 0 24 v0 rfl rfl)
  have k0 := h0
  have lt0 : ∀ x ∈ p0, x.block < W.heap.size := by obtain ⟨m, hm⟩ := k0; exact DataW.trod_lt m _ _ _ hm
  obtain ⟨z0, hz0, w0⟩ : ∃ z : T24, cs0.toList = cells24 z ∧ ok24 W z := by
    obtain ⟨fuel, hf⟩ := h0
    exact dec24 _ _ _ hf
  obtain rfl : cs0 = #[.int .i64 z0.1, .slice z0.2.1.1 z0.2.1.2.1 z0.2.1.2.2.1, .int .i64 z0.2.2.1, .int .i64 z0.2.2.2.1, .int .i64 z0.2.2.2.2] := by apply Array.toList_inj.1; rw [hz0]; rfl
  clear hA0 hval0
  refine (walk z0 W w0).mono fun e W' ⟨he, bel⟩ => ?_
  subst he
  exact ⟨_, rfl, _, _, _, [], _, [], hW', trodAll_mk1 (shut_bool Try.underlying4 _), (trodAll_cons_mk (Below.trod laidOut (by kernel_rfl) (of_decide_eq_true (by kernel_rfl)) k0 bel lt0) trodAll_mk0), rfl, bel.frame _, fun h => by cases h⟩

theorem over : Rows.shapeChecksRow.holds Try.pinned (OpenSpec.ofChange Rows.shapeChecksSpec) :=
  OpenClaim.holds_of_wide 3 Try.f3 rfl rfl rfl rfl rfl rfl rfl ⟨rfl, rfl, rfl, rfl, rfl⟩ rfl rfl rfl rfl rfl (by kernel_rfl) Try.func3 (by kernel_rfl)
    (of_decide_eq_true (by kernel_rfl)) (by unfold Func.isWrapper; first | (rw [if_pos (by decide +kernel)]; kernel_rfl) | (rw [if_neg (by decide +kernel)]; exact ⟨rfl, rfl⟩))
    (fun os started H enc _ => lifted os started H enc)

theorem proved : Rows.ShapeChecksSaid := over
#print axioms proved
end Go.Proofs.Ytlmogkhgangmgaa.shapeChecks
