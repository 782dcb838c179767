/-
  musterlaw10.ProfileOrder: for every input the law returns true, and each argument reads behind the call as it read before. No conditions.
-/
import Derived.Test.YtoiahlbaiakngaaRows
import Derived.Test.YtoiahlbaiakngaaLaw10Adds
import Derived.WalkKit
import Derived.ProofKit
import Derived.OpenShut
import Derived.ShutString
import Derived.ChangeOld
import Derived.Below
namespace Go.Proofs.Ytoiahlbaiakngaa.profileOrder
open Go.ChangeShapes Go.WideShapes Go.ChangeAt Go.RowKit
open Go.ChangeMaps (open_string shut_string)
open Base
set_option linter.unusedVariables false
set_option maxRecDepth 100000

abbrev T43 := Int × Int
def cells43 (z : T43) : List Value := [.int .i64 z.1, .int .i64 z.2]
def ok43 (z : T43) : Prop := (Lit.int .i64 z.1).wf = true ∧ (Lit.int .i64 z.2).wf = true
theorem len43 (z : T43) : (cells43 z).length = 2 := rfl
theorem dec43 {H : Type} {enc : TypeId × Value → H} {W : World} (n : Nat) (cs : List Value) (y : DataW H × List MemPlace) (h : DataW.trod enc Try.prog W 0 (fun _ => true) true n 43 cs = some y) : ∃ z : T43, cs = cells43 z ∧ ok43 z := by
  obtain ⟨hl, m, hf⟩ := trod_fields Try.underlying43 (by kernel_rfl) (by kernel_rfl) h
  match cs, hl with
  | [c0, c1], _ =>
    obtain ⟨v0, y0, e0, t0⟩ := hf 0 _ rfl
    obtain rfl : c0 = v0 := by simpa using e0
    obtain ⟨a0, g0, _, w0⟩ := DataW.trod_int Try.underlying3 t0
    obtain rfl : c0 = .int .i64 a0 := by simpa using g0
    obtain ⟨v1, y1, e1, t1⟩ := hf 1 _ rfl
    obtain rfl : c1 = v1 := by simpa using e1
    obtain ⟨a1, g1, _, w1⟩ := DataW.trod_int Try.underlying3 t1
    obtain rfl : c1 = .int .i64 a1 := by simpa using g1
    exact ⟨(a0, a1), rfl, w0, w1⟩

abbrev T34 := Int × Int × Int
def cells34 (z : T34) : List Value := [.int .i64 z.1, .int .i64 z.2.1, .int .i64 z.2.2]
def ok34 (z : T34) : Prop := (Lit.int .i64 z.1).wf = true ∧ (Lit.int .i64 z.2.1).wf = true ∧ (Lit.int .i64 z.2.2).wf = true
theorem len34 (z : T34) : (cells34 z).length = 3 := rfl
theorem dec34 {H : Type} {enc : TypeId × Value → H} {W : World} (n : Nat) (cs : List Value) (y : DataW H × List MemPlace) (h : DataW.trod enc Try.prog W 0 (fun _ => true) true n 34 cs = some y) : ∃ z : T34, cs = cells34 z ∧ ok34 z := by
  obtain ⟨hl, m, hf⟩ := trod_fields Try.underlying34 (by kernel_rfl) (by kernel_rfl) h
  match cs, hl with
  | [c0, c1, c2], _ =>
    obtain ⟨v0, y0, e0, t0⟩ := hf 0 _ rfl
    obtain rfl : c0 = v0 := by simpa using e0
    obtain ⟨a0, g0, _, w0⟩ := DataW.trod_int Try.underlying3 t0
    obtain rfl : c0 = .int .i64 a0 := by simpa using g0
    obtain ⟨v1, y1, e1, t1⟩ := hf 1 _ rfl
    obtain rfl : c1 = v1 := by simpa using e1
    obtain ⟨a1, g1, _, w1⟩ := DataW.trod_int Try.underlying3 t1
    obtain rfl : c1 = .int .i64 a1 := by simpa using g1
    obtain ⟨v2, y2, e2, t2⟩ := hf 2 _ rfl
    obtain rfl : c2 = v2 := by simpa using e2
    obtain ⟨a2, g2, _, w2⟩ := DataW.trod_int Try.underlying3 t2
    obtain rfl : c2 = .int .i64 a2 := by simpa using g2
    exact ⟨(a0, a1, a2), rfl, w0, w1, w2⟩

theorem own : ownKnob Try.prog.godebug = none := by kernel_rfl
theorem laidOut : laidOutB Try.prog = true := by kernel_rfl

theorem walk (a0 : Option Addr) (len0 cap0 : Nat) (z0 : List T43) (z1 : T34) (z2 : T34) (w : World) (w0 : IsRowS 2 cells43 ok43 w a0 len0 cap0 z0) (w1 : ok34 z1) (w2 : ok34 z2) :
    Calls Try.prog 5 #[.slice a0 len0 cap0, .agg #[.int .i64 z1.1, .int .i64 z1.2.1, .int .i64 z1.2.2], .agg #[.int .i64 z2.1, .int .i64 z2.2.1, .int .i64 z2.2.2]] w fun e w' => e = .returned (.bool true) ∧ Below w.heap.size w w' := by
  obtain ⟨h1, h2, h3, h4, _, _⟩ := w0.reads (by decide) (fun z => rfl)
  obtain ⟨x, y, n⟩ := z1
  obtain ⟨x2, y2, n2⟩ := z2
  exact Prof.order_any a0 len0 cap0 _ x y n x2 y2 n2 w h1 h2 h3 h4

set_option maxRecDepth 100000 in
theorem lifted (os : Os) (started : os.Started) (H : Type) (enc : TypeId × Value → H) :
    ReturnsInHanded {} Try.checked os 5 .any (Rows.profileOrderSpec.pre6 enc Try.prog Try.f5 Rows.profileOrderRow.domain false) (Rows.profileOrderSpec.post enc Try.prog Try.f5 false true false false) := by
  refine returnsInHanded_of_change (C := Try.checked) own started (by kernel_rfl) Try.func5
    (ChangeSpec.witness6 (enc := enc) (C := Try.checked) false ⟨#[], #[.slice none 0 0, .agg #[.int .i64 0, .int .i64 0, .int .i64 0], .agg #[.int .i64 0, .int .i64 0, .int .i64 0]], []⟩ 8 (by kernel_rfl) (by kernel_rfl) (by kernel_rfl) (by kernel_rfl)) ?_
  intro W base args ds gs before hval0 hW hcnd _
  have hval : ∀ (j : Nat) t v, Try.f5.params[j]? = some t → args[j]? = some v → Value.okWide Try.prog W .any base t v := hval0
  have hW' := hW
  obtain ⟨p, q, hA0, hV, rfl, hfz, hnd⟩ := hW
  have hA : DataW.TrodAll enc Try.prog W 0 (fun _ => true) true Try.f5.params.toList args.toList ds p := hA0
  rw [Try.params5] at hA hval
  obtain ⟨v0, vs0, d0, ds0, p0, q0, hargs, rfl, rfl, h0, r0⟩ := trodAll_cons hA
  obtain ⟨v1, vs1, d1, ds1, p1, q1, rfl, rfl, rfl, h1, r1⟩ := trodAll_cons r0
  obtain ⟨v2, vs2, d2, ds2, p2, q2, rfl, rfl, rfl, h2, r2⟩ := trodAll_cons r1
  obtain ⟨rfl, rfl, rfl⟩ := trodAll_nil r2
  obtain rfl : args = #[v0, v1, v2] := by cases args; simp_all
  obtain ⟨rfl, rfl⟩ := trodVars_none hV
  obtain ⟨a0, len0, cap0, rfl⟩ := okWide_slice Try.underlying22 (hval 0 22 v0 rfl rfl)
  have k0 := h0
  have lt0 : ∀ x ∈ p0, x.block < W.heap.size := by obtain ⟨m, hm⟩ := k0; exact DataW.trod_lt m _ _ _ hm
  obtain ⟨z0, w0⟩ : ∃ zs : List T43, IsRowS 2 cells43 ok43 W a0 len0 cap0 zs := by
    obtain ⟨fuel, hf⟩ := h0
    rcases open_rowS (f := cells43) (ok := ok43) Try.underlying22 (by kernel_rfl) dec43 (fun _ => rfl) hf with hcs | ⟨x, l, c, zs, hcs, hl, hm, hz, hcell, hwz⟩
    · simp [Value.cells] at hcs
      obtain ⟨rfl, rfl, rfl⟩ := hcs
      exact ⟨[], .inl ⟨rfl, rfl, rfl, rfl⟩⟩
    · simp [Value.cells] at hcs
      obtain ⟨rfl, rfl, rfl⟩ := hcs
      exact ⟨zs, .inr ⟨_, rfl, hl, hm, hz, hcell, hwz⟩⟩
  obtain ⟨cs1, rfl, hsz1⟩ := okWide_struct Try.underlying34 (hval 1 34 v1 rfl rfl)
  have k1 := h1
  have lt1 : ∀ x ∈ p1, x.block < W.heap.size := by obtain ⟨m, hm⟩ := k1; exact DataW.trod_lt m _ _ _ hm
  obtain ⟨z1, hz1, w1⟩ : ∃ z : T34, cs1.toList = cells34 z ∧ ok34 z := by
    obtain ⟨fuel, hf⟩ := h1
    exact dec34 _ _ _ hf
  obtain rfl : cs1 = #[.int .i64 z1.1, .int .i64 z1.2.1, .int .i64 z1.2.2] := by apply Array.toList_inj.1; rw [hz1]; rfl
  obtain ⟨cs2, rfl, hsz2⟩ := okWide_struct Try.underlying34 (hval 2 34 v2 rfl rfl)
  have k2 := h2
  have lt2 : ∀ x ∈ p2, x.block < W.heap.size := by obtain ⟨m, hm⟩ := k2; exact DataW.trod_lt m _ _ _ hm
  obtain ⟨z2, hz2, w2⟩ : ∃ z : T34, cs2.toList = cells34 z ∧ ok34 z := by
    obtain ⟨fuel, hf⟩ := h2
    exact dec34 _ _ _ hf
  obtain rfl : cs2 = #[.int .i64 z2.1, .int .i64 z2.2.1, .int .i64 z2.2.2] := by apply Array.toList_inj.1; rw [hz2]; rfl
  clear hA0 hval0
  refine (walk a0 len0 cap0 z0 z1 z2 W w0 w1 w2).mono fun e W' ⟨he, bel⟩ => ?_
  subst he
  exact ⟨_, rfl, _, _, _, [], _, [], hW', trodAll_mk1 (shut_bool Try.underlying4 _), (trodAll_cons_mk (Below.trod laidOut (by kernel_rfl) (of_decide_eq_true (by kernel_rfl)) k0 bel lt0) (trodAll_cons_mk (Below.trod laidOut (by kernel_rfl) (of_decide_eq_true (by kernel_rfl)) k1 bel lt1) (trodAll_cons_mk (Below.trod laidOut (by kernel_rfl) (of_decide_eq_true (by kernel_rfl)) k2 bel lt2) trodAll_mk0))), rfl, bel.frame _, fun h => by cases h⟩

theorem over : Rows.profileOrderRow.holds Try.pinned (OpenSpec.ofChange Rows.profileOrderSpec) :=
  OpenClaim.holds_of_wide 5 Try.f5 rfl rfl rfl rfl rfl rfl rfl ⟨rfl, rfl, rfl, rfl, rfl⟩ rfl rfl rfl rfl rfl (by kernel_rfl) Try.func5 (by kernel_rfl)
    (of_decide_eq_true (by kernel_rfl)) (by unfold Func.isWrapper; first | (rw [if_pos (by decide +kernel)]; kernel_rfl) | (rw [if_neg (by decide +kernel)]; exact ⟨rfl, rfl⟩))
    (fun os started H enc _ => lifted os started H enc)

theorem proved : Rows.ProfileOrderSaid := over
#print axioms proved
end Go.Proofs.Ytoiahlbaiakngaa.profileOrder
