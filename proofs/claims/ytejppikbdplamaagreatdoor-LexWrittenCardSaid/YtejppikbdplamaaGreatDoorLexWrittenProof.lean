/-
  musterlaw05.LexWritten: for every input the law returns true, and each argument reads behind the call as it read before. Where the call begins, the library's variables that the row lists read as the program's own text lays them: the card ties them to it.
-/
import Derived.Test.YtejppikbdplamaaGreatDoorRows
import Derived.Test.YtejppikbdplamaaGreatDoorCards
import Derived.Test.YtejppikbdplamaaGreatDoorTie
import Derived.Test.YtejppikbdplamaaGreatDoorLaw05
import Derived.Test.YtejppikbdplamaaGreatDoorLexTb
import Derived.WalkKit
import Derived.ProofKit
import Derived.OpenShut
import Derived.ShutString
import Derived.ChangeOld
import Derived.Below
import Derived.LaidMore
import Derived.Lay
import Derived.SevenTiedAt
import Derived.Stop.Joined
namespace Go.Proofs.YtejppikbdplamaaGreatDoor.lexWritten
open Go.ChangeShapes Go.WideShapes Go.ChangeAt Go.RowKit
open Go.ChangeMaps (open_string shut_string)
open Base
set_option linter.unusedVariables false

abbrev T24 := Int × ByteArray × Int × Int
def cells24 (z : T24) : List Value := [.int .i64 z.1, .string z.2.1, .int .i64 z.2.2.1, .int .i64 z.2.2.2]
def ok24 (z : T24) : Prop := (Lit.int .i64 z.1).wf = true ∧ z.2.1.size ≤ maxLen ∧ (Lit.int .i64 z.2.2.1).wf = true ∧ (Lit.int .i64 z.2.2.2).wf = true
theorem len24 (z : T24) : (cells24 z).length = 4 := rfl
theorem dec24 {H : Type} {enc : TypeId × Value → H} {W : World} (n : Nat) (cs : List Value) (y : DataW H × List MemPlace) (h : DataW.trod enc Tryz.prog W 0 (fun _ => true) true n 24 cs = some y) : ∃ z : T24, cs = cells24 z ∧ ok24 z := by
  obtain ⟨hl, m, hf⟩ := trod_fields Tryz.underlying24 (by kernel_rfl) (by kernel_rfl) h
  match cs, hl with
  | [c0, c1, c2, c3], _ =>
    obtain ⟨v0, y0, e0, t0⟩ := hf 0 _ rfl
    obtain rfl : c0 = v0 := by simpa using e0
    obtain ⟨a0, g0, _, w0⟩ := DataW.trod_int Tryz.underlying3 t0
    obtain rfl : c0 = .int .i64 a0 := by simpa using g0
    obtain ⟨v1, y1, e1, t1⟩ := hf 1 _ rfl
    obtain rfl : c1 = v1 := by simpa using e1
    obtain ⟨a1, g1, _, w1⟩ := DataW.trod_string Tryz.underlying9 t1
    obtain rfl : c1 = .string a1 := by simpa using g1
    obtain ⟨v2, y2, e2, t2⟩ := hf 2 _ rfl
    obtain rfl : c2 = v2 := by simpa using e2
    obtain ⟨a2, g2, _, w2⟩ := DataW.trod_int Tryz.underlying3 t2
    obtain rfl : c2 = .int .i64 a2 := by simpa using g2
    obtain ⟨v3, y3, e3, t3⟩ := hf 3 _ rfl
    obtain rfl : c3 = v3 := by simpa using e3
    obtain ⟨a3, g3, _, w3⟩ := DataW.trod_int Tryz.underlying3 t3
    obtain rfl : c3 = .int .i64 a3 := by simpa using g3
    exact ⟨(a0, a1, a2, a3), rfl, w0, w1, w2, w3⟩

theorem own : ownKnob Tryz.prog.godebug = none := by kernel_rfl
theorem laidOut : laidOutB Tryz.prog = true := by kernel_rfl

theorem walk (a0 : Option Addr) (len0 cap0 : Nat) (z0 : List T24) (z1 : T24) (w : World) (w0 : IsRowS 4 cells24 ok24 w a0 len0 cap0 z0) (w1 : ok24 z1) (hT : LexLib.Tb w) :
    Calls Tryz.prog 3 #[.slice a0 len0 cap0, .agg #[.int .i64 z1.1, .string z1.2.1, .int .i64 z1.2.2.1, .int .i64 z1.2.2.2]] w fun e w' => e = .returned (.bool true) ∧ Below w.heap.size w w' := by
  obtain ⟨h1, h2, h3, h4, h5, _⟩ := w0.reads (by decide) (fun z => rfl)
  obtain ⟨k, s, n, a⟩ := z1
  have b1 := bd_i64 w1.2.2.1
  exact Lex.lexWritten_any a0 len0 cap0 _ k s n a w1.2.1 b1.2 b1.1 w hT h1 (by omega) (fun t ht => ⟨(h5 t ht).2.1, (bd_i64 (h5 t ht).2.2.1).2⟩) (fun t ht => (bd_i64 (h5 t ht).2.2.1).1) h4

set_option maxRecDepth 100000 in
theorem lifted (os : Os) (started : os.Started) (H : Type) (enc : TypeId × Value → H) :
    ReturnsInHanded {} Tryz.checked os 3 .any (fun w args => (Rows.lexWrittenSpec.pre enc Tryz.prog Tryz.f3 Rows.lexWrittenRow.domain false w args ∧ laidMetH Tryz.prog Rows.lexWrittenRow.laid w) ∧ sizedMet enc Tryz.prog Tryz.f3 (OpenSpec.ofChange Rows.lexWrittenSpec) false w args)
      (Rows.lexWrittenSpec.post enc Tryz.prog Tryz.f3 false true false false) := by
  refine returnsInHanded_of_change_and (C := Tryz.checked) (X := fun w _ => laidMetH Tryz.prog Rows.lexWrittenRow.laid w) (fun _ _ _ hh h => h.of_heap hh) own started (by kernel_rfl) Tryz.func3
    (ChangeSpec.witness_shaped (enc := enc) (C := Tryz.checked) (os := os) (X := fun w _ => laidMetH Tryz.prog Rows.lexWrittenRow.laid w) false (World.laidAll Tryz.prog os Rows.lexWrittenRow.laid) #[.slice none 0 0, .agg #[.int .i64 0, .string ByteArray.empty, .int .i64 0, .int .i64 0]] 8 (World.laidAll_os _ _ _)
      (World.shaped_of_ZipB (by kernel_rfl) (by kernel_rfl)) (by kernel_rfl) (by kernel_rfl) (by kernel_rfl)
      (by rw [MakeChecks.laidMetH_plain _ _ _ (by kernel_rfl)]; exact laidMet_laidAll _ (by kernel_rfl) (by kernel_rfl))) ?_
  intro W base args ds gs before hval0 hW _ _ hL _
  have hT : LexLib.Tb W := LexLib.tb_of_laid (by rw [MakeChecks.laidMetH_plain _ _ _ (by kernel_rfl)] at hL; exact hL)
  have hval : ∀ (j : Nat) t v, Tryz.f3.params[j]? = some t → args[j]? = some v → Value.okWide Tryz.prog W .any base t v := hval0
  have hW' := hW
  obtain ⟨p, q, hA0, hV, rfl, hfz, hnd⟩ := hW
  have hA : DataW.TrodAll enc Tryz.prog W 0 (fun _ => true) true Tryz.f3.params.toList args.toList ds p := hA0
  rw [Tryz.params3] at hA hval
  obtain ⟨v0, vs0, d0, ds0, p0, q0, hargs, rfl, rfl, h0, r0⟩ := trodAll_cons hA
  obtain ⟨v1, vs1, d1, ds1, p1, q1, rfl, rfl, rfl, h1, r1⟩ := trodAll_cons r0
  obtain ⟨rfl, rfl, rfl⟩ := trodAll_nil r1
  obtain rfl : args = #[v0, v1] := by cases args; simp_all
  obtain ⟨rfl, rfl⟩ := trodVars_none hV
  obtain ⟨a0, len0, cap0, rfl⟩ := okWide_slice Tryz.underlying22 (hval 0 22 v0 rfl rfl)
  have k0 := h0
  have lt0 : ∀ x ∈ p0, x.block < W.heap.size := by obtain ⟨m, hm⟩ := k0; exact DataW.trod_lt m _ _ _ hm
  obtain ⟨z0, w0⟩ : ∃ zs : List T24, IsRowS 4 cells24 ok24 W a0 len0 cap0 zs := by
    obtain ⟨fuel, hf⟩ := h0
    rcases open_rowS (f := cells24) (ok := ok24) Tryz.underlying22 (by kernel_rfl) dec24 (fun _ => rfl) hf with hcs | ⟨x, l, c, zs, hcs, hl, hm, hz, hcell, hwz⟩
    · simp [Value.cells] at hcs
      obtain ⟨rfl, rfl, rfl⟩ := hcs
      exact ⟨[], .inl ⟨rfl, rfl, rfl, rfl⟩⟩
    · simp [Value.cells] at hcs
      obtain ⟨rfl, rfl, rfl⟩ := hcs
      exact ⟨zs, .inr ⟨_, rfl, hl, hm, hz, hcell, hwz⟩⟩
  obtain ⟨cs1, rfl, hsz1⟩ := okWide_struct Tryz.underlying24 (hval 1 24 v1 rfl rfl)
  have k1 := h1
  have lt1 : ∀ x ∈ p1, x.block < W.heap.size := by obtain ⟨m, hm⟩ := k1; exact DataW.trod_lt m _ _ _ hm
  obtain ⟨z1, hz1, w1⟩ : ∃ z : T24, cs1.toList = cells24 z ∧ ok24 z := by
    obtain ⟨fuel, hf⟩ := h1
    exact dec24 _ _ _ hf
  obtain rfl : cs1 = #[.int .i64 z1.1, .string z1.2.1, .int .i64 z1.2.2.1, .int .i64 z1.2.2.2] := by apply Array.toList_inj.1; rw [hz1]; rfl
  clear hA0 hval0
  refine (walk a0 len0 cap0 z0 z1 W w0 w1 hT).mono fun e W' ⟨he, bel⟩ => ?_
  subst he
  exact ⟨_, rfl, _, _, _, [], _, [], hW', trodAll_mk1 (shut_bool Tryz.underlying4 _), (trodAll_cons_mk (Below.trod laidOut (by kernel_rfl) (of_decide_eq_true (by kernel_rfl)) k0 bel lt0) (trodAll_cons_mk (Below.trod laidOut (by kernel_rfl) (of_decide_eq_true (by kernel_rfl)) k1 bel lt1) trodAll_mk0)), rfl, bel.frame _, fun h => by cases h⟩

theorem over : Rows.lexWrittenRow.holds Tryz.pinned (OpenSpec.ofChange Rows.lexWrittenSpec) :=
  OpenClaim.holds_of_wide 3 Tryz.f3 rfl rfl rfl rfl rfl rfl rfl ⟨rfl, rfl, rfl, rfl, rfl⟩ rfl rfl rfl rfl rfl (by kernel_rfl) Tryz.func3 (by kernel_rfl)
    (of_decide_eq_true (by kernel_rfl)) (by unfold Func.isWrapper; first | (rw [if_pos (by decide +kernel)]; kernel_rfl) | (rw [if_neg (by decide +kernel)]; exact ⟨rfl, rfl⟩))
    (fun os started H enc _ => lifted os started H enc)

theorem proved : Rows.LexWrittenCardSaid :=
  Claim7.holds_tied_plain_at .later [] [.data, .data, .data, .data, .sentinel, .sentinel, .pinned] true (true, "1a25469ef5b9fffb9110541b2567c5c6ea30239bb5ffeb1f4e94fc8f5ccfda5d") true over (fun _ h => by cases h) (by kernel_rfl) (fun _ h => by cases h) lexWritten_row_tie rfl ⟨rfl, rfl⟩ (by kernel_rfl) rfl
    (fun f fn hf hfn => by
      obtain rfl : f = 3 := Option.some.inj ((show Tryz.prog.funcNamed "muster/musterlaw05.LexWritten" = some 3 by kernel_rfl).symm.trans hf) |>.symm
      obtain rfl : fn = Tryz.f3 := (Option.some.inj (Tryz.func3.symm.trans hfn)).symm
      exact ⟨by kernel_rfl, fun j t ht => by
        rw [Tryz.params3] at ht
        have hm : t ∈ [22, 24] := by simpa using Array.mem_of_getElem? ht
        have hall : ([22, 24].all fun u => !Tryz.prog.wantsStandIn u) = true := by kernel_rfl
        exact (show Tryz.prog.wantsStandIn t = false by simpa using List.all_eq_true.1 hall t hm)⟩)
    (by kernel_rfl)
#print axioms proved
end Go.Proofs.YtejppikbdplamaaGreatDoor.lexWritten
