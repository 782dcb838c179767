/-
  musterlaw08.CmdBack: for every input the law returns true, and each argument reads behind the call as it read before. Where the call begins, the library's variables that the row lists read as the program's own text lays them: the card ties them to it.
-/
import Derived.Test.YtdkngidangfkiaaGreatDoorRows
import Derived.Test.YtdkngidangfkiaaGreatDoorCards
import Derived.Test.YtdkngidangfkiaaGreatDoorTie
import Derived.Test.YtdkngidangfkiaaGreatDoorJa49
import Derived.Test.YtdkngidangfkiaaGreatDoorJa48
import Derived.WalkKit
import Derived.ProofKit
import Derived.OpenShut
import Derived.ShutString
import Derived.ChangeOld
import Derived.Below
import Derived.LaidMore
import Derived.Lay
import Derived.SevenTiedAt
import Derived.Stop.Joined
namespace Go.Proofs.YtdkngidangfkiaaGreatDoor.cmdBack
open Go.ChangeShapes Go.WideShapes Go.ChangeAt Go.RowKit
open Go.ChangeMaps (open_string shut_string)
open Base
set_option linter.unusedVariables false
set_option maxRecDepth 100000

theorem okWide_array {P : Program} {w : World} {r : Reach} {base : Nat} {t : TypeId} {v : Value} {n : Nat} {e : TypeId} (ht : P.underlying t = some (.array n e)) (h : Value.okWide P w r base t v) : ∃ cs, v = .agg cs ∧ cs.size = P.cellsOf t := by
  simp only [Value.okWide, ht] at h
  obtain ⟨cs, h1, h2, _⟩ := h
  exact ⟨cs, h1, h2⟩
abbrev T88 := Int × Int
def cells88 (z : T88) : List Value := [.int .i64 z.1, .int .i64 z.2]
def ok88 (W : World) (z : T88) : Prop := (Lit.int .i64 z.1).wf = true ∧ (Lit.int .i64 z.2).wf = true
theorem len88 (z : T88) : (cells88 z).length = 2 := rfl
theorem dec88 {H : Type} {enc : TypeId × Value → H} {W : World} (n : Nat) (cs : List Value) (y : DataW H × List MemPlace) (h : DataW.trod enc Tryz.prog W 0 (fun _ => true) true n 88 cs = some y) : ∃ z : T88, cs = cells88 z ∧ ok88 W z := by
  obtain ⟨xs, m, _, _, hl, hx, hf⟩ := DataW.trod_struct Tryz.underlying88 h
  rw [show Tryz.prog.cellsOf 88 = 2 from by kernel_rfl] at hl
  have hx' : xs.length = 2 := hx
  match cs, hl with
  | [c0, c1], _ =>
    obtain ⟨y0, e0⟩ : ∃ y, xs[0]? = some y := ⟨_, List.getElem?_eq_getElem (by omega)⟩
    have g0a := hf 0 _ rfl
    rw [e0] at g0a
    have g0 : DataW.trod enc Tryz.prog W 0 (fun _ => true) true m 3 (([c0, c1].drop 0).take (Tryz.prog.cellsOf 3)) = some y0 := g0a
    rw [show Tryz.prog.cellsOf 3 = 1 from by kernel_rfl] at g0
    change DataW.trod enc Tryz.prog W 0 (fun _ => true) true m 3 [c0] = some y0 at g0
    obtain ⟨y1, e1⟩ : ∃ y, xs[1]? = some y := ⟨_, List.getElem?_eq_getElem (by omega)⟩
    have g1a := hf 1 _ rfl
    rw [e1] at g1a
    have g1 : DataW.trod enc Tryz.prog W 0 (fun _ => true) true m 3 (([c0, c1].drop 1).take (Tryz.prog.cellsOf 3)) = some y1 := g1a
    rw [show Tryz.prog.cellsOf 3 = 1 from by kernel_rfl] at g1
    change DataW.trod enc Tryz.prog W 0 (fun _ => true) true m 3 [c1] = some y1 at g1
    obtain ⟨a0, q0, _, w0⟩ := DataW.trod_int Tryz.underlying3 g0
    obtain rfl : c0 = .int .i64 a0 := by simpa using q0
    obtain ⟨a1, q1, _, w1⟩ := DataW.trod_int Tryz.underlying3 g1
    obtain rfl : c1 = .int .i64 a1 := by simpa using q1
    exact ⟨(a0, a1), rfl, w0, w1⟩

abbrev T22 := Option Addr × Nat × Nat × List T88
def ok22 (W : World) (z : T22) : Prop := IsRowS 2 cells88 (ok88 W) W z.1 z.2.1 z.2.2.1 z.2.2.2
theorem row22 {H : Type} {enc : TypeId × Value → H} {W : World} (n : Nat) (c : Value) (y : DataW H × List MemPlace) (h : DataW.trod enc Tryz.prog W 0 (fun _ => true) true n 22 [c] = some y) : ∃ z : T22, c = .slice z.1 z.2.1 z.2.2.1 ∧ ok22 W z := by
  rcases open_rowS (f := cells88) (ok := ok88 W) Tryz.underlying22 (by kernel_rfl) dec88 (fun _ => rfl) h with hcs | ⟨x, l, c', zs, hcs, hl, hm, hz, hcell, hwz⟩
  · obtain rfl : c = .slice none 0 0 := by simpa using hcs
    exact ⟨(none, 0, 0, []), rfl, .inl ⟨rfl, rfl, rfl, rfl⟩⟩
  · obtain rfl : c = .slice (some x) l c' := by simpa using hcs
    exact ⟨(some x, l, c', zs), rfl, .inr ⟨_, rfl, hl, hm, hz, hcell, hwz⟩⟩

abbrev T24 := Int × T22 × Int × Int × Int
def cells24 (z : T24) : List Value := [.int .i64 z.1, .slice z.2.1.1 z.2.1.2.1 z.2.1.2.2.1, .int .i64 z.2.2.1, .int .i64 z.2.2.2.1, .int .i64 z.2.2.2.2]
def ok24 (W : World) (z : T24) : Prop := (Lit.int .i64 z.1).wf = true ∧ ok22 W z.2.1 ∧ (Lit.int .i64 z.2.2.1).wf = true ∧ (Lit.int .i64 z.2.2.2.1).wf = true ∧ (Lit.int .i64 z.2.2.2.2).wf = true
theorem len24 (z : T24) : (cells24 z).length = 5 := rfl
theorem dec24 {H : Type} {enc : TypeId × Value → H} {W : World} (n : Nat) (cs : List Value) (y : DataW H × List MemPlace) (h : DataW.trod enc Tryz.prog W 0 (fun _ => true) true n 24 cs = some y) : ∃ z : T24, cs = cells24 z ∧ ok24 W z := by
  obtain ⟨xs, m, _, _, hl, hx, hf⟩ := DataW.trod_struct Tryz.underlying24 h
  rw [show Tryz.prog.cellsOf 24 = 5 from by kernel_rfl] at hl
  have hx' : xs.length = 5 := hx
  match cs, hl with
  | [c0, c1, c2, c3, c4], _ =>
    obtain ⟨y0, e0⟩ : ∃ y, xs[0]? = some y := ⟨_, List.getElem?_eq_getElem (by omega)⟩
    have g0a := hf 0 _ rfl
    rw [e0] at g0a
    have g0 : DataW.trod enc Tryz.prog W 0 (fun _ => true) true m 3 (([c0, c1, c2, c3, c4].drop 0).take (Tryz.prog.cellsOf 3)) = some y0 := g0a
    rw [show Tryz.prog.cellsOf 3 = 1 from by kernel_rfl] at g0
    change DataW.trod enc Tryz.prog W 0 (fun _ => true) true m 3 [c0] = some y0 at g0
    obtain ⟨y1, e1⟩ : ∃ y, xs[1]? = some y := ⟨_, List.getElem?_eq_getElem (by omega)⟩
    have g1a := hf 1 _ rfl
    rw [e1] at g1a
    have g1 : DataW.trod enc Tryz.prog W 0 (fun _ => true) true m 22 (([c0, c1, c2, c3, c4].drop 1).take (Tryz.prog.cellsOf 22)) = some y1 := g1a
    rw [show Tryz.prog.cellsOf 22 = 1 from by kernel_rfl] at g1
    change DataW.trod enc Tryz.prog W 0 (fun _ => true) true m 22 [c1] = some y1 at g1
    obtain ⟨y2, e2⟩ : ∃ y, xs[2]? = some y := ⟨_, List.getElem?_eq_getElem (by omega)⟩
    have g2a := hf 2 _ rfl
    rw [e2] at g2a
    have g2 : DataW.trod enc Tryz.prog W 0 (fun _ => true) true m 3 (([c0, c1, c2, c3, c4].drop 2).take (Tryz.prog.cellsOf 3)) = some y2 := g2a
    rw [show Tryz.prog.cellsOf 3 = 1 from by kernel_rfl] at g2
    change DataW.trod enc Tryz.prog W 0 (fun _ => true) true m 3 [c2] = some y2 at g2
    obtain ⟨y3, e3⟩ : ∃ y, xs[3]? = some y := ⟨_, List.getElem?_eq_getElem (by omega)⟩
    have g3a := hf 3 _ rfl
    rw [e3] at g3a
    have g3 : DataW.trod enc Tryz.prog W 0 (fun _ => true) true m 3 (([c0, c1, c2, c3, c4].drop 3).take (Tryz.prog.cellsOf 3)) = some y3 := g3a
    rw [show Tryz.prog.cellsOf 3 = 1 from by kernel_rfl] at g3
    change DataW.trod enc Tryz.prog W 0 (fun _ => true) true m 3 [c3] = some y3 at g3
    obtain ⟨y4, e4⟩ : ∃ y, xs[4]? = some y := ⟨_, List.getElem?_eq_getElem (by omega)⟩
    have g4a := hf 4 _ rfl
    rw [e4] at g4a
    have g4 : DataW.trod enc Tryz.prog W 0 (fun _ => true) true m 3 (([c0, c1, c2, c3, c4].drop 4).take (Tryz.prog.cellsOf 3)) = some y4 := g4a
    rw [show Tryz.prog.cellsOf 3 = 1 from by kernel_rfl] at g4
    change DataW.trod enc Tryz.prog W 0 (fun _ => true) true m 3 [c4] = some y4 at g4
    obtain ⟨a0, q0, _, w0⟩ := DataW.trod_int Tryz.underlying3 g0
    obtain rfl : c0 = .int .i64 a0 := by simpa using q0
    obtain ⟨a1, rfl, w1⟩ := row22 m _ _ g1
    obtain ⟨a2, q2, _, w2⟩ := DataW.trod_int Tryz.underlying3 g2
    obtain rfl : c2 = .int .i64 a2 := by simpa using q2
    obtain ⟨a3, q3, _, w3⟩ := DataW.trod_int Tryz.underlying3 g3
    obtain rfl : c3 = .int .i64 a3 := by simpa using q3
    obtain ⟨a4, q4, _, w4⟩ := DataW.trod_int Tryz.underlying3 g4
    obtain rfl : c4 = .int .i64 a4 := by simpa using q4
    exact ⟨(a0, a1, a2, a3, a4), rfl, w0, w1, w2, w3, w4⟩

abbrev T64 := Int × Int
def cells64 (z : T64) : List Value := [.int .i64 z.1, .int .i64 z.2]
def ok64 (W : World) (z : T64) : Prop := (Lit.int .i64 z.1).wf = true ∧ (Lit.int .i64 z.2).wf = true
theorem len64 (z : T64) : (cells64 z).length = 2 := rfl
theorem dec64 {H : Type} {enc : TypeId × Value → H} {W : World} (n : Nat) (cs : List Value) (y : DataW H × List MemPlace) (h : DataW.trod enc Tryz.prog W 0 (fun _ => true) true n 64 cs = some y) : ∃ z : T64, cs = cells64 z ∧ ok64 W z := by
  obtain ⟨xs, m, _, _, hl, hx, hf⟩ := DataW.trod_struct Tryz.underlying64 h
  rw [show Tryz.prog.cellsOf 64 = 2 from by kernel_rfl] at hl
  have hx' : xs.length = 2 := hx
  match cs, hl with
  | [c0, c1], _ =>
    obtain ⟨y0, e0⟩ : ∃ y, xs[0]? = some y := ⟨_, List.getElem?_eq_getElem (by omega)⟩
    have g0a := hf 0 _ rfl
    rw [e0] at g0a
    have g0 : DataW.trod enc Tryz.prog W 0 (fun _ => true) true m 3 (([c0, c1].drop 0).take (Tryz.prog.cellsOf 3)) = some y0 := g0a
    rw [show Tryz.prog.cellsOf 3 = 1 from by kernel_rfl] at g0
    change DataW.trod enc Tryz.prog W 0 (fun _ => true) true m 3 [c0] = some y0 at g0
    obtain ⟨y1, e1⟩ : ∃ y, xs[1]? = some y := ⟨_, List.getElem?_eq_getElem (by omega)⟩
    have g1a := hf 1 _ rfl
    rw [e1] at g1a
    have g1 : DataW.trod enc Tryz.prog W 0 (fun _ => true) true m 3 (([c0, c1].drop 1).take (Tryz.prog.cellsOf 3)) = some y1 := g1a
    rw [show Tryz.prog.cellsOf 3 = 1 from by kernel_rfl] at g1
    change DataW.trod enc Tryz.prog W 0 (fun _ => true) true m 3 [c1] = some y1 at g1
    obtain ⟨a0, q0, _, w0⟩ := DataW.trod_int Tryz.underlying3 g0
    obtain rfl : c0 = .int .i64 a0 := by simpa using q0
    obtain ⟨a1, q1, _, w1⟩ := DataW.trod_int Tryz.underlying3 g1
    obtain rfl : c1 = .int .i64 a1 := by simpa using q1
    exact ⟨(a0, a1), rfl, w0, w1⟩

abbrev T25 := Option Addr × Nat × Nat × List T64
def ok25 (W : World) (z : T25) : Prop := IsRowS 2 cells64 (ok64 W) W z.1 z.2.1 z.2.2.1 z.2.2.2
theorem row25 {H : Type} {enc : TypeId × Value → H} {W : World} (n : Nat) (c : Value) (y : DataW H × List MemPlace) (h : DataW.trod enc Tryz.prog W 0 (fun _ => true) true n 25 [c] = some y) : ∃ z : T25, c = .slice z.1 z.2.1 z.2.2.1 ∧ ok25 W z := by
  rcases open_rowS (f := cells64) (ok := ok64 W) Tryz.underlying25 (by kernel_rfl) dec64 (fun _ => rfl) h with hcs | ⟨x, l, c', zs, hcs, hl, hm, hz, hcell, hwz⟩
  · obtain rfl : c = .slice none 0 0 := by simpa using hcs
    exact ⟨(none, 0, 0, []), rfl, .inl ⟨rfl, rfl, rfl, rfl⟩⟩
  · obtain rfl : c = .slice (some x) l c' := by simpa using hcs
    exact ⟨(some x, l, c', zs), rfl, .inr ⟨_, rfl, hl, hm, hz, hcell, hwz⟩⟩

abbrev T27 := Int × Int × ByteArray × ByteArray × ByteArray × T24 × Int × Bool × Int × Bool × T25 × Int × Int × Int
def cells27 (z : T27) : List Value := [.int .i64 z.1, .int .i64 z.2.1, .string z.2.2.1, .string z.2.2.2.1, .string z.2.2.2.2.1, .int .i64 z.2.2.2.2.2.1.1, .slice z.2.2.2.2.2.1.2.1.1 z.2.2.2.2.2.1.2.1.2.1 z.2.2.2.2.2.1.2.1.2.2.1, .int .i64 z.2.2.2.2.2.1.2.2.1, .int .i64 z.2.2.2.2.2.1.2.2.2.1, .int .i64 z.2.2.2.2.2.1.2.2.2.2, .int .i64 z.2.2.2.2.2.2.1, .bool z.2.2.2.2.2.2.2.1, .int .i64 z.2.2.2.2.2.2.2.2.1, .bool z.2.2.2.2.2.2.2.2.2.1, .slice z.2.2.2.2.2.2.2.2.2.2.1.1 z.2.2.2.2.2.2.2.2.2.2.1.2.1 z.2.2.2.2.2.2.2.2.2.2.1.2.2.1, .int .i64 z.2.2.2.2.2.2.2.2.2.2.2.1, .int .i64 z.2.2.2.2.2.2.2.2.2.2.2.2.1, .int .i64 z.2.2.2.2.2.2.2.2.2.2.2.2.2]
def ok27 (W : World) (z : T27) : Prop := (Lit.int .i64 z.1).wf = true ∧ (Lit.int .i64 z.2.1).wf = true ∧ z.2.2.1.size ≤ maxLen ∧ z.2.2.2.1.size ≤ maxLen ∧ z.2.2.2.2.1.size ≤ maxLen ∧ ok24 W z.2.2.2.2.2.1 ∧ (Lit.int .i64 z.2.2.2.2.2.2.1).wf = true ∧ True ∧ (Lit.int .i64 z.2.2.2.2.2.2.2.2.1).wf = true ∧ True ∧ ok25 W z.2.2.2.2.2.2.2.2.2.2.1 ∧ (Lit.int .i64 z.2.2.2.2.2.2.2.2.2.2.2.1).wf = true ∧ (Lit.int .i64 z.2.2.2.2.2.2.2.2.2.2.2.2.1).wf = true ∧ (Lit.int .i64 z.2.2.2.2.2.2.2.2.2.2.2.2.2).wf = true
theorem len27 (z : T27) : (cells27 z).length = 18 := rfl
theorem dec27 {H : Type} {enc : TypeId × Value → H} {W : World} (n : Nat) (cs : List Value) (y : DataW H × List MemPlace) (h : DataW.trod enc Tryz.prog W 0 (fun _ => true) true n 27 cs = some y) : ∃ z : T27, cs = cells27 z ∧ ok27 W z := by
  obtain ⟨xs, m, _, _, hl, hx, hf⟩ := DataW.trod_struct Tryz.underlying27 h
  rw [show Tryz.prog.cellsOf 27 = 18 from by kernel_rfl] at hl
  have hx' : xs.length = 14 := hx
  match cs, hl with
  | [c0, c1, c2, c3, c4, c5, c6, c7, c8, c9, c10, c11, c12, c13, c14, c15, c16, c17], _ =>
    obtain ⟨y0, e0⟩ : ∃ y, xs[0]? = some y := ⟨_, List.getElem?_eq_getElem (by omega)⟩
    have g0a := hf 0 _ rfl
    rw [e0] at g0a
    have g0 : DataW.trod enc Tryz.prog W 0 (fun _ => true) true m 3 (([c0, c1, c2, c3, c4, c5, c6, c7, c8, c9, c10, c11, c12, c13, c14, c15, c16, c17].drop 0).take (Tryz.prog.cellsOf 3)) = some y0 := g0a
    rw [show Tryz.prog.cellsOf 3 = 1 from by kernel_rfl] at g0
    change DataW.trod enc Tryz.prog W 0 (fun _ => true) true m 3 [c0] = some y0 at g0
    obtain ⟨y1, e1⟩ : ∃ y, xs[1]? = some y := ⟨_, List.getElem?_eq_getElem (by omega)⟩
    have g1a := hf 1 _ rfl
    rw [e1] at g1a
    have g1 : DataW.trod enc Tryz.prog W 0 (fun _ => true) true m 3 (([c0, c1, c2, c3, c4, c5, c6, c7, c8, c9, c10, c11, c12, c13, c14, c15, c16, c17].drop 1).take (Tryz.prog.cellsOf 3)) = some y1 := g1a
    rw [show Tryz.prog.cellsOf 3 = 1 from by kernel_rfl] at g1
    change DataW.trod enc Tryz.prog W 0 (fun _ => true) true m 3 [c1] = some y1 at g1
    obtain ⟨y2, e2⟩ : ∃ y, xs[2]? = some y := ⟨_, List.getElem?_eq_getElem (by omega)⟩
    have g2a := hf 2 _ rfl
    rw [e2] at g2a
    have g2 : DataW.trod enc Tryz.prog W 0 (fun _ => true) true m 9 (([c0, c1, c2, c3, c4, c5, c6, c7, c8, c9, c10, c11, c12, c13, c14, c15, c16, c17].drop 2).take (Tryz.prog.cellsOf 9)) = some y2 := g2a
    rw [show Tryz.prog.cellsOf 9 = 1 from by kernel_rfl] at g2
    change DataW.trod enc Tryz.prog W 0 (fun _ => true) true m 9 [c2] = some y2 at g2
    obtain ⟨y3, e3⟩ : ∃ y, xs[3]? = some y := ⟨_, List.getElem?_eq_getElem (by omega)⟩
    have g3a := hf 3 _ rfl
    rw [e3] at g3a
    have g3 : DataW.trod enc Tryz.prog W 0 (fun _ => true) true m 9 (([c0, c1, c2, c3, c4, c5, c6, c7, c8, c9, c10, c11, c12, c13, c14, c15, c16, c17].drop 3).take (Tryz.prog.cellsOf 9)) = some y3 := g3a
    rw [show Tryz.prog.cellsOf 9 = 1 from by kernel_rfl] at g3
    change DataW.trod enc Tryz.prog W 0 (fun _ => true) true m 9 [c3] = some y3 at g3
    obtain ⟨y4, e4⟩ : ∃ y, xs[4]? = some y := ⟨_, List.getElem?_eq_getElem (by omega)⟩
    have g4a := hf 4 _ rfl
    rw [e4] at g4a
    have g4 : DataW.trod enc Tryz.prog W 0 (fun _ => true) true m 9 (([c0, c1, c2, c3, c4, c5, c6, c7, c8, c9, c10, c11, c12, c13, c14, c15, c16, c17].drop 4).take (Tryz.prog.cellsOf 9)) = some y4 := g4a
    rw [show Tryz.prog.cellsOf 9 = 1 from by kernel_rfl] at g4
    change DataW.trod enc Tryz.prog W 0 (fun _ => true) true m 9 [c4] = some y4 at g4
    obtain ⟨y5, e5⟩ : ∃ y, xs[5]? = some y := ⟨_, List.getElem?_eq_getElem (by omega)⟩
    have g5a := hf 5 _ rfl
    rw [e5] at g5a
    have g5 : DataW.trod enc Tryz.prog W 0 (fun _ => true) true m 24 (([c0, c1, c2, c3, c4, c5, c6, c7, c8, c9, c10, c11, c12, c13, c14, c15, c16, c17].drop 5).take (Tryz.prog.cellsOf 24)) = some y5 := g5a
    rw [show Tryz.prog.cellsOf 24 = 5 from by kernel_rfl] at g5
    change DataW.trod enc Tryz.prog W 0 (fun _ => true) true m 24 [c5, c6, c7, c8, c9] = some y5 at g5
    obtain ⟨y6, e6⟩ : ∃ y, xs[6]? = some y := ⟨_, List.getElem?_eq_getElem (by omega)⟩
    have g6a := hf 6 _ rfl
    rw [e6] at g6a
    have g6 : DataW.trod enc Tryz.prog W 0 (fun _ => true) true m 3 (([c0, c1, c2, c3, c4, c5, c6, c7, c8, c9, c10, c11, c12, c13, c14, c15, c16, c17].drop 10).take (Tryz.prog.cellsOf 3)) = some y6 := g6a
    rw [show Tryz.prog.cellsOf 3 = 1 from by kernel_rfl] at g6
    change DataW.trod enc Tryz.prog W 0 (fun _ => true) true m 3 [c10] = some y6 at g6
    obtain ⟨y7, e7⟩ : ∃ y, xs[7]? = some y := ⟨_, List.getElem?_eq_getElem (by omega)⟩
    have g7a := hf 7 _ rfl
    rw [e7] at g7a
    have g7 : DataW.trod enc Tryz.prog W 0 (fun _ => true) true m 4 (([c0, c1, c2, c3, c4, c5, c6, c7, c8, c9, c10, c11, c12, c13, c14, c15, c16, c17].drop 11).take (Tryz.prog.cellsOf 4)) = some y7 := g7a
    rw [show Tryz.prog.cellsOf 4 = 1 from by kernel_rfl] at g7
    change DataW.trod enc Tryz.prog W 0 (fun _ => true) true m 4 [c11] = some y7 at g7
    obtain ⟨y8, e8⟩ : ∃ y, xs[8]? = some y := ⟨_, List.getElem?_eq_getElem (by omega)⟩
    have g8a := hf 8 _ rfl
    rw [e8] at g8a
    have g8 : DataW.trod enc Tryz.prog W 0 (fun _ => true) true m 3 (([c0, c1, c2, c3, c4, c5, c6, c7, c8, c9, c10, c11, c12, c13, c14, c15, c16, c17].drop 12).take (Tryz.prog.cellsOf 3)) = some y8 := g8a
    rw [show Tryz.prog.cellsOf 3 = 1 from by kernel_rfl] at g8
    change DataW.trod enc Tryz.prog W 0 (fun _ => true) true m 3 [c12] = some y8 at g8
    obtain ⟨y9, e9⟩ : ∃ y, xs[9]? = some y := ⟨_, List.getElem?_eq_getElem (by omega)⟩
    have g9a := hf 9 _ rfl
    rw [e9] at g9a
    have g9 : DataW.trod enc Tryz.prog W 0 (fun _ => true) true m 4 (([c0, c1, c2, c3, c4, c5, c6, c7, c8, c9, c10, c11, c12, c13, c14, c15, c16, c17].drop 13).take (Tryz.prog.cellsOf 4)) = some y9 := g9a
    rw [show Tryz.prog.cellsOf 4 = 1 from by kernel_rfl] at g9
    change DataW.trod enc Tryz.prog W 0 (fun _ => true) true m 4 [c13] = some y9 at g9
    obtain ⟨y10, e10⟩ : ∃ y, xs[10]? = some y := ⟨_, List.getElem?_eq_getElem (by omega)⟩
    have g10a := hf 10 _ rfl
    rw [e10] at g10a
    have g10 : DataW.trod enc Tryz.prog W 0 (fun _ => true) true m 25 (([c0, c1, c2, c3, c4, c5, c6, c7, c8, c9, c10, c11, c12, c13, c14, c15, c16, c17].drop 14).take (Tryz.prog.cellsOf 25)) = some y10 := g10a
    rw [show Tryz.prog.cellsOf 25 = 1 from by kernel_rfl] at g10
    change DataW.trod enc Tryz.prog W 0 (fun _ => true) true m 25 [c14] = some y10 at g10
    obtain ⟨y11, e11⟩ : ∃ y, xs[11]? = some y := ⟨_, List.getElem?_eq_getElem (by omega)⟩
    have g11a := hf 11 _ rfl
    rw [e11] at g11a
    have g11 : DataW.trod enc Tryz.prog W 0 (fun _ => true) true m 3 (([c0, c1, c2, c3, c4, c5, c6, c7, c8, c9, c10, c11, c12, c13, c14, c15, c16, c17].drop 15).take (Tryz.prog.cellsOf 3)) = some y11 := g11a
    rw [show Tryz.prog.cellsOf 3 = 1 from by kernel_rfl] at g11
    change DataW.trod enc Tryz.prog W 0 (fun _ => true) true m 3 [c15] = some y11 at g11
    obtain ⟨y12, e12⟩ : ∃ y, xs[12]? = some y := ⟨_, List.getElem?_eq_getElem (by omega)⟩
    have g12a := hf 12 _ rfl
    rw [e12] at g12a
    have g12 : DataW.trod enc Tryz.prog W 0 (fun _ => true) true m 3 (([c0, c1, c2, c3, c4, c5, c6, c7, c8, c9, c10, c11, c12, c13, c14, c15, c16, c17].drop 16).take (Tryz.prog.cellsOf 3)) = some y12 := g12a
    rw [show Tryz.prog.cellsOf 3 = 1 from by kernel_rfl] at g12
    change DataW.trod enc Tryz.prog W 0 (fun _ => true) true m 3 [c16] = some y12 at g12
    obtain ⟨y13, e13⟩ : ∃ y, xs[13]? = some y := ⟨_, List.getElem?_eq_getElem (by omega)⟩
    have g13a := hf 13 _ rfl
    rw [e13] at g13a
    have g13 : DataW.trod enc Tryz.prog W 0 (fun _ => true) true m 3 (([c0, c1, c2, c3, c4, c5, c6, c7, c8, c9, c10, c11, c12, c13, c14, c15, c16, c17].drop 17).take (Tryz.prog.cellsOf 3)) = some y13 := g13a
    rw [show Tryz.prog.cellsOf 3 = 1 from by kernel_rfl] at g13
    change DataW.trod enc Tryz.prog W 0 (fun _ => true) true m 3 [c17] = some y13 at g13
    obtain ⟨a0, q0, _, w0⟩ := DataW.trod_int Tryz.underlying3 g0
    obtain rfl : c0 = .int .i64 a0 := by simpa using q0
    obtain ⟨a1, q1, _, w1⟩ := DataW.trod_int Tryz.underlying3 g1
    obtain rfl : c1 = .int .i64 a1 := by simpa using q1
    obtain ⟨a2, q2, _, w2⟩ := DataW.trod_string Tryz.underlying9 g2
    obtain rfl : c2 = .string a2 := by simpa using q2
    obtain ⟨a3, q3, _, w3⟩ := DataW.trod_string Tryz.underlying9 g3
    obtain rfl : c3 = .string a3 := by simpa using q3
    obtain ⟨a4, q4, _, w4⟩ := DataW.trod_string Tryz.underlying9 g4
    obtain rfl : c4 = .string a4 := by simpa using q4
    obtain ⟨a5, q5, w5⟩ := dec24 m _ _ g5
    obtain ⟨rfl, rfl, rfl, rfl, rfl⟩ : c5 = .int .i64 a5.1 ∧ c6 = .slice a5.2.1.1 a5.2.1.2.1 a5.2.1.2.2.1 ∧ c7 = .int .i64 a5.2.2.1 ∧ c8 = .int .i64 a5.2.2.2.1 ∧ c9 = .int .i64 a5.2.2.2.2 := by simpa [cells24] using q5
    obtain ⟨a6, q6, _, w6⟩ := DataW.trod_int Tryz.underlying3 g6
    obtain rfl : c10 = .int .i64 a6 := by simpa using q6
    obtain ⟨a7, q7, _⟩ := DataW.trod_bool Tryz.underlying4 g7
    obtain rfl : c11 = .bool a7 := by simpa using q7
    have w7 : True := trivial
    obtain ⟨a8, q8, _, w8⟩ := DataW.trod_int Tryz.underlying3 g8
    obtain rfl : c12 = .int .i64 a8 := by simpa using q8
    obtain ⟨a9, q9, _⟩ := DataW.trod_bool Tryz.underlying4 g9
    obtain rfl : c13 = .bool a9 := by simpa using q9
    have w9 : True := trivial
    obtain ⟨a10, rfl, w10⟩ := row25 m _ _ g10
    obtain ⟨a11, q11, _, w11⟩ := DataW.trod_int Tryz.underlying3 g11
    obtain rfl : c15 = .int .i64 a11 := by simpa using q11
    obtain ⟨a12, q12, _, w12⟩ := DataW.trod_int Tryz.underlying3 g12
    obtain rfl : c16 = .int .i64 a12 := by simpa using q12
    obtain ⟨a13, q13, _, w13⟩ := DataW.trod_int Tryz.underlying3 g13
    obtain rfl : c17 = .int .i64 a13 := by simpa using q13
    exact ⟨(a0, a1, a2, a3, a4, a5, a6, a7, a8, a9, a10, a11, a12, a13), rfl, w0, w1, w2, w3, w4, w5, w6, w7, w8, w9, w10, w11, w12, w13⟩

theorem own : ownKnob Tryz.prog.godebug = none := by kernel_rfl
theorem laidOut : laidOutB Tryz.prog = true := by kernel_rfl

theorem walk (z0 : T27) (w : World) (w0 : ok27 w z0) (hT : CmdLib.Tb w) :
    Calls Tryz.prog 5 #[.agg #[.int .i64 z0.1, .int .i64 z0.2.1, .string z0.2.2.1, .string z0.2.2.2.1, .string z0.2.2.2.2.1, .int .i64 z0.2.2.2.2.2.1.1, .slice z0.2.2.2.2.2.1.2.1.1 z0.2.2.2.2.2.1.2.1.2.1 z0.2.2.2.2.2.1.2.1.2.2.1, .int .i64 z0.2.2.2.2.2.1.2.2.1, .int .i64 z0.2.2.2.2.2.1.2.2.2.1, .int .i64 z0.2.2.2.2.2.1.2.2.2.2, .int .i64 z0.2.2.2.2.2.2.1, .bool z0.2.2.2.2.2.2.2.1, .int .i64 z0.2.2.2.2.2.2.2.2.1, .bool z0.2.2.2.2.2.2.2.2.2.1, .slice z0.2.2.2.2.2.2.2.2.2.2.1.1 z0.2.2.2.2.2.2.2.2.2.2.1.2.1 z0.2.2.2.2.2.2.2.2.2.2.1.2.2.1, .int .i64 z0.2.2.2.2.2.2.2.2.2.2.2.1, .int .i64 z0.2.2.2.2.2.2.2.2.2.2.2.2.1, .int .i64 z0.2.2.2.2.2.2.2.2.2.2.2.2.2]] w fun e w' => e = .returned (.bool true) ∧ Below w.heap.size w w' := by
  obtain ⟨k0, j0, n0, u0, a0, ⟨sk0, ⟨ao0, al0, ac0, az0⟩, mn0, mx0, wl0⟩, pr0, hp0, ti0, ht0, ⟨fo0, fl0, fc0, fz0⟩, nd0, ns0, fr0⟩ := z0
  have RA0 : Cmd.Row w (.slice ao0 al0 ac0) (az0.take al0) := by
    obtain ⟨e, l, m, r, _, n⟩ := IsRowS.reads w0.2.2.2.2.2.1.2.1 (by decide) (fun _ => rfl)
    exact ⟨ao0, ac0, by rw [e], by rw [e]; exact l, m, r, n⟩
  have RF0 : Cmd.Row w (.slice fo0 fl0 fc0) (fz0.take fl0) := by
    obtain ⟨e, l, m, r, _, n⟩ := IsRowS.reads w0.2.2.2.2.2.2.2.2.2.2.1 (by decide) (fun _ => rfl)
    exact ⟨fo0, fc0, by rw [e], by rw [e]; exact l, m, r, n⟩
  exact Cmd.cmdBack_any ⟨k0, j0, n0, u0, a0, sk0, az0.take al0, mn0, mx0, wl0, pr0, hp0, ti0, ht0, fz0.take fl0, nd0, ns0, fr0⟩ _ _ w RA0 RF0 hT

set_option maxRecDepth 100000 in
theorem lifted (os : Os) (started : os.Started) (H : Type) (enc : TypeId × Value → H) :
    ReturnsInHanded {} Tryz.checked os 5 .any (fun w args => (Rows.cmdBackSpec.pre enc Tryz.prog Tryz.f5 Rows.cmdBackRow.domain false w args ∧ laidMetH Tryz.prog Rows.cmdBackRow.laid w) ∧ sizedMet enc Tryz.prog Tryz.f5 (OpenSpec.ofChange Rows.cmdBackSpec) false w args)
      (Rows.cmdBackSpec.post enc Tryz.prog Tryz.f5 false true false false) := by
  refine returnsInHanded_of_change_and (C := Tryz.checked) (X := fun w _ => laidMetH Tryz.prog Rows.cmdBackRow.laid w) (fun _ _ _ hh h => h.of_heap hh) own started (by kernel_rfl) Tryz.func5
    (ChangeSpec.witness_shaped (enc := enc) (C := Tryz.checked) (os := os) (X := fun w _ => laidMetH Tryz.prog Rows.cmdBackRow.laid w) false (World.laidAll Tryz.prog os Rows.cmdBackRow.laid) #[.agg #[.int .i64 0, .int .i64 0, .string ByteArray.empty, .string ByteArray.empty, .string ByteArray.empty, .int .i64 0, .slice none 0 0, .int .i64 0, .int .i64 0, .int .i64 0, .int .i64 0, .bool false, .int .i64 0, .bool false, .slice none 0 0, .int .i64 0, .int .i64 0, .int .i64 0]] 8 (World.laidAll_os _ _ _)
      (World.shaped_of_ZipB (by kernel_rfl) (by kernel_rfl)) (by kernel_rfl) (by kernel_rfl) (by kernel_rfl)
      (by rw [MakeChecks.laidMetH_plain _ _ _ (by kernel_rfl)]; exact laidMet_laidAll _ (by kernel_rfl) (by kernel_rfl))) ?_
  intro W base args ds gs before hval0 hW _ _ hL _
  have hT : CmdLib.Tb W := CmdLib.tb_of_laid (by rw [MakeChecks.laidMetH_plain _ _ _ (by kernel_rfl)] at hL; exact hL)
  have hval : ∀ (j : Nat) t v, Tryz.f5.params[j]? = some t → args[j]? = some v → Value.okWide Tryz.prog W .any base t v := hval0
  have hW' := hW
  obtain ⟨p, q, hA0, hV, rfl, hfz, hnd⟩ := hW
  have hA : DataW.TrodAll enc Tryz.prog W 0 (fun _ => true) true Tryz.f5.params.toList args.toList ds p := hA0
  rw [Tryz.params5] at hA hval
  obtain ⟨v0, vs0, d0, ds0, p0, q0, hargs, rfl, rfl, h0, r0⟩ := trodAll_cons hA
  obtain ⟨rfl, rfl, rfl⟩ := trodAll_nil r0
  obtain rfl : args = #[v0] := by cases args; simp_all
  obtain ⟨rfl, rfl⟩ := trodVars_none hV
  obtain ⟨cs0, rfl, hsz0⟩ := okWide_struct Tryz.underlying27 (hval 0 27 v0 rfl rfl)
  have k0 := h0
  have lt0 : ∀ x ∈ p0, x.block < W.heap.size := by obtain ⟨m, hm⟩ := k0; exact DataW.trod_lt m _ _ _ hm
  obtain ⟨z0, hz0, w0⟩ : ∃ z : T27, cs0.toList = cells27 z ∧ ok27 W z := by
    obtain ⟨fuel, hf⟩ := h0
    exact dec27 _ _ _ hf
  obtain rfl : cs0 = #[.int .i64 z0.1, .int .i64 z0.2.1, .string z0.2.2.1, .string z0.2.2.2.1, .string z0.2.2.2.2.1, .int .i64 z0.2.2.2.2.2.1.1, .slice z0.2.2.2.2.2.1.2.1.1 z0.2.2.2.2.2.1.2.1.2.1 z0.2.2.2.2.2.1.2.1.2.2.1, .int .i64 z0.2.2.2.2.2.1.2.2.1, .int .i64 z0.2.2.2.2.2.1.2.2.2.1, .int .i64 z0.2.2.2.2.2.1.2.2.2.2, .int .i64 z0.2.2.2.2.2.2.1, .bool z0.2.2.2.2.2.2.2.1, .int .i64 z0.2.2.2.2.2.2.2.2.1, .bool z0.2.2.2.2.2.2.2.2.2.1, .slice z0.2.2.2.2.2.2.2.2.2.2.1.1 z0.2.2.2.2.2.2.2.2.2.2.1.2.1 z0.2.2.2.2.2.2.2.2.2.2.1.2.2.1, .int .i64 z0.2.2.2.2.2.2.2.2.2.2.2.1, .int .i64 z0.2.2.2.2.2.2.2.2.2.2.2.2.1, .int .i64 z0.2.2.2.2.2.2.2.2.2.2.2.2.2] := by apply Array.toList_inj.1; rw [hz0]; rfl
  clear hA0 hval0
  refine (walk z0 W w0 hT).mono fun e W' ⟨he, bel⟩ => ?_
  subst he
  exact ⟨_, rfl, _, _, _, [], _, [], hW', trodAll_mk1 (shut_bool Tryz.underlying4 _), (trodAll_cons_mk (Below.trod laidOut (by kernel_rfl) (of_decide_eq_true (by kernel_rfl)) k0 bel lt0) trodAll_mk0), rfl, bel.frame _, fun h => by cases h⟩

theorem over : Rows.cmdBackRow.holds Tryz.pinned (OpenSpec.ofChange Rows.cmdBackSpec) :=
  OpenClaim.holds_of_wide 5 Tryz.f5 rfl rfl rfl rfl rfl rfl rfl ⟨rfl, rfl, rfl, rfl, rfl⟩ rfl rfl rfl rfl rfl (by kernel_rfl) Tryz.func5 (by kernel_rfl)
    (of_decide_eq_true (by kernel_rfl)) (by unfold Func.isWrapper; first | (rw [if_pos (by decide +kernel)]; kernel_rfl) | (rw [if_neg (by decide +kernel)]; exact ⟨rfl, rfl⟩))
    (fun os started H enc _ => lifted os started H enc)

theorem proved : Rows.CmdBackCardSaid :=
  Claim7.holds_tied_plain_at .later [] [.data, .data, .data, .data, .sentinel, .sentinel, .data, .data, .data, .pinned] true (true, "cf74da7909e9f94cdcbcf29c045801276b1929ba966a787b26dbb0d9f1823ddc") true over (fun _ h => by cases h) (by kernel_rfl) (fun _ h => by cases h) cmdBack_row_tie rfl ⟨rfl, rfl⟩ (by kernel_rfl) rfl
    (fun f fn hf hfn => by
      obtain rfl : f = 5 := Option.some.inj ((show Tryz.prog.funcNamed "muster/musterlaw08.CmdBack" = some 5 by kernel_rfl).symm.trans hf) |>.symm
      obtain rfl : fn = Tryz.f5 := (Option.some.inj (Tryz.func5.symm.trans hfn)).symm
      exact ⟨by kernel_rfl, fun j t ht => by
        rw [Tryz.params5] at ht
        have hm : t ∈ [27] := by simpa using Array.mem_of_getElem? ht
        have hall : ([27].all fun u => !Tryz.prog.wantsStandIn u) = true := by kernel_rfl
        exact (show Tryz.prog.wantsStandIn t = false by simpa using List.all_eq_true.1 hall t hm)⟩)
    (by kernel_rfl)
#print axioms proved
end Go.Proofs.YtdkngidangfkiaaGreatDoor.cmdBack
