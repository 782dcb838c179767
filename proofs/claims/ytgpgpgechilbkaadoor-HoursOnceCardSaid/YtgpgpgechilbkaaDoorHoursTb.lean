/-
  What the row lists of the library's variables is what the walks ask of the world.
-/
import Derived.Test.YtgpgpgechilbkaaDoorHoursLib
import Derived.PinnedBridge
import Derived.Lib.LaidU8
import Derived.Lib.LaidTab
import Derived.LaidLaws
namespace Go.Proofs.YtgpgpgechilbkaaDoor.HoursLib
open Go.Shelf Go.RowKit
open Base
set_option linter.unusedVariables false

/-- The list of each row. -/
def Laid : List (String × DataW Unit) := [("math/bits.deBruijn32tab", Rows.laid_math_bits_deBruijn32tab), ("math/bits.deBruijn64tab", Rows.laid_math_bits_deBruijn64tab), ("internal/strconv.uint64pow10", Rows.laid_internal_strconv_uint64pow10), ("unicode/utf8.acceptRanges", Rows.laid_unicode_utf8_acceptRanges), ("strconv.ErrRange", Rows.laid_strconv_ErrRange), ("strconv.ErrSyntax", Rows.laid_strconv_ErrSyntax), ("muster/hours.units", Rows.laid_muster_hours_units), ("unicode/utf8.first", Rows.laid_unicode_utf8_first)]

set_option maxRecDepth 100000 in
theorem e_pow : (Rows.laid_internal_strconv_uint64pow10 : DataW Unit) = Lib.tabData .u64 Lib.pow10Tab := by kernel_rfl

theorem tab_of_reads {P : Program} {w : World} {name : String} {k : IntKind} {zs : List Int} {g : Nat} {t e : TypeId} {n : Nat}
    (hg : P.globalNamed name = some g) (hty : (P.globals[g]?).map (·.type) = some t) (ht : P.underlying t = some (.array n e)) (he : P.underlying e = some (.int k)) (hce : P.cellsOf e = 1) (hct : P.cellsOf t = n)
    (h : Lib.VarReads P w name (Lib.tabData k zs)) : Lib.TabIs P w name k zs := by
  obtain ⟨g', t', cs, fuel, p, hg', ht', hvar, hd⟩ := h
  obtain rfl := Option.some.inj (hg.symm.trans hg')
  obtain rfl := Option.some.inj (hty.symm.trans ht')
  unfold Lib.TabIs
  rw [hvar, ← Lib.cells_of_tab ht he hce hct hd]

theorem err_of_reads {P : Program} {w : World} {name nm : String} {d : DataW Unit} {g : Nat} {t : TypeId} {ms : Array (String × TypeId)}
    (hg : P.globalNamed name = some g) (hty : (P.globals[g]?).map (·.type) = some t) (ht : P.underlying t = some (.interface ms))
    (h : Lib.VarReads P w name (.iface nm d)) : ErrAt g w := by
  obtain ⟨g', t', cs, fuel, p, hg', ht', hvar, hd⟩ := h
  obtain rfl := Option.some.inj (hg.symm.trans hg')
  obtain rfl := Option.some.inj (hty.symm.trans ht')
  obtain ⟨f1, u, v, hcs, _, _⟩ := iface_of_trod ht hd
  refine ⟨.iface u v, ?_, .inr ⟨u, v, rfl⟩⟩
  rw [World.var?_cell hg hvar 0, ← Array.getElem?_toList, hcs]
  rfl

theorem g_syn : Tryd.prog.globalNamed "strconv.ErrSyntax" = some 2 := by kernel_rfl
theorem t_pow : (Tryd.prog.globals[(1 : Nat)]?).map (·.type) = some 87 := by kernel_rfl
theorem t_syn : (Tryd.prog.globals[(2 : Nat)]?).map (·.type) = some 42 := by kernel_rfl

theorem g_units : Tryd.prog.globalNamed "muster/hours.units" = some 0 := by kernel_rfl
theorem t_units : (Tryd.prog.globals[(0 : Nat)]?).map (·.type) = some 40 := by kernel_rfl

theorem pair_of_struct {P : Program} {w : World} {base : Nat} {sp : Nat → Bool} {held : Bool} {fuel : Nat} {ty : TypeId} {fs : Array Field} {j k : IntKind} {cs : List Value} {a b : Int} {p : List MemPlace} (ht : P.underlying ty = some (.struct fs))
    (hs : fs.size = 2)
    (hf0 : ∀ f, fs[0]? = some f → P.underlying f.type = some (.int j) ∧ f.offset = 0 ∧ P.cellsOf f.type = 1)
    (hf1 : ∀ f, fs[1]? = some f → P.underlying f.type = some (.int k) ∧ f.offset = 1 ∧ P.cellsOf f.type = 1)
    (h : DataW.trod (fun _ => ()) P w base sp held fuel ty cs = some (.agg [.lit (.int j a), .lit (.int k b)], p)) : cs[0]? = some (.int j a) ∧ cs[1]? = some (.int k b) := by
  obtain ⟨xs, n, rfl, hx, hl, hxl, hall⟩ := DataW.trod_struct ht h
  have hxs : xs.map (·.1) = [.lit (.int j a), .lit (.int k b)] := by
    have := congrArg Prod.fst hx
    simpa using this.symm
  have h0 := hall 0 fs[0] (by simp [hs])
  have h1 := hall 1 fs[1] (by simp [hs])
  obtain ⟨u0, o0, c0⟩ := hf0 fs[0] (by simp [hs])
  obtain ⟨u1, o1, c1⟩ := hf1 fs[1] (by simp [hs])
  rw [o0, c0] at h0
  rw [o1, c1] at h1
  obtain ⟨x, y, rfl⟩ : ∃ x y, xs = [x, y] := by
    match xs, (show xs.length = 2 from by rw [hxl, hs]) with
    | [x, y], _ => exact ⟨x, y, rfl⟩
  simp only [List.map_cons, List.map_nil, List.cons.injEq, and_true] at hxs
  obtain ⟨rx, ry⟩ := hxs
  have h0 : DataW.trod (fun _ => ()) P w base sp held n fs[0].type ((cs.drop 0).take 1) = some x := h0
  have h1 : DataW.trod (fun _ => ()) P w base sp held n fs[1].type ((cs.drop 1).take 1) = some y := h1
  obtain ⟨z, hz, rfl, _⟩ := DataW.trod_int u0 h0
  obtain ⟨z', hz', rfl, _⟩ := DataW.trod_int u1 h1
  simp at rx ry
  subst rx ry
  have e0 := congrArg (·[0]?) hz
  have e1 := congrArg (·[0]?) hz'
  simp only [List.getElem?_take, List.getElem?_drop] at e0 e1
  exact ⟨by simpa using e0, by simpa using e1⟩

theorem unit_of_struct {w : World} {base : Nat} {sp : Nat → Bool} {held : Bool} {fuel : Nat} {cs : List Value} {a b : Int} {p : List MemPlace}
    (h : DataW.trod (fun _ => ()) Tryd.prog w base sp held fuel 39 cs = some (.agg [.lit (.int .u8 a), .lit (.int .i64 b)], p)) : cs[0]? = some (.int .u8 a) ∧ cs[1]? = some (.int .i64 b) :=
  pair_of_struct Tryd.underlying39 rfl (fun f hf => by simp at hf; subst hf; exact ⟨Tryd.underlying5, rfl, by kernel_rfl⟩) (fun f hf => by simp at hf; subst hf; exact ⟨Tryd.underlying3, rfl, by kernel_rfl⟩) h

theorem units_of_reads {w : World} (h : Lib.VarReads Tryd.prog w "muster/hours.units" Rows.laid_muster_hours_units) : UnitsAt w := by
  obtain ⟨g', t', cs, fuel, p, hg', ht', hvar, hd⟩ := h
  obtain rfl := Option.some.inj (g_units.symm.trans hg')
  obtain rfl := Option.some.inj (t_units.symm.trans ht')
  unfold Rows.laid_muster_hours_units at hd
  have ce : Tryd.prog.cellsOf 39 = 2 := by kernel_rfl
  have H : ∀ (i : Nat) (hi : i < 4) (a b : Int), ([DataW.agg [.lit (.int .u8 100), .lit (.int .i64 86400)], .agg [.lit (.int .u8 104), .lit (.int .i64 3600)], .agg [.lit (.int .u8 109), .lit (.int .i64 60)], .agg [.lit (.int .u8 115), .lit (.int .i64 1)]] : List (DataW Unit))[i]? = some (.agg [.lit (.int .u8 a), .lit (.int .i64 b)]) →
      w.cell? ⟨0, 2 * i, none⟩ = some (.int .u8 a) ∧ w.cell? ⟨0, 2 * i + 1, none⟩ = some (.int .i64 b) := by
    intro i hi a b hab
    obtain ⟨fuel', d, q, hdi, he⟩ := Lib.array_elem Tryd.underlying40 hd i hi
    rw [hab, Option.some.injEq] at hdi
    subst hdi
    rw [ce] at he
    obtain ⟨e0, e1⟩ := unit_of_struct he
    simp only [List.getElem?_take, List.getElem?_drop] at e0 e1
    constructor
    · rw [World.var?_cell hg' hvar (2 * i), ← Array.getElem?_toList]
      simpa [Nat.mul_comm] using e0
    · rw [World.var?_cell hg' hvar (2 * i + 1), ← Array.getElem?_toList]
      simpa [Nat.mul_comm] using e1
  have a0 := H 0 (by decide) 100 86400 rfl
  have a1 := H 1 (by decide) 104 3600 rfl
  have a2 := H 2 (by decide) 109 60 rfl
  have a3 := H 3 (by decide) 115 1 rfl
  exact ⟨a0.1, a0.2, a1.1, a1.2, a2.1, a2.2, a3.1, a3.2⟩

theorem tb_of_laid {W : World} (h : laidMet Tryd.prog Laid W) : Tb W := by
  refine ⟨?_, ?_, ?_⟩
  · refine tab_of_reads g_pow t_pow Tryd.underlying87 Tryd.underlying71 (by kernel_rfl) (by kernel_rfl) ?_
    rw [← e_pow]; exact Lib.laidMet.reads h (by simp [Laid])
  · exact err_of_reads g_syn t_syn Tryd.underlying42 (Lib.laidMet.reads h (n := "strconv.ErrSyntax") (d := Rows.laid_strconv_ErrSyntax) (by simp [Laid]))
  · exact units_of_reads (Lib.laidMet.reads h (n := "muster/hours.units") (d := Rows.laid_muster_hours_units) (by simp [Laid]))

end Go.Proofs.YtgpgpgechilbkaaDoor.HoursLib
