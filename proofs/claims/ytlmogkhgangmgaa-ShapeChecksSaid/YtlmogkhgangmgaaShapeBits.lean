/-
  The walks of the program's small questions of a shape.
-/
import Derived.Test.YtlmogkhgangmgaaStructRows
import Derived.Test.YtlmogkhgangmgaaShapeMath
import Derived.BigQuiet
import Derived.Deep.RegionWith
namespace Go.Proofs.Ytlmogkhgangmgaa.Shape
open Go.RowKit
open Base
set_option linter.unusedVariables false
set_option linter.unusedSimpArgs false

/-- The cells of an alternative. -/
def altC (a : Alt) : List Value := [.int .i64 a.1, .int .i64 a.2]
theorem altC_length (a : Alt) : (altC a).length = 2 := rfl
theorem alt_cells {w : World} {a : Option Addr} {zs : List Alt} (h : ReadsS 2 altC w a zs) {j : Nat} (hj : j < zs.length) :
    ∃ b off, a = some ⟨b, off, none⟩ ∧ w.cell? ⟨b, off + j * 2, none⟩ = some (.int .i64 zs[j].1) ∧ w.cell? ⟨b, off + j * 2 + 1, none⟩ = some (.int .i64 zs[j].2) := by
  obtain ⟨b, off, ha, hc⟩ := h.at_ hj
  exact ⟨b, off, ha, hc 0 (by decide), hc 1 (by decide)⟩

set_option maxHeartbeats 1000000 in
theorem isFrom_any (n lo hi : Int) (w : World) :
    Calls Try.prog 35 #[.int .i64 n, .int .i64 lo, .int .i64 hi] w fun e w' => e = .returned (.bool (frB n lo hi)) ∧ w = w' := by
  have HX : Hid (frB n lo hi = (decide (lo ≤ n) && decide (n ≤ hi))) := Lib.hid rfl
  cases h1 : decide (lo ≤ n) with
  | true =>
    go_enter Try.func35, Try.ntmps35
    go_wp2
    go_ret
    exact ⟨ret_bool (by rw [HX.out, h1]; rfl), rfl⟩
  | false =>
    go_enter Try.func35, Try.ntmps35
    go_wp2
    go_ret
    exact ⟨ret_bool (by rw [HX.out, h1]; rfl), rfl⟩

set_option maxHeartbeats 1000000 in
theorem isSize_any (n : Int) (w : World) :
    Calls Try.prog 26 #[.int .i64 n] w fun e w' => e = .returned (.bool (sizeB n)) ∧ w = w' := by
  go_enter Try.func26, Try.ntmps26
  go_wp2_with (first
    | (go_at_call 35; (with_reducible refine (isFrom_any _ _ _ _).mono ?_); rintro e w' ⟨rfl, rfl⟩)
    | fail)
  go_ret
  exact ⟨rfl, rfl⟩

set_option maxHeartbeats 1000000 in
theorem isWall_any (n : Int) (w : World) :
    Calls Try.prog 27 #[.int .i64 n] w fun e w' => e = .returned (.bool (wallB n)) ∧ w = w' := by
  go_enter Try.func27, Try.ntmps27
  go_wp2_with (first
    | (go_at_call 35; (with_reducible refine (isFrom_any _ _ _ _).mono ?_); rintro e w' ⟨rfl, rfl⟩)
    | fail)
  go_ret
  exact ⟨rfl, rfl⟩

set_option maxHeartbeats 1000000 in
theorem hasSpan_any (k : Int) (ao : Option Addr) (len cap : Nat) (mn mx wl : Int) (w : World) :
    Calls Try.prog 25 #[.agg #[.int .i64 k, .slice ao len cap, .int .i64 mn, .int .i64 mx, .int .i64 wl]] w fun e w' => e = .returned (.bool (spanB mn mx wl)) ∧ Below w.heap.size w w' := by
  have HX : Hid (spanB mn mx wl = (decide (mn ≠ 0) || decide (mx ≠ 0) || decide (wl ≠ 0))) := Lib.hid rfl
  cases h1 : (mn != 0) with
  | true =>
    have h1' : mn ≠ 0 := by simpa using h1
    have HX : Hid (true = spanB mn mx wl) := Lib.hid (by rw [HX.out, decide_eq_true h1']; rfl)
    clear h1'
    go_enter Try.func25, Try.ntmps25
    go_wp2
    go_ret
    exact ⟨ret_bool HX.out, by (focus repeat (first | exact Below.refl _ _ | assumption | (exact Hid.out (by assumption)) | (with_reducible refine Below.drew ?_) | (with_reducible refine Base.below_drewN ?_ _) | (refine Below.from (below_one _) ?_) | (refine Below.from (below_conv _ _ _) ?_) | (refine Below.setCell ?_ (by simp <;> omega) _) | (refine Below.from (by assumption) ?_)))⟩
  | false =>
    have h1' : mn = 0 := by simpa using h1
    cases h2 : (mx != 0) with
    | true =>
      have h2' : mx ≠ 0 := by simpa using h2
      have HX : Hid (true = spanB mn mx wl) := Lib.hid (by rw [HX.out, decide_eq_true h2']; simp)
      clear h1' h2'
      go_enter Try.func25, Try.ntmps25
      go_wp2
      go_ret
      exact ⟨ret_bool HX.out, by (focus repeat (first | exact Below.refl _ _ | assumption | (exact Hid.out (by assumption)) | (with_reducible refine Below.drew ?_) | (with_reducible refine Base.below_drewN ?_ _) | (refine Below.from (below_one _) ?_) | (refine Below.from (below_conv _ _ _) ?_) | (refine Below.setCell ?_ (by simp <;> omega) _) | (refine Below.from (by assumption) ?_)))⟩
    | false =>
      have h2' : mx = 0 := by simpa using h2
      have HX : Hid ((wl != 0) = spanB mn mx wl) := Lib.hid (by rw [HX.out, h1', h2']; rw [Bool.eq_iff_iff]; simp)
      clear h1' h2'
      go_enter Try.func25, Try.ntmps25
      go_wp2
      go_ret
      exact ⟨ret_bool HX.out, by (focus repeat (first | exact Below.refl _ _ | assumption | (exact Hid.out (by assumption)) | (with_reducible refine Below.drew ?_) | (with_reducible refine Base.below_drewN ?_ _) | (refine Below.from (below_one _) ?_) | (refine Below.from (below_conv _ _ _) ?_) | (refine Below.setCell ?_ (by simp <;> omega) _) | (refine Below.from (by assumption) ?_)))⟩

/-- The closure that asks whether an alternative is as large as the one in its captured variable. -/
theorem asLarge_any (B : Nat) (x : Int) (n wl : Int) (w : World) (hB : w.cell? ⟨B, 0, none⟩ = some (.int .i64 x)) :
    Calls Try.prog 37 #[.agg #[.int .i64 n, .int .i64 wl], .pointer (some ⟨B, 0, none⟩)] w fun e w' => e = .returned (.bool (n == x)) ∧ Below w.heap.size w w' := by
  have h2 := cell_below hB (below_one (.cells #[.int .i64 n, .int .i64 wl] 38))
  go_enter Try.func37, Try.ntmps37
  go_wp2
  go_ret
  exact ⟨rfl, by (focus repeat (first | exact Below.refl _ _ | assumption | (exact Hid.out (by assumption)) | (with_reducible refine Below.drew ?_) | (with_reducible refine Base.below_drewN ?_ _) | (refine Below.from (below_one _) ?_) | (refine Below.from (below_conv _ _ _) ?_) | (refine Below.setCell ?_ (by simp <;> omega) _) | (refine Below.from (by assumption) ?_)))⟩

end Go.Proofs.Ytlmogkhgangmgaa.Shape
