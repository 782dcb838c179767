/-
  The walks of the program's Same, and of the library's Equal below it.
-/
import Derived.Test.YtlmogkhgangmgaaShapeChk
import Derived.Laws.StructEq
namespace Go.Proofs.Ytlmogkhgangmgaa.Shape
open Go.RowKit
open Base
set_option linter.unusedVariables false
set_option linter.unusedSimpArgs false

set_option maxRecDepth 100000 in
theorem run_alt_neq (W : World) (a b c d : Int) : (binOp .neq 38 (.agg #[.int .i64 a, .int .i64 b]) (.agg #[.int .i64 c, .int .i64 d])).run Try.prog W = .ok (.bool (!decide ((a, b) = (c, d)))) W := by
  rw [run_neq_struct, run_equalIn_agg (ht := by simp [Program.fieldsOf, Try.underlying38]) (hp := by kernel_rfl)]
  simp only [Program.fieldsOf, Try.underlying38, Op.eqFields]
  simp [go_sem, Try.underlying3]
  by_cases h1 : a = c
  · by_cases h2 : b = d <;> simp [h1, h2]
  · simp [h1]
theorem run_alt_nguard (W : World) (x y : Operand) (xs ys : Array Value) : (eqGuard .neq 38 x y (.agg xs) (.agg ys)).run Try.prog W = .ok () W := run_eqGuard_agg W _ _ x y xs ys (by kernel_rfl)

def sameL (x y : List Alt) : Bool := decide (x = y)
theorem sameL_step {x y : List Alt} {k : Nat} (h1 : k < x.length) (h2 : k < y.length) (h : x[k] = y[k]) : sameL (x.drop k) (y.drop k) = sameL (x.drop (k + 1)) (y.drop (k + 1)) := by
  unfold sameL
  rw [List.drop_eq_getElem_cons h1, List.drop_eq_getElem_cons h2]
  simp only [List.cons.injEq, h, true_and]
theorem sameL_no {x y : List Alt} {k : Nat} (h1 : k < x.length) (h2 : k < y.length) (h : x[k] ≠ y[k]) : sameL (x.drop k) (y.drop k) = false := by
  unfold sameL
  rw [List.drop_eq_getElem_cons h1, List.drop_eq_getElem_cons h2, decide_eq_false_iff_not]
  exact fun e => h (List.cons.inj e).1

set_option maxRecDepth 100000 in
set_option maxHeartbeats 2000000 in
theorem equal_any (a b : Option Addr) (la lb ca cb : Nat) (x y : List Alt) (w : World) (hla : x.length = la) (hlb : y.length = lb) (hxl : la ≤ maxLen) (hyl : lb ≤ maxLen) (hx : ReadsS 2 altC w a x) (hy : ReadsS 2 altC w b y) :
    Calls Try.prog 36 #[.slice a la ca, .slice b lb cb] w fun e w' => e = .returned (.bool (sameL x y)) ∧ Below w.heap.size w w' := by
  subst hla hlb
  unfold maxLen at hxl hyl
  have HX := Lib.hid hx
  have HY := Lib.hid hy
  clear hx hy
  obtain ⟨S, hS⟩ : ∃ S, S = sameL x y := ⟨_, rfl⟩
  rw [← hS]
  by_cases hl : x.length = y.length
  · have hd : ((x.length : Int) != (y.length : Int)) = false := by rw [bne_eq_false_iff_eq]; omega
    have HS := Lib.hid hS
    clear hS
    go_enter Try.func36, Try.ntmps36
    go_wp2
    go_loopw [13] (fun i wr => ∃ k : Nat, i = .int .i64 (k : Int) ∧ k ≤ x.length ∧ sameL (x.drop k) (y.drop k) = S ∧ Below w.heap.size w wr) (fun i _ => x.length - (intOf i).toNat)
    case atStart => exact ⟨0, rfl, Nat.zero_le _, HS.out.symm, Below.refl _ _⟩
    case round =>
      obtain ⟨k, rfl, hk, hs, hb⟩ := hrel
      have HB := Lib.hid hb
      by_cases hp : k < x.length
      · have hp2 : k < y.length := by omega
        obtain ⟨ab, ao, rfl, a0, a1⟩ := alt_cells (HX.out.below altC_length hb) hp
        obtain ⟨bb, bo, rfl, b0, b1⟩ := alt_cells (HY.out.below altC_length hb) hp2
        have hye := sameL_step hp hp2
        have hno := sameL_no hp hp2
        obtain ⟨⟨k1, n1⟩, hX⟩ : ∃ X : Alt, X = x[k] := ⟨_, rfl⟩
        obtain ⟨⟨k2, n2⟩, hY⟩ : ∃ Y : Alt, Y = y[k] := ⟨_, rfl⟩
        rw [← hX] at a0 a1 hye hno
        rw [← hY] at b0 b1 hye hno
        dsimp only at a0 a1 b0 b1
        have hlow : (0 : Int) ≤ (k : Int) := by omega
        have hup1 : (k : Int) < ((x.length : Nat) : Int) := by omega
        have hup2 : (k : Int) < ((y.length : Nat) : Int) := by omega
        have hq := fun W => run_alt_neq W k1 n1 k2 n2
        have hg := fun W (x y : Operand) => run_alt_nguard W x y #[.int .i64 k1, .int .i64 n1] #[.int .i64 k2, .int .i64 n2]
        by_cases he : ((k1, n1) : Alt) = (k2, n2)
        · have HN := Lib.hid ((hye he).symm.trans hs)
          rw [decide_eq_true he] at hq
          simp only [Bool.not_true] at hq
          clear hX hY hb hs hye hno he
          go_wp2
          go_quiet (fail)
          go_wp2
          refine ⟨⟨k + 1, by go_num, by omega, HN.out, Base.below_drewN HB.out _⟩, ?_⟩
          simp [intOf]; omega
        · have HN := Lib.hid ((hno he).symm.trans hs)
          rw [decide_eq_false he] at hq
          simp only [Bool.not_false] at hq
          clear hX hY hb hs hye hno he
          go_wp2
          go_quiet (fail)
          go_wp2
          go_ret
          exact ⟨ret_bool HN.out, Base.below_drewN HB.out _⟩
      · have HN : Hid (true = S) := Lib.hid (by rw [← hs, List.drop_of_length_le (by omega), List.drop_of_length_le (by omega)]; rfl)
        go_wp2
        go_ret
        exact ⟨ret_bool HN.out, HB.out⟩
  · have hd : ((x.length : Int) != (y.length : Int)) = true := by rw [bne_iff_ne]; omega
    have HN : Hid (false = S) := Lib.hid (by rw [hS]; unfold sameL; symm; rw [decide_eq_false_iff_not]; intro h; rw [h] at hl; exact hl rfl)
    clear hS
    go_enter Try.func36, Try.ntmps36
    go_wp2
    go_ret
    exact ⟨ret_bool HN.out, Below.refl _ _⟩

theorem SBox.new2 (w : World) (o : Obj) (k : Int) (sl : Value) (mn mx wl : Int) : SBox ((w.alloc o).alloc (.cells #[.int .i64 k, sl, .int .i64 mn, .int .i64 mx, .int .i64 wl] 24)) (w.heap.size + 1) k sl mn mx wl := by
  have := SBox.new (w.alloc o) k sl mn mx wl
  rwa [World.size_alloc] at this

def sameB (k1 : Int) (z1 : List Alt) (mn1 mx1 wl1 k2 : Int) (z2 : List Alt) (mn2 mx2 wl2 : Int) : Bool := (k1 == k2) && (sameL z1 z2 && ((mn1 == mn2) && ((mx1 == mx2) && (wl1 == wl2))))

set_option maxRecDepth 100000 in
set_option maxHeartbeats 2000000 in
theorem ssame_any (k1 : Int) (a1 : Option Addr) (l1 c1 : Nat) (z1 : List Alt) (mn1 mx1 wl1 k2 : Int) (a2 : Option Addr) (l2 c2 : Nat) (z2 : List Alt) (mn2 mx2 wl2 : Int) (w : World)
    (h1 : z1.length = l1) (h2 : z2.length = l2) (m1 : l1 ≤ maxLen) (m2 : l2 ≤ maxLen) (r1 : ReadsS 2 altC w a1 z1) (r2 : ReadsS 2 altC w a2 z2) :
    Calls Try.prog 23 #[.agg #[.int .i64 k1, .slice a1 l1 c1, .int .i64 mn1, .int .i64 mx1, .int .i64 wl1], .agg #[.int .i64 k2, .slice a2 l2 c2, .int .i64 mn2, .int .i64 mx2, .int .i64 wl2]] w
      fun e w' => e = .returned (.bool (sameB k1 z1 mn1 mx1 wl1 k2 z2 mn2 mx2 wl2)) ∧ Below w.heap.size w w' := by
  have cE := fun (w2 : World) (hb : Below w.heap.size w w2) => equal_any a1 a2 l1 l2 c1 c2 z1 z2 w2 h1 h2 m1 m2 (r1.below altC_length hb) (r2.below altC_length hb)
  have hA := (SBox.new w k1 (.slice a1 l1 c1) mn1 mx1 wl1).alloc (.cells #[.int .i64 k2, .slice a2 l2 c2, .int .i64 mn2, .int .i64 mx2, .int .i64 wl2] 24)
  have hB := SBox.new2 w (.cells #[.int .i64 k1, .slice a1 l1 c1, .int .i64 mn1, .int .i64 mx1, .int .i64 wl1] 24) k2 (.slice a2 l2 c2) mn2 mx2 wl2
  have HA := Lib.hid hA
  have HB := Lib.hid hB
  clear hA hB h1 h2 r1 r2
  have q1 : l1 ≤ 9223372036854775807 := by unfold maxLen at m1; omega
  have q2 : l2 ≤ 9223372036854775807 := by unfold maxLen at m2; omega
  obtain ⟨S, hS⟩ : ∃ S, S = sameB k1 z1 mn1 mx1 wl1 k2 z2 mn2 mx2 wl2 := ⟨_, rfl⟩
  rw [← hS]
  unfold sameB at hS
  cases t1 : (k1 == k2) with
  | false =>
    have HX : Hid (false = S) := Lib.hid (by rw [hS, t1]; rfl)
    clear hS cE
    go_enter Try.func23, Try.ntmps23
    go_wp2
    go_ret
    exact ⟨ret_bool HX.out, by (focus repeat (first | exact Below.refl _ _ | assumption | (exact Hid.out (by assumption)) | (with_reducible refine Below.drew ?_) | (with_reducible refine Base.below_drewN ?_ _) | (refine Below.from (below_one _) ?_) | (refine Below.from (below_conv _ _ _) ?_) | (refine Below.setCell ?_ (by simp <;> omega) _) | (refine Below.from (by assumption) ?_)))⟩
  | true =>
    rw [t1, Bool.true_and] at hS
    cases t2 : sameL z1 z2 with
    | false =>
      have HX : Hid (false = S) := Lib.hid (by rw [hS, t2]; rfl)
      simp only [t2] at cE
      have CE := Lib.hid cE
      clear hS cE t2
      go_enter Try.func23, Try.ntmps23
      go_wp2_with (first
        | (go_at_call 36; (with_reducible refine (CE.out _ (by (focus repeat (first | exact Below.refl _ _ | assumption | (exact Hid.out (by assumption)) | (with_reducible refine Below.drew ?_) | (with_reducible refine Base.below_drewN ?_ _) | (refine Below.from (below_one _) ?_) | (refine Below.from (below_conv _ _ _) ?_) | (refine Below.setCell ?_ (by simp <;> omega) _) | (refine Below.from (by assumption) ?_))))).mono ?_); rintro e w2 ⟨rfl, p2⟩; obtain ⟨x0, x1, x2, x3, x4⟩ := (HA.out.below p2).cells; obtain ⟨y0, y1, y2, y3, y4⟩ := (HB.out.below p2).cells)
        | fail)
      go_ret
      exact ⟨ret_bool HX.out, by (focus repeat (first | exact Below.refl _ _ | assumption | (exact Hid.out (by assumption)) | (with_reducible refine Below.drew ?_) | (with_reducible refine Base.below_drewN ?_ _) | (refine Below.from (below_one _) ?_) | (refine Below.from (below_conv _ _ _) ?_) | (refine Below.setCell ?_ (by simp <;> omega) _) | (refine Below.from (by assumption) ?_)))⟩
    | true =>
      rw [t2, Bool.true_and] at hS
      simp only [t2] at cE
      have CE := Lib.hid cE
      clear cE t2
      cases t3 : (mn1 == mn2) with
      | false =>
        have HX : Hid (false = S) := Lib.hid (by rw [hS, t3]; rfl)
        clear hS
        go_enter Try.func23, Try.ntmps23
        go_wp2_with (first
          | (go_at_call 36; (with_reducible refine (CE.out _ (by (focus repeat (first | exact Below.refl _ _ | assumption | (exact Hid.out (by assumption)) | (with_reducible refine Below.drew ?_) | (with_reducible refine Base.below_drewN ?_ _) | (refine Below.from (below_one _) ?_) | (refine Below.from (below_conv _ _ _) ?_) | (refine Below.setCell ?_ (by simp <;> omega) _) | (refine Below.from (by assumption) ?_))))).mono ?_); rintro e w2 ⟨rfl, p2⟩; obtain ⟨x0, x1, x2, x3, x4⟩ := (HA.out.below p2).cells; obtain ⟨y0, y1, y2, y3, y4⟩ := (HB.out.below p2).cells)
          | fail)
        go_ret
        exact ⟨ret_bool HX.out, by (focus repeat (first | exact Below.refl _ _ | assumption | (exact Hid.out (by assumption)) | (with_reducible refine Below.drew ?_) | (with_reducible refine Base.below_drewN ?_ _) | (refine Below.from (below_one _) ?_) | (refine Below.from (below_conv _ _ _) ?_) | (refine Below.setCell ?_ (by simp <;> omega) _) | (refine Below.from (by assumption) ?_)))⟩
      | true =>
        rw [t3, Bool.true_and] at hS
        cases t4 : (mx1 == mx2) with
        | false =>
          have HX : Hid (false = S) := Lib.hid (by rw [hS, t4]; rfl)
          clear hS
          go_enter Try.func23, Try.ntmps23
          go_wp2_with (first
            | (go_at_call 36; (with_reducible refine (CE.out _ (by (focus repeat (first | exact Below.refl _ _ | assumption | (exact Hid.out (by assumption)) | (with_reducible refine Below.drew ?_) | (with_reducible refine Base.below_drewN ?_ _) | (refine Below.from (below_one _) ?_) | (refine Below.from (below_conv _ _ _) ?_) | (refine Below.setCell ?_ (by simp <;> omega) _) | (refine Below.from (by assumption) ?_))))).mono ?_); rintro e w2 ⟨rfl, p2⟩; obtain ⟨x0, x1, x2, x3, x4⟩ := (HA.out.below p2).cells; obtain ⟨y0, y1, y2, y3, y4⟩ := (HB.out.below p2).cells)
            | fail)
          go_ret
          exact ⟨ret_bool HX.out, by (focus repeat (first | exact Below.refl _ _ | assumption | (exact Hid.out (by assumption)) | (with_reducible refine Below.drew ?_) | (with_reducible refine Base.below_drewN ?_ _) | (refine Below.from (below_one _) ?_) | (refine Below.from (below_conv _ _ _) ?_) | (refine Below.setCell ?_ (by simp <;> omega) _) | (refine Below.from (by assumption) ?_)))⟩
        | true =>
          rw [t4, Bool.true_and] at hS
          have HX : Hid ((wl1 == wl2) = S) := Lib.hid hS.symm
          clear hS
          go_enter Try.func23, Try.ntmps23
          go_wp2_with (first
            | (go_at_call 36; (with_reducible refine (CE.out _ (by (focus repeat (first | exact Below.refl _ _ | assumption | (exact Hid.out (by assumption)) | (with_reducible refine Below.drew ?_) | (with_reducible refine Base.below_drewN ?_ _) | (refine Below.from (below_one _) ?_) | (refine Below.from (below_conv _ _ _) ?_) | (refine Below.setCell ?_ (by simp <;> omega) _) | (refine Below.from (by assumption) ?_))))).mono ?_); rintro e w2 ⟨rfl, p2⟩; obtain ⟨x0, x1, x2, x3, x4⟩ := (HA.out.below p2).cells; obtain ⟨y0, y1, y2, y3, y4⟩ := (HB.out.below p2).cells)
            | fail)
          go_ret
          exact ⟨ret_bool HX.out, by (focus repeat (first | exact Below.refl _ _ | assumption | (exact Hid.out (by assumption)) | (with_reducible refine Below.drew ?_) | (with_reducible refine Base.below_drewN ?_ _) | (refine Below.from (below_one _) ?_) | (refine Below.from (below_conv _ _ _) ?_) | (refine Below.setCell ?_ (by simp <;> omega) _) | (refine Below.from (by assumption) ?_)))⟩

end Go.Proofs.Ytlmogkhgangmgaa.Shape
