/-
  Joined out of: The walk of the document's own Same for commands.
-/
import Derived.Test.YtdkngidangfkiaaGreatDoorJa21
import Derived.Test.YtdkngidangfkiaaGreatDoorJa11
import Derived.Test.YtdkngidangfkiaaGreatDoorJa13
import Derived.Deep.RegionWith
import Derived.Deep.LoopGhost
import Derived.Test.YtdkngidangfkiaaGreatDoorJa45
import Derived.Test.YtdkngidangfkiaaGreatDoorJa46
import Derived.Test.YtdkngidangfkiaaGreatDoorJa02
import Derived.Test.YtdkngidangfkiaaGreatDoorJa04
import Derived.Test.YtdkngidangfkiaaGreatDoorJa27
namespace Go.Proofs.YtdkngidangfkiaaGreatDoor.Cmd
open Go.RowKit
open Base Runes Lex
open Shape (frB frB_iff sameL sameB chkB goodB altOk sizeB wallB chkE altC_length altC alt_cells Alt sameL_step sameL_no)
set_option linter.unusedVariables false
set_option linter.unusedSimpArgs false
structure TwoAt (w W : World) (x y : Array Value) : Prop where
  lo : Below w.heap.size w W
  one : W.heap[w.heap.size]? = some (.cells x 27)
  two : W.heap[w.heap.size + 1]? = some (.cells y 27)
theorem TwoAt.new (w : World) (x y : Array Value) : TwoAt w ((w.alloc (.cells x 27)).alloc (.cells y 27)) x y := by
  have h := two_boxes (w := w) (A := .cells x 27) (B := .cells y 27) (Below.refl _ _)
  exact ⟨by (focus repeat (first | exact Below.refl _ _ | assumption | (exact Hid.out (by assumption)) | (with_reducible refine Below.drew ?_) | (with_reducible refine Base.below_drewN ?_ _) | (refine Below.from (below_one _) ?_) | (refine Below.from (below_conv _ _ _) ?_) | (refine Below.setCell ?_ (by simp <;> omega) _) | (refine Below.from (by assumption) ?_))), h.1, h.2⟩
theorem TwoAt.drewN {w W : World} {x y : Array Value} (h : TwoAt w W x y) (n : Nat) : TwoAt w (W.drewN n) x y := ⟨Base.below_drewN h.lo n, h.one, h.two⟩
set_option maxRecDepth 100000 in
set_option maxHeartbeats 8000000 in
theorem rsame8_any (a b : Co) (va vd ua ud : Value) (w : World) (h1 : Row w va a.alts) (h2 : Row w vd a.after) (h3 : Row w ua b.alts) (h4 : Row w ud b.after) :
    Calls Tryz.prog 14 #[cmdV a va vd, cmdV b ua ud] w fun e w' => e = .returned (.bool (sameC a b)) ∧ Below w.heap.size w w' := by
  obtain ⟨a1, a2, a3, a4, a5, a6, a7, a8, a9, a10, a11, a12, a13, a14, a15, a16, a17, a18⟩ := a
  obtain ⟨b1, b2, b3, b4, b5, b6, b7, b8, b9, b10, b11, b12, b13, b14, b15, b16, b17, b18⟩ := b
  obtain ⟨p1, q1, rfl, l1, m1, r1, n1⟩ := h1
  obtain ⟨p2, q2, rfl, l2, m2, r2, n2⟩ := h2
  obtain ⟨p3, q3, rfl, l3, m3, r3, n3⟩ := h3
  obtain ⟨p4, q4, rfl, l4, m4, r4, n4⟩ := h4
  unfold cmdV sameC
  dsimp only at *
  have cS := fun (w2 : World) (hb : Below w.heap.size w w2) => Shape.shsame_any a6 p1 a7.length q1 a7 a8 a9 a10 b6 p3 b7.length q3 b7 b8 b9 b10 w2 rfl rfl (by omega) (by omega) (r1.below altC_length hb) (r3.below altC_length hb)
  have CS := Lib.hid cS
  unfold maxLen at m2 m4
  have HX := Lib.hid r2
  have HY := Lib.hid r4
  obtain ⟨S, hS⟩ : ∃ S, S = sameL a15 b15 := ⟨_, rfl⟩
  obtain ⟨G, hG⟩ : ∃ S, S = sameB a6 a7 a8 a9 a10 b6 b7 b8 b9 b10 := ⟨_, rfl⟩
  rw [← hS, ← hG]
  rw [← hG] at CS
  clear cS r1 r2 r3 r4 n1 n2 n3 n4 hG
  by_cases hl : a15.length = b15.length
  · have hd : ((a15.length : Int) != (b15.length : Int)) = false := by rw [bne_eq_false_iff_eq]; omega
    have HS := Lib.hid hS
    clear hS
    go_enter Tryz.func14, Tryz.ntmps14
    go_wp2
    go_loopw [5] (fun i wr => ∃ k : Nat, i = .int .i64 (k : Int) ∧ k ≤ a15.length ∧ sameL (a15.drop k) (b15.drop k) = S ∧ TwoAt w wr #[.int .i64 a1, .int .i64 a2, .string a3, .string a4, .string a5, .int .i64 a6, .slice p1 a7.length q1, .int .i64 a8, .int .i64 a9, .int .i64 a10, .int .i64 a11, .bool a12, .int .i64 a13, .bool a14, .slice p2 b15.length q2, .int .i64 a16, .int .i64 a17, .int .i64 a18] #[.int .i64 b1, .int .i64 b2, .string b3, .string b4, .string b5, .int .i64 b6, .slice p3 b7.length q3, .int .i64 b8, .int .i64 b9, .int .i64 b10, .int .i64 b11, .bool b12, .int .i64 b13, .bool b14, .slice p4 b15.length q4, .int .i64 b16, .int .i64 b17, .int .i64 b18]) (fun i _ => a15.length - (intOf i).toNat)
    case atStart => exact ⟨0, rfl, Nat.zero_le _, HS.out.symm, TwoAt.new _ _ _⟩
    case round =>
      obtain ⟨k, rfl, hk, hs, ht⟩ := hrel
      have HT2 := Lib.hid ht
      obtain ⟨x0, x1, x2, x3, x4, x5, x6, x7, x8, x9, x10, x11, x12, x13, x14, x15, x16, x17⟩ := all18 ht.one
      obtain ⟨y0, y1, y2, y3, y4, y5, y6, y7, y8, y9, y10, y11, y12, y13, y14, y15, y16, y17⟩ := all18 ht.two
      by_cases hp : k < a15.length
      · have hp2 : k < b15.length := by omega
        obtain ⟨ab, ao, rfl, u0, u1⟩ := alt_cells (HX.out.below altC_length ht.lo) hp
        obtain ⟨bb, bo, rfl, v0, v1⟩ := alt_cells (HY.out.below altC_length ht.lo) hp2
        have hye := sameL_step hp hp2
        have hno := sameL_no hp hp2
        obtain ⟨⟨k1, n1⟩, hX⟩ : ∃ X : Alt, X = a15[k] := ⟨_, rfl⟩
        obtain ⟨⟨k2, n2⟩, hY⟩ : ∃ Y : Alt, Y = b15[k] := ⟨_, rfl⟩
        rw [← hX] at u0 u1 hye hno
        rw [← hY] at v0 v1 hye hno
        dsimp only at u0 u1 v0 v1
        have hlow : (0 : Int) ≤ (k : Int) := by omega
        have hup1 : (k : Int) < ((a15.length : Nat) : Int) := by omega
        have hup2 : (k : Int) < ((b15.length : Nat) : Int) := by omega
        clear ht x0 x1 x2 x3 x4 x5 x6 x7 x8 x9 x10 x11 x12 x13 x15 x16 x17 y0 y1 y2 y3 y4 y5 y6 y7 y8 y9 y10 y11 y12 y13 y15 y16 y17
        cases t1 : (k1 != k2) with
        | true =>
          have HN := Lib.hid ((hno (fun h => by injection h with h1 _; rw [bne_iff_ne] at t1; exact t1 h1)).symm.trans hs)
          clear hX hY hs hye hno
          go_wp2
          go_quiet (fail)
          go_wp2
          go_ret
          exact ⟨ret_bool (by rw [← HN.out]; simp), Base.below_drewN HT2.out.lo _⟩
        | false =>
          cases t2 : (n1 != n2) with
          | true =>
            have HN := Lib.hid ((hno (fun h => by injection h with _ h2; rw [bne_iff_ne] at t2; exact t2 h2)).symm.trans hs)
            clear hX hY hs hye hno
            go_wp2
            go_quiet (fail)
            go_wp2
            go_ret
            exact ⟨ret_bool (by rw [← HN.out]; simp), Base.below_drewN HT2.out.lo _⟩
          | false =>
            have HN := Lib.hid ((hye (by rw [bne_eq_false_iff_eq] at t1 t2; rw [t1, t2])).symm.trans hs)
            clear hX hY hs hye hno
            go_wp2
            go_quiet (fail)
            go_wp2
            refine ⟨⟨k + 1, by go_num, by omega, HN.out, HT2.out.drewN _⟩, ?_⟩
            simp [intOf]; omega
      · obtain rfl : true = S := (by rw [← hs, List.drop_of_length_le (by omega), List.drop_of_length_le (by omega)]; rfl)
        have hlow : ¬ (k : Int) < ((a15.length : Nat) : Int) := by omega
        have HB := Lib.hid ht.lo
        clear hs ht HT2 HX HY HS
        go_wp2_with (first
          | (go_at_call 38; (with_reducible refine (CS.out _ (by first | exact HB.out | (focus repeat (first | exact Below.refl _ _ | assumption | (exact Hid.out (by assumption)) | (with_reducible refine Below.drew ?_) | (with_reducible refine Base.below_drewN ?_ _) | (refine Below.from (below_one _) ?_) | (refine Below.from (below_conv _ _ _) ?_) | (refine Below.setCell ?_ (by simp <;> omega) _) | (refine Below.from (by assumption) ?_))))).mono ?_); rintro e w2 ⟨rfl, p2⟩)
          | fail)
        all_goals first
          | (go_ret; refine ⟨ret_bool ?_, by first | exact HB.out | exact HB.out.trans (p2.mono HB.out.size) | (focus repeat (first | exact Below.refl _ _ | assumption | (exact Hid.out (by assumption)) | (with_reducible refine Below.drew ?_) | (with_reducible refine Base.below_drewN ?_ _) | (refine Below.from (below_one _) ?_) | (refine Below.from (below_conv _ _ _) ?_) | (refine Below.setCell ?_ (by simp <;> omega) _) | (refine Below.from (by assumption) ?_)))⟩; (try simp only [tl_eq] at *); simp [*]; done)
          | trace_state
  · have hd : ((a15.length : Int) != (b15.length : Int)) = true := by rw [bne_iff_ne]; omega
    have HN : Hid (false = S) := Lib.hid (by rw [hS]; unfold sameL; symm; rw [decide_eq_false_iff_not]; intro h; rw [h] at hl; exact hl rfl)
    clear hS
    go_enter Tryz.func14, Tryz.ntmps14
    go_wp2
    go_ret
    exact ⟨ret_bool (by rw [← HN.out]; simp), by (focus repeat (first | exact Below.refl _ _ | assumption | (exact Hid.out (by assumption)) | (with_reducible refine Below.drew ?_) | (with_reducible refine Base.below_drewN ?_ _) | (refine Below.from (below_one _) ?_) | (refine Below.from (below_conv _ _ _) ?_) | (refine Below.setCell ?_ (by simp <;> omega) _) | (refine Below.from (by assumption) ?_)))⟩
end Go.Proofs.YtdkngidangfkiaaGreatDoor.Cmd
