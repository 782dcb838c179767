/-
  The walks of the statements of layer 9.
-/
import Derived.Test.YtgneleembnchfaaDoorNodeLast
import Derived.Test.YtgneleembnchfaaDoorNodeParse
import Derived.Test.YtgneleembnchfaaDoorNodeRParse
namespace Go.Proofs.YtgneleembnchfaaDoor.Node
open Go.RowKit
open Base NodeLib
set_option linter.unusedVariables false
set_option linter.unusedSimpArgs false

theorem reads_five {f : Int → Value} {w : World} {n : Nat} (hn : n = w.heap.size) (x y z u v : Int) (t : TypeId) : Reads f (w.alloc (.cells #[f x, f y, f z, f u, f v] t)) (some ⟨n, 0, none⟩) [x, y, z, u, v] := by
  refine .inr ⟨n, 0, rfl, fun j hj => ?_⟩
  rw [World.cell?_alloc_at _ _ _ _ hn]
  match j, hj with
  | 0, _ => rfl
  | 1, _ => rfl
  | 2, _ => rfl
  | 3, _ => rfl
  | 4, _ => rfl

abbrev yt : ByteArray := ⟨#[48, 45, 51, 44, 55]⟩

set_option maxRecDepth 100000 in
set_option maxHeartbeats 4000000 in
theorem awake_any (w : World) (hT : Tb w) :
    Calls Tryd.prog 8 #[] w fun e w' => e = .returned (.bool true) ∧ Below w.heap.size w w' := by
  have HT := Lib.hid hT
  clear hT
  have e1 : ofS [7, 0, 1, 2, 3] = 143 ∧ ofE [7, 0, 1, 2, 3] = 0 := by decide +kernel
  have e2 : lowS 143 2 = 3 ∧ soMany 143 2 = true ∧ highS 143 2 = 136 := by decide +kernel
  have e3 : parseS yt.data.toList = 143 ∧ parseE yt.data.toList = 0 := by decide +kernel
  have e4 : ofS [3, 3] = 0 ∧ ofE [3, 3] = 90 := by decide +kernel
  have e5 : (⟨(showT (mem 143)).toArray⟩ : ByteArray) = yt := by decide +kernel
  have e6 : (mem 143).length = 5 ∧ hasB 143 7 = true ∧ hasB 143 4 = false ∧ allN 3 = 7 := by decide +kernel
  have c1 := fun (w : World) (n : Nat) (hn : n = w.heap.size) (t : TypeId) => of_any (some ⟨n, 0, none⟩) 5 5 [7, 0, 1, 2, 3] (w.alloc (.cells #[.int .i64 7, .int .i64 0, .int .i64 1, .int .i64 2, .int .i64 3] t)) rfl (by decide) (reads_five hn _ _ _ _ _ _)
  have c4 := fun (w : World) (n : Nat) (hn : n = w.heap.size) (t : TypeId) => of_any (some ⟨n, 0, none⟩) 2 2 [3, 3] (w.alloc (.cells #[.int .i64 3, .int .i64 3] t)) rfl (by decide) (reads_two hn _ _ _)
  have c2 := fun w => low_any 143 (by decide) 143 2 rfl w
  have c3 := fun w => high_any 143 (by decide) 143 2 rfl w
  have c5 := fun w hT => parse_any yt (by decide) w hT
  have c6 := fun w hT => show_any 143 (by decide) 143 rfl w hT
  have c7 := fun w => count_any 143 (by decide) 143 rfl w
  have c8 := fun w => has_any 143 (by decide) 143 7 rfl w
  have c9 := fun w => has_any 143 (by decide) 143 4 rfl w
  have c10 := fun w => all_any 3 w
  have c11 := fun w => list_any 143 (by decide) 143 rfl w
  simp only [e1.1, e1.2] at c1
  simp only [e4.1, e4.2] at c4
  simp only [e2.1, e2.2.1] at c2
  simp only [e2.2.1, e2.2.2] at c3
  simp only [e3.1, e3.2] at c5
  simp only [e5] at c6
  simp only [e6.1] at c7 c11
  simp only [e6.2.1] at c8
  simp only [e6.2.2.1] at c9
  simp only [e6.2.2.2] at c10
  have C1 := Lib.hid c1
  have C2 := Lib.hid c2
  have C3 := Lib.hid c3
  have C4 := Lib.hid c4
  have C5 := Lib.hid c5
  have C6 := Lib.hid c6
  have C7 := Lib.hid c7
  have C8 := Lib.hid c8
  have C9 := Lib.hid c9
  have C10 := Lib.hid c10
  have C11 := Lib.hid c11
  clear e1 e2 e3 e4 e5 e6 c1 c2 c3 c4 c5 c6 c7 c8 c9 c10 c11
  go_enter Tryd.func8, Tryd.ntmps8
  go_wp2_with (first
    | (go_at_call 9; (with_reducible refine (C1.out _ _ rfl _).mono ?_); rintro e w1 ⟨rfl, rfl⟩)
    | (go_at_call 19; (with_reducible refine (C2.out _).mono ?_); rintro e w2 ⟨rfl, rfl⟩)
    | (go_at_call 21; (with_reducible refine (C3.out _).mono ?_); rintro e w3 ⟨rfl, rfl⟩)
    | (go_at_call 9; (with_reducible refine (C4.out _ _ rfl _).mono ?_); rintro e w4 ⟨rfl, rfl⟩)
    | (go_at_call 23; (with_reducible refine (C5.out _ (HT.out.later (below_one _))).mono ?_); rintro e w5 ⟨rfl, p5⟩)
    | (go_at_call 25; (with_reducible refine (C6.out _ (HT.out.later ((below_one _).from (p5.from (below_one _))))).mono ?_); rintro e w6 ⟨rfl, p6⟩)
    | (go_at_call 14; (with_reducible refine (C7.out _).mono ?_); rintro e w7 ⟨rfl, rfl⟩)
    | (go_at_call 15; (with_reducible refine (C8.out _).mono ?_); rintro e w8 ⟨rfl, rfl⟩)
    | (go_at_call 15; (with_reducible refine (C9.out _).mono ?_); rintro e w9 ⟨rfl, rfl⟩)
    | (go_at_call 17; (with_reducible refine (C10.out _).mono ?_); rintro e w10 ⟨rfl, rfl⟩)
    | (go_at_call 13; (with_reducible refine (C11.out _).mono ?_); rintro e w11 ⟨ao, cap, rfl, r11, n11, k11, m11, p11⟩)
    | fail)
  go_ret
  exact ⟨rfl, p11.from (p6.from ((below_one _).from (p5.from (below_one _))))⟩

set_option maxRecDepth 100000 in
set_option maxHeartbeats 4000000 in
theorem nodesetEnds_any (s n : Int) (h0 : 0 ≤ s) (h1 : s ≤ 18446744073709551615) (w : World) (hT : Tb w) :
    Calls Tryd.prog 4 #[.int .u64 s, .int .i64 n] w fun e w' => e = .returned (.bool true) ∧ Below w.heap.size w w' := by
  have HT := Lib.hid hT
  obtain ⟨S, hs⟩ := Int.eq_ofNat_of_zero_le h0
  have hS : S < 18446744073709551616 := by omega
  have C1 := Lib.hid (fun w => low_any S hS s n hs w)
  have C2 := Lib.hid (fun w => rlow_any S hS s n hs w)
  have C3 := Lib.hid (fun w => high_any S hS s n hs w)
  have C4 := Lib.hid (fun w => rhigh_any S hS s n hs w)
  have C5 := Lib.hid awake_any
  clear hs hT h0 h1
  go_enter Tryd.func4, Tryd.ntmps4
  go_wp2_with (first
    | (go_at_call 19; (with_reducible refine (C1.out _).mono ?_); rintro e w1 ⟨rfl, rfl⟩)
    | (go_at_call 20; (with_reducible refine (C2.out _).mono ?_); rintro e w2 ⟨rfl, p2⟩)
    | (go_at_call 21; (with_reducible refine (C3.out _).mono ?_); rintro e w3 ⟨rfl, rfl⟩)
    | (go_at_call 22; (with_reducible refine (C4.out _).mono ?_); rintro e w4 ⟨rfl, p4⟩)
    | (go_at_call 8; (with_reducible refine (C5.out _ (HT.out.later (p4.from p2))).mono ?_); rintro e w5 ⟨rfl, p5⟩)
    | fail)
  go_ret
  exact ⟨rfl, p5.from (p4.from p2)⟩

set_option maxRecDepth 100000 in
set_option maxHeartbeats 4000000 in
theorem nodesetOf_any (w : World) (a : Option Addr) (len cap : Nat) (zs : List Int) (s n : Int) (hlen : zs.length = len) (hl : len ≤ 9223372036854775807) (hr : Reads (.int .i64) w a zs) (h0 : 0 ≤ s) (h1 : s ≤ 18446744073709551615) (hT : Tb w) :
    Calls Tryd.prog 3 #[.slice a len cap, .int .u64 s, .int .i64 n] w fun e w' => e = .returned (.bool true) ∧ Below w.heap.size w w' := by
  have HT := Lib.hid hT
  have HR := Lib.hid hr
  subst hlen
  have C0 := Lib.hid awake_any
  by_cases h5 : 500 < zs.length
  · have t1 : decide ((500 : Int) < (zs.length : Int)) = true := decide_eq_true (by omega)
    have t2 : decide (500 < zs.length) = true := decide_eq_true h5
    clear hT hr
    go_enter Tryd.func3, Tryd.ntmps3
    go_wp2_with (first
      | (go_at_call 8; (with_reducible refine (C0.out _ HT.out).mono ?_); rintro e w5 ⟨rfl, p5⟩)
      | fail)
    go_ret
    exact ⟨rfl, p5⟩
  · have t1 : decide ((500 : Int) < (zs.length : Int)) = false := decide_eq_false (by omega)
    have t2 : decide (500 < zs.length) = false := decide_eq_false h5
    obtain ⟨S, hs⟩ := Int.eq_ofNat_of_zero_le h0
    have hS : S < 18446744073709551616 := by omega
    have C1 := Lib.hid (fun w hr => of_any a zs.length cap zs w rfl (by omega) hr)
    have C2 := Lib.hid (fun w hr => rof_any a zs.length cap zs w rfl (by omega) hr)
    have C3 := Lib.hid (fun w => rlist_any S hS s hs w)
    have C4 := Lib.hid (fun w => list_any S hS s hs w)
    have C5 := Lib.hid (fun w => count_any S hS s hs w)
    have C6 := Lib.hid (fun w => has_any S hS s n hs w)
    have C7 := Lib.hid (fun w => rhas_any S hS s n hs w)
    have C8 := Lib.hid (fun w => all_any n w)
    have C9 := Lib.hid (fun w => rall_any n w)
    have hml := mem_length_le S
    have HLI : Hid ((ints (mem S)).length = (mem S).length) := Lib.hid (ints_length _)
    have C10 := Lib.hid (fun a b ca cb w h1 h2 => rsame_any a b (mem S).length (mem S).length ca cb (ints (mem S)) w HLI.out HLI.out (by rw [HLI.out]; omega) h1 h2)
    clear hs hT hr h0 h1
    go_enter Tryd.func3, Tryd.ntmps3
    go_wp2_with (first
      | (go_at_call 9; (with_reducible refine (C1.out _ HR.out).mono ?_); rintro e w1 ⟨rfl, rfl⟩)
      | (go_at_call 10; (with_reducible refine (C2.out _ HR.out).mono ?_); rintro e w2 ⟨rfl, p2⟩)
      | (go_at_call 11; (with_reducible refine (C3.out _).mono ?_); rintro e w3 ⟨ao, ca, rfl, r3, n3, k3, m3, p3⟩; have R3 := Lib.hid r3; have P3 := Lib.hid (p3.from p2); clear r3 n3 k3 m3 p3)
      | (go_at_call 13; (with_reducible refine (C4.out _).mono ?_); rintro e w4 ⟨bo, cb, rfl, r4, n4, k4, m4, p4⟩; have R4 := Lib.hid r4; have P4 := Lib.hid p4; clear r4 n4 k4 m4 p4)
      | (go_at_call 12; (with_reducible refine (C10.out _ _ _ _ _ R4.out (R3.out.below P4.out)).mono ?_); rintro e w5 ⟨rfl, p5⟩)
      | (go_at_call 14; (with_reducible refine (C5.out _).mono ?_); rintro e w6 ⟨rfl, rfl⟩)
      | (go_at_call 15; (with_reducible refine (C6.out _).mono ?_); rintro e w7 ⟨rfl, rfl⟩)
      | (go_at_call 16; (with_reducible refine (C7.out _).mono ?_); rintro e w8 ⟨rfl, rfl⟩)
      | (go_at_call 17; (with_reducible refine (C8.out _).mono ?_); rintro e w9 ⟨rfl, rfl⟩)
      | (go_at_call 18; (with_reducible refine (C9.out _).mono ?_); rintro e w10 ⟨rfl, p10⟩)
      | (go_at_call 8; (with_reducible refine (C0.out _ (HT.out.later (p10.from (p5.from (P4.out.from P3.out))))).mono ?_); rintro e w11 ⟨rfl, p11⟩)
      | fail)
    go_ret
    exact ⟨rfl, p11.from (p10.from (p5.from (P4.out.from P3.out)))⟩

end Go.Proofs.YtgneleembnchfaaDoor.Node
