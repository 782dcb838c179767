/-
  The walks of the statements of layer 10: 'awake', 'Few', ProfileLooks.
-/
import Derived.Test.YtoiahlbaiakngaaProfSame
import Derived.Test.YtoiahlbaiakngaaProfRLst
import Derived.Test.YtoiahlbaiakngaaProfLst
import Derived.Test.YtoiahlbaiakngaaProfAddR
namespace Go.Proofs.Ytoiahlbaiakngaa.Prof
open Go.RowKit
open Base
set_option linter.unusedVariables false
set_option linter.unusedSimpArgs false

set_option maxRecDepth 100000 in
theorem run_st_eql (W : World) (a b c d : Int) : (binOp .eql 43 (.agg #[.int .i64 a, .int .i64 b]) (.agg #[.int .i64 c, .int .i64 d])).run Try.prog W = .ok (.bool (decide ((a, b) = (c, d)))) W := by
  rw [run_eql_struct, run_equalIn_agg (ht := by simp [Program.fieldsOf, Try.underlying43]) (hp := by kernel_rfl)]
  simp only [Program.fieldsOf, Try.underlying43, Op.eqFields]
  simp [go_sem, Try.underlying3]
  by_cases h1 : a = c
  · by_cases h2 : b = d <;> simp [h1, h2]
  · simp [h1]
theorem run_st_eguard (W : World) (x y : Operand) (xs ys : Array Value) : (eqGuard .eql 43 x y (.agg xs) (.agg ys)).run Try.prog W = .ok () W := run_eqGuard_agg W _ _ x y xs ys (by kernel_rfl)

set_option maxRecDepth 100000 in
set_option maxHeartbeats 4000000 in
theorem awake_any (w : World) :
    Calls Try.prog 9 #[] w fun e w' => e = .returned (.bool true) ∧ Below w.heap.size w w' := by
  have k0 : (0 : Nat) ≤ maxLen := Nat.zero_le _
  have e0 : flatL 4 = [(0, 4)] := by decide
  have e1 : addR [(0, 4)] 5 9 (-3) = ([(0, 4), (5, 1), (9, 4)], 0) := by decide
  have e2 : addR [] 0 1 1 = ([], 100) := by decide
  have e3 : leastR [(0, 4), (5, 1), (9, 4)] 3 6 = 1 := by decide
  have e4 : atR [(0, 4), (5, 1), (9, 4)] 9 = 4 := by decide
  have e5 : chkE [(0, 4), (5, 1), (9, 4)] = 0 := by decide
  have e6 : sameL [(0, 4), (5, 1), (9, 4)] [(0, 4), (5, 1), (9, 4)] = true := by decide
  obtain ⟨Z, hZ⟩ : ∃ Z : List St, Z = [(0, 4), (5, 1), (9, 4)] := ⟨_, rfl⟩
  rw [← hZ] at e1 e3 e4 e5 e6
  have hZl : Z.length = 3 := by rw [hZ]; rfl
  have hZ1 : ∀ h : 1 < Z.length, Z[1]'h = (5, 1) := by subst hZ; intro h; rfl
  have c1 := fun W => flat_any 4 W
  rw [e0] at c1
  have c2 := fun (W : World) (B : Nat) (hr : ReadsS 2 stC W (some ⟨B, 0, none⟩) [(0, 4)]) => add_any (some ⟨B, 0, none⟩) 1 1 [(0, 4)] 5 9 (-3) W rfl (Nat.le_refl _) (by unfold maxLen; omega) hr
  have c3 := fun W => add_any none 0 0 [] 0 1 1 W rfl (Nat.le_refl _) k0 (.inl rfl)
  have c4 := fun (W : World) (ao : Option Addr) (cap : Nat) (hl : 3 ≤ cap) (hm : cap ≤ maxLen) (hr : ReadsS 2 stC W ao Z) => least_any ao 3 cap Z 3 6 W hZl hl hm hr
  have c5 := fun (W : World) (ao : Option Addr) (cap : Nat) (hl : 3 ≤ cap) (hm : cap ≤ maxLen) (hr : ReadsS 2 stC W ao Z) => at_any ao 3 cap Z 9 W hZl hl hm hr
  have c6 := fun (W : World) (ao : Option Addr) (cap : Nat) (hr : ReadsS 2 stC W ao Z) => check_any ao 3 cap Z W hZl (by unfold maxLen; omega) hr
  have c7 := fun (W : World) (ao : Option Addr) (cap : Nat) (hr : ReadsS 2 stC W ao Z) => same_any ao ao 3 3 cap cap Z Z W hZl hZl (by unfold maxLen; omega) (by unfold maxLen; omega) hr hr
  unfold AddSays at c2 c3
  simp only [e1, e2, e3, e4, e5, e6, hZl] at c2 c3 c4 c5 c6 c7
  have hq := fun W => run_st_eql W 5 1 5 1
  simp only [decide_true] at hq
  have hg := fun W (x y : Operand) => run_st_eguard W x y #[.int .i64 5, .int .i64 1] #[.int .i64 5, .int .i64 1]
  have C1 := Lib.hid c1
  have C2 := Lib.hid c2
  have C3 := Lib.hid c3
  have C4 := Lib.hid c4
  have C5 := Lib.hid c5
  have C6 := Lib.hid c6
  have C7 := Lib.hid c7
  have HZ1 := Lib.hid hZ1
  have HZL := Lib.hid hZl
  clear c1 c2 c3 c4 c5 c6 c7 e0 e1 e2 e3 e4 e5 e6 hZ k0 hZ1
  clear hZl
  go_enter Try.func9, Try.ntmps9
  go_wp2_with (first
    | (go_at_call 17; (with_reducible refine (C1.out _).mono ?_); rintro e w1 ⟨B1, rfl, r1, p1⟩; have R1 := Lib.hid r1; clear r1)
    | (go_at_call 19; (with_reducible refine (C2.out _ _ R1.out).mono ?_); rintro e w2 ⟨ao2, cap2, rfl, r2, n2, l2, m2, p2⟩; have R2 := Lib.hid r2; have P2 := Lib.hid (p2.from p1); clear r2 n2 p2)
    | (go_at_call 19; (with_reducible refine (C3.out _).mono ?_); rintro e w3 ⟨ao3, cap3, rfl, r3, n3, l3, m3, p3⟩; have R3 := Lib.hid (R2.out.below stC_length p3); have P3 := Lib.hid (p3.from P2.out); obtain ⟨bb, bo, hao, b0, b1⟩ := st_cells R3.out (j := 1) (by rw [HZL.out]; decide); rw [HZ1.out] at b0 b1; dsimp only at b0 b1; subst hao; clear r3 p3)
    | (go_at_call 14; (with_reducible refine (C4.out _ _ _ l2 m2 R3.out).mono ?_); rintro e w4 ⟨rfl, p4⟩; have R4 := Lib.hid (R3.out.below stC_length p4); have P4 := Lib.hid (p4.from P3.out); clear p4)
    | (go_at_call 12; (with_reducible refine (C5.out _ _ _ l2 m2 R4.out).mono ?_); rintro e w5 ⟨rfl, p5⟩; have R5 := Lib.hid (R4.out.below stC_length p5); have P5 := Lib.hid (p5.from P4.out); clear p5)
    | (go_at_call 10; (with_reducible refine (C6.out _ _ _ R5.out).mono ?_); rintro e w6 ⟨rfl, p6⟩; have R6 := Lib.hid (R5.out.below stC_length p6); have P6 := Lib.hid (p6.from P5.out); clear p6)
    | (go_at_call 21; (with_reducible refine (C7.out _ _ _ R6.out).mono ?_); rintro e w7 ⟨rfl, p7⟩; have P7 := Lib.hid (p7.from P6.out); clear p7)
    | fail)
  go_ret
  exact ⟨rfl, P7.out⟩

/-- Few's answer. -/
def fewB (n : Nat) : Bool := decide ((n : Int) ≤ 200)
set_option maxHeartbeats 1000000 in
theorem few_any (ao : Option Addr) (len cap : Nat) (w : World) (hl : len ≤ 9223372036854775807) :
    Calls Try.prog 8 #[.slice ao len cap] w fun e w' => e = .returned (.bool (fewB len)) ∧ w = w' := by
  have HX : Hid (decide ((len : Int) ≤ 200) = fewB len) := Lib.hid rfl
  have HX2 : Hid (decide (len ≤ 200) = fewB len) := Lib.hid (by unfold fewB; rw [Bool.eq_iff_iff, decide_eq_true_eq, decide_eq_true_eq]; omega)
  go_enter Try.func8, Try.ntmps8
  go_wp2
  go_ret
  exact ⟨ret_bool (by first | exact HX.out | exact HX2.out), rfl⟩
theorem few_le {n : Nat} (h : fewB n = true) : n ≤ 200 := by unfold fewB at h; have := of_decide_eq_true h; omega

set_option maxRecDepth 100000 in
set_option maxHeartbeats 4000000 in
theorem looks_any (ao : Option Addr) (len cap : Nat) (p : List St) (a b : Int) (w : World) (hlen : p.length = len) (hlc : len ≤ cap) (hcap : cap ≤ maxLen) (hr : ReadsS 2 stC w ao p) :
    Calls Try.prog 3 #[.slice ao len cap, .int .i64 a, .int .i64 b] w fun e w' => e = .returned (.bool true) ∧ Below w.heap.size w w' := by
  have hl64 : len ≤ 9223372036854775807 := by unfold maxLen at hcap; omega
  have cF := fun w => few_any ao len cap w hl64
  have cW := fun w => awake_any w
  have CW := Lib.hid cW
  clear cW
  cases hf : fewB len with
  | false =>
    simp only [hf] at cF
    have CF := Lib.hid cF
    clear cF hf hr hlen
    go_enter Try.func3, Try.ntmps3
    go_wp2_with (first
      | (go_at_call 8; (with_reducible refine (CF.out _).mono ?_); rintro e w1 ⟨rfl, rfl⟩)
      | (go_at_call 9; (with_reducible refine (CW.out _).mono ?_); rintro e w2 ⟨rfl, p2⟩)
      | fail)
    go_ret
    exact ⟨rfl, p2⟩
  | true =>
    simp only [hf] at cF
    have CF := Lib.hid cF
    have c1 := fun (w2 : World) (hb : Below w.heap.size w w2) => check_any ao len cap p w2 hlen (by omega) (hr.below stC_length hb)
    have c2 := fun (w2 : World) (hb : Below w.heap.size w w2) => rcheck_any ao len cap p w2 hlen (by omega) (hr.below stC_length hb)
    have c3 := fun (w2 : World) (hb : Below w.heap.size w w2) => at_any ao len cap p a w2 hlen hlc hcap (hr.below stC_length hb)
    have c4 := fun (w2 : World) (hb : Below w.heap.size w w2) => rat_any ao len cap p a w2 hlen (by omega) (hr.below stC_length hb)
    have c5 := fun (w2 : World) (hb : Below w.heap.size w w2) => least_any ao len cap p a b w2 hlen hlc hcap (hr.below stC_length hb)
    have c6 := fun (w2 : World) (hb : Below w.heap.size w w2) => rleast_any ao len cap p a b w2 hlen (by omega) (hr.below stC_length hb)
    have c7 := fun w => flat_any b w
    have c8 := fun w => rflat_any b w
    have hfl : (flatL b).length = 1 := rfl
    have hss : sameL (flatL b) (flatL b) = true := by unfold sameL; rw [decide_eq_true rfl]
    generalize flatL b = F at c7 c8 hfl hss
    have c9 := fun (B1 B2 : Nat) (W : World) (hx : ReadsS 2 stC W (some ⟨B1, 0, none⟩) F) (hy : ReadsS 2 stC W (some ⟨B2, 0, none⟩) F) => rsame_any (some ⟨B1, 0, none⟩) (some ⟨B2, 0, none⟩) 1 1 1 1 F F W hfl hfl (by unfold maxLen; omega) (by unfold maxLen; omega) hx hy
    simp only [hss] at c9
    generalize chkE p = E at c1 c2
    generalize atR p a = T at c3 c4
    generalize leastR p a b = M at c5 c6
    have t1 : (E == E) = true := by simp
    have t2 : (T == T) = true := by simp
    have t3 : (M == M) = true := by simp
    have C1 := Lib.hid c1
    have C2 := Lib.hid c2
    have C3 := Lib.hid c3
    have C4 := Lib.hid c4
    have C5 := Lib.hid c5
    have C6 := Lib.hid c6
    have C7 := Lib.hid c7
    have C8 := Lib.hid c8
    have C9 := Lib.hid c9
    clear c1 c2 c3 c4 c5 c6 c7 c8 c9 hss hfl cF hf hr hlen
    go_enter Try.func3, Try.ntmps3
    go_wp2_with (first
      | (go_at_call 8; (with_reducible refine (CF.out _).mono ?_); rintro e w0 ⟨rfl, rfl⟩)
      | (go_at_call 10; (with_reducible refine (C1.out _ (Below.refl _ _)).mono ?_); rintro e w1 ⟨rfl, p1⟩)
      | (go_at_call 11; (with_reducible refine (C2.out _ p1).mono ?_); rintro e w2 ⟨rfl, q2⟩; have p2 := q2.from p1; clear q2)
      | (go_at_call 12; (with_reducible refine (C3.out _ p2).mono ?_); rintro e w3 ⟨rfl, q3⟩; have p3 := q3.from p2; clear q3)
      | (go_at_call 13; (with_reducible refine (C4.out _ p3).mono ?_); rintro e w4 ⟨rfl, q4⟩; have p4 := q4.from p3; clear q4)
      | (go_at_call 14; (with_reducible refine (C5.out _ p4).mono ?_); rintro e w5 ⟨rfl, q5⟩; have p5 := q5.from p4; clear q5)
      | (go_at_call 15; (with_reducible refine (C6.out _ p5).mono ?_); rintro e w6 ⟨rfl, q6⟩; have p6 := q6.from p5; clear q6)
      | (go_at_call 17; (with_reducible refine (C7.out _).mono ?_); rintro e w7 ⟨B7, rfl, r7, q7⟩; have R7 := Lib.hid r7; have p7 := q7.from p6; clear q7 r7)
      | (go_at_call 18; (with_reducible refine (C8.out _).mono ?_); rintro e w8 ⟨B8, rfl, r8, q8⟩; have R8 := Lib.hid r8; have R78 := Lib.hid (R7.out.below stC_length q8); have p8 := q8.from p7; clear q8 r8)
      | (go_at_call 16; (with_reducible refine (C9.out _ _ _ R78.out R8.out).mono ?_); rintro e w9 ⟨rfl, q9⟩; have p9 := q9.from p8; clear q9)
      | (go_at_call 9; (with_reducible refine (CW.out _).mono ?_); rintro e w10 ⟨rfl, q10⟩; have p10 := q10.from p9; clear q10)
      | fail)
    go_ret
    exact ⟨rfl, p10⟩

end Go.Proofs.Ytoiahlbaiakngaa.Prof
