/-
  The walks of the statements about Add: ProfileAdds, ProfileOrder, ProfileBack.
-/
import Derived.Test.YtoiahlbaiakngaaLaw10
import Derived.Test.YtoiahlbaiakngaaProfRAdd
namespace Go.Proofs.Ytoiahlbaiakngaa.Prof
open Go.RowKit
open Base
set_option linter.unusedVariables false
set_option linter.unusedSimpArgs false

/-- Block B is a span's box. -/
def SpanAt (W : World) (B : Nat) (a b n : Int) : Prop := W.cell? ⟨B, 0, none⟩ = some (.int .i64 a) ∧ W.cell? ⟨B, 1, none⟩ = some (.int .i64 b) ∧ W.cell? ⟨B, 2, none⟩ = some (.int .i64 n)
theorem SpanAt.below {W W' : World} {B : Nat} {a b n : Int} (h : SpanAt W B a b n) (hb : Below W.heap.size W W') : SpanAt W' B a b n := ⟨cell_below h.1 hb, cell_below h.2.1 hb, cell_below h.2.2 hb⟩
theorem SpanAt.new (w : World) (a b n : Int) : SpanAt (w.alloc (.cells #[.int .i64 a, .int .i64 b, .int .i64 n] 34)) w.heap.size a b n := by
  refine ⟨?_, ?_, ?_⟩ <;> (rw [World.cell?_alloc_at _ _ _ _ rfl]; rfl)
theorem SpanAt.new2 (w : World) (o : Obj) (a b n : Int) : SpanAt ((w.alloc o).alloc (.cells #[.int .i64 a, .int .i64 b, .int .i64 n] 34)) (w.heap.size + 1) a b n := by
  have := SpanAt.new (w.alloc o) a b n
  rwa [World.size_alloc] at this

set_option maxRecDepth 100000 in
set_option maxHeartbeats 4000000 in
theorem adds_any (ao : Option Addr) (len cap : Nat) (p : List St) (a b n : Int) (ao2 : Option Addr) (len2 cap2 : Nat) (q : List St) (w : World) (hlen : p.length = len) (hlc : len ≤ cap) (hcap : cap ≤ maxLen) (hr : ReadsS 2 stC w ao p)
    (hlen2 : q.length = len2) (hlc2 : len2 ≤ cap2) (hcap2 : cap2 ≤ maxLen) (hr2 : ReadsS 2 stC w ao2 q) :
    Calls Try.prog 4 #[.slice ao len cap, .agg #[.int .i64 a, .int .i64 b, .int .i64 n], .slice ao2 len2 cap2] w fun e w' => e = .returned (.bool true) ∧ Below w.heap.size w w' := by
  have hl64 : len ≤ 9223372036854775807 := by unfold maxLen at hcap; omega
  have hl642 : len2 ≤ 9223372036854775807 := by unfold maxLen at hcap2; omega
  have cF := fun w => few_any ao len cap w hl64
  have cF2 := fun w => few_any ao2 len2 cap2 w hl642
  have CW := Lib.hid (fun w => awake_any w)
  have HS := Lib.hid (SpanAt.new w a b n)
  have HB0 : Hid (Below w.heap.size w (w.alloc (.cells #[.int .i64 a, .int .i64 b, .int .i64 n] 34))) := Lib.hid (below_one _)
  cases hf : fewB len with
  | false =>
    simp only [hf] at cF
    have CF := Lib.hid cF
    clear cF cF2 hf hr hr2 hlen hlen2
    go_enter Try.func4, Try.ntmps4
    go_wp2_with (first
      | (go_at_call 8; (with_reducible refine (CF.out _).mono ?_); rintro e w1 ⟨rfl, rfl⟩)
      | (go_at_call 9; (with_reducible refine (CW.out _).mono ?_); rintro e w2 ⟨rfl, p2⟩)
      | fail)
    go_ret
    exact ⟨rfl, p2.from HB0.out⟩
  | true =>
    simp only [hf] at cF
    have CF := Lib.hid cF
    clear cF hf
    cases hf2 : fewB len2 with
    | false =>
      simp only [hf2] at cF2
      have CF2 := Lib.hid cF2
      clear cF2 hf2 hr hr2 hlen hlen2
      go_enter Try.func4, Try.ntmps4
      go_wp2_with (first
        | (go_at_call 8; (with_reducible refine (CF.out _).mono ?_); rintro e w1 ⟨rfl, rfl⟩)
        | (go_at_call 8; (with_reducible refine (CF2.out _).mono ?_); rintro e w1 ⟨rfl, rfl⟩)
        | (go_at_call 9; (with_reducible refine (CW.out _).mono ?_); rintro e w2 ⟨rfl, p2⟩)
        | fail)
      go_ret
      exact ⟨rfl, p2.from HB0.out⟩
    | true =>
      simp only [hf2] at cF2
      have CF2 := Lib.hid cF2
      have c1 := fun (w2 : World) (hb : Below w.heap.size w w2) => add_any ao len cap p a b n w2 hlen hlc hcap (hr.below stC_length hb)
      have c2 := fun (w2 : World) (hb : Below w.heap.size w w2) => radd_any ao len cap p a b n w2 hlen (by omega) (hr.below stC_length hb)
      have c3 := fun (w2 : World) (hb : Below w.heap.size w w2) => same_any ao ao2 len len2 cap cap2 p q w2 hlen hlen2 (by omega) (by omega) (hr.below stC_length hb) (hr2.below stC_length hb)
      have c4 := fun (w2 : World) (hb : Below w.heap.size w w2) => rsame_any ao ao2 len len2 cap cap2 p q w2 hlen hlen2 (by omega) (by omega) (hr.below stC_length hb) (hr2.below stC_length hb)
      obtain ⟨⟨A, E⟩, hR⟩ : ∃ R, R = addR p a b n := ⟨_, rfl⟩
      rw [← hR] at c1 c2
      unfold AddSays at c1 c2
      dsimp only at c1 c2
      have hss : sameL A A = true := by unfold sameL; rw [decide_eq_true rfl]
      have c5 := fun (x y : Option Addr) (cx cy : Nat) (W : World) (hlx : A.length ≤ cx) (hm : cx ≤ maxLen) (hx : ReadsS 2 stC W x A) (hy : ReadsS 2 stC W y A) => rsame_any x y A.length A.length cx cy A A W rfl rfl (by omega) (by omega) hx hy
      simp only [hss] at c5
      obtain ⟨S, hS⟩ : ∃ S, S = sameL p q := ⟨_, rfl⟩
      rw [← hS] at c3 c4
      have t1 : (E == E) = true := by simp
      have t2 : (S == S) = true := by simp
      have C1 := Lib.hid c1
      have C2 := Lib.hid c2
      have C3 := Lib.hid c3
      have C4 := Lib.hid c4
      have C5 := Lib.hid c5
      clear c1 c2 c3 c4 c5 cF2 hf2 hr hr2 hlen hlen2 hR hss hS
      go_enter Try.func4, Try.ntmps4
      go_wp2_with (first
        | (go_at_call 8; (with_reducible refine (CF.out _).mono ?_); rintro e w1 ⟨rfl, rfl⟩)
        | (go_at_call 8; (with_reducible refine (CF2.out _).mono ?_); rintro e w1 ⟨rfl, rfl⟩)
        | (go_at_call 19; (with_reducible refine (C1.out _ HB0.out).mono ?_); rintro e w2 ⟨ao3, cap3, rfl, r3, n3, l3, m3, q2⟩; obtain ⟨s0, s1, s2⟩ := HS.out.below (by first | exact q2 | exact q2.mono (by simp)); have p2 := q2.from HB0.out; have R3 := Lib.hid r3; clear r3 q2 n3)
        | (go_at_call 20; (with_reducible refine (C2.out _ p2).mono ?_); rintro e w3 ⟨ao4, cap4, rfl, r4, n4, l4, m4, q3⟩; have p3 := q3.from p2; have R4 := Lib.hid r4; have R34 := Lib.hid (R3.out.below stC_length q3); clear r4 q3 n4)
        | (go_at_call 16; (with_reducible refine (C5.out _ _ _ _ _ l3 m3 R34.out R4.out).mono ?_); rintro e w4 ⟨rfl, q4⟩; have p4 := q4.from p3; clear q4)
        | (go_at_call 21; (with_reducible refine (C3.out _ p4).mono ?_); rintro e w5 ⟨rfl, q5⟩; have p5 := q5.from p4; clear q5)
        | (go_at_call 16; (with_reducible refine (C4.out _ p5).mono ?_); rintro e w6 ⟨rfl, q6⟩; have p6 := q6.from p5; clear q6)
        | (go_at_call 9; (with_reducible refine (CW.out _).mono ?_); rintro e w7 ⟨rfl, q7⟩; have p7 := q7.from p6; clear q7)
        | fail)
      go_ret
      exact ⟨rfl, p7⟩

set_option maxRecDepth 100000 in
set_option maxHeartbeats 4000000 in
theorem order_any (ao : Option Addr) (len cap : Nat) (p : List St) (a b n c d m : Int) (w : World) (hlen : p.length = len) (hlc : len ≤ cap) (hcap : cap ≤ maxLen) (hr : ReadsS 2 stC w ao p) :
    Calls Try.prog 5 #[.slice ao len cap, .agg #[.int .i64 a, .int .i64 b, .int .i64 n], .agg #[.int .i64 c, .int .i64 d, .int .i64 m]] w fun e w' => e = .returned (.bool true) ∧ Below w.heap.size w w' := by
  have hl64 : len ≤ 9223372036854775807 := by unfold maxLen at hcap; omega
  have cF := fun w => few_any ao len cap w hl64
  have CW := Lib.hid (fun w => awake_any w)
  obtain ⟨W0, hW0⟩ : ∃ W0, W0 = (w.alloc (.cells #[.int .i64 a, .int .i64 b, .int .i64 n] 34)).alloc (.cells #[.int .i64 c, .int .i64 d, .int .i64 m] 34) := ⟨_, rfl⟩
  have hs1 : SpanAt W0 w.heap.size a b n := by rw [hW0]; exact (SpanAt.new w a b n).below (below_one _)
  have hs2 : SpanAt W0 (w.heap.size + 1) c d m := by rw [hW0]; exact SpanAt.new2 w _ c d m
  have hb0 : Below w.heap.size w W0 := by rw [hW0]; exact below_two _ _
  have HW0 := Lib.hid hW0
  have HS1 := Lib.hid hs1
  have HS2 := Lib.hid hs2
  have HB0 := Lib.hid hb0
  clear hs1 hs2 hb0 hW0
  cases hf : fewB len with
  | false =>
    simp only [hf] at cF
    have CF := Lib.hid cF
    clear cF hf hr hlen
    go_enter Try.func5, Try.ntmps5
    go_wp2_with (first
      | (go_at_call 8; (with_reducible refine (CF.out _).mono ?_); rintro e w1 ⟨rfl, rfl⟩)
      | (go_at_call 9; (with_reducible refine (CW.out _).mono ?_); rintro e w2 ⟨rfl, p2⟩)
      | fail)
    go_ret
    exact ⟨rfl, p2.from (below_two _ _)⟩
  | true =>
    simp only [hf] at cF
    have CF := Lib.hid cF
    have c1 := fun (w2 : World) (hb : Below w.heap.size w w2) => add_any ao len cap p a b n w2 hlen hlc hcap (hr.below stC_length hb)
    have c2 := fun (w2 : World) (hb : Below w.heap.size w w2) => add_any ao len cap p c d m w2 hlen hlc hcap (hr.below stC_length hb)
    have hord := add_order (p := p) (a := a) (b := b) (n := n) (c := c) (d := d) (m := m)
    obtain ⟨⟨A, E⟩, hR1⟩ : ∃ R, R = addR p a b n := ⟨_, rfl⟩
    obtain ⟨⟨D, G⟩, hR2⟩ : ∃ R, R = addR p c d m := ⟨_, rfl⟩
    rw [← hR1] at c1 hord
    rw [← hR2] at c2 hord
    dsimp only at hord
    unfold AddSays at c1 c2
    dsimp only at c1 c2
    clear hR1 hR2 cF hf hr hlen
    have SPA : Hid (∀ w2, Below W0.heap.size W0 w2 → SpanAt w2 w.heap.size a b n ∧ SpanAt w2 (w.heap.size + 1) c d m) := Lib.hid (fun w2 h => ⟨HS1.out.below h, HS2.out.below h⟩)
    by_cases hE : E = 0
    · have t1 : (E != 0) = false := by rw [hE]; rfl
      by_cases hG : G = 0
      · have t2 : (G != 0) = false := by rw [hG]; rfl
        have hx := hord hE hG
        have c3 := fun (x : Option Addr) (cx : Nat) (W : World) (hlx : A.length ≤ cx) (hm : cx ≤ maxLen) (hx : ReadsS 2 stC W x A) => add_any x A.length cx A c d m W rfl hlx hm hx
        have c4 := fun (x : Option Addr) (cx : Nat) (W : World) (hlx : D.length ≤ cx) (hm : cx ≤ maxLen) (hx : ReadsS 2 stC W x D) => add_any x D.length cx D a b n W rfl hlx hm hx
        rw [hx] at c3
        obtain ⟨⟨X, H⟩, hR3⟩ : ∃ R, R = addR D a b n := ⟨_, rfl⟩
        rw [← hR3] at c3 c4
        unfold AddSays at c3 c4
        dsimp only at c3 c4
        have hss : sameL X X = true := by unfold sameL; rw [decide_eq_true rfl]
        have c5 := fun (x y : Option Addr) (cx cy : Nat) (W : World) (hlx : X.length ≤ cx) (hm : cx ≤ maxLen) (hx : ReadsS 2 stC W x X) (hy : ReadsS 2 stC W y X) => rsame_any x y X.length X.length cx cy X X W rfl rfl (by omega) (by omega) hx hy
        simp only [hss] at c5
        have t3 : (H == H) = true := by simp
        have C1 := Lib.hid c1
        have C2 := Lib.hid c2
        have C3 := Lib.hid c3
        have C4 := Lib.hid c4
        have C5 := Lib.hid c5
        clear c1 c2 c3 c4 c5 hx hord hss hR3 hE hG
        go_enter Try.func5, Try.ntmps5
        go_upto_region 1 with fail
        rw [← HW0.out]
        go_wp2_with (first
          | (go_at_call 8; (with_reducible refine (CF.out _).mono ?_); rintro e w1 ⟨rfl, rfl⟩; obtain ⟨⟨x0, x1, x2⟩, ⟨y0, y1, y2⟩⟩ := SPA.out _ (Below.refl _ _))
          | (go_at_call 19; (with_reducible refine (C1.out _ HB0.out).mono ?_); rintro e w2 ⟨ao3, cap3, rfl, r3, n3, l3, m3, b2⟩; have p2 := b2.from HB0.out; obtain ⟨⟨x0, x1, x2⟩, ⟨y0, y1, y2⟩⟩ := SPA.out _ b2; have R3 := Lib.hid r3; clear r3 n3)
          | (go_at_call 19; (with_reducible refine (C2.out _ p2).mono ?_); rintro e w3 ⟨ao4, cap4, rfl, r4, n4, l4, m4, q3⟩; have p3 := q3.from p2; have b3 := q3.from b2; obtain ⟨⟨x0, x1, x2⟩, ⟨y0, y1, y2⟩⟩ := SPA.out _ b3; have R4 := Lib.hid r4; have R33 := Lib.hid (R3.out.below stC_length q3); clear r4 q3 n4)
          | (go_at_call 19; (with_reducible refine (C3.out _ _ _ l3 m3 R33.out).mono ?_); rintro e w4 ⟨ao5, cap5, rfl, r5, n5, l5, m5, q4⟩; have p4 := q4.from p3; have b4 := q4.from b3; obtain ⟨⟨x0, x1, x2⟩, ⟨y0, y1, y2⟩⟩ := SPA.out _ b4; have R5 := Lib.hid r5; have R44 := Lib.hid (R4.out.below stC_length q4); clear r5 q4 n5)
          | (go_at_call 19; (with_reducible refine (C4.out _ _ _ l4 m4 R44.out).mono ?_); rintro e w5 ⟨ao6, cap6, rfl, r6, n6, l6, m6, q5⟩; have p5 := q5.from p4; have R6 := Lib.hid r6; have R55 := Lib.hid (R5.out.below stC_length q5); clear r6 q5 n6)
          | (go_at_call 16; (with_reducible refine (C5.out _ _ _ _ _ l5 m5 R55.out R6.out).mono ?_); rintro e w6 ⟨rfl, q6⟩; have p6 := q6.from p5; clear q6)
          | (go_at_call 9; (with_reducible refine (CW.out _).mono ?_); rintro e w7 ⟨rfl, q7⟩; have p7 := q7.from p6; clear q7)
          | fail)
        go_ret
        exact ⟨rfl, p7⟩
      · have t2 : (G != 0) = true := by rw [bne_iff_ne]; exact hG
        have C1 := Lib.hid c1
        have C2 := Lib.hid c2
        clear c1 c2 hord hE hG
        go_enter Try.func5, Try.ntmps5
        go_upto_region 1 with fail
        rw [← HW0.out]
        go_wp2_with (first
          | (go_at_call 8; (with_reducible refine (CF.out _).mono ?_); rintro e w1 ⟨rfl, rfl⟩; obtain ⟨⟨x0, x1, x2⟩, ⟨y0, y1, y2⟩⟩ := SPA.out _ (Below.refl _ _))
          | (go_at_call 19; (with_reducible refine (C1.out _ HB0.out).mono ?_); rintro e w2 ⟨ao3, cap3, rfl, r3, n3, l3, m3, b2⟩; have p2 := b2.from HB0.out; obtain ⟨⟨x0, x1, x2⟩, ⟨y0, y1, y2⟩⟩ := SPA.out _ b2; clear r3 n3)
          | (go_at_call 19; (with_reducible refine (C2.out _ p2).mono ?_); rintro e w3 ⟨ao4, cap4, rfl, r4, n4, l4, m4, q3⟩; have p3 := q3.from p2; clear r4 q3 n4)
          | (go_at_call 9; (with_reducible refine (CW.out _).mono ?_); rintro e w7 ⟨rfl, q7⟩; have p7 := q7.from p3; clear q7)
          | fail)
        go_ret
        exact ⟨rfl, p7⟩
    · have t1 : (E != 0) = true := by rw [bne_iff_ne]; exact hE
      have C1 := Lib.hid c1
      have C2 := Lib.hid c2
      clear c1 c2 hord hE
      go_enter Try.func5, Try.ntmps5
      go_upto_region 1 with fail
      rw [← HW0.out]
      go_wp2_with (first
        | (go_at_call 8; (with_reducible refine (CF.out _).mono ?_); rintro e w1 ⟨rfl, rfl⟩; obtain ⟨⟨x0, x1, x2⟩, ⟨y0, y1, y2⟩⟩ := SPA.out _ (Below.refl _ _))
        | (go_at_call 19; (with_reducible refine (C1.out _ HB0.out).mono ?_); rintro e w2 ⟨ao3, cap3, rfl, r3, n3, l3, m3, b2⟩; have p2 := b2.from HB0.out; obtain ⟨⟨x0, x1, x2⟩, ⟨y0, y1, y2⟩⟩ := SPA.out _ b2; clear r3 n3)
        | (go_at_call 19; (with_reducible refine (C2.out _ p2).mono ?_); rintro e w3 ⟨ao4, cap4, rfl, r4, n4, l4, m4, q3⟩; have p3 := q3.from p2; clear r4 q3 n4)
        | (go_at_call 9; (with_reducible refine (CW.out _).mono ?_); rintro e w7 ⟨rfl, q7⟩; have p7 := q7.from p3; clear q7)
        | fail)
      go_ret
      exact ⟨rfl, p7⟩

end Go.Proofs.Ytoiahlbaiakngaa.Prof
