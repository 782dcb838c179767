/-
  The walk of ProfileBack.
-/
import Derived.Test.YtoiahlbaiakngaaLaw10Adds
namespace Go.Proofs.Ytoiahlbaiakngaa.Prof
open Go.RowKit
open Base
set_option linter.unusedVariables false
set_option linter.unusedSimpArgs false

theorem atR_bd (p : List St) (t : Int) : -1000000 ≤ atR p t ∧ atR p t ≤ 1000000 := by
  unfold atR
  split
  · rename_i h; exact now_bd h.1 t
  · omega
theorem at_more {p : List St} {a b n t : Int} (h : (addR p a b n).2 = 0) (hin : a ≤ t ∧ t < b ∧ 0 ≤ t ∧ t ≤ 1000000) : atR (addR p a b n).1 t = atR p t + n := by
  obtain ⟨hp, _, hk, he⟩ := addR_of h
  have := add_at h hin.2.2.1 hin.2.2.2
  unfold atR
  rw [if_pos ⟨by rw [he]; exact hk, hin.2.2.1, hin.2.2.2⟩, if_pos ⟨hp, hin.2.2.1, hin.2.2.2⟩, this]
  unfold bump
  rw [if_pos ⟨hin.1, hin.2.1⟩]
theorem at_less {p : List St} {a b n t : Int} (h : (addR p a b n).2 = 0) (hin : ¬ (a ≤ t ∧ t < b ∧ 0 ≤ t ∧ t ≤ 1000000)) : atR (addR p a b n).1 t = atR p t + 0 := by
  obtain ⟨hp, _, hk, he⟩ := addR_of h
  unfold atR
  by_cases ht : 0 ≤ t ∧ t ≤ 1000000
  · have := add_at h ht.1 ht.2
    rw [if_pos ⟨by rw [he]; exact hk, ht.1, ht.2⟩, if_pos ⟨hp, ht.1, ht.2⟩, this]
    unfold bump
    rw [if_neg (by omega)]
  · rw [if_neg (fun e => ht e.2), if_neg (fun e => ht e.2)]; rfl

set_option maxRecDepth 100000 in
set_option maxHeartbeats 8000000 in
theorem back_any (ao : Option Addr) (len cap : Nat) (p : List St) (a b n t : Int) (w : World) (hlen : p.length = len) (hlc : len ≤ cap) (hcap : cap ≤ maxLen) (hr : ReadsS 2 stC w ao p) :
    Calls Try.prog 6 #[.slice ao len cap, .agg #[.int .i64 a, .int .i64 b, .int .i64 n], .int .i64 t] w fun e w' => e = .returned (.bool true) ∧ Below w.heap.size w w' := by
  have hl64 : len ≤ 9223372036854775807 := by unfold maxLen at hcap; omega
  have cF := fun w => few_any ao len cap w hl64
  have CW := Lib.hid (fun w => awake_any w)
  have HS := Lib.hid (SpanAt.new w a b n)
  have HB0 : Hid (Below w.heap.size w (w.alloc (.cells #[.int .i64 a, .int .i64 b, .int .i64 n] 34))) := Lib.hid (below_one _)
  cases hf : fewB len with
  | false =>
    simp only [hf] at cF
    have CF := Lib.hid cF
    clear cF hf hr hlen
    go_enter Try.func6, Try.ntmps6
    go_wp2_with (first
      | (go_at_call 8; (with_reducible refine (CF.out _).mono ?_); rintro e w1 ⟨rfl, rfl⟩)
      | (go_at_call 9; (with_reducible refine (CW.out _).mono ?_); rintro e w2 ⟨rfl, p2⟩)
      | fail)
    go_ret
    exact ⟨rfl, p2.from HB0.out⟩
  | true =>
    simp only [hf] at cF
    have CF := Lib.hid cF
    have c1 := fun (w2 : World) (hb : Below w.heap.size w w2) => add_any ao len cap p a b n w2 hlen hlc hcap (hr.below stC_length hb)
    have hbk := add_back (p := p) (a := a) (b := b) (n := n)
    have hof := addR_of (p := p) (a := a) (b := b) (n := n)
    have hnl := addR_nil (p := p) (a := a) (b := b) (n := n)
    have ham := at_more (p := p) (a := a) (b := b) (n := n) (t := t)
    have hal := at_less (p := p) (a := a) (b := b) (n := n) (t := t)
    obtain ⟨⟨A, E⟩, hR⟩ : ∃ R, R = addR p a b n := ⟨_, rfl⟩
    rw [← hR] at c1 hbk hof hnl ham hal
    unfold AddSays at c1
    dsimp only at c1 hbk hof hnl ham hal
    clear hR cF hf
    by_cases hE : E = 0
    · have t1 : (E != 0) = false := by rw [hE]; rfl
      have hx := hbk hE
      obtain ⟨hp, hnb, hk, he⟩ := hof hE
      have g := not_bad hnb
      have hA : Prof A := by rw [he]; exact hk
      have hAl := hA.1.2.1
      have c3 := fun (x : Option Addr) (cx : Nat) (W : World) (hlx : A.length ≤ cx) (hm : cx ≤ maxLen) (hx : ReadsS 2 stC W x A) => add_any x A.length cx A a b (-n) W rfl hlx hm hx
      rw [hx] at c3
      unfold AddSays at c3
      dsimp only at c3
      have hss : sameL p p = true := by unfold sameL; rw [decide_eq_true rfl]
      have c5 := fun (x : Option Addr) (cx : Nat) (W : World) (hlx : p.length ≤ cx) (hm : cx ≤ maxLen) (hx : ReadsS 2 stC W x p) (hb : Below w.heap.size w W) => rsame_any x ao p.length len cx cap p p W rfl hlen (by omega) (by omega) hx (hr.below stC_length hb)
      simp only [hss] at c5
      have c6 := fun (x : Option Addr) (cx : Nat) (W : World) (hm : cx ≤ maxLen) (hlx : A.length ≤ cx) (hx : ReadsS 2 stC W x A) => check_any x A.length cx A W rfl (by omega) hx
      rw [chkE_0 hA] at c6
      have c7 := fun (x : Option Addr) (cx : Nat) (W : World) (hlx : A.length ≤ cx) (hm : cx ≤ maxLen) (hx : ReadsS 2 stC W x A) => at_any x A.length cx A t W rfl hlx hm hx
      have c8 := fun (w2 : World) (hb : Below w.heap.size w w2) => at_any ao len cap p t w2 hlen hlc hcap (hr.below stC_length hb)
      have hbd := atR_bd p t
      have ham := ham hE
      have hal := hal hE
      have hwn : IntKind.i64.wrap (-n) = -n := by simp only [IntKind.wrap_i64]; omega
      have HWN := Lib.hid hwn
      obtain ⟨Y, hY⟩ : ∃ Y, Y = -n := ⟨_, rfl⟩
      have hneg : -n = Y := hY.symm
      have hYw : IntKind.i64.wrap Y = Y := by rw [hY]; exact hwn
      obtain ⟨N, hN⟩ : ∃ N, N = atR p t := ⟨_, rfl⟩
      obtain ⟨M, hM⟩ : ∃ M, M = atR A t := ⟨_, rfl⟩
      rw [← hN] at c8 hbd ham hal
      rw [← hM] at c7 ham hal
      obtain ⟨hb0, hb1⟩ := hbd
      have C1 := Lib.hid c1
      have C3 := Lib.hid c3
      have C5 := Lib.hid c5
      have C6 := Lib.hid c6
      have C7 := Lib.hid c7
      have C8 := Lib.hid c8
      have hn0 : -1000000 ≤ n := g.2.2.2.1
      have hn1 : n ≤ 1000000 := g.2.2.2.2
      clear c1 c3 c5 c6 c7 c8 hx hss hE hp hnb hk he hA hbk hof hnl hr hlen hN hM g hwn hneg hYw hY
      clear Y
      by_cases c1 : a ≤ t
      case neg =>
        have uc1 : decide (a ≤ t) = false := decide_eq_false c1
        have hM := hal (fun h => c1 (by omega))
        have tE : (M == N + 0) = true := by rw [beq_iff_eq]; exact hM
        have tE' : (M == N) = true := by rw [beq_iff_eq]; omega
        clear ham hal hM c1
        go_enter Try.func6, Try.ntmps6
        go_wp2_with (first
          | (go_at_call 8; (with_reducible refine (CF.out _).mono ?_); rintro e w1 ⟨rfl, rfl⟩)
          | (go_at_call 19; (with_reducible refine (C1.out _ HB0.out).mono ?_); rintro e w2 ⟨ao3, cap3, rfl, r3, n3, l3, m3, q2⟩; have b2 := q2; have p2 := q2.from HB0.out; obtain ⟨x0, x1, x2⟩ := HS.out.below b2; have R3 := Lib.hid r3; clear r3 n3 q2)
          | (go_at_call 19; (with_reducible refine (C3.out _ _ _ l3 m3 R3.out).mono ?_); rintro e w3 ⟨ao4, cap4, rfl, r4, n4, l4, m4, q3⟩; have p3 := q3.from p2; have b3 := q3.from b2; obtain ⟨x0, x1, x2⟩ := HS.out.below b3; have R4 := Lib.hid r4; have R33 := Lib.hid (R3.out.below stC_length q3); clear r4 n4 q3)
          | (go_at_call 16; (with_reducible refine (C5.out _ _ _ l4 m4 R4.out p3).mono ?_); rintro e w4 ⟨rfl, q4⟩; have p4 := q4.from p3; have b4 := q4.from b3; obtain ⟨x0, x1, x2⟩ := HS.out.below b4; have R34 := Lib.hid (R33.out.below stC_length q4); clear q4)
          | (go_at_call 10; (with_reducible refine (C6.out _ _ _ m3 l3 R34.out).mono ?_); rintro e w5 ⟨rfl, q5⟩; have p5 := q5.from p4; have b5 := q5.from b4; obtain ⟨x0, x1, x2⟩ := HS.out.below b5; have R35 := Lib.hid (R34.out.below stC_length q5); clear q5)
          | (go_at_call 12; (with_reducible refine (C7.out _ _ _ l3 m3 R35.out).mono ?_); rintro e w6 ⟨rfl, q6⟩; have p6 := q6.from p5; clear q6)
          | (go_at_call 12; (with_reducible refine (C8.out _ p6).mono ?_); rintro e w7 ⟨rfl, q7⟩; have p7 := q7.from p6; clear q7)
          | (go_at_call 9; (with_reducible refine (CW.out _).mono ?_); rintro e w8 ⟨rfl, q8⟩; have p8 := q8.from p7; clear q8)
          | fail)
        go_ret
        exact ⟨rfl, p8⟩
      have uc1 : decide (a ≤ t) = true := decide_eq_true c1
      by_cases c2 : t < b
      case neg =>
        have uc2 : decide (t < b) = false := decide_eq_false c2
        have hM := hal (fun h => c2 (by omega))
        have tE : (M == N + 0) = true := by rw [beq_iff_eq]; exact hM
        have tE' : (M == N) = true := by rw [beq_iff_eq]; omega
        clear ham hal hM c1 c2
        go_enter Try.func6, Try.ntmps6
        go_wp2_with (first
          | (go_at_call 8; (with_reducible refine (CF.out _).mono ?_); rintro e w1 ⟨rfl, rfl⟩)
          | (go_at_call 19; (with_reducible refine (C1.out _ HB0.out).mono ?_); rintro e w2 ⟨ao3, cap3, rfl, r3, n3, l3, m3, q2⟩; have b2 := q2; have p2 := q2.from HB0.out; obtain ⟨x0, x1, x2⟩ := HS.out.below b2; have R3 := Lib.hid r3; clear r3 n3 q2)
          | (go_at_call 19; (with_reducible refine (C3.out _ _ _ l3 m3 R3.out).mono ?_); rintro e w3 ⟨ao4, cap4, rfl, r4, n4, l4, m4, q3⟩; have p3 := q3.from p2; have b3 := q3.from b2; obtain ⟨x0, x1, x2⟩ := HS.out.below b3; have R4 := Lib.hid r4; have R33 := Lib.hid (R3.out.below stC_length q3); clear r4 n4 q3)
          | (go_at_call 16; (with_reducible refine (C5.out _ _ _ l4 m4 R4.out p3).mono ?_); rintro e w4 ⟨rfl, q4⟩; have p4 := q4.from p3; have b4 := q4.from b3; obtain ⟨x0, x1, x2⟩ := HS.out.below b4; have R34 := Lib.hid (R33.out.below stC_length q4); clear q4)
          | (go_at_call 10; (with_reducible refine (C6.out _ _ _ m3 l3 R34.out).mono ?_); rintro e w5 ⟨rfl, q5⟩; have p5 := q5.from p4; have b5 := q5.from b4; obtain ⟨x0, x1, x2⟩ := HS.out.below b5; have R35 := Lib.hid (R34.out.below stC_length q5); clear q5)
          | (go_at_call 12; (with_reducible refine (C7.out _ _ _ l3 m3 R35.out).mono ?_); rintro e w6 ⟨rfl, q6⟩; have p6 := q6.from p5; clear q6)
          | (go_at_call 12; (with_reducible refine (C8.out _ p6).mono ?_); rintro e w7 ⟨rfl, q7⟩; have p7 := q7.from p6; clear q7)
          | (go_at_call 9; (with_reducible refine (CW.out _).mono ?_); rintro e w8 ⟨rfl, q8⟩; have p8 := q8.from p7; clear q8)
          | fail)
        go_ret
        exact ⟨rfl, p8⟩
      have uc2 : decide (t < b) = true := decide_eq_true c2
      by_cases c3 : 0 ≤ t
      case neg =>
        have uc3 : decide (0 ≤ t) = false := decide_eq_false c3
        have hM := hal (fun h => c3 (by omega))
        have tE : (M == N + 0) = true := by rw [beq_iff_eq]; exact hM
        have tE' : (M == N) = true := by rw [beq_iff_eq]; omega
        clear ham hal hM c1 c2 c3
        go_enter Try.func6, Try.ntmps6
        go_wp2_with (first
          | (go_at_call 8; (with_reducible refine (CF.out _).mono ?_); rintro e w1 ⟨rfl, rfl⟩)
          | (go_at_call 19; (with_reducible refine (C1.out _ HB0.out).mono ?_); rintro e w2 ⟨ao3, cap3, rfl, r3, n3, l3, m3, q2⟩; have b2 := q2; have p2 := q2.from HB0.out; obtain ⟨x0, x1, x2⟩ := HS.out.below b2; have R3 := Lib.hid r3; clear r3 n3 q2)
          | (go_at_call 19; (with_reducible refine (C3.out _ _ _ l3 m3 R3.out).mono ?_); rintro e w3 ⟨ao4, cap4, rfl, r4, n4, l4, m4, q3⟩; have p3 := q3.from p2; have b3 := q3.from b2; obtain ⟨x0, x1, x2⟩ := HS.out.below b3; have R4 := Lib.hid r4; have R33 := Lib.hid (R3.out.below stC_length q3); clear r4 n4 q3)
          | (go_at_call 16; (with_reducible refine (C5.out _ _ _ l4 m4 R4.out p3).mono ?_); rintro e w4 ⟨rfl, q4⟩; have p4 := q4.from p3; have b4 := q4.from b3; obtain ⟨x0, x1, x2⟩ := HS.out.below b4; have R34 := Lib.hid (R33.out.below stC_length q4); clear q4)
          | (go_at_call 10; (with_reducible refine (C6.out _ _ _ m3 l3 R34.out).mono ?_); rintro e w5 ⟨rfl, q5⟩; have p5 := q5.from p4; have b5 := q5.from b4; obtain ⟨x0, x1, x2⟩ := HS.out.below b5; have R35 := Lib.hid (R34.out.below stC_length q5); clear q5)
          | (go_at_call 12; (with_reducible refine (C7.out _ _ _ l3 m3 R35.out).mono ?_); rintro e w6 ⟨rfl, q6⟩; have p6 := q6.from p5; clear q6)
          | (go_at_call 12; (with_reducible refine (C8.out _ p6).mono ?_); rintro e w7 ⟨rfl, q7⟩; have p7 := q7.from p6; clear q7)
          | (go_at_call 9; (with_reducible refine (CW.out _).mono ?_); rintro e w8 ⟨rfl, q8⟩; have p8 := q8.from p7; clear q8)
          | fail)
        go_ret
        exact ⟨rfl, p8⟩
      have uc3 : decide (0 ≤ t) = true := decide_eq_true c3
      by_cases c4 : t ≤ 1000000
      case neg =>
        have uc4 : decide (t ≤ 1000000) = false := decide_eq_false c4
        have hM := hal (fun h => c4 (by omega))
        have tE : (M == N + 0) = true := by rw [beq_iff_eq]; exact hM
        have tE' : (M == N) = true := by rw [beq_iff_eq]; omega
        clear ham hal hM c1 c2 c3 c4
        go_enter Try.func6, Try.ntmps6
        go_wp2_with (first
          | (go_at_call 8; (with_reducible refine (CF.out _).mono ?_); rintro e w1 ⟨rfl, rfl⟩)
          | (go_at_call 19; (with_reducible refine (C1.out _ HB0.out).mono ?_); rintro e w2 ⟨ao3, cap3, rfl, r3, n3, l3, m3, q2⟩; have b2 := q2; have p2 := q2.from HB0.out; obtain ⟨x0, x1, x2⟩ := HS.out.below b2; have R3 := Lib.hid r3; clear r3 n3 q2)
          | (go_at_call 19; (with_reducible refine (C3.out _ _ _ l3 m3 R3.out).mono ?_); rintro e w3 ⟨ao4, cap4, rfl, r4, n4, l4, m4, q3⟩; have p3 := q3.from p2; have b3 := q3.from b2; obtain ⟨x0, x1, x2⟩ := HS.out.below b3; have R4 := Lib.hid r4; have R33 := Lib.hid (R3.out.below stC_length q3); clear r4 n4 q3)
          | (go_at_call 16; (with_reducible refine (C5.out _ _ _ l4 m4 R4.out p3).mono ?_); rintro e w4 ⟨rfl, q4⟩; have p4 := q4.from p3; have b4 := q4.from b3; obtain ⟨x0, x1, x2⟩ := HS.out.below b4; have R34 := Lib.hid (R33.out.below stC_length q4); clear q4)
          | (go_at_call 10; (with_reducible refine (C6.out _ _ _ m3 l3 R34.out).mono ?_); rintro e w5 ⟨rfl, q5⟩; have p5 := q5.from p4; have b5 := q5.from b4; obtain ⟨x0, x1, x2⟩ := HS.out.below b5; have R35 := Lib.hid (R34.out.below stC_length q5); clear q5)
          | (go_at_call 12; (with_reducible refine (C7.out _ _ _ l3 m3 R35.out).mono ?_); rintro e w6 ⟨rfl, q6⟩; have p6 := q6.from p5; clear q6)
          | (go_at_call 12; (with_reducible refine (C8.out _ p6).mono ?_); rintro e w7 ⟨rfl, q7⟩; have p7 := q7.from p6; clear q7)
          | (go_at_call 9; (with_reducible refine (CW.out _).mono ?_); rintro e w8 ⟨rfl, q8⟩; have p8 := q8.from p7; clear q8)
          | fail)
        go_ret
        exact ⟨rfl, p8⟩
      have uc4 : decide (t ≤ 1000000) = true := decide_eq_true c4
      have hM := ham ⟨c1, c2, c3, c4⟩
      have tE : (M == N + n) = true := by rw [beq_iff_eq]; exact hM
      clear ham hal hM c1 c2 c3 c4
      go_enter Try.func6, Try.ntmps6
      go_wp2_with (first
        | (go_at_call 8; (with_reducible refine (CF.out _).mono ?_); rintro e w1 ⟨rfl, rfl⟩)
        | (go_at_call 19; (with_reducible refine (C1.out _ HB0.out).mono ?_); rintro e w2 ⟨ao3, cap3, rfl, r3, n3, l3, m3, q2⟩; have b2 := q2; have p2 := q2.from HB0.out; obtain ⟨x0, x1, x2⟩ := HS.out.below b2; have R3 := Lib.hid r3; clear r3 n3 q2)
        | (go_at_call 19; (with_reducible refine (C3.out _ _ _ l3 m3 R3.out).mono ?_); rintro e w3 ⟨ao4, cap4, rfl, r4, n4, l4, m4, q3⟩; have p3 := q3.from p2; have b3 := q3.from b2; obtain ⟨x0, x1, x2⟩ := HS.out.below b3; have R4 := Lib.hid r4; have R33 := Lib.hid (R3.out.below stC_length q3); clear r4 n4 q3)
        | (go_at_call 16; (with_reducible refine (C5.out _ _ _ l4 m4 R4.out p3).mono ?_); rintro e w4 ⟨rfl, q4⟩; have p4 := q4.from p3; have b4 := q4.from b3; obtain ⟨x0, x1, x2⟩ := HS.out.below b4; have R34 := Lib.hid (R33.out.below stC_length q4); clear q4)
        | (go_at_call 10; (with_reducible refine (C6.out _ _ _ m3 l3 R34.out).mono ?_); rintro e w5 ⟨rfl, q5⟩; have p5 := q5.from p4; have b5 := q5.from b4; obtain ⟨x0, x1, x2⟩ := HS.out.below b5; have R35 := Lib.hid (R34.out.below stC_length q5); clear q5)
        | (go_at_call 12; (with_reducible refine (C7.out _ _ _ l3 m3 R35.out).mono ?_); rintro e w6 ⟨rfl, q6⟩; have p6 := q6.from p5; clear q6)
        | (go_at_call 12; (with_reducible refine (C8.out _ p6).mono ?_); rintro e w7 ⟨rfl, q7⟩; have p7 := q7.from p6; clear q7)
        | (go_at_call 9; (with_reducible refine (CW.out _).mono ?_); rintro e w8 ⟨rfl, q8⟩; have p8 := q8.from p7; clear q8)
        | fail)
      go_ret
      exact ⟨rfl, p8⟩
    · have t1 : (E != 0) = true := by rw [bne_iff_ne]; exact hE
      obtain rfl := hnl hE
      have C1 := Lib.hid c1
      have u0 : (([] : List St).length : Int) = 0 := rfl
      clear c1 hE hbk hof hnl ham hal hr hlen
      go_enter Try.func6, Try.ntmps6
      go_wp2_with (first
        | (go_at_call 8; (with_reducible refine (CF.out _).mono ?_); rintro e w1 ⟨rfl, rfl⟩)
        | (go_at_call 19; (with_reducible refine (C1.out _ HB0.out).mono ?_); rintro e w2 ⟨ao3, cap3, rfl, r3, n3, l3, m3, q2⟩; have p2 := q2.from HB0.out; clear r3 n3 q2)
        | (go_at_call 9; (with_reducible refine (CW.out _).mono ?_); rintro e w8 ⟨rfl, q8⟩; have p8 := q8.from p2; clear q8)
        | fail)
      go_ret
      exact ⟨rfl, p8⟩

end Go.Proofs.Ytoiahlbaiakngaa.Prof
