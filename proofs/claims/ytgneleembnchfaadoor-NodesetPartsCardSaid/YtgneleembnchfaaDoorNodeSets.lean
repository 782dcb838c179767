/-
  The walks of package nodeset's List, Of, Lowest, Highest.
-/
import Derived.Test.YtgneleembnchfaaDoorNodeBits
import Derived.Laws.BitsAllLaws
namespace Go.Proofs.YtgneleembnchfaaDoor.Node
open Go.RowKit
open Base
set_option linter.unusedVariables false
set_option linter.unusedSimpArgs false

theorem info_int : (Tryd.prog.info? 3).map (fun i => (i.zero, i.size, i.bytes)) = some (some (.int .i64 0), 1, 8) := by kernel_rfl
theorem one_int {w : World} {n : Nat} {val : Value} (x : Int) (hn : n = w.heap.size) (hv : val = .int .i64 x) : Reads (.int .i64) (w.alloc (.cells #[val] 3)) (some ⟨n, 0, none⟩) [x] := by
  subst hv; exact reads_one hn x _

set_option maxRecDepth 100000 in
set_option maxHeartbeats 2000000 in
theorem list_any (S : Nat) (hS : S < 18446744073709551616) (s : Int) (hs : s = (S : Int)) (w : World) :
    Calls Tryd.prog 13 #[.int .u64 s] w fun e w' => ∃ ao cap, e = .returned (.slice ao (mem S).length cap) ∧ Reads (.int .i64) w' ao (ints (mem S)) ∧ (ao = none → cap = 0) ∧ (mem S).length ≤ cap ∧ cap ≤ maxLen ∧ Below w.heap.size w w' := by
  obtain ⟨i0, hi, hz0, hz1, hz2⟩ := info_parts info_int
  have HI := Lib.hid hi
  have HZ0 := Lib.hid hz0
  have HZ1 := Lib.hid hz1
  have HZ2 := Lib.hid hz2
  have C := Lib.hid (fun n w => has_any S hS s n hs w)
  clear hi hz0 hz1 hz2 hs
  go_enter Tryd.func13, Tryd.ntmps13
  go_wp2
  go_loopw [3, 5] (fun v cv wr => ∃ k : Nat, cv = .int .i64 (k : Int) ∧ k ≤ 64 ∧ Own (.int .i64) w.heap.size 3 v (ints (below k S)) wr ∧ Below w.heap.size w wr) (fun _ cv _ => 64 - (intOf cv).toNat)
  case atStart => exact ⟨0, rfl, by omega, Own.nil (Nat.le_refl _), Below.refl _ _⟩
  case round =>
    obtain ⟨k, rfl, hk, ho, hb⟩ := hrel
    have HO := Lib.hid ho
    have HB := Lib.hid hb
    clear ho
    by_cases hlt : k < 64
    · have hb2 : hasB S (k : Int) = S.testBit k := by unfold hasB; rw [decide_eq_true (by omega), Bool.true_and]; simp
      have hlen := below_length k S
      obtain ⟨l, hl⟩ : ∃ l, l = ints (below k S) := ⟨_, rfl⟩
      have hll : l.length ≤ 64 := by rw [hl, ints_length]; omega
      cases hc : S.testBit k with
      | true =>
        have HE : Hid (ints (below (k + 1) S) = l ++ [(k : Int)]) := Lib.hid (by rw [below_on k S hc, ints_append, ints_one, hl])
        have D := Lib.hid (fun w => C.out (k : Int) w)
        rw [hb2, hc] at D
        rw [← hl] at HO
        clear hb2 hl C hlen
        go_wp2_with (first
          | (go_at_call 15; (with_reducible refine (D.out _).mono ?_); rintro e w' ⟨rfl, rfl⟩)
          | (at_builtin; refine wpList_append_src rfl (.tmp 11) (.tmp 13) 22 rfl i0 _ 8 Tryd.underlying22 HI.out HZ0.out HZ1.out HZ2.out rfl (fun _ => rfl) rfl (HO.out.alloc _) _ 1 1 [(k : Int)] rfl rfl (one_int _ rfl rfl) (by intro h; cases h) (by omega) (by unfold maxLen; omega) ?_; intro v4 w4 o4 b4)
          | fail)
        go_roundw
        case rel => exact ⟨k + 1, by go_num, by omega, by rw [HE.out]; exact o4, (HB.out.alloc HB.out.size _).trans b4⟩
        case measure => simp [intOf]; omega
      | false =>
        have HE : Hid (ints (below (k + 1) S) = l) := Lib.hid (by rw [below_off k S hc, hl])
        have D := Lib.hid (fun w => C.out (k : Int) w)
        rw [hb2, hc] at D
        rw [← hl] at HO
        clear hb2 hl C hlen
        go_wp2_with (first
          | (go_at_call 15; (with_reducible refine (D.out _).mono ?_); rintro e w' ⟨rfl, rfl⟩)
          | fail)
        go_roundw
        case rel => exact ⟨k + 1, by go_num, by omega, by rw [HE.out]; exact HO.out, HB.out⟩
        case measure => simp [intOf]; omega
    · obtain rfl : k = 64 := by omega
      obtain ⟨ao, cap, rfl, hr, hn, hc1, hc2⟩ := HO.out.value
      rw [below_all] at hr hc1
      have HR := Lib.hid hr
      have HN := Lib.hid hn
      have HC1 := Lib.hid hc1
      have HL : Hid ((ints (below 64 S)).length = (mem S).length) := Lib.hid (by rw [ints_length, below_all])
      clear hr hn hc1 HO
      go_wp2
      go_ret
      exact ⟨ao, cap, congrArg (fun n => Ending.returned (.slice ao n cap)) HL.out, HR.out, HN.out, by have := HC1.out; rwa [ints_length] at this, hc2, HB.out⟩

/-- 1 << n. -/
theorem shl_one (z : Int) (h0 : 0 ≤ z) (h1 : z < 64) : IntKind.u64.wrap (2 ^ z.toNat) = ((2 ^ z.toNat : Nat) : Int) := by
  have hp : 2 ^ z.toNat < 2 ^ 64 := Nat.pow_lt_pow_right (by decide) (by omega)
  have e2 : (2 : Int) ^ z.toNat = ((2 ^ z.toNat : Nat) : Int) := by simp
  rw [IntKind.wrap_u64, e2]
  generalize 2 ^ z.toNat = P at hp
  omega

set_option maxRecDepth 100000 in
set_option maxHeartbeats 2000000 in
theorem of_any (a : Option Addr) (len cap : Nat) (zs : List Int) (w : World) (hlen : zs.length = len) (hl : len ≤ 9223372036854775806) (hr : Reads (.int .i64) w a zs) :
    Calls Tryd.prog 9 #[.slice a len cap] w fun e w' => e = .returned (.tuple #[.int .u64 (ofS zs : Int), .int .i64 (ofE zs)]) ∧ w = w' := by
  subst hlen
  have HR := Lib.hid hr
  clear hr
  go_enter Tryd.func9, Tryd.ntmps9
  go_wp2
  go_loopw [4, 9] (fun v cv wr => ∃ k : Nat, cv = .int .i64 (k : Int) ∧ k ≤ zs.length ∧ good (zs.take k) ∧ v = .int .u64 (setOf (nats (zs.take k)) : Int) ∧ w = wr) (fun _ cv _ => zs.length - (intOf cv).toNat)
  case atStart => exact ⟨0, rfl, by omega, ⟨by simp, by simp⟩, rfl, rfl⟩
  case round =>
    obtain ⟨k, rfl, hk, hg, rfl, rfl⟩ := hrel
    have HG := Lib.hid hg
    clear hg
    by_cases hlt : k < zs.length
    · obtain ⟨b, off, rfl, hc⟩ := HR.out.at_ hlt
      have G := Lib.hid (good_take_succ zs k hlt)
      have NT := Lib.hid (nats_take_succ zs k hlt)
      have TK := Lib.hid (good_take zs (k + 1))
      obtain ⟨z, hz⟩ : ∃ z, z = zs[k] := ⟨_, rfl⟩
      rw [← hz] at hc G NT
      clear hz
      obtain ⟨l, hl2⟩ : ∃ l, l = zs.take k := ⟨_, rfl⟩
      rw [← hl2] at HG G NT ⊢
      clear hl2
      have C1 := Lib.hid (fun w => isNode_any z w)
      have hS : setOf (nats l) < 18446744073709551616 := setOf_lt _ (nats_lt HG.out.1)
      obtain ⟨x, hx⟩ : ∃ x : Int, x = (setOf (nats l) : Int) := ⟨_, rfl⟩
      have C2 := Lib.hid (fun w => has_any _ hS x z hx w)
      have HX := Lib.hid hx
      rw [← hx]
      clear hx
      by_cases hn : 0 ≤ z ∧ z < 64
      · have hb : nodeB z = true := by unfold nodeB; exact decide_eq_true hn
        rw [hb] at C1
        clear hb
        have hm := has_nats HG.out.1 z hn
        rw [hm] at C2
        clear hm
        have h0 := hn.1
        by_cases hin : z ∈ l
        · have hnot : ¬ good zs := fun h => (G.out.1 (TK.out h)).2.2 hin
          have E1 : Hid (0 = (ofS zs : Int) ∧ 90 = ofE zs) := Lib.hid (by unfold ofS ofE; rw [if_neg hnot, if_neg hnot]; exact ⟨rfl, rfl⟩)
          rw [decide_eq_true hin] at C2
          clear hin hnot
          go_wp2_with (first
            | (go_at_call 27; (with_reducible refine (C1.out _).mono ?_); rintro e w' ⟨rfl, rfl⟩)
            | (go_at_call 15; (with_reducible refine (C2.out _).mono ?_); rintro e w' ⟨rfl, rfl⟩)
            | fail)
          go_ret2
          exact ⟨by rw [← E1.out.1, ← E1.out.2]; rfl, rfl⟩
        · have hgo : good (zs.take (k + 1)) := G.out.2 ⟨HG.out, hn, hin⟩
          have GO := Lib.hid hgo
          rw [decide_eq_false hin] at C2
          have q1 := shl_one z hn.1 hn.2
          obtain ⟨p, hp⟩ : ∃ p : Int, p = ((2 ^ z.toNat : Nat) : Int) := ⟨_, rfl⟩
          rw [← hp] at q1
          have HO : Hid (bits BinOp.or IntKind.u64 x p = (setOf (nats (zs.take (k + 1))) : Int)) := Lib.hid (by
            have hp2 : 2 ^ z.toNat < 18446744073709551616 := by
              have : 2 ^ z.toNat < 2 ^ 64 := Nat.pow_lt_pow_right (by decide) (by omega)
              simpa using this
            rw [HX.out, hp, bits_or_u64_nat _ _ hS hp2, NT.out, setOf_snoc])
          clear hin hgo hp hS
          go_wp2_with (first
            | (go_at_call 27; (with_reducible refine (C1.out _).mono ?_); rintro e w' ⟨rfl, rfl⟩)
            | (go_at_call 15; (with_reducible refine (C2.out _).mono ?_); rintro e w' ⟨rfl, rfl⟩)
            | fail)
          go_roundw
          case rel => exact ⟨k + 1, by go_num, by omega, GO.out, by rw [HO.out], trivial⟩
          case measure => simp [intOf]; omega
      · have hb : nodeB z = false := by unfold nodeB; exact decide_eq_false hn
        rw [hb] at C1
        clear hb
        have hnot : ¬ good zs := fun h => hn (G.out.1 (TK.out h)).2.1
        have E1 : Hid (0 = (ofS zs : Int) ∧ 90 = ofE zs) := Lib.hid (by unfold ofS ofE; rw [if_neg hnot, if_neg hnot]; exact ⟨rfl, rfl⟩)
        clear hn hnot C2
        go_wp2_with (first
          | (go_at_call 27; (with_reducible refine (C1.out _).mono ?_); rintro e w' ⟨rfl, rfl⟩)
          | fail)
        go_ret2
        exact ⟨by rw [← E1.out.1, ← E1.out.2]; rfl, rfl⟩
    · have hgz : good zs := by have := HG.out; rwa [List.take_of_length_le (by omega)] at this
      have E1 : Hid ((setOf (nats (zs.take k)) : Int) = (ofS zs : Int) ∧ 0 = ofE zs) := Lib.hid (by unfold ofS ofE; rw [if_pos hgz, if_pos hgz, List.take_of_length_le (by omega)]; exact ⟨rfl, rfl⟩)
      clear hgz HG
      obtain ⟨x, hx⟩ : ∃ x : Int, x = (setOf (nats (zs.take k)) : Int) := ⟨_, rfl⟩
      rw [← hx] at E1 ⊢
      clear hx
      go_wp2
      go_ret2
      exact ⟨by rw [← E1.out.1, ← E1.out.2]; rfl, rfl⟩

theorem andNot_u64 (A B : Nat) (a b : Int) (ha : a = (A : Int)) (hb : b = (B : Int)) (hA : A < 18446744073709551616) (hB : B < 18446744073709551616) : bits BinOp.andNot IntKind.u64 a b = ((A &&& (18446744073709551615 - B) : Nat) : Int) := by
  rw [ha, hb, u64_andNot_nat A B hA hB]

set_option maxRecDepth 100000 in
set_option maxHeartbeats 2000000 in
theorem low_any (S : Nat) (hS : S < 18446744073709551616) (s n : Int) (hs : s = (S : Int)) (w : World) :
    Calls Tryd.prog 19 #[.int .u64 s, .int .i64 n] w fun e w' => e = .returned (.tuple #[.int .u64 (lowS S n : Int), .bool (soMany S n)]) ∧ w = w' := by
  have C := Lib.hid (fun w => soMany_any S hS s n hs w)
  have HE : Hid (lowS S n = if soMany S n = true then setOf ((mem S).take n.toNat) else 0) := Lib.hid rfl
  have HM : Hid (soMany S n = decide (0 ≤ n ∧ n ≤ ((mem S).length : Int))) := Lib.hid rfl
  cases hc : soMany S n with
  | false =>
    rw [hc] at C HE
    have HE : Hid ((0 : Int) = (lowS S n : Int)) := Lib.hid (by rw [HE.out]; rfl)
    clear hs hc HM
    go_enter Tryd.func19, Tryd.ntmps19
    go_wp2_with (first | (go_at_call 31; (with_reducible refine (C.out _).mono ?_); rintro e w' ⟨rfl, rfl⟩) | fail)
    go_ret2
    exact ⟨by rw [← HE.out]; rfl, rfl⟩
  | true =>
    rw [hc] at C HE HM
    rw [if_pos rfl] at HE
    obtain ⟨h0, h1⟩ := of_decide_eq_true HM.out.symm
    obtain ⟨N, rfl⟩ := Int.eq_ofNat_of_zero_le h0
    rw [Int.toNat_natCast] at HE
    have HN : Hid (N ≤ (mem S).length) := Lib.hid (by omega)
    have h64 : N ≤ 64 := by have := mem_length_le S; omega
    have HS := Lib.hid hs
    have HT : Hid (setOf ((mem S).drop 0) = S) := Lib.hid (by rw [List.drop_zero, setOf_mem S hS])
    have HZ : Hid (∀ x : Int, x = (setOf ((mem S).drop N) : Int) → bits BinOp.andNot IntKind.u64 s x = (lowS S (N : Int) : Int)) := Lib.hid (fun x hx => by
      rw [andNot_u64 S _ s x hs hx hS (drop_lt _ _), take_minus S N hS, HE.out])
    clear hs hc HM h0 h1
    go_enter Tryd.func19, Tryd.ntmps19
    go_wp2_with (first | (go_at_call 31; (with_reducible refine (C.out _).mono ?_); rintro e w' ⟨rfl, rfl⟩) | fail)
    go_loopw [6, 13] (fun v cv wr => ∃ k : Nat, cv = .int .i64 (k : Int) ∧ k ≤ N ∧ v = .int .u64 (setOf ((mem S).drop k) : Int) ∧ w = wr) (fun _ cv _ => N - (intOf cv).toNat)
    case atStart => exact ⟨0, rfl, by omega, by rw [HT.out, HS.out], rfl⟩
    case round =>
      obtain ⟨k, rfl, hk, rfl, rfl⟩ := hrel
      by_cases hlt : k < N
      · have ST := Lib.hid (low_step S k (by have := HN.out; omega))
        obtain ⟨y, hy⟩ : ∃ y : Int, y = (setOf ((mem S).drop (k + 1)) : Int) := ⟨_, rfl⟩
        obtain ⟨x, hx⟩ : ∃ x : Int, x = (setOf ((mem S).drop k) : Int) := ⟨_, rfl⟩
        have q : bits BinOp.and IntKind.u64 x (IntKind.u64.wrap (x - 1)) = y := by
          have hd := drop_lt S k
          have h1 := ST.out.2
          have e : IntKind.u64.wrap (x - 1) = ((setOf ((mem S).drop k) - 1 : Nat) : Int) := by rw [IntKind.wrap_u64, hx]; omega
          rw [e, hx, bits_and_u64_nat _ _ hd (by omega), ST.out.1, hy]
        have HY := Lib.hid hy
        rw [← hx]
        clear hx hy
        go_wp2
        go_roundw
        case rel => exact ⟨k + 1, by go_num, by omega, by rw [← HY.out], trivial⟩
        case measure => simp [intOf]; omega
      · obtain rfl : k = N := by omega
        obtain ⟨x, hx⟩ : ∃ x : Int, x = (setOf ((mem S).drop k) : Int) := ⟨_, rfl⟩
        have q := HZ.out x hx
        rw [← hx]
        clear hx
        go_wp2
        go_ret2
        exact ⟨rfl, rfl⟩

set_option maxRecDepth 100000 in
set_option maxHeartbeats 2000000 in
theorem high_any (S : Nat) (hS : S < 18446744073709551616) (s n : Int) (hs : s = (S : Int)) (w : World) :
    Calls Tryd.prog 21 #[.int .u64 s, .int .i64 n] w fun e w' => e = .returned (.tuple #[.int .u64 (highS S n : Int), .bool (soMany S n)]) ∧ w = w' := by
  have C := Lib.hid (fun w => soMany_any S hS s n hs w)
  have HE : Hid (highS S n = if soMany S n = true then setOf ((mem S).drop ((mem S).length - n.toNat)) else 0) := Lib.hid rfl
  have HM : Hid (soMany S n = decide (0 ≤ n ∧ n ≤ ((mem S).length : Int))) := Lib.hid rfl
  cases hc : soMany S n with
  | false =>
    rw [hc] at C HE
    have HE : Hid ((0 : Int) = (highS S n : Int)) := Lib.hid (by rw [HE.out]; rfl)
    clear hs hc HM
    go_enter Tryd.func21, Tryd.ntmps21
    go_wp2_with (first | (go_at_call 31; (with_reducible refine (C.out _).mono ?_); rintro e w' ⟨rfl, rfl⟩) | fail)
    go_ret2
    exact ⟨by rw [← HE.out]; rfl, rfl⟩
  | true =>
    rw [hc] at C HE HM
    rw [if_pos rfl] at HE
    obtain ⟨h0, h1⟩ := of_decide_eq_true HM.out.symm
    have h64 := mem_length_le S
    obtain ⟨c, hcc⟩ : ∃ c : Int, c = ((mem S).length : Int) := ⟨_, rfl⟩
    have CC := Lib.hid (fun w => count_any S hS s hs w)
    rw [← hcc] at CC
    have hm2 : soMany S (c - n) = true := by unfold soMany; rw [decide_eq_true_eq]; omega
    have CL := Lib.hid (fun w => low_any S hS s (c - n) hs w)
    rw [hm2] at CL
    obtain ⟨x, hx⟩ : ∃ x : Int, x = (lowS S (c - n) : Int) := ⟨_, rfl⟩
    rw [← hx] at CL
    have q : bits BinOp.andNot IntKind.u64 s x = (highS S n : Int) := by
      rw [andNot_u64 S _ s x hs hx hS (lowS_lt _ _), HE.out]
      unfold lowS
      rw [if_pos hm2, show (c - n).toNat = (mem S).length - n.toNat by omega, drop_minus S _ hS]
    obtain ⟨z, hz⟩ : ∃ z : Int, z = (highS S n : Int) := ⟨_, rfl⟩
    rw [← hz] at q ⊢
    have b1 : c ≤ 64 := by omega
    have b2 : n ≤ c := by omega
    have hw : IntKind.i64.wrap (c - n) = c - n := by simp [IntKind.wrap, IntKind.bits, IntKind.signed]; omega
    have hw2 : wrap64 (c - n) = c - n := by unfold wrap64; omega
    clear hs hc HM HE hx hz hcc h1 hm2
    go_enter Tryd.func21, Tryd.ntmps21
    go_wp2_with (first
      | (go_at_call 31; (with_reducible refine (C.out _).mono ?_); rintro e w' ⟨rfl, rfl⟩)
      | (go_at_call 14; (with_reducible refine (CC.out _).mono ?_); rintro e w' ⟨rfl, rfl⟩)
      | (go_at_call 19; (with_reducible refine (CL.out _).mono ?_); rintro e w' ⟨rfl, rfl⟩)
      | fail)
    go_ret2
    exact ⟨rfl, rfl⟩

end Go.Proofs.YtgneleembnchfaaDoor.Node
