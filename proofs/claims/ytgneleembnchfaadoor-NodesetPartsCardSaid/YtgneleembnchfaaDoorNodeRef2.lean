/-
  The walks of the document's own All, Of, Lowest, Highest, SameInts.
-/
import Derived.Test.YtgneleembnchfaaDoorNodeRef
import Derived.BigQuiet
namespace Go.Proofs.YtgneleembnchfaaDoor.Node
open Go.RowKit
open Base
set_option linter.unusedVariables false
set_option linter.unusedSimpArgs false

theorem ints_range_succ (k : Nat) : ints (List.range (k + 1)) = ints (List.range k) ++ [(k : Int)] := by
  rw [List.range_succ, ints_append, ints_one]

theorem setOf_range (n : Int) (M : Nat) (h : M = min n.toNat 64) : setOf (nats (ints (List.range M))) = allN n := by
  rw [nats_ints]
  apply Nat.eq_of_testBit_eq
  intro i
  rw [tb_setOf, tb_all, ← h, decide_eq_decide, List.mem_range]

set_option maxRecDepth 100000 in
set_option maxHeartbeats 2000000 in
theorem rall_any (n : Int) (w : World) :
    Calls Tryd.prog 18 #[.int .i64 n] w fun e w' => e = .returned (.int .u64 (allN n : Int)) ∧ Below w.heap.size w w' := by
  obtain ⟨i0, hi, hz0, hz1, hz2⟩ := info_parts info_int
  have HI := Lib.hid hi
  have HZ0 := Lib.hid hz0
  have HZ1 := Lib.hid hz1
  have HZ2 := Lib.hid hz2
  clear hi hz0 hz1 hz2
  obtain ⟨M, hM⟩ : ∃ M : Nat, M = min n.toNat 64 := ⟨_, rfl⟩
  have HF := Lib.hid (setOf_range n M hM)
  have h64 : M ≤ 64 := by omega
  have HM : Hid ((M : Int) < n ∧ M = 64 ∨ ¬ ((M : Int) < n)) := Lib.hid (by omega)
  have HL : Hid (∀ k : Nat, k < M → (k : Int) < n) := Lib.hid (by intro k hk; omega)
  clear hM
  go_enter Tryd.func18, Tryd.ntmps18
  go_wp2
  go_loopw [3, 4] (fun v cv wr => ∃ k : Nat, cv = .int .i64 (k : Int) ∧ k ≤ M ∧ Own (.int .i64) w.heap.size 3 v (ints (List.range k)) wr ∧ Below w.heap.size w wr) (fun _ cv _ => M - (intOf cv).toNat)
  case atStart => exact ⟨0, rfl, by omega, Own.nil (Nat.le_refl _), Below.refl _ _⟩
  case round =>
    obtain ⟨k, rfl, hk, ho, hb⟩ := hrel
    have HO := Lib.hid ho
    have HB := Lib.hid hb
    clear ho hb
    have hll : (ints (List.range k)).length ≤ 64 := by rw [ints_length, List.length_range]; omega
    by_cases hlt : k < M
    · have hkn := HL.out k hlt
      have hk64 : (k : Int) < 64 := by omega
      have hd1 : decide ((k : Int) < n) = true := decide_eq_true hkn
      have hd2 : decide ((k : Int) < 64) = true := decide_eq_true hk64
      have HE := Lib.hid (ints_range_succ k)
      obtain ⟨l, hl⟩ : ∃ l, l = ints (List.range k) := ⟨_, rfl⟩
      rw [← hl] at HO HE hll
      clear hl
      go_wp2_with (first
        | (at_builtin; refine wpList_append_src rfl (.tmp 14) (.tmp 16) 22 rfl i0 _ 8 Tryd.underlying22 HI.out HZ0.out HZ1.out HZ2.out rfl (fun _ => rfl) rfl (HO.out.alloc _) _ 1 1 [(k : Int)] rfl rfl (one_int _ rfl rfl) (by intro h; cases h) (by omega) (by unfold maxLen; omega) ?_; intro v4 w4 o4 b4)
        | fail)
      go_roundw
      case rel => exact ⟨k + 1, by go_num, by omega, by rw [HE.out]; exact o4, (HB.out.alloc HB.out.size _).trans b4⟩
      case measure => simp [intOf]; omega
    · obtain rfl : k = M := by omega
      obtain ⟨ao, cap, rfl, hr, hn, hc1, hc2⟩ := HO.out.value
      have HR := Lib.hid hr
      have HLn : Hid ((ints (List.range k)).length = k) := Lib.hid (by rw [ints_length, List.length_range])
      have HIn : Hid (∀ x ∈ ints (List.range k), 0 ≤ x ∧ x < 64) := Lib.hid (by
        intro x hx
        obtain ⟨j, hj, rfl⟩ := List.mem_map.1 hx
        have := List.mem_range.1 hj
        simp only [Int.ofNat_eq_natCast]
        omega)
      obtain ⟨l, hl⟩ : ∃ l, l = ints (List.range k) := ⟨_, rfl⟩
      rw [← hl] at HR HLn HIn HF ⊢
      clear hr hn hc1 HO hl hll
      rcases HM.out with ⟨h1, h2⟩ | h1
      · have hd1 : decide ((k : Int) < n) = true := decide_eq_true h1
        have hd2 : decide ((k : Int) < 64) = false := decide_eq_false (by omega)
        go_wp2_with (first
          | (go_at_call 28; (with_reducible refine (rset_any _ _ _ l _ rfl (by have := HLn.out; omega) HR.out HIn.out).mono ?_); rintro e w' ⟨rfl, rfl⟩)
          | fail)
        go_ret
        exact ⟨by rw [HF.out]; rfl, HB.out⟩
      · have hd1 : decide ((k : Int) < n) = false := decide_eq_false (by omega)
        go_wp2_with (first
          | (go_at_call 28; (with_reducible refine (rset_any _ _ _ l _ rfl (by have := HLn.out; omega) HR.out HIn.out).mono ?_); rintro e w' ⟨rfl, rfl⟩)
          | fail)
        go_ret
        exact ⟨by rw [HF.out]; rfl, HB.out⟩

theorem reads_at {f : Int → Value} {w : World} {b off : Nat} {zs : List Int} (h : Reads f w (some ⟨b, off, none⟩) zs) {k : Nat} (hk : k < zs.length) : w.cell? ⟨b, off + k, none⟩ = some (f zs[k]) := by
  obtain ⟨b', off', e, hc⟩ := h.at_ hk
  obtain ⟨rfl, rfl⟩ : b = b' ∧ off = off' := by simpa using e
  exact hc

set_option maxRecDepth 100000 in
set_option maxHeartbeats 2000000 in
theorem rof_any (a : Option Addr) (len cap : Nat) (zs : List Int) (w : World) (hlen : zs.length = len) (hl : len ≤ 9223372036854775806) (hr : Reads (.int .i64) w a zs) :
    Calls Tryd.prog 10 #[.slice a len cap] w fun e w' => e = .returned (.tuple #[.int .u64 (ofS zs : Int), .int .i64 (ofE zs)]) ∧ Below w.heap.size w w' := by
  subst hlen
  have HR := Lib.hid hr
  clear hr
  go_enter Tryd.func10, Tryd.ntmps10
  go_wp2
  go_loopw [4] (fun cv wr => ∃ k : Nat, cv = .int .i64 (k : Int) ∧ k ≤ zs.length ∧ good (zs.take k) ∧ Below w.heap.size w wr) (fun cv _ => zs.length - (intOf cv).toNat)
  case atStart => exact ⟨0, rfl, by omega, ⟨by simp, by simp⟩, Below.refl _ _⟩
  case round =>
    obtain ⟨k, rfl, hk, hg, hb⟩ := hrel
    have HG := Lib.hid hg
    have HB := Lib.hid hb
    clear hg hb
    by_cases hlt : k < zs.length
    · obtain ⟨b, off, rfl, hc⟩ := (HR.out.below HB.out).at_ hlt
      have G := Lib.hid (good_take_succ zs k hlt)
      have TK := Lib.hid (good_take zs (k + 1))
      obtain ⟨z, hz⟩ : ∃ z, z = zs[k] := ⟨_, rfl⟩
      have HZ := Lib.hid hz
      rw [← hz] at hc G
      clear hz
      have hi0 : (0 : Int) ≤ (k : Int) := by omega
      have hi1 : (k : Int) < ((zs.length : Nat) : Int) := by omega
      by_cases hn : 0 ≤ z ∧ z < 64
      · have d1 : decide (z < 0) = false := decide_eq_false (by omega)
        have d2 : decide (63 < z) = false := decide_eq_false (by omega)
        have HN := Lib.hid hn
        clear hn
        go_wp2
        go_loopw [5] (fun jv wj => ∃ j : Nat, jv = .int .i64 (j : Int) ∧ j ≤ k ∧ (∀ x ∈ zs.take j, x ≠ z) ∧ Below w.heap.size w wj) (fun jv _ => k - (intOf jv).toNat)
        case atStart => exact ⟨0, rfl, by omega, by simp, HB.out⟩
        case round =>
          obtain ⟨j, rfl, hj, hne, hb2⟩ := hrel
          have HB2 := Lib.hid hb2
          have HNE := Lib.hid hne
          clear hb2 hne hc
          by_cases hjk : j < k
          · have hc1 := reads_at (HR.out.below HB2.out) (show j < zs.length by omega)
            have hc2 := reads_at (HR.out.below HB2.out) hlt
            rw [← HZ.out] at hc2
            have HS := Lib.hid (take_snoc zs j (by omega))
            have HJ : Hid (zs[j] ∈ zs.take k) := Lib.hid (by
              rw [List.mem_take_iff_getElem]
              exact ⟨j, by omega, rfl⟩)
            obtain ⟨y, hy⟩ : ∃ y, y = zs[j] := ⟨_, rfl⟩
            rw [← hy] at hc1 HS HJ
            clear hy
            have hj0 : (0 : Int) ≤ (j : Int) := by omega
            have hj1 : (j : Int) < ((zs.length : Nat) : Int) := by omega
            by_cases hyz : y = z
            · have t1 : (y == z) = true := by rw [beq_iff_eq]; exact hyz
              have hnot : ¬ good zs := fun h => (G.out.1 (TK.out h)).2.2 (by rw [← hyz]; exact HJ.out)
              have E1 : Hid (0 = (ofS zs : Int) ∧ 90 = ofE zs) := Lib.hid (by unfold ofS ofE; rw [if_neg hnot, if_neg hnot]; exact ⟨rfl, rfl⟩)
              clear hnot hyz
              go_wp2
              go_quiet (fail)
              go_wp2
              go_ret2
              exact ⟨by rw [← E1.out.1, ← E1.out.2]; rfl, Base.below_drewN HB2.out _⟩
            · have t1 : (y == z) = false := by rw [beq_eq_false_iff_ne]; exact hyz
              have HQ : Hid (∀ x ∈ zs.take (j + 1), x ≠ z) := Lib.hid (by
                rw [HS.out]
                intro x hx
                rcases List.mem_append.1 hx with hx | hx
                · exact HNE.out x hx
                · rw [List.mem_singleton.1 hx]; exact hyz)
              clear hyz
              go_wp2
              go_quiet (fail)
              go_wp2
              refine ⟨⟨j + 1, by go_num, by omega, HQ.out, Base.below_drewN HB2.out _⟩, ?_⟩
              simp [intOf]; omega
          · obtain rfl : j = k := by omega
            have HGN : Hid (good (zs.take (j + 1))) := Lib.hid (G.out.2 ⟨HG.out, HN.out, fun h => HNE.out z h rfl⟩)
            go_wp2
            refine ⟨⟨j + 1, by go_num, by omega, HGN.out, HB2.out⟩, ?_⟩
            simp [intOf]; omega
      · have hnot : ¬ good zs := fun h => hn (G.out.1 (TK.out h)).2.1
        have E1 : Hid (0 = (ofS zs : Int) ∧ 90 = ofE zs) := Lib.hid (by unfold ofS ofE; rw [if_neg hnot, if_neg hnot]; exact ⟨rfl, rfl⟩)
        clear hnot
        by_cases hz0 : z < 0
        · have d1 : decide (z < 0) = true := decide_eq_true hz0
          clear hn
          go_wp2
          go_ret2
          exact ⟨by rw [← E1.out.1, ← E1.out.2]; rfl, HB.out⟩
        · have d1 : decide (z < 0) = false := decide_eq_false hz0
          have d2 : decide (63 < z) = true := decide_eq_true (by omega)
          clear hn
          go_wp2
          go_ret2
          exact ⟨by rw [← E1.out.1, ← E1.out.2]; rfl, HB.out⟩
    · have hgz : good zs := by have := HG.out; rwa [List.take_of_length_le (by omega)] at this
      have E1 : Hid ((setOf (nats zs) : Int) = (ofS zs : Int) ∧ 0 = ofE zs) := Lib.hid (by unfold ofS ofE; rw [if_pos hgz, if_pos hgz]; exact ⟨rfl, rfl⟩)
      have C := Lib.hid (fun w1 (hb : Below w.heap.size w w1) => rset_any a zs.length cap zs w1 rfl hl (HR.out.below hb) hgz.1)
      clear hgz HG
      obtain ⟨x, hx⟩ : ∃ x : Int, x = (setOf (nats zs) : Int) := ⟨_, rfl⟩
      rw [← hx] at E1 C
      clear hx
      go_wp2_with (first
        | (go_at_call 28; (with_reducible refine (C.out _ HB.out).mono ?_); rintro e w' ⟨rfl, rfl⟩)
        | fail)
      go_ret2
      exact ⟨by rw [← E1.out.1, ← E1.out.2]; rfl, HB.out⟩

theorem reads_take {f : Int → Value} {w : World} {a : Option Addr} {zs : List Int} (h : Reads f w a zs) (k : Nat) : Reads f w a (zs.take k) := by
  rcases h with rfl | ⟨b, off, rfl, hc⟩
  · exact .inl (by simp)
  · refine .inr ⟨b, off, rfl, fun j hj => ?_⟩
    rw [List.getElem_take]
    exact hc j (by rw [List.length_take] at hj; omega)
theorem reads_drop {f : Int → Value} {w : World} {b off : Nat} {zs : List Int} (h : Reads f w (some ⟨b, off, none⟩) zs) (k : Nat) : Reads f w (some ⟨b, off + k, none⟩) (zs.drop k) := by
  refine .inr ⟨b, off + k, rfl, fun j hj => ?_⟩
  rw [List.length_drop] at hj
  rw [List.getElem_drop, Nat.add_assoc]
  exact reads_at h (by omega)
theorem reads_drop_map {f : Int → Value} {w : World} {a : Option Addr} {zs : List Int} (h : Reads f w a zs) (k : Nat) : Reads f w (Option.map (fun x => x.add k) a) (zs.drop k) := by
  rcases h with rfl | ⟨b, off, rfl, hc⟩
  · exact .inl (by simp)
  · have := reads_drop (f := f) (w := w) (b := b) (off := off) (.inr ⟨b, off, rfl, hc⟩) k
    rwa [← Go.WideShapes.add_plain] at this
theorem reads_none {f : Int → Value} {w : World} {a : Option Addr} {zs : List Int} (k : Nat) (h : zs.length ≤ k) : Reads f w a (zs.drop k) := .inl (List.drop_of_length_le h)
theorem nats_take (l : List Nat) (k : Nat) : nats ((ints l).take k) = l.take k := by
  unfold nats ints
  rw [← List.map_take]
  exact nats_ints _
theorem nats_drop (l : List Nat) (k : Nat) : nats ((ints l).drop k) = l.drop k := by
  unfold nats ints
  rw [← List.map_drop]
  exact nats_ints _
theorem ints_bd (S : Nat) : ∀ x ∈ ints (mem S), 0 ≤ x ∧ x < 64 := by
  intro x hx
  obtain ⟨n, hn, rfl⟩ := List.mem_map.1 hx
  have := mem_lt S n hn
  simp only [Int.ofNat_eq_natCast]
  omega

set_option maxRecDepth 100000 in
set_option maxHeartbeats 2000000 in
theorem rlow_any (S : Nat) (hS : S < 18446744073709551616) (s n : Int) (hs : s = (S : Int)) (w : World) :
    Calls Tryd.prog 20 #[.int .u64 s, .int .i64 n] w fun e w' => e = .returned (.tuple #[.int .u64 (lowS S n : Int), .bool (soMany S n)]) ∧ Below w.heap.size w w' := by
  have C := Lib.hid (fun w => rlist_any S hS s hs w)
  have HM : Hid (soMany S n = decide (0 ≤ n ∧ n ≤ ((mem S).length : Int))) := Lib.hid rfl
  have HE : Hid (lowS S n = if soMany S n = true then setOf ((mem S).take n.toNat) else 0) := Lib.hid rfl
  have h64 := mem_length_le S
  have LI : Hid ((ints (mem S)).length = (mem S).length) := Lib.hid (ints_length _)
  obtain ⟨L, hL⟩ : ∃ L, L = (mem S).length := ⟨_, rfl⟩
  rw [← hL] at h64 HM C LI
  clear hL
  by_cases h0 : 0 ≤ n
  · have d1 : decide (n < 0) = false := decide_eq_false (by omega)
    by_cases h1 : n ≤ (L : Int)
    · have d2 : decide ((L : Int) < n) = false := decide_eq_false (by omega)
      have HM : Hid (true = soMany S n) := Lib.hid (by rw [HM.out]; simp [h0, h1])
      rw [← HM.out, if_pos rfl] at HE
      have HN : Hid (nats ((ints (mem S)).take n.toNat) = (mem S).take n.toNat) := Lib.hid (nats_take _ _)
      have HI := Lib.hid (ints_bd S)
      obtain ⟨l, hl⟩ : ∃ l, l = ints (mem S) := ⟨_, rfl⟩
      rw [← hl] at HN HI C LI
      clear hs hl
      go_enter Tryd.func20, Tryd.ntmps20
      go_wp2_with (first
        | (go_at_call 11; (with_reducible refine (C.out _).mono ?_); rintro e w1 ⟨ao, cap, rfl, hr, hn, hc, hm, hb⟩; have HR := Lib.hid hr; have HB := Lib.hid hb; clear hr hn hb)
        | (go_at_call 28; (with_reducible refine (rset_any _ _ _ (l.take n.toNat) _ (by rw [List.length_take, LI.out]; omega) (by omega) (reads_take HR.out _) (fun x hx => HI.out x (List.mem_of_mem_take hx))).mono ?_); rintro e w2 ⟨rfl, rfl⟩)
        | fail)
      go_ret2
      exact ⟨by rw [HE.out, ← HM.out, ← HN.out]; rfl, HB.out⟩
    · have d2 : decide ((L : Int) < n) = true := decide_eq_true (by omega)
      have HM : Hid (false = soMany S n) := Lib.hid (by rw [HM.out]; simp; omega)
      rw [← HM.out, if_neg (by decide)] at HE
      clear hs
      go_enter Tryd.func20, Tryd.ntmps20
      go_wp2_with (first
        | (go_at_call 11; (with_reducible refine (C.out _).mono ?_); rintro e w1 ⟨ao, cap, rfl, hr, hn, hc, hm, hb⟩; have HB := Lib.hid hb; clear hr hn hb)
        | fail)
      go_ret2
      exact ⟨by rw [HE.out, ← HM.out]; rfl, HB.out⟩
  · have d1 : decide (n < 0) = true := decide_eq_true (by omega)
    have HM : Hid (false = soMany S n) := Lib.hid (by rw [HM.out]; simp; omega)
    rw [← HM.out, if_neg (by decide)] at HE
    clear hs
    go_enter Tryd.func20, Tryd.ntmps20
    go_wp2_with (first
      | (go_at_call 11; (with_reducible refine (C.out _).mono ?_); rintro e w1 ⟨ao, cap, rfl, hr, hn, hc, hm, hb⟩; have HB := Lib.hid hb; clear hr hn hb)
      | fail)
    go_ret2
    exact ⟨by rw [HE.out, ← HM.out]; rfl, HB.out⟩

set_option maxRecDepth 100000 in
set_option maxHeartbeats 2000000 in
theorem rhigh_any (S : Nat) (hS : S < 18446744073709551616) (s n : Int) (hs : s = (S : Int)) (w : World) :
    Calls Tryd.prog 22 #[.int .u64 s, .int .i64 n] w fun e w' => e = .returned (.tuple #[.int .u64 (highS S n : Int), .bool (soMany S n)]) ∧ Below w.heap.size w w' := by
  have C := Lib.hid (fun w => rlist_any S hS s hs w)
  have HM : Hid (soMany S n = decide (0 ≤ n ∧ n ≤ ((mem S).length : Int))) := Lib.hid rfl
  have HE : Hid (highS S n = if soMany S n = true then setOf ((mem S).drop ((mem S).length - n.toNat)) else 0) := Lib.hid rfl
  have h64 := mem_length_le S
  have LI : Hid ((ints (mem S)).length = (mem S).length) := Lib.hid (ints_length _)
  obtain ⟨L, hL⟩ : ∃ L, L = (mem S).length := ⟨_, rfl⟩
  rw [← hL] at h64 HM C LI HE
  clear hL
  by_cases h0 : 0 ≤ n
  · have d1 : decide (n < 0) = false := decide_eq_false (by omega)
    by_cases h1 : n ≤ (L : Int)
    · have d2 : decide ((L : Int) < n) = false := decide_eq_false (by omega)
      have HM2 : Hid (true = soMany S n) := Lib.hid (by rw [HM.out]; simp [h0, h1])
      rw [← HM2.out, if_pos rfl] at HE
      clear HM
      obtain ⟨N, rfl⟩ := Int.eq_ofNat_of_zero_le h0
      rw [Int.toNat_natCast] at HE
      obtain ⟨D, hD⟩ : ∃ D, D = L - N := ⟨_, rfl⟩
      rw [← hD] at HE
      have hLD : L = D + N := by omega
      have HN : Hid (nats ((ints (mem S)).drop D) = (mem S).drop D) := Lib.hid (nats_drop _ _)
      have HI := Lib.hid (ints_bd S)
      obtain ⟨l, hl⟩ : ∃ l, l = ints (mem S) := ⟨_, rfl⟩
      rw [← hl] at HN HI C LI
      clear hs hl hD
      subst hLD
      have hw2 : wrap64 (((D + N : Nat) : Int) - (N : Int)) = (D : Int) := by unfold wrap64; omega
      go_enter Tryd.func22, Tryd.ntmps22
      go_wp2_with (first
        | (go_at_call 11; (with_reducible refine (C.out _).mono ?_); rintro e w1 ⟨ao, cap, rfl, hr, hn, hc, hm, hb⟩; have HR := Lib.hid hr; have HB := Lib.hid hb; clear hr hn hb)
        | (go_at_call 28; (with_reducible refine (rset_any _ _ _ (l.drop D) _ (by rw [List.length_drop, LI.out]; omega) (by omega) (by first | exact reads_drop_map HR.out D | exact reads_none D (by rw [LI.out]; omega)) (fun x hx => HI.out x (List.mem_of_mem_drop hx))).mono ?_); rintro e w2 ⟨rfl, rfl⟩)
        | fail)
      all_goals
        go_ret2
        exact ⟨by rw [HE.out, ← HM2.out, ← HN.out]; rfl, HB.out⟩
    · have d2 : decide ((L : Int) < n) = true := decide_eq_true (by omega)
      have HM : Hid (false = soMany S n) := Lib.hid (by rw [HM.out]; simp; omega)
      rw [← HM.out, if_neg (by decide)] at HE
      clear hs
      go_enter Tryd.func22, Tryd.ntmps22
      go_wp2_with (first
        | (go_at_call 11; (with_reducible refine (C.out _).mono ?_); rintro e w1 ⟨ao, cap, rfl, hr, hn, hc, hm, hb⟩; have HB := Lib.hid hb; clear hr hn hb)
        | fail)
      go_ret2
      exact ⟨by rw [HE.out, ← HM.out]; rfl, HB.out⟩
  · have d1 : decide (n < 0) = true := decide_eq_true (by omega)
    have HM : Hid (false = soMany S n) := Lib.hid (by rw [HM.out]; simp; omega)
    rw [← HM.out, if_neg (by decide)] at HE
    clear hs
    go_enter Tryd.func22, Tryd.ntmps22
    go_wp2_with (first
      | (go_at_call 11; (with_reducible refine (C.out _).mono ?_); rintro e w1 ⟨ao, cap, rfl, hr, hn, hc, hm, hb⟩; have HB := Lib.hid hb; clear hr hn hb)
      | fail)
    go_ret2
    exact ⟨by rw [HE.out, ← HM.out]; rfl, HB.out⟩

set_option maxRecDepth 100000 in
set_option maxHeartbeats 2000000 in
/-- Two lists that hold the same. -/
theorem rsame_any (a b : Option Addr) (la lb ca cb : Nat) (x : List Int) (w : World) (hla : x.length = la) (hlb : x.length = lb) (hl : x.length ≤ 9223372036854775806) (hx : Reads (.int .i64) w a x) (hy : Reads (.int .i64) w b x) :
    Calls Tryd.prog 12 #[.slice a la ca, .slice b lb cb] w fun e w' => e = .returned (.bool true) ∧ Below w.heap.size w w' := by
  subst hla hlb
  have HX := Lib.hid hx
  have HY := Lib.hid hy
  clear hx hy
  have hd : ((x.length : Int) != (x.length : Int)) = false := by rw [bne_eq_false_iff_eq]
  go_enter Tryd.func12, Tryd.ntmps12
  go_wp2
  go_loopw [5] (fun i wr => ∃ k : Nat, i = .int .i64 (k : Int) ∧ k ≤ x.length ∧ Below w.heap.size w wr) (fun i _ => x.length - (intOf i).toNat)
  case atStart => exact ⟨0, rfl, Nat.zero_le _, Below.refl _ _⟩
  case round =>
    obtain ⟨k, rfl, hk, hb⟩ := hrel
    have HB := Lib.hid hb
    by_cases hp : k < x.length
    · obtain ⟨ab, ao, rfl, a0⟩ := (HX.out.below hb).at_ hp
      obtain ⟨bb, bo, rfl, b0⟩ := (HY.out.below hb).at_ hp
      obtain ⟨z, hz⟩ : ∃ z, z = x[k] := ⟨_, rfl⟩
      rw [← hz] at a0 b0
      have hlow : (0 : Int) ≤ (k : Int) := by omega
      have hup1 : (k : Int) < ((x.length : Nat) : Int) := by omega
      clear hz hb
      go_wp2
      go_quiet (fail)
      go_wp2
      refine ⟨⟨k + 1, by go_num, by omega, Base.below_drewN HB.out _⟩, ?_⟩
      simp [intOf]; omega
    · go_wp2
      go_ret
      exact ⟨rfl, HB.out⟩

end Go.Proofs.YtgneleembnchfaaDoor.Node
