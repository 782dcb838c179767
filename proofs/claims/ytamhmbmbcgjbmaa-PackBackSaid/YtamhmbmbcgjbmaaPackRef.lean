/-
  The contracts of the document's own answers of layer 3.
-/
import Derived.Test.YtamhmbmbcgjbmaaPackText
namespace Go.Proofs.Ytamhmbmbcgjbmaa.Pack
open Go.RowKit
open Base Bld
set_option linter.unusedVariables false

set_option maxHeartbeats 400000 in
theorem rwidth_any (n : Int) (w : World) :
    Calls Try.prog 24 #[.int .i64 n] w fun e w' => e = .returned (.bool (isW n)) ∧ w = w' := by
  obtain ⟨b, hb⟩ : ∃ b, b = isW n := ⟨_, rfl⟩
  rw [← hb]
  rw [isW_eq] at hb
  have HB := Lib.hid hb
  clear hb
  go_enter Try.func24, Try.ntmps24
  go_wp2
  all_goals
    go_ret
    refine ⟨ret_bool ?_, rfl⟩
    rw [HB.out, Bool.eq_iff_iff]
    simp [*]

theorem info_u8 : (Try.prog.info? 5).map (fun i => (i.zero, i.size, i.bytes)) = some (some (.int .u8 0), 1, 1) := by kernel_rfl

theorem one_of {w : World} {B n : Nat} {val : Value} (x : UInt8) (hB : B ≤ w.heap.size) (hn : n = w.heap.size) (hv : val = u8 x) : Own u8 B 5 (.slice (some ⟨n, 0, none⟩) 1 1) [x] (w.alloc (.cells #[val] 5)) := by
  subst hv; exact Own.one hB x hn

set_option maxRecDepth 100000 in
set_option maxHeartbeats 1000000 in
theorem rnumber_any (n k : Int) (h1 : -9223372036854775808 ≤ n) (h2 : n ≤ 9223372036854775807) (w : World) :
    Calls Try.prog 9 #[.int .i64 n, .int .i64 k] w fun e w' => e = .returned (.tuple #[.string (nuS n k), .int .i64 (nuE n k)]) ∧ Below w.heap.size w w' := by
  by_cases hw : isW k = true
  · by_cases h0 : n < 0
    · have hn : numOK n k = false := by unfold numOK; simp; intro _ h; omega
      have HN := Lib.hid (nu_no hn)
      clear hn
      go_enter Try.func9, Try.ntmps9
      go_wp2_with (first | (go_at_call 24; (with_reducible refine (rwidth_any _ _).mono ?_); rintro e w' ⟨rfl, rfl⟩) | fail)
      go_ret2
      exact ⟨ret_se HN.out.1 HN.out.2, Below.refl _ _⟩
    · obtain ⟨m, rfl⟩ := Int.eq_ofNat_of_zero_le (show 0 ≤ n by omega)
      obtain ⟨K, rfl, hK, hK0⟩ := isW_nat hw
      obtain ⟨i0, hi, hz0, hz1, hz2⟩ := info_parts info_u8
      have HI := Lib.hid hi
      have HZ0 := Lib.hid hz0
      have HZ1 := Lib.hid hz1
      have HZ2 := Lib.hid hz2
      clear hi hz0 hz1 hz2
      have hm : m ≤ 9223372036854775807 := by omega
      go_enter Try.func9, Try.ntmps9
      go_wp2_with (first | (go_at_call 24; (with_reducible refine (rwidth_any _ _).mono ?_); rintro e w' ⟨rfl, rfl⟩) | fail)
      go_loopw [0, 6, 7] (fun n v i wr => ∃ k q : Nat, k ≤ K ∧ i = .int .i64 k ∧ n = .int .i64 (q : Int) ∧ m / 256 ^ k = q ∧ Own u8 w.heap.size 5 v (numB m k) wr ∧ Below w.heap.size w wr) (fun _ _ i _ => K - (intOf i).toNat)
      case atStart => exact ⟨0, m, Nat.zero_le _, rfl, rfl, by simp, Own.nil (Nat.le_refl _), Below.refl _ _⟩
      case round =>
        obtain ⟨k, q, hk, rfl, rfl, hq0, ho, hb⟩ := hrel
        obtain ⟨ao, cap, rfl, hr, hn, _, _⟩ := ho.value
        have hq : q ≤ 9223372036854775807 := by have := Nat.div_le_self m (256 ^ k); omega
        have HQ := Lib.hid hq0
        have HO := Lib.hid ho
        have HR := Lib.hid hr
        have HN := Lib.hid hn
        have HBW := Lib.hid hb
        have HL : Hid ((numB m k).length = k) := Lib.hid (numB_length m k)
        clear ho hr hn hb hq0
        by_cases hlt : k < K
        · have hone : (q : Int) % 256 = ((UInt8.ofNat (q % 256)).toNat : Int) := by rw [UInt8.toNat_ofNat']; omega
          have HX : Hid (Value.int .u8 ((q : Int) % 256) = u8 (UInt8.ofNat (q % 256))) := Lib.hid (by unfold u8; rw [← hone])
          have HS : Hid ([UInt8.ofNat (q % 256)] ++ numB m k = numB m (k + 1)) := Lib.hid (by rw [← HQ.out]; exact numB_ahead m k)
          have HD : Hid (m / 256 ^ (k + 1) = q / 256) := Lib.hid (by rw [Nat.pow_succ, ← Nat.div_div_eq_div_mul, HQ.out])
          clear hone
          go_wp2_with (first
            | (at_builtin; refine wpList_append_src rfl (.tmp 23) (.tmp 24) 52 rfl i0 _ 1 Try.underlying52 HI.out HZ0.out HZ1.out HZ2.out rfl (fun _ => rfl) rfl (one_of (UInt8.ofNat (q % 256)) HO.out.2 rfl HX.out) ao _ cap (numB m k) rfl rfl (HR.out.alloc _) HN.out (by have := HL.out; simp; omega) (by have := HL.out; unfold maxLen; simp; omega) ?_; intro v4 w4 o4 b4)
            | fail)
          refine ⟨⟨k + 1, q / 256, by omega, by go_num, by go_num, HD.out, by rw [← HS.out]; exact o4, (HBW.out.alloc HO.out.2 _).trans b4⟩, ?_⟩
          simp [intOf]; omega
        · obtain rfl : k = K := by omega
          by_cases hz : 0 < q
          · have HE := Lib.hid (nu_no (n := (m : Int)) (k := (k : Int)) (by
              rw [numOK_nat hw, decide_eq_false_iff_not]; intro hf; have := HQ.out; rw [Nat.div_eq_of_lt hf] at this; omega))
            go_wp2
            go_ret2
            exact ⟨ret_se HE.out.1 HE.out.2, HBW.out⟩
          · have hf : m < 256 ^ k := by
              rcases Nat.lt_or_ge m (256 ^ k) with h | h
              · exact h
              · have := Nat.div_pos h (Nat.pow_pos (by omega)); have := HQ.out; omega
            have HE := Lib.hid (nu_yes hw hf)
            obtain ⟨g, rfl, _, hbr⟩ := HO.out.byteRow (by intro h; have := HL.out; rw [h] at this; simp at this; omega)
            have hcv := run_conv_row (P := Try.prog) hbr 52 9 5 Try.underlying52 Try.underlying5 Try.underlying9 (numB m k).length cap rfl
            clear hbr hf
            go_wp2
            go_ret2
            exact ⟨ret_se HE.out.1 HE.out.2, HBW.out⟩
  · have hw : isW k = false := by simpa using hw
    have HN := Lib.hid (nu_no (n := n) (k := k) (by unfold numOK; rw [hw]; rfl))
    go_enter Try.func9, Try.ntmps9
    go_wp2_with (first | (go_at_call 24; (with_reducible refine (rwidth_any _ _).mono ?_); rintro e w' ⟨rfl, rfl⟩) | fail)
    go_ret2
    exact ⟨ret_se HN.out.1 HN.out.2, Below.refl _ _⟩


theorem nval_mono (s : ByteArray) (a : Nat) : ∀ d j, a + j + d ≤ s.size → nval s a j ≤ nval s a (j + d)
  | 0, _, _ => Nat.le_refl _
  | d + 1, j, h => by
    have h1 := nval_mono s a d j (by omega)
    have h2 := nval_step s a (j + d) (by omega)
    rw [show j + (d + 1) = j + d + 1 by omega, h2]
    omega

theorem width_small {K : Nat} (hw : isW (K : Int) = true) (h8 : K ≠ 8) : K ≤ 4 := by
  rcases (show (K : Int) = 1 ∨ (K : Int) = 2 ∨ (K : Int) = 4 ∨ (K : Int) = 8 by simpa [isW] using hw) with h | h | h | h <;> omega

theorem nval_small {s : ByteArray} {a K : Nat} (h : a + K ≤ s.size) (hK : K ≤ 4) : nval s a K < 4294967296 := by
  have h1 := nval_lt s a K h
  have h2 : (256 : Nat) ^ K ≤ 256 ^ 4 := Nat.pow_le_pow_right (by omega) hK
  have h3 : (256 : Nat) ^ 4 = 4294967296 := by decide
  omega

set_option maxHeartbeats 1000000 in
theorem rtn_loop (s : ByteArray) (hs : s.size ≤ maxLen) (A K : Nat) (w : World) (hA : A ≤ s.size) (hw : isW (K : Int) = true) (hlt : A + K ≤ s.size) (hc : nval s A K < 9223372036854775808) :
    Calls Try.prog 11 #[.string s, .int .i64 (A : Int), .int .i64 (K : Int)] w fun e w' => e = .returned (.tuple #[.int .i64 (tnV s A K), .int .i64 (tnTo s A K), .int .i64 (tnE s A K)]) ∧ w = w' := by
  have HT := Lib.hid (tn_whole hA hw hlt)
  have HO := Lib.hid (ok_yes (A + K) hc)
  unfold maxLen at hs
  have hK : K ≤ 8 := by
    by_cases h : K = 8
    · omega
    · have := width_small hw h; omega
  have h0 : ¬ (A : Int) < 0 := by omega
  have h1 : ¬ (s.size : Int) < (A : Int) := by omega
  have h2 : ¬ (s.size : Int) - (A : Int) < (K : Int) := by omega
  have h3 : K = 8 → ∀ h : A < s.size, ¬ (127 : Int) < (s[A].toNat : Int) := fun h8 h => by
    subst h8
    have := (nval_eight s A hlt).1 hc
    omega
  have H3 := Lib.hid h3
  clear h3
  by_cases h8 : K = 8
  · subst h8
    have hAs : A < s.size := by omega
    have hby := H3.out rfl hAs
    have hby2 : decide ((127 : Int) < (s[A].toNat : Int)) = false := by simpa using hby
    have hw2 : isW 8 = true := by decide
    have h2' : decide ((s.size : Int) - (A : Int) < 8) = false := by simp only [decide_eq_false_iff_not]; omega
    have HT8 : Hid (tnV s (A : Int) 8 = okV (nval s A 8) ∧ tnTo s (A : Int) 8 = okT (nval s A 8) (A + 8) ∧ tnE s (A : Int) 8 = okE (nval s A 8)) := HT
    have HC := Lib.hid hc
    clear hc hw h2 hby HT H3
    go_enter Try.func11, Try.ntmps11
    go_wp2_with (first | (go_at_call 24; (with_reducible refine (rwidth_any _ _).mono ?_); rintro e w' ⟨rfl, rfl⟩) | fail)
    go_loop [9, 10] (fun n i => ∃ k : Nat, k ≤ 8 ∧ i = .int .i64 k ∧ n = .int .i64 (nval s A k : Int)) (fun _ i => 8 - (intOf i).toNat)
    case atStart => exact ⟨0, Nat.zero_le _, rfl, by rw [nval_zero]; rfl⟩
    case round =>
      obtain ⟨k, hk, rfl, rfl⟩ := hrel
      by_cases hlk : k < 8
      · have hin : A + k < s.size := by omega
        have hst := nval_step s A k hin
        have hmo := nval_mono s A (8 - (k + 1)) (k + 1) (by omega)
        rw [show k + 1 + (8 - (k + 1)) = 8 by omega] at hmo
        have hbd : nval s A k * 256 + s[A + k].toNat < 9223372036854775808 := by have := HC.out; omega
        have HN := Lib.hid hst
        clear hst hmo
        go_wp2
        go_round
        case rel => exact ⟨k + 1, by omega, by go_num, by rw [HN.out]; go_num⟩
        case measure => simp [intOf]; omega
      · obtain rfl : k = 8 := by omega
        go_wp2
        go_ret3
        exact ⟨ret_iii (by rw [HT8.out.1, HO.out.1]) (by rw [HT8.out.2.1, HO.out.2.1]; go_num) (by rw [HT8.out.2.2, HO.out.2.2]), rfl⟩
  · have hk4 := width_small hw h8
    have h9 : ((K : Int) == 8) = false := by simpa using (show ¬ (K : Int) = 8 by omega)
    have HC := Lib.hid hc
    clear hc
    go_enter Try.func11, Try.ntmps11
    go_wp2_with (first | (go_at_call 24; (with_reducible refine (rwidth_any _ _).mono ?_); rintro e w' ⟨rfl, rfl⟩) | fail)
    go_loop [9, 10] (fun n i => ∃ k : Nat, k ≤ K ∧ i = .int .i64 k ∧ n = .int .i64 (nval s A k : Int)) (fun _ i => K - (intOf i).toNat)
    case atStart => exact ⟨0, Nat.zero_le _, rfl, by rw [nval_zero]; rfl⟩
    case round =>
      obtain ⟨k, hk, rfl, rfl⟩ := hrel
      by_cases hlk : k < K
      · have hin : A + k < s.size := by omega
        have hst := nval_step s A k hin
        have hmo := nval_mono s A (K - (k + 1)) (k + 1) (by omega)
        rw [show k + 1 + (K - (k + 1)) = K by omega] at hmo
        have hbd : nval s A k * 256 + s[A + k].toNat < 9223372036854775808 := by have := HC.out; omega
        have HN := Lib.hid hst
        clear hst hmo
        go_wp2
        go_round
        case rel => exact ⟨k + 1, by omega, by go_num, by rw [HN.out]; go_num⟩
        case measure => simp [intOf]; omega
      · obtain rfl : K = k := by omega
        go_wp2
        go_ret3
        exact ⟨ret_iii (by rw [HT.out.1, HO.out.1]) (by rw [HT.out.2.1, HO.out.2.1]; go_num) (by rw [HT.out.2.2, HO.out.2.2]), rfl⟩

set_option maxHeartbeats 400000 in
theorem rtn_great (s : ByteArray) (hs : s.size ≤ maxLen) (A K : Nat) (w : World) (hA : A ≤ s.size) (hw : isW (K : Int) = true) (hlt : A + K ≤ s.size) (hc : ¬ nval s A K < 9223372036854775808) :
    Calls Try.prog 11 #[.string s, .int .i64 (A : Int), .int .i64 (K : Int)] w fun e w' => e = .returned (.tuple #[.int .i64 (tnV s A K), .int .i64 (tnTo s A K), .int .i64 (tnE s A K)]) ∧ w = w' := by
  have HT := tn_whole hA hw hlt
  have HO := ok_no (A + K) hc
  unfold maxLen at hs
  have h8 : K = 8 := by
    by_cases h : K = 8
    · exact h
    · have := nval_small hlt (width_small hw h); omega
  subst h8
  have hAs : A < s.size := by omega
  have hby : (127 : Int) < (s[A].toNat : Int) := by have := (nval_eight s A hlt); omega
  have HX : Hid ((0 : Int) = tnV s (A : Int) 8 ∧ (0 : Int) = tnTo s (A : Int) 8 ∧ (2 : Int) = tnE s (A : Int) 8) := Lib.hid ⟨(HT.1.trans HO.1).symm, (HT.2.1.trans HO.2.1).symm, (HT.2.2.trans HO.2.2).symm⟩
  have h0 : ¬ (A : Int) < 0 := by omega
  have h1 : ¬ (s.size : Int) < (A : Int) := by omega
  have hw2 : isW 8 = true := by decide
  have h2' : decide ((s.size : Int) - (A : Int) < 8) = false := by simp only [decide_eq_false_iff_not]; omega
  clear hw HT HO hc
  go_enter Try.func11, Try.ntmps11
  go_wp2_with (first | (go_at_call 24; (with_reducible refine (rwidth_any _ _).mono ?_); rintro e w' ⟨rfl, rfl⟩) | fail)
  go_ret3
  exact ⟨ret_iii HX.out.1 HX.out.2.1 HX.out.2.2, rfl⟩

set_option maxHeartbeats 400000 in
theorem rtn_out (s : ByteArray) (hs : s.size ≤ maxLen) (a k : Int) (w : World) (h : inS s a = false ∨ isW k = false) :
    Calls Try.prog 11 #[.string s, .int .i64 a, .int .i64 k] w fun e w' => e = .returned (.tuple #[.int .i64 (tnV s a k), .int .i64 (tnTo s a k), .int .i64 (tnE s a k)]) ∧ w = w' := by
  have HT := Lib.hid (tn_out h)
  unfold maxLen at hs
  by_cases h0 : a < 0
  · clear h
    go_enter Try.func11, Try.ntmps11
    go_wp2_with (first | (go_at_call 24; (with_reducible refine (rwidth_any _ _).mono ?_); rintro e w' ⟨rfl, rfl⟩) | fail)
    go_ret3
    exact ⟨ret_iii HT.out.1.symm HT.out.2.1.symm HT.out.2.2.symm, rfl⟩
  · by_cases h1 : (s.size : Int) < a
    · clear h
      go_enter Try.func11, Try.ntmps11
      go_wp2_with (first | (go_at_call 24; (with_reducible refine (rwidth_any _ _).mono ?_); rintro e w' ⟨rfl, rfl⟩) | fail)
      go_ret3
      exact ⟨ret_iii HT.out.1.symm HT.out.2.1.symm HT.out.2.2.symm, rfl⟩
    · have hw : isW k = false := by
        rcases h with h | h
        · unfold inS at h; have h := of_decide_eq_false h; omega
        · exact h
      clear h
      go_enter Try.func11, Try.ntmps11
      go_wp2_with (first | (go_at_call 24; (with_reducible refine (rwidth_any _ _).mono ?_); rintro e w' ⟨rfl, rfl⟩) | fail)
      go_ret3
      exact ⟨ret_iii HT.out.1.symm HT.out.2.1.symm HT.out.2.2.symm, rfl⟩

set_option maxHeartbeats 400000 in
theorem rtn_short (s : ByteArray) (hs : s.size ≤ maxLen) (A K : Nat) (w : World) (hA : A ≤ s.size) (hw : isW (K : Int) = true) (hK : K ≤ 8) (hlt : s.size < A + K) :
    Calls Try.prog 11 #[.string s, .int .i64 (A : Int), .int .i64 (K : Int)] w fun e w' => e = .returned (.tuple #[.int .i64 (tnV s A K), .int .i64 (tnTo s A K), .int .i64 (tnE s A K)]) ∧ w = w' := by
  have HT := Lib.hid (tn_short hA hw hlt)
  unfold maxLen at hs
  have h0 : ¬ (A : Int) < 0 := by omega
  have h1 : ¬ (s.size : Int) < (A : Int) := by omega
  have h2 : (s.size : Int) - (A : Int) < (K : Int) := by omega
  go_enter Try.func11, Try.ntmps11
  go_wp2_with (first | (go_at_call 24; (with_reducible refine (rwidth_any _ _).mono ?_); rintro e w' ⟨rfl, rfl⟩) | fail)
  go_ret3
  exact ⟨ret_iii HT.out.1.symm HT.out.2.1.symm HT.out.2.2.symm, rfl⟩

theorem rtakeNumber_any (s : ByteArray) (hs : s.size ≤ maxLen) (a k : Int) (w : World) :
    Calls Try.prog 11 #[.string s, .int .i64 a, .int .i64 k] w fun e w' => e = .returned (.tuple #[.int .i64 (tnV s a k), .int .i64 (tnTo s a k), .int .i64 (tnE s a k)]) ∧ w = w' := by
  by_cases hi : inS s a = true
  · obtain ⟨A, rfl, hA⟩ := inS_nat hi
    by_cases hw : isW k = true
    · obtain ⟨K, rfl, hK, _⟩ := isW_nat hw
      by_cases hlt : A + K ≤ s.size
      · by_cases hc : nval s A K < 9223372036854775808
        · exact rtn_loop s hs A K w hA hw hlt hc
        · exact rtn_great s hs A K w hA hw hlt hc
      · exact rtn_short s hs A K w hA hw hK (by omega)
    · exact rtn_out s hs _ k w (.inr (by simpa using hw))
  · exact rtn_out s hs a k w (.inl (by simpa using hi))

/-- The number of two bytes. -/
theorem rtake_two (s : ByteArray) (hs : s.size ≤ maxLen) (A : Nat) (w : World) (h : A + 2 ≤ s.size) :
    Calls Try.prog 11 #[.string s, .int .i64 (A : Int), .int .i64 2] w fun e w' => e = .returned (.tuple #[.int .i64 ((nval s A 2 : Nat) : Int), .int .i64 ((A + 2 : Nat) : Int), .int .i64 0]) ∧ w = w' := by
  have := rtakeNumber_any s hs (A : Int) ((2 : Nat) : Int) w
  obtain ⟨e1, e2, e3⟩ := tn_whole (show A ≤ s.size by omega) isW_two h
  obtain ⟨f1, f2, f3⟩ := ok_yes (v := nval s A 2) (A + 2) (by have := nval_lt s A 2 h; omega)
  rw [e1, e2, e3, f1, f2, f3] at this
  exact this
theorem rtake_two_short (s : ByteArray) (hs : s.size ≤ maxLen) (A : Nat) (w : World) (hA : A ≤ s.size) (h : s.size < A + 2) :
    Calls Try.prog 11 #[.string s, .int .i64 (A : Int), .int .i64 2] w fun e w' => e = .returned (.tuple #[.int .i64 0, .int .i64 0, .int .i64 30]) ∧ w = w' := by
  have := rtakeNumber_any s hs (A : Int) ((2 : Nat) : Int) w
  obtain ⟨e1, e2, e3⟩ := tn_short hA isW_two h
  rw [e1, e2, e3] at this
  exact this
theorem rtake_two_out (s : ByteArray) (hs : s.size ≤ maxLen) (a : Int) (w : World) (h : inS s a = false) :
    Calls Try.prog 11 #[.string s, .int .i64 a, .int .i64 2] w fun e w' => e = .returned (.tuple #[.int .i64 0, .int .i64 0, .int .i64 2]) ∧ w = w' := by
  have := rtakeNumber_any s hs a ((2 : Nat) : Int) w
  obtain ⟨e1, e2, e3⟩ := tn_out (s := s) (a := a) (k := ((2 : Nat) : Int)) (.inl h)
  rw [e1, e2, e3] at this
  exact this

theorem ttO_none {s : ByteArray} {a : Nat} (h : ttO s a = none) (h2 : a + 2 ≤ s.size) : s.size < a + 2 + nval s a 2 := by
  unfold ttO at h; split at h
  · cases h
  · omega
theorem ttO_parts {s : ByteArray} {a : Nat} {t : ByteArray} {z : Nat} (h : ttO s a = some (t, z)) : a + 2 ≤ s.size ∧ a + 2 + nval s a 2 ≤ s.size ∧ s.extract (a + 2) (a + 2 + nval s a 2) = t ∧ a + 2 + nval s a 2 = z := by
  unfold ttO at h; split at h
  · exact ⟨by omega, by omega, by simpa using h⟩
  · cases h

set_option maxHeartbeats 400000 in
theorem rtakeText_any (s : ByteArray) (hs : s.size ≤ maxLen) (a : Int) (w : World) :
    Calls Try.prog 17 #[.string s, .int .i64 a] w fun e w' => e = .returned (.tuple #[.string (ttS s a), .int .i64 (ttTo s a), .int .i64 (ttE s a)]) ∧ w = w' := by
  by_cases hi : inS s a = true
  · obtain ⟨A, rfl, hA⟩ := inS_nat hi
    cases ht : ttO s A with
    | none =>
      have HT := Lib.hid (tt_none hA ht)
      by_cases h2 : A + 2 ≤ s.size
      · have hx := ttO_none ht h2
        have hz : (s.size : Int) - ((A + 2 : Nat) : Int) < ((nval s A 2 : Nat) : Int) := by omega
        have hb := nval_lt s A 2 h2
        have hb2 : nval s A 2 ≤ 65535 := by omega
        have hsz := hs
        unfold maxLen at hsz
        clear ht hb
        go_enter Try.func17, Try.ntmps17
        go_wp2_with (first | (go_at_call 11; (with_reducible refine (rtake_two s hs A _ h2).mono ?_); rintro e w' ⟨rfl, rfl⟩) | fail)
        go_ret3
        exact ⟨ret_sii HT.out.1.symm HT.out.2.1.symm HT.out.2.2.symm, rfl⟩
      · clear ht
        go_enter Try.func17, Try.ntmps17
        go_wp2_with (first | (go_at_call 11; (with_reducible refine (rtake_two_short s hs A _ hA (Nat.lt_of_not_le h2)).mono ?_); rintro e w' ⟨rfl, rfl⟩) | fail)
        go_ret3
        exact ⟨ret_sii HT.out.1.symm HT.out.2.1.symm HT.out.2.2.symm, rfl⟩
    | some x =>
      obtain ⟨t, z⟩ := x
      have HT := Lib.hid (tt_some hA ht)
      obtain ⟨h2, hx, e1, e2⟩ := ttO_parts ht
      have HE1 := Lib.hid e1
      have HE2 := Lib.hid e2
      have hz : ¬ (s.size : Int) - ((A + 2 : Nat) : Int) < ((nval s A 2 : Nat) : Int) := by omega
      have hb := nval_lt s A 2 h2
      have hb2 : nval s A 2 ≤ 65535 := by omega
      have hsz := hs
      unfold maxLen at hsz
      clear ht hb e1 e2
      go_enter Try.func17, Try.ntmps17
      go_wp2_with (first | (go_at_call 11; (with_reducible refine (rtake_two s hs A _ h2).mono ?_); rintro e w' ⟨rfl, rfl⟩) | fail)
      go_ret3
      exact ⟨ret_sii (by rw [HT.out.1]; exact HE1.out) (by rw [HT.out.2.1]; have := HE2.out; omega) HT.out.2.2.symm, rfl⟩
  · have hi : inS s a = false := by simpa using hi
    have HT := Lib.hid (tt_out hi)
    go_enter Try.func17, Try.ntmps17
    go_wp2_with (first | (go_at_call 11; (with_reducible refine (rtake_two_out s hs a _ hi).mono ?_); rintro e w' ⟨rfl, rfl⟩) | fail)
    go_ret3
    exact ⟨ret_sii HT.out.1.symm HT.out.2.1.symm HT.out.2.2.symm, rfl⟩

end Go.Proofs.Ytamhmbmbcgjbmaa.Pack
