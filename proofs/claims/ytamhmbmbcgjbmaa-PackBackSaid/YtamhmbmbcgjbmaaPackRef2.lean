/-
  The contracts of the document's own answers of layer 3 on texts: Text, Texts, TakeTexts, Same.
-/
import Derived.Test.YtamhmbmbcgjbmaaPackRef
import Derived.Test.YtamhmbmbcgjbmaaTextRows
namespace Go.Proofs.Ytamhmbmbcgjbmaa.Pack
open Go.RowKit
open Base Bld
set_option linter.unusedVariables false

theorem rnumber_two (n : Nat) (h : n ≤ 65535) (w : World) :
    Calls Try.prog 9 #[.int .i64 (n : Int), .int .i64 2] w fun e w' => e = .returned (.tuple #[.string ⟨(numB n 2).toArray⟩, .int .i64 0]) ∧ Below w.heap.size w w' := by
  have := rnumber_any (n : Int) ((2 : Nat) : Int) (by omega) (by omega) w
  obtain ⟨e1, e2⟩ := nu_yes (m := n) isW_two (Nat.lt_of_le_of_lt h (by decide))
  rw [← e1, ← e2] at this
  exact this

theorem tx_eq (s : ByteArray) (h : ¬ 65535 < s.size) : (⟨(numB s.size 2).toArray⟩ : ByteArray) ++ s = txS s ∧ (0 : Int) = txE s := by
  have e : (⟨(numB s.size 2).toArray⟩ : ByteArray) ++ s = ⟨(txB s).toArray⟩ := by
    rw [← Lib.mk_data (_ ++ s)]; simp [ByteArray.data_append, txB]
  unfold txS txE bigB
  rw [e, decide_eq_false h]
  exact ⟨rfl, rfl⟩

set_option maxHeartbeats 400000 in
theorem rtext_any (s : ByteArray) (hs : s.size ≤ maxLen) (w : World) :
    Calls Try.prog 19 #[.string s] w fun e w' => e = .returned (.tuple #[.string (txS s), .int .i64 (txE s)]) ∧ Below w.heap.size w w' := by
  unfold maxLen at hs
  by_cases h : 65535 < s.size
  · have HT : Hid ((⟨#[]⟩ : ByteArray) = txS s ∧ (3 : Int) = txE s) := Lib.hid (by unfold txS txE bigB; rw [decide_eq_true h]; exact ⟨rfl, rfl⟩)
    go_enter Try.func19, Try.ntmps19
    go_wp2_with fail
    go_ret2
    exact ⟨ret_se HT.out.1 HT.out.2, Below.refl _ _⟩
  · have HT := Lib.hid (tx_eq s h)
    have hs' : s.size ≤ 65535 := by omega
    have hsum : (⟨(numB s.size 2).toArray⟩ : ByteArray).size + s.size ≤ 281474976710656 := by rw [size_of_list, numB_length]; omega
    go_enter Try.func19, Try.ntmps19
    go_wp2_with (first
      | (go_at_call 9; (with_reducible refine (rnumber_two s.size hs' _).mono ?_); rintro e w1 ⟨rfl, p1⟩)
      | fail)
    go_ret2
    exact ⟨ret_se HT.out.1 HT.out.2, p1⟩

theorem str_eq (x y : ByteArray) : (x.toList == y.toList) = decide (x = y) := by
  rw [Lib.toList_data, Lib.toList_data, Bool.eq_iff_iff]
  simp only [beq_iff_eq, decide_eq_true_eq]
  constructor
  · intro h; rw [← Lib.mk_data x, h, Lib.mk_data]
  · rintro rfl; rfl

def SameB (a b : List ByteArray) : Bool := decide (a = b)

set_option maxHeartbeats 400000 in
theorem rsame_any (ao bo : Option Addr) (la ca lb cb : Nat) (a b : List ByteArray) (w : World) (hla : a.length = la) (hlb : b.length = lb) (h1 : la ≤ 9223372036854775807) (h2 : lb ≤ 9223372036854775807) (ha : Reads .string w ao a) (hb : Reads .string w bo b) :
    Calls Try.prog 20 #[.slice ao la ca, .slice bo lb cb] w fun e w' => e = .returned (.bool (SameB a b)) ∧ Below w.heap.size w w' := by
  subst hla hlb
  have HA := Lib.hid ha
  have HB := Lib.hid hb
  clear ha hb
  by_cases hl : a.length = b.length
  · go_enter Try.func20, Try.ntmps20
    go_wp2
    go_loopw [5] (fun i wr => ∃ k : Nat, k ≤ a.length ∧ i = .int .i64 k ∧ a.take k = b.take k ∧ Below w.heap.size w wr) (fun i _ => a.length - (intOf i).toNat)
    case atStart => exact ⟨0, Nat.zero_le _, rfl, rfl, Below.refl _ _⟩
    case round =>
      obtain ⟨k, hk, rfl, ht, hb⟩ := hrel
      have HT := Lib.hid ht
      clear ht
      by_cases hlt : k < a.length
      · have hlt2 : k < b.length := by omega
        obtain ⟨b1, o1, rfl, c1⟩ := HA.out.at_ hlt
        obtain ⟨b2, o2, rfl, c2⟩ := HB.out.at_ hlt2
        have d1 := cell_below c1 hb
        have d2 := cell_below c2 hb
        obtain ⟨x, hx⟩ : ∃ x, x = a[k] := ⟨_, rfl⟩
        obtain ⟨y, hy⟩ : ∃ y, y = b[k] := ⟨_, rfl⟩
        rw [← hx] at d1
        rw [← hy] at d2
        have HX := Lib.hid hx
        have HY := Lib.hid hy
        have HBW := Lib.hid hb
        have i1 : (0 : Int) ≤ (k : Int) := by omega
        have i2 : (k : Int) < (a.length : Int) := by omega
        have i3 : (k : Int) < (b.length : Int) := by omega
        clear c1 c2 hx hy hb
        by_cases he : x = y
        · have HE := Lib.hid he
          have hne : (x.toList == y.toList) = true := by rw [str_eq, decide_eq_true he]
          clear he
          have HS : Hid (a.take (k + 1) = b.take (k + 1)) := Lib.hid (by
            rw [List.take_succ_eq_append_getElem hlt, List.take_succ_eq_append_getElem hlt2, HT.out, ← HX.out, ← HY.out, HE.out])
          go_wp2
          go_quiet (fail)
          go_wp2
          refine ⟨⟨k + 1, by omega, by go_num, HS.out, below_drewN HBW.out _⟩, ?_⟩
          simp [intOf]; omega
        · have HE := Lib.hid he
          have hne : (x.toList == y.toList) = false := by rw [str_eq, decide_eq_false he]
          clear he
          have HF : Hid (false = SameB a b) := Lib.hid (by
            unfold SameB; symm; rw [decide_eq_false_iff_not]; intro h
            exact HE.out (by rw [HX.out, HY.out]; simp only [h]))
          go_wp2
          go_quiet (fail)
          go_wp2
          go_ret
          exact ⟨ret_bool HF.out, below_drewN HBW.out _⟩
      · have HF : Hid (true = SameB a b) := Lib.hid (by
          have := HT.out; rw [List.take_of_length_le (by omega), List.take_of_length_le (by omega)] at this; unfold SameB; rw [decide_eq_true this])
        go_wp2
        go_ret
        exact ⟨ret_bool HF.out, hb⟩
  · have hd : ((a.length : Int) != (b.length : Int)) = true := by rw [bne_iff_ne]; omega
    have HF : Hid (false = SameB a b) := Lib.hid (by unfold SameB; symm; rw [decide_eq_false_iff_not]; intro h; exact hl (by rw [h]))
    go_enter Try.func20, Try.ntmps20
    go_wp2
    go_ret
    exact ⟨ret_bool HF.out, Below.refl _ _⟩

theorem rtext_short (s : ByteArray) (hs : s.size ≤ 65535) (w : World) :
    Calls Try.prog 19 #[.string s] w fun e w' => e = .returned (.tuple #[.string ⟨(txB s).toArray⟩, .int .i64 0]) ∧ Below w.heap.size w w' := by
  have := rtext_any s (by unfold maxLen; omega) w
  have e1 : txS s = ⟨(txB s).toArray⟩ := by unfold txS bigB; rw [decide_eq_false (by omega)]; rfl
  have e2 : txE s = 0 := by unfold txE bigB; rw [decide_eq_false (by omega)]; rfl
  rw [e1, e2] at this
  exact this
theorem rtext_long (s : ByteArray) (hs : s.size ≤ maxLen) (h : 65535 < s.size) (w : World) :
    Calls Try.prog 19 #[.string s] w fun e w' => e = .returned (.tuple #[.string ⟨#[]⟩, .int .i64 3]) ∧ Below w.heap.size w w' := by
  have := rtext_any s hs w
  have e1 : txS s = ⟨#[]⟩ := by unfold txS bigB; rw [decide_eq_true h]; rfl
  have e2 : txE s = 3 := by unfold txE bigB; rw [decide_eq_true h]; rfl
  rw [e1, e2] at this
  exact this

set_option maxRecDepth 100000 in
set_option maxHeartbeats 1000000 in
theorem rtexts_any (a : Option Addr) (len cap : Nat) (l : List ByteArray) (w : World) (hlen : l.length = len) (hl : len ≤ 9223372036854775807) (hr : Reads .string w a l) (hz : ∀ s ∈ l, s.size ≤ maxLen) :
    Calls Try.prog 13 #[.slice a len cap] w fun e w' => e = .returned (.tuple #[.string (lsS l), .int .i64 (lsE l)]) ∧ Below w.heap.size w w' := by
  subst hlen
  have HR := Lib.hid hr
  have HZ := Lib.hid hz
  clear hr hz
  by_cases hc : 65535 < l.length
  · have HT := Lib.hid (lst_long (l := l) (by unfold lstBig; rw [decide_eq_true hc]; rfl))
    go_enter Try.func13, Try.ntmps13
    go_wp2
    go_ret2
    exact ⟨ret_se HT.out.1 HT.out.2, Below.refl _ _⟩
  · obtain ⟨i0, hi, hz0, hz1, hz2⟩ := info_parts info_u8
    have HI := Lib.hid hi
    have HZ0 := Lib.hid hz0
    have HZ1 := Lib.hid hz1
    have HZ2 := Lib.hid hz2
    clear hi hz0 hz1 hz2
    have hnl : l.length ≤ 65535 := by omega
    have hsz2 : (⟨(numB l.length 2).toArray⟩ : ByteArray).size ≤ maxLen := by rw [size_of_list, numB_length]; decide
    have HSZ2 := Lib.hid hsz2
    clear hsz2
    go_enter Try.func13, Try.ntmps13
    go_wp2_with (first
      | (go_at_call 9; (with_reducible refine (rnumber_two l.length hnl _).mono ?_); rintro e w1 ⟨rfl, p1⟩; obtain ⟨v, W, hcv, hX, hBW⟩ := Txt.conv (P := Try.prog) w.heap.size w1 p1.size 9 52 5 _ HSZ2.out Try.underlying9 Try.underlying52 Try.underlying5)
      | fail)
    have HX : Hid (Txt w.heap.size 5 v (numB l.length 2) W) := Lib.hid hX
    have HBW := Lib.hid (hBW.from p1)
    clear hcv hX hBW p1
    go_loopw [6, 7] (fun v i wr => ∃ (k : Nat) (Z : List UInt8), k ≤ l.length ∧ i = .int .i64 k ∧ Z = numB l.length 2 ++ catB (l.take k) ∧ Txt w.heap.size 5 v Z wr ∧ Below w.heap.size w wr ∧ anyBig (l.take k) = false) (fun _ i _ => l.length - (intOf i).toNat)
    case atStart => exact ⟨0, _, Nat.zero_le _, rfl, rfl, by simpa [catB] using HX.out, HBW.out, by simp [anyBig]⟩
    case round =>
      obtain ⟨k, Z, hk, rfl, hzz, ho, hb, ha⟩ := hrel
      obtain ⟨g, cp, rfl, hrow⟩ := ho.byteRow
      have HZZ := Lib.hid hzz
      have hzl : Z.length ≤ 140737488355328 - 65537 := by
        have h1 := catN_le (l.take k) ha
        rw [List.length_take] at h1
        rw [hzz, List.length_append, numB_length, catB_length]
        omega
      clear hzz
      have HO := Lib.hid ho
      have HB := Lib.hid hb
      have HA := Lib.hid ha
      have HRW := Lib.hid hrow
      clear ho hb ha hrow
      by_cases hlt : k < l.length
      · obtain ⟨b, off, rfl, hcl⟩ := HR.out.at_ hlt
        have hcell := cell_below hcl HB.out
        have hsz := HZ.out l[k] (List.getElem_mem hlt)
        clear hcl
        by_cases hbig : 65535 < l[k].size
        · have HT := Lib.hid (lst_long (l := l) (by
            unfold lstBig anyBig; rw [Bool.or_eq_true]; right; rw [List.any_eq_true]; exact ⟨l[k], List.getElem_mem hlt, by unfold bigB; simpa using hbig⟩))
          go_wp2_with (first
            | (go_at_call 19; (with_reducible refine (rtext_long _ hsz hbig _).mono ?_); rintro e w3 ⟨rfl, p3⟩)
            | fail)
          go_ret2
          exact ⟨ret_se HT.out.1 HT.out.2, p3.from HB.out⟩
        · have hsm : l[k].size ≤ 65535 := by omega
          have HLN : Hid (Z.length + (⟨(txB l[k]).toArray⟩ : ByteArray).size ≤ 140737488355328) := Lib.hid (by
            rw [size_of_list, txB_length]; omega)
          have HC : Hid (Z ++ txB l[k] = numB l.length 2 ++ catB (l.take (k + 1))) := Lib.hid (by rw [HZZ.out, catB_take_succ l k hlt, List.append_assoc])
          have HA2 : Hid (anyBig (l.take (k + 1)) = false) := Lib.hid (by
            have := HA.out; unfold anyBig at this ⊢; rw [List.take_succ_eq_append_getElem hlt, List.any_append, this]; simp [bigB]; omega)
          go_wp2_with (first
            | (go_at_call 19; (with_reducible refine (rtext_short _ hsm _).mono ?_); rintro e w3 ⟨rfl, p3⟩)
            | (at_builtin; refine wpList_append_onto rfl (.tmp 38) (.tmp 39) 52 9 rfl i0 Try.underlying52 Try.underlying9 HI.out HZ0.out HZ1.out HZ2.out rfl (HO.out.kept p3) _ rfl HLN.out ?_; intro v4 w4 o4 b4)
            | fail)
          refine ⟨⟨k + 1, _, by omega, by go_num, HC.out, o4, (p3.from HB.out).trans b4, HA2.out⟩, ?_⟩
          simp [intOf]; omega
      · have HF : Hid (Z = lsB l) := Lib.hid (by rw [HZZ.out, List.take_of_length_le (by omega)]; rfl)
        have HT := Lib.hid (lst_short (l := l) (by
          have := HA.out; rw [List.take_of_length_le (by omega)] at this; unfold lstBig; rw [this, decide_eq_false hc]; rfl))
        have hcv := run_conv_row (P := Try.prog) HRW.out 52 9 5 Try.underlying52 Try.underlying5 Try.underlying9 Z.length cp rfl
        go_wp2
        go_ret2
        exact ⟨ret_se (by rw [HF.out]; exact HT.out.1) HT.out.2, HB.out⟩

theorem rtt_none (s : ByteArray) (hs : s.size ≤ maxLen) (A : Nat) (hA : A ≤ s.size) (ht : ttO s A = none) (w : World) :
    Calls Try.prog 17 #[.string s, .int .i64 (A : Int)] w fun e w' => e = .returned (.tuple #[.string ⟨#[]⟩, .int .i64 0, .int .i64 30]) ∧ w = w' := by
  have := rtakeText_any s hs (A : Int) w
  obtain ⟨e1, e2, e3⟩ := tt_none hA ht
  rw [e1, e2, e3] at this
  exact this
theorem rtt_some (s : ByteArray) (hs : s.size ≤ maxLen) (A : Nat) (hA : A ≤ s.size) (t : ByteArray) (z : Nat) (ht : ttO s A = some (t, z)) (w : World) :
    Calls Try.prog 17 #[.string s, .int .i64 (A : Int)] w fun e w' => e = .returned (.tuple #[.string t, .int .i64 (z : Int), .int .i64 0]) ∧ w = w' := by
  have := rtakeText_any s hs (A : Int) w
  obtain ⟨e1, e2, e3⟩ := tt_some hA ht
  rw [e1, e2, e3] at this
  exact this

/-- What the document's loop knows: it goes on, or it has come to an error. -/
def Rt (s : ByteArray) (A N : Nat) (l : List ByteArray) (k : Nat) (to er : Int) : Prop :=
  (er = 0 ∧ ∃ z : Nat, to = (z : Int) ∧ z ≤ s.size ∧ gtr s N l k z = tlO s A) ∨ (er = 30 ∧ tlO s A = none)

set_option maxRecDepth 100000 in
set_option maxHeartbeats 1000000 in
theorem rtakeTexts_any (s : ByteArray) (hs : s.size ≤ maxLen) (a : Int) (w : World) :
    Calls Try.prog 15 #[.string s, .int .i64 a] w (Handed w (tlL s a) (tlTo s a) (tlE s a)) := by
  by_cases hi : inS s a = true
  · obtain ⟨A, rfl, hA⟩ := inS_nat hi
    by_cases h2 : A + 2 ≤ s.size
    · obtain ⟨i, hi, hz0, hz1, hz2⟩ := info_parts info_str
      have HI := Lib.hid hi
      have HZ0 := Lib.hid hz0
      have HZ1 := Lib.hid hz1
      have HZ2 := Lib.hid hz2
      clear hi hz0 hz1 hz2
      have HT : Hid (tlO s A = gtx s (nval s A 2) (A + 2)) := Lib.hid (by unfold tlO; rw [if_pos h2])
      have hn := nval_lt s A 2 h2
      have hn2 : nval s A 2 ≤ 65535 := by omega
      clear hn
      go_enter Try.func15, Try.ntmps15
      go_wp2_with (first
        | (go_at_call 11; (with_reducible refine (rtake_two s hs A _ h2).mono ?_); rintro e w' ⟨rfl, rfl⟩)
        | fail)
      obtain ⟨N, HN⟩ : ∃ N, Hid (N = nval s A 2) := ⟨_, Lib.hid rfl⟩
      rw [← HN.out]
      rw [← HN.out] at hn2
      go_loopw [8, 9, 10, 11] (fun to er v i wr => ∃ (k : Nat) (l : List ByteArray) (z r : Int), k ≤ N ∧ i = .int .i64 k ∧ to = .int .i64 z ∧ er = .int .i64 r ∧ l.length = k ∧ Own Value.string w.heap.size 9 v l wr ∧ Below w.heap.size w wr ∧ Rt s A N l k z r) (fun _ _ _ i _ => N - (intOf i).toNat)
      case atStart => exact ⟨0, [], _, _, Nat.zero_le _, rfl, rfl, rfl, rfl, Own.nil (Nat.le_refl _), Below.refl _ _, .inl ⟨rfl, A + 2, by simp, h2, by rw [gtr_zero, HT.out, HN.out]⟩⟩
      case round =>
        obtain ⟨k, l, z, r, hk, rfl, rfl, rfl, hl, hown, hb, hrt⟩ := hrel
        have HL := Lib.hid hl
        have HO := Lib.hid hown
        have HB := Lib.hid hb
        clear hl hown hb
        rcases hrt with ⟨rfl, z, rfl, hz, hg⟩ | ⟨rfl, hg⟩
        · have HG := Lib.hid hg
          clear hg
          by_cases hlt : k < N
          · cases ht : ttO s z with
            | none =>
              have HX := Lib.hid ht
              have HE : Hid (tlO s A = none) := Lib.hid (by rw [← HG.out]; exact gtr_none hlt ht)
              clear ht
              go_wp2_with (first
                | (go_at_call 17; (with_reducible refine (rtt_none s hs z hz HX.out _).mono ?_); rintro e w' ⟨rfl, rfl⟩)
                | (at_builtin; refine wpList_append_src rfl (.tmp 38) (.tmp 40) 33 rfl i _ 16 Try.underlying33 HI.out HZ0.out HZ1.out HZ2.out rfl (fun _ => rfl) rfl (HO.out.alloc _) _ 1 1 [(⟨#[]⟩ : ByteArray)] rfl rfl (reads_one rfl _ _) (by intro h; cases h) (by have := HL.out; omega) (by have := HL.out; unfold maxLen; omega) ?_; intro v4 w4 o4 b4)
                | fail)
              refine ⟨⟨k + 1, _, _, _, by omega, by go_num, rfl, rfl, by simp [HL.out], o4, (HB.out.alloc (by exact HO.out.2) _).trans b4, .inr ⟨rfl, HE.out⟩⟩, ?_⟩
              simp [intOf]; omega
            | some x =>
              obtain ⟨t, z'⟩ := x
              have HX := Lib.hid ht
              have HG2 : Hid (gtr s N (l ++ [t]) (k + 1) z' = tlO s A) := Lib.hid (by rw [← HG.out, gtr_some hlt ht])
              have hz' : z' ≤ s.size := (ttO_some ht).2.1
              clear ht
              go_wp2_with (first
                | (go_at_call 17; (with_reducible refine (rtt_some s hs z hz t z' HX.out _).mono ?_); rintro e w' ⟨rfl, rfl⟩)
                | (at_builtin; refine wpList_append_src rfl (.tmp 38) (.tmp 40) 33 rfl i _ 16 Try.underlying33 HI.out HZ0.out HZ1.out HZ2.out rfl (fun _ => rfl) rfl (HO.out.alloc _) _ 1 1 [t] rfl rfl (reads_one rfl _ _) (by intro h; cases h) (by have := HL.out; omega) (by have := HL.out; unfold maxLen; omega) ?_; intro v4 w4 o4 b4)
                | fail)
              refine ⟨⟨k + 1, _, _, _, by omega, by go_num, rfl, rfl, by simp [HL.out], o4, (HB.out.alloc (by exact HO.out.2) _).trans b4, .inl ⟨rfl, z', rfl, hz', HG2.out⟩⟩, ?_⟩
              simp [intOf]; omega
          · obtain rfl : k = N := by omega
            have HE : Hid (tlL s (A : Int) = l ∧ tlTo s (A : Int) = (z : Int) ∧ tlE s (A : Int) = 0) := Lib.hid (tl_some hA (by rw [← HG.out]; exact gtr_end))
            go_wp2
            go_ret3
            exact ⟨_, ret_vii HE.out.2.1.symm HE.out.2.2.symm, by rw [HE.out.1]; exact HO.out, HB.out⟩
        · have HE := Lib.hid (tl_none hA hg)
          clear hg
          by_cases hlt : k < N
          · go_wp2
            go_ret3
            exact ⟨_, ret_vii HE.out.2.1.symm HE.out.2.2.symm, by rw [HE.out.1]; exact Own.nil HB.out.size, HB.out⟩
          · go_wp2
            go_ret3
            exact ⟨_, ret_vii HE.out.2.1.symm HE.out.2.2.symm, by rw [HE.out.1]; exact Own.nil HB.out.size, HB.out⟩
    · have HE := Lib.hid (tl_none hA (by unfold tlO; rw [if_neg h2]))
      go_enter Try.func15, Try.ntmps15
      go_wp2_with (first
        | (go_at_call 11; (with_reducible refine (rtake_two_short s hs A _ hA (Nat.lt_of_not_le h2)).mono ?_); rintro e w' ⟨rfl, rfl⟩)
        | fail)
      go_loop [8, 9, 10, 11] (fun to er v i => to = .int .i64 0 ∧ er = .int .i64 30 ∧ v = .slice none 0 0 ∧ i = .int .i64 0) (fun _ _ _ _ => 0)
      case atStart => exact ⟨rfl, rfl, rfl, rfl⟩
      case round =>
        obtain ⟨rfl, rfl, rfl, rfl⟩ := hrel
        go_wp2
        go_ret3
        exact ⟨_, ret_vii HE.out.2.1.symm HE.out.2.2.symm, by rw [HE.out.1]; exact Own.nil (Nat.le_refl _), Below.refl _ _⟩
  · have hi : inS s a = false := by simpa using hi
    have HE := Lib.hid (tl_out hi)
    go_enter Try.func15, Try.ntmps15
    go_wp2_with (first
      | (go_at_call 11; (with_reducible refine (rtake_two_out s hs a _ hi).mono ?_); rintro e w' ⟨rfl, rfl⟩)
      | fail)
    go_loop [8, 9, 10, 11] (fun to er v i => to = .int .i64 0 ∧ er = .int .i64 2 ∧ v = .slice none 0 0 ∧ i = .int .i64 0) (fun _ _ _ _ => 0)
    case atStart => exact ⟨rfl, rfl, rfl, rfl⟩
    case round =>
      obtain ⟨rfl, rfl, rfl, rfl⟩ := hrel
      go_wp2
      go_ret3
      exact ⟨_, ret_vii HE.out.2.1.symm HE.out.2.2.symm, by rw [HE.out.1]; exact Own.nil (Nat.le_refl _), Below.refl _ _⟩

end Go.Proofs.Ytamhmbmbcgjbmaa.Pack
