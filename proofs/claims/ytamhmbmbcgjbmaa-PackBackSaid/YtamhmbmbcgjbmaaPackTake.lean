/-
  The contracts of package pack that take: from and what it makes, number, text, TakeNumber, TakeText.
-/
import Derived.Test.YtamhmbmbcgjbmaaPackLay
import Derived.Test.YtamhmbmbcgjbmaaOwnRows
import Derived.Deep.QuietTactic
import Derived.BigQuiet
import Derived.Laws.Bits64b
namespace Go.Proofs.Ytamhmbmbcgjbmaa.Pack
open Go.RowKit
open Base Bld
set_option linter.unusedVariables false

/-- What the taker has captured: a text, and a place in it, in two blocks of the call's own. -/
def Tk (w wr : World) (B : Nat) (s : ByteArray) (a : Nat) : Prop :=
  wr.cell? ⟨B, 0, none⟩ = some (.string s) ∧ wr.cell? ⟨B + 1, 0, none⟩ = some (.int .i64 (a : Int)) ∧ wr.frozen? ⟨B + 1, 0, none⟩ = false ∧ a ≤ s.size ∧ w.heap.size ≤ B ∧ Below w.heap.size w wr

set_option maxHeartbeats 400000 in
theorem from_no (s : ByteArray) (hs : s.size ≤ maxLen) (a : Int) (w : World) (h : inS s a = false) :
    Calls Try.prog 25 #[.string s, .int .i64 a] w fun e w' => e = .returned (.tuple #[.nilFunc, .int .i64 2]) ∧ Below w.heap.size w w' := by
  unfold maxLen at hs
  by_cases h0 : a < 0
  · clear h
    go_enter Try.func25, Try.ntmps25
    go_wp2
    go_ret2
    exact ⟨rfl, below_two _ _⟩
  · have h1 : (s.size : Int) < a := by unfold inS at h; simp at h; omega
    clear h
    go_enter Try.func25, Try.ntmps25
    go_wp2
    go_ret2
    exact ⟨rfl, below_two _ _⟩

theorem Tk.new (s : ByteArray) (a : Nat) (h : a ≤ s.size) (w : World) (t t' : TypeId) : Tk w ((w.alloc (.cells #[.string s] t)).alloc (.cells #[.int .i64 (a : Int)] t')) w.heap.size s a := by
  refine ⟨?_, ?_, ?_, h, Nat.le_refl _, below_two _ _⟩
  all_goals go_simp

set_option maxHeartbeats 400000 in
theorem from_yes (s : ByteArray) (hs : s.size ≤ maxLen) (a : Nat) (w : World) (h : a ≤ s.size) :
    Calls Try.prog 25 #[.string s, .int .i64 (a : Int)] w fun e w' => e = .returned (.tuple #[.func (.func 31) #[] #[.pointer (some ⟨w.heap.size, 0, none⟩), .pointer (some ⟨w.heap.size + 1, 0, none⟩)], .int .i64 0]) ∧ Tk w w' w.heap.size s a := by
  unfold maxLen at hs
  go_enter Try.func25, Try.ntmps25
  go_wp2
  go_ret2
  exact ⟨rfl, Tk.new s a h w _ _⟩

set_option maxHeartbeats 400000 in
theorem take_no (w wr : World) (B : Nat) (s : ByteArray) (hs : s.size ≤ maxLen) (a : Nat) (h : Tk w wr B s a) (n : Nat) (hn : n ≤ 65535) (hlt : s.size < a + n) :
    Calls Try.prog 31 #[.int .i64 (n : Int), .pointer (some ⟨B, 0, none⟩), .pointer (some ⟨B + 1, 0, none⟩)] wr fun e w' => e = .returned (.tuple #[.string ⟨#[]⟩, .int .i64 0, .int .i64 30]) ∧ Tk w w' B s a ∧ wr.grownBy w' (some (B + 1)) := by
  unfold maxLen at hs
  have H := Lib.hid h
  obtain ⟨c1, c2, f2, ha, hB, hb⟩ := h
  have h1 : (s.size : Int) - (a : Int) < (n : Int) := by omega
  clear hb
  go_enter Try.func31, Try.ntmps31
  go_wp2
  go_ret3
  exact ⟨rfl, H.out, grown_refl _ _⟩

theorem Tk.move {w wr : World} {B : Nat} {s : ByteArray} {a : Nat} (h : Tk w wr B s a) (z : Nat) (hz : z ≤ s.size) : Tk w (wr.setCell ⟨B + 1, 0, none⟩ (.int .i64 (z : Int))) B s z := by
  obtain ⟨h1, h2, h3, h4, hB, h5⟩ := h
  exact ⟨(World.cell?_setCell_other _ _ _ _ (by simp)).trans h1, World.cell?_setCell_same _ _ _ h2, by simpa using h3, hz, hB, h5.setCell (p := ⟨B + 1, 0, none⟩) (by show w.heap.size ≤ B + 1; omega) _⟩
theorem Tk.drewN {w wr : World} {B : Nat} {s : ByteArray} {a : Nat} (h : Tk w wr B s a) (n : Nat) : Tk w (wr.drewN n) B s a := by
  obtain ⟨h1, h2, h3, h4, hB, h5⟩ := h
  exact ⟨h1, h2, h3, h4, hB, below_drewN h5 n⟩
theorem Tk.below {w wr w' : World} {B : Nat} {s : ByteArray} {a : Nat} (h : Tk w wr B s a) (hb : Below wr.heap.size wr w') : Tk w w' B s a := by
  obtain ⟨h1, h2, h3, h4, hB, h5⟩ := h
  exact ⟨cell_below h1 hb, cell_below h2 hb, frozen_below h2 h3 hb, h4, hB, hb.from h5⟩

set_option maxHeartbeats 400000 in
theorem take_yes (w wr : World) (B : Nat) (s : ByteArray) (hs : s.size ≤ maxLen) (a : Nat) (h : Tk w wr B s a) (n : Nat) (hn : n ≤ 65535) (hlt : a + n ≤ s.size) :
    Calls Try.prog 31 #[.int .i64 (n : Int), .pointer (some ⟨B, 0, none⟩), .pointer (some ⟨B + 1, 0, none⟩)] wr
      fun e w' => e = .returned (.tuple #[.string (s.extract a (a + n)), .int .i64 ((a + n : Nat) : Int), .int .i64 0]) ∧ Tk w w' B s (a + n) ∧ wr.grownBy w' (some (B + 1)) := by
  unfold maxLen at hs
  have H := Lib.hid h
  obtain ⟨c1, c2, f2, ha, hB, hb⟩ := h
  have h1 : ¬ (s.size : Int) - (a : Int) < (n : Int) := by omega
  clear hb
  go_enter Try.func31, Try.ntmps31
  go_wp2
  go_quiet (fail)
  go_wp2
  go_ret3
  exact ⟨rfl, (H.out.move (a + n) hlt).drewN _, grown_drewN (grown_set _ _ _) _⟩


set_option maxHeartbeats 400000 in
theorem taken_short (w wr : World) (B : Nat) (s : ByteArray) (hs : s.size ≤ maxLen) (a : Nat) (h : Tk w wr B s a) (K : Nat) (hK : K ≤ 8) (hlt : s.size < a + K) :
    Calls Try.prog 26 #[.func (.func 31) #[] #[.pointer (some ⟨B, 0, none⟩), .pointer (some ⟨B + 1, 0, none⟩)], .int .i64 (K : Int)] wr fun e w' => e = .returned (.tuple #[.int .i64 0, .int .i64 0, .int .i64 30]) ∧ Tk w w' B s a ∧ wr.grownBy w' (some (B + 1)) := by
  go_enter Try.func26, Try.ntmps26
  go_wp2_with (first
    | (go_at_call 31; (with_reducible refine (take_no w _ B s hs a h K (Nat.le_trans hK (by decide)) hlt).mono ?_); rintro e w1 ⟨rfl, p1⟩)
    | fail)
  go_ret3
  exact ⟨rfl, p1⟩

theorem ext_at (s : ByteArray) (a K k : Nat) (h : a + K ≤ s.size) (hk : k < K) : (s.extract a (a + K))[k]'(by rw [ext_size s a K h]; exact hk) = s[a + k] := by
  rw [ByteArray.getElem_extract]

theorem or_step (n : Nat) (x : UInt8) (h : n < 72057594037927936) : bits BinOp.or IntKind.u64 (IntKind.u64.wrap ((n : Int) * 256)) (IntKind.u64.wrap (x.toNat : Int)) = ((n * 256 + x.toNat : Nat) : Int) := by
  have hx := byte_lt x
  have e1 : IntKind.u64.wrap ((n : Int) * 256) = ((n * 256 : Nat) : Int) := by rw [IntWalk.u64_in _ (by omega)]; simp
  have e2 : IntKind.u64.wrap (x.toNat : Int) = (x.toNat : Int) := IntWalk.u64_in _ (by omega)
  rw [e1, e2, bits_or_u64_nat _ _ (by omega) (by omega)]
  congr 1
  have := Nat.two_pow_add_eq_or_of_lt (i := 8) (b := x.toNat) (by simpa using hx) n
  rw [Nat.mul_comm, show (256 : Nat) = 2 ^ 8 by decide]
  exact this.symm

theorem pow_small {k : Nat} (h : k ≤ 7) : (256 : Nat) ^ k ≤ 72057594037927936 := by
  have : (256 : Nat) ^ k ≤ 256 ^ 7 := Nat.pow_le_pow_right (by omega) h
  have e : (256 : Nat) ^ 7 = 72057594037927936 := by decide
  omega

/-- A number that was taken, its place, its error: unless it is too great. -/
def okV (v : Nat) : Int := if v < 9223372036854775808 then (v : Int) else 0
def okT (v z : Nat) : Int := if v < 9223372036854775808 then (z : Int) else 0
def okE (v : Nat) : Int := if v < 9223372036854775808 then 0 else 2
theorem ok_yes {v : Nat} (z : Nat) (h : v < 9223372036854775808) : okV v = (v : Int) ∧ okT v z = (z : Int) ∧ okE v = 0 := by unfold okV okT okE; simp [h]
theorem ok_no {v : Nat} (z : Nat) (h : ¬ v < 9223372036854775808) : okV v = 0 ∧ okT v z = 0 ∧ okE v = 2 := by unfold okV okT okE; simp [h]
theorem ret_iii {a b c d e f : Int} (h : a = b) (h' : c = d) (h'' : e = f) : Ending.returned (.tuple #[.int .i64 a, .int .i64 c, .int .i64 e]) = .returned (.tuple #[.int .i64 b, .int .i64 d, .int .i64 f]) := by rw [h, h', h'']

set_option maxHeartbeats 800000 in
theorem taken_whole (w wr : World) (B : Nat) (s : ByteArray) (hs : s.size ≤ maxLen) (a : Nat) (h : Tk w wr B s a) (K : Nat) (hK : K ≤ 8) (hlt : a + K ≤ s.size) :
    Calls Try.prog 26 #[.func (.func 31) #[] #[.pointer (some ⟨B, 0, none⟩), .pointer (some ⟨B + 1, 0, none⟩)], .int .i64 (K : Int)] wr
      fun e w' => e = .returned (.tuple #[.int .i64 (okV (nval s a K)), .int .i64 (okT (nval s a K) (a + K)), .int .i64 (okE (nval s a K))]) ∧ Tk w w' B s (a + K) ∧ wr.grownBy w' (some (B + 1)) := by
  go_enter Try.func26, Try.ntmps26
  go_wp2_with (first
    | (go_at_call 31; (with_reducible refine (take_yes w _ B s hs a h K (Nat.le_trans hK (by decide)) hlt).mono ?_); rintro e w1 ⟨rfl, p1⟩)
    | fail)
  obtain ⟨S, HS⟩ : ∃ S, Hid (S = s.extract a (a + K)) := ⟨_, Lib.hid rfl⟩
  have hsz : S.size = K := by rw [HS.out, ext_size s a K hlt]
  rw [← HS.out]
  subst hsz
  have HB : Hid (∀ k (h : k < S.size), (S[k].toNat : Int) = (s[a + k].toNat : Int)) := Lib.hid (fun k h => by
    have := ext_at s a S.size k hlt h
    simp only [← HS.out] at this
    rw [this])
  clear HS h
  go_loop [10, 24] (fun n i => ∃ k : Nat, k ≤ S.size ∧ i = .int .i64 k ∧ n = .int .u64 (nval s a k)) (fun _ i => S.size - (intOf i).toNat)
  case atStart => exact ⟨0, Nat.zero_le _, rfl, by rw [nval_zero]; rfl⟩
  case round =>
    obtain ⟨k, hk, rfl, rfl⟩ := hrel
    by_cases hlt2 : k < S.size
    · have HN : Hid (bits BinOp.or IntKind.u64 (IntKind.u64.wrap ((nval s a k : Int) * 256)) (IntKind.u64.wrap (S[k].toNat : Int)) = ((nval s a (k + 1) : Nat) : Int)) := Lib.hid (by
        have h1 := nval_lt s a k (by omega)
        have h2 := pow_small (k := k) (by omega)
        rw [HB.out k hlt2, or_step _ _ (by omega), nval_step s a k (by omega)])
      clear HB
      go_wp2
      refine ⟨⟨k + 1, by omega, by go_num, by rw [HN.out]⟩, ?_⟩
      simp [intOf]; omega
    · obtain rfl : k = S.size := by omega
      clear HB
      have hv := nval_lt s a S.size hlt
      by_cases hc : nval s a S.size < 9223372036854775808
      · have HO := Lib.hid (ok_yes (a + S.size) hc)
        go_wp2
        go_ret3
        exact ⟨ret_iii HO.out.1.symm HO.out.2.1.symm HO.out.2.2.symm, p1⟩
      · have HO := Lib.hid (ok_no (a + S.size) hc)
        go_wp2
        go_ret3
        exact ⟨ret_iii HO.out.1.symm HO.out.2.1.symm HO.out.2.2.symm, p1⟩

/-- What TakeNumber answers, in these words. -/
theorem tn_out {s : ByteArray} {a k : Int} (h : inS s a = false ∨ isW k = false) : tnV s a k = 0 ∧ tnTo s a k = 0 ∧ tnE s a k = 2 := by
  have : tnE s a k = 2 := by unfold tnE; rcases h with h | h <;> simp [h]
  unfold tnV tnTo; rw [this]; exact ⟨rfl, rfl, rfl⟩
theorem tn_short {s : ByteArray} {a K : Nat} (ha : a ≤ s.size) (hw : isW (K : Int) = true) (h : s.size < a + K) : tnV s a K = 0 ∧ tnTo s a K = 0 ∧ tnE s a K = 30 := by
  have hi : inS s (a : Int) = true := by unfold inS; simp; omega
  have : tnE s (a : Int) (K : Int) = 30 := by unfold tnE; simp [hi, hw]; omega
  unfold tnV tnTo; rw [this]; exact ⟨rfl, rfl, rfl⟩
theorem tn_whole {s : ByteArray} {a K : Nat} (ha : a ≤ s.size) (hw : isW (K : Int) = true) (h : a + K ≤ s.size) : tnV s a K = okV (nval s a K) ∧ tnTo s a K = okT (nval s a K) (a + K) ∧ tnE s a K = okE (nval s a K) := by
  have hi : inS s (a : Int) = true := by unfold inS; simp; omega
  have e : tnE s (a : Int) (K : Int) = okE (nval s a K) := by unfold tnE okE; simp [hi, hw, h]
  refine ⟨?_, ?_, e⟩
  · unfold tnV; rw [e]; unfold okE okV; split <;> simp
  · unfold tnTo; rw [e]; unfold okE okT; split <;> simp

theorem inS_nat {s : ByteArray} {a : Int} (h : inS s a = true) : ∃ n : Nat, a = (n : Int) ∧ n ≤ s.size := by
  unfold inS at h
  have h := of_decide_eq_true h
  exact ⟨a.toNat, by omega, by omega⟩

set_option maxHeartbeats 800000 in
theorem takeNumber_any (s : ByteArray) (hs : s.size ≤ maxLen) (a k : Int) (w : World) :
    Calls Try.prog 10 #[.string s, .int .i64 a, .int .i64 k] w fun e w' => e = .returned (.tuple #[.int .i64 (tnV s a k), .int .i64 (tnTo s a k), .int .i64 (tnE s a k)]) ∧ Below w.heap.size w w' := by
  by_cases hi : inS s a = true
  · obtain ⟨A, rfl, hA⟩ := inS_nat hi
    by_cases hw : isW k = true
    · obtain ⟨K, rfl, hK, _⟩ := isW_nat hw
      by_cases hlt : A + K ≤ s.size
      · have HT := Lib.hid (tn_whole hA hw hlt)
        go_enter Try.func10, Try.ntmps10
        go_wp2_with (first
          | (go_at_call 25; (with_reducible refine (from_yes s hs A _ hA).mono ?_); rintro e w1 ⟨rfl, p1⟩)
          | (go_at_call 21; (with_reducible refine (isWidth_any _ _).mono ?_); rintro e w' ⟨rfl, rfl⟩)
          | (go_at_call 26; (with_reducible refine (taken_whole w _ _ s hs A p1 K hK hlt).mono ?_); rintro e w2 ⟨rfl, p2⟩)
          | fail)
        go_ret3
        exact ⟨ret_iii HT.out.1.symm HT.out.2.1.symm HT.out.2.2.symm, p2.1.2.2.2.2.2⟩
      · have HT := Lib.hid (tn_short hA hw (by omega))
        go_enter Try.func10, Try.ntmps10
        go_wp2_with (first
          | (go_at_call 25; (with_reducible refine (from_yes s hs A _ hA).mono ?_); rintro e w1 ⟨rfl, p1⟩)
          | (go_at_call 21; (with_reducible refine (isWidth_any _ _).mono ?_); rintro e w' ⟨rfl, rfl⟩)
          | (go_at_call 26; (with_reducible refine (taken_short w _ _ s hs A p1 K hK (Nat.lt_of_not_le hlt)).mono ?_); rintro e w2 ⟨rfl, p2⟩)
          | fail)
        go_ret3
        exact ⟨ret_iii HT.out.1.symm HT.out.2.1.symm HT.out.2.2.symm, p2.1.2.2.2.2.2⟩
    · have hw : isW k = false := by simpa using hw
      have HT := Lib.hid (tn_out (s := s) (a := (A : Int)) (.inr hw))
      go_enter Try.func10, Try.ntmps10
      go_wp2_with (first
        | (go_at_call 25; (with_reducible refine (from_yes s hs A _ hA).mono ?_); rintro e w1 ⟨rfl, p1⟩)
        | (go_at_call 21; (with_reducible refine (isWidth_any _ _).mono ?_); rintro e w' ⟨rfl, rfl⟩)
        | fail)
      go_ret3
      exact ⟨ret_iii HT.out.1.symm HT.out.2.1.symm HT.out.2.2.symm, p1.2.2.2.2.2⟩
  · have hi : inS s a = false := by simpa using hi
    have HT := Lib.hid (tn_out (s := s) (a := a) (k := k) (.inl hi))
    go_enter Try.func10, Try.ntmps10
    go_wp2_with (first
      | (go_at_call 25; (with_reducible refine (from_no s hs a _ hi).mono ?_); rintro e w1 ⟨rfl, p1⟩)
      | fail)
    go_ret3
    exact ⟨ret_iii HT.out.1.symm HT.out.2.1.symm HT.out.2.2.symm, p1⟩

end Go.Proofs.Ytamhmbmbcgjbmaa.Pack
