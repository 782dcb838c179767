/-
  The contracts of package pack on texts: text, TakeText, TakeTexts, Texts.
-/
import Derived.Test.YtamhmbmbcgjbmaaPackTake
import Derived.Test.YtamhmbmbcgjbmaaOwnRows
namespace Go.Proofs.Ytamhmbmbcgjbmaa.Pack
open Go.RowKit
open Base Bld
set_option linter.unusedVariables false

theorem clone_any (s : ByteArray) (w : World) (h : s.size ≤ 281474976710656) :
    Calls Try.prog 35 #[.string s] w fun e w' => e = .returned (.string s) ∧ Below w.heap.size w w' := by
  go_enter Try.func35, Try.ntmps35
  go_wp2_with (go_at_call 38; (with_reducible refine (clone_at s _ h).mono ?_); rintro e w1 ⟨rfl, p1⟩)
  go_ret
  exact ⟨rfl, p1⟩

theorem isW_two : isW ((2 : Nat) : Int) = true := by decide

theorem taken_two (w wr : World) (B : Nat) (s : ByteArray) (hs : s.size ≤ maxLen) (a : Nat) (h : Tk w wr B s a) (hlt : a + 2 ≤ s.size) :
    Calls Try.prog 26 #[.func (.func 31) #[] #[.pointer (some ⟨B, 0, none⟩), .pointer (some ⟨B + 1, 0, none⟩)], .int .i64 2] wr
      fun e w' => e = .returned (.tuple #[.int .i64 ((nval s a 2 : Nat) : Int), .int .i64 ((a + 2 : Nat) : Int), .int .i64 0]) ∧ Tk w w' B s (a + 2) ∧ wr.grownBy w' (some (B + 1)) := by
  have hl := nval_lt s a 2 hlt
  obtain ⟨e1, e2, e3⟩ := ok_yes (v := nval s a 2) (a + 2) (by omega)
  have := taken_whole w wr B s hs a h 2 (by omega) hlt
  rw [e1, e2, e3] at this
  exact this

theorem two_short (w wr : World) (B : Nat) (s : ByteArray) (hs : s.size ≤ maxLen) (a : Nat) (h : Tk w wr B s a) (hlt : s.size < a + 2) :
    Calls Try.prog 26 #[.func (.func 31) #[] #[.pointer (some ⟨B, 0, none⟩), .pointer (some ⟨B + 1, 0, none⟩)], .int .i64 2] wr fun e w' => e = .returned (.tuple #[.int .i64 0, .int .i64 0, .int .i64 30]) ∧ Tk w w' B s a ∧ wr.grownBy w' (some (B + 1)) :=
  taken_short w wr B s hs a h 2 (by omega) hlt

set_option maxHeartbeats 400000 in
theorem text_none (w wr : World) (B : Nat) (s : ByteArray) (hs : s.size ≤ maxLen) (a : Nat) (h : Tk w wr B s a) (ht : ttO s a = none) :
    Calls Try.prog 29 #[.func (.func 31) #[] #[.pointer (some ⟨B, 0, none⟩), .pointer (some ⟨B + 1, 0, none⟩)]] wr fun e w' => e = .returned (.tuple #[.string ⟨#[]⟩, .int .i64 0, .int .i64 30]) ∧ Below w.heap.size w w' := by
  have HT := Lib.hid ht
  clear ht
  by_cases h2 : a + 2 ≤ s.size
  · have HX : Hid (s.size < a + 2 + nval s a 2) := Lib.hid (by
      have := HT.out; unfold ttO at this; split at this
      · cases this
      · omega)
    have HN : Hid (nval s a 2 ≤ 65535) := Lib.hid (by have := nval_lt s a 2 h2; omega)
    go_enter Try.func29, Try.ntmps29
    go_wp2_with (first
      | (go_at_call 26; (with_reducible refine (taken_two w _ B s hs a h h2).mono ?_); rintro e w1 ⟨rfl, p1, g1⟩)
      | (go_at_call 31; (with_reducible refine (take_no w _ B s hs _ p1 _ HN.out HX.out).mono ?_); rintro e w2 ⟨rfl, p2, g2⟩)
      | (go_at_call 35; (with_reducible refine (clone_any _ _ (by decide)).mono ?_); rintro e w3 ⟨rfl, p3⟩)
      | fail)
    go_ret3
    exact ⟨rfl, p3.from p2.2.2.2.2.2⟩
  · go_enter Try.func29, Try.ntmps29
    go_wp2_with (first
      | (go_at_call 26; (with_reducible refine (two_short w _ B s hs a h (Nat.lt_of_not_le h2)).mono ?_); rintro e w1 ⟨rfl, p1, g1⟩)
      | fail)
    go_ret3
    exact ⟨rfl, p1.2.2.2.2.2⟩

theorem ret_sii {a b : ByteArray} {c d e f : Int} (h : a = b) (h' : c = d) (h'' : e = f) : Ending.returned (.tuple #[.string a, .int .i64 c, .int .i64 e]) = .returned (.tuple #[.string b, .int .i64 d, .int .i64 f]) := by rw [h, h', h'']

set_option maxHeartbeats 400000 in
theorem text_some (w wr : World) (B : Nat) (s : ByteArray) (hs : s.size ≤ maxLen) (a : Nat) (h : Tk w wr B s a) (t : ByteArray) (z : Nat) (ht : ttO s a = some (t, z)) :
    Calls Try.prog 29 #[.func (.func 31) #[] #[.pointer (some ⟨B, 0, none⟩), .pointer (some ⟨B + 1, 0, none⟩)]] wr fun e w' => e = .returned (.tuple #[.string t, .int .i64 (z : Int), .int .i64 0]) ∧ Tk w w' B s z ∧ wr.grownBy w' (some (B + 1)) := by
  have HT := Lib.hid ht
  have h2 : a + 2 ≤ s.size := by
    unfold ttO at ht; split at ht
    · omega
    · cases ht
  have HX : Hid (a + 2 + nval s a 2 ≤ s.size) := Lib.hid (by
    unfold ttO at ht; split at ht
    · omega
    · cases ht)
  have HN : Hid (nval s a 2 ≤ 65535) := Lib.hid (by have := nval_lt s a 2 h2; omega)
  have HE : Hid (s.extract (a + 2) (a + 2 + nval s a 2) = t ∧ a + 2 + nval s a 2 = z) := Lib.hid (by
    unfold ttO at ht; split at ht
    · simpa using ht
    · cases ht)
  have HC : Hid ((s.extract (a + 2) (a + 2 + nval s a 2)).size ≤ 281474976710656) := Lib.hid (by
    rw [ext_size s _ _ HX.out]; have := HN.out; omega)
  clear ht
  go_enter Try.func29, Try.ntmps29
  go_wp2_with (first
    | (go_at_call 26; (with_reducible refine (taken_two w _ B s hs a h h2).mono ?_); rintro e w1 ⟨rfl, p1, g1⟩)
    | (go_at_call 31; (with_reducible refine (take_yes w _ B s hs _ p1 _ HN.out HX.out).mono ?_); rintro e w2 ⟨rfl, p2, g2⟩)
    | (go_at_call 35; (with_reducible refine (clone_any _ _ HC.out).mono ?_); rintro e w3 ⟨rfl, p3⟩)
    | fail)
  go_ret3
  exact ⟨ret_sii HE.out.1 (by have := HE.out.2; omega) rfl, by have := p2.below p3; rw [HE.out.2] at this; exact this, grown_trans (grown_trans g1 g2) (grown_of_below p3 _)⟩

theorem tt_out {s : ByteArray} {a : Int} (h : inS s a = false) : ttS s a = ⟨#[]⟩ ∧ ttTo s a = 0 ∧ ttE s a = 2 := by unfold ttS ttTo ttE; simp [h]
theorem inS_of {s : ByteArray} {a : Nat} (h : a ≤ s.size) : inS s (a : Int) = true := by unfold inS; simp; omega
theorem tt_none {s : ByteArray} {a : Nat} (h : a ≤ s.size) (ht : ttO s a = none) : ttS s (a : Int) = ⟨#[]⟩ ∧ ttTo s (a : Int) = 0 ∧ ttE s (a : Int) = 30 := by
  unfold ttS ttTo ttE; simp [inS_of h, ht]
theorem tt_some {s : ByteArray} {a : Nat} {t : ByteArray} {z : Nat} (h : a ≤ s.size) (ht : ttO s a = some (t, z)) : ttS s (a : Int) = t ∧ ttTo s (a : Int) = (z : Int) ∧ ttE s (a : Int) = 0 := by
  unfold ttS ttTo ttE; simp [inS_of h, ht]

set_option maxHeartbeats 400000 in
theorem takeText_any (s : ByteArray) (hs : s.size ≤ maxLen) (a : Int) (w : World) :
    Calls Try.prog 16 #[.string s, .int .i64 a] w fun e w' => e = .returned (.tuple #[.string (ttS s a), .int .i64 (ttTo s a), .int .i64 (ttE s a)]) ∧ Below w.heap.size w w' := by
  by_cases hi : inS s a = true
  · obtain ⟨A, rfl, hA⟩ := inS_nat hi
    cases ht : ttO s A with
    | none =>
      have HT := Lib.hid (tt_none hA ht)
      have HO := Lib.hid ht
      clear ht
      go_enter Try.func16, Try.ntmps16
      go_wp2_with (first
        | (go_at_call 25; (with_reducible refine (from_yes s hs A _ hA).mono ?_); rintro e w1 ⟨rfl, p1⟩)
        | (go_at_call 29; (with_reducible refine (text_none w _ _ s hs A p1 HO.out).mono ?_); rintro e w2 ⟨rfl, p2⟩)
        | fail)
      go_ret3
      exact ⟨ret_sii HT.out.1.symm HT.out.2.1.symm HT.out.2.2.symm, p2⟩
    | some x =>
      obtain ⟨t, z⟩ := x
      have HT := Lib.hid (tt_some hA ht)
      have HO := Lib.hid ht
      clear ht
      go_enter Try.func16, Try.ntmps16
      go_wp2_with (first
        | (go_at_call 25; (with_reducible refine (from_yes s hs A _ hA).mono ?_); rintro e w1 ⟨rfl, p1⟩)
        | (go_at_call 29; (with_reducible refine (text_some w _ _ s hs A p1 t z HO.out).mono ?_); rintro e w2 ⟨rfl, p2⟩)
        | fail)
      go_ret3
      exact ⟨ret_sii HT.out.1.symm HT.out.2.1.symm HT.out.2.2.symm, p2.1.2.2.2.2.2⟩
  · have hi : inS s a = false := by simpa using hi
    have HT := Lib.hid (tt_out hi)
    go_enter Try.func16, Try.ntmps16
    go_wp2_with (first
      | (go_at_call 25; (with_reducible refine (from_no s hs a _ hi).mono ?_); rintro e w1 ⟨rfl, p1⟩)
      | fail)
    go_ret3
    exact ⟨ret_sii HT.out.1.symm HT.out.2.1.symm HT.out.2.2.symm, p1⟩

theorem ret_vii {v : Value} {c d e f : Int} (h' : c = d) (h'' : e = f) : Ending.returned (.tuple #[v, .int .i64 c, .int .i64 e]) = .returned (.tuple #[v, .int .i64 d, .int .i64 f]) := by rw [h', h'']

theorem info_str : (Try.prog.info? 9).map (fun i => (i.zero, i.size, i.bytes)) = some (some (.string ⟨#[]⟩), 1, 16) := by kernel_rfl

theorem tl_out {s : ByteArray} {a : Int} (h : inS s a = false) : tlL s a = [] ∧ tlTo s a = 0 ∧ tlE s a = 2 := by unfold tlL tlTo tlE; simp [h]
theorem tl_none {s : ByteArray} {a : Nat} (h : a ≤ s.size) (ht : tlO s a = none) : tlL s (a : Int) = [] ∧ tlTo s (a : Int) = 0 ∧ tlE s (a : Int) = 30 := by
  unfold tlL tlTo tlE; simp [inS_of h, ht]
theorem tl_some {s : ByteArray} {a : Nat} {l : List ByteArray} {z : Nat} (h : a ≤ s.size) (ht : tlO s a = some (l, z)) : tlL s (a : Int) = l ∧ tlTo s (a : Int) = (z : Int) ∧ tlE s (a : Int) = 0 := by
  unfold tlL tlTo tlE; simp [inS_of h, ht]

/-- What TakeTexts hands out: a list of the call's own. -/
def Handed (w : World) (l : List ByteArray) (to er : Int) (e : Ending) (w' : World) : Prop :=
  ∃ v, e = .returned (.tuple #[v, .int .i64 to, .int .i64 er]) ∧ Own Value.string w.heap.size 9 v l w' ∧ Below w.heap.size w w'

/-- What has been found, and what is to come. -/
def gtr (s : ByteArray) (n : Nat) (l : List ByteArray) (k a : Nat) : Option (List ByteArray × Nat) :=
  match gtx s (n - k) a with
  | none => none
  | some (m, z) => some (l ++ m, z)

theorem gtr_zero (s : ByteArray) (n a : Nat) : gtr s n [] 0 a = gtx s n a := by
  unfold gtr; rw [Nat.sub_zero]; cases gtx s n a <;> rfl

theorem gtr_none {s : ByteArray} {n : Nat} {l : List ByteArray} {k a : Nat} (h : k < n) (ht : ttO s a = none) : gtr s n l k a = none := by
  unfold gtr; rw [show n - k = (n - (k + 1)) + 1 by omega, gtx, ht]

theorem gtr_some {s : ByteArray} {n : Nat} {l : List ByteArray} {k a : Nat} (h : k < n) {t : ByteArray} {z : Nat} (ht : ttO s a = some (t, z)) : gtr s n l k a = gtr s n (l ++ [t]) (k + 1) z := by
  unfold gtr; rw [show n - k = (n - (k + 1)) + 1 by omega, gtx, ht]
  simp only
  cases gtx s (n - (k + 1)) z with
  | none => rfl
  | some x => simp

theorem gtr_end {s : ByteArray} {n : Nat} {l : List ByteArray} {a : Nat} : gtr s n l n a = some (l, a) := by
  unfold gtr; rw [Nat.sub_self, gtx]; simp

theorem Tk.over {w wr w' : World} {B B1 : Nat} {s : ByteArray} {a : Nat} (h : Tk w wr B s a) (hb : Below B1 wr w') (hB1 : B + 1 < B1) : Tk w w' B s a := by
  obtain ⟨h1, h2, h3, h4, hB, h5⟩ := h
  exact ⟨(hb.cell (p := ⟨B, 0, none⟩) (by show B < B1; omega)).trans h1, (hb.cell (p := ⟨B + 1, 0, none⟩) hB1).trans h2, (hb.frozen (p := ⟨B + 1, 0, none⟩) hB1).trans h3, h4, hB, h5.trans (hb.mono (by omega))⟩

set_option maxRecDepth 100000 in
set_option maxHeartbeats 1000000 in
theorem takeTexts_any (s : ByteArray) (hs : s.size ≤ maxLen) (a : Int) (w : World) :
    Calls Try.prog 14 #[.string s, .int .i64 a] w (Handed w (tlL s a) (tlTo s a) (tlE s a)) := by
  by_cases hi : inS s a = true
  · obtain ⟨A, rfl, hA⟩ := inS_nat hi
    by_cases h2 : A + 2 ≤ s.size
    · obtain ⟨i, hi, hz0, hz1, hz2⟩ := info_parts info_str
      have HI := Lib.hid hi
      have HZ0 := Lib.hid hz0
      have HZ1 := Lib.hid hz1
      have HZ2 := Lib.hid hz2
      clear hi hz0 hz1 hz2
      have HT : Hid (tlO s A = gtx s (nval s A 2) (A + 2)) := Lib.hid (by unfold tlO; rw [if_pos h2])
      have hn := nval_lt s A 2 h2
      have hn2 : nval s A 2 ≤ 65535 := by omega
      clear hn
      go_enter Try.func14, Try.ntmps14
      go_wp2_with (first
        | (go_at_call 25; (with_reducible refine (from_yes s hs A _ hA).mono ?_); rintro e w1 ⟨rfl, p1⟩)
        | (go_at_call 26; (with_reducible refine (taken_two w _ _ s hs A p1 h2).mono ?_); rintro e w2 ⟨rfl, p2, g2⟩)
        | fail)
      obtain ⟨N, HN⟩ : ∃ N, Hid (N = nval s A 2) := ⟨_, Lib.hid rfl⟩
      rw [← HN.out]
      rw [← HN.out] at hn2
      have hsz : w.heap.size + 1 < w2.heap.size := lt_of_cell p2.2.1
      have P2 := Lib.hid p2
      clear p1 p2 g2
      go_loopw [10, 11, 32] (fun to v i wr => ∃ (k : Nat) (l : List ByteArray) (z : Nat), k ≤ N ∧ i = .int .i64 k ∧ to = .int .i64 (z : Int) ∧ l.length = k ∧ Own Value.string (w.heap.size + 2) 9 v l wr ∧ Tk w wr w.heap.size s z ∧ gtr s N l k z = tlO s A) (fun _ _ i _ => N - (intOf i).toNat)
      case atStart => exact ⟨0, [], A + 2, Nat.zero_le _, rfl, rfl, rfl, Own.nil (by omega), P2.out, by rw [gtr_zero, HT.out, HN.out]⟩
      case round =>
        obtain ⟨k, l, z, hk, rfl, rfl, hl, hown, htk, hg⟩ := hrel
        have HL := Lib.hid hl
        have HG := Lib.hid hg
        have HO := Lib.hid hown
        have HTK := Lib.hid htk
        clear hl hg hown htk
        by_cases hlt : k < N
        · cases ht : ttO s z with
          | none =>
            have HX := Lib.hid ht
            have HE : Hid (tlL s (A : Int) = [] ∧ tlTo s (A : Int) = 0 ∧ tlE s (A : Int) = 30) := Lib.hid (tl_none hA (by rw [← HG.out]; exact gtr_none hlt ht))
            clear ht
            go_wp2_with (first
              | (go_at_call 29; (with_reducible refine (text_none w _ _ s hs _ HTK.out HX.out).mono ?_); rintro e w3 ⟨rfl, p3⟩)
              | fail)
            go_ret3
            exact ⟨_, ret_vii HE.out.2.1.symm HE.out.2.2.symm, by rw [HE.out.1]; exact Own.nil p3.size, p3⟩
          | some x =>
            obtain ⟨t, z'⟩ := x
            have HX := Lib.hid ht
            have HG2 : Hid (gtr s N (l ++ [t]) (k + 1) z' = tlO s A) := Lib.hid (by rw [← HG.out, gtr_some hlt ht])
            clear ht
            go_wp2_with (first
              | (go_at_call 29; (with_reducible refine (text_some w _ _ s hs _ HTK.out t z' HX.out).mono ?_); rintro e w3 ⟨rfl, p3, g3⟩; have o3 := HO.out.kept g3 (fun k hk => by injection hk; omega))
              | (at_builtin; refine wpList_append_src rfl (.tmp 43) (.tmp 45) 33 rfl i _ 16 Try.underlying33 HI.out HZ0.out HZ1.out HZ2.out rfl (fun _ => rfl) rfl (o3.alloc _) _ 1 1 [t] rfl rfl (reads_one rfl _ _) (by intro h; cases h) (by have := HL.out; omega) (by have := HL.out; unfold maxLen; omega) ?_; intro v4 w4 o4 b4)
              | fail)
            go_roundw
            case rel => exact ⟨k + 1, l ++ [t], z', by omega, by go_num, rfl, by simp [HL.out], o4, (p3.below (below_one _)).over b4 (by omega), HG2.out⟩
            case measure => simp [intOf]; omega
        · obtain rfl : k = N := by omega
          have HE : Hid (tlL s (A : Int) = l ∧ tlTo s (A : Int) = (z : Int) ∧ tlE s (A : Int) = 0) := Lib.hid (tl_some hA (by rw [← HG.out]; exact gtr_end))
          go_wp2
          go_ret3
          exact ⟨_, ret_vii HE.out.2.1.symm HE.out.2.2.symm, by rw [HE.out.1]; exact HO.out.weaken (by omega), HTK.out.2.2.2.2.2⟩
    · have HT := Lib.hid (tl_none hA (by unfold tlO; rw [if_neg h2]))
      go_enter Try.func14, Try.ntmps14
      go_wp2_with (first
        | (go_at_call 25; (with_reducible refine (from_yes s hs A _ hA).mono ?_); rintro e w1 ⟨rfl, p1⟩)
        | (go_at_call 26; (with_reducible refine (two_short w _ _ s hs A p1 (Nat.lt_of_not_le h2)).mono ?_); rintro e w2 ⟨rfl, p2, g2⟩)
        | fail)
      go_ret3
      exact ⟨_, ret_vii HT.out.2.1.symm HT.out.2.2.symm, by rw [HT.out.1]; exact Own.nil p2.2.2.2.2.2.size, p2.2.2.2.2.2⟩
  · have hi : inS s a = false := by simpa using hi
    have HT := Lib.hid (tl_out hi)
    go_enter Try.func14, Try.ntmps14
    go_wp2_with (first
      | (go_at_call 25; (with_reducible refine (from_no s hs a _ hi).mono ?_); rintro e w1 ⟨rfl, p1⟩)
      | fail)
    go_ret3
    exact ⟨_, ret_vii HT.out.2.1.symm HT.out.2.2.symm, by rw [HT.out.1]; exact Own.nil p1.size, p1⟩

theorem lst_long {l : List ByteArray} (h : lstBig l = true) : (⟨#[]⟩ : ByteArray) = lsS l ∧ (3 : Int) = lsE l := by unfold lsS lsE; rw [h]; exact ⟨rfl, rfl⟩
theorem lst_short {l : List ByteArray} (h : lstBig l = false) : (⟨(lsB l).toArray⟩ : ByteArray) = lsS l ∧ (0 : Int) = lsE l := by unfold lsS lsE; rw [h]; exact ⟨rfl, rfl⟩

set_option maxRecDepth 100000 in
set_option maxHeartbeats 1000000 in
theorem texts_any (a : Option Addr) (len cap : Nat) (l : List ByteArray) (w : World) (hlen : l.length = len) (hl : len ≤ 9223372036854775807) (hr : Reads .string w a l) (hz : ∀ s ∈ l, s.size ≤ maxLen) :
    Calls Try.prog 12 #[.slice a len cap] w fun e w' => e = .returned (.tuple #[.string (lsS l), .int .i64 (lsE l)]) ∧ Below w.heap.size w w' := by
  subst hlen
  have HR := Lib.hid hr
  have HZ := Lib.hid hz
  clear hr hz
  by_cases hc : 65535 < l.length
  · have HT := Lib.hid (lst_long (l := l) (by unfold lstBig; rw [decide_eq_true hc]; rfl))
    go_enter Try.func12, Try.ntmps12
    go_wp2
    go_ret2
    exact ⟨ret_se HT.out.1 HT.out.2, Below.refl _ _⟩
  · go_enter Try.func12, Try.ntmps12
    go_wp2
    go_loop [4, 15] (fun z i => ∃ k : Nat, k ≤ l.length ∧ i = .int .i64 k ∧ z = .int .i64 ((2 + catN (l.take k) : Nat) : Int) ∧ anyBig (l.take k) = false) (fun _ i => l.length - (intOf i).toNat)
    case atStart => exact ⟨0, Nat.zero_le _, rfl, by simp [catN], by simp [anyBig]⟩
    case round =>
      obtain ⟨k, hk, rfl, rfl, hb⟩ := hrel
      have HB := Lib.hid hb
      have hcn : catN (l.take k) ≤ 65537 * k := by
        have := catN_le _ hb; rw [List.length_take] at this; omega
      clear hb
      by_cases hlt : k < l.length
      · obtain ⟨b, off, rfl, hcell⟩ := HR.out.at_ hlt
        have hsz := HZ.out l[k] (List.getElem_mem hlt)
        unfold maxLen at hsz
        by_cases hbig : 65535 < l[k].size
        · have HT := Lib.hid (lst_long (l := l) (by
            unfold lstBig anyBig; rw [Bool.or_eq_true]; right; rw [List.any_eq_true]; exact ⟨l[k], List.getElem_mem hlt, by unfold bigB; simpa using hbig⟩))
          go_wp2
          go_ret2
          exact ⟨ret_se HT.out.1 HT.out.2, Below.refl _ _⟩
        · have HN : Hid (2 + catN (l.take (k + 1)) = 2 + catN (l.take k) + (2 + l[k].size) ∧ anyBig (l.take (k + 1)) = false) := Lib.hid ⟨by rw [catN_take_succ l k hlt]; omega, by
            have := HB.out; unfold anyBig at this ⊢; rw [List.take_succ_eq_append_getElem hlt, List.any_append, this]; simp [bigB]; omega⟩
          go_wp2
          go_round
          case rel => exact ⟨k + 1, by omega, by go_num, by rw [HN.out.1]; go_num, HN.out.2⟩
          case measure => simp [intOf]; omega
      · obtain rfl : k = l.length := by omega
        have HS : Hid (lstBig l = false) := Lib.hid (by
          have := HB.out; rw [List.take_length] at this; unfold lstBig; rw [this, decide_eq_false hc]; rfl)
        have HT := Lib.hid (lst_short HS.out)
        rw [List.take_length] at hcn
        have hG : 2 + catN l ≤ 281474976710656 := by omega
        have HE : Hid ((2 : Int) + ((catN l : Nat) : Int) = ((2 + catN l : Nat) : Int)) := Lib.hid (by omega)
        have HA : Hid (anyBig l = false) := Lib.hid (by have := HB.out; rw [List.take_length] at this; exact this)
        have hnl : l.length ≤ 65535 := by omega
        go_wp2_with (first
          | (go_at_call 27; (with_reducible refine (grow_int w w (Below.refl _ _) _ rfl _ _ HE.out hG).mono ?_); rintro e w1 ⟨rfl, p1⟩)
          | (go_at_call 22; (with_reducible refine (layNumber_int w _ _ _ [] _ 2 l.length 2 rfl (by decide) p1 (by decide) (by decide) hl).mono ?_); rintro e w2 ⟨rfl, p2⟩)
          | fail)
        have P2 := Lib.hid p2
        clear p1 p2
        go_loopw [35] (fun i wr => ∃ k : Nat, k ≤ l.length ∧ i = .int .i64 k ∧ Bld w w.heap.size w.heap.size (numB l.length 2 ++ catB (l.take k)) wr) (fun i _ => l.length - (intOf i).toNat)
        case atStart => exact ⟨0, Nat.zero_le _, rfl, by simpa [catB] using P2.out⟩
        case round =>
          obtain ⟨k, hk, rfl, hb⟩ := hrel
          have HB2 := Lib.hid hb
          clear hb
          by_cases hlt : k < l.length
          · obtain ⟨b, off, rfl, hc⟩ := HR.out.at_ hlt
            have hcell := cell_below hc HB2.out.2.1
            have hsz := HZ.out l[k] (List.getElem_mem hlt)
            have HSZ : Hid (l[k].size ≤ 65535) := Lib.hid (by
              have := HA.out; unfold anyBig at this; rw [List.any_eq_false] at this
              have := this l[k] (List.getElem_mem hlt); unfold bigB at this; simp at this; omega)
            have HLN : Hid ((numB l.length 2 ++ catB (l.take k)).length + 2 + l[k].size < 140737488355328) := Lib.hid (by
              have h1 := catN_le (l.take k) (by have := HA.out; unfold anyBig at this ⊢; rw [List.any_eq_false] at this ⊢; exact fun x hx => this x (List.mem_of_mem_take hx))
              rw [List.length_take] at h1
              rw [List.length_append, numB_length, catB_length]
              have := HSZ.out
              omega)
            have HC := Lib.hid (catB_take_succ l k hlt)
            clear hc
            go_wp2_with (first
              | (go_at_call 28; (with_reducible refine (layText_at w _ _ _ _ _ HB2.out HLN.out HSZ.out).mono ?_); rintro e w3 ⟨rfl, p3⟩)
              | fail)
            go_roundw
            case rel => exact ⟨k + 1, by omega, by go_num, by rw [HC.out, ← List.append_assoc]; exact p3⟩
            case measure => simp [intOf]; omega
          · have HF : Hid (numB l.length 2 ++ catB (l.take k) = lsB l) := Lib.hid (by rw [List.take_of_length_le (by omega)]; rfl)
            go_wp2_with (first
              | (go_at_call 23; (with_reducible refine (string_at w _ _ _ _ HB2.out).mono ?_); rintro e w3 ⟨rfl, p3⟩)
              | fail)
            go_ret2
            exact ⟨ret_se (by rw [HF.out]; exact HT.out.1) HT.out.2, p3⟩

end Go.Proofs.Ytamhmbmbcgjbmaa.Pack
