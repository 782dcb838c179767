/-
  The contracts of package sums.
-/
import Derived.Test.YtmcohgpgkeejpaaRows
import Derived.Test.YtmcohgpgkeejpaaSumsMath
import Derived.Test.YtmcohgpgkeejpaaBase
namespace Go.Proofs.Ytmcohgpgkeejpaa.Sums
open Go.RowKit
open Base
set_option linter.unusedVariables false

theorem ret_two {k : IntKind} {a b c d : Int} (h : a = b) (h' : c = d) : Ending.returned (.agg #[.int k a, .int k c]) = .returned (.agg #[.int k b, .int k d]) := by rw [h, h']

set_option maxHeartbeats 400000 in
theorem parted_any (n : Int) (h0 : 0 ≤ n) (h1 : n ≤ 4294967295) (w : World) :
    Calls Try.prog 17 #[.int .u32 n] w fun e w' => e = .returned (.agg #[.int .u32 (low n), .int .u32 (high n)]) ∧ Below w.heap.size w w' := by
  go_enter Try.func17, Try.ntmps17
  go_wp2
  exact bodyPost_ret (v := .agg #[.int .u32 (low n), .int .u32 (high n)]) (by simp [results, Try.results17, go_sem, low, high]) rfl ⟨rfl, (Below.refl _ _).alloc (Nat.le_refl _) _⟩

set_option maxHeartbeats 400000 in
theorem whole_any (a b : Int) (h : 0 ≤ a) (h1 : a < 65521) (h2 : 0 ≤ b) (h3 : b < 65521) (w : World) :
    Calls Try.prog 16 #[.agg #[.int .u32 a, .int .u32 b]] w fun e w' => e = .returned (.int .u32 (val a b)) ∧ Below w.heap.size w w' := by
  go_enter Try.func16, Try.ntmps16
  go_wp2
  go_ret
  exact ⟨ret_int rfl, (Below.refl _ _).alloc (Nat.le_refl _) _⟩

/-- The two cells of a pair in a block of the call's own, a second block beside it, and nothing old changed. -/
def St (w wr : World) (B : Nat) (x y : Int) : Prop :=
  wr.cell? ⟨B, 0, none⟩ = some (.int .u32 x) ∧ wr.cell? ⟨B, 1, none⟩ = some (.int .u32 y) ∧ wr.frozen? ⟨B, 0, none⟩ = false ∧ wr.frozen? ⟨B, 1, none⟩ = false ∧
  wr.cell? ⟨B + 1, 0, none⟩ = some (.int .u32 0) ∧ wr.cell? ⟨B + 1, 1, none⟩ = some (.int .u32 0) ∧ wr.frozen? ⟨B + 1, 0, none⟩ = false ∧ wr.frozen? ⟨B + 1, 1, none⟩ = false ∧ Below B w wr

theorem St.low {w wr : World} {B : Nat} {x y : Int} (h : St w wr B x y) (z : Int) : St w (wr.setCell ⟨B, 0, none⟩ (.int .u32 z)) B z y := by
  obtain ⟨h1, h2, h3, h4, h5, h6, h7, h8, h9⟩ := h
  exact ⟨World.cell?_setCell_same _ _ _ h1, (World.cell?_setCell_other _ _ _ _ (by simp)).trans h2, by simpa using h3, by simpa using h4,
    (World.cell?_setCell_other _ _ _ _ (by simp)).trans h5, (World.cell?_setCell_other _ _ _ _ (by simp)).trans h6, by simpa using h7, by simpa using h8, h9.setCell (Nat.le_refl _) _⟩
theorem St.high {w wr : World} {B : Nat} {x y : Int} (h : St w wr B x y) (z : Int) : St w (wr.setCell ⟨B, 1, none⟩ (.int .u32 z)) B x z := by
  obtain ⟨h1, h2, h3, h4, h5, h6, h7, h8, h9⟩ := h
  exact ⟨(World.cell?_setCell_other _ _ _ _ (by simp)).trans h1, World.cell?_setCell_same _ _ _ h2, by simpa using h3, by simpa using h4,
    (World.cell?_setCell_other _ _ _ _ (by simp)).trans h5, (World.cell?_setCell_other _ _ _ _ (by simp)).trans h6, by simpa using h7, by simpa using h8, h9.setCell (Nat.le_refl _) _⟩
theorem St.drew {w wr : World} {B : Nat} {x y : Int} (h : St w wr B x y) : St w wr.drew B x y := by
  obtain ⟨h1, h2, h3, h4, h5, h6, h7, h8, h9⟩ := h
  exact ⟨h1, h2, h3, h4, h5, h6, h7, h8, h9.drew⟩

/-- How many bytes the text in a slot has. -/
def strLen : Value → Nat | .string t => t.size | _ => 0

theorem byte_at (s : ByteArray) (k : Nat) (h : k < s.size) : s.data.toList[k]'(by rw [← Lib.size_eq]; exact h) = s[k] := rfl

set_option maxRecDepth 100000 in
set_option maxHeartbeats 1000000 in
theorem goOn_any (a b : Int) (h0 : 0 ≤ a) (h1 : a < 65521) (h2 : 0 ≤ b) (h3 : b < 65521) (s : ByteArray) (hs : s.size ≤ maxLen) (w : World) :
    Calls Try.prog 15 #[.agg #[.int .u32 a, .int .u32 b], .string s] w
      fun e w' => e = .returned (.agg #[.int .u32 (lo a s.data.toList), .int .u32 (hi a b s.data.toList)]) ∧ Below w.heap.size w w' := by
  unfold maxLen at hs
  go_enter Try.func15, Try.ntmps15
  go_wp2
  obtain ⟨B, HB⟩ : ∃ B, Hid (B = w.heap.size) := ⟨_, Lib.hid rfl⟩
  go_loopw [1] (fun v wr => ∃ (p : List UInt8) (t : ByteArray), v = .string t ∧ s.data.toList = p ++ t.data.toList ∧ St w wr w.heap.size (lo a p) (hi a b p)) (fun v _ => strLen v)
  case atStart =>
    refine ⟨[], s, rfl, rfl, ?_⟩
    rw [lo_nil a h0 h1, hi_nil a b h2 h3]
    refine ⟨?_, ?_, ?_, ?_, ?_, ?_, ?_, ?_, below_two _ _⟩
    all_goals go_simp
  case round =>
    obtain ⟨p, t, rfl, hst, hSt⟩ := hrel
    have HT := Lib.hid hst
    clear hst
    have hlen : t.size ≤ s.size := by rw [Lib.size_eq, Lib.size_eq, HT.out]; simp
    have hlo := lo_bd a p
    have hhi := hi_bd a b p
    obtain ⟨c1, c2, f1, f2, d1, d2, g1, g2, bel⟩ := id hSt
    by_cases hpos : 0 < t.size
    · clear hSt
      go_wp2
      all_goals
        obtain ⟨M, q1, q2, q3, q4⟩ : ∃ M : Nat, M ≤ t.size ∧ M ≤ 5552 ∧ 0 < M ∧ (t.size ≤ M ∨ 5552 ≤ M) := by
          by_cases hc : t.size ≤ 5552
          · exact ⟨t.size, by omega, by omega, by omega, by omega⟩
          · exact ⟨5552, by omega, by omega, by omega, by omega⟩
        go_loopw [14] (fun i wi => ∃ k : Nat, i = .int .i64 k ∧ k ≤ M ∧ St w wi w.heap.size (rl (lo a p) (t.data.toList.take k)) (rh (lo a p) (hi a b p) (t.data.toList.take k))) (fun i _ => M - (intOf i).toNat)
        case atStart => exact ⟨0, rfl, by omega, by simpa [rl, rh, S, T] using ⟨c1, c2, f1, f2, d1, d2, g1, g2, bel⟩⟩
        case round =>
          clear c1 c2 f1 f2 d1 d2 g1 g2 bel
          obtain ⟨k, rfl, hk, hSi⟩ := hrel
          obtain ⟨c1, c2, f1, f2, d1, d2, g1, g2, bel⟩ := id hSi
          have hle := Lib.size_eq t
          have hbl := rl_le (lo a p) (t.data.toList.take k) hlo.1 hlo.2 (by rw [List.length_take]; omega)
          have hbh := rh_le (lo a p) (hi a b p) (t.data.toList.take k) hlo.1 hlo.2 hhi.1 hhi.2 (by rw [List.length_take]; omega)
          clear hle
          by_cases hlt : k < M
          · have hkt : k < t.size := by omega
            have hby := byte_bd t[k]
            have e1 := rl_take_succ (lo a p) t.data.toList k (by rw [← Lib.size_eq]; exact hkt)
            have e2 := rh_take_succ (lo a p) (hi a b p) t.data.toList k (by rw [← Lib.size_eq]; exact hkt)
            have hbh' := rh_le (lo a p) (hi a b p) (t.data.toList.take (k + 1)) hlo.1 hlo.2 hhi.1 hhi.2 (by rw [List.length_take]; omega)
            rw [byte_at t k hkt] at e1
            rw [e1] at e2
            rw [e2] at hbh'
            have E1 := Lib.hid e1
            have E2 := Lib.hid e2
            clear e1 e2
            go_wp2
            go_region
            go_wp2
            go_roundw
            case rel => exact ⟨k + 1, by go_num, by omega, by rw [E1.out, E2.out]; exact ((hSi.low _).high _).drew⟩
            case measure => simp [intOf]; omega
          · have HE : Hid (M = k) := Lib.hid (by omega)
            have hdr : ∀ u : ByteArray, u.data.toList = t.data.toList.drop k → s.data.toList = (p ++ t.data.toList.take k) ++ u.data.toList := fun u hu => by rw [hu, HT.out, List.append_assoc, List.take_append_drop]
            have HD := Lib.hid hdr
            have hS2 := (hSi.low (rl (lo a p) (t.data.toList.take k) % 65521)).high (rh (lo a p) (hi a b p) (t.data.toList.take k) % 65521)
            have e3 : rl (lo a p) (t.data.toList.take k) % 65521 = lo a (p ++ t.data.toList.take k) := by rw [← lo_lo]; rfl
            have e4 : rh (lo a p) (hi a b p) (t.data.toList.take k) % 65521 = hi a b (p ++ t.data.toList.take k) := by rw [← hi_hi]; rfl
            have E3 := Lib.hid e3
            have E4 := Lib.hid e4
            have HS2 := Lib.hid hS2
            clear hdr hS2 e3 e4
            go_wp2
            first
              | (have h5 : ¬ k < t.size := by assumption
                 refine ⟨⟨p ++ t.data.toList.take k, ByteArray.empty, rfl, HD.out _ (by rw [List.drop_of_length_le (by rw [← Lib.size_eq]; omega)]; rfl), by rw [← E3.out, ← E4.out]; exact HS2.out⟩, ?_⟩
                 simp [strLen]; omega)
              | (have h5 : (5552 : Int) ≤ (k : Int) := by assumption
                 have h6 : 5552 = k := by have := HE.out; omega
                 refine ⟨⟨p ++ t.data.toList.take k, t.extract 5552 t.size, rfl, HD.out _ (by rw [Lib.extract_data, h6, List.take_of_length_le (by rw [List.length_drop, ← Lib.size_eq]; omega)]), by rw [← E3.out, ← E4.out]; exact HS2.out⟩, ?_⟩
                 simp [strLen]; omega)
    · have hemp : t.data.toList = [] := List.eq_nil_of_length_eq_zero (by rw [← Lib.size_eq]; omega)
      have HP : Hid (p = s.data.toList) := Lib.hid (by rw [HT.out, hemp, List.append_nil])
      clear hemp hSt
      have k1 := World.cell?_setCell_same _ _ (.int .u32 (lo a p)) d1
      have k2 := (World.cell?_setCell_other wr ⟨w.heap.size + 1, 0, none⟩ ⟨w.heap.size + 1, 1, none⟩ (.int .u32 (lo a p)) (by simp)).trans d2
      have k3 := World.cell?_setCell_same _ _ (.int .u32 (hi a b p)) k2
      have k4 := (World.cell?_setCell_other (wr.setCell ⟨w.heap.size + 1, 0, none⟩ (.int .u32 (lo a p))) ⟨w.heap.size + 1, 1, none⟩ ⟨w.heap.size + 1, 0, none⟩ (.int .u32 (hi a b p)) (by simp)).trans k1
      go_wp2
      exact bodyPost_ret (v := .agg #[.int .u32 (lo a p), .int .u32 (hi a b p)]) (by simp [results, Try.results15, go_sem, k3, k4]) rfl
        ⟨ret_two (by rw [HP.out]) (by rw [HP.out]), (bel.setCell (by simp) _).setCell (by simp) _⟩

set_option maxRecDepth 100000 in
set_option maxHeartbeats 400000 in
theorem more_any (n : Int) (h0 : 0 ≤ n) (h1 : n ≤ 4294967295) (s : ByteArray) (hs : s.size ≤ maxLen) (w : World) :
    Calls Try.prog 11 #[.int .u32 n, .string s] w fun e w' => e = .returned (.int .u32 (more n s.data.toList)) ∧ Below w.heap.size w w' := by
  have g1 := low_bd n
  have g2 := high_bd n
  have g3 := lo_bd (low n) s.data.toList
  have g4 := hi_bd (low n) (high n) s.data.toList
  go_enter Try.func11, Try.ntmps11
  go_wp2_with (first
    | (go_at_call 17; (with_reducible refine (parted_any _ h0 h1 _).mono ?_); rintro e w1 ⟨rfl, b1⟩)
    | (go_at_call 15; (with_reducible refine (goOn_any _ _ g1.1 g1.2 g2.1 g2.2 _ hs _).mono ?_); rintro e w2 ⟨rfl, b2⟩)
    | (go_at_call 16; (with_reducible refine (whole_any _ _ g3.1 g3.2 g4.1 g4.2 _).mono ?_); rintro e w3 ⟨rfl, b3⟩))
  go_ret
  exact ⟨rfl, b3.from (b2.from b1)⟩

/-- The bytes of texts, one text behind the other. -/
def cat : List ByteArray → List UInt8
  | [] => []
  | s :: l => s.data.toList ++ cat l

theorem cat_append : ∀ a b, cat (a ++ b) = cat a ++ cat b
  | [], b => rfl
  | s :: l, b => by simp [cat, cat_append l b]
theorem cat_take_succ (l : List ByteArray) (k : Nat) (h : k < l.length) : cat (l.take (k + 1)) = cat (l.take k) ++ l[k].data.toList := by
  rw [List.take_succ_eq_append_getElem h, cat_append]; simp [cat]

/-- The two cells of a pair in a block of the call's own, and nothing old changed. -/
def Sp (w wr : World) (B : Nat) (x y : Int) : Prop :=
  wr.cell? ⟨B, 0, none⟩ = some (.int .u32 x) ∧ wr.cell? ⟨B, 1, none⟩ = some (.int .u32 y) ∧ wr.frozen? ⟨B, 0, none⟩ = false ∧ wr.frozen? ⟨B, 1, none⟩ = false ∧ Below B w wr

theorem Sp.set {w wr : World} {B : Nat} {x y : Int} (h : Sp w wr B x y) (z u : Int) : Sp w ((wr.setCell ⟨B, 0, none⟩ (.int .u32 z)).setCell ⟨B, 1, none⟩ (.int .u32 u)) B z u := by
  obtain ⟨h1, h2, h3, h4, h9⟩ := h
  have k2 := (World.cell?_setCell_other wr ⟨B, 0, none⟩ ⟨B, 1, none⟩ (.int .u32 z) (by simp)).trans h2
  exact ⟨(World.cell?_setCell_other _ _ _ _ (by simp)).trans (World.cell?_setCell_same _ _ _ h1), World.cell?_setCell_same _ _ _ k2, by simpa using h3, by simpa using h4, (h9.setCell (Nat.le_refl _) _).setCell (Nat.le_refl _) _⟩
theorem Sp.below {w wr wx : World} {B : Nat} {x y : Int} (h : Sp w wr B x y) (hb : Below wr.heap.size wr wx) (hB : B ≤ wr.heap.size) : Sp w wx B x y := by
  obtain ⟨h1, h2, h3, h4, h9⟩ := h
  exact ⟨cell_below h1 hb, cell_below h2 hb, frozen_below h1 h3 hb, frozen_below h2 h4 hb, h9.trans (hb.mono hB)⟩

set_option maxRecDepth 100000 in
set_option maxHeartbeats 800000 in
theorem sum_any (a : Option Addr) (len cap : Nat) (ss : List ByteArray) (w : World) (hlen : ss.length = len) (hl : len ≤ 9223372036854775807) (hr : Reads .string w a ss) (hz : ∀ s ∈ ss, s.size ≤ maxLen) :
    Calls Try.prog 9 #[.slice a len cap] w fun e w' => e = .returned (.int .u32 (sum (cat ss))) ∧ Below w.heap.size w w' := by
  subst hlen
  have HR := Lib.hid hr
  have HZ := Lib.hid hz
  clear hr hz
  go_enter Try.func9, Try.ntmps9
  go_wp2
  go_loopw [9] (fun i wr => ∃ k : Nat, i = .int .i64 k ∧ k ≤ ss.length ∧ Sp w wr w.heap.size (lo 1 (cat (ss.take k))) (hi 1 0 (cat (ss.take k)))) (fun i _ => ss.length - (intOf i).toNat)
  case atStart =>
    refine ⟨0, rfl, Nat.zero_le _, ?_, ?_, ?_, ?_, below_one _⟩
    all_goals go_simp
    all_goals decide
  case round =>
    obtain ⟨k, rfl, hk, hS⟩ := hrel
    obtain ⟨c1, c2, f1, f2, bel⟩ := id hS
    have hlo := lo_bd 1 (cat (ss.take k))
    have hhi := hi_bd 1 0 (cat (ss.take k))
    by_cases hlt : k < ss.length
    · obtain ⟨b, off, rfl, hc⟩ := HR.out.at_ hlt
      have hcell := (bel.cell (p := ⟨b, off + k, none⟩) (lt_of_cell hc)).trans hc
      have hsz := HZ.out ss[k] (List.getElem_mem hlt)
      clear hc
      go_wp2_with (go_at_call 15; (with_reducible refine (goOn_any _ _ hlo.1 hlo.2 hhi.1 hhi.2 _ hsz _).mono ?_); rintro e w2 ⟨rfl, b2⟩; obtain ⟨c3, c4, f3, f4, bel2⟩ := id (hS.below b2 bel.size))
      have HC := Lib.hid (cat_take_succ ss k hlt)
      go_roundw
      case rel => exact ⟨k + 1, by go_num, by omega, by rw [HC.out, ← lo_lo, ← hi_hi]; exact (hS.below b2 bel.size).set _ _⟩
      case measure => simp [intOf]; omega
    · clear hS
      have HF : Hid (val (lo 1 (cat (ss.take k))) (hi 1 0 (cat (ss.take k))) = sum (cat ss)) := Lib.hid (by rw [List.take_of_length_le (by omega), sum_eq])
      go_wp2_with (go_at_call 16; (with_reducible refine (whole_any _ _ hlo.1 hlo.2 hhi.1 hhi.2 _).mono ?_); rintro e w2 ⟨rfl, b2⟩)
      go_ret
      exact ⟨ret_int HF.out, bel.trans (b2.mono bel.size)⟩

set_option maxRecDepth 100000 in
set_option maxHeartbeats 800000 in
theorem join_any (a b n : Int) (a0 : 0 ≤ a) (a1 : a ≤ 4294967295) (b0 : 0 ≤ b) (b1 : b ≤ 4294967295) (w : World) :
    Calls Try.prog 13 #[.int .u32 a, .int .u32 b, .int .i64 n] w fun e w' => e = .returned (.int .u32 (join a b n)) ∧ Below w.heap.size w w' := by
  have g1 := low_bd a
  have g2 := high_bd a
  have g3 := low_bd b
  have g4 := high_bd b
  have hq : 0 ≤ n % 65521 * ((low a + 65521 - 1) % 65521) ∧ n % 65521 * ((low a + 65521 - 1) % 65521) ≤ 4292870400 := by
    have h1 : 0 ≤ n % 65521 * ((low a + 65521 - 1) % 65521) := Int.mul_nonneg (by omega) (by omega)
    have h2 : n % 65521 * ((low a + 65521 - 1) % 65521) ≤ n % 65521 * 65520 := Int.mul_le_mul_of_nonneg_left (by omega) (by omega)
    omega
  by_cases hn : 0 ≤ n
  · have HJ : Hid (val ((low a + 65521 - 1 + low b) % 65521) ((high a + high b + n % 65521 * ((low a + 65521 - 1) % 65521)) % 65521) = join a b n) := Lib.hid (by
      unfold join jlow jhigh; rw [if_neg (by omega), show low a + 65520 = low a + 65521 - 1 by omega, show low a + low b + 65520 = low a + 65521 - 1 + low b by omega])
    go_enter Try.func13, Try.ntmps13
    go_wp2_with (first
      | (go_at_call 17; (with_reducible refine (parted_any _ a0 a1 _).mono ?_); rintro e w1 ⟨rfl, p1⟩)
      | (go_at_call 17; (with_reducible refine (parted_any _ b0 b1 _).mono ?_); rintro e w2 ⟨rfl, p2⟩)
      | (go_at_call 16; (with_reducible refine (whole_any _ _ (by omega) (by omega) (by omega) (by omega) _).mono ?_); rintro e w3 ⟨rfl, p3⟩))
    go_ret
    exact ⟨ret_int HJ.out, p3.from ((((Below.refl _ _).alloc (Nat.le_refl _) _).alloc (by simp) _).from (p2.from p1))⟩
  · have HJ : Hid (val ((low a + 65521 - 1 + low b) % 65521) ((high a + high b) % 65521) = join a b n) := Lib.hid (by
      unfold join jlow jhigh; rw [if_pos (by omega), show low a + low b + 65520 = low a + 65521 - 1 + low b by omega]; simp)
    go_enter Try.func13, Try.ntmps13
    go_wp2_with (first
      | (go_at_call 17; (with_reducible refine (parted_any _ a0 a1 _).mono ?_); rintro e w1 ⟨rfl, p1⟩)
      | (go_at_call 17; (with_reducible refine (parted_any _ b0 b1 _).mono ?_); rintro e w2 ⟨rfl, p2⟩)
      | (go_at_call 16; (with_reducible refine (whole_any _ _ (by omega) (by omega) (by omega) (by omega) _).mono ?_); rintro e w3 ⟨rfl, p3⟩))
    go_ret
    exact ⟨ret_int HJ.out, p3.from ((((Below.refl _ _).alloc (Nat.le_refl _) _).alloc (by simp) _).from (p2.from p1))⟩
end Go.Proofs.Ytmcohgpgkeejpaa.Sums
