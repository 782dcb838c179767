/-
  The walk of SatParts: two slices that the call itself puts together by append.
-/
import Derived.Test.YtgiiaapilcjckaaLaw01
import Derived.Test.YtgiiaapilcjckaaOwnInts
import Derived.Deep.DeepFit
namespace Go.Proofs.Ytgiiaapilcjckaa.Sat
open Go.RowKit
set_option linter.unusedVariables false

theorem info_int : (Try.prog.info? 3).map (fun i => (i.zero, i.size, i.bytes)) = some (some (.int .i64 0), 1, 8) := by kernel_rfl

set_option maxHeartbeats 1000000 in
theorem satParts_main (a0 b0 : Option Addr) (la ca lb cb : Nat) (za zb : List Int) (n : Int) (w : World)
    (hla : za.length = la) (hlb : zb.length = lb) (ha : Reads w a0 za) (hb : Reads w b0 zb) (hna : a0 = none → ca = 0) (hnb : b0 = none → cb = 0)
    (h1 : ¬ (10000 : Int) < (la : Int)) (h2 : ¬ (10000 : Int) < (lb : Int)) :
    Calls Try.prog 5 #[.slice a0 la ca, .slice b0 lb cb, .int .i64 n] w fun e w' => e = .returned (.bool true) ∧ Below w.heap.size w w' := by
  obtain ⟨i, hi, hz0, hz1, hz2⟩ := info_parts info_int
  have HLA := Lib.hid hla
  have HLB := Lib.hid hlb
  have HNA := Lib.hid hna
  have HNB := Lib.hid hnb
  have HI := Lib.hid hi
  have HZ0 := Lib.hid hz0
  have HZ1 := Lib.hid hz1
  have HZ2 := Lib.hid hz2
  clear hla hlb hna hnb hi hz0 hz1 hz2
  have L1 : Hid (la ≤ 9223372036854775807) := Lib.hid (by omega)
  have L2 : Hid (lb ≤ 9223372036854775807) := Lib.hid (by omega)
  have S1 : Hid (la ≤ 10000) := Lib.hid (by omega)
  have S2 : Hid (lb ≤ 10000) := Lib.hid (by omega)
  have M0 : (0 : Int) ≤ 1000000 := by omega
  have U0 : (0 : Int) ≤ 1000000000000 := by omega
  obtain ⟨L, HL⟩ : ∃ L, Hid (L = za ++ [n] ++ zb) := ⟨_, Lib.hid rfl⟩
  obtain ⟨M, HM⟩ : ∃ M, Hid (M = zb ++ za ++ [n]) := ⟨_, Lib.hid rfl⟩
  have LL : Hid (L.length ≤ 9223372036854775807) := Lib.hid (by rw [HL.out]; have := HLA.out; have := HLB.out; simp; omega)
  have LM : Hid (M.length ≤ 9223372036854775807) := Lib.hid (by rw [HM.out]; have := HLA.out; have := HLB.out; simp; omega)
  have g1 : add 1000000 M = add 1000000 L := by rw [HL.out, HM.out, add_perm]
  have g2 : add 1000000000000 M = add 1000000000000 L := by rw [HL.out, HM.out, add_perm]
  have g3 : over 1000000 M = over 1000000 L := by rw [HL.out, HM.out, over_perm]
  have g4 : add 1000000 [add 1000000 za, n, add 1000000 zb] = add 1000000 L := by rw [HL.out, parts_three _ _ M0]
  have g5 : add 1000000000000 [add 1000000000000 za, add 1000000000000 [n, add 1000000000000 zb]] = add 1000000000000 L := by rw [HL.out, parts_two _ _ U0]
  clear M0 U0
  go_enter Try.func5, Try.ntmps5
  go_wp2_with (first
    | (at_builtin; refine wpList_append_ints rfl (.tmp 18) (.tmp 19) 22 rfl w.heap.size 3 i Try.underlying22 HI.out HZ0.out HZ1.out HZ2.out w (Below.refl _ _) (Nat.le_refl _) _ [] rfl (Own.nil _ _ _) a0 la ca za rfl HLA.out ha HNA.out (by have := S1.out; simp; omega) ?_; intro v1 w1 own1 bel1; have sz1 := bel1.size; simp only [List.nil_append] at own1)
    | (at_builtin; refine wpList_append_ints rfl (.tmp 20) (.tmp 22) 22 rfl w.heap.size 3 i Try.underlying22 HI.out HZ0.out HZ1.out HZ2.out w (bel1.alloc sz1 _) (by simp; omega) _ za rfl (own1.alloc _) _ 1 1 [n] rfl rfl (reads_one rfl _ _) (by intro h; cases h) (by have := S1.out; have := HLA.out; omega) ?_; intro v2 w2 own2 bel2; have sz2 := bel2.size)
    | (at_builtin; refine wpList_append_ints rfl (.tmp 23) (.tmp 24) 22 rfl w.heap.size 3 i Try.underlying22 HI.out HZ0.out HZ1.out HZ2.out w bel2 sz2 _ (za ++ [n]) rfl own2 b0 lb cb zb rfl HLB.out (hb.below bel2) HNB.out (by have := S1.out; have := S2.out; have := HLA.out; simp; omega) ?_; intro v3 w3 own3 bel3; rw [← HL.out] at own3; obtain ⟨al, cl', rfl, rl3, _⟩ := own3.value; have hb3 := hb.below bel3; have ha3 := ha.below bel3)
    | (at_builtin; refine wpList_append_ints rfl (.tmp 26) (.tmp 27) 22 rfl w3.heap.size 3 i Try.underlying22 HI.out HZ0.out HZ1.out HZ2.out w3 (Below.refl _ _) (Nat.le_refl _) _ [] rfl (Own.nil _ _ _) b0 lb cb zb rfl HLB.out hb3 HNB.out (by have := S2.out; simp; omega) ?_; intro v4 w4 own4 bel4; have sz4 := bel4.size; simp only [List.nil_append] at own4)
    | (at_builtin; refine wpList_append_ints rfl (.tmp 28) (.tmp 29) 22 rfl w3.heap.size 3 i Try.underlying22 HI.out HZ0.out HZ1.out HZ2.out w3 bel4 sz4 _ zb rfl own4 a0 la ca za rfl HLA.out (ha3.below bel4) HNA.out (by have := S1.out; have := S2.out; have := HLB.out; omega) ?_; intro v5 w5 own5 bel5; have sz5 := bel5.size)
    | (at_builtin; refine wpList_append_ints rfl (.tmp 30) (.tmp 32) 22 rfl w3.heap.size 3 i Try.underlying22 HI.out HZ0.out HZ1.out HZ2.out w3 (bel5.alloc sz5 _) (by simp; omega) _ (zb ++ za) rfl (own5.alloc _) _ 1 1 [n] rfl rfl (reads_one rfl _ _) (by intro h; cases h) (by have := S1.out; have := S2.out; have := HLA.out; have := HLB.out; simp; omega) ?_; intro v6 w6 own6 bel6; rw [← HM.out] at own6; obtain ⟨am, cm', rfl, rm6, _⟩ := own6.value; have rl6 := rl3.below bel6; have ha6 := ha3.below bel6; have hb6 := hb3.below bel6; clear own6 own5 own4 own3 own2 own1)
    | (go_at_call 8; (with_reducible refine (add_any _ _ _ L _ rfl LL.out rl6).mono ?_); rintro e w' ⟨rfl, rfl⟩)
    | (go_at_call 8; (with_reducible refine (add_any _ _ _ M _ rfl LM.out rm6).mono ?_); rintro e w' ⟨rfl, rfl⟩)
    | (go_at_call 8; (with_reducible refine (add_any a0 la ca za _ HLA.out L1.out ha6).mono ?_); rintro e w' ⟨rfl, rfl⟩)
    | (go_at_call 8; (with_reducible refine (add_any b0 lb cb zb _ HLB.out L2.out hb6).mono ?_); rintro e w' ⟨rfl, rfl⟩)
    | (go_at_call 8; (with_reducible refine (add_any _ 3 3 [add 1000000 za, n, add 1000000 zb] _ rfl (Nat.le_of_ble_eq_true rfl) (reads_three (by simp) _ _ _ _)).mono ?_); rintro e w' ⟨rfl, rfl⟩)
    | (go_at_call 16; (with_reducible refine (plus_any _ _ _ L _ rfl LL.out rl6).mono ?_); rintro e w' ⟨rfl, rfl⟩)
    | (go_at_call 16; (with_reducible refine (plus_any _ _ _ M _ rfl LM.out rm6).mono ?_); rintro e w' ⟨rfl, rfl⟩)
    | (go_at_call 16; (with_reducible refine (plus_any _ _ _ L _ rfl LL.out (rl6.alloc _)).mono ?_); rintro e w' ⟨rfl, rfl⟩)
    | (go_at_call 16; (with_reducible refine (plus_any a0 la ca za _ HLA.out L1.out (ha6.alloc _)).mono ?_); rintro e w' ⟨rfl, rfl⟩)
    | (go_at_call 16; (with_reducible refine (plus_any b0 lb cb zb _ HLB.out L2.out (hb6.alloc _)).mono ?_); rintro e w' ⟨rfl, rfl⟩)
    | (go_at_call 16; (with_reducible refine (plus_any _ 2 2 [n, add 1000000000000 zb] _ rfl (Nat.le_of_ble_eq_true rfl) (reads_two (by simp) _ _ _)).mono ?_); rintro e w' ⟨rfl, rfl⟩)
    | (go_at_call 16; (with_reducible refine (plus_any _ 2 2 [add 1000000000000 za, add 1000000000000 [n, add 1000000000000 zb]] _ rfl (Nat.le_of_ble_eq_true rfl) (reads_two (by simp) _ _ _)).mono ?_); rintro e w' ⟨rfl, rfl⟩)
    | (go_at_call 10; (with_reducible refine (over_any _ _ _ L _ rfl LL.out rl6).mono ?_); rintro e w' ⟨rfl, rfl⟩)
    | (go_at_call 10; (with_reducible refine (over_any _ _ _ M _ rfl LM.out rm6).mono ?_); rintro e w' ⟨rfl, rfl⟩)
    | (go_at_call 7; (with_reducible refine (awake_any _).mono ?_); rintro e w' ⟨rfl, hbel⟩))
  go_ret
  exact ⟨rfl, by refine (Below.from hbel ?_).from (bel6.from bel3); repeat (first | exact Below.refl _ _ | (refine Below.alloc ?_ (by simp <;> omega) _))⟩

set_option maxHeartbeats 1000000 in
theorem satParts_any (a0 b0 : Option Addr) (la ca lb cb : Nat) (za zb : List Int) (n : Int) (w : World)
    (hla : za.length = la) (hlb : zb.length = lb) (ha : Reads w a0 za) (hb : Reads w b0 zb) (hna : a0 = none → ca = 0) (hnb : b0 = none → cb = 0) :
    Calls Try.prog 5 #[.slice a0 la ca, .slice b0 lb cb, .int .i64 n] w fun e w' => e = .returned (.bool true) ∧ Below w.heap.size w w' := by
  by_cases h1 : (10000 : Int) < (la : Int)
  · clear hla hlb ha hb hna hnb
    go_enter Try.func5, Try.ntmps5
    go_wp2_with (go_at_call 7; (with_reducible refine (awake_any _).mono ?_); rintro e w' ⟨rfl, hb⟩)
    go_ret
    exact ⟨rfl, hb⟩
  · by_cases h2 : (10000 : Int) < (lb : Int)
    · clear hla hlb ha hb hna hnb
      go_enter Try.func5, Try.ntmps5
      go_wp2_with (go_at_call 7; (with_reducible refine (awake_any _).mono ?_); rintro e w' ⟨rfl, hb⟩)
      go_ret
      exact ⟨rfl, hb⟩
    · exact satParts_main a0 b0 la ca lb cb za zb n w hla hlb ha hb hna hnb h1 h2

end Go.Proofs.Ytgiiaapilcjckaa.Sat
