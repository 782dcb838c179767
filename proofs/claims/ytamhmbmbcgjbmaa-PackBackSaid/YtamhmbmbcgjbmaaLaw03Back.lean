/-
  The walk of PackBack.
-/
import Derived.Test.YtamhmbmbcgjbmaaLaw03Texts
namespace Go.Proofs.Ytamhmbmbcgjbmaa.Pack
open Go.RowKit
open Base Bld
set_option linter.unusedVariables false

theorem cat_data (a b c : ByteArray) : (a ++ b ++ c).data.toList = a.data.toList ++ b.data.toList ++ c.data.toList := by simp [ByteArray.data_append]

theorem list_data (l : List UInt8) : (⟨l.toArray⟩ : ByteArray).data.toList = l := by simp

theorem lsB_length (l : List ByteArray) : (lsB l).length = 2 + catN l := by unfold lsB; rw [List.length_append, numB_length, catB_length]

theorem texts_back (l : List ByteArray) (hb : lstBig l = false) (u v T : ByteArray) (hT : T = ⟨(lsB l).toArray⟩) :
    tlL (u ++ T ++ v) (u.size : Int) = l ∧ tlTo (u ++ T ++ v) (u.size : Int) = (u.size : Int) + (T.size : Int) ∧ tlE (u ++ T ++ v) (u.size : Int) = 0 := by
  have h : (u ++ T ++ v).data.toList = u.data.toList ++ lsB l ++ v.data.toList := by rw [cat_data, hT, list_data]
  have ht := tl_back (u ++ T ++ v) l _ _ u.size hb h (Lib.size_eq u)
  have hs : T.size = 2 + catN l := by rw [hT, size_of_list, lsB_length]
  obtain ⟨e1, e2, e3⟩ := tl_some (by rw [ByteArray.size_append, ByteArray.size_append]; omega) ht
  exact ⟨e1, by rw [e2, hs]; simp, e3⟩

theorem number_back (n : Nat) (hn : n < 4294967296) (u v T : ByteArray) (hT : T = ⟨(numB n 4).toArray⟩) :
    tnV (u ++ T ++ v) (u.size : Int) 4 = (n : Int) ∧ tnTo (u ++ T ++ v) (u.size : Int) 4 = (u.size : Int) + 4 ∧ tnE (u ++ T ++ v) (u.size : Int) 4 = 0 := by
  have h : (u ++ T ++ v).data.toList = u.data.toList ++ numB n 4 ++ v.data.toList := by rw [cat_data, hT, list_data]
  have hp : (256 : Nat) ^ 4 = 4294967296 := by decide
  obtain ⟨h1, h2⟩ := num_back (u ++ T ++ v) _ _ n 4 (by omega) h u.size (Lib.size_eq u)
  obtain ⟨e1, e2, e3⟩ := tn_whole (s := u ++ T ++ v) (a := u.size) (K := 4) (by omega) (by decide) h1
  rw [h2] at e1 e2 e3
  obtain ⟨f1, f2, f3⟩ := ok_yes (v := n) (u.size + 4) (by omega)
  exact ⟨e1.trans f1, by rw [show (4 : Int) = ((4 : Nat) : Int) from rfl, e2, f2]; simp, e3.trans f3⟩

theorem small_big {l : List ByteArray} (hl : l.length ≤ 100) (hz : ∀ s ∈ l, s.size ≤ 60000) : lstBig l = false ∧ catN l ≤ 6553700 := by
  have ha : anyBig l = false := by
    unfold anyBig; rw [List.any_eq_false]; intro s hs; have := hz s hs; unfold bigB; simp; omega
  refine ⟨by unfold lstBig; rw [ha, decide_eq_false (by omega)]; rfl, ?_⟩
  have := catN_le l ha; omega

set_option maxRecDepth 100000 in
set_option maxHeartbeats 2000000 in
theorem packBack_any (x : Option Addr) (len cap : Nat) (l : List ByteArray) (u v : ByteArray) (hu : u.size ≤ maxLen) (hv : v.size ≤ maxLen) (w : World)
    (hlen : l.length = len) (hl : len ≤ 9223372036854775807) (hr : Reads .string w x l) (hz : ∀ s ∈ l, s.size ≤ maxLen) :
    Calls Try.prog 5 #[.slice x len cap, .string u, .string v] w fun e w' => e = .returned (.bool true) ∧ Below w.heap.size w w' := by
  subst hlen
  have HR := Lib.hid hr
  have HZ := Lib.hid hz
  clear hr hz
  unfold maxLen at hu hv
  by_cases h1 : 100 < l.length
  · go_enter Try.func5, Try.ntmps5
    go_wp2_with (first | (go_at_call 7; (with_reducible refine (awake_any _).mono ?_); rintro e w1 ⟨rfl, p1⟩) | fail)
    go_ret
    exact ⟨rfl, p1⟩
  · by_cases h2 : 5000 < u.size
    · go_enter Try.func5, Try.ntmps5
      go_wp2_with (first | (go_at_call 7; (with_reducible refine (awake_any _).mono ?_); rintro e w1 ⟨rfl, p1⟩) | fail)
      go_ret
      exact ⟨rfl, p1⟩
    · by_cases h3 : 5000 < v.size
      · go_enter Try.func5, Try.ntmps5
        go_wp2_with (first | (go_at_call 7; (with_reducible refine (awake_any _).mono ?_); rintro e w1 ⟨rfl, p1⟩) | fail)
        go_ret
        exact ⟨rfl, p1⟩
      · go_enter Try.func5, Try.ntmps5
        go_wp2_with (first | (go_at_call 7; (with_reducible refine (awake_any _).mono ?_); rintro e w1 ⟨rfl, p1⟩) | fail)
        go_loop [7] (fun i => ∃ k : Nat, k ≤ l.length ∧ i = .int .i64 k ∧ ∀ s ∈ l.take k, s.size ≤ 60000) (fun i => l.length - (intOf i).toNat)
        case atStart => exact ⟨0, Nat.zero_le _, rfl, by simp⟩
        case round =>
          obtain ⟨k, hk, rfl, hsm⟩ := hrel
          have HS := Lib.hid hsm
          clear hsm
          by_cases hlt : k < l.length
          · obtain ⟨b, off, rfl, hc⟩ := HR.out.at_ hlt
            have hsz := HZ.out l[k] (List.getElem_mem hlt)
            unfold maxLen at hsz
            by_cases hbig : 60000 < l[k].size
            · go_wp2_with (first | (go_at_call 7; (with_reducible refine (awake_any _).mono ?_); rintro e w1 ⟨rfl, p1⟩) | fail)
              go_ret
              exact ⟨rfl, p1⟩
            · have HN : Hid (∀ s ∈ l.take (k + 1), s.size ≤ 60000) := Lib.hid (by
                intro s hs
                rw [List.take_succ_eq_append_getElem hlt, List.mem_append] at hs
                rcases hs with hs | hs
                · exact HS.out s hs
                · obtain rfl := List.mem_singleton.1 hs; omega)
              go_wp2_with fail
              go_round
              case rel => exact ⟨k + 1, by omega, by go_num, HN.out⟩
              case measure => simp [intOf]; omega
          · have hsm : ∀ s ∈ l, s.size ≤ 60000 := by have := HS.out; rwa [List.take_of_length_le (by omega)] at this
            obtain ⟨hb, hcn⟩ := small_big (by omega) hsm
            obtain ⟨T, hT⟩ : ∃ T : ByteArray, T = ⟨(lsB l).toArray⟩ := ⟨_, rfl⟩
            obtain ⟨F, hF⟩ : ∃ F : ByteArray, F = ⟨(numB v.size 4).toArray⟩ := ⟨_, rfl⟩
            have hTs : T.size ≤ 6553702 := by rw [hT, size_of_list, lsB_length]; omega
            have hFs : F.size ≤ 4 := by rw [hF, size_of_list, numB_length]; omega
            have hS1 : (u ++ T ++ v).size ≤ maxLen := by rw [ByteArray.size_append, ByteArray.size_append]; unfold maxLen; omega
            have hS2 : (u ++ F ++ v).size ≤ maxLen := by rw [ByteArray.size_append, ByteArray.size_append]; unfold maxLen; omega
            have c1 := fun w hr => texts_any x l.length cap l w rfl hl hr HZ.out
            have c2 := fun w => takeTexts_any (u ++ T ++ v) hS1 (u.size : Int) w
            have c3 := fun w => number_any (v.size : Int) 4 (by omega) (by omega) w
            have c4 := fun w => takeNumber_any (u ++ F ++ v) hS2 (u.size : Int) 4 w
            obtain ⟨e1, e2⟩ := lst_short hb
            obtain ⟨e3, e4, e5⟩ := texts_back l hb u v T hT
            obtain ⟨e6, e7⟩ := nu_yes (m := v.size) (K := 4) (by decide) (Nat.lt_of_le_of_lt (show v.size ≤ 5000 by omega) (by decide))
            obtain ⟨e8, e9, e10⟩ := number_back v.size (by omega) u v F hF
            rw [← e1, ← e2, ← hT] at c1
            rw [e3, e4, e5] at c2
            rw [show (4 : Int) = ((4 : Nat) : Int) from rfl, ← e6, ← e7, ← hF] at c3
            rw [e8, e9, e10] at c4
            have C1 := Lib.hid c1
            have C2 := Lib.hid c2
            have C3 : Hid (∀ w, Calls Try.prog 8 #[.int .i64 (v.size : Int), .int .i64 4] w fun e w' => e = .returned (.tuple #[.string F, .int .i64 0]) ∧ Below w.heap.size w w') := Lib.hid c3
            have C4 := Lib.hid c4
            clear c1 c2 c3 c4 e1 e2 e3 e4 e5 e6 e7 e8 e9 e10 hT hF hb hsm hS1 hS2
            go_wp2_with (first
              | (go_at_call 12; (with_reducible refine (C1.out _ HR.out).mono ?_); rintro e w1 ⟨rfl, p1⟩; have hr1 := HR.out.below p1)
              | (go_at_call 14; (with_reducible refine (C2.out _).mono ?_); rintro e w3 ⟨v3, rfl, o3, p3⟩; obtain ⟨a3, c3, rfl, r3, _, _⟩ := o3.value; have hr3 := hr1.below p3)
              | (go_at_call 8; (with_reducible refine (C3.out _).mono ?_); rintro e w4 ⟨rfl, p4⟩)
              | (go_at_call 10; (with_reducible refine (C4.out _).mono ?_); rintro e w5 ⟨rfl, p5⟩)
              | (go_at_call 20; (with_reducible refine (rsame_refl _ _ _ _ _ l _ rfl hl ((r3.below p4).below p5) ((hr3.below p4).below p5)).mono ?_); rintro e w8 ⟨rfl, p8⟩)
              | (go_at_call 7; (with_reducible refine (awake_any _).mono ?_); rintro e w9 ⟨rfl, p9⟩)
              | fail)
            go_ret
            exact ⟨rfl, p9.from (p8.from (p5.from (p4.from (p3.from p1))))⟩

end Go.Proofs.Ytamhmbmbcgjbmaa.Pack
