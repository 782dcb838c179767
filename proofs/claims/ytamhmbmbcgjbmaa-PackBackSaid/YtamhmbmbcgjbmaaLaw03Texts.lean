/-
  The walk of PackTexts.
-/
import Derived.Test.YtamhmbmbcgjbmaaLaw03
namespace Go.Proofs.Ytamhmbmbcgjbmaa.Pack
open Go.RowKit
open Base Bld
set_option linter.unusedVariables false

theorem rsame_refl (ao bo : Option Addr) (n ca cb : Nat) (l : List ByteArray) (w : World) (hn : l.length = n) (h1 : n ≤ 9223372036854775807) (ha : Reads .string w ao l) (hb : Reads .string w bo l) :
    Calls Try.prog 20 #[.slice ao n ca, .slice bo n cb] w fun e w' => e = .returned (.bool true) ∧ Below w.heap.size w w' := by
  have := rsame_any ao bo n ca n cb l l w hn hn h1 h1 ha hb
  rw [show SameB l l = true by unfold SameB; simp] at this
  exact this

theorem tl_length (s : ByteArray) (a : Int) : (tlL s a).length ≤ 65535 := by
  by_cases hi : inS s a = true
  · obtain ⟨A, rfl, hA⟩ := inS_nat hi
    cases ht : tlO s A with
    | none => rw [(tl_none hA ht).1]; simp
    | some x =>
      obtain ⟨l, z⟩ := x
      rw [(tl_some hA ht).1]
      unfold tlO at ht
      split at ht
      · rename_i hc
        have h1 := (gtx_some ht hc).2.2.1
        have h2 := nval_lt s A 2 hc
        omega
      · cases ht
  · rw [(tl_out (s := s) (a := a) (by simpa using hi)).1]; simp

set_option maxRecDepth 100000 in
set_option maxHeartbeats 2000000 in
theorem packTexts_any (x : Option Addr) (len cap : Nat) (l : List ByteArray) (s : ByteArray) (hs : s.size ≤ maxLen) (a : Int) (w : World)
    (hlen : l.length = len) (hl : len ≤ 9223372036854775807) (hr : Reads .string w x l) (hz : ∀ s ∈ l, s.size ≤ maxLen) :
    Calls Try.prog 4 #[.slice x len cap, .string s, .int .i64 a] w fun e w' => e = .returned (.bool true) ∧ Below w.heap.size w w' := by
  subst hlen
  have HR := Lib.hid hr
  have HZ := Lib.hid hz
  clear hr hz
  have hs' := hs
  unfold maxLen at hs'
  by_cases h1 : 200 < l.length
  · go_enter Try.func4, Try.ntmps4
    go_wp2_with (first | (go_at_call 7; (with_reducible refine (awake_any _).mono ?_); rintro e w1 ⟨rfl, p1⟩) | fail)
    go_ret
    exact ⟨rfl, p1⟩
  · by_cases h2 : 200000 < s.size
    · go_enter Try.func4, Try.ntmps4
      go_wp2_with (first | (go_at_call 7; (with_reducible refine (awake_any _).mono ?_); rintro e w1 ⟨rfl, p1⟩) | fail)
      go_ret
      exact ⟨rfl, p1⟩
    · go_enter Try.func4, Try.ntmps4
      go_wp2_with (first | (go_at_call 7; (with_reducible refine (awake_any _).mono ?_); rintro e w1 ⟨rfl, p1⟩) | fail)
      go_loop [7] (fun i => ∃ k : Nat, k ≤ l.length ∧ i = .int .i64 k) (fun i => l.length - (intOf i).toNat)
      case atStart => exact ⟨0, Nat.zero_le _, rfl⟩
      case round =>
        obtain ⟨k, hk, rfl⟩ := hrel
        by_cases hlt : k < l.length
        · obtain ⟨b, off, rfl, hc⟩ := HR.out.at_ hlt
          have hsz := HZ.out l[k] (List.getElem_mem hlt)
          unfold maxLen at hsz
          by_cases hbig : 70000 < l[k].size
          · go_wp2_with (first | (go_at_call 7; (with_reducible refine (awake_any _).mono ?_); rintro e w1 ⟨rfl, p1⟩) | fail)
            go_ret
            exact ⟨rfl, p1⟩
          · go_wp2_with fail
            go_round
            case rel => exact ⟨k + 1, by omega, by go_num⟩
            case measure => simp [intOf]; omega
        · have HT := Lib.hid (tl_length s a)
          have HTL : Hid ((tlL s a).length ≤ 9223372036854775807) := Lib.hid (by have := HT.out; omega)
          go_wp2_with (first
            | (go_at_call 12; (with_reducible refine (texts_any _ _ _ l _ rfl hl HR.out HZ.out).mono ?_); rintro e w1 ⟨rfl, p1⟩; have hr1 := HR.out.below p1)
            | (go_at_call 13; (with_reducible refine (rtexts_any _ _ _ l _ rfl hl hr1 HZ.out).mono ?_); rintro e w2 ⟨rfl, p2⟩)
            | (go_at_call 14; (with_reducible refine (takeTexts_any s hs a _).mono ?_); rintro e w3 ⟨v3, rfl, o3, p3⟩; obtain ⟨a3, c3, rfl, r3, _, _⟩ := o3.value)
            | (go_at_call 15; (with_reducible refine (rtakeTexts_any s hs a _).mono ?_); rintro e w4 ⟨v4, rfl, o4, p4⟩; obtain ⟨a4, c4, rfl, r4, _, _⟩ := o4.value)
            | (go_at_call 16; (with_reducible refine (takeText_any s hs a _).mono ?_); rintro e w5 ⟨rfl, p5⟩)
            | (go_at_call 17; (with_reducible refine (rtakeText_any s hs a _).mono ?_); rintro e w' ⟨rfl, rfl⟩)
            | (go_at_call 18; (with_reducible refine (text_any s hs _).mono ?_); rintro e w6 ⟨rfl, p6⟩)
            | (go_at_call 19; (with_reducible refine (rtext_any s hs _).mono ?_); rintro e w7 ⟨rfl, p7⟩)
            | (go_at_call 20; (with_reducible refine (rsame_refl _ _ _ _ _ _ _ rfl HTL.out ((((r3.below p4).below p5).below p6).below p7) (((r4.below p5).below p6).below p7)).mono ?_); rintro e w8 ⟨rfl, p8⟩)
            | (go_at_call 7; (with_reducible refine (awake_any _).mono ?_); rintro e w9 ⟨rfl, p9⟩)
            | fail)
          go_ret
          exact ⟨rfl, p9.from (p8.from (p7.from (p6.from (p5.from (p4.from (p3.from (p2.from p1)))))))⟩

end Go.Proofs.Ytamhmbmbcgjbmaa.Pack
