/-
  The walk of package nodeset's Show.
-/
import Derived.Test.YtgneleembnchfaaDoorNodeShowM
import Derived.Test.YtgneleembnchfaaDoorNodeSets
namespace Go.Proofs.YtgneleembnchfaaDoor.Node
open Go.RowKit
open Base NodeLib
set_option linter.unusedVariables false
set_option linter.unusedSimpArgs false

theorem itoa_node (k : Nat) (h : k < 64) (w : World) (hT : Tb w) :
    Calls Tryd.prog 36 #[.int .i64 (k : Int)] w fun e w' => e = .returned (.string ⟨(dec k).toArray⟩) ∧ Below w.heap.size w w' := by
  rw [← itoa_dec k h]
  exact itoa_any (k : Int) (by omega) (by omega) w hT
theorem bldBel {w w1 : World} {B b : Nat} {l : List UInt8} (h : BldR w B b l w1) : Below B w w1 := h.2.1

theorem toB_list (l : List UInt8) : (⟨l.toArray⟩ : ByteArray).data.toList = l := rfl
theorem dec_ne (k : Nat) : (dec k).isEmpty = false := by
  rw [List.isEmpty_eq_false_iff]; intro e
  have := (dec_length k).2
  rw [e] at this; simp at this
theorem app_ne (l : List UInt8) (k : Nat) : (l ++ (⟨(dec k).toArray⟩ : ByteArray).data.toList).isEmpty = false := by
  rw [List.isEmpty_eq_false_iff]; intro e
  have := (dec_length k).2
  rw [toB_list] at e
  rw [(List.append_eq_nil_iff.1 e).2] at this; simp at this

set_option maxRecDepth 100000 in
set_option maxHeartbeats 4000000 in
theorem show_any (S : Nat) (hS : S < 18446744073709551616) (s : Int) (hs : s = (S : Int)) (w : World) (hT : Tb w) :
    Calls Tryd.prog 25 #[.int .u64 s] w fun e w' => e = .returned (.string ⟨(showT (mem S)).toArray⟩) ∧ Below w.heap.size w w' := by
  have HT := Lib.hid hT
  clear hT
  by_cases h0 : S = 0
  · subst h0
    have hz : (s == 0) = true := by rw [beq_iff_eq]; omega
    have HE : Hid ((⟨#[45]⟩ : ByteArray) = ⟨(showT (mem 0)).toArray⟩) := Lib.hid (by decide)
    clear hs
    go_enter Tryd.func25, Tryd.ntmps25
    go_wp2
    go_ret
    exact ⟨ret_str HE.out, Below.refl _ _⟩
  · have hz : (s == 0) = false := by rw [beq_eq_false_iff_ne]; omega
    have hne : mem S ≠ [] := by
      intro e
      have := setOf_mem S hS
      rw [e] at this
      exact h0 this.symm
    have HJ : Hid (showT (mem S) = restC S 0 true) := Lib.hid (by rw [rest_zero]; unfold showT; rw [if_neg hne])
    have C := Lib.hid (fun n w => has_any S hS s n hs w)
    obtain ⟨T, hTt⟩ : ∃ T, T = showT (mem S) := ⟨_, rfl⟩
    rw [← hTt] at HJ ⊢
    clear hs hne h0 hTt
    go_enter Tryd.func25, Tryd.ntmps25
    go_wp2
    go_loopw [7] (fun cv wr => ∃ (k : Nat) (o : List UInt8), cv = .int .i64 (k : Int) ∧ k ≤ 64 ∧ BldR w w.heap.size w.heap.size o wr ∧ o ++ restC S k o.isEmpty = T ∧ (hasB S ((k : Int) - 1) = true → o.isEmpty = false) ∧ o.length ≤ 3 * k) (fun cv _ => 64 - (intOf cv).toNat)
    case atStart => exact ⟨0, [], rfl, by omega, bldR_new w w (Below.refl _ _) _ rfl, HJ.out.symm, (by rw [has_under S _ (by omega)]; intro h; cases h), by simp⟩
    case round =>
      obtain ⟨k, o, rfl, hk, hB, ho, hf, hl⟩ := hrel
      have HB := Lib.hid hB
      clear hB
      by_cases hlt : k < 64
      · have HO := Lib.hid ho
        have HF := Lib.hid hf
        clear ho hf
        have C0 := Lib.hid (fun w => C.out (k : Int) w)
        have C1 := Lib.hid (fun w => C.out ((k : Int) - 1) w)
        have C2 := Lib.hid (fun w => C.out ((k : Int) + 1) w)
        have hw1 : wrap64 ((k : Int) - 1) = (k : Int) - 1 := by unfold wrap64; omega
        have hw2 : wrap64 ((k : Int) + 1) = (k : Int) + 1 := by unfold wrap64; omega
        have hd := dec_length k
        have hdz : (⟨(dec k).toArray⟩ : ByteArray).size = (dec k).length := by rw [Lib.size_eq]
        have HP : Hid (hasB S (((k + 1 : Nat) : Int) - 1) = hasB S (k : Int)) := Lib.hid (by rw [prev_of])
        cases hb : hasB S (k : Int) with
        | false =>
          have HN := Lib.hid (st_no S k o.isEmpty hlt hb)
          rw [hb] at C0 HP
          clear hb C1 C2
          go_wp2_with (first
            | (go_at_call 15; (with_reducible refine (C0.out _).mono ?_); rintro e w' ⟨rfl, rfl⟩)
            | fail)
          go_roundw
          case rel => exact ⟨k + 1, o, by go_num, by omega, HB.out, by rw [← HN.out]; exact HO.out, (by rw [HP.out]; intro h; cases h), by omega⟩
          case measure => simp [intOf]; omega
        | true =>
          rw [hb] at C0
          cases hp : hasB S ((k : Int) - 1) with
          | false =>
            have HN := Lib.hid (st_begin S k o.isEmpty hlt hb hp)
            rw [hp] at C1
            clear hb hp C2
            cases he : o.isEmpty with
            | true =>
              obtain rfl : o = [] := List.isEmpty_iff.1 he
              have HN : Hid (restC S k true = dec k ++ restC S (k + 1) false) := Lib.hid (by have := HN.out; rw [show (List.isEmpty ([] : List UInt8)) = true from rfl] at this; exact this)
              clear he
              have hgt : decide ((0 : Int) < 0) = false := rfl
              go_wp2_with (first
                | (go_at_call 15; (with_reducible refine (C0.out _).mono ?_); rintro e w' ⟨rfl, rfl⟩)
                | (go_at_call 15; (with_reducible refine (C1.out _).mono ?_); rintro e w' ⟨rfl, rfl⟩)
                | (go_at_call 33; (with_reducible refine (len_r w _ _ _ _ HB.out).mono ?_); rintro e w2 ⟨rfl, rfl⟩)
                | (go_at_call 36; (with_reducible refine (itoa_node k hlt _ (HT.out.later (bldBel HB.out))).mono ?_); rintro e w2 ⟨rfl, p2⟩)
                | (go_at_call 35; (with_reducible refine (writeString_r w _ _ _ _ _ (HB.out.below p2) (by simp; omega)).mono ?_); rintro e w3 ⟨rfl, b3, k3⟩; have B3 := Lib.hid b3; clear b3 k3)
                | fail)
              go_roundw
              case rel => exact ⟨k + 1, dec k, by go_num, by omega, B3.out, by rw [dec_ne]; rw [← HO.out]; exact HN.out.symm, fun _ => dec_ne k, by omega⟩
              case measure => simp [intOf]; omega
            | false =>
              have HN : Hid (restC S k false = [44] ++ dec k ++ restC S (k + 1) false) := Lib.hid (by rw [he] at HN; rw [HN.out]; rfl)
              have HO : Hid (o ++ restC S k false = T) := Lib.hid (by have := HO.out; rwa [he] at this)
              have hpos : 0 < o.length := by
                rw [List.isEmpty_eq_false_iff] at he
                exact List.length_pos_iff.2 he
              have t1 : decide ((0 : Int) < (o.length : Int)) = true := decide_eq_true (by omega)
              have t2 : decide (0 < o.length) = true := decide_eq_true hpos
              clear he
              go_wp2_with (first
                | (go_at_call 15; (with_reducible refine (C0.out _).mono ?_); rintro e w' ⟨rfl, rfl⟩)
                | (go_at_call 15; (with_reducible refine (C1.out _).mono ?_); rintro e w' ⟨rfl, rfl⟩)
                | (go_at_call 33; (with_reducible refine (len_r w _ _ _ _ HB.out).mono ?_); rintro e w2 ⟨rfl, rfl⟩)
                | (go_at_call 34; (with_reducible refine (writeByte_r w _ _ _ _ 44 44 (by decide) HB.out (by omega)).mono ?_); rintro e w4 ⟨rfl, b4, k4⟩; have B4 := Lib.hid b4; clear b4 k4)
                | (go_at_call 36; (with_reducible refine (itoa_node k hlt _ (HT.out.later (bldBel B4.out))).mono ?_); rintro e w2 ⟨rfl, p2⟩)
                | (go_at_call 35; (with_reducible refine (writeString_r w _ _ _ _ _ (B4.out.below p2) (by rw [List.length_append, List.length_singleton]; omega)).mono ?_); rintro e w3 ⟨rfl, b3, k3⟩; have B3 := Lib.hid b3; clear b3 k3)
                | fail)
              go_roundw
              case rel => exact ⟨k + 1, _, by go_num, by omega, B3.out, by rw [app_ne]; rw [← HO.out, HN.out]; simp [List.append_assoc], fun _ => app_ne _ k, by rw [List.length_append, List.length_append, List.length_singleton]; omega⟩
              case measure => simp [intOf]; omega
          | true =>
            have he := HF.out hp
            have HO : Hid (o ++ restC S k false = T) := Lib.hid (by have := HO.out; rwa [he] at this)
            cases hn : hasB S ((k : Int) + 1) with
            | true =>
              have HN := Lib.hid (st_mid S k hlt hb hp hn)
              have HE := Lib.hid he
              rw [hp] at C1
              rw [hn] at C2
              clear hb hp hn he
              go_wp2_with (first
                | (go_at_call 15; (with_reducible refine (C0.out _).mono ?_); rintro e w' ⟨rfl, rfl⟩)
                | (go_at_call 15; (with_reducible refine (C1.out _).mono ?_); rintro e w' ⟨rfl, rfl⟩)
                | (go_at_call 15; (with_reducible refine (C2.out _).mono ?_); rintro e w' ⟨rfl, rfl⟩)
                | fail)
              go_roundw
              case rel => exact ⟨k + 1, o, by go_num, by omega, HB.out, by rw [HE.out, ← HN.out]; exact HO.out, fun _ => HE.out, by omega⟩
              case measure => simp [intOf]; omega
            | false =>
              have HN := Lib.hid (st_last S k hlt hb hp hn)
              rw [hp] at C1
              rw [hn] at C2
              clear hb hp hn he
              go_wp2_with (first
                | (go_at_call 15; (with_reducible refine (C0.out _).mono ?_); rintro e w' ⟨rfl, rfl⟩)
                | (go_at_call 15; (with_reducible refine (C1.out _).mono ?_); rintro e w' ⟨rfl, rfl⟩)
                | (go_at_call 15; (with_reducible refine (C2.out _).mono ?_); rintro e w' ⟨rfl, rfl⟩)
                | (go_at_call 34; (with_reducible refine (writeByte_r w _ _ _ _ 45 45 (by decide) HB.out (by omega)).mono ?_); rintro e w4 ⟨rfl, b4, k4⟩; have B4 := Lib.hid b4; clear b4 k4)
                | (go_at_call 36; (with_reducible refine (itoa_node k hlt _ (HT.out.later (bldBel B4.out))).mono ?_); rintro e w2 ⟨rfl, p2⟩)
                | (go_at_call 35; (with_reducible refine (writeString_r w _ _ _ _ _ (B4.out.below p2) (by rw [List.length_append, List.length_singleton]; omega)).mono ?_); rintro e w3 ⟨rfl, b3, k3⟩; have B3 := Lib.hid b3; clear b3 k3)
                | fail)
              go_roundw
              case rel => exact ⟨k + 1, _, by go_num, by omega, B3.out, by rw [app_ne]; rw [← HO.out, HN.out]; simp [List.append_assoc], fun _ => app_ne _ k, by rw [List.length_append, List.length_append, List.length_singleton]; omega⟩
              case measure => simp [intOf]; omega
      · obtain rfl : k = 64 := by omega
        have HO : Hid (o = T) := Lib.hid (by rw [rest_end, List.append_nil] at ho; exact ho)
        clear ho hf
        go_wp2_with (first
          | (go_at_call 37; (with_reducible refine (string_r w _ _ _ _ HB.out).mono ?_); rintro e w2 ⟨rfl, p2⟩)
          | fail)
        go_ret
        exact ⟨by rw [← HO.out]; rfl, p2⟩

end Go.Proofs.YtgneleembnchfaaDoor.Node
