/-
  The walk of the program's line of tokens.
-/
import Derived.Test.YtejppikbdplamaaDoorLexImpl
import Derived.Test.YtejppikbdplamaaDoorLexBld
namespace Go.Proofs.YtejppikbdplamaaDoor.Lex
open Go.RowKit
open Base Runes LexLib LexBld
set_option linter.unusedVariables false
set_option linter.unusedSimpArgs false

theorem bld_eq {w w1 : World} {B b : Nat} {l l' : List UInt8} (h : Bld w B b l w1) (hl : l = l') : Bld w B b l' w1 := by rw [← hl]; exact h
/-- What stands in the builder against what the document would have. -/
def Half (acc : List UInt8) (out : ByteArray) : Prop := acc = out.data.toList ∨ (400 < acc.length ∧ 400 < out.size)
theorem half_len {acc : List UInt8} {out : ByteArray} (h : Half acc out) : 400 < acc.length ↔ 400 < out.size := by
  rcases h with rfl | h
  · rw [← Lib.size_eq]
  · exact ⟨fun _ => h.2, fun _ => h.1⟩

theorem half_zero {acc : List UInt8} {out W : ByteArray} (h : acc = out.data.toList) : Half (acc ++ W.data.toList) (out ++ W) := by
  left; subst h; simp [ByteArray.data_append]
theorem half_next {acc : List UInt8} {out W : ByteArray} (h : acc = out.data.toList) : Half (acc ++ [32] ++ W.data.toList) (out ++ ⟨#[32]⟩ ++ W) := by
  left; subst h; simp [ByteArray.data_append]

set_option maxRecDepth 100000 in
set_option maxHeartbeats 4000000 in
theorem ljoin_any (ao : Option Addr) (cap : Nat) (l : List Tok) (w : World) (hT : Tb w) (hl : l.length ≤ 10000) (hz : ∀ t ∈ l, t.2.1.size ≤ 100000 ∧ t.2.2.1 ≤ 9223372036854775807) (hm : ∀ t ∈ l, -9223372036854775808 ≤ t.2.2.1) (hr : ReadsS 4 tkC w ao l) :
    Calls Tryd.prog 11 #[.slice ao l.length cap] w fun e w' => e = .returned (.tuple #[.string (jn l).1, .int .i64 (jn l).2]) ∧ Below w.heap.size w w' := by
  have HR := Lib.hid hr
  have HZ := Lib.hid hz
  have HM := Lib.hid hm
  have HT := Lib.hid hT
  clear hr hz hm hT
  obtain ⟨J, hJ⟩ : ∃ J, J = jn l := ⟨_, rfl⟩
  rw [← hJ]
  have HJ := Lib.hid hJ
  clear hJ
  have HN := Lib.hid (bld_new w)
  go_enter Tryd.func11, Tryd.ntmps11
  go_wp2
  go_loopw [11] (fun i wr => ∃ (k : Nat) (out : ByteArray) (acc : List UInt8), i = .int .i64 (k : Int) ∧ k ≤ l.length ∧ Bld w w.heap.size w.heap.size acc wr ∧ Half acc out ∧ acc.length ≤ k * 300000 ∧ jnF (l.drop k) out (decide (k = 0)) = J) (fun i _ => l.length - (intOf i).toNat)
  case atStart => exact ⟨0, ⟨#[]⟩, [], rfl, Nat.zero_le _, HN.out, .inl rfl, Nat.zero_le _, HJ.out.symm⟩
  case round =>
    obtain ⟨k, out, acc, rfl, hk, hbl, hh, hal, hj⟩ := hrel
    have hb := hbl.2.1
    have HB := Lib.hid hbl
    have HBW := Lib.hid hb
    have HTW := Lib.hid (HT.out.later hb)
    by_cases hp : k < l.length
    · obtain ⟨bb, bo, rfl, b0, b1, b2, b3⟩ := tok_cells (HR.out.below tkC_length hb) hp
      have hzz := HZ.out l[k] (List.getElem_mem hp)
      have hmm := HM.out l[k] (List.getElem_mem hp)
      obtain ⟨⟨k1, s1, n1, q1⟩, hX⟩ : ∃ X : Tok, X = l[k] := ⟨_, rfl⟩
      rw [List.drop_eq_getElem_cons hp, jnF] at hj
      rw [← hX] at b0 b1 b2 b3 hj hzz hmm
      dsimp only at b0 b1 b2 b3 hzz hmm
      have hws := wrB_size (k1, s1, n1, q1)
      dsimp only at hws
      have c1 := fun w hT => ltext_any k1 s1 n1 q1 (by unfold maxLen; omega) hmm hzz.2 w hT
      clear hb hbl hX
      rcases chE_or (k1, s1, n1, q1) with hC | hC
      · rw [if_pos hC] at hj
        have ht := txS_yes hC
        obtain ⟨W, hW⟩ : ∃ W, W = wrB (k1, s1, n1, q1) := ⟨_, rfl⟩
        rw [← hW] at ht hj hws
        simp only [hC, ← ht] at c1
        unfold tokV at c1
        dsimp only at c1
        have C1 := Lib.hid c1
        clear c1 hC ht hW
        by_cases h4 : 400 < acc.length
        · have t4 : decide ((acc.length : Int) > 400) = true := by rw [decide_eq_true_iff]; omega
          have hos := (half_len hh).1 h4
          have HJJ : Hid (∃ out', Half acc out' ∧ jnF (l.drop (k + 1)) out' (decide (k + 1 = 0)) = J) := Lib.hid (by
            refine ⟨_, .inr ⟨h4, ?_⟩, by rw [decide_eq_false (by omega)]; exact hj⟩
            split
            · rw [ByteArray.size_append]; omega
            · rw [ByteArray.size_append, ByteArray.size_append]; omega)
          clear hj hh
          go_wp2_with (first
            | (go_at_call 19; (with_reducible refine (C1.out _ (HTW.out.later (by (focus repeat (first | exact Below.refl _ _ | assumption | (exact Hid.out (by assumption)) | (with_reducible refine Below.drew ?_) | (with_reducible refine Base.below_drewN ?_ _) | (refine Below.from (below_one _) ?_) | (refine Below.from (below_conv _ _ _) ?_) | (refine Below.setCell ?_ (by simp <;> omega) _) | (refine Below.from (by assumption) ?_)))))).mono ?_); rintro e w1 ⟨rfl, p1⟩; have HB1 := Lib.hid (HB.out.below (Below.from p1 (below_one _))))
            | (go_at_call 21; (with_reducible refine (len_at _ _ _ _ _ HB1.out).mono ?_); rintro e w2 ⟨rfl, rfl⟩)
            | fail)
          obtain ⟨out', ho1, ho2⟩ := HJJ.out
          refine ⟨⟨k + 1, out', acc, by go_num, by omega, HB1.out, ho1, Nat.le_trans hal (Nat.mul_le_mul_right _ (Nat.le_succ k)), ho2⟩, ?_⟩
          simp [intOf]; omega
        · have t4 : decide ((acc.length : Int) > 400) = false := by rw [decide_eq_false_iff_not]; omega
          have hacc : acc = out.data.toList := by
            rcases hh with h | h
            · exact h
            · exact absurd h.1 h4
          by_cases hk0 : k = 0
          · rw [if_pos (by rw [decide_eq_true hk0])] at hj
            have ht0 : decide ((0 : Int) < (k : Int)) = false := by rw [decide_eq_false_iff_not]; omega
            have ht1 : decide ((k : Int) > 0) = false := by rw [decide_eq_false_iff_not]; omega
            have HK0 := Lib.hid hk0
            have HJJ : Hid (Half (acc ++ W.data.toList) (out ++ W) ∧ jnF (l.drop (k + 1)) (out ++ W) (decide (k + 1 = 0)) = J) := Lib.hid ⟨half_zero hacc, by rw [decide_eq_false (by omega)]; exact hj⟩
            have hsz : acc.length + W.size ≤ 140737488355328 := by omega
            clear hj hh hacc hk0
            go_wp2_with (first
              | (go_at_call 19; (with_reducible refine (C1.out _ (HTW.out.later (by (focus repeat (first | exact Below.refl _ _ | assumption | (exact Hid.out (by assumption)) | (with_reducible refine Below.drew ?_) | (with_reducible refine Base.below_drewN ?_ _) | (refine Below.from (below_one _) ?_) | (refine Below.from (below_conv _ _ _) ?_) | (refine Below.setCell ?_ (by simp <;> omega) _) | (refine Below.from (by assumption) ?_)))))).mono ?_); rintro e w1 ⟨rfl, p1⟩; have HB1 := Lib.hid (HB.out.below (Below.from p1 (below_one _))))
              | (go_at_call 21; (with_reducible refine (len_at _ _ _ _ _ HB1.out).mono ?_); rintro e w2 ⟨rfl, rfl⟩)
              | (go_at_call 23; (with_reducible refine (writeString_at _ _ _ _ _ W HB1.out hsz).mono ?_); rintro e w4 ⟨rfl, h5⟩)
              | fail)
            all_goals first | (exfalso; have := HK0.out; omega) | skip
            refine ⟨⟨k + 1, out ++ W, acc ++ W.data.toList, by go_num, by omega, h5, HJJ.out.1, by rw [List.length_append, ← Lib.size_eq]; omega, HJJ.out.2⟩, ?_⟩
            simp [intOf]; omega
          · rw [if_neg (by rw [decide_eq_false hk0]; simp)] at hj
            have ht0 : decide ((k : Int) > 0) = true := by rw [decide_eq_true_iff]; omega
            have HJJ : Hid (Half (acc ++ [32] ++ W.data.toList) (out ++ ⟨#[32]⟩ ++ W) ∧ jnF (l.drop (k + 1)) (out ++ ⟨#[32]⟩ ++ W) (decide (k + 1 = 0)) = J) := Lib.hid ⟨half_next hacc, by rw [decide_eq_false (by omega)]; exact hj⟩
            obtain ⟨acc2, ha2⟩ : ∃ a, acc ++ [32] = a := ⟨_, rfl⟩
            have hal2 : acc2.length = acc.length + 1 := by rw [← ha2]; simp
            have HA2 := Lib.hid ha2
            rw [ha2] at HJJ
            clear hj hh hacc ha2
            go_wp2_with (first
              | (go_at_call 19; (with_reducible refine (C1.out _ (HTW.out.later (by (focus repeat (first | exact Below.refl _ _ | assumption | (exact Hid.out (by assumption)) | (with_reducible refine Below.drew ?_) | (with_reducible refine Base.below_drewN ?_ _) | (refine Below.from (below_one _) ?_) | (refine Below.from (below_conv _ _ _) ?_) | (refine Below.setCell ?_ (by simp <;> omega) _) | (refine Below.from (by assumption) ?_)))))).mono ?_); rintro e w1 ⟨rfl, p1⟩; have HB1 := Lib.hid (HB.out.below (Below.from p1 (below_one _))))
              | (go_at_call 21; (with_reducible refine (len_at _ _ _ _ _ HB1.out).mono ?_); rintro e w2 ⟨rfl, rfl⟩)
              | (go_at_call 22; (with_reducible refine (writeByte_at _ _ _ _ _ 32 32 rfl HB1.out (by omega)).mono ?_); rintro e w3 ⟨rfl, h3⟩; have HB3 := Lib.hid (bld_eq h3 HA2.out); clear h3)
              | (go_at_call 23; (with_reducible refine (writeString_at _ _ _ _ _ W HB3.out (by omega)).mono ?_); rintro e w4 ⟨rfl, h5⟩)
              | fail)
            refine ⟨⟨k + 1, _, acc2 ++ W.data.toList, by go_num, by omega, h5, HJJ.out.1, by rw [List.length_append, ← Lib.size_eq]; omega, HJJ.out.2⟩, ?_⟩
            simp [intOf]; omega
      · rw [if_neg (by omega)] at hj
        have ht := txS_no hC
        simp only [hC, ← ht] at c1
        unfold tokV at c1
        dsimp only at c1
        have C1 := Lib.hid c1
        have HJJ := Lib.hid hj
        clear c1 hC ht hj hh
        go_wp2_with (first
          | (go_at_call 19; (with_reducible refine (C1.out _ (HTW.out.later (by (focus repeat (first | exact Below.refl _ _ | assumption | (exact Hid.out (by assumption)) | (with_reducible refine Below.drew ?_) | (with_reducible refine Base.below_drewN ?_ _) | (refine Below.from (below_one _) ?_) | (refine Below.from (below_conv _ _ _) ?_) | (refine Below.setCell ?_ (by simp <;> omega) _) | (refine Below.from (by assumption) ?_)))))).mono ?_); rintro e w1 ⟨rfl, p1⟩)
          | fail)
        go_ret2
        rw [← HJJ.out]
        refine ⟨rfl, ?_⟩
        (focus repeat (first | exact Below.refl _ _ | assumption | (exact Hid.out (by assumption)) | (with_reducible refine Below.drew ?_) | (with_reducible refine Base.below_drewN ?_ _) | (refine Below.from (below_one _) ?_) | (refine Below.from (below_conv _ _ _) ?_) | (refine Below.setCell ?_ (by simp <;> omega) _) | (refine Below.from (by assumption) ?_)))
    · rw [List.drop_eq_nil_of_le (by omega), jnF] at hj
      by_cases hbig : 400 < acc.length
      · rw [if_pos ((half_len hh).1 hbig)] at hj
        have t4 : decide ((acc.length : Int) > 400) = true := by rw [decide_eq_true_iff]; omega
        have HJJ := Lib.hid hj
        clear hj hb hbl hh
        go_wp2_with (first
          | (go_at_call 21; (with_reducible refine (len_at _ _ _ _ _ HB.out).mono ?_); rintro e w2 ⟨rfl, rfl⟩)
          | fail)
        go_ret2
        rw [← HJJ.out]
        exact ⟨rfl, HBW.out⟩
      · have t4 : decide ((acc.length : Int) > 400) = false := by rw [decide_eq_false_iff_not]; omega
        rw [if_neg (fun h => hbig ((half_len hh).2 h))] at hj
        have hacc : (⟨acc.toArray⟩ : ByteArray) = out := by
          rcases hh with h | h
          · apply ByteArray.ext; apply Array.toList_inj.1; rw [← h]
          · exact absurd h.1 hbig
        rw [← hacc] at hj
        have HJJ := Lib.hid hj
        clear hj hb hbl hh hacc
        go_wp2_with (first
          | (go_at_call 21; (with_reducible refine (len_at _ _ _ _ _ HB.out).mono ?_); rintro e w2 ⟨rfl, rfl⟩)
          | (go_at_call 24; (with_reducible refine (string_at _ _ _ _ _ HB.out).mono ?_); rintro e w4 ⟨rfl, p4⟩)
          | fail)
        go_ret2
        rw [← HJJ.out]
        exact ⟨rfl, p4⟩

end Go.Proofs.YtejppikbdplamaaDoor.Lex
