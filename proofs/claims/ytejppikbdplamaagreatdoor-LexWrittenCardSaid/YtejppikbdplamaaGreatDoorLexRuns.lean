/-
  The walks of the document's own runs of runes, numbers.
-/
import Derived.Test.YtejppikbdplamaaGreatDoorLexMath
namespace Go.Proofs.YtejppikbdplamaaGreatDoor.Lex
open Go.RowKit
open Base Runes
set_option linter.unusedVariables false

theorem info_rune : (Tryz.prog.info? 21).map (fun i => (i.zero, i.size, i.bytes)) = some (some (.int .i32 0), 1, 4) := by kernel_rfl
theorem one_rune {w : World} {n : Nat} {val : Value} (x : Nat) (hn : n = w.heap.size) (hv : val = rV x) : Reads rV (w.alloc (.cells #[val] 21)) (some ⟨n, 0, none⟩) [x] := by
  subst hv; exact reads_one hn x _

set_option maxRecDepth 100000 in
set_option maxHeartbeats 1000000 in
theorem rrunes_any (s : ByteArray) (hs : s.size ≤ 1000000) (w : World) :
    Calls Tryz.prog 29 #[.string s] w fun e w' => ∃ ao cap, e = .returned (.slice ao (rn s).length cap) ∧ Reads rV w' ao (rn s) ∧ (ao = none → cap = 0) ∧ (rn s).length ≤ cap ∧ cap ≤ maxLen ∧ Below w.heap.size w w' := by
  obtain ⟨i0, hi, hz0, hz1, hz2⟩ := info_parts info_rune
  have HI := Lib.hid hi
  have HZ0 := Lib.hid hz0
  have HZ1 := Lib.hid hz1
  have HZ2 := Lib.hid hz2
  clear hi hz0 hz1 hz2
  go_enter Tryz.func29, Tryz.ntmps29
  go_wp2
  go_loopw [3] (fun v wr => ∃ (pos : Nat) (zs : List Nat), wr.heap[w.heap.size]? = some (.stringIter s pos) ∧ Own rV (w.heap.size + 1) 21 v zs wr ∧ Below w.heap.size w wr ∧ zs ++ (ps s pos).map (·.1) = rn s ∧ pos ≤ s.size ∧ zs.length ≤ pos) (fun _ wr => s.size - wr.iterPos w.heap.size)
  case atStart => exact ⟨0, [], World.iter_heap w s 0, Own.nil (by unfold World.iter; simp), below_iter w s 0, rfl, Nat.zero_le _, Nat.le_refl _⟩
  case round =>
    obtain ⟨pos, zs, hit, ho, hb, hc, hp0, hzl⟩ := hrel
    by_cases hp : pos < s.size
    · have hnx : ∀ ty, (Instr.next (.pointer (some ⟨w.heap.size, 0, none⟩)) true ty).run Tryz.prog wr = _ := fun ty => Lib.run_next_any_at wr w.heap.size s pos ty hit hp
      have hwd := ps_width s pos hp
      have hm0 : wr.iterPos w.heap.size = pos := by simp [World.iterPos, hit]
      have ho2 := ho.kept (grown_iterAt wr w.heap.size s (pos + (Utf8.decode s pos).2)) (fun k hk => by cases hk; omega)
      have hit2 := Lib.iterAt_heap wr w.heap.size s pos (pos + (Utf8.decode s pos).2) hit
      have hb2 := Lib.below_iterAt hb (Nat.le_refl _) s (pos + (Utf8.decode s pos).2)
      have hlt := lt_of_heap hit2
      rw [ps_step s pos hp, List.map_cons] at hc
      have HC : Hid ((zs ++ [(Utf8.decode s pos).1]) ++ (ps s (pos + (Utf8.decode s pos).2)).map (·.1) = rn s) := Lib.hid (by rw [← hc]; simp)
      have HO := Lib.hid ho2
      have HT := Lib.hid hit2
      have HB := Lib.hid hb2
      clear hc ho ho2 hit2 hb2 hb
      go_wp2_with (first
        | (at_builtin; refine wpList_append_src rfl (.tmp 11) (.tmp 13) 63 rfl i0 _ 4 Tryz.underlying63 HI.out HZ0.out HZ1.out HZ2.out rfl (fun _ => rfl) rfl (HO.out.alloc _) _ 1 1 [(Utf8.decode s pos).1] rfl rfl (one_rune _ rfl rfl) (by intro h; cases h) (by omega) (by unfold maxLen; omega) ?_; intro v4 w4 o4 b4)
        | fail)
      have ht4 : w4.heap[w.heap.size]? = some (.stringIter s (pos + (Utf8.decode s pos).2)) := by
        rw [b4.block _ (Nat.lt_succ_self _), Lib.alloc_old _ _ _ hlt]; exact HT.out
      refine ⟨⟨_, zs ++ [(Utf8.decode s pos).1], ht4, o4, (HB.out.alloc (by omega) _).trans (b4.mono (by omega)), HC.out, hwd.2.1, by simp; omega⟩, ?_⟩
      have hm4 : w4.iterPos w.heap.size = pos + (Utf8.decode s pos).2 := by simp [World.iterPos, ht4]
      rw [hm0, hm4]; omega
    · have hnx : ∀ ty, (Instr.next (.pointer (some ⟨w.heap.size, 0, none⟩)) true ty).run Tryz.prog wr = _ := fun ty => Lib.run_next_end_at wr w.heap.size s pos ty hit hp
      rw [ps_end s pos hp, List.map_nil, List.append_nil] at hc
      have HB := Lib.hid hb
      have HC := Lib.hid hc
      obtain ⟨ao, cap, rfl, hr, hn, hc1, hc2⟩ := ho.value
      have HR := Lib.hid hr
      have HN := Lib.hid hn
      clear hb hc ho hr hn
      go_wp2
      go_ret
      exact ⟨ao, cap, congrArg (fun n => Ending.returned (.slice ao n cap)) (by rw [HC.out]), by rw [← HC.out]; exact HR.out, HN.out, by rw [← HC.out]; exact hc1, hc2, HB.out⟩

theorem rsmall_any (r : Nat) (w : World) :
    Calls Tryz.prog 68 #[.int .i32 (r : Int)] w fun e w' => e = .returned (.bool (smallR r)) ∧ w = w' := by
  have hsm : smallR r = true ↔ ((48 : Int) ≤ (r : Int) ∧ (r : Int) ≤ 57) ∨ ((97 : Int) ≤ (r : Int) ∧ (r : Int) ≤ 122) := by unfold smallR; rw [decide_eq_true_iff]; omega
  obtain ⟨b, hb⟩ : ∃ b, b = smallR r := ⟨_, rfl⟩
  rw [← hb] at hsm ⊢
  have HS := Lib.hid hsm
  clear hb hsm
  go_enter Tryz.func68, Tryz.ntmps68
  go_wp2
  all_goals
    go_ret
    refine ⟨ret_bool ?_, rfl⟩
    rw [Bool.eq_iff_iff, HS.out]
    first | (simp [*]; done) | (simp [*]; omega) | (simp; omega)

set_option maxHeartbeats 1000000 in
theorem rplain_any (ao : Option Addr) (cap : Nat) (R : List Nat) (w : World) (hl : R.length ≤ maxLen) (hr : Reads rV w ao R) :
    Calls Tryz.prog 50 #[.slice ao R.length cap] w fun e w' => e = .returned (.bool (anyL R)) ∧ w = w' := by
  unfold maxLen at hl
  have HR := Lib.hid hr
  clear hr
  go_enter Tryz.func50, Tryz.ntmps50
  go_wp2
  go_loopw [3] (fun i wr => ∃ k : Nat, i = .int .i64 (k : Int) ∧ k ≤ R.length ∧ anyL (R.drop k) = anyL R ∧ w = wr) (fun i _ => R.length - (intOf i).toNat)
  case atStart => exact ⟨0, rfl, Nat.zero_le _, rfl, rfl⟩
  case round =>
    obtain ⟨k, rfl, hk, ha, rfl⟩ := hrel
    by_cases hp : k < R.length
    · obtain ⟨b, off, rfl, hc⟩ := HR.out.at_ hp
      obtain ⟨x, hx⟩ : ∃ x, x = R[k] := ⟨_, rfl⟩
      rw [← hx] at hc
      unfold rV at hc
      rw [List.drop_eq_getElem_cons hp, ← hx] at ha
      simp only [anyL, List.any_cons] at ha
      by_cases h97 : 97 ≤ x
      · rw [decide_eq_true h97, Bool.true_or] at ha
        have HA : Hid (true = anyL R) := Lib.hid ha
        clear ha
        go_wp2
        go_ret
        exact ⟨ret_bool HA.out, rfl⟩
      · rw [decide_eq_false h97, Bool.false_or] at ha
        have HA : Hid (anyL (R.drop (k + 1)) = anyL R) := Lib.hid ha
        clear ha
        go_wp2
        refine ⟨⟨k + 1, by go_num, by omega, HA.out, by first | rfl | trivial⟩, ?_⟩
        simp [intOf]; omega
    · rw [List.drop_eq_nil_of_le (by omega)] at ha
      have HA : Hid (false = anyL R) := Lib.hid ha
      clear ha
      go_wp2
      go_ret
      exact ⟨ret_bool HA.out, rfl⟩

set_option maxRecDepth 100000 in
set_option maxHeartbeats 2000000 in
theorem rend_any (ao : Option Addr) (cap : Nat) (R : List Nat) (p : Nat) (w : World) (hl : R.length ≤ 1000000) (hp : p < R.length) (hr : Reads rV w ao R) :
    Calls Tryz.prog 48 #[.slice ao R.length cap, .int .i64 (p : Int)] w fun e w' => e = .returned (.int .i64 (endR R p : Nat)) ∧ w = w' := by
  have HR := Lib.hid hr
  clear hr
  obtain ⟨b0, off0, hao, hc0⟩ := HR.out.at_ hp
  obtain ⟨z, hz⟩ : ∃ z, z = R[p] := ⟨_, rfl⟩
  have hgz : R.getD p 0 = z := by rw [hz]; simp [List.getD, List.getElem?_eq_getElem hp]
  rw [← hz] at hc0
  unfold rV at hc0
  subst hao
  have hE : endR R p = p + 1 + runN (contR z) (R.drop (p + 1)) := by unfold endR; rw [hgz]
  obtain ⟨E, hE2⟩ : ∃ E, E = endR R p := ⟨_, rfl⟩
  rw [← hE2] at hE ⊢
  have HE := Lib.hid hE
  clear hE hE2 hz hgz
  go_enter Tryz.func48, Tryz.ntmps48
  go_wp2_with (first | (go_at_call 30; (with_reducible refine (rclass_any _ _).mono ?_); rintro e w' ⟨rfl, rfl⟩) | fail)
  go_loopw [6] (fun i wr => ∃ k : Nat, i = .int .i64 (k : Int) ∧ p + 1 ≤ k ∧ k ≤ R.length ∧ k + runN (contR z) (R.drop k) = E ∧ w = wr) (fun i _ => R.length - (intOf i).toNat)
  case atStart => exact ⟨p + 1, by go_num, Nat.le_refl _, by omega, HE.out.symm, rfl⟩
  case round =>
    obtain ⟨k, rfl, hk1, hk, hE, rfl⟩ := hrel
    by_cases hk2 : k < R.length
    · obtain ⟨b, off, hbo, hc⟩ := HR.out.at_ hk2
      obtain ⟨rfl, rfl⟩ : b0 = b ∧ off0 = off := by simpa using hbo
      obtain ⟨x, hx⟩ : ∃ x, x = R[k] := ⟨_, rfl⟩
      rw [← hx] at hc
      unfold rV at hc
      rw [List.drop_eq_getElem_cons hk2, ← hx, runN] at hE
      have hgo : contR z x = true → k + 1 + runN (contR z) (R.drop (k + 1)) = E := fun h => by rw [if_pos h] at hE; omega
      have hst : contR z x = false → (k : Int) = (E : Nat) := fun h => by rw [h] at hE; simp at hE; omega
      clear hE hx
      by_cases hz2 : cls (z : Int) = 2
      · have hcw : contR z x = wordR x := by unfold contR; rw [if_pos hz2]
        rw [hcw] at hgo hst
        have tz : (cls (z : Int) == 2) = true := by rw [beq_iff_eq]; exact hz2
        have tz3 : (cls (z : Int) == 3) = false := by rw [beq_eq_false_iff_ne]; omega
        by_cases hx2 : cls (x : Int) = 2
        · have HG := Lib.hid (hgo (by unfold wordR; rw [decide_eq_true_iff]; exact .inl hx2))
          have t1 : (cls (x : Int) != 2) = false := by rw [bne_eq_false_iff_eq]; exact hx2
          clear hgo hst hcw hz2
          go_wp2_with (first | (go_at_call 30; (with_reducible refine (rclass_any _ _).mono ?_); rintro e w' ⟨rfl, rfl⟩) | fail)
          refine ⟨⟨k + 1, by go_num, by omega, by omega, HG.out, by first | rfl | trivial⟩, ?_⟩
          simp [intOf]; omega
        · have t1 : (cls (x : Int) != 2) = true := by rw [bne_iff_ne]; exact hx2
          by_cases hx3 : cls (x : Int) = 3
          · have HG := Lib.hid (hgo (by unfold wordR; rw [decide_eq_true_iff]; exact .inr (.inl hx3)))
            have t2 : (cls (x : Int) != 3) = false := by rw [bne_eq_false_iff_eq]; exact hx3
            clear hgo hst hcw hz2
            go_wp2_with (first | (go_at_call 30; (with_reducible refine (rclass_any _ _).mono ?_); rintro e w' ⟨rfl, rfl⟩) | fail)
            refine ⟨⟨k + 1, by go_num, by omega, by omega, HG.out, by first | rfl | trivial⟩, ?_⟩
            simp [intOf]; omega
          · have t2 : (cls (x : Int) != 3) = true := by rw [bne_iff_ne]; exact hx3
            by_cases hx45 : x = 45
            · have HG := Lib.hid (hgo (by unfold wordR; rw [decide_eq_true_iff]; exact .inr (.inr (.inl hx45))))
              have t3 : ((x : Int) != 45) = false := by rw [bne_eq_false_iff_eq]; omega
              clear hgo hst hcw hz2
              go_wp2_with (first | (go_at_call 30; (with_reducible refine (rclass_any _ _).mono ?_); rintro e w' ⟨rfl, rfl⟩) | fail)
              refine ⟨⟨k + 1, by go_num, by omega, by omega, HG.out, by first | rfl | trivial⟩, ?_⟩
              simp [intOf]; omega
            · have t3 : ((x : Int) != 45) = true := by rw [bne_iff_ne]; omega
              by_cases hx95 : x = 95
              · have HG := Lib.hid (hgo (by unfold wordR; rw [decide_eq_true_iff]; exact .inr (.inr (.inr hx95))))
                have t4 : ((x : Int) != 95) = false := by rw [bne_eq_false_iff_eq]; omega
                clear hgo hst hcw hz2
                go_wp2_with (first | (go_at_call 30; (with_reducible refine (rclass_any _ _).mono ?_); rintro e w' ⟨rfl, rfl⟩) | fail)
                refine ⟨⟨k + 1, by go_num, by omega, by omega, HG.out, by first | rfl | trivial⟩, ?_⟩
                simp [intOf]; omega
              · have HS := Lib.hid (hst (by unfold wordR; rw [decide_eq_false_iff_not]; rintro (h | h | h | h) <;> omega))
                have t4 : ((x : Int) != 95) = true := by rw [bne_iff_ne]; omega
                clear hgo hst hcw hz2
                go_wp2_with (first | (go_at_call 30; (with_reducible refine (rclass_any _ _).mono ?_); rintro e w' ⟨rfl, rfl⟩) | fail)
                go_ret
                exact ⟨ret_int HS.out, rfl⟩
      · have tz : (cls (z : Int) == 2) = false := by rw [beq_eq_false_iff_ne]; exact hz2
        by_cases hz3 : cls (z : Int) = 3
        · have tz3 : (cls (z : Int) == 3) = true := by rw [beq_iff_eq]; exact hz3
          have hcw : contR z x = smallR x := by unfold contR; rw [if_neg hz2, if_pos hz3]
          rw [hcw] at hgo hst
          cases hsm : smallR x with
          | true =>
            have HG := Lib.hid (hgo hsm)
            clear hgo hst hcw hz2 hz3
            go_wp2_with (first
              | (go_at_call 30; (with_reducible refine (rclass_any _ _).mono ?_); rintro e w' ⟨rfl, rfl⟩)
              | (go_at_call 68; (with_reducible refine (rsmall_any x _).mono ?_); rintro e w' ⟨rfl, rfl⟩)
              | fail)
            refine ⟨⟨k + 1, by go_num, by omega, by omega, HG.out, by first | rfl | trivial⟩, ?_⟩
            simp [intOf]; omega
          | false =>
            have HS := Lib.hid (hst hsm)
            clear hgo hst hcw hz2 hz3
            go_wp2_with (first
              | (go_at_call 30; (with_reducible refine (rclass_any _ _).mono ?_); rintro e w' ⟨rfl, rfl⟩)
              | (go_at_call 68; (with_reducible refine (rsmall_any x _).mono ?_); rintro e w' ⟨rfl, rfl⟩)
              | fail)
            go_ret
            exact ⟨ret_int HS.out, rfl⟩
        · have tz3 : (cls (z : Int) == 3) = false := by rw [beq_eq_false_iff_ne]; exact hz3
          have HG := Lib.hid (hgo (by unfold contR; rw [if_neg hz2, if_neg hz3]))
          clear hgo hst hz2 hz3
          go_wp2_with (first
            | (go_at_call 30; (with_reducible refine (rclass_any _ _).mono ?_); rintro e w' ⟨rfl, rfl⟩)
            | fail)
          refine ⟨⟨k + 1, by go_num, by omega, by omega, HG.out, by first | rfl | trivial⟩, ?_⟩
          simp [intOf]; omega
    · rw [List.drop_eq_nil_of_le (by omega), runN] at hE
      have HS : Hid ((k : Int) = (E : Nat)) := Lib.hid (by omega)
      clear hE
      go_wp2
      go_ret
      exact ⟨ret_int HS.out, rfl⟩

end Go.Proofs.YtejppikbdplamaaGreatDoor.Lex
