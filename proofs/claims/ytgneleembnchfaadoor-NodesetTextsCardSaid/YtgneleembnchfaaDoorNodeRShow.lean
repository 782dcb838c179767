/-
  The walk of the document's own Show (musterref09).
-/
import Derived.Test.YtgneleembnchfaaDoorNodeRDig
namespace Go.Proofs.YtgneleembnchfaaDoor.Node
open Go.RowKit
open Base
set_option linter.unusedVariables false
set_option linter.unusedSimpArgs false

theorem s44 : (⟨#[44]⟩ : ByteArray).size = 1 := rfl
theorem s45 : (⟨#[45]⟩ : ByteArray).size = 1 := rfl
theorem dz (i : Nat) (h : i = 0) : decide ((0 : Int) < (i : Int)) = false ∧ decide (0 < i) = false := by subst h; exact ⟨rfl, rfl⟩
theorem dp (i : Nat) (h : ¬ i = 0) : decide ((0 : Int) < (i : Int)) = true ∧ decide (0 < i) = true := ⟨decide_eq_true (by omega), decide_eq_true (by omega)⟩
theorem dk (i k : Nat) (h : i = k) : decide ((i : Int) < (k : Int)) = false ∧ decide (i < k) = false := ⟨decide_eq_false (by omega), decide_eq_false (by omega)⟩
theorem dl (i k : Nat) (h1 : i ≤ k) (h : ¬ i = k) : decide ((i : Int) < (k : Int)) = true ∧ decide (i < k) = true := ⟨decide_eq_true (by omega), decide_eq_true (by omega)⟩
theorem lt_of_ne (i k : Nat) (h1 : i ≤ k) (h : ¬ i = k) : i < k := by omega
theorem beq_next (y c : Nat) (h : y = c + 1) : ((y : Int) == (c : Int) + 1) = true := by rw [beq_iff_eq]; omega
theorem beq_not (y c : Nat) (h : ¬ y = c + 1) : ((y : Int) == (c : Int) + 1) = false := by rw [beq_eq_false_iff_ne]; omega

set_option maxRecDepth 100000 in
set_option maxHeartbeats 8000000 in
theorem rshow_any (S : Nat) (hS : S < 18446744073709551616) (s : Int) (hs : s = (S : Int)) (w : World) :
    Calls Tryd.prog 26 #[.int .u64 s] w fun e w' => e = .returned (.string ⟨(showT (mem S)).toArray⟩) ∧ Below w.heap.size w w' := by
  have C := Lib.hid (fun w => rlist_any S hS s hs w)
  have hl64 := mem_length_le S
  have HB64 := Lib.hid (fun n hn => mem_lt S n hn)
  have HSO := Lib.hid (mem_sorted S)
  have HJ : Hid (showT (mem S) = if mem S = [] then [45] else restR (mem S) 0) := Lib.hid (by unfold showT restR; rfl)
  obtain ⟨l, hl⟩ : ∃ l, l = mem S := ⟨_, rfl⟩
  rw [← hl] at C hl64 HB64 HSO HJ ⊢
  clear hl hs
  obtain ⟨T, hT⟩ : ∃ T, T = showT l := ⟨_, rfl⟩
  rw [← hT] at HJ ⊢
  clear hT
  by_cases hne : l = []
  · rw [if_pos hne] at HJ
    subst hne
    go_enter Tryd.func26, Tryd.ntmps26
    go_wp2_with (first
      | (go_at_call 11; (with_reducible refine (C.out _).mono ?_); rintro e w1 ⟨ao, cap, rfl, hr, hn, hc, hm, hb⟩; have HB := Lib.hid hb; clear hr hn hb)
      | fail)
    go_ret
    exact ⟨by rw [HJ.out]; rfl, HB.out⟩
  · rw [if_neg hne] at HJ
    have hpos : 0 < l.length := List.length_pos_iff.2 hne
    have h1 : ((l.length : Int) == 0) = false := by rw [beq_eq_false_iff_ne]; omega
    have h1b : (l.length == 0) = false := by rw [beq_eq_false_iff_ne]; omega
    go_enter Tryd.func26, Tryd.ntmps26
    go_wp2_with (first
      | (go_at_call 11; (with_reducible refine (C.out _).mono ?_); rintro e w1 ⟨ao, cap, rfl, hr, hn, hc, hm, hb⟩; have HB := Lib.hid hb; have HRD := Lib.hid hr; clear hr hn hb)
      | fail)
    obtain ⟨b, off, rfl, _⟩ := HRD.out.at_ (k := 0) (by rw [ints_length]; exact hpos)
    go_loopw [5, 4] (fun iv ov wr => ∃ (i : Nat) (Z : ByteArray), iv = .int .i64 (i : Int) ∧ ov = .string Z ∧ i ≤ l.length ∧ Z.data.toList ++ restR l i = T ∧ Z.size ≤ 10 * i ∧ Below w1.heap.size w1 wr) (fun iv _ _ => l.length - (intOf iv).toNat)
    case atStart => exact ⟨0, ⟨#[]⟩, rfl, rfl, by omega, HJ.out.symm, Nat.le_refl _, Below.refl _ _⟩
    case round =>
      obtain ⟨i, Z, rfl, rfl, hi, ho, hz, hb⟩ := hrel
      have HO := Lib.hid ho
      have HBI := Lib.hid hb
      clear ho hb
      by_cases hlt : i < l.length
      · go_wp2
        go_loopw [6] (fun kv wj => ∃ k : Nat, kv = .int .i64 (k : Int) ∧ i ≤ k ∧ (∃ hk : k < l.length, runs (l.drop i) = first (l[i]'hlt) (runs (l.drop k))) ∧ Below w1.heap.size w1 wj) (fun kv _ => l.length - (intOf kv).toNat)
        case atStart => exact ⟨i, rfl, Nat.le_refl _, ⟨hlt, first_self l i hlt⟩, HBI.out⟩
        case round =>
          obtain ⟨k, rfl, hik, ⟨hk, hf⟩, hb⟩ := hrel
          have HBK := Lib.hid hb
          have HF := Lib.hid hf
          clear hb hf
          have ha64 := HB64.out l[i] (List.getElem_mem hlt)
          have hc64 := HB64.out l[k] (List.getElem_mem hk)
          have ca := nat_at (HRD.out.below HBK.out) hlt
          have cc := nat_at (HRD.out.below HBK.out) hk
          have HOFF : Hid ((∀ h : k + 1 < l.length, l[k + 1] ≠ l[k] + 1) → runs (l.drop i) = (l[i], l[k]) :: runs (l.drop (k + 1))) := Lib.hid (fun h => first_off l i k _ hk h HF.out)
          have HSTEP := Lib.hid (rest_step l i k hlt hk)
          have HAC : Hid (i < k → l[i] ≠ l[k]) := Lib.hid (fun h => by
            have := List.pairwise_iff_getElem.1 HSO.out i k hlt hk h
            omega)
          have HON : Hid (∀ h : k + 1 < l.length, l[k + 1] = l[k] + 1 → runs (l.drop i) = first l[i] (runs (l.drop (k + 1)))) := Lib.hid (fun h e => first_on l i k _ h e HF.out)
          have hkk : i = k → l[i] = l[k] := fun e => by subst e; rfl
          have HKK := Lib.hid hkk
          have D1 := Lib.hid (fun w => rdigits_any l[i] ha64 w)
          have D2 := Lib.hid (fun w => rdigits_any l[k] hc64 w)
          have da := dec_length l[i]
          have dc := dec_length l[k]
          have HN : Hid (∀ h : k + 1 < l.length, ∃ y, l[k + 1] = y ∧ y < 64) := Lib.hid (fun h => ⟨_, rfl, HB64.out _ (List.getElem_mem h)⟩)
          clear hkk
          obtain ⟨a, hA⟩ : ∃ a, a = l[i] := ⟨_, rfl⟩
          obtain ⟨c, hC⟩ : ∃ c, c = l[k] := ⟨_, rfl⟩
          rw [← hA] at ha64 ca HOFF HSTEP HAC HKK D1 da
          rw [← hC] at hc64 cc HOFF HSTEP HAC HON HKK D2 dc
          have hda : (⟨(dec a).toArray⟩ : ByteArray).size = (dec a).length := by rw [Lib.size_eq]
          have hdc : (⟨(dec c).toArray⟩ : ByteArray).size = (dec c).length := by rw [Lib.size_eq]
          have i0 : (0 : Int) ≤ (i : Int) := by omega
          have i1 : (i : Int) < ((l.length : Nat) : Int) := by omega
          have k0 : (0 : Int) ≤ (k : Int) := by omega
          have k1 : (k : Int) < ((l.length : Nat) : Int) := by omega
          by_cases hn : k + 1 < l.length
          · obtain ⟨y, hy, hy64⟩ := HN.out hn
            have cy := nat_at (HRD.out.below HBK.out) hn
            have HOFF2 := Lib.hid (fun (h : y ≠ c + 1) => HOFF.out (fun h2 => by rw [hy]; exact h))
            have HON2 := Lib.hid (HON.out hn)
            rw [hy] at cy HON2
            have n1 : decide ((k : Int) + 1 < (l.length : Int)) = true := decide_eq_true (by omega)
            have n2 : decide (k + 1 < l.length) = true := decide_eq_true hn
            have n3 : (0 : Int) ≤ (k : Int) + 1 := by omega
            have n4 : (k : Int) + 1 < ((l.length : Nat) : Int) := by omega
            have ey : ((k : Int) + 1).toNat = k + 1 := by omega
            by_cases he : y = c + 1
            · have t1 : ((y : Int) == (c : Int) + 1) = true := beq_next y c he
              have HQ := Lib.hid (HON2.out he)
              clear HON HON2 HOFF HOFF2 HSTEP HAC HKK HF HN hy hA hC he
              go_wp2
              go_quiet (fail)
              go_wp2
              refine ⟨⟨k + 1, by go_num, Nat.le_succ_of_le hik, ⟨hn, HQ.out⟩, Base.below_drewN HBK.out _⟩, ?_⟩
              simp [intOf]; exact Nat.sub_lt_sub_left hk (Nat.lt_succ_self k)
            · have t1 : ((y : Int) == (c : Int) + 1) = false := beq_not y c he
              have HX := Lib.hid (HOFF2.out he)
              clear HON2 HOFF2 he hy
              have HR := Lib.hid (HSTEP.out HX.out)
              have cad : ∀ n, (wr.drewN n).cell? ⟨b, off + i, none⟩ = some (.int .i64 (a : Int)) := fun n => ca
              have ccd : ∀ n, (wr.drewN n).cell? ⟨b, off + k, none⟩ = some (.int .i64 (c : Int)) := fun n => cc
              clear HX HSTEP HOFF HON HF HN hA hC
              by_cases hi0 : i = 0
              · obtain ⟨e1, e2⟩ := dz i hi0
                rw [if_pos hi0, List.nil_append] at HR
                by_cases hkk : i = k
                · obtain ⟨e3, e4⟩ := dk i k hkk
                  rw [if_pos (HKK.out hkk), List.append_nil] at HR
                  clear HKK HAC hkk hi0
                  go_wp2
                  go_quiet (fail)
                  go_wp2_with (first
                    | (go_at_call 38; (with_reducible refine (D1.out _).mono ?_); rintro e w2 ⟨rfl, p2⟩)
                    | fail)
                  refine ⟨⟨k + 1, _, by go_num, rfl, Nat.succ_le_of_lt hk, ?_, by simp only [ByteArray.size_append, hda, hdc, s44, s45]; omega, p2.from (Base.below_drewN HBK.out _)⟩, ?_⟩
                  · rw [← HO.out, HR.out]; simp [ByteArray.data_append, List.append_assoc]
                  · simp [intOf]; exact Nat.sub_lt_sub_left hlt (Nat.lt_succ_of_le hik)
                · obtain ⟨e3, e4⟩ := dl i k hik hkk
                  rw [if_neg (HAC.out (lt_of_ne i k hik hkk))] at HR
                  clear HKK HAC hkk hi0
                  go_wp2
                  go_quiet (fail)
                  go_wp2_with (first
                    | (go_at_call 38; (with_reducible refine (D1.out _).mono ?_); rintro e w2 ⟨rfl, p2⟩; have cc2 := cell_below (ccd _) p2)
                    | (go_at_call 38; (with_reducible refine (D2.out _).mono ?_); rintro e w3 ⟨rfl, p3⟩)
                    | fail)
                  refine ⟨⟨k + 1, _, by go_num, rfl, Nat.succ_le_of_lt hk, ?_, by simp only [ByteArray.size_append, hda, hdc, s44, s45]; omega, p3.from (p2.from (Base.below_drewN HBK.out _))⟩, ?_⟩
                  · rw [← HO.out, HR.out]; simp [ByteArray.data_append, List.append_assoc]
                  · simp [intOf]; exact Nat.sub_lt_sub_left hlt (Nat.lt_succ_of_le hik)
              · obtain ⟨e1, e2⟩ := dp i hi0
                rw [if_neg hi0] at HR
                by_cases hkk : i = k
                · obtain ⟨e3, e4⟩ := dk i k hkk
                  rw [if_pos (HKK.out hkk), List.append_nil] at HR
                  clear HKK HAC hkk hi0
                  go_wp2
                  go_quiet (fail)
                  go_wp2_with (first
                    | (go_at_call 38; (with_reducible refine (D1.out _).mono ?_); rintro e w2 ⟨rfl, p2⟩)
                    | fail)
                  refine ⟨⟨k + 1, _, by go_num, rfl, Nat.succ_le_of_lt hk, ?_, by simp only [ByteArray.size_append, hda, hdc, s44, s45]; omega, p2.from (Base.below_drewN HBK.out _)⟩, ?_⟩
                  · rw [← HO.out, HR.out]; simp [ByteArray.data_append, List.append_assoc]
                  · simp [intOf]; exact Nat.sub_lt_sub_left hlt (Nat.lt_succ_of_le hik)
                · obtain ⟨e3, e4⟩ := dl i k hik hkk
                  rw [if_neg (HAC.out (lt_of_ne i k hik hkk))] at HR
                  clear HKK HAC hkk hi0
                  go_wp2
                  go_quiet (fail)
                  go_wp2_with (first
                    | (go_at_call 38; (with_reducible refine (D1.out _).mono ?_); rintro e w2 ⟨rfl, p2⟩; have cc2 := cell_below (ccd _) p2)
                    | (go_at_call 38; (with_reducible refine (D2.out _).mono ?_); rintro e w3 ⟨rfl, p3⟩)
                    | fail)
                  refine ⟨⟨k + 1, _, by go_num, rfl, Nat.succ_le_of_lt hk, ?_, by simp only [ByteArray.size_append, hda, hdc, s44, s45]; omega, p3.from (p2.from (Base.below_drewN HBK.out _))⟩, ?_⟩
                  · rw [← HO.out, HR.out]; simp [ByteArray.data_append, List.append_assoc]
                  · simp [intOf]; exact Nat.sub_lt_sub_left hlt (Nat.lt_succ_of_le hik)
          · have n1 : decide ((k : Int) + 1 < (l.length : Int)) = false := decide_eq_false (by omega)
            have n2 : decide (k + 1 < l.length) = false := decide_eq_false hn
            have HX := Lib.hid (HOFF.out (fun h => absurd h hn))
            have HR := Lib.hid (HSTEP.out HX.out)
            have cad : ∀ n, (wr.drewN n).cell? ⟨b, off + i, none⟩ = some (.int .i64 (a : Int)) := fun n => ca
            have ccd : ∀ n, (wr.drewN n).cell? ⟨b, off + k, none⟩ = some (.int .i64 (c : Int)) := fun n => cc
            clear HX HSTEP HOFF HON HF HN hA hC
            by_cases hi0 : i = 0
            · obtain ⟨e1, e2⟩ := dz i hi0
              rw [if_pos hi0, List.nil_append] at HR
              by_cases hkk : i = k
              · obtain ⟨e3, e4⟩ := dk i k hkk
                rw [if_pos (HKK.out hkk), List.append_nil] at HR
                clear HKK HAC hkk hi0
                go_wp2
                go_quiet (fail)
                go_wp2_with (first
                  | (go_at_call 38; (with_reducible refine (D1.out _).mono ?_); rintro e w2 ⟨rfl, p2⟩)
                  | fail)
                refine ⟨⟨k + 1, _, by go_num, rfl, Nat.succ_le_of_lt hk, ?_, by simp only [ByteArray.size_append, hda, hdc, s44, s45]; omega, p2.from (Base.below_drewN HBK.out _)⟩, ?_⟩
                · rw [← HO.out, HR.out]; simp [ByteArray.data_append, List.append_assoc]
                · simp [intOf]; exact Nat.sub_lt_sub_left hlt (Nat.lt_succ_of_le hik)
              · obtain ⟨e3, e4⟩ := dl i k hik hkk
                rw [if_neg (HAC.out (lt_of_ne i k hik hkk))] at HR
                clear HKK HAC hkk hi0
                go_wp2
                go_quiet (fail)
                go_wp2_with (first
                  | (go_at_call 38; (with_reducible refine (D1.out _).mono ?_); rintro e w2 ⟨rfl, p2⟩; have cc2 := cell_below (ccd _) p2)
                  | (go_at_call 38; (with_reducible refine (D2.out _).mono ?_); rintro e w3 ⟨rfl, p3⟩)
                  | fail)
                refine ⟨⟨k + 1, _, by go_num, rfl, Nat.succ_le_of_lt hk, ?_, by simp only [ByteArray.size_append, hda, hdc, s44, s45]; omega, p3.from (p2.from (Base.below_drewN HBK.out _))⟩, ?_⟩
                · rw [← HO.out, HR.out]; simp [ByteArray.data_append, List.append_assoc]
                · simp [intOf]; exact Nat.sub_lt_sub_left hlt (Nat.lt_succ_of_le hik)
            · obtain ⟨e1, e2⟩ := dp i hi0
              rw [if_neg hi0] at HR
              by_cases hkk : i = k
              · obtain ⟨e3, e4⟩ := dk i k hkk
                rw [if_pos (HKK.out hkk), List.append_nil] at HR
                clear HKK HAC hkk hi0
                go_wp2
                go_quiet (fail)
                go_wp2_with (first
                  | (go_at_call 38; (with_reducible refine (D1.out _).mono ?_); rintro e w2 ⟨rfl, p2⟩)
                  | fail)
                refine ⟨⟨k + 1, _, by go_num, rfl, Nat.succ_le_of_lt hk, ?_, by simp only [ByteArray.size_append, hda, hdc, s44, s45]; omega, p2.from (Base.below_drewN HBK.out _)⟩, ?_⟩
                · rw [← HO.out, HR.out]; simp [ByteArray.data_append, List.append_assoc]
                · simp [intOf]; exact Nat.sub_lt_sub_left hlt (Nat.lt_succ_of_le hik)
              · obtain ⟨e3, e4⟩ := dl i k hik hkk
                rw [if_neg (HAC.out (lt_of_ne i k hik hkk))] at HR
                clear HKK HAC hkk hi0
                go_wp2
                go_quiet (fail)
                go_wp2_with (first
                  | (go_at_call 38; (with_reducible refine (D1.out _).mono ?_); rintro e w2 ⟨rfl, p2⟩; have cc2 := cell_below (ccd _) p2)
                  | (go_at_call 38; (with_reducible refine (D2.out _).mono ?_); rintro e w3 ⟨rfl, p3⟩)
                  | fail)
                refine ⟨⟨k + 1, _, by go_num, rfl, Nat.succ_le_of_lt hk, ?_, by simp only [ByteArray.size_append, hda, hdc, s44, s45]; omega, p3.from (p2.from (Base.below_drewN HBK.out _))⟩, ?_⟩
                · rw [← HO.out, HR.out]; simp [ByteArray.data_append, List.append_assoc]
                · simp [intOf]; exact Nat.sub_lt_sub_left hlt (Nat.lt_succ_of_le hik)
      · have HZ : Hid (Z = (⟨T.toArray⟩ : ByteArray)) := Lib.hid (by
          have := HO.out
          rw [restR_end l i (by omega) hne, List.append_nil] at this
          apply ByteArray.ext; apply Array.toList_inj.1; rw [this])
        go_wp2
        go_ret
        exact ⟨ret_str HZ.out, HB.out.trans (HBI.out.mono HB.out.size)⟩

end Go.Proofs.YtgneleembnchfaaDoor.Node
