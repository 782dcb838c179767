/-
  The walks of package hours: a count, whether a number is a time.
-/
import Derived.Test.YtgpgpgechilbkaaDoorHoursLib
import Derived.Test.YtgpgpgechilbkaaDoorHoursMath
import Derived.Test.YtgpgpgechilbkaaDoorHoursSat
namespace Go.Proofs.YtgpgpgechilbkaaDoor.Hours
open Go.RowKit
open Base Sat HoursLib
set_option linter.unusedVariables false
set_option linter.unusedSimpArgs false

theorem isTime_any (n : Int) (w : World) :
    Calls Tryd.prog 12 #[.int .i64 n] w fun e w' => e = .returned (.bool (cl n 1000000 == n)) ∧ w = w' := by
  obtain ⟨C, hC⟩ : ∃ C, C = cl n 1000000 := ⟨_, rfl⟩
  have c := Lib.hid (fun w => time_any n w)
  rw [← hC] at c ⊢
  clear hC
  go_enter Tryd.func12, Tryd.ntmps12
  go_wp2_with (first | (go_at_call 9; (with_reducible refine (c.out _).mono ?_); rintro e w' ⟨rfl, rfl⟩) | fail)
  go_ret
  exact ⟨rfl, rfl⟩

def cutA (l : List UInt8) : Value := if cutOk l = true then .tuple #[.int .i64 (cutN l), .string ⟨(rst l).toArray⟩, .bool true] else .tuple #[.int .i64 0, .string ⟨#[]⟩, .bool false]

set_option maxHeartbeats 4000000 in
theorem cut_any (s : ByteArray) (hs : s.size ≤ maxLen) (w : World) (hT : Tb w) :
    Calls Tryd.prog 20 #[.string s] w fun e w' => e = .returned (cutA s.data.toList) ∧ Below w.heap.size w w' := by
  have HT := Lib.hid hT
  clear hT
  unfold maxLen at hs
  have hle := rst_le s.data.toList
  have C := Lib.hid (fun w => trim_any s w)
  have hkl : (dgs s.data.toList).length = s.data.toList.length - (rst s.data.toList).length := by unfold dgs; rw [List.length_take]; omega
  change Hid (∀ w, Calls Tryd.prog 25 #[.string s, .string ⟨#[48, 49, 50, 51, 52, 53, 54, 55, 56, 57]⟩] w fun e w' => e = .returned (.string ⟨(rst s.data.toList).toArray⟩) ∧ Below w.heap.size w w') at C
  obtain ⟨R, hR⟩ : ∃ R : ByteArray, R = ⟨(rst s.data.toList).toArray⟩ := ⟨_, rfl⟩
  have hRl : R.data.toList = rst s.data.toList := by rw [hR]
  have hRs : R.size = (rst s.data.toList).length := by rw [Lib.size_eq, hRl]
  have hsz : s.size = s.data.toList.length := Lib.size_eq s
  have hdl : (s.extract 0 (s.size - R.size)).data.toList = dgs s.data.toList := by rw [Lib.extract_data, hsz, hRs]; unfold dgs; simp
  have hds : s.size - R.size = (dgs s.data.toList).length := by omega
  have hRle : R.size ≤ s.size := by omega
  have hall := dgs_all s.data.toList
  have HA : Hid (cutA s.data.toList = if cutOk s.data.toList = true then .tuple #[.int .i64 (cutN s.data.toList), .string R, .bool true] else .tuple #[.int .i64 0, .string ⟨#[]⟩, .bool false]) := Lib.hid (by unfold cutA; rw [hR])
  rw [← hR] at C
  unfold cutOk cutN at HA
  obtain ⟨A, hA⟩ : ∃ A, A = cutA s.data.toList := ⟨_, rfl⟩
  rw [← hA] at HA ⊢
  obtain ⟨d, hd⟩ : ∃ d, d = dgs s.data.toList := ⟨_, rfl⟩
  rw [← hd] at HA hdl hds hall
  have HDl := Lib.hid hdl
  have HG : Hid (∀ h : 0 < (s.extract 0 (s.size - R.size)).size, ((s.extract 0 (s.size - R.size))[0]'h) = d.getD 0 0) := Lib.hid (by
    intro h
    rw [← hdl]
    rw [ByteArray.getElem_eq_getElem_data]
    rw [List.getD_eq_getElem?_getD, Array.getElem?_toList, Array.getElem?_eq_getElem (by simpa using h)]
    rfl)
  have AT : Hid (s.size - R.size ≤ 7 → 0 < s.size - R.size → Go.Lib.atoiAll (s.extract 0 (s.size - R.size)).data.toList = .ok (vl 0 d : Int)) := Lib.hid (fun h1 h2 => by
    rw [hdl]
    exact (atoi_dgs d hall (fun h => by rw [h] at hds; simp at hds; omega) (by omega)).1)
  clear hR hRl hRs hsz hdl hd hA hkl hle hall
  by_cases h7 : 7 < s.size - R.size
  · have HB : Hid (A = .tuple #[.int .i64 0, .string ⟨#[]⟩, .bool false]) := Lib.hid (by rw [HA.out, if_neg (by rw [decide_eq_true_eq]; rintro ⟨h, _⟩; omega)])
    clear HA hds
    go_enter Tryd.func20, Tryd.ntmps20
    go_wp2_with (first
      | (go_at_call 25; (with_reducible refine (C.out _).mono ?_); rintro e w1 ⟨rfl, p1⟩)
      | fail)
    go_ret3
    exact ⟨by rw [HB.out]; rfl, p1⟩
  · by_cases h1 : 1 < s.size - R.size
    · have HB : Hid (d.getD 0 0 = 48 → A = .tuple #[.int .i64 0, .string ⟨#[]⟩, .bool false]) := Lib.hid (fun h => by rw [HA.out, if_neg (by rw [decide_eq_true_eq]; rintro ⟨_, _, h2⟩; exact h2 ⟨by omega, h⟩)])
      have HB2 : Hid (d.getD 0 0 ≠ 48 → A = .tuple #[.int .i64 (vl 0 d : Int), .string R, .bool true]) := Lib.hid (fun h => by rw [HA.out, if_pos (by rw [decide_eq_true_eq]; exact ⟨by omega, fun h => by rw [h] at hds; simp at hds; omega, fun ⟨_, h2⟩ => h h2⟩)])
      clear HA hds
      have hlo : 0 < s.size - R.size := by omega
      go_enter Tryd.func20, Tryd.ntmps20
      go_wp2_with (first
        | (go_at_call 25; (with_reducible refine (C.out _).mono ?_); rintro e w1 ⟨rfl, p1⟩)
        | (go_at_call 26; (with_reducible refine (atoi_ok _ (by simp only [ByteArray.size_extract]; omega) _ (AT.out (by omega) (by omega)) _).mono ?_); rintro e w2 ⟨rfl, p2⟩)
        | fail)
      · rename_i hx
        have hx2 := hx.resolve_left (by omega)
        rw [HG.out, beq_iff_eq] at hx2
        have hb := HB.out (UInt8.toNat_inj.1 (by
          have h48 : (48 : UInt8).toNat = 48 := by decide
          omega))
        go_ret3
        exact ⟨by rw [hb]; rfl, p1⟩
      · rename_i hx
        have hx2 := hx.2
        rw [HG.out, beq_eq_false_iff_ne] at hx2
        have hb := HB2.out (fun h => hx2 (by rw [h]; rfl))
        go_ret3
        exact ⟨by rw [hb]; rfl, p2.from p1⟩
    · by_cases h0 : ¬ 0 < s.size - R.size
      · have HB : Hid (A = .tuple #[.int .i64 0, .string ⟨#[]⟩, .bool false]) := Lib.hid (by rw [HA.out, if_neg (by rw [decide_eq_true_eq]; rintro ⟨_, h, _⟩; exact h (List.eq_nil_of_length_eq_zero (by omega)))])
        clear HA hds
        go_enter Tryd.func20, Tryd.ntmps20
        go_wp2_with (first
          | (go_at_call 25; (with_reducible refine (C.out _).mono ?_); rintro e w1 ⟨rfl, p1⟩)
          | (go_at_call 26; (with_reducible refine (atoi_none _ (by simp only [ByteArray.size_extract]; omega) _ (HT.out.later p1)).mono ?_); rintro e w2 ⟨N, rfl, p2⟩)
          | fail)
        go_ret3
        exact ⟨by rw [HB.out]; rfl, p2.from p1⟩
      · have HB : Hid (A = .tuple #[.int .i64 (vl 0 d : Int), .string R, .bool true]) := Lib.hid (by rw [HA.out, if_pos (by rw [decide_eq_true_eq]; exact ⟨by omega, fun h => by rw [h] at hds; simp at hds; omega, fun ⟨h2, _⟩ => by omega⟩)])
        clear HA hds
        go_enter Tryd.func20, Tryd.ntmps20
        go_wp2_with (first
          | (go_at_call 25; (with_reducible refine (C.out _).mono ?_); rintro e w1 ⟨rfl, p1⟩)
          | (go_at_call 26; (with_reducible refine (atoi_ok _ (by simp only [ByteArray.size_extract]; omega) _ (AT.out (by omega) (by omega)) _).mono ?_); rintro e w2 ⟨rfl, p2⟩)
          | fail)
        go_ret3
        exact ⟨by rw [HB.out]; rfl, p2.from p1⟩

end Go.Proofs.YtgpgpgechilbkaaDoor.Hours
