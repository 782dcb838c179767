/-
  The walk of the program's number of digits; a run searched for a letter.
-/
import Derived.Test.YtejppikbdplamaaDoorLexPcs
namespace Go.Proofs.YtejppikbdplamaaDoor.Lex
open Go.RowKit
open Base Runes LexLib
set_option linter.unusedVariables false
set_option linter.unusedSimpArgs false

/-! What the library reads out of digits. -/

theorem dig_byte {r : Nat} (h : 48 ≤ r ∧ r ≤ 57) : (UInt8.ofNat r).toNat = r := by rw [UInt8.toNat_ofNat']; omega
theorem parse_dig (T : List Nat) : ∀ acc : Nat, DigR T → (acc + 1) * 10 ^ T.length ≤ 1000000000000000000 → Lib.parseUint10 acc (T.map UInt8.ofNat) = .ok (vN acc T) ∧ vN acc T < 1000000000000000000 := by
  induction T with
  | nil => intro acc _ h; exact ⟨rfl, by simp at h; show acc < _; omega⟩
  | cons r t ih =>
    intro acc hd hb
    have hr := hd r (by simp)
    have hp : 1 ≤ 10 ^ t.length := Nat.pow_pos (by decide)
    have e : (acc + 1) * 10 ^ (r :: t).length = (acc * 10 + 10) * 10 ^ t.length := by
      rw [List.length_cons, Nat.pow_succ, Nat.mul_comm (10 ^ t.length) 10, ← Nat.mul_assoc, Nat.add_mul, Nat.one_mul]
    rw [e] at hb
    have hb2 : (acc * 10 + (r - 48) + 1) * 10 ^ t.length ≤ (acc * 10 + 10) * 10 ^ t.length := Nat.mul_le_mul_right _ (by omega)
    have hb3 : (acc * 10 + 10) * 1 ≤ (acc * 10 + 10) * 10 ^ t.length := Nat.mul_le_mul_left _ hp
    obtain ⟨i1, i2⟩ := ih (acc * 10 + (r - 48)) (fun x hx => hd x (by simp [hx])) (by omega)
    have ev : vN acc (r :: t) = vN (acc * 10 + (r - 48)) t := by
      unfold vN; rw [List.foldl_cons, Nat.mul_comm]
    rw [List.map_cons, Lib.parseUint10, dig_byte hr, if_pos hr, if_neg (by omega), if_neg (by omega), ev]
    exact ⟨i1, i2⟩
theorem parse_any (T : List Nat) : ∀ acc : Nat, DigR T → (∃ u, Lib.parseUint10 acc (T.map UInt8.ofNat) = .ok u) ∨ Lib.parseUint10 acc (T.map UInt8.ofNat) = .range := by
  induction T with
  | nil => intro acc _; exact .inl ⟨acc, rfl⟩
  | cons r t ih =>
    intro acc hd
    have hr := hd r (by simp)
    rw [List.map_cons, Lib.parseUint10, dig_byte hr, if_pos hr]
    split
    · exact .inr rfl
    · split
      · exact .inr rfl
      · exact ih _ (fun x hx => hd x (by simp [hx]))
theorem atoi_dig {T : List Nat} (hd : DigR T) (hne : T ≠ []) :
    (T.length ≤ 9 → Lib.atoiAll (T.map UInt8.ofNat) = .ok (vN 0 T : Int)) ∧ ((∃ v, Lib.atoiAll (T.map UInt8.ofNat) = .ok v) ∨ Lib.atoiAll (T.map UInt8.ofNat) = .range) := by
  cases T with
  | nil => exact absurd rfl hne
  | cons r t =>
    have hr := hd r (by simp)
    have e : Lib.atoiAll ((r :: t).map UInt8.ofNat) = Lib.signless (Lib.parseMag ((r :: t).map UInt8.ofNat)) := by
      rw [List.map_cons]
      exact Lib.atoiAll_plain _ _ (by rw [dig_byte hr]; omega) (by rw [dig_byte hr]; omega)
    have e2 : Lib.parseMag ((r :: t).map UInt8.ofNat) = Lib.parseUint10 0 ((r :: t).map UInt8.ofNat) := by
      unfold Lib.parseMag; rw [if_neg (by simp)]
    rw [e, e2]
    refine ⟨fun h => ?_, ?_⟩
    · have hp : (10 : Nat) ^ (r :: t).length ≤ 10 ^ 9 := Nat.pow_le_pow_right (by decide) h
      obtain ⟨h1, h2⟩ := parse_dig (r :: t) 0 hd (by rw [Nat.zero_add, Nat.one_mul]; exact Nat.le_trans hp (by decide))
      rw [h1]
      unfold Lib.signless
      simp only
      rw [if_neg (by omega)]
    · rcases parse_any (r :: t) 0 hd with ⟨u, h1⟩ | h1
      · rw [h1]
        unfold Lib.signless
        simp only
        split
        · exact .inr rfl
        · exact .inl ⟨_, rfl⟩
      · rw [h1]
        exact .inr rfl

def nI (T : List Nat) : Int := if numR T < 0 then 0 else numR T
def nE (T : List Nat) : Int := if numR T < 0 then 50 else 0
theorem num_bad {T : List Nat} (h : 9 < T.length ∨ (1 < T.length ∧ T.getD 0 0 = 48)) : (0 : Int) = nI T ∧ (50 : Int) = nE T := by
  have : numR T = -1 := by unfold numR; rw [if_pos (.inr h)]
  unfold nI nE; rw [this]; exact ⟨rfl, rfl⟩
theorem num_good {T : List Nat} (hd : DigR T) (hne : T ≠ []) (h : ¬ (9 < T.length ∨ (1 < T.length ∧ T.getD 0 0 = 48))) : (vN 0 T : Int) = nI T ∧ (0 : Int) = nE T := by
  have hl : T.length ≠ 0 := by have := List.length_pos_iff.2 hne; omega
  have e : numR T = (vN 0 T : Int) := by
    unfold numR
    rw [if_neg (by rintro (h1 | h1); exact hl h1; exact h h1)]
    exact numF_v T 0 hd
  unfold nI nE
  rw [e, if_neg (by omega), if_neg (by omega)]
  exact ⟨rfl, rfl⟩

theorem ret_ii {a a' e e' : Int} (h : a = a') (h1 : e = e') : Ending.returned (.tuple #[.int .i64 a, .int .i64 e]) = .returned (.tuple #[.int .i64 a', .int .i64 e']) := by rw [h, h1]

set_option maxRecDepth 100000 in
set_option maxHeartbeats 1000000 in
theorem number_any (T : List Nat) (hd : DigR T) (hne : T ≠ []) (hs : (encB T).size ≤ 1000000) (w : World) (hT : Tb w) :
    Calls Tryd.prog 33 #[.string (encB T)] w fun e w' => e = .returned (.tuple #[.int .i64 (nI T), .int .i64 (nE T)]) ∧ Below w.heap.size w w' := by
  obtain ⟨hat, hor⟩ := atoi_dig hd hne
  have hdat : (encB T).data.toList = T.map UInt8.ofNat := encL_dig T hd
  have hlen : T.length = (encB T).size := by rw [Lib.size_eq, hdat, List.length_map]
  have hpos := List.length_pos_iff.2 hne
  rw [← hdat] at hat hor
  have hx : ∃ h : 0 < (encB T).size, ((encB T)[0]'h).toNat = T.getD 0 0 := by
    refine ⟨by omega, ?_⟩
    have e : (encB T)[0]'(by omega) = (encB T).data.toList[0]'(by rw [← Lib.size_eq]; omega) := rfl
    rw [e]
    simp only [hdat]
    rw [List.getElem_map, dig_byte (hd _ (List.getElem_mem _))]
    simp [List.getD, List.getElem?_eq_getElem hpos]
  have hbad := num_bad (T := T)
  have hgood := num_good hd hne
  obtain ⟨h0, hh0⟩ : ∃ h0, h0 = T.getD 0 0 := ⟨_, rfl⟩
  obtain ⟨V, hV⟩ : ∃ V : Int, V = (vN 0 T : Int) := ⟨_, rfl⟩
  obtain ⟨a, ha⟩ : ∃ a, a = nI T := ⟨_, rfl⟩
  obtain ⟨x, hxe⟩ : ∃ x, x = nE T := ⟨_, rfl⟩
  rw [← hh0, ← ha, ← hxe, hlen] at hbad
  rw [← hh0, ← ha, ← hxe, ← hV, hlen] at hgood
  rw [← hh0] at hx
  rw [hlen, ← hV] at hat
  clear hpos
  rw [← ha, ← hxe]
  clear hdat hlen hh0 hV ha hxe hd hne
  generalize encB T = z at *
  obtain ⟨hpos, hx⟩ := hx
  have HB := Lib.hid hbad
  have HG := Lib.hid hgood
  have HT := Lib.hid hT
  clear hbad hgood hT
  by_cases h9 : 9 < z.size
  · have HA := Lib.hid (HB.out (.inl h9))
    have t9 : decide ((z.size : Int) > 9) = true := by rw [decide_eq_true_iff]; omega
    rcases hor with ⟨v, hv⟩ | hv
    · have C1 := Lib.hid (fun w => atoi_ok z hs v hv w)
      clear hv hat hx
      go_enter Tryd.func33, Tryd.ntmps33
      go_wp2_with (first | (go_at_call 53; (with_reducible refine (C1.out _).mono ?_); rintro e w1 ⟨rfl, p1⟩) | fail)
      go_ret2
      exact ⟨ret_ii HA.out.1 HA.out.2, p1⟩
    · have C1 := Lib.hid (atoi_range z hs hv w HT.out)
      clear hv hat hx
      go_enter Tryd.func33, Tryd.ntmps33
      go_wp2_with (first | (go_at_call 53; (with_reducible refine (C1.out).mono ?_); rintro e w1 ⟨v, N, rfl, p1⟩) | fail)
      go_ret2
      exact ⟨ret_ii HA.out.1 HA.out.2, p1⟩
  · have C1 := Lib.hid (fun w => atoi_ok z hs V (hat (by omega)) w)
    have t9 : decide ((z.size : Int) > 9) = false := by rw [decide_eq_false_iff_not]; omega
    clear hat hor
    by_cases h1 : 1 < z.size
    · have t1 : decide ((z.size : Int) > 1) = true := by rw [decide_eq_true_iff]; omega
      by_cases h48 : h0 = 48
      · have HA := Lib.hid (HB.out (.inr ⟨h1, h48⟩))
        have t48 : (((z[0]'hpos).toNat : Int) == 48) = true := by rw [beq_iff_eq]; omega
        clear hx
        go_enter Tryd.func33, Tryd.ntmps33
        go_wp2_with (first | (go_at_call 53; (with_reducible refine (C1.out _).mono ?_); rintro e w1 ⟨rfl, p1⟩) | fail)
        go_ret2
        exact ⟨ret_ii HA.out.1 HA.out.2, p1⟩
      · have HA := Lib.hid (HG.out (by rintro (h | h); exact h9 h; exact h48 h.2))
        have t48 : (((z[0]'hpos).toNat : Int) == 48) = false := by rw [beq_eq_false_iff_ne]; omega
        clear hx
        go_enter Tryd.func33, Tryd.ntmps33
        go_wp2_with (first | (go_at_call 53; (with_reducible refine (C1.out _).mono ?_); rintro e w1 ⟨rfl, p1⟩) | fail)
        go_ret2
        exact ⟨ret_ii HA.out.1 HA.out.2, p1⟩
    · have HA := Lib.hid (HG.out (by rintro (h | h); exact h9 h; exact h1 h.1))
      have t1 : decide ((z.size : Int) > 1) = false := by rw [decide_eq_false_iff_not]; omega
      by_cases h48 : h0 = 48
      · have t48 : (((z[0]'hpos).toNat : Int) == 48) = true := by rw [beq_iff_eq]; omega
        clear hx
        go_enter Tryd.func33, Tryd.ntmps33
        go_wp2_with (first | (go_at_call 53; (with_reducible refine (C1.out _).mono ?_); rintro e w1 ⟨rfl, p1⟩) | fail)
        go_ret2
        exact ⟨ret_ii HA.out.1 HA.out.2, p1⟩
      · have t48 : (((z[0]'hpos).toNat : Int) == 48) = false := by rw [beq_eq_false_iff_ne]; omega
        clear hx
        go_enter Tryd.func33, Tryd.ntmps33
        go_wp2_with (first | (go_at_call 53; (with_reducible refine (C1.out _).mono ?_); rintro e w1 ⟨rfl, p1⟩) | fail)
        go_ret2
        exact ⟨ret_ii HA.out.1 HA.out.2, p1⟩

end Go.Proofs.YtejppikbdplamaaDoor.Lex
