/-
  The walks of the document's own numbers and texts.
-/
import Derived.Test.YtejppikbdplamaaDoorLexRuns
namespace Go.Proofs.YtejppikbdplamaaDoor.Lex
open Go.RowKit
open Base Runes
set_option linter.unusedVariables false

theorem pow9 (k : Nat) (h : k ≤ 9) : (10 : Int) ^ k ≤ 10 ^ 9 := by
  have : ∀ k : Fin 10, (10 : Int) ^ (k : Nat) ≤ 10 ^ 9 := by decide
  exact this ⟨k, by omega⟩
theorem numF_bound (l : List Nat) (n : Int) (m : Nat) (hn : 0 ≤ n) (hm : n < 10 ^ m) : numF n l < 10 ^ (m + l.length) := by
  induction l generalizing n m with
  | nil => simpa [numF] using hm
  | cons r t ih =>
    rw [numF]
    split
    · have : (0 : Int) < 10 ^ (m + (r :: t).length) := Int.pow_pos (by decide)
      omega
    · have h10 : (10 : Int) ^ (m + 1) = 10 ^ m * 10 := Int.pow_succ ..
      have := ih (10 * n + ((r : Int) - 48)) (m + 1) (by omega) (by omega)
      rw [List.length_cons, show m + (t.length + 1) = m + 1 + t.length by omega]
      exact this

set_option maxRecDepth 100000 in
set_option maxHeartbeats 2000000 in
theorem rnumber_any (ao : Option Addr) (cap : Nat) (R : List Nat) (w : World) (hl : R.length ≤ maxLen) (hr : Reads rV w ao R) :
    Calls Tryd.prog 39 #[.slice ao R.length cap] w fun e w' => e = .returned (.int .i64 (numR R)) ∧ w = w' := by
  unfold maxLen at hl
  have HR := Lib.hid hr
  clear hr
  obtain ⟨N, hN⟩ : ∃ N, N = numR R := ⟨_, rfl⟩
  rw [← hN]
  unfold numR at hN
  by_cases h0 : R.length = 0
  · rw [if_pos (.inl h0)] at hN
    have HN := Lib.hid hN
    clear hN
    go_enter Tryd.func39, Tryd.ntmps39
    go_wp2
    go_ret
    exact ⟨ret_int HN.out.symm, rfl⟩
  · by_cases h9 : 9 < R.length
    · rw [if_pos (.inr (.inl h9))] at hN
      have HN := Lib.hid hN
      clear hN
      go_enter Tryd.func39, Tryd.ntmps39
      go_wp2
      go_ret
      exact ⟨ret_int HN.out.symm, rfl⟩
    · obtain ⟨b, off, rfl, hc⟩ := HR.out.at_ (k := 0) (by omega)
      obtain ⟨z, hz⟩ : ∃ z, z = R[0] := ⟨_, rfl⟩
      have hgz : R.getD 0 0 = z := by rw [hz]; simp [List.getD, List.getElem?_eq_getElem (show 0 < R.length by omega)]
      rw [← hz, Nat.add_zero] at hc
      unfold rV at hc
      rw [hgz] at hN
      have t0 : ((R.length : Int) == 0) = false := by rw [beq_eq_false_iff_ne]; omega
      by_cases h1 : 1 < R.length ∧ z = 48
      · rw [if_pos (.inr (.inr h1))] at hN
        have HN := Lib.hid hN
        have t48 : ((z : Int) == 48) = true := by rw [beq_iff_eq]; omega
        have hlt : (1 : Int) < (R.length : Int) := by omega
        clear hN hz hgz
        go_enter Tryd.func39, Tryd.ntmps39
        go_wp2
        go_ret
        exact ⟨ret_int HN.out.symm, rfl⟩
      · rw [if_neg (by omega)] at hN
        have HN := Lib.hid hN
        have hcase : (1 < R.length ∧ z ≠ 48) ∨ R.length ≤ 1 := by omega
        clear hN hz hgz
        rcases hcase with ⟨hlt, hz48⟩ | hlt
        · have t48 : ((z : Int) == 48) = false := by rw [beq_eq_false_iff_ne]; omega
          have hlt2 : (1 : Int) < (R.length : Int) := by omega
          go_enter Tryd.func39, Tryd.ntmps39
          go_wp2
          go_loopw [3, 4] (fun n i wr => ∃ (k : Nat) (acc : Int), i = .int .i64 (k : Int) ∧ n = .int .i64 acc ∧ k ≤ R.length ∧ numF acc (R.drop k) = N ∧ 0 ≤ acc ∧ acc < 10 ^ k ∧ w = wr) (fun _ i _ => R.length - (intOf i).toNat)
          case atStart => exact ⟨0, 0, rfl, rfl, Nat.zero_le _, by rw [HN.out]; rfl, by decide, by decide, rfl⟩
          case round =>
            obtain ⟨k, acc, rfl, rfl, hk, hA, ha0, ha1, rfl⟩ := hrel
            by_cases hp : k < R.length
            · obtain ⟨b', off', hbo, hcx⟩ := HR.out.at_ hp
              obtain ⟨rfl, rfl⟩ : b = b' ∧ off = off' := by simpa using hbo
              obtain ⟨x, hx⟩ : ∃ x, x = R[k] := ⟨_, rfl⟩
              rw [← hx] at hcx
              unfold rV at hcx
              have hacc : acc < 1000000000 := by
                have := pow9 k (by omega)
                omega
              have hp10 : (10 : Int) ^ (k + 1) = 10 ^ k * 10 := Int.pow_succ ..
              rw [List.drop_eq_getElem_cons hp, ← hx, numF] at hA
              clear hx
              by_cases hxd : x < 48 ∨ 57 < x
              · rw [if_pos hxd] at hA
                have HS := Lib.hid hA
                clear hA hp10 ha1
                by_cases hx48 : x < 48
                · go_wp2
                  go_ret
                  exact ⟨ret_int HS.out, rfl⟩
                · go_wp2
                  go_ret
                  exact ⟨ret_int HS.out, rfl⟩
              · rw [if_neg hxd] at hA
                have HS := Lib.hid hA
                have HB : Hid (10 * acc + ((x : Int) - 48) < 10 ^ (k + 1)) := Lib.hid (by omega)
                clear hA hp10 ha1
                have hx1 : (48 : Int) ≤ (x : Int) := by omega
                have hx2 : (x : Int) ≤ 57 := by omega
                go_wp2
                refine ⟨⟨k + 1, 10 * acc + ((x : Int) - 48), by go_num, by go_num, by omega, HS.out, by omega, HB.out, by first | rfl | trivial⟩, ?_⟩
                simp [intOf]; omega
            · rw [List.drop_eq_nil_of_le (by omega), numF] at hA
              have HS := Lib.hid hA
              clear hA ha1
              go_wp2
              go_ret
              exact ⟨ret_int HS.out, rfl⟩
        · have hlt2 : decide ((1 : Int) < (R.length : Int)) = false := by rw [decide_eq_false_iff_not]; omega
          go_enter Tryd.func39, Tryd.ntmps39
          go_wp2
          go_loopw [3, 4] (fun n i wr => ∃ (k : Nat) (acc : Int), i = .int .i64 (k : Int) ∧ n = .int .i64 acc ∧ k ≤ R.length ∧ numF acc (R.drop k) = N ∧ 0 ≤ acc ∧ acc < 10 ^ k ∧ w = wr) (fun _ i _ => R.length - (intOf i).toNat)
          case atStart => exact ⟨0, 0, rfl, rfl, Nat.zero_le _, by rw [HN.out]; rfl, by decide, by decide, rfl⟩
          case round =>
            obtain ⟨k, acc, rfl, rfl, hk, hA, ha0, ha1, rfl⟩ := hrel
            by_cases hp : k < R.length
            · obtain ⟨b', off', hbo, hcx⟩ := HR.out.at_ hp
              obtain ⟨rfl, rfl⟩ : b = b' ∧ off = off' := by simpa using hbo
              obtain ⟨x, hx⟩ : ∃ x, x = R[k] := ⟨_, rfl⟩
              rw [← hx] at hcx
              unfold rV at hcx
              have hacc : acc < 1000000000 := by
                have := pow9 k (by omega)
                omega
              have hp10 : (10 : Int) ^ (k + 1) = 10 ^ k * 10 := Int.pow_succ ..
              rw [List.drop_eq_getElem_cons hp, ← hx, numF] at hA
              clear hx
              by_cases hxd : x < 48 ∨ 57 < x
              · rw [if_pos hxd] at hA
                have HS := Lib.hid hA
                clear hA hp10 ha1
                by_cases hx48 : x < 48
                · go_wp2
                  go_ret
                  exact ⟨ret_int HS.out, rfl⟩
                · go_wp2
                  go_ret
                  exact ⟨ret_int HS.out, rfl⟩
              · rw [if_neg hxd] at hA
                have HS := Lib.hid hA
                have HB : Hid (10 * acc + ((x : Int) - 48) < 10 ^ (k + 1)) := Lib.hid (by omega)
                clear hA hp10 ha1
                have hx1 : (48 : Int) ≤ (x : Int) := by omega
                have hx2 : (x : Int) ≤ 57 := by omega
                go_wp2
                refine ⟨⟨k + 1, 10 * acc + ((x : Int) - 48), by go_num, by go_num, by omega, HS.out, by omega, HB.out, by first | rfl | trivial⟩, ?_⟩
                simp [intOf]; omega
            · rw [List.drop_eq_nil_of_le (by omega), numF] at hA
              have HS := Lib.hid hA
              clear hA ha1
              go_wp2
              go_ret
              exact ⟨ret_int HS.out, rfl⟩

end Go.Proofs.YtejppikbdplamaaDoor.Lex
