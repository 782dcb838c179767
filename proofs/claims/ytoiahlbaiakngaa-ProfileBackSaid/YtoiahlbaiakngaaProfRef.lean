/-
  The walks of the document's own Check, Now, At, Least, and of both Flats.
-/
import Derived.Test.YtoiahlbaiakngaaProfBits
import Derived.Test.YtoiahlbaiakngaaProfLeastM
namespace Go.Proofs.Ytoiahlbaiakngaa.Prof
open Go.RowKit
open Base
set_option linter.unusedVariables false
set_option linter.unusedSimpArgs false

theorem readsSt_one {w : World} {n : Nat} (hn : n = w.heap.size) (x : St) (t : TypeId) : ReadsS 2 stC (w.alloc (.cells #[.int .i64 x.1, .int .i64 x.2] t)) (some ⟨n, 0, none⟩) [x] :=
  readsS_one (f := stC) (k := 2) hn x #[.int .i64 x.1, .int .i64 x.2] rfl rfl t

def clampM (n : Int) : Int := max (-1000000) (min n 1000000)
def flatL (n : Int) : List St := [(0, clampM n)]
theorem clamp_lo {n : Int} (h : n < -1000000) : clampM n = -1000000 := by unfold clampM; omega
theorem clamp_hi {n : Int} (h : 1000000 < n) : clampM n = 1000000 := by unfold clampM; omega
theorem clamp_in {n : Int} (h : -1000000 ≤ n) (h2 : n ≤ 1000000) : clampM n = n := by unfold clampM; omega

set_option maxHeartbeats 1000000 in
theorem flat_any (n : Int) (w : World) :
    Calls Try.prog 17 #[.int .i64 n] w fun e w' => ∃ B, e = .returned (.slice (some ⟨B, 0, none⟩) 1 1) ∧ ReadsS 2 stC w' (some ⟨B, 0, none⟩) (flatL n) ∧ Below w.heap.size w w' := by
  have HF : Hid (∀ c, (n < -1000000 → c = -1000000) → (1000000 < n → c = 1000000) → (-1000000 ≤ n → n ≤ 1000000 → c = n) → flatL n = [(0, c)]) := Lib.hid (by
    intro c h1 h2 h3
    unfold flatL
    by_cases c1 : n < -1000000
    · rw [clamp_lo c1, h1 c1]
    · by_cases c2 : 1000000 < n
      · rw [clamp_hi c2, h2 c2]
      · rw [clamp_in (by omega) (by omega), h3 (by omega) (by omega)])
  go_enter Try.func17, Try.ntmps17
  go_wp2
  all_goals
    go_ret
    first
      | exact ⟨_, rfl, by rw [HF.out (n) (by omega) (by omega) (by omega)]; exact readsSt_one rfl (0, n) _, by (focus repeat (first | exact Below.refl _ _ | assumption | (exact Hid.out (by assumption)) | (with_reducible refine Below.drew ?_) | (with_reducible refine Base.below_drewN ?_ _) | (refine Below.from (below_one _) ?_) | (refine Below.from (below_conv _ _ _) ?_) | (refine Below.setCell ?_ (by simp <;> omega) _) | (refine Below.from (by assumption) ?_)))⟩
      | exact ⟨_, rfl, by rw [HF.out (-1000000) (by omega) (by omega) (by omega)]; exact readsSt_one rfl (0, -1000000) _, by (focus repeat (first | exact Below.refl _ _ | assumption | (exact Hid.out (by assumption)) | (with_reducible refine Below.drew ?_) | (with_reducible refine Base.below_drewN ?_ _) | (refine Below.from (below_one _) ?_) | (refine Below.from (below_conv _ _ _) ?_) | (refine Below.setCell ?_ (by simp <;> omega) _) | (refine Below.from (by assumption) ?_)))⟩
      | exact ⟨_, rfl, by rw [HF.out (1000000) (by omega) (by omega) (by omega)]; exact readsSt_one rfl (0, 1000000) _, by (focus repeat (first | exact Below.refl _ _ | assumption | (exact Hid.out (by assumption)) | (with_reducible refine Below.drew ?_) | (with_reducible refine Base.below_drewN ?_ _) | (refine Below.from (below_one _) ?_) | (refine Below.from (below_conv _ _ _) ?_) | (refine Below.setCell ?_ (by simp <;> omega) _) | (refine Below.from (by assumption) ?_)))⟩

set_option maxHeartbeats 1000000 in
theorem rflat_any (n : Int) (w : World) :
    Calls Try.prog 18 #[.int .i64 n] w fun e w' => ∃ B, e = .returned (.slice (some ⟨B, 0, none⟩) 1 1) ∧ ReadsS 2 stC w' (some ⟨B, 0, none⟩) (flatL n) ∧ Below w.heap.size w w' := by
  by_cases h1 : n < -1000000
  · have t1 : decide (n < -1000000) = true := decide_eq_true h1
    have HF : Hid (flatL n = [(0, -1000000)]) := Lib.hid (by unfold flatL; rw [clamp_lo h1])
    clear h1
    go_enter Try.func18, Try.ntmps18
    go_wp2
    go_ret
    exact ⟨_, rfl, by rw [HF.out]; exact readsSt_one rfl (0, -1000000) _, by (focus repeat (first | exact Below.refl _ _ | assumption | (exact Hid.out (by assumption)) | (with_reducible refine Below.drew ?_) | (with_reducible refine Base.below_drewN ?_ _) | (refine Below.from (below_one _) ?_) | (refine Below.from (below_conv _ _ _) ?_) | (refine Below.setCell ?_ (by simp <;> omega) _) | (refine Below.from (by assumption) ?_)))⟩
  · have t1 : decide (n < -1000000) = false := decide_eq_false h1
    by_cases h2 : 1000000 < n
    · have t2 : decide (1000000 < n) = true := decide_eq_true h2
      have HF : Hid (flatL n = [(0, 1000000)]) := Lib.hid (by unfold flatL; rw [clamp_hi h2])
      clear h1 h2
      go_enter Try.func18, Try.ntmps18
      go_wp2
      go_ret
      exact ⟨_, rfl, by rw [HF.out]; exact readsSt_one rfl (0, 1000000) _, by (focus repeat (first | exact Below.refl _ _ | assumption | (exact Hid.out (by assumption)) | (with_reducible refine Below.drew ?_) | (with_reducible refine Base.below_drewN ?_ _) | (refine Below.from (below_one _) ?_) | (refine Below.from (below_conv _ _ _) ?_) | (refine Below.setCell ?_ (by simp <;> omega) _) | (refine Below.from (by assumption) ?_)))⟩
    · have t2 : decide (1000000 < n) = false := decide_eq_false h2
      have HF : Hid (flatL n = [(0, n)]) := Lib.hid (by unfold flatL; rw [clamp_in (by omega) (by omega)])
      clear h1 h2
      go_enter Try.func18, Try.ntmps18
      go_wp2
      go_ret
      exact ⟨_, rfl, by rw [HF.out]; exact readsSt_one rfl (0, n) _, by (focus repeat (first | exact Below.refl _ _ | assumption | (exact Hid.out (by assumption)) | (with_reducible refine Below.drew ?_) | (with_reducible refine Base.below_drewN ?_ _) | (refine Below.from (below_one _) ?_) | (refine Below.from (below_conv _ _ _) ?_) | (refine Below.setCell ?_ (by simp <;> omega) _) | (refine Below.from (by assumption) ?_)))⟩

theorem now_take_succ {p : List St} {k : Nat} (h : k < p.length) (d t : Int) : nowF d (p.take (k + 1)) t = if p[k].1 ≤ t then p[k].2 else nowF d (p.take k) t := by
  rw [List.take_add_one, List.getElem?_eq_getElem h]
  exact nowF_snoc _ _ _ _

set_option maxRecDepth 100000 in
set_option maxHeartbeats 2000000 in
theorem rnow_any (ao : Option Addr) (len cap : Nat) (p : List St) (t : Int) (w : World) (hlen : p.length = len) (hl : len ≤ maxLen) (hr : ReadsS 2 stC w ao p) :
    Calls Try.prog 25 #[.slice ao len cap, .int .i64 t] w fun e w' => e = .returned (.int .i64 (now p t)) ∧ w = w' := by
  subst hlen
  unfold maxLen at hl
  have HR := Lib.hid hr
  clear hr
  obtain ⟨N, hN⟩ : ∃ N, N = now p t := ⟨_, rfl⟩
  rw [← hN]
  have HN := Lib.hid hN
  clear hN
  go_enter Try.func25, Try.ntmps25
  go_wp2
  go_loopw [5, 6] (fun o i wr => ∃ k : Nat, i = .int .i64 (k : Int) ∧ k ≤ p.length ∧ o = .int .i64 (nowF 0 (p.take k) t) ∧ wr = w) (fun _ i _ => p.length - (intOf i).toNat)
  case atStart => exact ⟨0, rfl, Nat.zero_le _, rfl, rfl⟩
  case round =>
    obtain ⟨k, rfl, hk, rfl, rfl⟩ := hrel
    by_cases hp : k < p.length
    · obtain ⟨bb, bo, rfl, b0, b1⟩ := st_cells HR.out hp
      have hs := now_take_succ hp 0 t
      obtain ⟨⟨a, f⟩, hA⟩ : ∃ A : St, A = p[k] := ⟨_, rfl⟩
      rw [← hA] at b0 b1 hs
      dsimp only at b0 b1 hs
      obtain ⟨O, hO⟩ : ∃ O, O = nowF 0 (p.take k) t := ⟨_, rfl⟩
      rw [← hO] at hs ⊢
      clear hA hO
      by_cases hx : a ≤ t
      · have t1 : decide (a ≤ t) = true := decide_eq_true hx
        rw [if_pos hx] at hs
        have HS := Lib.hid hs
        clear hs hx
        go_wp2
        refine ⟨⟨k + 1, by go_num, by omega, by rw [HS.out], trivial⟩, ?_⟩
        simp [intOf]; omega
      · have t1 : decide (a ≤ t) = false := decide_eq_false hx
        rw [if_neg hx] at hs
        have HS := Lib.hid hs
        clear hs hx
        go_wp2
        refine ⟨⟨k + 1, by go_num, by omega, by rw [HS.out], trivial⟩, ?_⟩
        simp [intOf]; omega
    · have HX : Hid (nowF 0 (p.take k) t = N) := Lib.hid (by rw [HN.out, List.take_of_length_le (by omega)]; rfl)
      obtain ⟨O, hO⟩ : ∃ O, O = nowF 0 (p.take k) t := ⟨_, rfl⟩
      rw [← hO] at HX ⊢
      clear hO
      go_wp2
      go_ret
      exact ⟨ret_i64 HX.out, rfl⟩

theorem okAt_iff {p : List St} {k : Nat} (h : k < p.length) : okAt p k ↔ (-1000000 ≤ p[k].2 ∧ p[k].2 ≤ 1000000 ∧ p[k].1 ≤ 1000000) ∧ (0 < k → (p.getD (k - 1) (0, 0)).1 < p[k].1 ∧ p[k].2 ≠ (p.getD (k - 1) (0, 0)).2) := by
  unfold okAt; rw [getD_eq h]
theorem no_ok {p : List St} {k : Nat} (h : k < p.length) (hn : ¬ okAt p k) : ¬ Prof p := fun hp => hn (hp.2 k h)

set_option maxRecDepth 100000 in
set_option maxHeartbeats 4000000 in
theorem rcheck_any (ao : Option Addr) (len cap : Nat) (p : List St) (w : World) (hlen : p.length = len) (hl : len ≤ maxLen) (hr : ReadsS 2 stC w ao p) :
    Calls Try.prog 11 #[.slice ao len cap] w fun e w' => e = .returned (.int .i64 (chkE p)) ∧ Below w.heap.size w w' := by
  subst hlen
  unfold maxLen at hl
  have HR := Lib.hid hr
  clear hr
  obtain ⟨E, hE⟩ : ∃ E, E = chkE p := ⟨_, rfl⟩
  rw [← hE]
  by_cases h0 : p.length = 0
  · have t1 : decide ((p.length : Int) < 1) = true := decide_eq_true (by omega)
    have t1' : decide (p.length < 1) = true := decide_eq_true (by omega)
    have HE : Hid (100 = E) := Lib.hid (by rw [hE, chkE_100 (fun h => by have := h.1.1; omega)])
    clear hE
    go_enter Try.func11, Try.ntmps11
    go_wp2
    go_ret
    exact ⟨ret_i64 HE.out, Below.refl _ _⟩
  have t1 : decide ((p.length : Int) < 1) = false := decide_eq_false (by omega)
  have t1' : decide (p.length < 1) = false := decide_eq_false (by omega)
  by_cases h1 : 1000 < p.length
  · have t2 : decide ((1000 : Int) < (p.length : Int)) = true := decide_eq_true (by omega)
    have t2' : decide (1000 < p.length) = true := decide_eq_true h1
    have HE : Hid (100 = E) := Lib.hid (by rw [hE, chkE_100 (fun h => by have := h.1.2.1; omega)])
    clear hE h0 h1
    go_enter Try.func11, Try.ntmps11
    go_wp2
    go_ret
    exact ⟨ret_i64 HE.out, Below.refl _ _⟩
  have t2 : decide ((1000 : Int) < (p.length : Int)) = false := decide_eq_false (by omega)
  have t2' : decide (1000 < p.length) = false := decide_eq_false h1
  obtain ⟨bb, bo, hao, a0, a1⟩ := st_cells HR.out (j := 0) (by omega)
  clear a1
  simp only [Nat.zero_mul, Nat.add_zero] at a0
  have hP0 : (p.getD 0 (0, 0)).1 = (p[0]'(by omega)).1 := by rw [getD_eq]
  obtain ⟨x0, hx0⟩ : ∃ x, x = (p[0]'(by omega)).1 := ⟨_, rfl⟩
  rw [← hx0] at hP0 a0
  have hpos : (0 : Int) < (p.length : Int) := by omega
  subst hao
  by_cases h2 : x0 = 0
  · have t3 : (x0 != 0) = false := by rw [h2]; rfl
    rw [h2] at hP0
    have HP0 := Lib.hid hP0
    have HLE : Hid (1 ≤ p.length ∧ p.length ≤ 1000) := Lib.hid (by omega)
    have HE := Lib.hid hE
    clear hE hP0 hx0 h2 h0 h1
    go_enter Try.func11, Try.ntmps11
    go_wp2
    go_loopw [3] (fun i wr => ∃ k : Nat, i = .int .i64 (k : Int) ∧ k ≤ p.length ∧ (∀ j, j < k → okAt p j) ∧ Below w.heap.size w wr) (fun i _ => p.length - (intOf i).toNat)
    case atStart => exact ⟨0, rfl, Nat.zero_le _, fun _ h => absurd h (Nat.not_lt_zero _), Below.refl _ _⟩
    case round =>
      obtain ⟨k, rfl, hk, hs, hb⟩ := hrel
      have HS := Lib.hid hs
      have HB := Lib.hid hb
      clear hs a0
      by_cases hp : k < p.length
      · obtain ⟨bb2, bo2, hao2, b0, b1⟩ := st_cells (HR.out.below stC_length hb) hp
        obtain ⟨rfl, rfl⟩ : bb = bb2 ∧ bo = bo2 := by simpa using hao2
        clear hao2
        have hno : ¬ okAt p k → E = 100 := fun h => by rw [HE.out, chkE_100 (no_ok hp h)]
        have hgo : okAt p k → ∀ j, j < k + 1 → okAt p j := fun h j hj => by
          by_cases he : j = k
          · subst he; exact h
          · exact HS.out j (by omega)
        have hok := okAt_iff hp
        have hlow : (0 : Int) ≤ (k : Int) := by omega
        have hup : (k : Int) < ((p.length : Nat) : Int) := by omega
        obtain ⟨⟨a, f⟩, hA⟩ : ∃ A : St, A = p[k] := ⟨_, rfl⟩
        rw [← hA] at b0 b1 hok
        dsimp only at b0 b1 hok
        by_cases c1 : f < -1000000
        · have t5 : decide (f < -1000000) = true := decide_eq_true c1
          have HN := Lib.hid (hno (fun h => by have := hok.1 h; omega))
          clear hno hgo hok hA hb c1
          go_wp2
          go_ret
          exact ⟨ret_i64 HN.out.symm, HB.out⟩
        have t5 : decide (f < -1000000) = false := decide_eq_false c1
        by_cases c2 : 1000000 < f
        · have t6 : decide (1000000 < f) = true := decide_eq_true c2
          have HN := Lib.hid (hno (fun h => by have := hok.1 h; omega))
          clear hno hgo hok hA hb c1 c2
          go_wp2
          go_ret
          exact ⟨ret_i64 HN.out.symm, HB.out⟩
        have t6 : decide (1000000 < f) = false := decide_eq_false c2
        by_cases c3 : 1000000 < a
        · have t7 : decide (1000000 < a) = true := decide_eq_true c3
          have HN := Lib.hid (hno (fun h => by have := hok.1 h; omega))
          clear hno hgo hok hA hb c1 c2 c3
          go_wp2
          go_ret
          exact ⟨ret_i64 HN.out.symm, HB.out⟩
        have t7 : decide (1000000 < a) = false := decide_eq_false c3
        rcases Nat.eq_zero_or_pos k with h0 | h0
        · have t8 : decide ((0 : Int) < (k : Int)) = false := decide_eq_false (by omega)
          have t8' : decide (0 < k) = false := decide_eq_false (by omega)
          have HN := Lib.hid (hgo (hok.2 ⟨⟨by omega, by omega, by omega⟩, fun h => by omega⟩))
          clear hno hgo hok hA hb c1 c2 c3 h0
          go_wp2
          go_quiet (fail)
          go_wp2
          refine ⟨⟨k + 1, by go_num, by omega, HN.out, by (focus repeat (first | exact Below.refl _ _ | assumption | (exact Hid.out (by assumption)) | (with_reducible refine Below.drew ?_) | (with_reducible refine Base.below_drewN ?_ _) | (refine Below.from (below_one _) ?_) | (refine Below.from (below_conv _ _ _) ?_) | (refine Below.setCell ?_ (by simp <;> omega) _) | (refine Below.from (by assumption) ?_)))⟩, ?_⟩
          simp [intOf]; omega
        · obtain ⟨m, rfl⟩ : ∃ m, k = m + 1 := ⟨k - 1, by omega⟩
          rw [Nat.add_sub_cancel, getD_eq (k := m) (by omega)] at hok
          obtain ⟨bb3, bo3, hao3, d0, d1⟩ := st_cells (HR.out.below stC_length hb) (j := m) (by omega)
          obtain ⟨rfl, rfl⟩ : bb = bb3 ∧ bo = bo3 := by simpa using hao3
          have t8 : decide ((0 : Int) < ((m + 1 : Nat) : Int)) = true := decide_eq_true (by omega)
          have t8' : decide ((0 : Int) < (m : Int) + 1) = true := decide_eq_true (by omega)
          have hlow2 : (0 : Int) ≤ (m : Int) := by omega
          have hup2 : (m : Int) < ((p.length : Nat) : Int) := by omega
          have hwm : IntKind.i64.wrap (m : Int) = (m : Int) := by simp only [IntKind.wrap_i64]; omega
          obtain ⟨⟨b, g⟩, hB⟩ : ∃ B : St, B = p[m]'(by omega) := ⟨_, rfl⟩
          rw [← hB] at d0 d1 hok
          dsimp only at d0 d1 hok
          by_cases c4 : a ≤ b
          · have t9 : decide (a ≤ b) = true := decide_eq_true c4
            have HN := Lib.hid (hno (fun h => by have := (hok.1 h).2 (by omega); omega))
            clear hno hgo hok hA hb c1 c2 c3 h0 c4 hB hao3
            go_wp2
            go_quiet (fail)
            go_wp2
            go_ret
            exact ⟨ret_i64 HN.out.symm, by (focus repeat (first | exact Below.refl _ _ | assumption | (exact Hid.out (by assumption)) | (with_reducible refine Below.drew ?_) | (with_reducible refine Base.below_drewN ?_ _) | (refine Below.from (below_one _) ?_) | (refine Below.from (below_conv _ _ _) ?_) | (refine Below.setCell ?_ (by simp <;> omega) _) | (refine Below.from (by assumption) ?_)))⟩
          have t9 : decide (a ≤ b) = false := decide_eq_false c4
          by_cases c5 : f = g
          · have t10 : (f == g) = true := by rw [beq_iff_eq]; exact c5
            have HN := Lib.hid (hno (fun h => by have := (hok.1 h).2 (by omega); omega))
            clear hno hgo hok hA hb c1 c2 c3 h0 c4 hB hao3 c5
            go_wp2
            go_quiet (fail)
            go_wp2
            go_ret
            exact ⟨ret_i64 HN.out.symm, by (focus repeat (first | exact Below.refl _ _ | assumption | (exact Hid.out (by assumption)) | (with_reducible refine Below.drew ?_) | (with_reducible refine Base.below_drewN ?_ _) | (refine Below.from (below_one _) ?_) | (refine Below.from (below_conv _ _ _) ?_) | (refine Below.setCell ?_ (by simp <;> omega) _) | (refine Below.from (by assumption) ?_)))⟩
          have t10 : (f == g) = false := by rw [beq_eq_false_iff_ne]; exact c5
          have HN := Lib.hid (hgo (hok.2 ⟨⟨by omega, by omega, by omega⟩, fun h => ⟨by omega, c5⟩⟩))
          clear hno hgo hok hA hb c1 c2 c3 h0 c4 hB hao3 c5
          go_wp2
          go_quiet (fail)
          go_wp2
          refine ⟨⟨m + 1 + 1, by go_num, by omega, HN.out, by (focus repeat (first | exact Below.refl _ _ | assumption | (exact Hid.out (by assumption)) | (with_reducible refine Below.drew ?_) | (with_reducible refine Base.below_drewN ?_ _) | (refine Below.from (below_one _) ?_) | (refine Below.from (below_conv _ _ _) ?_) | (refine Below.setCell ?_ (by simp <;> omega) _) | (refine Below.from (by assumption) ?_)))⟩, ?_⟩
          simp [intOf]; omega
      · have HN : Hid (0 = E) := Lib.hid (by rw [HE.out, chkE_0 ⟨⟨HLE.out.1, HLE.out.2, HP0.out⟩, fun j hj => HS.out j (by omega)⟩])
        go_wp2
        go_ret
        exact ⟨ret_i64 HN.out, HB.out⟩
  · have t3 : (x0 != 0) = true := by rw [bne_iff_ne]; exact h2
    have HE : Hid (100 = E) := Lib.hid (by rw [hE, chkE_100 (fun h => h2 (by rw [← hP0]; exact h.1.2.2))])
    clear hE h0 h1 h2 hP0 hx0
    go_enter Try.func11, Try.ntmps11
    go_wp2
    go_ret
    exact ⟨ret_i64 HE.out, Below.refl _ _⟩

end Go.Proofs.Ytoiahlbaiakngaa.Prof
