/-
  The walks of the program's own question whether alternatives may be, and of Check.
-/
import Derived.Test.YtlmogkhgangmgaaShapeBits
namespace Go.Proofs.Ytlmogkhgangmgaa.Shape
open Go.RowKit
open Base
set_option linter.unusedVariables false
set_option linter.unusedSimpArgs false

theorem hasN_not (zs : List Alt) (x : Int) : (∀ j (h : j < zs.length), zs[j].1 ≠ x) → false = hasN zs x := by
  intro h; symm
  have := (hasN_take zs zs.length x).2 (fun i hi _ => h i hi)
  rwa [List.take_of_length_le (Nat.le_refl _)] at this
theorem hasN_yes (zs : List Alt) (x : Int) (j : Nat) (hj : j < zs.length) (h : zs[j].1 = x) : true = hasN zs x := by
  symm; unfold hasN; rw [List.any_eq_true]
  exact ⟨zs[j], List.getElem_mem hj, by simpa using h⟩

set_option maxHeartbeats 1000000 in
theorem index_any (ao : Option Addr) (len cap : Nat) (zs : List Alt) (B : Nat) (x : Int) (w : World) (hlen : zs.length = len) (hl : len ≤ maxLen) (hr : ReadsS 2 altC w ao zs) (hB : w.cell? ⟨B, 0, none⟩ = some (.int .i64 x)) :
    Calls Try.prog 41 #[.slice ao len cap, .func (.func 37) #[] #[.pointer (some ⟨B, 0, none⟩)]] w fun e w' => ∃ i : Int, e = .returned (.int .i64 i) ∧ decide (0 ≤ i) = hasN zs x ∧ Below w.heap.size w w' := by
  subst hlen
  unfold maxLen at hl
  have HR := Lib.hid hr
  have HB := Lib.hid hB
  clear hr hB
  go_enter Try.func41, Try.ntmps41
  go_wp2
  go_loopw [8] (fun i wr => ∃ k : Nat, i = .int .i64 (k : Int) ∧ k ≤ zs.length ∧ (∀ j (h : j < zs.length), j < k → zs[j].1 ≠ x) ∧ Below w.heap.size w wr) (fun i _ => zs.length - (intOf i).toNat)
  case atStart => exact ⟨0, rfl, Nat.zero_le _, fun _ _ h => absurd h (Nat.not_lt_zero _), Below.refl _ _⟩
  case round =>
    obtain ⟨k, rfl, hk, hs, hb⟩ := hrel
    have HS := Lib.hid hs
    have HBel := Lib.hid hb
    clear hs
    by_cases hp : k < zs.length
    · obtain ⟨bb, bo, rfl, b0, b1⟩ := alt_cells (HR.out.below altC_length hb) hp
      have hc := cell_below HB.out hb
      have cA := fun n wl w hB => asLarge_any B x n wl w hB
      have hhit : zs[k].1 = x → true = hasN zs x := hasN_yes zs x k hp
      have hno : zs[k].1 ≠ x → ∀ j (h : j < zs.length), j < k + 1 → zs[j].1 ≠ x := fun h0 j hj hjk => by
        by_cases he : j = k
        · subst he; exact h0
        · exact HS.out j hj (by omega)
      obtain ⟨⟨n, wl⟩, hA⟩ : ∃ A : Alt, A = zs[k] := ⟨_, rfl⟩
      rw [← hA] at b0 b1 hhit hno
      dsimp only at b0 b1 hhit hno
      have HC := Lib.hid hc
      have CA := Lib.hid cA
      clear hA hb hc cA
      by_cases hx : n = x
      · have t1 : (n == x) = true := by simpa using hx
        have HH := Lib.hid (hhit hx)
        clear hhit hno hx
        go_wp2_with (first
          | (go_at_call 37; (with_reducible refine (CA.out _ _ _ HC.out).mono ?_); rintro e w1 ⟨rfl, p1⟩)
          | fail)
        go_ret
        exact ⟨_, rfl, by rw [← HH.out]; simp, p1.from HBel.out⟩
      · have t1 : (n == x) = false := by simpa using hx
        have HN := Lib.hid (hno hx)
        clear hhit hno hx
        go_wp2_with (first
          | (go_at_call 37; (with_reducible refine (CA.out _ _ _ HC.out).mono ?_); rintro e w1 ⟨rfl, p1⟩)
          | fail)
        refine ⟨⟨k + 1, by go_num, by omega, HN.out, p1.from HBel.out⟩, ?_⟩
        simp [intOf]; omega
    · have HH := Lib.hid (hasN_not zs x fun j hj => HS.out j hj (by omega))
      go_wp2
      go_ret
      exact ⟨_, rfl, by rw [← HH.out]; simp, HBel.out⟩

set_option maxHeartbeats 1000000 in
theorem contains_any (ao : Option Addr) (len cap : Nat) (zs : List Alt) (B : Nat) (x : Int) (w : World) (hlen : zs.length = len) (hl : len ≤ maxLen) (hr : ReadsS 2 altC w ao zs) (hB : w.cell? ⟨B, 0, none⟩ = some (.int .i64 x)) :
    Calls Try.prog 38 #[.slice ao len cap, .func (.func 37) #[] #[.pointer (some ⟨B, 0, none⟩)]] w fun e w' => e = .returned (.bool (hasN zs x)) ∧ Below w.heap.size w w' := by
  have c1 := index_any ao len cap zs B x w hlen hl hr hB
  obtain ⟨H, hH⟩ : ∃ H, H = hasN zs x := ⟨_, rfl⟩
  rw [← hH] at c1 ⊢
  have C1 := Lib.hid c1
  clear c1 hH hr hB hlen
  go_enter Try.func38, Try.ntmps38
  go_wp2_with (first
    | (go_at_call 41; (with_reducible refine (C1.out).mono ?_); rintro e w1 ⟨i, rfl, hi, p1⟩)
    | fail)
  go_ret
  exact ⟨ret_bool (by first | exact hi | rfl), p1⟩

set_option maxHeartbeats 1000000 in
theorem mayBe_any (ao : Option Addr) (len cap : Nat) (zs : List Alt) (m : Int) (w : World) (hlen : zs.length = len) (hl : len ≤ cap) (hcap : cap ≤ maxLen) (hr : ReadsS 2 altC w ao zs) :
    Calls Try.prog 24 #[.slice ao len cap, .int .i64 m] w fun e w' => e = .returned (.bool (mayB zs m)) ∧ Below w.heap.size w w' := by
  subst hlen
  unfold maxLen at hcap
  have cF := isFrom_any (zs.length : Int) 1 m w
  have HR := Lib.hid hr
  clear hr
  obtain ⟨M, hM⟩ : ∃ M, M = mayB zs m := ⟨_, rfl⟩
  rw [← hM]
  unfold mayB at hM
  cases hq : frB (zs.length : Int) 1 m with
  | false =>
    rw [hq] at hM cF
    have HM : Hid (false = M) := Lib.hid (by rw [hM]; rfl)
    have CF := Lib.hid cF
    clear hM cF hq
    go_enter Try.func24, Try.ntmps24
    go_wp2_with (first
      | (go_at_call 35; (with_reducible refine (CF.out).mono ?_); rintro e w1 ⟨rfl, rfl⟩)
      | fail)
    go_ret
    exact ⟨ret_bool HM.out, Below.refl _ _⟩
  | true =>
    rw [hq, Bool.true_and] at hM
    rw [hq] at cF
    have HM := Lib.hid hM
    have CF := Lib.hid cF
    clear hM cF hq
    go_enter Try.func24, Try.ntmps24
    go_wp2_with (first
      | (go_at_call 35; (with_reducible refine (CF.out).mono ?_); rintro e w1 ⟨rfl, rfl⟩)
      | fail)
    go_loopw [15] (fun i wr => ∃ k : Nat, i = .int .i64 (k : Int) ∧ k ≤ zs.length ∧ (∀ j (h : j < zs.length), j < k → altOk zs[j] = true ∧ hasN (zs.take j) zs[j].1 = false) ∧ Below w.heap.size w wr) (fun i _ => zs.length - (intOf i).toNat)
    case atStart => exact ⟨0, rfl, Nat.zero_le _, fun _ _ h => absurd h (Nat.not_lt_zero _), Below.refl _ _⟩
    case round =>
      obtain ⟨k, rfl, hk, hs, hb⟩ := hrel
      have HS := Lib.hid hs
      have HBel := Lib.hid hb
      clear hs
      by_cases hp : k < zs.length
      · obtain ⟨bb, bo, hao, b0, b1⟩ := alt_cells (HR.out.below altC_length hb) hp
        have cC := fun (w2 : World) (hb2 : Below w.heap.size w w2) (B : Nat) (x : Int) (hB : w2.cell? ⟨B, 0, none⟩ = some (.int .i64 x)) => contains_any ao k cap (zs.take k) B x w2 (by simp; omega) (by unfold maxLen; omega) (by
          have := HR.out.below altC_length hb2
          rcases this with h | ⟨b, off, h1, h2⟩
          · exact .inl (by rw [h]; simp)
          · refine .inr ⟨b, off, h1, fun j hj i hi => ?_⟩
            rw [List.length_take] at hj
            rw [h2 j (by omega) i hi, List.getElem_take]) hB
        have hno : altOk zs[k] = false ∨ hasN (zs.take k) zs[k].1 = true → false = M := fun h => by rw [HM.out, goodB_no zs k hp h]
        have hgo : altOk zs[k] = true → hasN (zs.take k) zs[k].1 = false → ∀ j (h : j < zs.length), j < k + 1 → altOk zs[j] = true ∧ hasN (zs.take j) zs[j].1 = false := fun h1 h2 j hj hjk => by
          by_cases he : j = k
          · subst he; exact ⟨h1, h2⟩
          · exact HS.out j hj (by omega)
        subst hao
        have hao : True := trivial
        unfold altOk at hno hgo
        obtain ⟨Z, hZ⟩ : ∃ Z, Z = zs.take k := ⟨_, rfl⟩
        obtain ⟨⟨n, wl⟩, hA⟩ : ∃ A : Alt, A = zs[k] := ⟨_, rfl⟩
        rw [← hA] at b0 b1
        simp only [← hA, ← hZ] at hno
        have hgo2 : (sizeB n && wallB wl) = true → hasN Z n = false → ∀ j (h : j < zs.length), j < k + 1 → altOk zs[j] = true ∧ hasN (zs.take j) zs[j].1 = false := by
          intro h1 h2; unfold altOk; apply hgo
          · rw [← hA]; exact h1
          · rw [← hA, ← hZ]; exact h2
        rw [← hZ] at cC
        dsimp only at b0 b1 hno
        clear hA hb hZ hgo hao
        have cS := isSize_any n
        have cW := isWall_any wl
        cases hq1 : sizeB n with
        | false =>
          rw [hq1] at cS
          have HN := Lib.hid (hno (.inl (by rw [hq1]; rfl)))
          have CS := Lib.hid cS
          clear hno hgo2 cS cW cC hq1
          go_wp2_with (first
            | (go_at_call 26; (with_reducible refine (CS.out _).mono ?_); rintro e w1 ⟨rfl, rfl⟩)
            | fail)
          go_ret
          exact ⟨ret_bool HN.out, by (focus repeat (first | exact Below.refl _ _ | assumption | (exact Hid.out (by assumption)) | (with_reducible refine Below.drew ?_) | (with_reducible refine Base.below_drewN ?_ _) | (refine Below.from (below_one _) ?_) | (refine Below.from (below_conv _ _ _) ?_) | (refine Below.setCell ?_ (by simp <;> omega) _) | (refine Below.from (by assumption) ?_)))⟩
        | true =>
          rw [hq1] at cS
          have CS := Lib.hid cS
          clear cS
          cases hq2 : wallB wl with
          | false =>
            rw [hq2] at cW
            have HN := Lib.hid (hno (.inl (by rw [hq1, hq2]; rfl)))
            have CW := Lib.hid cW
            clear hno hgo2 cW cC hq1 hq2
            go_wp2_with (first
              | (go_at_call 26; (with_reducible refine (CS.out _).mono ?_); rintro e w1 ⟨rfl, rfl⟩)
              | (go_at_call 27; (with_reducible refine (CW.out _).mono ?_); rintro e w1 ⟨rfl, rfl⟩)
              | fail)
            go_ret
            exact ⟨ret_bool HN.out, by (focus repeat (first | exact Below.refl _ _ | assumption | (exact Hid.out (by assumption)) | (with_reducible refine Below.drew ?_) | (with_reducible refine Base.below_drewN ?_ _) | (refine Below.from (below_one _) ?_) | (refine Below.from (below_conv _ _ _) ?_) | (refine Below.setCell ?_ (by simp <;> omega) _) | (refine Below.from (by assumption) ?_)))⟩
          | true =>
            rw [hq2] at cW
            have CW := Lib.hid cW
            have h12 : (sizeB n && wallB wl) = true := by rw [hq1, hq2]; rfl
            clear cW hq1 hq2
            cases hq3 : hasN Z n with
            | true =>
              have HN := Lib.hid (hno (.inr hq3))
              have cC2 := fun (w2 : World) (hb2 : Below w.heap.size w w2) (B : Nat) (hB : w2.cell? ⟨B, 0, none⟩ = some (.int .i64 n)) => cC w2 hb2 B n hB
              simp only [hq3] at cC2
              have CC := Lib.hid cC2
              clear hno hgo2 cC cC2 hq3 h12
              go_wp2_with (first
                | (go_at_call 26; (with_reducible refine (CS.out _).mono ?_); rintro e w1 ⟨rfl, rfl⟩)
                | (go_at_call 27; (with_reducible refine (CW.out _).mono ?_); rintro e w1 ⟨rfl, rfl⟩)
                | (go_at_call 38; (with_reducible refine (CC.out _ (by (focus repeat (first | exact Below.refl _ _ | assumption | (exact Hid.out (by assumption)) | (with_reducible refine Below.drew ?_) | (with_reducible refine Base.below_drewN ?_ _) | (refine Below.from (below_one _) ?_) | (refine Below.from (below_conv _ _ _) ?_) | (refine Below.setCell ?_ (by simp <;> omega) _) | (refine Below.from (by assumption) ?_)))) _ (by simp [World.cell?_alloc_at])).mono ?_); rintro e w2 ⟨rfl, p2⟩)
                | fail)
              go_ret
              exact ⟨ret_bool HN.out, by (focus repeat (first | exact Below.refl _ _ | assumption | (exact Hid.out (by assumption)) | (with_reducible refine Below.drew ?_) | (with_reducible refine Base.below_drewN ?_ _) | (refine Below.from (below_one _) ?_) | (refine Below.from (below_conv _ _ _) ?_) | (refine Below.setCell ?_ (by simp <;> omega) _) | (refine Below.from (by assumption) ?_)))⟩
            | false =>
              have HG := Lib.hid (hgo2 h12 hq3)
              have cC2 := fun (w2 : World) (hb2 : Below w.heap.size w w2) (B : Nat) (hB : w2.cell? ⟨B, 0, none⟩ = some (.int .i64 n)) => cC w2 hb2 B n hB
              simp only [hq3] at cC2
              have CC := Lib.hid cC2
              clear hno hgo2 cC cC2 hq3 h12
              go_wp2_with (first
                | (go_at_call 26; (with_reducible refine (CS.out _).mono ?_); rintro e w1 ⟨rfl, rfl⟩)
                | (go_at_call 27; (with_reducible refine (CW.out _).mono ?_); rintro e w1 ⟨rfl, rfl⟩)
                | (go_at_call 38; (with_reducible refine (CC.out _ (by (focus repeat (first | exact Below.refl _ _ | assumption | (exact Hid.out (by assumption)) | (with_reducible refine Below.drew ?_) | (with_reducible refine Base.below_drewN ?_ _) | (refine Below.from (below_one _) ?_) | (refine Below.from (below_conv _ _ _) ?_) | (refine Below.setCell ?_ (by simp <;> omega) _) | (refine Below.from (by assumption) ?_)))) _ (by simp [World.cell?_alloc_at])).mono ?_); rintro e w2 ⟨rfl, p2⟩)
                | fail)
              refine ⟨⟨k + 1, by go_num, by omega, HG.out, by (focus repeat (first | exact Below.refl _ _ | assumption | (exact Hid.out (by assumption)) | (with_reducible refine Below.drew ?_) | (with_reducible refine Base.below_drewN ?_ _) | (refine Below.from (below_one _) ?_) | (refine Below.from (below_conv _ _ _) ?_) | (refine Below.setCell ?_ (by simp <;> omega) _) | (refine Below.from (by assumption) ?_)))⟩, ?_⟩
              simp [intOf]; omega
      · have HN : Hid (true = M) := Lib.hid (by rw [HM.out]; symm; exact (goodB_steps zs).2 fun j hj => HS.out j hj (by omega))
        go_wp2
        go_ret
        exact ⟨ret_bool HN.out, HBel.out⟩

end Go.Proofs.Ytlmogkhgangmgaa.Shape
