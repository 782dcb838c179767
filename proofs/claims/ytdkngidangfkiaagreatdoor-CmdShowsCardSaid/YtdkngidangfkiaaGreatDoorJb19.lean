/-
  Joined out of: The walks of what asks whether dependencies may be.
-/
import Derived.Test.YtdkngidangfkiaaGreatDoorJb09
import Derived.Test.YtdkngidangfkiaaGreatDoorJb15
namespace Go.Proofs.YtdkngidangfkiaaGreatDoor.Cmd
open Go.RowKit
open Base
open Shape (altC altC_length alt_cells frB)
set_option linter.unusedVariables false
set_option linter.unusedSimpArgs false
def goodD (l : List (Int × Int)) : Bool := l.all depOk && decide (l.map Prod.snd).Nodup
theorem depsB_good (l : List (Int × Int)) : depsB l = (decide (l.length ≤ 4) && goodD l) := rfl
theorem goodD_iff (zs : List (Int × Int)) : goodD zs = true ↔ (∀ i (h : i < zs.length), depOk zs[i] = true) ∧ ∀ i j (hi : i < zs.length) (hj : j < zs.length), i < j → zs[i].2 ≠ zs[j].2 := by
  unfold goodD
  rw [Bool.and_eq_true, List.all_eq_true, decide_eq_true_iff]
  unfold List.Nodup
  rw [List.pairwise_iff_getElem]
  constructor
  · rintro ⟨h1, h2⟩
    refine ⟨fun i h => h1 _ (List.getElem_mem h), fun i j hi hj hij => ?_⟩
    have := h2 i j (by simpa using hi) (by simpa using hj) hij
    simpa using this
  · rintro ⟨h1, h2⟩
    refine ⟨fun x hx => ?_, fun i j hi hj hij => ?_⟩
    · obtain ⟨i, hi, rfl⟩ := List.getElem_of_mem hx
      exact h1 i hi
    · simp only [List.length_map] at hi hj
      simpa using h2 i j hi hj hij
theorem hasJ_take (zs : List (Int × Int)) (k : Nat) (x : Int) : hasJ (zs.take k) x = false ↔ ∀ i (h : i < zs.length), i < k → zs[i].2 ≠ x := by
  unfold hasJ
  rw [List.any_eq_false]
  constructor
  · intro h i hi hk
    have := h zs[i] (List.mem_take_iff_getElem.2 ⟨i, by omega, rfl⟩)
    simpa using this
  · intro h a ha
    obtain ⟨i, hi, rfl⟩ := List.mem_take_iff_getElem.1 ha
    have := h i (by omega) (by omega)
    simpa using this
theorem goodD_steps (zs : List (Int × Int)) : goodD zs = true ↔ ∀ k (h : k < zs.length), depOk zs[k] = true ∧ hasJ (zs.take k) zs[k].2 = false := by
  rw [goodD_iff]
  constructor
  · rintro ⟨h1, h2⟩ k hk
    exact ⟨h1 k hk, (hasJ_take _ _ _).2 fun i hi hik => h2 i k hi hk hik⟩
  · intro h
    exact ⟨fun i hi => (h i hi).1, fun i j hi hj hij => (hasJ_take _ _ _).1 (h j hj).2 i hi hij⟩
theorem goodD_no (zs : List (Int × Int)) (k : Nat) (h : k < zs.length) (hn : depOk zs[k] = false ∨ hasJ (zs.take k) zs[k].2 = true) : goodD zs = false := by
  cases hg : goodD zs with
  | false => rfl
  | true =>
    have := (goodD_steps zs).1 hg k h
    rcases hn with hn | hn
    · rw [hn] at this; exact absurd this.1 (by simp)
    · rw [hn] at this; exact absurd this.2 (by simp)
set_option maxHeartbeats 1000000 in
theorem sameJob_any (B : Nat) (x : Int) (n wl : Int) (w : World) (hB : w.cell? ⟨B, 1, none⟩ = some (.int .i64 x)) :
    Calls Tryz.prog 121 #[.agg #[.int .i64 n, .int .i64 wl], .pointer (some ⟨B, 0, none⟩)] w fun e w' => e = .returned (.bool (wl == x)) ∧ Below w.heap.size w w' := by
  have h2 := cell_below hB (below_one (.cells #[.int .i64 n, .int .i64 wl] 64))
  have hlt := lt_of_cell hB
  go_enter Tryz.func121, Tryz.ntmps121
  go_wp2
  go_ret
  exact ⟨rfl, Base.bel_⟩
theorem hasJ_not (zs : List (Int × Int)) (x : Int) : (∀ j (h : j < zs.length), zs[j].2 ≠ x) → false = hasJ zs x := by
  intro h; symm
  have := (hasJ_take zs zs.length x).2 (fun i hi _ => h i hi)
  rwa [List.take_of_length_le (Nat.le_refl _)] at this
theorem hasJ_yes (zs : List (Int × Int)) (x : Int) (j : Nat) (hj : j < zs.length) (h : zs[j].2 = x) : true = hasJ zs x := by
  symm; unfold hasJ; rw [List.any_eq_true]
  exact ⟨zs[j], List.getElem_mem hj, by simpa using h⟩
set_option maxHeartbeats 1000000 in
theorem indexd_any (ao : Option Addr) (len cap : Nat) (zs : List (Int × Int)) (B : Nat) (x : Int) (w : World) (hlen : zs.length = len) (hl : len ≤ maxLen) (hr : ReadsS 2 altC w ao zs) (hB : w.cell? ⟨B, 1, none⟩ = some (.int .i64 x)) :
    Calls Tryz.prog 159 #[.slice ao len cap, .func (.func 121) #[] #[.pointer (some ⟨B, 0, none⟩)]] w fun e w' => ∃ i : Int, e = .returned (.int .i64 i) ∧ decide (0 ≤ i) = hasJ zs x ∧ Below w.heap.size w w' := by
  subst hlen
  unfold maxLen at hl
  have HR := Lib.hid hr
  have HB := Lib.hid hB
  clear hr hB
  go_enter Tryz.func159, Tryz.ntmps159
  go_wp2
  go_loopw [8] (fun i wr => ∃ k : Nat, i = .int .i64 (k : Int) ∧ k ≤ zs.length ∧ (∀ j (h : j < zs.length), j < k → zs[j].2 ≠ x) ∧ Below w.heap.size w wr) (fun i _ => zs.length - (intOf i).toNat)
  case atStart => exact ⟨0, rfl, Nat.zero_le _, fun _ _ h => absurd h (Nat.not_lt_zero _), Below.refl _ _⟩
  case round =>
    obtain ⟨k, rfl, hk, hs, hb⟩ := hrel
    have HS := Lib.hid hs
    have HBel := Lib.hid hb
    clear hs
    by_cases hp : k < zs.length
    · obtain ⟨bb, bo, rfl, b0, b1⟩ := alt_cells (HR.out.below altC_length hb) hp
      have hc := cell_below HB.out hb
      have cA := fun n wl w hB => sameJob_any B x n wl w hB
      have hhit : zs[k].2 = x → true = hasJ zs x := hasJ_yes zs x k hp
      have hno : zs[k].2 ≠ x → ∀ j (h : j < zs.length), j < k + 1 → zs[j].2 ≠ x := fun h0 j hj hjk => by
        by_cases he : j = k
        · subst he; exact h0
        · exact HS.out j hj (by omega)
      obtain ⟨⟨n, wl⟩, hA⟩ : ∃ A : Int × Int, A = zs[k] := ⟨_, rfl⟩
      rw [← hA] at b0 b1 hhit hno
      dsimp only at b0 b1 hhit hno
      have HC := Lib.hid hc
      have CA := Lib.hid cA
      clear hA hb hc cA
      by_cases hx : wl = x
      · have t1 : (wl == x) = true := by simpa using hx
        have HH := Lib.hid (hhit hx)
        clear hhit hno hx
        go_wp2_with (first
          | (go_at_call 121; (with_reducible refine (CA.out _ _ _ HC.out).mono ?_); rintro e w1 ⟨rfl, p1⟩)
          | fail)
        go_ret
        exact ⟨_, rfl, by rw [← HH.out]; simp, p1.from HBel.out⟩
      · have t1 : (wl == x) = false := by simpa using hx
        have HN := Lib.hid (hno hx)
        clear hhit hno hx
        go_wp2_with (first
          | (go_at_call 121; (with_reducible refine (CA.out _ _ _ HC.out).mono ?_); rintro e w1 ⟨rfl, p1⟩)
          | fail)
        refine ⟨⟨k + 1, by go_num, by omega, HN.out, p1.from HBel.out⟩, ?_⟩
        simp [intOf]; omega
    · have HH := Lib.hid (hasJ_not zs x fun j hj => HS.out j hj (by omega))
      go_wp2
      go_ret
      exact ⟨_, rfl, by rw [← HH.out]; simp, HBel.out⟩
set_option maxHeartbeats 1000000 in
theorem containsd_any (ao : Option Addr) (len cap : Nat) (zs : List (Int × Int)) (B : Nat) (x : Int) (w : World) (hlen : zs.length = len) (hl : len ≤ maxLen) (hr : ReadsS 2 altC w ao zs) (hB : w.cell? ⟨B, 1, none⟩ = some (.int .i64 x)) :
    Calls Tryz.prog 122 #[.slice ao len cap, .func (.func 121) #[] #[.pointer (some ⟨B, 0, none⟩)]] w fun e w' => e = .returned (.bool (hasJ zs x)) ∧ Below w.heap.size w w' := by
  have c1 := indexd_any ao len cap zs B x w hlen hl hr hB
  obtain ⟨H, hH⟩ : ∃ H, H = hasJ zs x := ⟨_, rfl⟩
  rw [← hH] at c1 ⊢
  have C1 := Lib.hid c1
  clear c1 hH hr hB hlen
  go_enter Tryz.func122, Tryz.ntmps122
  go_wp2_with (first
    | (go_at_call 159; (with_reducible refine (C1.out).mono ?_); rintro e w1 ⟨i, rfl, hi, p1⟩)
    | fail)
  go_ret
  exact ⟨ret_bool (by first | exact hi | rfl), p1⟩
set_option maxRecDepth 100000 in
set_option maxHeartbeats 2000000 in
theorem afterMay_any (ao : Option Addr) (cap : Nat) (zs : List (Int × Int)) (w : World) (hl : zs.length ≤ cap) (hcap : cap ≤ maxLen) (hr : ReadsS 2 altC w ao zs) :
    Calls Tryz.prog 82 #[.slice ao zs.length cap] w fun e w' => e = .returned (.bool (depsB zs)) ∧ Below w.heap.size w w' := by
  rw [depsB_good]
  unfold maxLen at hcap
  have HR := Lib.hid hr
  clear hr
  by_cases h4 : 4 < zs.length
  · have t4 : decide ((4 : Int) < (zs.length : Int)) = true := by rw [decide_eq_true_iff]; omega
    have t5 : decide (zs.length ≤ 4) = false := by simpa using h4
    rw [t5]
    go_enter Tryz.func82, Tryz.ntmps82
    go_wp2
    go_ret
    exact ⟨rfl, Base.bel_⟩
  have t4 : decide ((4 : Int) < (zs.length : Int)) = false := by rw [decide_eq_false_iff_not]; omega
  have t5 : decide (zs.length ≤ 4) = true := by simpa using h4
  rw [t5, Bool.true_and]
  obtain ⟨M, hM⟩ : ∃ M, M = goodD zs := ⟨_, rfl⟩
  rw [← hM]
  have HM := Lib.hid hM
  clear hM
  go_enter Tryz.func82, Tryz.ntmps82
  go_wp2
  go_loopw [11] (fun i wr => ∃ k : Nat, i = .int .i64 (k : Int) ∧ k ≤ zs.length ∧ (∀ j (h : j < zs.length), j < k → depOk zs[j] = true ∧ hasJ (zs.take j) zs[j].2 = false) ∧ Below w.heap.size w wr) (fun i _ => zs.length - (intOf i).toNat)
  case atStart => exact ⟨0, rfl, Nat.zero_le _, fun _ _ h => absurd h (Nat.not_lt_zero _), Below.refl _ _⟩
  case round =>
    obtain ⟨k, rfl, hk, hs, hb⟩ := hrel
    have HS := Lib.hid hs
    have HBel := Lib.hid hb
    clear hs
    by_cases hp : k < zs.length
    · obtain ⟨bb, bo, hao, b0, b1⟩ := alt_cells (HR.out.below altC_length hb) hp
      have cC := fun (w2 : World) (hb2 : Below w.heap.size w w2) (B : Nat) (x : Int) (hB : w2.cell? ⟨B, 1, none⟩ = some (.int .i64 x)) => containsd_any ao k cap (zs.take k) B x w2 (by simp; omega) (by unfold maxLen; omega) (by
        have := HR.out.below altC_length hb2
        rcases this with h | ⟨b, off, h1, h2⟩
        · exact .inl (by rw [h]; simp)
        · refine .inr ⟨b, off, h1, fun j hj i hi => ?_⟩
          rw [List.length_take] at hj
          rw [h2 j (by omega) i hi, List.getElem_take]) hB
      have hno : depOk zs[k] = false ∨ hasJ (zs.take k) zs[k].2 = true → false = M := fun h => by rw [HM.out, goodD_no zs k hp h]
      have hgo : depOk zs[k] = true → hasJ (zs.take k) zs[k].2 = false → ∀ j (h : j < zs.length), j < k + 1 → depOk zs[j] = true ∧ hasJ (zs.take j) zs[j].2 = false := fun h1 h2 j hj hjk => by
        by_cases he : j = k
        · subst he; exact ⟨h1, h2⟩
        · exact HS.out j hj (by omega)
      subst hao
      have hao : True := trivial
      unfold depOk at hno hgo
      obtain ⟨Z, hZ⟩ : ∃ Z, Z = zs.take k := ⟨_, rfl⟩
      obtain ⟨⟨n, wl⟩, hA⟩ : ∃ A : Int × Int, A = zs[k] := ⟨_, rfl⟩
      rw [← hA] at b0 b1
      simp only [← hA, ← hZ] at hno
      have hgo2 : (frB n 1 3 && idB wl) = true → hasJ Z wl = false → ∀ j (h : j < zs.length), j < k + 1 → depOk zs[j] = true ∧ hasJ (zs.take j) zs[j].2 = false := by
        intro h1 h2; unfold depOk; apply hgo
        · rw [← hA]; exact h1
        · rw [← hA, ← hZ]; exact h2
      rw [← hZ] at cC
      dsimp only at b0 b1 hno
      clear hA hb hZ hgo hao
      have cS := fun w => isFrom_any n 1 3 w
      have cW := isId_any wl
      cases hq1 : frB n 1 3 with
      | false =>
        rw [hq1] at cS
        have HN := Lib.hid (hno (.inl (by rw [hq1]; rfl)))
        have CS := Lib.hid cS
        clear hno hgo2 cS cW cC hq1
        go_wp2_with (first
          | (go_at_call 83; (with_reducible refine (CS.out _).mono ?_); rintro e w1 ⟨rfl, rfl⟩)
          | fail)
        go_ret
        exact ⟨ret_bool HN.out, Base.bel_⟩
      | true =>
        rw [hq1] at cS
        have CS := Lib.hid cS
        clear cS
        cases hq2 : idB wl with
        | false =>
          rw [hq2] at cW
          have HN := Lib.hid (hno (.inl (by rw [hq1, hq2]; rfl)))
          have CW := Lib.hid cW
          clear hno hgo2 cW cC hq1 hq2
          go_wp2_with (first
            | (go_at_call 83; (with_reducible refine (CS.out _).mono ?_); rintro e w1 ⟨rfl, rfl⟩)
            | (go_at_call 51; (with_reducible refine (CW.out _).mono ?_); rintro e w1 ⟨rfl, rfl⟩)
            | fail)
          go_ret
          exact ⟨ret_bool HN.out, Base.bel_⟩
        | true =>
          rw [hq2] at cW
          have CW := Lib.hid cW
          have h12 : (frB n 1 3 && idB wl) = true := by rw [hq1, hq2]; rfl
          clear cW hq1 hq2
          cases hq3 : hasJ Z wl with
          | true =>
            have HN := Lib.hid (hno (.inr hq3))
            have cC2 := fun (w2 : World) (hb2 : Below w.heap.size w w2) (B : Nat) (hB : w2.cell? ⟨B, 1, none⟩ = some (.int .i64 wl)) => cC w2 hb2 B wl hB
            simp only [hq3] at cC2
            have CC := Lib.hid cC2
            clear hno hgo2 cC cC2 hq3 h12
            go_wp2_with (first
              | (go_at_call 83; (with_reducible refine (CS.out _).mono ?_); rintro e w1 ⟨rfl, rfl⟩)
              | (go_at_call 51; (with_reducible refine (CW.out _).mono ?_); rintro e w1 ⟨rfl, rfl⟩)
              | (go_at_call 122; (with_reducible refine (CC.out _ (Base.bel_) _ (by simp [World.cell?_alloc_at])).mono ?_); rintro e w2 ⟨rfl, p2⟩)
              | fail)
            go_ret
            exact ⟨ret_bool HN.out, Base.bel_⟩
          | false =>
            have HG := Lib.hid (hgo2 h12 hq3)
            have cC2 := fun (w2 : World) (hb2 : Below w.heap.size w w2) (B : Nat) (hB : w2.cell? ⟨B, 1, none⟩ = some (.int .i64 wl)) => cC w2 hb2 B wl hB
            simp only [hq3] at cC2
            have CC := Lib.hid cC2
            clear hno hgo2 cC cC2 hq3 h12
            go_wp2_with (first
              | (go_at_call 83; (with_reducible refine (CS.out _).mono ?_); rintro e w1 ⟨rfl, rfl⟩)
              | (go_at_call 51; (with_reducible refine (CW.out _).mono ?_); rintro e w1 ⟨rfl, rfl⟩)
              | (go_at_call 122; (with_reducible refine (CC.out _ (Base.bel_) _ (by simp [World.cell?_alloc_at])).mono ?_); rintro e w2 ⟨rfl, p2⟩)
              | fail)
            refine ⟨⟨k + 1, by go_num, by omega, HG.out, Base.bel_⟩, ?_⟩
            simp [intOf]; omega
    · have HN : Hid (true = M) := Lib.hid (by rw [HM.out]; symm; exact (goodD_steps zs).2 fun j hj => HS.out j hj (by omega))
      go_wp2
      go_ret
      exact ⟨ret_bool HN.out, HBel.out⟩
end Go.Proofs.YtdkngidangfkiaaGreatDoor.Cmd
