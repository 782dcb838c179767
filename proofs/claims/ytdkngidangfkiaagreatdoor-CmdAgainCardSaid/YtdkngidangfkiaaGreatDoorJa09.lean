/-
  Joined out of: The walks of the program's own question whether alternatives may be, and of Check. The walk of the program's Check. The walks of the program's Same, and of the library's Equal below it.
-/
import Derived.Test.YtdkngidangfkiaaGreatDoorJa08
import Derived.Laws.StructEq
namespace Go.Proofs.YtdkngidangfkiaaGreatDoor.Shape
open Go.RowKit
open Base
set_option linter.unusedVariables false
set_option linter.unusedSimpArgs false
theorem hasN_not (zs : List Alt) (x : Int) : (∀ j (h : j < zs.length), zs[j].1 ≠ x) → false = hasN zs x := by
  intro h; symm
  have := (hasN_take zs zs.length x).2 (fun i hi _ => h i hi)
  rwa [List.take_of_length_le (Nat.le_refl _)] at this
theorem hasN_yes (zs : List Alt) (x : Int) (j : Nat) (hj : j < zs.length) (h : zs[j].1 = x) : true = hasN zs x := by
  symm; unfold hasN; rw [List.any_eq_true]
  exact ⟨zs[j], List.getElem_mem hj, by simpa using h⟩
set_option maxHeartbeats 1000000 in
theorem index_any (ao : Option Addr) (len cap : Nat) (zs : List Alt) (B : Nat) (x : Int) (w : World) (hlen : zs.length = len) (hl : len ≤ maxLen) (hr : ReadsS 2 altC w ao zs) (hB : w.cell? ⟨B, 0, none⟩ = some (.int .i64 x)) :
    Calls Tryz.prog 180 #[.slice ao len cap, .func (.func 157) #[] #[.pointer (some ⟨B, 0, none⟩)]] w fun e w' => ∃ i : Int, e = .returned (.int .i64 i) ∧ decide (0 ≤ i) = hasN zs x ∧ Below w.heap.size w w' := by
  subst hlen
  unfold maxLen at hl
  have HR := Lib.hid hr
  have HB := Lib.hid hB
  clear hr hB
  go_enter Tryz.func180, Tryz.ntmps180
  go_wp2
  go_loopw [8] (fun i wr => ∃ k : Nat, i = .int .i64 (k : Int) ∧ k ≤ zs.length ∧ (∀ j (h : j < zs.length), j < k → zs[j].1 ≠ x) ∧ Below w.heap.size w wr) (fun i _ => zs.length - (intOf i).toNat)
  case atStart => exact ⟨0, rfl, Nat.zero_le _, fun _ _ h => absurd h (Nat.not_lt_zero _), Below.refl _ _⟩
  case round =>
    obtain ⟨k, rfl, hk, hs, hb⟩ := hrel
    have HS := Lib.hid hs
    have HBel := Lib.hid hb
    clear hs
    by_cases hp : k < zs.length
    · obtain ⟨bb, bo, rfl, b0, b1⟩ := alt_cells (HR.out.below altC_length hb) hp
      have hc := cell_below HB.out hb
      have cA := fun n wl w hB => asLarge_any B x n wl w hB
      have hhit : zs[k].1 = x → true = hasN zs x := hasN_yes zs x k hp
      have hno : zs[k].1 ≠ x → ∀ j (h : j < zs.length), j < k + 1 → zs[j].1 ≠ x := fun h0 j hj hjk => by
        by_cases he : j = k
        · subst he; exact h0
        · exact HS.out j hj (by omega)
      obtain ⟨⟨n, wl⟩, hA⟩ : ∃ A : Alt, A = zs[k] := ⟨_, rfl⟩
      rw [← hA] at b0 b1 hhit hno
      dsimp only at b0 b1 hhit hno
      have HC := Lib.hid hc
      have CA := Lib.hid cA
      clear hA hb hc cA
      by_cases hx : n = x
      · have t1 : (n == x) = true := by simpa using hx
        have HH := Lib.hid (hhit hx)
        clear hhit hno hx
        go_wp2_with (first
          | (go_at_call 157; (with_reducible refine (CA.out _ _ _ HC.out).mono ?_); rintro e w1 ⟨rfl, p1⟩)
          | fail)
        go_ret
        exact ⟨_, rfl, by rw [← HH.out]; simp, p1.from HBel.out⟩
      · have t1 : (n == x) = false := by simpa using hx
        have HN := Lib.hid (hno hx)
        clear hhit hno hx
        go_wp2_with (first
          | (go_at_call 157; (with_reducible refine (CA.out _ _ _ HC.out).mono ?_); rintro e w1 ⟨rfl, p1⟩)
          | fail)
        refine ⟨⟨k + 1, by go_num, by omega, HN.out, p1.from HBel.out⟩, ?_⟩
        simp [intOf]; omega
    · have HH := Lib.hid (hasN_not zs x fun j hj => HS.out j hj (by omega))
      go_wp2
      go_ret
      exact ⟨_, rfl, by rw [← HH.out]; simp, HBel.out⟩
set_option maxHeartbeats 1000000 in
theorem contains_any (ao : Option Addr) (len cap : Nat) (zs : List Alt) (B : Nat) (x : Int) (w : World) (hlen : zs.length = len) (hl : len ≤ maxLen) (hr : ReadsS 2 altC w ao zs) (hB : w.cell? ⟨B, 0, none⟩ = some (.int .i64 x)) :
    Calls Tryz.prog 158 #[.slice ao len cap, .func (.func 157) #[] #[.pointer (some ⟨B, 0, none⟩)]] w fun e w' => e = .returned (.bool (hasN zs x)) ∧ Below w.heap.size w w' := by
  have c1 := index_any ao len cap zs B x w hlen hl hr hB
  obtain ⟨H, hH⟩ : ∃ H, H = hasN zs x := ⟨_, rfl⟩
  rw [← hH] at c1 ⊢
  have C1 := Lib.hid c1
  clear c1 hH hr hB hlen
  go_enter Tryz.func158, Tryz.ntmps158
  go_wp2_with (first
    | (go_at_call 180; (with_reducible refine (C1.out).mono ?_); rintro e w1 ⟨i, rfl, hi, p1⟩)
    | fail)
  go_ret
  exact ⟨ret_bool (by first | exact hi | rfl), p1⟩
set_option maxHeartbeats 1000000 in
theorem mayBe_any (ao : Option Addr) (len cap : Nat) (zs : List Alt) (m : Int) (w : World) (hlen : zs.length = len) (hl : len ≤ cap) (hcap : cap ≤ maxLen) (hr : ReadsS 2 altC w ao zs) :
    Calls Tryz.prog 117 #[.slice ao len cap, .int .i64 m] w fun e w' => e = .returned (.bool (mayB zs m)) ∧ Below w.heap.size w w' := by
  subst hlen
  unfold maxLen at hcap
  have cF := isFrom_any (zs.length : Int) 1 m w
  have HR := Lib.hid hr
  clear hr
  obtain ⟨M, hM⟩ : ∃ M, M = mayB zs m := ⟨_, rfl⟩
  rw [← hM]
  unfold mayB at hM
  cases hq : frB (zs.length : Int) 1 m with
  | false =>
    rw [hq] at hM cF
    have HM : Hid (false = M) := Lib.hid (by rw [hM]; rfl)
    have CF := Lib.hid cF
    clear hM cF hq
    go_enter Tryz.func117, Tryz.ntmps117
    go_wp2_with (first
      | (go_at_call 156; (with_reducible refine (CF.out).mono ?_); rintro e w1 ⟨rfl, rfl⟩)
      | fail)
    go_ret
    exact ⟨ret_bool HM.out, Below.refl _ _⟩
  | true =>
    rw [hq, Bool.true_and] at hM
    rw [hq] at cF
    have HM := Lib.hid hM
    have CF := Lib.hid cF
    clear hM cF hq
    go_enter Tryz.func117, Tryz.ntmps117
    go_wp2_with (first
      | (go_at_call 156; (with_reducible refine (CF.out).mono ?_); rintro e w1 ⟨rfl, rfl⟩)
      | fail)
    go_loopw [15] (fun i wr => ∃ k : Nat, i = .int .i64 (k : Int) ∧ k ≤ zs.length ∧ (∀ j (h : j < zs.length), j < k → altOk zs[j] = true ∧ hasN (zs.take j) zs[j].1 = false) ∧ Below w.heap.size w wr) (fun i _ => zs.length - (intOf i).toNat)
    case atStart => exact ⟨0, rfl, Nat.zero_le _, fun _ _ h => absurd h (Nat.not_lt_zero _), Below.refl _ _⟩
    case round =>
      obtain ⟨k, rfl, hk, hs, hb⟩ := hrel
      have HS := Lib.hid hs
      have HBel := Lib.hid hb
      clear hs
      by_cases hp : k < zs.length
      · obtain ⟨bb, bo, hao, b0, b1⟩ := alt_cells (HR.out.below altC_length hb) hp
        have cC := fun (w2 : World) (hb2 : Below w.heap.size w w2) (B : Nat) (x : Int) (hB : w2.cell? ⟨B, 0, none⟩ = some (.int .i64 x)) => contains_any ao k cap (zs.take k) B x w2 (by simp; omega) (by unfold maxLen; omega) (by
          have := HR.out.below altC_length hb2
          rcases this with h | ⟨b, off, h1, h2⟩
          · exact .inl (by rw [h]; simp)
          · refine .inr ⟨b, off, h1, fun j hj i hi => ?_⟩
            rw [List.length_take] at hj
            rw [h2 j (by omega) i hi, List.getElem_take]) hB
        have hno : altOk zs[k] = false ∨ hasN (zs.take k) zs[k].1 = true → false = M := fun h => by rw [HM.out, goodB_no zs k hp h]
        have hgo : altOk zs[k] = true → hasN (zs.take k) zs[k].1 = false → ∀ j (h : j < zs.length), j < k + 1 → altOk zs[j] = true ∧ hasN (zs.take j) zs[j].1 = false := fun h1 h2 j hj hjk => by
          by_cases he : j = k
          · subst he; exact ⟨h1, h2⟩
          · exact HS.out j hj (by omega)
        subst hao
        have hao : True := trivial
        unfold altOk at hno hgo
        obtain ⟨Z, hZ⟩ : ∃ Z, Z = zs.take k := ⟨_, rfl⟩
        obtain ⟨⟨n, wl⟩, hA⟩ : ∃ A : Alt, A = zs[k] := ⟨_, rfl⟩
        rw [← hA] at b0 b1
        simp only [← hA, ← hZ] at hno
        have hgo2 : (sizeB n && wallB wl) = true → hasN Z n = false → ∀ j (h : j < zs.length), j < k + 1 → altOk zs[j] = true ∧ hasN (zs.take j) zs[j].1 = false := by
          intro h1 h2; unfold altOk; apply hgo
          · rw [← hA]; exact h1
          · rw [← hA, ← hZ]; exact h2
        rw [← hZ] at cC
        dsimp only at b0 b1 hno
        clear hA hb hZ hgo hao
        have cS := isSize_any n
        have cW := isWall_any wl
        cases hq1 : sizeB n with
        | false =>
          rw [hq1] at cS
          have HN := Lib.hid (hno (.inl (by rw [hq1]; rfl)))
          have CS := Lib.hid cS
          clear hno hgo2 cS cW cC hq1
          go_wp2_with (first
            | (go_at_call 119; (with_reducible refine (CS.out _).mono ?_); rintro e w1 ⟨rfl, rfl⟩)
            | fail)
          go_ret
          exact ⟨ret_bool HN.out, by (focus repeat (first | exact Below.refl _ _ | assumption | (exact Hid.out (by assumption)) | (with_reducible refine Below.drew ?_) | (with_reducible refine Base.below_drewN ?_ _) | (refine Below.from (below_one _) ?_) | (refine Below.from (below_conv _ _ _) ?_) | (refine Below.setCell ?_ (by simp <;> omega) _) | (refine Below.from (by assumption) ?_)))⟩
        | true =>
          rw [hq1] at cS
          have CS := Lib.hid cS
          clear cS
          cases hq2 : wallB wl with
          | false =>
            rw [hq2] at cW
            have HN := Lib.hid (hno (.inl (by rw [hq1, hq2]; rfl)))
            have CW := Lib.hid cW
            clear hno hgo2 cW cC hq1 hq2
            go_wp2_with (first
              | (go_at_call 119; (with_reducible refine (CS.out _).mono ?_); rintro e w1 ⟨rfl, rfl⟩)
              | (go_at_call 120; (with_reducible refine (CW.out _).mono ?_); rintro e w1 ⟨rfl, rfl⟩)
              | fail)
            go_ret
            exact ⟨ret_bool HN.out, by (focus repeat (first | exact Below.refl _ _ | assumption | (exact Hid.out (by assumption)) | (with_reducible refine Below.drew ?_) | (with_reducible refine Base.below_drewN ?_ _) | (refine Below.from (below_one _) ?_) | (refine Below.from (below_conv _ _ _) ?_) | (refine Below.setCell ?_ (by simp <;> omega) _) | (refine Below.from (by assumption) ?_)))⟩
          | true =>
            rw [hq2] at cW
            have CW := Lib.hid cW
            have h12 : (sizeB n && wallB wl) = true := by rw [hq1, hq2]; rfl
            clear cW hq1 hq2
            cases hq3 : hasN Z n with
            | true =>
              have HN := Lib.hid (hno (.inr hq3))
              have cC2 := fun (w2 : World) (hb2 : Below w.heap.size w w2) (B : Nat) (hB : w2.cell? ⟨B, 0, none⟩ = some (.int .i64 n)) => cC w2 hb2 B n hB
              simp only [hq3] at cC2
              have CC := Lib.hid cC2
              clear hno hgo2 cC cC2 hq3 h12
              go_wp2_with (first
                | (go_at_call 119; (with_reducible refine (CS.out _).mono ?_); rintro e w1 ⟨rfl, rfl⟩)
                | (go_at_call 120; (with_reducible refine (CW.out _).mono ?_); rintro e w1 ⟨rfl, rfl⟩)
                | (go_at_call 158; (with_reducible refine (CC.out _ (by (focus repeat (first | exact Below.refl _ _ | assumption | (exact Hid.out (by assumption)) | (with_reducible refine Below.drew ?_) | (with_reducible refine Base.below_drewN ?_ _) | (refine Below.from (below_one _) ?_) | (refine Below.from (below_conv _ _ _) ?_) | (refine Below.setCell ?_ (by simp <;> omega) _) | (refine Below.from (by assumption) ?_)))) _ (by simp [World.cell?_alloc_at])).mono ?_); rintro e w2 ⟨rfl, p2⟩)
                | fail)
              go_ret
              exact ⟨ret_bool HN.out, by (focus repeat (first | exact Below.refl _ _ | assumption | (exact Hid.out (by assumption)) | (with_reducible refine Below.drew ?_) | (with_reducible refine Base.below_drewN ?_ _) | (refine Below.from (below_one _) ?_) | (refine Below.from (below_conv _ _ _) ?_) | (refine Below.setCell ?_ (by simp <;> omega) _) | (refine Below.from (by assumption) ?_)))⟩
            | false =>
              have HG := Lib.hid (hgo2 h12 hq3)
              have cC2 := fun (w2 : World) (hb2 : Below w.heap.size w w2) (B : Nat) (hB : w2.cell? ⟨B, 0, none⟩ = some (.int .i64 n)) => cC w2 hb2 B n hB
              simp only [hq3] at cC2
              have CC := Lib.hid cC2
              clear hno hgo2 cC cC2 hq3 h12
              go_wp2_with (first
                | (go_at_call 119; (with_reducible refine (CS.out _).mono ?_); rintro e w1 ⟨rfl, rfl⟩)
                | (go_at_call 120; (with_reducible refine (CW.out _).mono ?_); rintro e w1 ⟨rfl, rfl⟩)
                | (go_at_call 158; (with_reducible refine (CC.out _ (by (focus repeat (first | exact Below.refl _ _ | assumption | (exact Hid.out (by assumption)) | (with_reducible refine Below.drew ?_) | (with_reducible refine Base.below_drewN ?_ _) | (refine Below.from (below_one _) ?_) | (refine Below.from (below_conv _ _ _) ?_) | (refine Below.setCell ?_ (by simp <;> omega) _) | (refine Below.from (by assumption) ?_)))) _ (by simp [World.cell?_alloc_at])).mono ?_); rintro e w2 ⟨rfl, p2⟩)
                | fail)
              refine ⟨⟨k + 1, by go_num, by omega, HG.out, by (focus repeat (first | exact Below.refl _ _ | assumption | (exact Hid.out (by assumption)) | (with_reducible refine Below.drew ?_) | (with_reducible refine Base.below_drewN ?_ _) | (refine Below.from (below_one _) ?_) | (refine Below.from (below_conv _ _ _) ?_) | (refine Below.setCell ?_ (by simp <;> omega) _) | (refine Below.from (by assumption) ?_)))⟩, ?_⟩
              simp [intOf]; omega
      · have HN : Hid (true = M) := Lib.hid (by rw [HM.out]; symm; exact (goodB_steps zs).2 fun j hj => HS.out j hj (by omega))
        go_wp2
        go_ret
        exact ⟨ret_bool HN.out, HBel.out⟩
end Go.Proofs.YtdkngidangfkiaaGreatDoor.Shape
namespace Go.Proofs.YtdkngidangfkiaaGreatDoor.Shape
open Go.RowKit
open Base
set_option linter.unusedVariables false
set_option linter.unusedSimpArgs false
theorem ret_i64 {a b : Int} (h : a = b) : Ending.returned (.int .i64 a) = .returned (.int .i64 b) := by rw [h]
def SBox (W : World) (B : Nat) (k : Int) (sl : Value) (mn mx wl : Int) : Prop := W.heap[B]? = some (.cells #[.int .i64 k, sl, .int .i64 mn, .int .i64 mx, .int .i64 wl] 24)
section
variable {W W' : World} {B : Nat} {k mn mx wl : Int} {sl : Value}
theorem SBox.lt (h : SBox W B k sl mn mx wl) : B < W.heap.size := (Array.getElem?_eq_some_iff.1 h).1
theorem SBox.new (W : World) (k : Int) (sl : Value) (mn mx wl : Int) : SBox (W.alloc (.cells #[.int .i64 k, sl, .int .i64 mn, .int .i64 mx, .int .i64 wl] 24)) W.heap.size k sl mn mx wl := heap_alloc_new W _
theorem SBox.below (h : SBox W B k sl mn mx wl) (hb : Below W.heap.size W W') : SBox W' B k sl mn mx wl := by
  unfold SBox at h ⊢; rw [hb.block _ (Array.getElem?_eq_some_iff.1 h).1]; exact h
theorem SBox.kept {B' : Nat} (h : SBox W B k sl mn mx wl) (hb : Below B' W W') (hB : B < B') : SBox W' B k sl mn mx wl := by
  unfold SBox at h ⊢; rw [hb.block _ hB]; exact h
theorem SBox.cells (h : SBox W B k sl mn mx wl) : W.cell? ⟨B, 0, none⟩ = some (.int .i64 k) ∧ W.cell? ⟨B, 1, none⟩ = some sl ∧ W.cell? ⟨B, 2, none⟩ = some (.int .i64 mn) ∧ W.cell? ⟨B, 3, none⟩ = some (.int .i64 mx) ∧ W.cell? ⟨B, 4, none⟩ = some (.int .i64 wl) := by
  unfold SBox at h
  simp [World.cell?, h]
theorem SBox.alloc (h : SBox W B k sl mn mx wl) (o : Obj) : SBox (W.alloc o) B k sl mn mx wl := h.below (below_one o)
end
set_option maxRecDepth 100000 in
set_option maxHeartbeats 2000000 in
theorem check_any (k : Int) (ao : Option Addr) (len cap : Nat) (zs : List Alt) (mn mx wl : Int) (w : World) (hlen : zs.length = len) (hl : len ≤ cap) (hcap : cap ≤ maxLen) (hr : ReadsS 2 altC w ao zs) :
    Calls Tryz.prog 81 #[.agg #[.int .i64 k, .slice ao len cap, .int .i64 mn, .int .i64 mx, .int .i64 wl]] w fun e w' => e = .returned (.int .i64 (chkE k zs mn mx wl)) ∧ Below w.heap.size w w' := by
  have cM := fun (m : Int) (w2 : World) (hb : Below w.heap.size w w2) => mayBe_any ao len cap zs m w2 hlen hl hcap (hr.below altC_length hb)
  have cH := fun w => hasSpan_any k ao len cap mn mx wl w
  have hSB := SBox.new w k (.slice ao len cap) mn mx wl
  have HSB := Lib.hid hSB
  clear hSB
  obtain ⟨E, hE⟩ : ∃ E, E = chkE k zs mn mx wl := ⟨_, rfl⟩
  rw [← hE]
  unfold chkE chkB at hE
  have hl64 : len ≤ 9223372036854775807 := by unfold maxLen at hcap; omega
  by_cases k1 : k = 1
  · subst k1
    rw [if_pos rfl] at hE
    have cM1 := cM 1
    cases h1 : mayB zs 1 with
    | false =>
      rw [h1] at hE
      simp only [h1] at cM1
      have HE := Lib.hid hE
      have CM := Lib.hid cM1
      clear hE cM cM1 cH h1 hr hlen
      go_enter Tryz.func81, Tryz.ntmps81
      go_wp2_with (first
        | (go_at_call 117; (with_reducible refine (CM.out _ (by (focus repeat (first | exact Below.refl _ _ | assumption | (exact Hid.out (by assumption)) | (with_reducible refine Below.drew ?_) | (with_reducible refine Base.below_drewN ?_ _) | (refine Below.from (below_one _) ?_) | (refine Below.from (below_conv _ _ _) ?_) | (refine Below.setCell ?_ (by simp <;> omega) _) | (refine Below.from (by assumption) ?_))))).mono ?_); rintro e w1 ⟨rfl, p1⟩)
        | fail)
      go_ret
      exact ⟨ret_i64 HE.out.symm, by (focus repeat (first | exact Below.refl _ _ | assumption | (exact Hid.out (by assumption)) | (with_reducible refine Below.drew ?_) | (with_reducible refine Base.below_drewN ?_ _) | (refine Below.from (below_one _) ?_) | (refine Below.from (below_conv _ _ _) ?_) | (refine Below.setCell ?_ (by simp <;> omega) _) | (refine Below.from (by assumption) ?_)))⟩
    | true =>
      simp only [h1] at cM1
      have CM := Lib.hid cM1
      have HE : Hid (E = if spanB mn mx wl = false then 0 else 70) := Lib.hid (by rw [hE, h1]; cases spanB mn mx wl <;> rfl)
      clear hE cM cM1 h1 hr hlen
      cases h2 : spanB mn mx wl with
      | false =>
        simp only [h2] at cH
        have HE : Hid (0 = E) := Lib.hid (by rw [HE.out, h2]; rfl)
        have CH := Lib.hid cH
        clear cH h2
        go_enter Tryz.func81, Tryz.ntmps81
        go_wp2_with (first
          | (go_at_call 117; (with_reducible refine (CM.out _ (by (focus repeat (first | exact Below.refl _ _ | assumption | (exact Hid.out (by assumption)) | (with_reducible refine Below.drew ?_) | (with_reducible refine Base.below_drewN ?_ _) | (refine Below.from (below_one _) ?_) | (refine Below.from (below_conv _ _ _) ?_) | (refine Below.setCell ?_ (by simp <;> omega) _) | (refine Below.from (by assumption) ?_))))).mono ?_); rintro e w1 ⟨rfl, p1⟩; obtain ⟨x0, x1, x2, x3, x4⟩ := (HSB.out.below p1).cells)
          | (go_at_call 118; (with_reducible refine (CH.out _).mono ?_); rintro e w2 ⟨rfl, p2⟩)
          | fail)
        go_ret
        exact ⟨ret_i64 HE.out, by (focus repeat (first | exact Below.refl _ _ | assumption | (exact Hid.out (by assumption)) | (with_reducible refine Below.drew ?_) | (with_reducible refine Base.below_drewN ?_ _) | (refine Below.from (below_one _) ?_) | (refine Below.from (below_conv _ _ _) ?_) | (refine Below.setCell ?_ (by simp <;> omega) _) | (refine Below.from (by assumption) ?_)))⟩
      | true =>
        simp only [h2] at cH
        have HE : Hid (70 = E) := Lib.hid (by rw [HE.out, h2]; rfl)
        have CH := Lib.hid cH
        clear cH h2
        go_enter Tryz.func81, Tryz.ntmps81
        go_wp2_with (first
          | (go_at_call 117; (with_reducible refine (CM.out _ (by (focus repeat (first | exact Below.refl _ _ | assumption | (exact Hid.out (by assumption)) | (with_reducible refine Below.drew ?_) | (with_reducible refine Base.below_drewN ?_ _) | (refine Below.from (below_one _) ?_) | (refine Below.from (below_conv _ _ _) ?_) | (refine Below.setCell ?_ (by simp <;> omega) _) | (refine Below.from (by assumption) ?_))))).mono ?_); rintro e w1 ⟨rfl, p1⟩; obtain ⟨x0, x1, x2, x3, x4⟩ := (HSB.out.below p1).cells)
          | (go_at_call 118; (with_reducible refine (CH.out _).mono ?_); rintro e w2 ⟨rfl, p2⟩)
          | fail)
        go_ret
        exact ⟨ret_i64 HE.out, by (focus repeat (first | exact Below.refl _ _ | assumption | (exact Hid.out (by assumption)) | (with_reducible refine Below.drew ?_) | (with_reducible refine Base.below_drewN ?_ _) | (refine Below.from (below_one _) ?_) | (refine Below.from (below_conv _ _ _) ?_) | (refine Below.setCell ?_ (by simp <;> omega) _) | (refine Below.from (by assumption) ?_)))⟩
  by_cases k2 : k = 2
  · subst k2
    rw [if_neg k1, if_pos rfl] at hE
    have cM1 := cM 6
    cases h1 : mayB zs 6 with
    | false =>
      rw [h1] at hE
      simp only [h1] at cM1
      have HE := Lib.hid hE
      have CM := Lib.hid cM1
      clear hE cM cM1 cH h1 hr hlen
      go_enter Tryz.func81, Tryz.ntmps81
      go_wp2_with (first
        | (go_at_call 117; (with_reducible refine (CM.out _ (by (focus repeat (first | exact Below.refl _ _ | assumption | (exact Hid.out (by assumption)) | (with_reducible refine Below.drew ?_) | (with_reducible refine Base.below_drewN ?_ _) | (refine Below.from (below_one _) ?_) | (refine Below.from (below_conv _ _ _) ?_) | (refine Below.setCell ?_ (by simp <;> omega) _) | (refine Below.from (by assumption) ?_))))).mono ?_); rintro e w1 ⟨rfl, p1⟩)
        | fail)
      go_ret
      exact ⟨ret_i64 HE.out.symm, by (focus repeat (first | exact Below.refl _ _ | assumption | (exact Hid.out (by assumption)) | (with_reducible refine Below.drew ?_) | (with_reducible refine Base.below_drewN ?_ _) | (refine Below.from (below_one _) ?_) | (refine Below.from (below_conv _ _ _) ?_) | (refine Below.setCell ?_ (by simp <;> omega) _) | (refine Below.from (by assumption) ?_)))⟩
    | true =>
      simp only [h1] at cM1
      have CM := Lib.hid cM1
      have HE : Hid (E = if spanB mn mx wl = false then 0 else 70) := Lib.hid (by rw [hE, h1]; cases spanB mn mx wl <;> rfl)
      clear hE cM cM1 h1 hr hlen
      cases h2 : spanB mn mx wl with
      | false =>
        simp only [h2] at cH
        have HE : Hid (0 = E) := Lib.hid (by rw [HE.out, h2]; rfl)
        have CH := Lib.hid cH
        clear cH h2
        go_enter Tryz.func81, Tryz.ntmps81
        go_wp2_with (first
          | (go_at_call 117; (with_reducible refine (CM.out _ (by (focus repeat (first | exact Below.refl _ _ | assumption | (exact Hid.out (by assumption)) | (with_reducible refine Below.drew ?_) | (with_reducible refine Base.below_drewN ?_ _) | (refine Below.from (below_one _) ?_) | (refine Below.from (below_conv _ _ _) ?_) | (refine Below.setCell ?_ (by simp <;> omega) _) | (refine Below.from (by assumption) ?_))))).mono ?_); rintro e w1 ⟨rfl, p1⟩; obtain ⟨x0, x1, x2, x3, x4⟩ := (HSB.out.below p1).cells)
          | (go_at_call 118; (with_reducible refine (CH.out _).mono ?_); rintro e w2 ⟨rfl, p2⟩)
          | fail)
        go_ret
        exact ⟨ret_i64 HE.out, by (focus repeat (first | exact Below.refl _ _ | assumption | (exact Hid.out (by assumption)) | (with_reducible refine Below.drew ?_) | (with_reducible refine Base.below_drewN ?_ _) | (refine Below.from (below_one _) ?_) | (refine Below.from (below_conv _ _ _) ?_) | (refine Below.setCell ?_ (by simp <;> omega) _) | (refine Below.from (by assumption) ?_)))⟩
      | true =>
        simp only [h2] at cH
        have HE : Hid (70 = E) := Lib.hid (by rw [HE.out, h2]; rfl)
        have CH := Lib.hid cH
        clear cH h2
        go_enter Tryz.func81, Tryz.ntmps81
        go_wp2_with (first
          | (go_at_call 117; (with_reducible refine (CM.out _ (by (focus repeat (first | exact Below.refl _ _ | assumption | (exact Hid.out (by assumption)) | (with_reducible refine Below.drew ?_) | (with_reducible refine Base.below_drewN ?_ _) | (refine Below.from (below_one _) ?_) | (refine Below.from (below_conv _ _ _) ?_) | (refine Below.setCell ?_ (by simp <;> omega) _) | (refine Below.from (by assumption) ?_))))).mono ?_); rintro e w1 ⟨rfl, p1⟩; obtain ⟨x0, x1, x2, x3, x4⟩ := (HSB.out.below p1).cells)
          | (go_at_call 118; (with_reducible refine (CH.out _).mono ?_); rintro e w2 ⟨rfl, p2⟩)
          | fail)
        go_ret
        exact ⟨ret_i64 HE.out, by (focus repeat (first | exact Below.refl _ _ | assumption | (exact Hid.out (by assumption)) | (with_reducible refine Below.drew ?_) | (with_reducible refine Base.below_drewN ?_ _) | (refine Below.from (below_one _) ?_) | (refine Below.from (below_conv _ _ _) ?_) | (refine Below.setCell ?_ (by simp <;> omega) _) | (refine Below.from (by assumption) ?_)))⟩
  clear cM cH
  rw [if_neg k1, if_neg k2] at hE
  by_cases k3 : k = 3
  · subst k3
    rw [if_pos rfl] at hE
    have cS1 := fun w => isSize_any mn w
    have cS2 := fun w => isSize_any mx w
    have cW := fun w => isWall_any wl w
    have tl : decide ((zs.length : Int) = 0) = ((len : Int) == 0) := by rw [hlen, Bool.eq_iff_iff]; simp
    rw [tl] at hE
    clear tl k1 k2 hr hlen
    cases h1 : sizeB mn with
    | false =>
      rw [h1] at hE
      simp only [h1] at cS1
      have HE : Hid (70 = E) := Lib.hid (by rw [hE]; rfl)
      have CS1 := Lib.hid cS1
      clear hE cS1 cS2 cW h1
      go_enter Tryz.func81, Tryz.ntmps81
      go_wp2_with (first
        | (go_at_call 119; (with_reducible refine (CS1.out _).mono ?_); rintro e w1 ⟨rfl, rfl⟩)
        | fail)
      go_ret
      exact ⟨ret_i64 HE.out, by (focus repeat (first | exact Below.refl _ _ | assumption | (exact Hid.out (by assumption)) | (with_reducible refine Below.drew ?_) | (with_reducible refine Base.below_drewN ?_ _) | (refine Below.from (below_one _) ?_) | (refine Below.from (below_conv _ _ _) ?_) | (refine Below.setCell ?_ (by simp <;> omega) _) | (refine Below.from (by assumption) ?_)))⟩
    | true =>
      rw [h1, Bool.true_and] at hE
      simp only [h1] at cS1
      have CS1 := Lib.hid cS1
      clear cS1 h1
      cases h2 : sizeB mx with
      | false =>
        rw [h2] at hE
        simp only [h2] at cS2
        have HE : Hid (70 = E) := Lib.hid (by rw [hE]; rfl)
        have CS2 := Lib.hid cS2
        clear hE cS2 cW h2
        go_enter Tryz.func81, Tryz.ntmps81
        go_wp2_with (first
          | (go_at_call 119; (with_reducible refine (CS1.out _).mono ?_); rintro e w1 ⟨rfl, rfl⟩)
          | (go_at_call 119; (with_reducible refine (CS2.out _).mono ?_); rintro e w1 ⟨rfl, rfl⟩)
          | fail)
        go_ret
        exact ⟨ret_i64 HE.out, by (focus repeat (first | exact Below.refl _ _ | assumption | (exact Hid.out (by assumption)) | (with_reducible refine Below.drew ?_) | (with_reducible refine Base.below_drewN ?_ _) | (refine Below.from (below_one _) ?_) | (refine Below.from (below_conv _ _ _) ?_) | (refine Below.setCell ?_ (by simp <;> omega) _) | (refine Below.from (by assumption) ?_)))⟩
      | true =>
        rw [h2, Bool.true_and] at hE
        simp only [h2] at cS2
        have CS2 := Lib.hid cS2
        clear cS2 h2
        cases h3 : decide (mn ≤ mx) with
        | false =>
          rw [h3] at hE
          have HE : Hid (70 = E) := Lib.hid (by rw [hE]; rfl)
          clear hE cW
          go_enter Tryz.func81, Tryz.ntmps81
          go_wp2_with (first
            | (go_at_call 119; (with_reducible refine (CS1.out _).mono ?_); rintro e w1 ⟨rfl, rfl⟩)
            | (go_at_call 119; (with_reducible refine (CS2.out _).mono ?_); rintro e w1 ⟨rfl, rfl⟩)
            | fail)
          go_ret
          exact ⟨ret_i64 HE.out, by (focus repeat (first | exact Below.refl _ _ | assumption | (exact Hid.out (by assumption)) | (with_reducible refine Below.drew ?_) | (with_reducible refine Base.below_drewN ?_ _) | (refine Below.from (below_one _) ?_) | (refine Below.from (below_conv _ _ _) ?_) | (refine Below.setCell ?_ (by simp <;> omega) _) | (refine Below.from (by assumption) ?_)))⟩
        | true =>
          rw [h3, Bool.true_and] at hE
          cases h4 : wallB wl with
          | false =>
            rw [h4] at hE
            simp only [h4] at cW
            have HE : Hid (70 = E) := Lib.hid (by rw [hE]; rfl)
            have CW := Lib.hid cW
            clear hE cW h4
            go_enter Tryz.func81, Tryz.ntmps81
            go_wp2_with (first
              | (go_at_call 119; (with_reducible refine (CS1.out _).mono ?_); rintro e w1 ⟨rfl, rfl⟩)
              | (go_at_call 119; (with_reducible refine (CS2.out _).mono ?_); rintro e w1 ⟨rfl, rfl⟩)
              | (go_at_call 120; (with_reducible refine (CW.out _).mono ?_); rintro e w1 ⟨rfl, rfl⟩)
              | fail)
            go_ret
            exact ⟨ret_i64 HE.out, by (focus repeat (first | exact Below.refl _ _ | assumption | (exact Hid.out (by assumption)) | (with_reducible refine Below.drew ?_) | (with_reducible refine Base.below_drewN ?_ _) | (refine Below.from (below_one _) ?_) | (refine Below.from (below_conv _ _ _) ?_) | (refine Below.setCell ?_ (by simp <;> omega) _) | (refine Below.from (by assumption) ?_)))⟩
          | true =>
            rw [h4, Bool.true_and] at hE
            simp only [h4] at cW
            have CW := Lib.hid cW
            clear cW h4
            cases h5 : ((len : Int) == 0) with
            | false =>
              rw [h5] at hE
              have HE : Hid (70 = E) := Lib.hid (by rw [hE]; rfl)
              clear hE
              go_enter Tryz.func81, Tryz.ntmps81
              go_wp2_with (first
                | (go_at_call 119; (with_reducible refine (CS1.out _).mono ?_); rintro e w1 ⟨rfl, rfl⟩)
                | (go_at_call 119; (with_reducible refine (CS2.out _).mono ?_); rintro e w1 ⟨rfl, rfl⟩)
                | (go_at_call 120; (with_reducible refine (CW.out _).mono ?_); rintro e w1 ⟨rfl, rfl⟩)
                | fail)
              go_ret
              exact ⟨ret_i64 HE.out, by (focus repeat (first | exact Below.refl _ _ | assumption | (exact Hid.out (by assumption)) | (with_reducible refine Below.drew ?_) | (with_reducible refine Base.below_drewN ?_ _) | (refine Below.from (below_one _) ?_) | (refine Below.from (below_conv _ _ _) ?_) | (refine Below.setCell ?_ (by simp <;> omega) _) | (refine Below.from (by assumption) ?_)))⟩
            | true =>
              rw [h5] at hE
              have HE : Hid (0 = E) := Lib.hid (by rw [hE]; rfl)
              clear hE
              go_enter Tryz.func81, Tryz.ntmps81
              go_wp2_with (first
                | (go_at_call 119; (with_reducible refine (CS1.out _).mono ?_); rintro e w1 ⟨rfl, rfl⟩)
                | (go_at_call 119; (with_reducible refine (CS2.out _).mono ?_); rintro e w1 ⟨rfl, rfl⟩)
                | (go_at_call 120; (with_reducible refine (CW.out _).mono ?_); rintro e w1 ⟨rfl, rfl⟩)
                | fail)
              go_ret
              exact ⟨ret_i64 HE.out, by (focus repeat (first | exact Below.refl _ _ | assumption | (exact Hid.out (by assumption)) | (with_reducible refine Below.drew ?_) | (with_reducible refine Base.below_drewN ?_ _) | (refine Below.from (below_one _) ?_) | (refine Below.from (below_conv _ _ _) ?_) | (refine Below.setCell ?_ (by simp <;> omega) _) | (refine Below.from (by assumption) ?_)))⟩
  · rw [if_neg k3] at hE
    have HE : Hid (70 = E) := Lib.hid (by rw [hE]; rfl)
    have t1 : (k == 1) = false := by simpa using k1
    have t2 : (k == 2) = false := by simpa using k2
    have t3 : (k == 3) = false := by simpa using k3
    clear hE k1 k2 k3 hr hlen
    go_enter Tryz.func81, Tryz.ntmps81
    go_wp2
    go_ret
    exact ⟨ret_i64 HE.out, by (focus repeat (first | exact Below.refl _ _ | assumption | (exact Hid.out (by assumption)) | (with_reducible refine Below.drew ?_) | (with_reducible refine Base.below_drewN ?_ _) | (refine Below.from (below_one _) ?_) | (refine Below.from (below_conv _ _ _) ?_) | (refine Below.setCell ?_ (by simp <;> omega) _) | (refine Below.from (by assumption) ?_)))⟩
end Go.Proofs.YtdkngidangfkiaaGreatDoor.Shape
namespace Go.Proofs.YtdkngidangfkiaaGreatDoor.Shape
open Go.RowKit
open Base
set_option linter.unusedVariables false
set_option linter.unusedSimpArgs false
set_option maxRecDepth 100000 in
theorem run_alt_neq (W : World) (a b c d : Int) : (binOp .neq 88 (.agg #[.int .i64 a, .int .i64 b]) (.agg #[.int .i64 c, .int .i64 d])).run Tryz.prog W = .ok (.bool (!decide ((a, b) = (c, d)))) W := by
  rw [run_neq_struct, run_equalIn_agg (ht := by simp [Program.fieldsOf, Tryz.underlying88]) (hp := by kernel_rfl)]
  simp only [Program.fieldsOf, Tryz.underlying88, Op.eqFields]
  simp [go_sem, Tryz.underlying3]
  by_cases h1 : a = c
  · by_cases h2 : b = d <;> simp [h1, h2]
  · simp [h1]
theorem run_alt_nguard (W : World) (x y : Operand) (xs ys : Array Value) : (eqGuard .neq 88 x y (.agg xs) (.agg ys)).run Tryz.prog W = .ok () W := run_eqGuard_agg W _ _ x y xs ys (by kernel_rfl)
def sameL (x y : List Alt) : Bool := decide (x = y)
theorem sameL_step {x y : List Alt} {k : Nat} (h1 : k < x.length) (h2 : k < y.length) (h : x[k] = y[k]) : sameL (x.drop k) (y.drop k) = sameL (x.drop (k + 1)) (y.drop (k + 1)) := by
  unfold sameL
  rw [List.drop_eq_getElem_cons h1, List.drop_eq_getElem_cons h2]
  simp only [List.cons.injEq, h, true_and]
theorem sameL_no {x y : List Alt} {k : Nat} (h1 : k < x.length) (h2 : k < y.length) (h : x[k] ≠ y[k]) : sameL (x.drop k) (y.drop k) = false := by
  unfold sameL
  rw [List.drop_eq_getElem_cons h1, List.drop_eq_getElem_cons h2, decide_eq_false_iff_not]
  exact fun e => h (List.cons.inj e).1
set_option maxRecDepth 100000 in
set_option maxHeartbeats 2000000 in
theorem equal_any (a b : Option Addr) (la lb ca cb : Nat) (x y : List Alt) (w : World) (hla : x.length = la) (hlb : y.length = lb) (hxl : la ≤ maxLen) (hyl : lb ≤ maxLen) (hx : ReadsS 2 altC w a x) (hy : ReadsS 2 altC w b y) :
    Calls Tryz.prog 59 #[.slice a la ca, .slice b lb cb] w fun e w' => e = .returned (.bool (sameL x y)) ∧ Below w.heap.size w w' := by
  subst hla hlb
  unfold maxLen at hxl hyl
  have HX := Lib.hid hx
  have HY := Lib.hid hy
  clear hx hy
  obtain ⟨S, hS⟩ : ∃ S, S = sameL x y := ⟨_, rfl⟩
  rw [← hS]
  by_cases hl : x.length = y.length
  · have hd : ((x.length : Int) != (y.length : Int)) = false := by rw [bne_eq_false_iff_eq]; omega
    have HS := Lib.hid hS
    clear hS
    go_enter Tryz.func59, Tryz.ntmps59
    go_wp2
    go_loopw [13] (fun i wr => ∃ k : Nat, i = .int .i64 (k : Int) ∧ k ≤ x.length ∧ sameL (x.drop k) (y.drop k) = S ∧ Below w.heap.size w wr) (fun i _ => x.length - (intOf i).toNat)
    case atStart => exact ⟨0, rfl, Nat.zero_le _, HS.out.symm, Below.refl _ _⟩
    case round =>
      obtain ⟨k, rfl, hk, hs, hb⟩ := hrel
      have HB := Lib.hid hb
      by_cases hp : k < x.length
      · have hp2 : k < y.length := by omega
        obtain ⟨ab, ao, rfl, a0, a1⟩ := alt_cells (HX.out.below altC_length hb) hp
        obtain ⟨bb, bo, rfl, b0, b1⟩ := alt_cells (HY.out.below altC_length hb) hp2
        have hye := sameL_step hp hp2
        have hno := sameL_no hp hp2
        obtain ⟨⟨k1, n1⟩, hX⟩ : ∃ X : Alt, X = x[k] := ⟨_, rfl⟩
        obtain ⟨⟨k2, n2⟩, hY⟩ : ∃ Y : Alt, Y = y[k] := ⟨_, rfl⟩
        rw [← hX] at a0 a1 hye hno
        rw [← hY] at b0 b1 hye hno
        dsimp only at a0 a1 b0 b1
        have hlow : (0 : Int) ≤ (k : Int) := by omega
        have hup1 : (k : Int) < ((x.length : Nat) : Int) := by omega
        have hup2 : (k : Int) < ((y.length : Nat) : Int) := by omega
        have hq := fun W => run_alt_neq W k1 n1 k2 n2
        have hg := fun W (x y : Operand) => run_alt_nguard W x y #[.int .i64 k1, .int .i64 n1] #[.int .i64 k2, .int .i64 n2]
        by_cases he : ((k1, n1) : Alt) = (k2, n2)
        · have HN := Lib.hid ((hye he).symm.trans hs)
          rw [decide_eq_true he] at hq
          simp only [Bool.not_true] at hq
          clear hX hY hb hs hye hno he
          go_wp2
          go_quiet (fail)
          go_wp2
          refine ⟨⟨k + 1, by go_num, by omega, HN.out, Base.below_drewN HB.out _⟩, ?_⟩
          simp [intOf]; omega
        · have HN := Lib.hid ((hno he).symm.trans hs)
          rw [decide_eq_false he] at hq
          simp only [Bool.not_false] at hq
          clear hX hY hb hs hye hno he
          go_wp2
          go_quiet (fail)
          go_wp2
          go_ret
          exact ⟨ret_bool HN.out, Base.below_drewN HB.out _⟩
      · have HN : Hid (true = S) := Lib.hid (by rw [← hs, List.drop_of_length_le (by omega), List.drop_of_length_le (by omega)]; rfl)
        go_wp2
        go_ret
        exact ⟨ret_bool HN.out, HB.out⟩
  · have hd : ((x.length : Int) != (y.length : Int)) = true := by rw [bne_iff_ne]; omega
    have HN : Hid (false = S) := Lib.hid (by rw [hS]; unfold sameL; symm; rw [decide_eq_false_iff_not]; intro h; rw [h] at hl; exact hl rfl)
    clear hS
    go_enter Tryz.func59, Tryz.ntmps59
    go_wp2
    go_ret
    exact ⟨ret_bool HN.out, Below.refl _ _⟩
theorem SBox.new2 (w : World) (o : Obj) (k : Int) (sl : Value) (mn mx wl : Int) : SBox ((w.alloc o).alloc (.cells #[.int .i64 k, sl, .int .i64 mn, .int .i64 mx, .int .i64 wl] 24)) (w.heap.size + 1) k sl mn mx wl := by
  have := SBox.new (w.alloc o) k sl mn mx wl
  rwa [World.size_alloc] at this
def sameB (k1 : Int) (z1 : List Alt) (mn1 mx1 wl1 k2 : Int) (z2 : List Alt) (mn2 mx2 wl2 : Int) : Bool := (k1 == k2) && (sameL z1 z2 && ((mn1 == mn2) && ((mx1 == mx2) && (wl1 == wl2))))
set_option maxRecDepth 100000 in
set_option maxHeartbeats 2000000 in
theorem ssame_any (k1 : Int) (a1 : Option Addr) (l1 c1 : Nat) (z1 : List Alt) (mn1 mx1 wl1 k2 : Int) (a2 : Option Addr) (l2 c2 : Nat) (z2 : List Alt) (mn2 mx2 wl2 : Int) (w : World)
    (h1 : z1.length = l1) (h2 : z2.length = l2) (m1 : l1 ≤ maxLen) (m2 : l2 ≤ maxLen) (r1 : ReadsS 2 altC w a1 z1) (r2 : ReadsS 2 altC w a2 z2) :
    Calls Tryz.prog 36 #[.agg #[.int .i64 k1, .slice a1 l1 c1, .int .i64 mn1, .int .i64 mx1, .int .i64 wl1], .agg #[.int .i64 k2, .slice a2 l2 c2, .int .i64 mn2, .int .i64 mx2, .int .i64 wl2]] w
      fun e w' => e = .returned (.bool (sameB k1 z1 mn1 mx1 wl1 k2 z2 mn2 mx2 wl2)) ∧ Below w.heap.size w w' := by
  have cE := fun (w2 : World) (hb : Below w.heap.size w w2) => equal_any a1 a2 l1 l2 c1 c2 z1 z2 w2 h1 h2 m1 m2 (r1.below altC_length hb) (r2.below altC_length hb)
  have hA := (SBox.new w k1 (.slice a1 l1 c1) mn1 mx1 wl1).alloc (.cells #[.int .i64 k2, .slice a2 l2 c2, .int .i64 mn2, .int .i64 mx2, .int .i64 wl2] 24)
  have hB := SBox.new2 w (.cells #[.int .i64 k1, .slice a1 l1 c1, .int .i64 mn1, .int .i64 mx1, .int .i64 wl1] 24) k2 (.slice a2 l2 c2) mn2 mx2 wl2
  have HA := Lib.hid hA
  have HB := Lib.hid hB
  clear hA hB h1 h2 r1 r2
  have q1 : l1 ≤ 9223372036854775807 := by unfold maxLen at m1; omega
  have q2 : l2 ≤ 9223372036854775807 := by unfold maxLen at m2; omega
  obtain ⟨S, hS⟩ : ∃ S, S = sameB k1 z1 mn1 mx1 wl1 k2 z2 mn2 mx2 wl2 := ⟨_, rfl⟩
  rw [← hS]
  unfold sameB at hS
  cases t1 : (k1 == k2) with
  | false =>
    have HX : Hid (false = S) := Lib.hid (by rw [hS, t1]; rfl)
    clear hS cE
    go_enter Tryz.func36, Tryz.ntmps36
    go_wp2
    go_ret
    exact ⟨ret_bool HX.out, by (focus repeat (first | exact Below.refl _ _ | assumption | (exact Hid.out (by assumption)) | (with_reducible refine Below.drew ?_) | (with_reducible refine Base.below_drewN ?_ _) | (refine Below.from (below_one _) ?_) | (refine Below.from (below_conv _ _ _) ?_) | (refine Below.setCell ?_ (by simp <;> omega) _) | (refine Below.from (by assumption) ?_)))⟩
  | true =>
    rw [t1, Bool.true_and] at hS
    cases t2 : sameL z1 z2 with
    | false =>
      have HX : Hid (false = S) := Lib.hid (by rw [hS, t2]; rfl)
      simp only [t2] at cE
      have CE := Lib.hid cE
      clear hS cE t2
      go_enter Tryz.func36, Tryz.ntmps36
      go_wp2_with (first
        | (go_at_call 59; (with_reducible refine (CE.out _ (by (focus repeat (first | exact Below.refl _ _ | assumption | (exact Hid.out (by assumption)) | (with_reducible refine Below.drew ?_) | (with_reducible refine Base.below_drewN ?_ _) | (refine Below.from (below_one _) ?_) | (refine Below.from (below_conv _ _ _) ?_) | (refine Below.setCell ?_ (by simp <;> omega) _) | (refine Below.from (by assumption) ?_))))).mono ?_); rintro e w2 ⟨rfl, p2⟩; obtain ⟨x0, x1, x2, x3, x4⟩ := (HA.out.below p2).cells; obtain ⟨y0, y1, y2, y3, y4⟩ := (HB.out.below p2).cells)
        | fail)
      go_ret
      exact ⟨ret_bool HX.out, by (focus repeat (first | exact Below.refl _ _ | assumption | (exact Hid.out (by assumption)) | (with_reducible refine Below.drew ?_) | (with_reducible refine Base.below_drewN ?_ _) | (refine Below.from (below_one _) ?_) | (refine Below.from (below_conv _ _ _) ?_) | (refine Below.setCell ?_ (by simp <;> omega) _) | (refine Below.from (by assumption) ?_)))⟩
    | true =>
      rw [t2, Bool.true_and] at hS
      simp only [t2] at cE
      have CE := Lib.hid cE
      clear cE t2
      cases t3 : (mn1 == mn2) with
      | false =>
        have HX : Hid (false = S) := Lib.hid (by rw [hS, t3]; rfl)
        clear hS
        go_enter Tryz.func36, Tryz.ntmps36
        go_wp2_with (first
          | (go_at_call 59; (with_reducible refine (CE.out _ (by (focus repeat (first | exact Below.refl _ _ | assumption | (exact Hid.out (by assumption)) | (with_reducible refine Below.drew ?_) | (with_reducible refine Base.below_drewN ?_ _) | (refine Below.from (below_one _) ?_) | (refine Below.from (below_conv _ _ _) ?_) | (refine Below.setCell ?_ (by simp <;> omega) _) | (refine Below.from (by assumption) ?_))))).mono ?_); rintro e w2 ⟨rfl, p2⟩; obtain ⟨x0, x1, x2, x3, x4⟩ := (HA.out.below p2).cells; obtain ⟨y0, y1, y2, y3, y4⟩ := (HB.out.below p2).cells)
          | fail)
        go_ret
        exact ⟨ret_bool HX.out, by (focus repeat (first | exact Below.refl _ _ | assumption | (exact Hid.out (by assumption)) | (with_reducible refine Below.drew ?_) | (with_reducible refine Base.below_drewN ?_ _) | (refine Below.from (below_one _) ?_) | (refine Below.from (below_conv _ _ _) ?_) | (refine Below.setCell ?_ (by simp <;> omega) _) | (refine Below.from (by assumption) ?_)))⟩
      | true =>
        rw [t3, Bool.true_and] at hS
        cases t4 : (mx1 == mx2) with
        | false =>
          have HX : Hid (false = S) := Lib.hid (by rw [hS, t4]; rfl)
          clear hS
          go_enter Tryz.func36, Tryz.ntmps36
          go_wp2_with (first
            | (go_at_call 59; (with_reducible refine (CE.out _ (by (focus repeat (first | exact Below.refl _ _ | assumption | (exact Hid.out (by assumption)) | (with_reducible refine Below.drew ?_) | (with_reducible refine Base.below_drewN ?_ _) | (refine Below.from (below_one _) ?_) | (refine Below.from (below_conv _ _ _) ?_) | (refine Below.setCell ?_ (by simp <;> omega) _) | (refine Below.from (by assumption) ?_))))).mono ?_); rintro e w2 ⟨rfl, p2⟩; obtain ⟨x0, x1, x2, x3, x4⟩ := (HA.out.below p2).cells; obtain ⟨y0, y1, y2, y3, y4⟩ := (HB.out.below p2).cells)
            | fail)
          go_ret
          exact ⟨ret_bool HX.out, by (focus repeat (first | exact Below.refl _ _ | assumption | (exact Hid.out (by assumption)) | (with_reducible refine Below.drew ?_) | (with_reducible refine Base.below_drewN ?_ _) | (refine Below.from (below_one _) ?_) | (refine Below.from (below_conv _ _ _) ?_) | (refine Below.setCell ?_ (by simp <;> omega) _) | (refine Below.from (by assumption) ?_)))⟩
        | true =>
          rw [t4, Bool.true_and] at hS
          have HX : Hid ((wl1 == wl2) = S) := Lib.hid hS.symm
          clear hS
          go_enter Tryz.func36, Tryz.ntmps36
          go_wp2_with (first
            | (go_at_call 59; (with_reducible refine (CE.out _ (by (focus repeat (first | exact Below.refl _ _ | assumption | (exact Hid.out (by assumption)) | (with_reducible refine Below.drew ?_) | (with_reducible refine Base.below_drewN ?_ _) | (refine Below.from (below_one _) ?_) | (refine Below.from (below_conv _ _ _) ?_) | (refine Below.setCell ?_ (by simp <;> omega) _) | (refine Below.from (by assumption) ?_))))).mono ?_); rintro e w2 ⟨rfl, p2⟩; obtain ⟨x0, x1, x2, x3, x4⟩ := (HA.out.below p2).cells; obtain ⟨y0, y1, y2, y3, y4⟩ := (HB.out.below p2).cells)
            | fail)
          go_ret
          exact ⟨ret_bool HX.out, by (focus repeat (first | exact Below.refl _ _ | assumption | (exact Hid.out (by assumption)) | (with_reducible refine Below.drew ?_) | (with_reducible refine Base.below_drewN ?_ _) | (refine Below.from (below_one _) ?_) | (refine Below.from (below_conv _ _ _) ?_) | (refine Below.setCell ?_ (by simp <;> omega) _) | (refine Below.from (by assumption) ?_)))⟩
end Go.Proofs.YtdkngidangfkiaaGreatDoor.Shape
