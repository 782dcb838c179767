/-
  Joined out of: The walks of the program's own question whether alternatives may be, and of Check. The walk of the program's Check. The walks of the program's Same, and of the library's Equal below it. Package hours and the library: what stands behind a text's digits, numbers read and written, a text built; what lies in the library's tables and in the units when the call begins. The contracts of package sat that hours calls, on the words of all seats. The walks of package hours: a count, whether a number is a time.
-/
import Derived.Test.YtdkngidangfkiaaGreatDoorJb06
import Derived.Laws.StructEq
import Derived.Test.YtdkngidangfkiaaGreatDoorJb01
import Derived.Shelf.Strings.SlTrimAscii
import Derived.Shelf.Strings.BuilderK
import Derived.Shelf.Strconv.AtoiAll
import Derived.Shelf.Strconv.Itoa3
import Derived.Lib.SmallJoins
import Derived.Lib.AppendIntMem
import Derived.Lib.AtoiAllCases
namespace Go.Proofs.YtdkngidangfkiaaGreatDoor.Shape
open Go.RowKit
open Base
set_option linter.unusedVariables false
set_option linter.unusedSimpArgs false
theorem hasN_not (zs : List Alt) (x : Int) : (∀ j (h : j < zs.length), zs[j].1 ≠ x) → false = hasN zs x := by
  intro h; symm
  have := (hasN_take zs zs.length x).2 (fun i hi _ => h i hi)
  rwa [List.take_of_length_le (Nat.le_refl _)] at this
theorem hasN_yes (zs : List Alt) (x : Int) (j : Nat) (hj : j < zs.length) (h : zs[j].1 = x) : true = hasN zs x := by
  symm; unfold hasN; rw [List.any_eq_true]
  exact ⟨zs[j], List.getElem_mem hj, by simpa using h⟩
set_option maxHeartbeats 1000000 in
theorem index_any (ao : Option Addr) (len cap : Nat) (zs : List Alt) (B : Nat) (x : Int) (w : World) (hlen : zs.length = len) (hl : len ≤ maxLen) (hr : ReadsS 2 altC w ao zs) (hB : w.cell? ⟨B, 0, none⟩ = some (.int .i64 x)) :
    Calls Tryz.prog 180 #[.slice ao len cap, .func (.func 157) #[] #[.pointer (some ⟨B, 0, none⟩)]] w fun e w' => ∃ i : Int, e = .returned (.int .i64 i) ∧ decide (0 ≤ i) = hasN zs x ∧ Below w.heap.size w w' := by
  subst hlen
  unfold maxLen at hl
  have HR := Lib.hid hr
  have HB := Lib.hid hB
  clear hr hB
  go_enter Tryz.func180, Tryz.ntmps180
  go_wp2
  go_loopw [8] (fun i wr => ∃ k : Nat, i = .int .i64 (k : Int) ∧ k ≤ zs.length ∧ (∀ j (h : j < zs.length), j < k → zs[j].1 ≠ x) ∧ Below w.heap.size w wr) (fun i _ => zs.length - (intOf i).toNat)
  case atStart => exact ⟨0, rfl, Nat.zero_le _, fun _ _ h => absurd h (Nat.not_lt_zero _), Below.refl _ _⟩
  case round =>
    obtain ⟨k, rfl, hk, hs, hb⟩ := hrel
    have HS := Lib.hid hs
    have HBel := Lib.hid hb
    clear hs
    by_cases hp : k < zs.length
    · obtain ⟨bb, bo, rfl, b0, b1⟩ := alt_cells (HR.out.below altC_length hb) hp
      have hc := cell_below HB.out hb
      have cA := fun n wl w hB => asLarge_any B x n wl w hB
      have hhit : zs[k].1 = x → true = hasN zs x := hasN_yes zs x k hp
      have hno : zs[k].1 ≠ x → ∀ j (h : j < zs.length), j < k + 1 → zs[j].1 ≠ x := fun h0 j hj hjk => by
        by_cases he : j = k
        · subst he; exact h0
        · exact HS.out j hj (by omega)
      obtain ⟨⟨n, wl⟩, hA⟩ : ∃ A : Alt, A = zs[k] := ⟨_, rfl⟩
      rw [← hA] at b0 b1 hhit hno
      dsimp only at b0 b1 hhit hno
      have HC := Lib.hid hc
      have CA := Lib.hid cA
      clear hA hb hc cA
      by_cases hx : n = x
      · have t1 : (n == x) = true := by simpa using hx
        have HH := Lib.hid (hhit hx)
        clear hhit hno hx
        go_wp2_with (first
          | (go_at_call 157; (with_reducible refine (CA.out _ _ _ HC.out).mono ?_); rintro e w1 ⟨rfl, p1⟩)
          | fail)
        go_ret
        exact ⟨_, rfl, by rw [← HH.out]; simp, p1.from HBel.out⟩
      · have t1 : (n == x) = false := by simpa using hx
        have HN := Lib.hid (hno hx)
        clear hhit hno hx
        go_wp2_with (first
          | (go_at_call 157; (with_reducible refine (CA.out _ _ _ HC.out).mono ?_); rintro e w1 ⟨rfl, p1⟩)
          | fail)
        refine ⟨⟨k + 1, by go_num, by omega, HN.out, p1.from HBel.out⟩, ?_⟩
        simp [intOf]; omega
    · have HH := Lib.hid (hasN_not zs x fun j hj => HS.out j hj (by omega))
      go_wp2
      go_ret
      exact ⟨_, rfl, by rw [← HH.out]; simp, HBel.out⟩
set_option maxHeartbeats 1000000 in
theorem contains_any (ao : Option Addr) (len cap : Nat) (zs : List Alt) (B : Nat) (x : Int) (w : World) (hlen : zs.length = len) (hl : len ≤ maxLen) (hr : ReadsS 2 altC w ao zs) (hB : w.cell? ⟨B, 0, none⟩ = some (.int .i64 x)) :
    Calls Tryz.prog 158 #[.slice ao len cap, .func (.func 157) #[] #[.pointer (some ⟨B, 0, none⟩)]] w fun e w' => e = .returned (.bool (hasN zs x)) ∧ Below w.heap.size w w' := by
  have c1 := index_any ao len cap zs B x w hlen hl hr hB
  obtain ⟨H, hH⟩ : ∃ H, H = hasN zs x := ⟨_, rfl⟩
  rw [← hH] at c1 ⊢
  have C1 := Lib.hid c1
  clear c1 hH hr hB hlen
  go_enter Tryz.func158, Tryz.ntmps158
  go_wp2_with (first
    | (go_at_call 180; (with_reducible refine (C1.out).mono ?_); rintro e w1 ⟨i, rfl, hi, p1⟩)
    | fail)
  go_ret
  exact ⟨ret_bool (by first | exact hi | rfl), p1⟩
set_option maxHeartbeats 1000000 in
theorem mayBe_any (ao : Option Addr) (len cap : Nat) (zs : List Alt) (m : Int) (w : World) (hlen : zs.length = len) (hl : len ≤ cap) (hcap : cap ≤ maxLen) (hr : ReadsS 2 altC w ao zs) :
    Calls Tryz.prog 117 #[.slice ao len cap, .int .i64 m] w fun e w' => e = .returned (.bool (mayB zs m)) ∧ Below w.heap.size w w' := by
  subst hlen
  unfold maxLen at hcap
  have cF := isFrom_any (zs.length : Int) 1 m w
  have HR := Lib.hid hr
  clear hr
  obtain ⟨M, hM⟩ : ∃ M, M = mayB zs m := ⟨_, rfl⟩
  rw [← hM]
  unfold mayB at hM
  cases hq : frB (zs.length : Int) 1 m with
  | false =>
    rw [hq] at hM cF
    have HM : Hid (false = M) := Lib.hid (by rw [hM]; rfl)
    have CF := Lib.hid cF
    clear hM cF hq
    go_enter Tryz.func117, Tryz.ntmps117
    go_wp2_with (first
      | (go_at_call 156; (with_reducible refine (CF.out).mono ?_); rintro e w1 ⟨rfl, rfl⟩)
      | fail)
    go_ret
    exact ⟨ret_bool HM.out, Below.refl _ _⟩
  | true =>
    rw [hq, Bool.true_and] at hM
    rw [hq] at cF
    have HM := Lib.hid hM
    have CF := Lib.hid cF
    clear hM cF hq
    go_enter Tryz.func117, Tryz.ntmps117
    go_wp2_with (first
      | (go_at_call 156; (with_reducible refine (CF.out).mono ?_); rintro e w1 ⟨rfl, rfl⟩)
      | fail)
    go_loopw [15] (fun i wr => ∃ k : Nat, i = .int .i64 (k : Int) ∧ k ≤ zs.length ∧ (∀ j (h : j < zs.length), j < k → altOk zs[j] = true ∧ hasN (zs.take j) zs[j].1 = false) ∧ Below w.heap.size w wr) (fun i _ => zs.length - (intOf i).toNat)
    case atStart => exact ⟨0, rfl, Nat.zero_le _, fun _ _ h => absurd h (Nat.not_lt_zero _), Below.refl _ _⟩
    case round =>
      obtain ⟨k, rfl, hk, hs, hb⟩ := hrel
      have HS := Lib.hid hs
      have HBel := Lib.hid hb
      clear hs
      by_cases hp : k < zs.length
      · obtain ⟨bb, bo, hao, b0, b1⟩ := alt_cells (HR.out.below altC_length hb) hp
        have cC := fun (w2 : World) (hb2 : Below w.heap.size w w2) (B : Nat) (x : Int) (hB : w2.cell? ⟨B, 0, none⟩ = some (.int .i64 x)) => contains_any ao k cap (zs.take k) B x w2 (by simp; omega) (by unfold maxLen; omega) (by
          have := HR.out.below altC_length hb2
          rcases this with h | ⟨b, off, h1, h2⟩
          · exact .inl (by rw [h]; simp)
          · refine .inr ⟨b, off, h1, fun j hj i hi => ?_⟩
            rw [List.length_take] at hj
            rw [h2 j (by omega) i hi, List.getElem_take]) hB
        have hno : altOk zs[k] = false ∨ hasN (zs.take k) zs[k].1 = true → false = M := fun h => by rw [HM.out, goodB_no zs k hp h]
        have hgo : altOk zs[k] = true → hasN (zs.take k) zs[k].1 = false → ∀ j (h : j < zs.length), j < k + 1 → altOk zs[j] = true ∧ hasN (zs.take j) zs[j].1 = false := fun h1 h2 j hj hjk => by
          by_cases he : j = k
          · subst he; exact ⟨h1, h2⟩
          · exact HS.out j hj (by omega)
        subst hao
        have hao : True := trivial
        unfold altOk at hno hgo
        obtain ⟨Z, hZ⟩ : ∃ Z, Z = zs.take k := ⟨_, rfl⟩
        obtain ⟨⟨n, wl⟩, hA⟩ : ∃ A : Alt, A = zs[k] := ⟨_, rfl⟩
        rw [← hA] at b0 b1
        simp only [← hA, ← hZ] at hno
        have hgo2 : (sizeB n && wallB wl) = true → hasN Z n = false → ∀ j (h : j < zs.length), j < k + 1 → altOk zs[j] = true ∧ hasN (zs.take j) zs[j].1 = false := by
          intro h1 h2; unfold altOk; apply hgo
          · rw [← hA]; exact h1
          · rw [← hA, ← hZ]; exact h2
        rw [← hZ] at cC
        dsimp only at b0 b1 hno
        clear hA hb hZ hgo hao
        have cS := isSize_any n
        have cW := isWall_any wl
        cases hq1 : sizeB n with
        | false =>
          rw [hq1] at cS
          have HN := Lib.hid (hno (.inl (by rw [hq1]; rfl)))
          have CS := Lib.hid cS
          clear hno hgo2 cS cW cC hq1
          go_wp2_with (first
            | (go_at_call 119; (with_reducible refine (CS.out _).mono ?_); rintro e w1 ⟨rfl, rfl⟩)
            | fail)
          go_ret
          exact ⟨ret_bool HN.out, Base.bel_⟩
        | true =>
          rw [hq1] at cS
          have CS := Lib.hid cS
          clear cS
          cases hq2 : wallB wl with
          | false =>
            rw [hq2] at cW
            have HN := Lib.hid (hno (.inl (by rw [hq1, hq2]; rfl)))
            have CW := Lib.hid cW
            clear hno hgo2 cW cC hq1 hq2
            go_wp2_with (first
              | (go_at_call 119; (with_reducible refine (CS.out _).mono ?_); rintro e w1 ⟨rfl, rfl⟩)
              | (go_at_call 120; (with_reducible refine (CW.out _).mono ?_); rintro e w1 ⟨rfl, rfl⟩)
              | fail)
            go_ret
            exact ⟨ret_bool HN.out, Base.bel_⟩
          | true =>
            rw [hq2] at cW
            have CW := Lib.hid cW
            have h12 : (sizeB n && wallB wl) = true := by rw [hq1, hq2]; rfl
            clear cW hq1 hq2
            cases hq3 : hasN Z n with
            | true =>
              have HN := Lib.hid (hno (.inr hq3))
              have cC2 := fun (w2 : World) (hb2 : Below w.heap.size w w2) (B : Nat) (hB : w2.cell? ⟨B, 0, none⟩ = some (.int .i64 n)) => cC w2 hb2 B n hB
              simp only [hq3] at cC2
              have CC := Lib.hid cC2
              clear hno hgo2 cC cC2 hq3 h12
              go_wp2_with (first
                | (go_at_call 119; (with_reducible refine (CS.out _).mono ?_); rintro e w1 ⟨rfl, rfl⟩)
                | (go_at_call 120; (with_reducible refine (CW.out _).mono ?_); rintro e w1 ⟨rfl, rfl⟩)
                | (go_at_call 158; (with_reducible refine (CC.out _ (Base.bel_) _ (by simp [World.cell?_alloc_at])).mono ?_); rintro e w2 ⟨rfl, p2⟩)
                | fail)
              go_ret
              exact ⟨ret_bool HN.out, Base.bel_⟩
            | false =>
              have HG := Lib.hid (hgo2 h12 hq3)
              have cC2 := fun (w2 : World) (hb2 : Below w.heap.size w w2) (B : Nat) (hB : w2.cell? ⟨B, 0, none⟩ = some (.int .i64 n)) => cC w2 hb2 B n hB
              simp only [hq3] at cC2
              have CC := Lib.hid cC2
              clear hno hgo2 cC cC2 hq3 h12
              go_wp2_with (first
                | (go_at_call 119; (with_reducible refine (CS.out _).mono ?_); rintro e w1 ⟨rfl, rfl⟩)
                | (go_at_call 120; (with_reducible refine (CW.out _).mono ?_); rintro e w1 ⟨rfl, rfl⟩)
                | (go_at_call 158; (with_reducible refine (CC.out _ (Base.bel_) _ (by simp [World.cell?_alloc_at])).mono ?_); rintro e w2 ⟨rfl, p2⟩)
                | fail)
              refine ⟨⟨k + 1, by go_num, by omega, HG.out, Base.bel_⟩, ?_⟩
              simp [intOf]; omega
      · have HN : Hid (true = M) := Lib.hid (by rw [HM.out]; symm; exact (goodB_steps zs).2 fun j hj => HS.out j hj (by omega))
        go_wp2
        go_ret
        exact ⟨ret_bool HN.out, HBel.out⟩
end Go.Proofs.YtdkngidangfkiaaGreatDoor.Shape
namespace Go.Proofs.YtdkngidangfkiaaGreatDoor.Shape
open Go.RowKit
open Base
set_option linter.unusedVariables false
set_option linter.unusedSimpArgs false
theorem ret_i64 {a b : Int} (h : a = b) : Ending.returned (.int .i64 a) = .returned (.int .i64 b) := by rw [h]
def SBox (W : World) (B : Nat) (k : Int) (sl : Value) (mn mx wl : Int) : Prop := W.heap[B]? = some (.cells #[.int .i64 k, sl, .int .i64 mn, .int .i64 mx, .int .i64 wl] 24)
section
variable {W W' : World} {B : Nat} {k mn mx wl : Int} {sl : Value}
theorem SBox.lt (h : SBox W B k sl mn mx wl) : B < W.heap.size := (Array.getElem?_eq_some_iff.1 h).1
theorem SBox.new (W : World) (k : Int) (sl : Value) (mn mx wl : Int) : SBox (W.alloc (.cells #[.int .i64 k, sl, .int .i64 mn, .int .i64 mx, .int .i64 wl] 24)) W.heap.size k sl mn mx wl := heap_alloc_new W _
theorem SBox.below (h : SBox W B k sl mn mx wl) (hb : Below W.heap.size W W') : SBox W' B k sl mn mx wl := by
  unfold SBox at h ⊢; rw [hb.block _ (Array.getElem?_eq_some_iff.1 h).1]; exact h
theorem SBox.kept {B' : Nat} (h : SBox W B k sl mn mx wl) (hb : Below B' W W') (hB : B < B') : SBox W' B k sl mn mx wl := by
  unfold SBox at h ⊢; rw [hb.block _ hB]; exact h
theorem SBox.cells (h : SBox W B k sl mn mx wl) : W.cell? ⟨B, 0, none⟩ = some (.int .i64 k) ∧ W.cell? ⟨B, 1, none⟩ = some sl ∧ W.cell? ⟨B, 2, none⟩ = some (.int .i64 mn) ∧ W.cell? ⟨B, 3, none⟩ = some (.int .i64 mx) ∧ W.cell? ⟨B, 4, none⟩ = some (.int .i64 wl) := by
  unfold SBox at h
  simp [World.cell?, h]
theorem SBox.alloc (h : SBox W B k sl mn mx wl) (o : Obj) : SBox (W.alloc o) B k sl mn mx wl := h.below (below_one o)
end
set_option maxRecDepth 100000 in
set_option maxHeartbeats 2000000 in
theorem check_any (k : Int) (ao : Option Addr) (len cap : Nat) (zs : List Alt) (mn mx wl : Int) (w : World) (hlen : zs.length = len) (hl : len ≤ cap) (hcap : cap ≤ maxLen) (hr : ReadsS 2 altC w ao zs) :
    Calls Tryz.prog 81 #[.agg #[.int .i64 k, .slice ao len cap, .int .i64 mn, .int .i64 mx, .int .i64 wl]] w fun e w' => e = .returned (.int .i64 (chkE k zs mn mx wl)) ∧ Below w.heap.size w w' := by
  have cM := fun (m : Int) (w2 : World) (hb : Below w.heap.size w w2) => mayBe_any ao len cap zs m w2 hlen hl hcap (hr.below altC_length hb)
  have cH := fun w => hasSpan_any k ao len cap mn mx wl w
  have hSB := SBox.new w k (.slice ao len cap) mn mx wl
  have HSB := Lib.hid hSB
  clear hSB
  obtain ⟨E, hE⟩ : ∃ E, E = chkE k zs mn mx wl := ⟨_, rfl⟩
  rw [← hE]
  unfold chkE chkB at hE
  have hl64 : len ≤ 9223372036854775807 := by unfold maxLen at hcap; omega
  by_cases k1 : k = 1
  · subst k1
    rw [if_pos rfl] at hE
    have cM1 := cM 1
    cases h1 : mayB zs 1 with
    | false =>
      rw [h1] at hE
      simp only [h1] at cM1
      have HE := Lib.hid hE
      have CM := Lib.hid cM1
      clear hE cM cM1 cH h1 hr hlen
      go_enter Tryz.func81, Tryz.ntmps81
      go_wp2_with (first
        | (go_at_call 117; (with_reducible refine (CM.out _ (Base.bel_)).mono ?_); rintro e w1 ⟨rfl, p1⟩)
        | fail)
      go_ret
      exact ⟨ret_i64 HE.out.symm, Base.bel_⟩
    | true =>
      simp only [h1] at cM1
      have CM := Lib.hid cM1
      have HE : Hid (E = if spanB mn mx wl = false then 0 else 70) := Lib.hid (by rw [hE, h1]; cases spanB mn mx wl <;> rfl)
      clear hE cM cM1 h1 hr hlen
      cases h2 : spanB mn mx wl with
      | false =>
        simp only [h2] at cH
        have HE : Hid (0 = E) := Lib.hid (by rw [HE.out, h2]; rfl)
        have CH := Lib.hid cH
        clear cH h2
        go_enter Tryz.func81, Tryz.ntmps81
        go_wp2_with (first
          | (go_at_call 117; (with_reducible refine (CM.out _ (Base.bel_)).mono ?_); rintro e w1 ⟨rfl, p1⟩; obtain ⟨x0, x1, x2, x3, x4⟩ := (HSB.out.below p1).cells)
          | (go_at_call 118; (with_reducible refine (CH.out _).mono ?_); rintro e w2 ⟨rfl, p2⟩)
          | fail)
        go_ret
        exact ⟨ret_i64 HE.out, Base.bel_⟩
      | true =>
        simp only [h2] at cH
        have HE : Hid (70 = E) := Lib.hid (by rw [HE.out, h2]; rfl)
        have CH := Lib.hid cH
        clear cH h2
        go_enter Tryz.func81, Tryz.ntmps81
        go_wp2_with (first
          | (go_at_call 117; (with_reducible refine (CM.out _ (Base.bel_)).mono ?_); rintro e w1 ⟨rfl, p1⟩; obtain ⟨x0, x1, x2, x3, x4⟩ := (HSB.out.below p1).cells)
          | (go_at_call 118; (with_reducible refine (CH.out _).mono ?_); rintro e w2 ⟨rfl, p2⟩)
          | fail)
        go_ret
        exact ⟨ret_i64 HE.out, Base.bel_⟩
  by_cases k2 : k = 2
  · subst k2
    rw [if_neg k1, if_pos rfl] at hE
    have cM1 := cM 6
    cases h1 : mayB zs 6 with
    | false =>
      rw [h1] at hE
      simp only [h1] at cM1
      have HE := Lib.hid hE
      have CM := Lib.hid cM1
      clear hE cM cM1 cH h1 hr hlen
      go_enter Tryz.func81, Tryz.ntmps81
      go_wp2_with (first
        | (go_at_call 117; (with_reducible refine (CM.out _ (Base.bel_)).mono ?_); rintro e w1 ⟨rfl, p1⟩)
        | fail)
      go_ret
      exact ⟨ret_i64 HE.out.symm, Base.bel_⟩
    | true =>
      simp only [h1] at cM1
      have CM := Lib.hid cM1
      have HE : Hid (E = if spanB mn mx wl = false then 0 else 70) := Lib.hid (by rw [hE, h1]; cases spanB mn mx wl <;> rfl)
      clear hE cM cM1 h1 hr hlen
      cases h2 : spanB mn mx wl with
      | false =>
        simp only [h2] at cH
        have HE : Hid (0 = E) := Lib.hid (by rw [HE.out, h2]; rfl)
        have CH := Lib.hid cH
        clear cH h2
        go_enter Tryz.func81, Tryz.ntmps81
        go_wp2_with (first
          | (go_at_call 117; (with_reducible refine (CM.out _ (Base.bel_)).mono ?_); rintro e w1 ⟨rfl, p1⟩; obtain ⟨x0, x1, x2, x3, x4⟩ := (HSB.out.below p1).cells)
          | (go_at_call 118; (with_reducible refine (CH.out _).mono ?_); rintro e w2 ⟨rfl, p2⟩)
          | fail)
        go_ret
        exact ⟨ret_i64 HE.out, Base.bel_⟩
      | true =>
        simp only [h2] at cH
        have HE : Hid (70 = E) := Lib.hid (by rw [HE.out, h2]; rfl)
        have CH := Lib.hid cH
        clear cH h2
        go_enter Tryz.func81, Tryz.ntmps81
        go_wp2_with (first
          | (go_at_call 117; (with_reducible refine (CM.out _ (Base.bel_)).mono ?_); rintro e w1 ⟨rfl, p1⟩; obtain ⟨x0, x1, x2, x3, x4⟩ := (HSB.out.below p1).cells)
          | (go_at_call 118; (with_reducible refine (CH.out _).mono ?_); rintro e w2 ⟨rfl, p2⟩)
          | fail)
        go_ret
        exact ⟨ret_i64 HE.out, Base.bel_⟩
  clear cM cH
  rw [if_neg k1, if_neg k2] at hE
  by_cases k3 : k = 3
  · subst k3
    rw [if_pos rfl] at hE
    have cS1 := fun w => isSize_any mn w
    have cS2 := fun w => isSize_any mx w
    have cW := fun w => isWall_any wl w
    have tl : decide ((zs.length : Int) = 0) = ((len : Int) == 0) := by rw [hlen, Bool.eq_iff_iff]; simp
    rw [tl] at hE
    clear tl k1 k2 hr hlen
    cases h1 : sizeB mn with
    | false =>
      rw [h1] at hE
      simp only [h1] at cS1
      have HE : Hid (70 = E) := Lib.hid (by rw [hE]; rfl)
      have CS1 := Lib.hid cS1
      clear hE cS1 cS2 cW h1
      go_enter Tryz.func81, Tryz.ntmps81
      go_wp2_with (first
        | (go_at_call 119; (with_reducible refine (CS1.out _).mono ?_); rintro e w1 ⟨rfl, rfl⟩)
        | fail)
      go_ret
      exact ⟨ret_i64 HE.out, Base.bel_⟩
    | true =>
      rw [h1, Bool.true_and] at hE
      simp only [h1] at cS1
      have CS1 := Lib.hid cS1
      clear cS1 h1
      cases h2 : sizeB mx with
      | false =>
        rw [h2] at hE
        simp only [h2] at cS2
        have HE : Hid (70 = E) := Lib.hid (by rw [hE]; rfl)
        have CS2 := Lib.hid cS2
        clear hE cS2 cW h2
        go_enter Tryz.func81, Tryz.ntmps81
        go_wp2_with (first
          | (go_at_call 119; (with_reducible refine (CS1.out _).mono ?_); rintro e w1 ⟨rfl, rfl⟩)
          | (go_at_call 119; (with_reducible refine (CS2.out _).mono ?_); rintro e w1 ⟨rfl, rfl⟩)
          | fail)
        go_ret
        exact ⟨ret_i64 HE.out, Base.bel_⟩
      | true =>
        rw [h2, Bool.true_and] at hE
        simp only [h2] at cS2
        have CS2 := Lib.hid cS2
        clear cS2 h2
        cases h3 : decide (mn ≤ mx) with
        | false =>
          rw [h3] at hE
          have HE : Hid (70 = E) := Lib.hid (by rw [hE]; rfl)
          clear hE cW
          go_enter Tryz.func81, Tryz.ntmps81
          go_wp2_with (first
            | (go_at_call 119; (with_reducible refine (CS1.out _).mono ?_); rintro e w1 ⟨rfl, rfl⟩)
            | (go_at_call 119; (with_reducible refine (CS2.out _).mono ?_); rintro e w1 ⟨rfl, rfl⟩)
            | fail)
          go_ret
          exact ⟨ret_i64 HE.out, Base.bel_⟩
        | true =>
          rw [h3, Bool.true_and] at hE
          cases h4 : wallB wl with
          | false =>
            rw [h4] at hE
            simp only [h4] at cW
            have HE : Hid (70 = E) := Lib.hid (by rw [hE]; rfl)
            have CW := Lib.hid cW
            clear hE cW h4
            go_enter Tryz.func81, Tryz.ntmps81
            go_wp2_with (first
              | (go_at_call 119; (with_reducible refine (CS1.out _).mono ?_); rintro e w1 ⟨rfl, rfl⟩)
              | (go_at_call 119; (with_reducible refine (CS2.out _).mono ?_); rintro e w1 ⟨rfl, rfl⟩)
              | (go_at_call 120; (with_reducible refine (CW.out _).mono ?_); rintro e w1 ⟨rfl, rfl⟩)
              | fail)
            go_ret
            exact ⟨ret_i64 HE.out, Base.bel_⟩
          | true =>
            rw [h4, Bool.true_and] at hE
            simp only [h4] at cW
            have CW := Lib.hid cW
            clear cW h4
            cases h5 : ((len : Int) == 0) with
            | false =>
              rw [h5] at hE
              have HE : Hid (70 = E) := Lib.hid (by rw [hE]; rfl)
              clear hE
              go_enter Tryz.func81, Tryz.ntmps81
              go_wp2_with (first
                | (go_at_call 119; (with_reducible refine (CS1.out _).mono ?_); rintro e w1 ⟨rfl, rfl⟩)
                | (go_at_call 119; (with_reducible refine (CS2.out _).mono ?_); rintro e w1 ⟨rfl, rfl⟩)
                | (go_at_call 120; (with_reducible refine (CW.out _).mono ?_); rintro e w1 ⟨rfl, rfl⟩)
                | fail)
              go_ret
              exact ⟨ret_i64 HE.out, Base.bel_⟩
            | true =>
              rw [h5] at hE
              have HE : Hid (0 = E) := Lib.hid (by rw [hE]; rfl)
              clear hE
              go_enter Tryz.func81, Tryz.ntmps81
              go_wp2_with (first
                | (go_at_call 119; (with_reducible refine (CS1.out _).mono ?_); rintro e w1 ⟨rfl, rfl⟩)
                | (go_at_call 119; (with_reducible refine (CS2.out _).mono ?_); rintro e w1 ⟨rfl, rfl⟩)
                | (go_at_call 120; (with_reducible refine (CW.out _).mono ?_); rintro e w1 ⟨rfl, rfl⟩)
                | fail)
              go_ret
              exact ⟨ret_i64 HE.out, Base.bel_⟩
  · rw [if_neg k3] at hE
    have HE : Hid (70 = E) := Lib.hid (by rw [hE]; rfl)
    have t1 : (k == 1) = false := by simpa using k1
    have t2 : (k == 2) = false := by simpa using k2
    have t3 : (k == 3) = false := by simpa using k3
    clear hE k1 k2 k3 hr hlen
    go_enter Tryz.func81, Tryz.ntmps81
    go_wp2
    go_ret
    exact ⟨ret_i64 HE.out, Base.bel_⟩
end Go.Proofs.YtdkngidangfkiaaGreatDoor.Shape
namespace Go.Proofs.YtdkngidangfkiaaGreatDoor.Shape
open Go.RowKit
open Base
set_option linter.unusedVariables false
set_option linter.unusedSimpArgs false
set_option maxRecDepth 100000 in
theorem run_alt_neq (W : World) (a b c d : Int) : (binOp .neq 88 (.agg #[.int .i64 a, .int .i64 b]) (.agg #[.int .i64 c, .int .i64 d])).run Tryz.prog W = .ok (.bool (!decide ((a, b) = (c, d)))) W := by
  rw [run_neq_struct, run_equalIn_agg (ht := by simp [Program.fieldsOf, Tryz.underlying88]) (hp := by kernel_rfl)]
  simp only [Program.fieldsOf, Tryz.underlying88, Op.eqFields]
  simp [go_sem, Tryz.underlying3]
  by_cases h1 : a = c
  · by_cases h2 : b = d <;> simp [h1, h2]
  · simp [h1]
theorem run_alt_nguard (W : World) (x y : Operand) (xs ys : Array Value) : (eqGuard .neq 88 x y (.agg xs) (.agg ys)).run Tryz.prog W = .ok () W := run_eqGuard_agg W _ _ x y xs ys (by kernel_rfl)
def sameL (x y : List Alt) : Bool := decide (x = y)
theorem sameL_step {x y : List Alt} {k : Nat} (h1 : k < x.length) (h2 : k < y.length) (h : x[k] = y[k]) : sameL (x.drop k) (y.drop k) = sameL (x.drop (k + 1)) (y.drop (k + 1)) := by
  unfold sameL
  rw [List.drop_eq_getElem_cons h1, List.drop_eq_getElem_cons h2]
  simp only [List.cons.injEq, h, true_and]
theorem sameL_no {x y : List Alt} {k : Nat} (h1 : k < x.length) (h2 : k < y.length) (h : x[k] ≠ y[k]) : sameL (x.drop k) (y.drop k) = false := by
  unfold sameL
  rw [List.drop_eq_getElem_cons h1, List.drop_eq_getElem_cons h2, decide_eq_false_iff_not]
  exact fun e => h (List.cons.inj e).1
set_option maxRecDepth 100000 in
set_option maxHeartbeats 2000000 in
theorem equal_any (a b : Option Addr) (la lb ca cb : Nat) (x y : List Alt) (w : World) (hla : x.length = la) (hlb : y.length = lb) (hxl : la ≤ maxLen) (hyl : lb ≤ maxLen) (hx : ReadsS 2 altC w a x) (hy : ReadsS 2 altC w b y) :
    Calls Tryz.prog 59 #[.slice a la ca, .slice b lb cb] w fun e w' => e = .returned (.bool (sameL x y)) ∧ Below w.heap.size w w' := by
  subst hla hlb
  unfold maxLen at hxl hyl
  have HX := Lib.hid hx
  have HY := Lib.hid hy
  clear hx hy
  obtain ⟨S, hS⟩ : ∃ S, S = sameL x y := ⟨_, rfl⟩
  rw [← hS]
  by_cases hl : x.length = y.length
  · have hd : ((x.length : Int) != (y.length : Int)) = false := by rw [bne_eq_false_iff_eq]; omega
    have HS := Lib.hid hS
    clear hS
    go_enter Tryz.func59, Tryz.ntmps59
    go_wp2
    go_loopw [13] (fun i wr => ∃ k : Nat, i = .int .i64 (k : Int) ∧ k ≤ x.length ∧ sameL (x.drop k) (y.drop k) = S ∧ Below w.heap.size w wr) (fun i _ => x.length - (intOf i).toNat)
    case atStart => exact ⟨0, rfl, Nat.zero_le _, HS.out.symm, Below.refl _ _⟩
    case round =>
      obtain ⟨k, rfl, hk, hs, hb⟩ := hrel
      have HB := Lib.hid hb
      by_cases hp : k < x.length
      · have hp2 : k < y.length := by omega
        obtain ⟨ab, ao, rfl, a0, a1⟩ := alt_cells (HX.out.below altC_length hb) hp
        obtain ⟨bb, bo, rfl, b0, b1⟩ := alt_cells (HY.out.below altC_length hb) hp2
        have hye := sameL_step hp hp2
        have hno := sameL_no hp hp2
        obtain ⟨⟨k1, n1⟩, hX⟩ : ∃ X : Alt, X = x[k] := ⟨_, rfl⟩
        obtain ⟨⟨k2, n2⟩, hY⟩ : ∃ Y : Alt, Y = y[k] := ⟨_, rfl⟩
        rw [← hX] at a0 a1 hye hno
        rw [← hY] at b0 b1 hye hno
        dsimp only at a0 a1 b0 b1
        have hlow : (0 : Int) ≤ (k : Int) := by omega
        have hup1 : (k : Int) < ((x.length : Nat) : Int) := by omega
        have hup2 : (k : Int) < ((y.length : Nat) : Int) := by omega
        have hq := fun W => run_alt_neq W k1 n1 k2 n2
        have hg := fun W (x y : Operand) => run_alt_nguard W x y #[.int .i64 k1, .int .i64 n1] #[.int .i64 k2, .int .i64 n2]
        by_cases he : ((k1, n1) : Alt) = (k2, n2)
        · have HN := Lib.hid ((hye he).symm.trans hs)
          rw [decide_eq_true he] at hq
          simp only [Bool.not_true] at hq
          clear hX hY hb hs hye hno he
          go_wp2
          go_quiet (fail)
          go_wp2
          refine ⟨⟨k + 1, by go_num, by omega, HN.out, Base.below_drewN HB.out _⟩, ?_⟩
          simp [intOf]; omega
        · have HN := Lib.hid ((hno he).symm.trans hs)
          rw [decide_eq_false he] at hq
          simp only [Bool.not_false] at hq
          clear hX hY hb hs hye hno he
          go_wp2
          go_quiet (fail)
          go_wp2
          go_ret
          exact ⟨ret_bool HN.out, Base.below_drewN HB.out _⟩
      · have HN : Hid (true = S) := Lib.hid (by rw [← hs, List.drop_of_length_le (by omega), List.drop_of_length_le (by omega)]; rfl)
        go_wp2
        go_ret
        exact ⟨ret_bool HN.out, HB.out⟩
  · have hd : ((x.length : Int) != (y.length : Int)) = true := by rw [bne_iff_ne]; omega
    have HN : Hid (false = S) := Lib.hid (by rw [hS]; unfold sameL; symm; rw [decide_eq_false_iff_not]; intro h; rw [h] at hl; exact hl rfl)
    clear hS
    go_enter Tryz.func59, Tryz.ntmps59
    go_wp2
    go_ret
    exact ⟨ret_bool HN.out, Below.refl _ _⟩
theorem SBox.new2 (w : World) (o : Obj) (k : Int) (sl : Value) (mn mx wl : Int) : SBox ((w.alloc o).alloc (.cells #[.int .i64 k, sl, .int .i64 mn, .int .i64 mx, .int .i64 wl] 24)) (w.heap.size + 1) k sl mn mx wl := by
  have := SBox.new (w.alloc o) k sl mn mx wl
  rwa [World.size_alloc] at this
def sameB (k1 : Int) (z1 : List Alt) (mn1 mx1 wl1 k2 : Int) (z2 : List Alt) (mn2 mx2 wl2 : Int) : Bool := (k1 == k2) && (sameL z1 z2 && ((mn1 == mn2) && ((mx1 == mx2) && (wl1 == wl2))))
set_option maxRecDepth 100000 in
set_option maxHeartbeats 2000000 in
theorem ssame_any (k1 : Int) (a1 : Option Addr) (l1 c1 : Nat) (z1 : List Alt) (mn1 mx1 wl1 k2 : Int) (a2 : Option Addr) (l2 c2 : Nat) (z2 : List Alt) (mn2 mx2 wl2 : Int) (w : World)
    (h1 : z1.length = l1) (h2 : z2.length = l2) (m1 : l1 ≤ maxLen) (m2 : l2 ≤ maxLen) (r1 : ReadsS 2 altC w a1 z1) (r2 : ReadsS 2 altC w a2 z2) :
    Calls Tryz.prog 36 #[.agg #[.int .i64 k1, .slice a1 l1 c1, .int .i64 mn1, .int .i64 mx1, .int .i64 wl1], .agg #[.int .i64 k2, .slice a2 l2 c2, .int .i64 mn2, .int .i64 mx2, .int .i64 wl2]] w
      fun e w' => e = .returned (.bool (sameB k1 z1 mn1 mx1 wl1 k2 z2 mn2 mx2 wl2)) ∧ Below w.heap.size w w' := by
  have cE := fun (w2 : World) (hb : Below w.heap.size w w2) => equal_any a1 a2 l1 l2 c1 c2 z1 z2 w2 h1 h2 m1 m2 (r1.below altC_length hb) (r2.below altC_length hb)
  have hA := (SBox.new w k1 (.slice a1 l1 c1) mn1 mx1 wl1).alloc (.cells #[.int .i64 k2, .slice a2 l2 c2, .int .i64 mn2, .int .i64 mx2, .int .i64 wl2] 24)
  have hB := SBox.new2 w (.cells #[.int .i64 k1, .slice a1 l1 c1, .int .i64 mn1, .int .i64 mx1, .int .i64 wl1] 24) k2 (.slice a2 l2 c2) mn2 mx2 wl2
  have HA := Lib.hid hA
  have HB := Lib.hid hB
  clear hA hB h1 h2 r1 r2
  have q1 : l1 ≤ 9223372036854775807 := by unfold maxLen at m1; omega
  have q2 : l2 ≤ 9223372036854775807 := by unfold maxLen at m2; omega
  obtain ⟨S, hS⟩ : ∃ S, S = sameB k1 z1 mn1 mx1 wl1 k2 z2 mn2 mx2 wl2 := ⟨_, rfl⟩
  rw [← hS]
  unfold sameB at hS
  cases t1 : (k1 == k2) with
  | false =>
    have HX : Hid (false = S) := Lib.hid (by rw [hS, t1]; rfl)
    clear hS cE
    go_enter Tryz.func36, Tryz.ntmps36
    go_wp2
    go_ret
    exact ⟨ret_bool HX.out, Base.bel_⟩
  | true =>
    rw [t1, Bool.true_and] at hS
    cases t2 : sameL z1 z2 with
    | false =>
      have HX : Hid (false = S) := Lib.hid (by rw [hS, t2]; rfl)
      simp only [t2] at cE
      have CE := Lib.hid cE
      clear hS cE t2
      go_enter Tryz.func36, Tryz.ntmps36
      go_wp2_with (first
        | (go_at_call 59; (with_reducible refine (CE.out _ (Base.bel_)).mono ?_); rintro e w2 ⟨rfl, p2⟩; obtain ⟨x0, x1, x2, x3, x4⟩ := (HA.out.below p2).cells; obtain ⟨y0, y1, y2, y3, y4⟩ := (HB.out.below p2).cells)
        | fail)
      go_ret
      exact ⟨ret_bool HX.out, Base.bel_⟩
    | true =>
      rw [t2, Bool.true_and] at hS
      simp only [t2] at cE
      have CE := Lib.hid cE
      clear cE t2
      cases t3 : (mn1 == mn2) with
      | false =>
        have HX : Hid (false = S) := Lib.hid (by rw [hS, t3]; rfl)
        clear hS
        go_enter Tryz.func36, Tryz.ntmps36
        go_wp2_with (first
          | (go_at_call 59; (with_reducible refine (CE.out _ (Base.bel_)).mono ?_); rintro e w2 ⟨rfl, p2⟩; obtain ⟨x0, x1, x2, x3, x4⟩ := (HA.out.below p2).cells; obtain ⟨y0, y1, y2, y3, y4⟩ := (HB.out.below p2).cells)
          | fail)
        go_ret
        exact ⟨ret_bool HX.out, Base.bel_⟩
      | true =>
        rw [t3, Bool.true_and] at hS
        cases t4 : (mx1 == mx2) with
        | false =>
          have HX : Hid (false = S) := Lib.hid (by rw [hS, t4]; rfl)
          clear hS
          go_enter Tryz.func36, Tryz.ntmps36
          go_wp2_with (first
            | (go_at_call 59; (with_reducible refine (CE.out _ (Base.bel_)).mono ?_); rintro e w2 ⟨rfl, p2⟩; obtain ⟨x0, x1, x2, x3, x4⟩ := (HA.out.below p2).cells; obtain ⟨y0, y1, y2, y3, y4⟩ := (HB.out.below p2).cells)
            | fail)
          go_ret
          exact ⟨ret_bool HX.out, Base.bel_⟩
        | true =>
          rw [t4, Bool.true_and] at hS
          have HX : Hid ((wl1 == wl2) = S) := Lib.hid hS.symm
          clear hS
          go_enter Tryz.func36, Tryz.ntmps36
          go_wp2_with (first
            | (go_at_call 59; (with_reducible refine (CE.out _ (Base.bel_)).mono ?_); rintro e w2 ⟨rfl, p2⟩; obtain ⟨x0, x1, x2, x3, x4⟩ := (HA.out.below p2).cells; obtain ⟨y0, y1, y2, y3, y4⟩ := (HB.out.below p2).cells)
            | fail)
          go_ret
          exact ⟨ret_bool HX.out, Base.bel_⟩
end Go.Proofs.YtdkngidangfkiaaGreatDoor.Shape
namespace Go.Proofs.YtdkngidangfkiaaGreatDoor.HoursLib
open Go.Shelf Go.RowKit
open Base
set_option linter.unusedVariables false
def ren : Go.Shelf.Ren := ⟨fun | 119 => 215 | 129 => 174 | 137 => 214 | 151 => 212 | 152 => 213 | 161 => 202 | 166 => 18 | 167 => 172 | 169 => 22 | 171 => 44 | 172 => 133 | 197 => 88 | 205 => 194 | 217 => 218 | 224 => 216 | 225 => 217 | 227 => 207 | 228 => 211 | 231 => 206 | 233 => 208 | 235 => 209 | 240 => 42 | 243 => 74 | 244 => 162 | 245 => 163 | 246 => 113 | 247 => 181 | 260 => 128 | 266 => 219 | 276 => 71 | 279 => 182 | 280 => 183 | 281 => 184 | 282 => 185 | 283 => 147 | 284 => 148 | 285 => 149 | 286 => 150 | 287 => 193 | 316 => 132 | 317 => 173 | 318 => 175 | 319 => 176 | 320 => 177 | 321 => 200 | 322 => 201 | 337 => 191 | 338 => 192 | n => n, fun | 0 => 0 | 2 => 2 | 3 => 3 | 4 => 4 | 5 => 5 | 9 => 9 | 20 => 20 | 21 => 21 | 37 => 44 | 46 => 180 | 51 => 192 | 53 => 168 | 70 => 43 | 72 => 46 | 75 => 48 | 76 => 49 | 80 => 58 | 85 => 197 | 105 => 127 | 116 => 229 | 117 => 230 | 119 => 179 | 124 => 233 | 127 => 93 | 138 => 182 | 139 => 183 | 143 => 220 | 145 => 222 | 164 => 114 | 167 => 196 | 168 => 199 | 171 => 167 | 173 => 171 | 175 => 205 | 210 => 208 | 212 => 191 | 213 => 193 | 232 => 217 | 233 => 218 | n => n, fun | 3 => 2 | 4 => 3 | 15 => 5 | 16 => 6 | 17 => 4 | 18 => 8 | 19 => 9 | n => n⟩
theorem lays161 : Go.Proofs.Lays.n161 Tryz.prog ren := {
  mixed := by kernel_rfl
  f119 := Tryz.func215.trans (congrArg some (by kernel_rfl))
  f137 := Tryz.func214.trans (congrArg some (by kernel_rfl))
  f151 := Tryz.func212.trans (congrArg some (by kernel_rfl))
  f152 := Tryz.func213.trans (congrArg some (by kernel_rfl))
  f161 := Tryz.func202.trans (congrArg some (by kernel_rfl))
  f197 := Tryz.func88.trans (congrArg some (by kernel_rfl))
  f217 := Tryz.func218.trans (congrArg some (by kernel_rfl))
  f224 := Tryz.func216.trans (congrArg some (by kernel_rfl))
  f225 := Tryz.func217.trans (congrArg some (by kernel_rfl))
  f227 := Tryz.func207.trans (congrArg some (by kernel_rfl))
  f228 := Tryz.func211.trans (congrArg some (by kernel_rfl))
  f231 := Tryz.func206.trans (congrArg some (by kernel_rfl))
  f233 := Tryz.func208.trans (congrArg some (by kernel_rfl))
  f235 := Tryz.func209.trans (congrArg some (by kernel_rfl))
  f260 := Tryz.func128.trans (congrArg some (by kernel_rfl))
  f266 := Tryz.func219.trans (congrArg some (by kernel_rfl))
  t0 := Tryz.underlying0
  a0 := Tryz.isAgg0
  z0 := Tryz.sizeOf0
  v0 := Tryz.zeroValue0
  t3 := Tryz.underlying3
  a3 := Tryz.isAgg3
  z3 := Tryz.sizeOf3
  v3 := Tryz.zeroValue3
  t4 := Tryz.underlying4
  a4 := Tryz.isAgg4
  z4 := Tryz.sizeOf4
  v4 := Tryz.zeroValue4
  t5 := Tryz.underlying5
  a5 := Tryz.isAgg5
  z5 := Tryz.sizeOf5
  v5 := Tryz.zeroValue5
  t9 := Tryz.underlying9
  a9 := Tryz.isAgg9
  z9 := Tryz.sizeOf9
  v9 := Tryz.zeroValue9
  t21 := Tryz.underlying21
  a21 := Tryz.isAgg21
  z21 := Tryz.sizeOf21
  v21 := Tryz.zeroValue21
  t46 := Tryz.underlying180
  a46 := Tryz.isAgg180
  z46 := Tryz.sizeOf180
  v46 := Tryz.zeroValue180
  t105 := Tryz.underlying127
  a105 := Tryz.isAgg127
  z105 := Tryz.sizeOf127
  v105 := Tryz.zeroValue127
  t116 := Tryz.underlying229
  a116 := Tryz.isAgg229
  z116 := Tryz.sizeOf229
  t117 := Tryz.underlying230
  a117 := Tryz.isAgg230
  z117 := Tryz.sizeOf230
  v117 := Tryz.zeroValue230
  t119 := Tryz.underlying179
  a119 := Tryz.isAgg179
  z119 := Tryz.sizeOf179
  t124 := Tryz.underlying233
  a124 := Tryz.isAgg233
  z124 := Tryz.sizeOf233
  v124 := Tryz.zeroValue233
  t138 := Tryz.underlying182
  a138 := Tryz.isAgg182
  z138 := Tryz.sizeOf182
  v138 := Tryz.zeroValue182
  t139 := Tryz.underlying183
  a139 := Tryz.isAgg183
  z139 := Tryz.sizeOf183
  v139 := Tryz.zeroValue183
  g3 := by kernel_rfl
  g4 := by kernel_rfl }
theorem lays166 : Go.Proofs.Lays.n166 Tryz.prog ren := {
  mixed := by kernel_rfl
  f166 := Tryz.func18.trans (congrArg some (by kernel_rfl))
  f240 := Tryz.func42.trans (congrArg some (by kernel_rfl))
  f276 := Tryz.func71.trans (congrArg some (by kernel_rfl))
  t0 := Tryz.underlying0
  a0 := Tryz.isAgg0
  z0 := Tryz.sizeOf0
  v0 := Tryz.zeroValue0
  t3 := Tryz.underlying3
  a3 := Tryz.isAgg3
  z3 := Tryz.sizeOf3
  v3 := Tryz.zeroValue3
  t4 := Tryz.underlying4
  a4 := Tryz.isAgg4
  z4 := Tryz.sizeOf4
  v4 := Tryz.zeroValue4
  t9 := Tryz.underlying9
  a9 := Tryz.isAgg9
  z9 := Tryz.sizeOf9
  v9 := Tryz.zeroValue9
  t20 := Tryz.underlying20
  a20 := Tryz.isAgg20
  z20 := Tryz.sizeOf20
  v20 := Tryz.zeroValue20
  t37 := Tryz.underlying44
  a37 := Tryz.isAgg44
  z37 := Tryz.sizeOf44
  v37 := Tryz.zeroValue44
  t70 := Tryz.underlying43
  a70 := Tryz.isAgg43
  z70 := Tryz.sizeOf43
  v70 := Tryz.zeroValue43
  t72 := Tryz.underlying46
  a72 := Tryz.isAgg46
  z72 := Tryz.sizeOf46
  v72 := Tryz.zeroValue46
  t75 := Tryz.underlying48
  a75 := Tryz.isAgg48
  z75 := Tryz.sizeOf48
  v75 := Tryz.zeroValue48
  t164 := Tryz.underlying114
  a164 := Tryz.isAgg114
  z164 := Tryz.sizeOf114
  v164 := Tryz.zeroValue114 }
theorem lays167 : Go.Proofs.Lays.n167 Tryz.prog ren := {
  mixed := by kernel_rfl
  f167 := Tryz.func172.trans (congrArg some (by kernel_rfl))
  f240 := Tryz.func42.trans (congrArg some (by kernel_rfl))
  f276 := Tryz.func71.trans (congrArg some (by kernel_rfl))
  t0 := Tryz.underlying0
  a0 := Tryz.isAgg0
  z0 := Tryz.sizeOf0
  v0 := Tryz.zeroValue0
  t4 := Tryz.underlying4
  a4 := Tryz.isAgg4
  z4 := Tryz.sizeOf4
  v4 := Tryz.zeroValue4
  t5 := Tryz.underlying5
  a5 := Tryz.isAgg5
  z5 := Tryz.sizeOf5
  v5 := Tryz.zeroValue5
  t9 := Tryz.underlying9
  a9 := Tryz.isAgg9
  z9 := Tryz.sizeOf9
  v9 := Tryz.zeroValue9
  t20 := Tryz.underlying20
  a20 := Tryz.isAgg20
  z20 := Tryz.sizeOf20
  v20 := Tryz.zeroValue20
  t37 := Tryz.underlying44
  a37 := Tryz.isAgg44
  z37 := Tryz.sizeOf44
  v37 := Tryz.zeroValue44
  t70 := Tryz.underlying43
  a70 := Tryz.isAgg43
  z70 := Tryz.sizeOf43
  v70 := Tryz.zeroValue43
  t72 := Tryz.underlying46
  a72 := Tryz.isAgg46
  z72 := Tryz.sizeOf46
  v72 := Tryz.zeroValue46
  t75 := Tryz.underlying48
  a75 := Tryz.isAgg48
  z75 := Tryz.sizeOf48
  v75 := Tryz.zeroValue48
  t164 := Tryz.underlying114
  a164 := Tryz.isAgg114
  z164 := Tryz.sizeOf114
  v164 := Tryz.zeroValue114 }
theorem lays169 : Go.Proofs.Lays.n169 Tryz.prog ren := {
  mixed := by kernel_rfl
  f169 := Tryz.func22.trans (congrArg some (by kernel_rfl))
  t0 := Tryz.underlying0
  a0 := Tryz.isAgg0
  z0 := Tryz.sizeOf0
  v0 := Tryz.zeroValue0
  t3 := Tryz.underlying3
  a3 := Tryz.isAgg3
  z3 := Tryz.sizeOf3
  v3 := Tryz.zeroValue3
  t9 := Tryz.underlying9
  a9 := Tryz.isAgg9
  z9 := Tryz.sizeOf9
  v9 := Tryz.zeroValue9
  t37 := Tryz.underlying44
  a37 := Tryz.isAgg44
  z37 := Tryz.sizeOf44
  v37 := Tryz.zeroValue44
  t70 := Tryz.underlying43
  a70 := Tryz.isAgg43
  z70 := Tryz.sizeOf43
  v70 := Tryz.zeroValue43
  t72 := Tryz.underlying46
  a72 := Tryz.isAgg46
  z72 := Tryz.sizeOf46
  v72 := Tryz.zeroValue46
  t127 := Tryz.underlying93
  a127 := Tryz.isAgg93
  z127 := Tryz.sizeOf93
  v127 := Tryz.zeroValue93 }
theorem laysM171 : Go.Proofs.LaysM.n171 Tryz.prog ren := {
  mixed := by kernel_rfl
  f129 := Tryz.func174.trans (congrArg some (by kernel_rfl))
  f171 := Tryz.func44.trans (congrArg some (by kernel_rfl))
  f243 := Tryz.func74.trans (congrArg some (by kernel_rfl))
  f246 := Tryz.func113.trans (congrArg some (by kernel_rfl))
  f283 := Tryz.func147.trans (congrArg some (by kernel_rfl))
  f284 := Tryz.func148.trans (congrArg some (by kernel_rfl))
  f285 := Tryz.func149.trans (congrArg some (by kernel_rfl))
  f286 := Tryz.func150.trans (congrArg some (by kernel_rfl))
  f317 := Tryz.func173.trans (congrArg some (by kernel_rfl))
  f318 := Tryz.func175.trans (congrArg some (by kernel_rfl))
  f319 := Tryz.func176.trans (congrArg some (by kernel_rfl))
  f320 := Tryz.func177.trans (congrArg some (by kernel_rfl))
  f337 := Tryz.func191.trans (congrArg some (by kernel_rfl))
  f338 := Tryz.func192.trans (congrArg some (by kernel_rfl))
  t0 := Tryz.underlying0
  a0 := Tryz.isAgg0
  z0 := Tryz.sizeOf0
  v0 := Tryz.zeroValue0
  t2 := Tryz.underlying2
  a2 := Tryz.isAgg2
  z2 := Tryz.sizeOf2
  v2 := Tryz.zeroValue2
  t3 := Tryz.underlying3
  a3 := Tryz.isAgg3
  z3 := Tryz.sizeOf3
  v3 := Tryz.zeroValue3
  t4 := Tryz.underlying4
  a4 := Tryz.isAgg4
  z4 := Tryz.sizeOf4
  v4 := Tryz.zeroValue4
  t5 := Tryz.underlying5
  a5 := Tryz.isAgg5
  z5 := Tryz.sizeOf5
  v5 := Tryz.zeroValue5
  t9 := Tryz.underlying9
  a9 := Tryz.isAgg9
  z9 := Tryz.sizeOf9
  v9 := Tryz.zeroValue9
  t20 := Tryz.underlying20
  a20 := Tryz.isAgg20
  z20 := Tryz.sizeOf20
  v20 := Tryz.zeroValue20
  t37 := Tryz.underlying44
  a37 := Tryz.isAgg44
  z37 := Tryz.sizeOf44
  v37 := Tryz.zeroValue44
  t46 := Tryz.underlying180
  a46 := Tryz.isAgg180
  z46 := Tryz.sizeOf180
  v46 := Tryz.zeroValue180
  t51 := Tryz.underlying192
  a51 := Tryz.isAgg192
  z51 := Tryz.sizeOf192
  v51 := Tryz.zeroValue192
  t53 := Tryz.underlying168
  a53 := Tryz.isAgg168
  z53 := Tryz.sizeOf168
  v53 := Tryz.zeroValue168
  t171 := Tryz.underlying167
  a171 := Tryz.isAgg167
  z171 := Tryz.sizeOf167
  v171 := Tryz.zeroValue167
  t173 := Tryz.underlying171
  a173 := Tryz.isAgg171
  z173 := Tryz.sizeOf171
  v173 := Tryz.zeroValue171
  t212 := Tryz.underlying191
  a212 := Tryz.isAgg191
  z212 := Tryz.sizeOf191
  v212 := Tryz.zeroValue191
  t213 := Tryz.underlying193
  a213 := Tryz.isAgg193
  z213 := Tryz.sizeOf193
  t232 := Tryz.underlying217
  a232 := Tryz.isAgg217
  z232 := Tryz.sizeOf217
  v232 := Tryz.zeroValue217
  t233 := Tryz.underlying218
  a233 := Tryz.isAgg218
  z233 := Tryz.sizeOf218
  v233 := Tryz.zeroValue218
  g17 := by kernel_rfl
  g18 := by kernel_rfl
  g19 := by kernel_rfl
  i0 := by kernel_rfl
  i2 := by kernel_rfl
  i3 := by kernel_rfl
  i4 := by kernel_rfl
  i5 := by kernel_rfl
  i9 := by kernel_rfl
  i20 := by kernel_rfl
  i37 := by kernel_rfl
  i46 := by kernel_rfl
  i51 := by kernel_rfl
  i53 := by kernel_rfl
  i171 := by kernel_rfl
  i173 := by kernel_rfl
  i212 := by kernel_rfl
  i232 := by kernel_rfl
  i233 := by kernel_rfl
  m17 := by kernel_rfl
  m18 := by kernel_rfl
  m19 := by kernel_rfl }
theorem laysC172 : Go.Proofs.LaysC.n172 Tryz.prog ren := {
  mixed := by kernel_rfl
  f129 := Tryz.func174.trans (congrArg some (by kernel_rfl))
  f171 := Tryz.func44.trans (congrArg some (by kernel_rfl))
  f172 := Tryz.func133.trans (congrArg some (by kernel_rfl))
  f205 := Tryz.func194.trans (congrArg some (by kernel_rfl))
  f243 := Tryz.func74.trans (congrArg some (by kernel_rfl))
  f244 := Tryz.func162.trans (congrArg some (by kernel_rfl))
  f245 := Tryz.func163.trans (congrArg some (by kernel_rfl))
  f246 := Tryz.func113.trans (congrArg some (by kernel_rfl))
  f247 := Tryz.func181.trans (congrArg some (by kernel_rfl))
  f279 := Tryz.func182.trans (congrArg some (by kernel_rfl))
  f280 := Tryz.func183.trans (congrArg some (by kernel_rfl))
  f281 := Tryz.func184.trans (congrArg some (by kernel_rfl))
  f282 := Tryz.func185.trans (congrArg some (by kernel_rfl))
  f283 := Tryz.func147.trans (congrArg some (by kernel_rfl))
  f284 := Tryz.func148.trans (congrArg some (by kernel_rfl))
  f285 := Tryz.func149.trans (congrArg some (by kernel_rfl))
  f286 := Tryz.func150.trans (congrArg some (by kernel_rfl))
  f287 := Tryz.func193.trans (congrArg some (by kernel_rfl))
  f316 := Tryz.func132.trans (congrArg some (by kernel_rfl))
  f317 := Tryz.func173.trans (congrArg some (by kernel_rfl))
  f318 := Tryz.func175.trans (congrArg some (by kernel_rfl))
  f319 := Tryz.func176.trans (congrArg some (by kernel_rfl))
  f320 := Tryz.func177.trans (congrArg some (by kernel_rfl))
  f321 := Tryz.func200.trans (congrArg some (by kernel_rfl))
  f322 := Tryz.func201.trans (congrArg some (by kernel_rfl))
  f337 := Tryz.func191.trans (congrArg some (by kernel_rfl))
  f338 := Tryz.func192.trans (congrArg some (by kernel_rfl))
  t0 := Tryz.underlying0
  a0 := Tryz.isAgg0
  z0 := Tryz.sizeOf0
  v0 := Tryz.zeroValue0
  t2 := Tryz.underlying2
  a2 := Tryz.isAgg2
  z2 := Tryz.sizeOf2
  v2 := Tryz.zeroValue2
  t3 := Tryz.underlying3
  a3 := Tryz.isAgg3
  z3 := Tryz.sizeOf3
  v3 := Tryz.zeroValue3
  t4 := Tryz.underlying4
  a4 := Tryz.isAgg4
  z4 := Tryz.sizeOf4
  v4 := Tryz.zeroValue4
  t5 := Tryz.underlying5
  a5 := Tryz.isAgg5
  z5 := Tryz.sizeOf5
  v5 := Tryz.zeroValue5
  t9 := Tryz.underlying9
  a9 := Tryz.isAgg9
  z9 := Tryz.sizeOf9
  v9 := Tryz.zeroValue9
  t20 := Tryz.underlying20
  a20 := Tryz.isAgg20
  z20 := Tryz.sizeOf20
  v20 := Tryz.zeroValue20
  t21 := Tryz.underlying21
  a21 := Tryz.isAgg21
  z21 := Tryz.sizeOf21
  v21 := Tryz.zeroValue21
  t37 := Tryz.underlying44
  a37 := Tryz.isAgg44
  z37 := Tryz.sizeOf44
  v37 := Tryz.zeroValue44
  t46 := Tryz.underlying180
  a46 := Tryz.isAgg180
  z46 := Tryz.sizeOf180
  v46 := Tryz.zeroValue180
  t51 := Tryz.underlying192
  a51 := Tryz.isAgg192
  z51 := Tryz.sizeOf192
  v51 := Tryz.zeroValue192
  t53 := Tryz.underlying168
  a53 := Tryz.isAgg168
  z53 := Tryz.sizeOf168
  v53 := Tryz.zeroValue168
  t75 := Tryz.underlying48
  a75 := Tryz.isAgg48
  z75 := Tryz.sizeOf48
  v75 := Tryz.zeroValue48
  t76 := Tryz.underlying49
  a76 := Tryz.isAgg49
  z76 := Tryz.sizeOf49
  v76 := Tryz.zeroValue49
  t85 := Tryz.underlying197
  a85 := Tryz.isAgg197
  z85 := Tryz.sizeOf197
  v85 := Tryz.zeroValue197
  t127 := Tryz.underlying93
  a127 := Tryz.isAgg93
  z127 := Tryz.sizeOf93
  v127 := Tryz.zeroValue93
  t143 := Tryz.underlying220
  a143 := Tryz.isAgg220
  z143 := Tryz.sizeOf220
  v143 := Tryz.zeroValue220
  t145 := Tryz.underlying222
  a145 := Tryz.isAgg222
  z145 := Tryz.sizeOf222
  v145 := Tryz.zeroValue222
  t167 := Tryz.underlying196
  a167 := Tryz.isAgg196
  z167 := Tryz.sizeOf196
  v167 := Tryz.zeroValue196
  t168 := Tryz.underlying199
  a168 := Tryz.isAgg199
  z168 := Tryz.sizeOf199
  v168 := Tryz.zeroValue199
  t171 := Tryz.underlying167
  a171 := Tryz.isAgg167
  z171 := Tryz.sizeOf167
  v171 := Tryz.zeroValue167
  t173 := Tryz.underlying171
  a173 := Tryz.isAgg171
  z173 := Tryz.sizeOf171
  v173 := Tryz.zeroValue171
  t175 := Tryz.underlying205
  a175 := Tryz.isAgg205
  z175 := Tryz.sizeOf205
  v175 := Tryz.zeroValue205
  t210 := Tryz.underlying208
  a210 := Tryz.isAgg208
  z210 := Tryz.sizeOf208
  v210 := Tryz.zeroValue208
  t212 := Tryz.underlying191
  a212 := Tryz.isAgg191
  z212 := Tryz.sizeOf191
  v212 := Tryz.zeroValue191
  t213 := Tryz.underlying193
  a213 := Tryz.isAgg193
  z213 := Tryz.sizeOf193
  t232 := Tryz.underlying217
  a232 := Tryz.isAgg217
  z232 := Tryz.sizeOf217
  v232 := Tryz.zeroValue217
  t233 := Tryz.underlying218
  a233 := Tryz.isAgg218
  z233 := Tryz.sizeOf218
  v233 := Tryz.zeroValue218
  g15 := by kernel_rfl
  g16 := by kernel_rfl
  g17 := by kernel_rfl
  g18 := by kernel_rfl
  g19 := by kernel_rfl
  t80 := Tryz.underlying58
  a80 := Tryz.isAgg58
  z80 := Tryz.sizeOf58
  v80 := Tryz.zeroValue58
  i0 := by kernel_rfl
  i2 := by kernel_rfl
  i3 := by kernel_rfl
  i4 := by kernel_rfl
  i5 := by kernel_rfl
  i9 := by kernel_rfl
  i20 := by kernel_rfl
  i21 := by kernel_rfl
  i37 := by kernel_rfl
  i46 := by kernel_rfl
  i51 := by kernel_rfl
  i53 := by kernel_rfl
  i75 := by kernel_rfl
  i76 := by kernel_rfl
  i80 := by kernel_rfl
  i85 := by kernel_rfl
  i127 := by kernel_rfl
  i143 := by kernel_rfl
  i145 := by kernel_rfl
  i167 := by kernel_rfl
  i168 := by kernel_rfl
  i171 := by kernel_rfl
  i173 := by kernel_rfl
  i175 := by kernel_rfl
  i210 := by kernel_rfl
  i212 := by kernel_rfl
  i232 := by kernel_rfl
  i233 := by kernel_rfl
  m15 := by kernel_rfl
  m16 := by kernel_rfl
  m17 := by kernel_rfl
  m18 := by kernel_rfl
  m19 := by kernel_rfl
  c0 := by kernel_rfl
  c2 := by kernel_rfl
  c3 := by kernel_rfl
  c4 := by kernel_rfl
  c5 := by kernel_rfl
  c9 := by kernel_rfl
  c20 := by kernel_rfl
  c21 := by kernel_rfl
  c37 := by kernel_rfl
  c46 := by kernel_rfl
  c51 := by kernel_rfl
  c53 := by kernel_rfl
  c75 := by kernel_rfl
  c76 := by kernel_rfl
  c80 := by kernel_rfl
  c85 := by kernel_rfl
  c127 := by kernel_rfl
  c143 := by kernel_rfl
  c145 := by kernel_rfl
  c167 := by kernel_rfl
  c168 := by kernel_rfl
  c171 := by kernel_rfl
  c173 := by kernel_rfl
  c175 := by kernel_rfl
  c210 := by kernel_rfl
  c212 := by kernel_rfl
  c213 := by kernel_rfl
  c232 := by kernel_rfl
  c233 := by kernel_rfl }
theorem extra : Builder.Extra Tryz.prog ren := {
  sizeBuilder := by kernel_rfl
  liesBuilder := by kernel_rfl
  t5 := Tryz.underlying5
  a5 := Tryz.isAgg5
  z5 := Tryz.sizeOf5
  v5 := Tryz.zeroValue5
  infoByte := by kernel_rfl
  cellsByte := by kernel_rfl
  sizeByte := by kernel_rfl
  neB5 := by decide }
def BldR (w : World) (B b : Nat) (l : List UInt8) (w' : World) : Prop := Lib.IsBuilderF 46 5 B b (Lib.byteCells l) w' ∧ Below B w w' ∧ B ≤ w'.heap.size
abbrev Kept (b : Nat) (w w' : World) : Prop := Lib.OthersKept 5 (some b) w w'
theorem bldR_new (w w1 : World) (hb : Below w.heap.size w w1) (n : Nat) (hn : n = w1.heap.size) : BldR w w.heap.size n [] (w1.alloc (.cells #[.pointer none, .slice none 0 0] 46)) := by
  subst hn
  have h := Lib.fresh_isBuilder 46 5 w1
  have hs := hb.size
  refine ⟨Lib.IsBuilderF.of ?_, hb.alloc hs _, by simp; omega⟩
  rcases h with ⟨_, h⟩ | ⟨_, h⟩
  · obtain ⟨v, h1, h2, h3⟩ := h
    refine .inl ⟨hs, v, h1, ?_, h3⟩
    rcases h2.2 with h4 | ⟨g, cap, cur, h4, h5, h6⟩
    · exact ⟨h2.1, .inl h4⟩
    · exact ⟨h2.1, .inr ⟨g, cap, cur, h4, Nat.le_trans hs h5, h6⟩⟩
  · obtain ⟨v, h1, h2, h3⟩ := h
    refine .inr ⟨hs, v, h1, ?_, h3⟩
    rcases h2.2 with h4 | ⟨g, cap, cur, h4, h5, h6⟩
    · exact ⟨h2.1, .inl h4⟩
    · exact ⟨h2.1, .inr ⟨g, cap, cur, h4, Nat.le_trans hs h5, h6⟩⟩
theorem BldR.alloc {w w1 : World} {B b : Nat} {l : List UInt8} (h : BldR w B b l w1) (o : Obj) : BldR w B b l (w1.alloc o) :=
  ⟨h.1.alloc o, h.2.1.alloc h.2.2 o, by simp; have := h.2.2; omega⟩
theorem atF_below {T e : TypeId} {B b : Nat} {p : Value} {bs : List Value} {w w' : World} (h : Lib.BuilderAtF T e B b p bs w) (hb : Below w.heap.size w w') : Lib.BuilderAtF T e B b p bs w' := by
  obtain ⟨hB, v, hbk, hown, hne⟩ := h
  refine ⟨hB, v, ?_, hown.kept (grown_of_below hb none) ?_, hne⟩
  · rw [hb.block _ (Array.getElem?_eq_some_iff.1 hbk).1]; exact hbk
  · cases hv : v.ownBlock with
    | none => exact .inl rfl
    | some k => exact .inr (fun h => by cases h)
theorem BldR.below {w w1 w2 : World} {B b : Nat} {l : List UInt8} (h : BldR w B b l w1) (hb : Below w1.heap.size w1 w2) : BldR w B b l w2 :=
  ⟨h.1.elim (fun x => .inl (atF_below x hb)) (fun x => .inr (atF_below x hb)), h.2.1.trans (hb.mono h.2.2), Nat.le_trans h.2.2 hb.size⟩
theorem writeByte_r (w w1 : World) (B b : Nat) (l : List UInt8) (z : Int) (c : UInt8) (hz : z = (c.toNat : Int)) (h : BldR w B b l w1) (hl : l.length < 140737488355328) :
    Calls Tryz.prog 172 #[.pointer (some ⟨b, 0, none⟩), .int .u8 z] w1 fun e w' => e = .returned .nilIface ∧ BldR w B b (l ++ [c]) w' ∧ Kept b w1 w' := by
  subst hz
  refine (Any.Builder_WriteByte_k lays167 extra B b _ (c.toNat : Int) w1 h.1 (by rw [Lib.byteCells_length]; omega) h.2.2).mono ?_
  rintro e w' ⟨rfl, h1, h2, h3⟩
  exact ⟨rfl, ⟨by rw [Lib.byteCells_append]; exact .inr h1, h.2.1.trans h2, Nat.le_trans h.2.2 h2.size⟩, h3⟩
theorem writeString_r (w w1 : World) (B b : Nat) (l : List UInt8) (s : ByteArray) (h : BldR w B b l w1) (hl : l.length + s.size ≤ 140737488355328) :
    Calls Tryz.prog 18 #[.pointer (some ⟨b, 0, none⟩), .string s] w1 fun e w' => e = .returned (.tuple #[.int .i64 s.size, .nilIface]) ∧ BldR w B b (l ++ s.data.toList) w' ∧ Kept b w1 w' := by
  refine (Any.Builder_WriteString_k lays166 extra B b _ s w1 h.1 (by rw [Lib.byteCells_length]; omega) h.2.2).mono ?_
  rintro e w' ⟨rfl, h1, h2, h3⟩
  exact ⟨rfl, ⟨by rw [Lib.byteCells_append]; exact .inr h1, h.2.1.trans h2, Nat.le_trans h.2.2 h2.size⟩, h3⟩
theorem string_r (w w1 : World) (B b : Nat) (l : List UInt8) (h : BldR w B b l w1) :
    Calls Tryz.prog 22 #[.pointer (some ⟨b, 0, none⟩)] w1 fun e w' => e = .returned (.string ⟨l.toArray⟩) ∧ Below B w w' := by
  refine (Any.Builder_String_any_k lays169 extra B b l w1 h.1 h.2.2).mono ?_
  rintro e w' ⟨rfl, _, h2, _⟩
  exact ⟨rfl, h.2.1.trans h2⟩
def ten : ByteArray := ⟨#[48, 49, 50, 51, 52, 53, 54, 55, 56, 57]⟩
theorem trim_any (s : ByteArray) (w : World) :
    Calls Tryz.prog 202 #[.string s, .string ⟨#[48, 49, 50, 51, 52, 53, 54, 55, 56, 57]⟩] w fun e w' => e = .returned (.string ⟨(Lib.trimLeftS s.data.toList [48, 49, 50, 51, 52, 53, 54, 55, 56, 57]).toArray⟩) ∧ Below w.heap.size w w' :=
  Any.strings_TrimLeft_laid lays161 (by kernel_rfl) s ten w (by decide) (ascii_of_all (by decide))
def ErrAt (g : Nat) (w : World) : Prop := ∃ ev, w.cell? ⟨g, 0, none⟩ = some ev ∧ (ev = .nilIface ∨ ∃ te pe, ev = .iface te pe)
theorem ErrAt.later {g : Nat} {w w' : World} (h : ErrAt g w) (hb : Below w.heap.size w w') : ErrAt g w' := by
  obtain ⟨ev, h1, h2⟩ := h
  exact ⟨ev, cell_below h1 hb, h2⟩
structure UnitsAt (w : World) : Prop where
  c0 : w.cell? ⟨7, 0, none⟩ = some (.int .u8 100)
  c1 : w.cell? ⟨7, 1, none⟩ = some (.int .i64 86400)
  c2 : w.cell? ⟨7, 2, none⟩ = some (.int .u8 104)
  c3 : w.cell? ⟨7, 3, none⟩ = some (.int .i64 3600)
  c4 : w.cell? ⟨7, 4, none⟩ = some (.int .u8 109)
  c5 : w.cell? ⟨7, 5, none⟩ = some (.int .i64 60)
  c6 : w.cell? ⟨7, 6, none⟩ = some (.int .u8 115)
  c7 : w.cell? ⟨7, 7, none⟩ = some (.int .i64 1)
theorem UnitsAt.later {w w' : World} (h : UnitsAt w) (hb : Below w.heap.size w w') : UnitsAt w' :=
  ⟨cell_below h.c0 hb, cell_below h.c1 hb, cell_below h.c2 hb, cell_below h.c3 hb, cell_below h.c4 hb, cell_below h.c5 hb, cell_below h.c6 hb, cell_below h.c7 hb⟩
def Tb (w : World) : Prop :=
  Lib.TabIs Tryz.prog w "internal/strconv.uint64pow10" .u64 Lib.pow10Tab ∧ ErrAt 5 w ∧ UnitsAt w
theorem g_pow : Tryz.prog.globalNamed "internal/strconv.uint64pow10" = some 4 := by kernel_rfl
theorem Tb.later {w w' : World} (h : Tb w) (hb : Below w.heap.size w w') : Tb w' :=
  ⟨Joins.tab_stays g_pow h.1 hb (Nat.le_refl _), h.2.1.later hb, h.2.2.later hb⟩
theorem itoa_any (n : Int) (h0 : -9223372036854775808 ≤ n) (h1 : n ≤ 9223372036854775807) (w : World) (hT : Tb w) :
    Calls Tryz.prog 44 #[.int .i64 n] w fun e w' => e = .returned (.string ⟨(Lib.itoa n).toArray⟩) ∧ Below w.heap.size w w' := by
  refine (Any.strconv_Itoa laysM171 n h0 h1 w hT.1).mono ?_
  rintro e w' ⟨rfl, k, os, rfl⟩
  exact ⟨rfl, Lib.below_grow _ _ (Nat.le_refl _) k os⟩
theorem atoi_ok (s : ByteArray) (hs : s.size ≤ 1000000) (v : Int) (h : Lib.atoiAll s.data.toList = .ok v) (w : World) :
    Calls Tryz.prog 133 #[.string s] w fun e w' => e = .returned (.tuple #[.int .i64 v, .nilIface]) ∧ Below w.heap.size w w' := by
  refine (Any.strconv_Atoi_ok laysC172 s (by omega) v h w).mono ?_
  rintro e w' ⟨rfl, rfl | ⟨t, rfl⟩⟩
  · exact ⟨rfl, Below.refl _ _⟩
  · exact ⟨rfl, Lib.bytesWorld_below _ _ _⟩
theorem atoi_none (s : ByteArray) (hs : s.size = 0) (w : World) (hT : Tb w) :
    Calls Tryz.prog 133 #[.string s] w fun e w' => ∃ N, e = .returned (.tuple #[.int .i64 0, .iface 199 (.pointer (some ⟨N, 0, none⟩))]) ∧ Below w.heap.size w w' := by
  obtain ⟨ev, h1, h2⟩ := hT.2.1
  have hl : s.data.toList = [] := List.eq_nil_of_length_eq_zero (by rw [← Lib.size_eq]; exact hs)
  refine (Any.strconv_Atoi_syntax laysC172 s (by omega) (by rw [hl]; rfl) ev w h1 h2).mono ?_
  rintro e w' ⟨N, rfl, _, _, hb⟩
  exact ⟨N, rfl, hb⟩
end Go.Proofs.YtdkngidangfkiaaGreatDoor.HoursLib
namespace Go.Proofs.YtdkngidangfkiaaGreatDoor.Sat
open Go.RowKit
open Base
set_option linter.unusedVariables false
theorem ret_pair {a b : Int} {c d : Bool} (h : a = b) (h' : c = d) : Ending.returned (.tuple #[.int .i64 a, .bool c]) = .returned (.tuple #[.int .i64 b, .bool d]) := by rw [h, h']
abbrev iV : Int → Value := Value.int .i64
set_option maxHeartbeats 400000 in
theorem within_any (n m : Int) (w : World) :
    Calls Tryz.prog 210 #[.int .i64 n, .int .i64 m] w fun e w' => e = .returned (.int .i64 (cl n m)) ∧ w = w' := by
  by_cases h0 : n < 0
  · have hc := Lib.hid (cl_neg n m h0)
    go_enter Tryz.func210, Tryz.ntmps210
    go_wp2
    go_ret
    exact ⟨ret_int hc.out.symm, rfl⟩
  · by_cases h1 : m < n
    · have hc : Hid (cl n m = m) := Lib.hid (by unfold cl; rw [if_neg h0, if_pos h1])
      go_enter Tryz.func210, Tryz.ntmps210
      go_wp2
      go_ret
      exact ⟨ret_int hc.out.symm, rfl⟩
    · have hc : Hid (cl n m = n) := Lib.hid (by unfold cl; rw [if_neg h0, if_neg h1])
      go_enter Tryz.func210, Tryz.ntmps210
      go_wp2
      go_ret
      exact ⟨ret_int hc.out.symm, rfl⟩
set_option maxHeartbeats 400000 in
theorem together_cells (m : Int) (hm : 0 ≤ m) (hm2 : m ≤ 1000000000000) (b off cap : Nat) (zs : List Int) (w : World) (hl : zs.length ≤ 9223372036854775807)
    (hc : ∀ j (h : j < zs.length), w.cell? ⟨b, off + j, none⟩ = some (.int .i64 zs[j])) :
    Calls Tryz.prog 203 #[.int .i64 m, .slice (some ⟨b, off, none⟩) zs.length cap] w
      fun e w' => e = .returned (.tuple #[.int .i64 (add m zs), .bool (over m zs)]) ∧ w = w' := by
  have HC := Lib.hid hc
  clear hc
  go_enter Tryz.func203, Tryz.ntmps203
  go_wp2
  go_loop [6, 11] (fun s i => ∃ k : Nat, k ≤ zs.length ∧ i = .int .i64 k ∧ s = .int .i64 (tot m (zs.take k)) ∧ tot m (zs.take k) ≤ m) (fun _ i => zs.length - (intOf i).toNat)
  case atStart => exact ⟨0, Nat.zero_le _, rfl, by simp [tot], by simpa [tot] using hm⟩
  case round =>
    obtain ⟨k, hk, rfl, rfl, hb⟩ := hrel
    have h0 := tot_nonneg m hm (zs.take k)
    by_cases hlt : k < zs.length
    · have hcell := HC.out k hlt
      have hz := cl_bd zs[k] m hm
      have HS := Lib.hid (tot_take_succ m zs k hlt)
      have hT := tot_take_le m hm zs (k + 1)
      by_cases hov : m - tot m (zs.take k) < cl zs[k] m
      · have H1 : Hid (m = add m zs) := Lib.hid (by unfold add; rw [if_pos]; have := HS.out; omega)
        have H2 : Hid (true = over m zs) := Lib.hid (by unfold over; have := HS.out; symm; rw [decide_eq_true_eq]; omega)
        clear hT
        go_wp2_with (go_at_call 210; refine (within_any _ _ _).mono ?_; rintro e w' ⟨rfl, rfl⟩)
        go_ret2
        exact ⟨ret_pair H1.out H2.out, rfl⟩
      · have hT2 : tot m (zs.take k) + cl zs[k] m ≤ 1000000000000 := by omega
        clear hT
        go_wp2_with (go_at_call 210; refine (within_any _ _ _).mono ?_; rintro e w' ⟨rfl, rfl⟩)
        go_round
        case rel => exact ⟨k + 1, by omega, by go_num, by rw [HS.out], by rw [HS.out]; omega⟩
        case measure => simp [intOf]; omega
    · have hfull : Hid (tot m (zs.take k) = tot m zs) := Lib.hid (by rw [List.take_of_length_le (by omega)])
      go_wp2
      go_ret2
      refine ⟨ret_pair ?_ ?_, rfl⟩
      · unfold add; rw [if_neg]
        · exact hfull.out
        · have := hfull.out; omega
      · unfold over; symm; rw [decide_eq_false_iff_not]; have := hfull.out; omega
set_option maxHeartbeats 400000 in
theorem together_empty (m : Int) (hm : 0 ≤ m) (a : Option Addr) (cap : Nat) (w : World) :
    Calls Tryz.prog 203 #[.int .i64 m, .slice a 0 cap] w
      fun e w' => e = .returned (.tuple #[.int .i64 0, .bool false]) ∧ w = w' := by
  go_enter Tryz.func203, Tryz.ntmps203
  go_wp2
  refine wp_loop_rounds 1 ?_
  rw [rounds_succ]
  go_wp2
  go_ret2
  exact ⟨rfl, rfl⟩
theorem together_any (m : Int) (hm : 0 ≤ m) (hm2 : m ≤ 1000000000000) (a : Option Addr) (len cap : Nat) (zs : List Int) (w : World) (hlen : zs.length = len) (hl : len ≤ 9223372036854775807) (hr : Reads iV w a zs) :
    Calls Tryz.prog 203 #[.int .i64 m, .slice a len cap] w
      fun e w' => e = .returned (.tuple #[.int .i64 (add m zs), .bool (over m zs)]) ∧ w = w' := by
  subst hlen
  rcases hr with rfl | ⟨b, off, rfl, hc⟩
  · refine (together_empty m hm a cap w).mono fun e w' ⟨he, hw⟩ => ⟨?_, hw⟩
    rw [he]
    refine ret_pair ?_ ?_
    · unfold add; rw [if_neg] <;> simp [tot]; omega
    · unfold over; simp [tot]; omega
  · exact together_cells m hm hm2 b off cap zs w hl hc
set_option maxHeartbeats 400000 in
theorem time_any (n : Int) (w : World) :
    Calls Tryz.prog 205 #[.int .i64 n] w fun e w' => e = .returned (.int .i64 (cl n 1000000)) ∧ w = w' := by
  go_enter Tryz.func205, Tryz.ntmps205
  go_wp2_with (go_at_call 210; refine (within_any _ _ _).mono ?_; rintro e w' ⟨rfl, rfl⟩)
  go_ret
  exact ⟨rfl, rfl⟩
set_option maxHeartbeats 400000 in
theorem usage_any (n : Int) (w : World) :
    Calls Tryz.prog 204 #[.int .i64 n] w fun e w' => e = .returned (.int .i64 (cl n 1000000000000)) ∧ w = w' := by
  go_enter Tryz.func204, Tryz.ntmps204
  go_wp2_with (go_at_call 210; refine (within_any _ _ _).mono ?_; rintro e w' ⟨rfl, rfl⟩)
  go_ret
  exact ⟨rfl, rfl⟩
set_option maxHeartbeats 400000 in
theorem plus_any (a : Option Addr) (len cap : Nat) (zs : List Int) (w : World) (hlen : zs.length = len) (hl : len ≤ 9223372036854775807) (hr : Reads iV w a zs) :
    Calls Tryz.prog 197 #[.slice a len cap] w fun e w' => e = .returned (.int .i64 (add 1000000000000 zs)) ∧ w = w' := by
  have H := Lib.hid hlen
  have Hl := Lib.hid hl
  clear hlen hl
  go_enter Tryz.func197, Tryz.ntmps197
  go_wp2_with (go_at_call 203; refine (together_any 1000000000000 (by omega) (by omega) a len cap zs _ H.out Hl.out hr).mono ?_; rintro e w' ⟨rfl, rfl⟩)
  go_ret
  exact ⟨rfl, rfl⟩
set_option maxHeartbeats 400000 in
theorem times_any (a b : Int) (w : World) :
    Calls Tryz.prog 198 #[.int .i64 a, .int .i64 b] w fun e w' => e = .returned (.int .i64 (mulc 1000000000000 a b)) ∧ w = w' := by
  have h1 := cl_bd a 1000000000000 (by omega)
  have h2 := cl_bd b 1000000000000 (by omega)
  have h3 : 0 ≤ cl a 1000000000000 * cl b 1000000000000 := Int.mul_nonneg h1.1 h2.1
  by_cases hb : 0 < cl b 1000000000000
  · have hq := quo_gt 1000000000000 (cl a 1000000000000) (cl b 1000000000000) hb
    by_cases hov : 1000000000000 / cl b 1000000000000 < cl a 1000000000000
    · have H : Hid (1000000000000 = mulc 1000000000000 a b) := Lib.hid (by unfold mulc; rw [if_pos (hq.1 hov)])
      clear hq
      go_enter Tryz.func198, Tryz.ntmps198
      go_wp2_with (go_at_call 204; refine (usage_any _ _).mono ?_; rintro e w' ⟨rfl, rfl⟩)
      go_ret
      exact ⟨ret_int H.out, rfl⟩
    · have hle : cl a 1000000000000 * cl b 1000000000000 ≤ 1000000000000 := by
        have : ¬ (1000000000000 < cl a 1000000000000 * cl b 1000000000000) := fun h => hov (hq.2 h)
        omega
      have H : Hid (cl a 1000000000000 * cl b 1000000000000 = mulc 1000000000000 a b) := Lib.hid (by unfold mulc; rw [if_neg (by omega)])
      clear hq
      go_enter Tryz.func198, Tryz.ntmps198
      go_wp2_with (go_at_call 204; refine (usage_any _ _).mono ?_; rintro e w' ⟨rfl, rfl⟩)
      go_ret
      exact ⟨ret_int H.out, rfl⟩
  · have hz : cl b 1000000000000 = 0 := by omega
    have hle : cl a 1000000000000 * cl b 1000000000000 ≤ 1000000000000 := by rw [hz]; simp
    have H : Hid (cl a 1000000000000 * cl b 1000000000000 = mulc 1000000000000 a b) := Lib.hid (by unfold mulc; rw [if_neg (by omega)])
    clear hz
    go_enter Tryz.func198, Tryz.ntmps198
    go_wp2_with (go_at_call 204; refine (usage_any _ _).mono ?_; rintro e w' ⟨rfl, rfl⟩)
    go_ret
    exact ⟨ret_int H.out, rfl⟩
end Go.Proofs.YtdkngidangfkiaaGreatDoor.Sat
namespace Go.Proofs.YtdkngidangfkiaaGreatDoor.Hours
open Go.RowKit
open Base Sat HoursLib
set_option linter.unusedVariables false
set_option linter.unusedSimpArgs false
theorem isTime_any (n : Int) (w : World) :
    Calls Tryz.prog 199 #[.int .i64 n] w fun e w' => e = .returned (.bool (cl n 1000000 == n)) ∧ w = w' := by
  obtain ⟨C, hC⟩ : ∃ C, C = cl n 1000000 := ⟨_, rfl⟩
  have c := Lib.hid (fun w => time_any n w)
  rw [← hC] at c ⊢
  clear hC
  go_enter Tryz.func199, Tryz.ntmps199
  go_wp2_with (first | (go_at_call 205; (with_reducible refine (c.out _).mono ?_); rintro e w' ⟨rfl, rfl⟩) | fail)
  go_ret
  exact ⟨rfl, rfl⟩
def cutA (l : List UInt8) : Value := if cutOk l = true then .tuple #[.int .i64 (cutN l), .string ⟨(rst l).toArray⟩, .bool true] else .tuple #[.int .i64 0, .string ⟨#[]⟩, .bool false]
set_option maxHeartbeats 4000000 in
theorem cut_any (s : ByteArray) (hs : s.size ≤ maxLen) (w : World) (hT : Tb w) :
    Calls Tryz.prog 196 #[.string s] w fun e w' => e = .returned (cutA s.data.toList) ∧ Below w.heap.size w w' := by
  have HT := Lib.hid hT
  clear hT
  unfold maxLen at hs
  have hle := rst_le s.data.toList
  have C := Lib.hid (fun w => trim_any s w)
  have hkl : (dgs s.data.toList).length = s.data.toList.length - (rst s.data.toList).length := by unfold dgs; rw [List.length_take]; omega
  change Hid (∀ w, Calls Tryz.prog 202 #[.string s, .string ⟨#[48, 49, 50, 51, 52, 53, 54, 55, 56, 57]⟩] w fun e w' => e = .returned (.string ⟨(rst s.data.toList).toArray⟩) ∧ Below w.heap.size w w') at C
  obtain ⟨R, hR⟩ : ∃ R : ByteArray, R = ⟨(rst s.data.toList).toArray⟩ := ⟨_, rfl⟩
  have hRl : R.data.toList = rst s.data.toList := by rw [hR]
  have hRs : R.size = (rst s.data.toList).length := by rw [Lib.size_eq, hRl]
  have hsz : s.size = s.data.toList.length := Lib.size_eq s
  have hdl : (s.extract 0 (s.size - R.size)).data.toList = dgs s.data.toList := by rw [Lib.extract_data, hsz, hRs]; unfold dgs; simp
  have hds : s.size - R.size = (dgs s.data.toList).length := by omega
  have hRle : R.size ≤ s.size := by omega
  have hall := dgs_all s.data.toList
  have HA : Hid (cutA s.data.toList = if cutOk s.data.toList = true then .tuple #[.int .i64 (cutN s.data.toList), .string R, .bool true] else .tuple #[.int .i64 0, .string ⟨#[]⟩, .bool false]) := Lib.hid (by unfold cutA; rw [hR])
  rw [← hR] at C
  unfold cutOk cutN at HA
  obtain ⟨A, hA⟩ : ∃ A, A = cutA s.data.toList := ⟨_, rfl⟩
  rw [← hA] at HA ⊢
  obtain ⟨d, hd⟩ : ∃ d, d = dgs s.data.toList := ⟨_, rfl⟩
  rw [← hd] at HA hdl hds hall
  have HDl := Lib.hid hdl
  have HG : Hid (∀ h : 0 < (s.extract 0 (s.size - R.size)).size, ((s.extract 0 (s.size - R.size))[0]'h) = d.getD 0 0) := Lib.hid (by
    intro h
    rw [← hdl]
    rw [ByteArray.getElem_eq_getElem_data]
    rw [List.getD_eq_getElem?_getD, Array.getElem?_toList, Array.getElem?_eq_getElem (by simpa using h)]
    rfl)
  have AT : Hid (s.size - R.size ≤ 7 → 0 < s.size - R.size → Go.Lib.atoiAll (s.extract 0 (s.size - R.size)).data.toList = .ok (vl 0 d : Int)) := Lib.hid (fun h1 h2 => by
    rw [hdl]
    exact (atoi_dgs d hall (fun h => by rw [h] at hds; simp at hds; omega) (by omega)).1)
  clear hR hRl hRs hsz hdl hd hA hkl hle hall
  by_cases h7 : 7 < s.size - R.size
  · have HB : Hid (A = .tuple #[.int .i64 0, .string ⟨#[]⟩, .bool false]) := Lib.hid (by rw [HA.out, if_neg (by rw [decide_eq_true_eq]; rintro ⟨h, _⟩; omega)])
    clear HA hds
    go_enter Tryz.func196, Tryz.ntmps196
    go_wp2_with (first
      | (go_at_call 202; (with_reducible refine (C.out _).mono ?_); rintro e w1 ⟨rfl, p1⟩)
      | fail)
    go_ret3
    exact ⟨by rw [HB.out]; rfl, p1⟩
  · by_cases h1 : 1 < s.size - R.size
    · have HB : Hid (d.getD 0 0 = 48 → A = .tuple #[.int .i64 0, .string ⟨#[]⟩, .bool false]) := Lib.hid (fun h => by rw [HA.out, if_neg (by rw [decide_eq_true_eq]; rintro ⟨_, _, h2⟩; exact h2 ⟨by omega, h⟩)])
      have HB2 : Hid (d.getD 0 0 ≠ 48 → A = .tuple #[.int .i64 (vl 0 d : Int), .string R, .bool true]) := Lib.hid (fun h => by rw [HA.out, if_pos (by rw [decide_eq_true_eq]; exact ⟨by omega, fun h => by rw [h] at hds; simp at hds; omega, fun ⟨_, h2⟩ => h h2⟩)])
      clear HA hds
      have hlo : 0 < s.size - R.size := by omega
      go_enter Tryz.func196, Tryz.ntmps196
      go_wp2_with (first
        | (go_at_call 202; (with_reducible refine (C.out _).mono ?_); rintro e w1 ⟨rfl, p1⟩)
        | (go_at_call 133; (with_reducible refine (atoi_ok _ (by simp only [ByteArray.size_extract]; omega) _ (AT.out (by omega) (by omega)) _).mono ?_); rintro e w2 ⟨rfl, p2⟩)
        | fail)
      · rename_i hx
        have hx2 := hx.resolve_left (by omega)
        rw [HG.out, beq_iff_eq] at hx2
        have hb := HB.out (UInt8.toNat_inj.1 (by
          have h48 : (48 : UInt8).toNat = 48 := by decide
          omega))
        go_ret3
        exact ⟨by rw [hb]; rfl, p1⟩
      · rename_i hx
        have hx2 := hx.2
        rw [HG.out, beq_eq_false_iff_ne] at hx2
        have hb := HB2.out (fun h => hx2 (by rw [h]; rfl))
        go_ret3
        exact ⟨by rw [hb]; rfl, p2.from p1⟩
    · by_cases h0 : ¬ 0 < s.size - R.size
      · have HB : Hid (A = .tuple #[.int .i64 0, .string ⟨#[]⟩, .bool false]) := Lib.hid (by rw [HA.out, if_neg (by rw [decide_eq_true_eq]; rintro ⟨_, h, _⟩; exact h (List.eq_nil_of_length_eq_zero (by omega)))])
        clear HA hds
        go_enter Tryz.func196, Tryz.ntmps196
        go_wp2_with (first
          | (go_at_call 202; (with_reducible refine (C.out _).mono ?_); rintro e w1 ⟨rfl, p1⟩)
          | (go_at_call 133; (with_reducible refine (atoi_none _ (by simp only [ByteArray.size_extract]; omega) _ (HT.out.later p1)).mono ?_); rintro e w2 ⟨N, rfl, p2⟩)
          | fail)
        go_ret3
        exact ⟨by rw [HB.out]; rfl, p2.from p1⟩
      · have HB : Hid (A = .tuple #[.int .i64 (vl 0 d : Int), .string R, .bool true]) := Lib.hid (by rw [HA.out, if_pos (by rw [decide_eq_true_eq]; exact ⟨by omega, fun h => by rw [h] at hds; simp at hds; omega, fun ⟨h2, _⟩ => by omega⟩)])
        clear HA hds
        go_enter Tryz.func196, Tryz.ntmps196
        go_wp2_with (first
          | (go_at_call 202; (with_reducible refine (C.out _).mono ?_); rintro e w1 ⟨rfl, p1⟩)
          | (go_at_call 133; (with_reducible refine (atoi_ok _ (by simp only [ByteArray.size_extract]; omega) _ (AT.out (by omega) (by omega)) _).mono ?_); rintro e w2 ⟨rfl, p2⟩)
          | fail)
        go_ret3
        exact ⟨by rw [HB.out]; rfl, p2.from p1⟩
end Go.Proofs.YtdkngidangfkiaaGreatDoor.Hours
