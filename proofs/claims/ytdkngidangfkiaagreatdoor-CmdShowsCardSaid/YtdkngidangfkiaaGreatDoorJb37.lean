/-
  Joined out of: The walks of the document's own Check.
-/
import Derived.Test.YtdkngidangfkiaaGreatDoorJb07
namespace Go.Proofs.YtdkngidangfkiaaGreatDoor.Shape
open Go.RowKit
open Base
set_option linter.unusedVariables false
set_option linter.unusedSimpArgs false
set_option maxHeartbeats 1000000 in
theorem rsize_any (n : Int) (w : World) :
    Calls Tryz.prog 57 #[.int .i64 n] w fun e w' => e = .returned (.bool (sizeB n)) ∧ w = w' := by
  have HX : Hid (sizeB n = (decide (1 ≤ n) && decide (n ≤ 48))) := Lib.hid rfl
  cases h1 : decide (1 ≤ n) with
  | true =>
    go_enter Tryz.func57, Tryz.ntmps57
    go_wp2
    go_ret
    exact ⟨ret_bool (by rw [HX.out, h1]; rfl), rfl⟩
  | false =>
    go_enter Tryz.func57, Tryz.ntmps57
    go_wp2
    go_ret
    exact ⟨ret_bool (by rw [HX.out, h1]; rfl), rfl⟩
set_option maxHeartbeats 1000000 in
theorem rwall_any (n : Int) (w : World) :
    Calls Tryz.prog 58 #[.int .i64 n] w fun e w' => e = .returned (.bool (wallB n)) ∧ w = w' := by
  have HX : Hid (wallB n = (decide (1 ≤ n) && decide (n ≤ 100000))) := Lib.hid rfl
  cases h1 : decide (1 ≤ n) with
  | true =>
    go_enter Tryz.func58, Tryz.ntmps58
    go_wp2
    go_ret
    exact ⟨ret_bool (by rw [HX.out, h1]; rfl), rfl⟩
  | false =>
    go_enter Tryz.func58, Tryz.ntmps58
    go_wp2
    go_ret
    exact ⟨ret_bool (by rw [HX.out, h1]; rfl), rfl⟩
theorem SBox.drewN {W : World} {B : Nat} {k mn mx wl : Int} {sl : Value} (h : SBox W B k sl mn mx wl) (n : Nat) : SBox (W.drewN n) B k sl mn mx wl := h
set_option maxRecDepth 100000 in
set_option maxHeartbeats 4000000 in
theorem rcheck3 (ao : Option Addr) (len cap : Nat) (zs : List Alt) (mn mx wl : Int) (w : World) (hlen : zs.length = len) (hl : len ≤ cap) (hcap : cap ≤ maxLen) (hr : ReadsS 2 altC w ao zs) :
    Calls Tryz.prog 34 #[.agg #[.int .i64 3, .slice ao len cap, .int .i64 mn, .int .i64 mx, .int .i64 wl]] w fun e w' => e = .returned (.int .i64 (chkE 3 zs mn mx wl)) ∧ Below w.heap.size w w' := by
  have hl64 : len ≤ 9223372036854775807 := by unfold maxLen at hcap; omega
  have cS1 := fun w => rsize_any mn w
  have cS2 := fun w => rsize_any mx w
  have cW := fun w => rwall_any wl w
  obtain ⟨E, hE⟩ : ∃ E, E = chkE 3 zs mn mx wl := ⟨_, rfl⟩
  rw [← hE]
  have hno : chkB 3 zs mn mx wl = false → 70 = E := fun h => by rw [hE]; unfold chkE; rw [h]; rfl
  have hyes : chkB 3 zs mn mx wl = true → 0 = E := fun h => by rw [hE]; unfold chkE; rw [h]; rfl
  have hB : chkB 3 zs mn mx wl = (sizeB mn && sizeB mx && decide (mn ≤ mx) && wallB wl && decide ((zs.length : Int) = 0)) := by unfold chkB; rw [if_neg (by decide), if_neg (by decide), if_pos rfl]
  rw [hB] at hno hyes
  rw [hlen] at hno hyes
  clear hE hB hr hlen
  by_cases h0 : 0 < len
  · have HX := Lib.hid (hno (by rw [decide_eq_false (p := (len : Int) = 0) (by omega)]; simp))
    clear hno hyes cS1 cS2 cW
    go_enter Tryz.func34, Tryz.ntmps34
    go_wp2
    go_ret
    exact ⟨ret_i64 HX.out, Base.bel_⟩
  · obtain rfl : len = 0 := by omega
    clear h0
    cases h1 : sizeB mn with
    | false =>
      have HX := Lib.hid (hno (by rw [h1]; rfl))
      simp only [h1] at cS1
      have CS1 := Lib.hid cS1
      clear hno hyes cS1 cS2 cW h1
      go_enter Tryz.func34, Tryz.ntmps34
      go_wp2_with (first
        | (go_at_call 57; (with_reducible refine (CS1.out _).mono ?_); rintro e w1 ⟨rfl, rfl⟩)
        | fail)
      go_ret
      exact ⟨ret_i64 HX.out, Base.bel_⟩
    | true =>
      simp only [h1, Bool.true_and] at cS1 hno hyes
      have CS1 := Lib.hid cS1
      clear cS1 h1
      cases h2 : sizeB mx with
      | false =>
        have HX := Lib.hid (hno (by rw [h2]; rfl))
        simp only [h2] at cS2
        have CS2 := Lib.hid cS2
        clear hno hyes cS2 cW h2
        go_enter Tryz.func34, Tryz.ntmps34
        go_wp2_with (first
          | (go_at_call 57; (with_reducible refine (CS1.out _).mono ?_); rintro e w1 ⟨rfl, rfl⟩)
          | (go_at_call 57; (with_reducible refine (CS2.out _).mono ?_); rintro e w1 ⟨rfl, rfl⟩)
          | fail)
        go_ret
        exact ⟨ret_i64 HX.out, Base.bel_⟩
      | true =>
        simp only [h2, Bool.true_and] at cS2 hno hyes
        have CS2 := Lib.hid cS2
        clear cS2 h2
        cases h3 : decide (mx < mn) with
        | true =>
          have HX := Lib.hid (hno (by rw [decide_eq_false (by have := of_decide_eq_true h3; omega)]; rfl))
          clear hno hyes cW
          go_enter Tryz.func34, Tryz.ntmps34
          go_wp2_with (first
            | (go_at_call 57; (with_reducible refine (CS1.out _).mono ?_); rintro e w1 ⟨rfl, rfl⟩)
            | (go_at_call 57; (with_reducible refine (CS2.out _).mono ?_); rintro e w1 ⟨rfl, rfl⟩)
            | fail)
          go_ret
          exact ⟨ret_i64 HX.out, Base.bel_⟩
        | false =>
          have h3' : mn ≤ mx := by have := of_decide_eq_false h3; omega
          simp only [decide_eq_true h3', Bool.true_and] at hno hyes
          clear h3'
          cases h4 : wallB wl with
          | false =>
            have HX := Lib.hid (hno (by rw [h4]; rfl))
            simp only [h4] at cW
            have CW := Lib.hid cW
            clear hno hyes cW h4
            go_enter Tryz.func34, Tryz.ntmps34
            go_wp2_with (first
              | (go_at_call 57; (with_reducible refine (CS1.out _).mono ?_); rintro e w1 ⟨rfl, rfl⟩)
              | (go_at_call 57; (with_reducible refine (CS2.out _).mono ?_); rintro e w1 ⟨rfl, rfl⟩)
              | (go_at_call 58; (with_reducible refine (CW.out _).mono ?_); rintro e w1 ⟨rfl, rfl⟩)
              | fail)
            go_ret
            exact ⟨ret_i64 HX.out, Base.bel_⟩
          | true =>
            have HX := Lib.hid (hyes (by rw [h4]; rfl))
            simp only [h4] at cW
            have CW := Lib.hid cW
            clear hno hyes cW h4
            go_enter Tryz.func34, Tryz.ntmps34
            go_wp2_with (first
              | (go_at_call 57; (with_reducible refine (CS1.out _).mono ?_); rintro e w1 ⟨rfl, rfl⟩)
              | (go_at_call 57; (with_reducible refine (CS2.out _).mono ?_); rintro e w1 ⟨rfl, rfl⟩)
              | (go_at_call 58; (with_reducible refine (CW.out _).mono ?_); rintro e w1 ⟨rfl, rfl⟩)
              | fail)
            go_ret
            exact ⟨ret_i64 HX.out, Base.bel_⟩
set_option maxRecDepth 100000 in
set_option maxHeartbeats 4000000 in
theorem rcheck1 (ao : Option Addr) (len cap : Nat) (zs : List Alt) (mn mx wl : Int) (w : World) (hlen : zs.length = len) (hl : len ≤ cap) (hcap : cap ≤ maxLen) (hr : ReadsS 2 altC w ao zs) :
    Calls Tryz.prog 34 #[.agg #[.int .i64 1, .slice ao len cap, .int .i64 mn, .int .i64 mx, .int .i64 wl]] w fun e w' => e = .returned (.int .i64 (chkE 1 zs mn mx wl)) ∧ Below w.heap.size w w' := by
  have hl64 : len ≤ 9223372036854775807 := by unfold maxLen at hcap; omega
  obtain ⟨E, hE⟩ : ∃ E, E = chkE 1 zs mn mx wl := ⟨_, rfl⟩
  rw [← hE]
  have hno : chkB 1 zs mn mx wl = false → 70 = E := fun h => by rw [hE]; unfold chkE; rw [h]; rfl
  have hyes : chkB 1 zs mn mx wl = true → 0 = E := fun h => by rw [hE]; unfold chkE; rw [h]; rfl
  have hB : chkB 1 zs mn mx wl = (frB (zs.length : Int) 1 1 && goodB zs && !spanB mn mx wl) := by unfold chkB; rw [if_pos rfl]; rfl
  rw [hB] at hno hyes
  clear hE hB
  subst hlen
  by_cases h0 : zs.length = 0
  · have HX := Lib.hid (hno (by rw [(frB_not _ _ _).2 (by omega)]; rfl))
    rw [h0] at hl hl64 ⊢
    clear hno hyes h0 hr
    go_enter Tryz.func34, Tryz.ntmps34
    go_wp2
    go_ret
    exact ⟨ret_i64 HX.out, Base.bel_⟩
  · have h1 : 1 ≤ zs.length := by omega
    clear h0
    by_cases h6 : 1 < zs.length
    · have HX := Lib.hid (hno (by rw [(frB_not _ _ _).2 (by omega)]; rfl))
      clear hno hyes hr
      go_enter Tryz.func34, Tryz.ntmps34
      go_wp2
      go_ret
      exact ⟨ret_i64 HX.out, Base.bel_⟩
    · have h7 : zs.length ≤ 1 := by omega
      rw [(frB_iff _ _ _).2 (by omega), Bool.true_and] at hno hyes
      clear h6
      cases t1 : (mn != 0) with
      | true =>
        have HX := Lib.hid (hno (by unfold spanB; rw [decide_eq_true (by simpa using t1)]; simp))
        clear hno hyes hr
        go_enter Tryz.func34, Tryz.ntmps34
        go_wp2
        go_ret
        exact ⟨ret_i64 HX.out, Base.bel_⟩
      | false =>
        cases t2 : (mx != 0) with
        | true =>
          have HX := Lib.hid (hno (by unfold spanB; rw [decide_eq_true (p := mx ≠ 0) (by simpa using t2)]; simp))
          clear hno hyes hr
          go_enter Tryz.func34, Tryz.ntmps34
          go_wp2
          go_ret
          exact ⟨ret_i64 HX.out, Base.bel_⟩
        | false =>
          cases t3 : (wl != 0) with
          | true =>
            have HX := Lib.hid (hno (by unfold spanB; rw [decide_eq_true (p := wl ≠ 0) (by simpa using t3)]; simp))
            clear hno hyes hr
            go_enter Tryz.func34, Tryz.ntmps34
            go_wp2
            go_ret
            exact ⟨ret_i64 HX.out, Base.bel_⟩
          | false =>
            have hs : (!spanB mn mx wl) = true := (spanB_no _ _ _).2 ⟨by simpa using t1, by simpa using t2, by simpa using t3⟩
            rw [hs, Bool.and_true] at hno hyes
            have HNO := Lib.hid hno
            have HYES := Lib.hid hyes
            have HR := Lib.hid hr
            clear hno hyes hr hs
            go_enter Tryz.func34, Tryz.ntmps34
            go_wp2
            go_loopw [4] (fun i wr => ∃ a : Nat, i = .int .i64 (a : Int) ∧ a ≤ zs.length ∧ (∀ b (h : b < zs.length), b < a → altOk zs[b] = true ∧ ∀ c (hc : c < zs.length), b < c → zs[b].1 ≠ zs[c].1) ∧ SBox wr w.heap.size 1 (.slice ao zs.length cap) mn mx wl ∧ Below w.heap.size w wr) (fun i _ => zs.length - (intOf i).toNat)
            case atStart => exact ⟨0, rfl, Nat.zero_le _, fun _ _ h => absurd h (Nat.not_lt_zero _), SBox.new w _ _ _ _ _, below_one _⟩
            case round =>
              obtain ⟨a, rfl, ha, hg, hsb, hb⟩ := hrel
              have HG := Lib.hid hg
              have HSB := Lib.hid hsb
              have HB := Lib.hid hb
              obtain ⟨s0, s1, s2, s3, s4⟩ := hsb.cells
              by_cases hp : a < zs.length
              · obtain ⟨bb, bo, hao, b0, b1⟩ := alt_cells (HR.out.below altC_length hb) hp
                obtain ⟨⟨n, y⟩, hA⟩ : ∃ A : Alt, A = zs[a] := ⟨_, rfl⟩
                have hok : altOk zs[a] = (sizeB n && wallB y) := by rw [← hA]; rfl
                have hbad : (sizeB n && wallB y) = false → 70 = E := fun h => HNO.out (goodB_no zs a hp (.inl (by rw [hok]; exact h)))
                rw [← hA] at b0 b1
                dsimp only at b0 b1
                have cS := fun w => rsize_any n w
                have cW := fun w => rwall_any y w
                have HA := Lib.hid hA
                have HOK := Lib.hid hok
                subst hao
                clear hA hok hg hsb hb
                cases q1 : sizeB n with
                | false =>
                  have HX := Lib.hid (hbad (by rw [q1]; rfl))
                  simp only [q1] at cS
                  have CS := Lib.hid cS
                  have CW := Lib.hid cW
                  clear hbad cS cW q1
                  go_wp2_with (first
                    | (go_at_call 57; (with_reducible refine (CS.out _).mono ?_); rintro e w1 ⟨rfl, rfl⟩)
                    | (go_at_call 58; (with_reducible refine (CW.out _).mono ?_); rintro e w1 ⟨rfl, rfl⟩)
                    | fail)
                  go_ret
                  exact ⟨ret_i64 HX.out, HB.out⟩
                | true =>
                  simp only [q1] at cS
                  have CS := Lib.hid cS
                  cases q2 : wallB y with
                  | false =>
                    have HX := Lib.hid (hbad (by rw [q1, q2]; rfl))
                    simp only [q2] at cW
                    have CW := Lib.hid cW
                    clear hbad cS cW q1 q2
                    go_wp2_with (first
                      | (go_at_call 57; (with_reducible refine (CS.out _).mono ?_); rintro e w1 ⟨rfl, rfl⟩)
                      | (go_at_call 58; (with_reducible refine (CW.out _).mono ?_); rintro e w1 ⟨rfl, rfl⟩)
                      | fail)
                    go_ret
                    exact ⟨ret_i64 HX.out, HB.out⟩
                  | true =>
                    simp only [q2] at cW
                    have CW := Lib.hid cW
                    have HOK2 : Hid (altOk zs[a] = true) := Lib.hid (by rw [HOK.out, q1, q2]; rfl)
                    clear hbad cS cW q1 q2
                    go_wp2_with (first
                      | (go_at_call 57; (with_reducible refine (CS.out _).mono ?_); rintro e w1 ⟨rfl, rfl⟩)
                      | (go_at_call 58; (with_reducible refine (CW.out _).mono ?_); rintro e w1 ⟨rfl, rfl⟩)
                      | fail)
                    go_loopw [5] (fun i wq => ∃ c : Nat, i = .int .i64 (c : Int) ∧ a + 1 ≤ c ∧ c ≤ zs.length ∧ (∀ d (hd : d < zs.length), a < d → d < c → n ≠ zs[d].1) ∧ SBox wq w.heap.size 1 (.slice (some ⟨bb, bo, none⟩) zs.length cap) mn mx wl ∧ Below w.heap.size w wq) (fun i _ => zs.length - (intOf i).toNat)
                    case atStart => exact ⟨a + 1, by go_num, Nat.le_refl _, by omega, fun d _ h1 h2 => absurd h2 (by omega), HSB.out, HB.out⟩
                    case round =>
                      obtain ⟨c, rfl, hac, hc, hd, hsb, hb⟩ := hrel
                      have HD := Lib.hid hd
                      have HSB2 := Lib.hid hsb
                      have HB2 := Lib.hid hb
                      obtain ⟨s0, s1, s2, s3, s4⟩ := hsb.cells
                      by_cases hpc : c < zs.length
                      · exact absurd hpc (by omega)
                      · have HN : Hid (∀ b (h : b < zs.length), b < a + 1 → altOk zs[b] = true ∧ ∀ c (hc : c < zs.length), b < c → zs[b].1 ≠ zs[c].1) := Lib.hid (fun b h hba => by
                          by_cases hbe : b = a
                          · subst hbe
                            refine ⟨HOK2.out, fun d hd' hlt => ?_⟩
                            rw [← HA.out]
                            exact HD.out d hd' hlt (by omega)
                          · exact HG.out b h (by omega))
                        clear hd hsb hb
                        go_wp2
                        refine ⟨⟨a + 1, by go_num, by omega, HN.out, HSB2.out, HB2.out⟩, ?_⟩
                        simp [intOf]; omega
              · have HX := Lib.hid (HYES.out ((goodB_iff zs).2 ⟨fun i h => (HG.out i h (by omega)).1, fun i j hi hj hij => (HG.out i hi (by omega)).2 j hj hij⟩))
                clear hg hsb hb
                go_wp2
                go_ret
                exact ⟨ret_i64 HX.out, HB.out⟩
set_option maxRecDepth 100000 in
set_option maxHeartbeats 4000000 in
theorem rcheck2 (ao : Option Addr) (len cap : Nat) (zs : List Alt) (mn mx wl : Int) (w : World) (hlen : zs.length = len) (hl : len ≤ cap) (hcap : cap ≤ maxLen) (hr : ReadsS 2 altC w ao zs) :
    Calls Tryz.prog 34 #[.agg #[.int .i64 2, .slice ao len cap, .int .i64 mn, .int .i64 mx, .int .i64 wl]] w fun e w' => e = .returned (.int .i64 (chkE 2 zs mn mx wl)) ∧ Below w.heap.size w w' := by
  have hl64 : len ≤ 9223372036854775807 := by unfold maxLen at hcap; omega
  obtain ⟨E, hE⟩ : ∃ E, E = chkE 2 zs mn mx wl := ⟨_, rfl⟩
  rw [← hE]
  have hno : chkB 2 zs mn mx wl = false → 70 = E := fun h => by rw [hE]; unfold chkE; rw [h]; rfl
  have hyes : chkB 2 zs mn mx wl = true → 0 = E := fun h => by rw [hE]; unfold chkE; rw [h]; rfl
  have hB : chkB 2 zs mn mx wl = (frB (zs.length : Int) 1 6 && goodB zs && !spanB mn mx wl) := by unfold chkB; rw [if_neg (by decide), if_pos rfl]; rfl
  rw [hB] at hno hyes
  clear hE hB
  subst hlen
  by_cases h0 : zs.length = 0
  · have HX := Lib.hid (hno (by rw [(frB_not _ _ _).2 (by omega)]; rfl))
    rw [h0] at hl hl64 ⊢
    clear hno hyes h0 hr
    go_enter Tryz.func34, Tryz.ntmps34
    go_wp2
    go_ret
    exact ⟨ret_i64 HX.out, Base.bel_⟩
  · have h1 : 1 ≤ zs.length := by omega
    clear h0
    by_cases h6 : 6 < zs.length
    · have HX := Lib.hid (hno (by rw [(frB_not _ _ _).2 (by omega)]; rfl))
      clear hno hyes hr
      go_enter Tryz.func34, Tryz.ntmps34
      go_wp2
      go_ret
      exact ⟨ret_i64 HX.out, Base.bel_⟩
    · have h7 : zs.length ≤ 6 := by omega
      rw [(frB_iff _ _ _).2 (by omega), Bool.true_and] at hno hyes
      clear h6
      cases t1 : (mn != 0) with
      | true =>
        have HX := Lib.hid (hno (by unfold spanB; rw [decide_eq_true (by simpa using t1)]; simp))
        clear hno hyes hr
        go_enter Tryz.func34, Tryz.ntmps34
        go_wp2
        go_ret
        exact ⟨ret_i64 HX.out, Base.bel_⟩
      | false =>
        cases t2 : (mx != 0) with
        | true =>
          have HX := Lib.hid (hno (by unfold spanB; rw [decide_eq_true (p := mx ≠ 0) (by simpa using t2)]; simp))
          clear hno hyes hr
          go_enter Tryz.func34, Tryz.ntmps34
          go_wp2
          go_ret
          exact ⟨ret_i64 HX.out, Base.bel_⟩
        | false =>
          cases t3 : (wl != 0) with
          | true =>
            have HX := Lib.hid (hno (by unfold spanB; rw [decide_eq_true (p := wl ≠ 0) (by simpa using t3)]; simp))
            clear hno hyes hr
            go_enter Tryz.func34, Tryz.ntmps34
            go_wp2
            go_ret
            exact ⟨ret_i64 HX.out, Base.bel_⟩
          | false =>
            have hs : (!spanB mn mx wl) = true := (spanB_no _ _ _).2 ⟨by simpa using t1, by simpa using t2, by simpa using t3⟩
            rw [hs, Bool.and_true] at hno hyes
            have HNO := Lib.hid hno
            have HYES := Lib.hid hyes
            have HR := Lib.hid hr
            clear hno hyes hr hs
            go_enter Tryz.func34, Tryz.ntmps34
            go_wp2
            go_loopw [4] (fun i wr => ∃ a : Nat, i = .int .i64 (a : Int) ∧ a ≤ zs.length ∧ (∀ b (h : b < zs.length), b < a → altOk zs[b] = true ∧ ∀ c (hc : c < zs.length), b < c → zs[b].1 ≠ zs[c].1) ∧ SBox wr w.heap.size 2 (.slice ao zs.length cap) mn mx wl ∧ Below w.heap.size w wr) (fun i _ => zs.length - (intOf i).toNat)
            case atStart => exact ⟨0, rfl, Nat.zero_le _, fun _ _ h => absurd h (Nat.not_lt_zero _), SBox.new w _ _ _ _ _, below_one _⟩
            case round =>
              obtain ⟨a, rfl, ha, hg, hsb, hb⟩ := hrel
              have HG := Lib.hid hg
              have HSB := Lib.hid hsb
              have HB := Lib.hid hb
              obtain ⟨s0, s1, s2, s3, s4⟩ := hsb.cells
              by_cases hp : a < zs.length
              · obtain ⟨bb, bo, hao, b0, b1⟩ := alt_cells (HR.out.below altC_length hb) hp
                obtain ⟨⟨n, y⟩, hA⟩ : ∃ A : Alt, A = zs[a] := ⟨_, rfl⟩
                have hok : altOk zs[a] = (sizeB n && wallB y) := by rw [← hA]; rfl
                have hbad : (sizeB n && wallB y) = false → 70 = E := fun h => HNO.out (goodB_no zs a hp (.inl (by rw [hok]; exact h)))
                rw [← hA] at b0 b1
                dsimp only at b0 b1
                have cS := fun w => rsize_any n w
                have cW := fun w => rwall_any y w
                have HA := Lib.hid hA
                have HOK := Lib.hid hok
                subst hao
                clear hA hok hg hsb hb
                cases q1 : sizeB n with
                | false =>
                  have HX := Lib.hid (hbad (by rw [q1]; rfl))
                  simp only [q1] at cS
                  have CS := Lib.hid cS
                  have CW := Lib.hid cW
                  clear hbad cS cW q1
                  go_wp2_with (first
                    | (go_at_call 57; (with_reducible refine (CS.out _).mono ?_); rintro e w1 ⟨rfl, rfl⟩)
                    | (go_at_call 58; (with_reducible refine (CW.out _).mono ?_); rintro e w1 ⟨rfl, rfl⟩)
                    | fail)
                  go_ret
                  exact ⟨ret_i64 HX.out, HB.out⟩
                | true =>
                  simp only [q1] at cS
                  have CS := Lib.hid cS
                  cases q2 : wallB y with
                  | false =>
                    have HX := Lib.hid (hbad (by rw [q1, q2]; rfl))
                    simp only [q2] at cW
                    have CW := Lib.hid cW
                    clear hbad cS cW q1 q2
                    go_wp2_with (first
                      | (go_at_call 57; (with_reducible refine (CS.out _).mono ?_); rintro e w1 ⟨rfl, rfl⟩)
                      | (go_at_call 58; (with_reducible refine (CW.out _).mono ?_); rintro e w1 ⟨rfl, rfl⟩)
                      | fail)
                    go_ret
                    exact ⟨ret_i64 HX.out, HB.out⟩
                  | true =>
                    simp only [q2] at cW
                    have CW := Lib.hid cW
                    have HOK2 : Hid (altOk zs[a] = true) := Lib.hid (by rw [HOK.out, q1, q2]; rfl)
                    clear hbad cS cW q1 q2
                    go_wp2_with (first
                      | (go_at_call 57; (with_reducible refine (CS.out _).mono ?_); rintro e w1 ⟨rfl, rfl⟩)
                      | (go_at_call 58; (with_reducible refine (CW.out _).mono ?_); rintro e w1 ⟨rfl, rfl⟩)
                      | fail)
                    go_loopw [5] (fun i wq => ∃ c : Nat, i = .int .i64 (c : Int) ∧ a + 1 ≤ c ∧ c ≤ zs.length ∧ (∀ d (hd : d < zs.length), a < d → d < c → n ≠ zs[d].1) ∧ SBox wq w.heap.size 2 (.slice (some ⟨bb, bo, none⟩) zs.length cap) mn mx wl ∧ Below w.heap.size w wq) (fun i _ => zs.length - (intOf i).toNat)
                    case atStart => exact ⟨a + 1, by go_num, Nat.le_refl _, by omega, fun d _ h1 h2 => absurd h2 (by omega), HSB.out, HB.out⟩
                    case round =>
                      obtain ⟨c, rfl, hac, hc, hd, hsb, hb⟩ := hrel
                      have HD := Lib.hid hd
                      have HSB2 := Lib.hid hsb
                      have HB2 := Lib.hid hb
                      obtain ⟨s0, s1, s2, s3, s4⟩ := hsb.cells
                      by_cases hpc : c < zs.length
                      · obtain ⟨bb2, bo2, ha2, b0, _⟩ := alt_cells (HR.out.below altC_length hb) hp
                        obtain ⟨rfl, rfl⟩ : bb = bb2 ∧ bo = bo2 := by simpa using ha2
                        obtain ⟨bb3, bo3, ha3, c0, _⟩ := alt_cells (HR.out.below altC_length hb) hpc
                        obtain ⟨rfl, rfl⟩ : bb = bb3 ∧ bo = bo3 := by simpa using ha3
                        rw [← HA.out] at b0
                        obtain ⟨m, hm⟩ : ∃ m, m = zs[c].1 := ⟨_, rfl⟩
                        rw [← hm] at c0
                        dsimp only at b0
                        have HM := Lib.hid hm
                        have hlow1 : (0 : Int) ≤ (a : Int) := by omega
                        have hup1 : (a : Int) < ((zs.length : Nat) : Int) := by omega
                        have hlow2 : (0 : Int) ≤ (c : Int) := by omega
                        have hup2 : (c : Int) < ((zs.length : Nat) : Int) := by omega
                        clear hm hd hsb hb ha2 ha3
                        by_cases he : n = m
                        · have t5 : (n == m) = true := by simpa using he
                          have HX : Hid (70 = E) := Lib.hid (HNO.out (by
                            cases hgb : goodB zs with
                            | false => rfl
                            | true => exact absurd (by rw [← HA.out]; exact he.trans HM.out) (((goodB_iff zs).1 hgb).2 a c hp hpc (by omega))))
                          clear he
                          go_wp2
                          go_quiet (fail)
                          go_wp2
                          go_ret
                          exact ⟨ret_i64 HX.out, Base.below_drewN HB2.out _⟩
                        · have t5 : (n == m) = false := by simpa using he
                          have HN : Hid (∀ d (hd : d < zs.length), a < d → d < c + 1 → n ≠ zs[d].1) := Lib.hid (fun d hd h1 h2 => by
                            by_cases hdc : d = c
                            · subst hdc; rw [← HM.out]; exact he
                            · exact HD.out d hd h1 (by omega))
                          clear he
                          go_wp2
                          go_quiet (fail)
                          go_wp2
                          refine ⟨⟨c + 1, by go_num, by omega, by omega, HN.out, HSB2.out.drewN _, Base.below_drewN HB2.out _⟩, ?_⟩
                          simp [intOf]; omega
                      · have HN : Hid (∀ b (h : b < zs.length), b < a + 1 → altOk zs[b] = true ∧ ∀ c (hc : c < zs.length), b < c → zs[b].1 ≠ zs[c].1) := Lib.hid (fun b h hba => by
                          by_cases hbe : b = a
                          · subst hbe
                            refine ⟨HOK2.out, fun d hd' hlt => ?_⟩
                            rw [← HA.out]
                            exact HD.out d hd' hlt (by omega)
                          · exact HG.out b h (by omega))
                        clear hd hsb hb
                        go_wp2
                        refine ⟨⟨a + 1, by go_num, by omega, HN.out, HSB2.out, HB2.out⟩, ?_⟩
                        simp [intOf]; omega
              · have HX := Lib.hid (HYES.out ((goodB_iff zs).2 ⟨fun i h => (HG.out i h (by omega)).1, fun i j hi hj hij => (HG.out i hi (by omega)).2 j hj hij⟩))
                clear hg hsb hb
                go_wp2
                go_ret
                exact ⟨ret_i64 HX.out, HB.out⟩
set_option maxRecDepth 100000 in
theorem rcheck_any (k : Int) (ao : Option Addr) (len cap : Nat) (zs : List Alt) (mn mx wl : Int) (w : World) (hlen : zs.length = len) (hl : len ≤ cap) (hcap : cap ≤ maxLen) (hr : ReadsS 2 altC w ao zs) :
    Calls Tryz.prog 34 #[.agg #[.int .i64 k, .slice ao len cap, .int .i64 mn, .int .i64 mx, .int .i64 wl]] w fun e w' => e = .returned (.int .i64 (chkE k zs mn mx wl)) ∧ Below w.heap.size w w' := by
  by_cases k1 : k = 1
  · subst k1; exact rcheck1 ao len cap zs mn mx wl w hlen hl hcap hr
  · by_cases k2 : k = 2
    · subst k2; exact rcheck2 ao len cap zs mn mx wl w hlen hl hcap hr
    · by_cases k3 : k = 3
      · subst k3; exact rcheck3 ao len cap zs mn mx wl w hlen hl hcap hr
      · have HE : Hid (70 = chkE k zs mn mx wl) := Lib.hid (by unfold chkE chkB; rw [if_neg k1, if_neg k2, if_neg k3]; rfl)
        have t1 : (k != 1) = true := by simpa using k1
        have t2 : (k == 2) = false := by simpa using k2
        have t3 : (k == 3) = false := by simpa using k3
        clear k1 k2 k3 hr hlen
        go_enter Tryz.func34, Tryz.ntmps34
        go_wp2
        go_ret
        exact ⟨ret_i64 HE.out, Base.bel_⟩
end Go.Proofs.YtdkngidangfkiaaGreatDoor.Shape
