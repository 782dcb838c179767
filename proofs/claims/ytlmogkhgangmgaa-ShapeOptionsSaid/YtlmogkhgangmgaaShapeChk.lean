/-
  The walk of the program's Check.
-/
import Derived.Test.YtlmogkhgangmgaaShapeMay
namespace Go.Proofs.Ytlmogkhgangmgaa.Shape
open Go.RowKit
open Base
set_option linter.unusedVariables false
set_option linter.unusedSimpArgs false

theorem ret_i64 {a b : Int} (h : a = b) : Ending.returned (.int .i64 a) = .returned (.int .i64 b) := by rw [h]

/-- Block B is a shape's box. -/
def SBox (W : World) (B : Nat) (k : Int) (sl : Value) (mn mx wl : Int) : Prop := W.heap[B]? = some (.cells #[.int .i64 k, sl, .int .i64 mn, .int .i64 mx, .int .i64 wl] 24)
section
variable {W W' : World} {B : Nat} {k mn mx wl : Int} {sl : Value}
theorem SBox.lt (h : SBox W B k sl mn mx wl) : B < W.heap.size := (Array.getElem?_eq_some_iff.1 h).1
theorem SBox.new (W : World) (k : Int) (sl : Value) (mn mx wl : Int) : SBox (W.alloc (.cells #[.int .i64 k, sl, .int .i64 mn, .int .i64 mx, .int .i64 wl] 24)) W.heap.size k sl mn mx wl := heap_alloc_new W _
theorem SBox.below (h : SBox W B k sl mn mx wl) (hb : Below W.heap.size W W') : SBox W' B k sl mn mx wl := by
  unfold SBox at h ⊢; rw [hb.block _ (Array.getElem?_eq_some_iff.1 h).1]; exact h
theorem SBox.kept {B' : Nat} (h : SBox W B k sl mn mx wl) (hb : Below B' W W') (hB : B < B') : SBox W' B k sl mn mx wl := by
  unfold SBox at h ⊢; rw [hb.block _ hB]; exact h
theorem SBox.cells (h : SBox W B k sl mn mx wl) : W.cell? ⟨B, 0, none⟩ = some (.int .i64 k) ∧ W.cell? ⟨B, 1, none⟩ = some sl ∧ W.cell? ⟨B, 2, none⟩ = some (.int .i64 mn) ∧ W.cell? ⟨B, 3, none⟩ = some (.int .i64 mx) ∧ W.cell? ⟨B, 4, none⟩ = some (.int .i64 wl) := by
  unfold SBox at h
  simp [World.cell?, h]
theorem SBox.alloc (h : SBox W B k sl mn mx wl) (o : Obj) : SBox (W.alloc o) B k sl mn mx wl := h.below (below_one o)
end

set_option maxRecDepth 100000 in
set_option maxHeartbeats 2000000 in
theorem check_any (k : Int) (ao : Option Addr) (len cap : Nat) (zs : List Alt) (mn mx wl : Int) (w : World) (hlen : zs.length = len) (hl : len ≤ cap) (hcap : cap ≤ maxLen) (hr : ReadsS 2 altC w ao zs) :
    Calls Try.prog 9 #[.agg #[.int .i64 k, .slice ao len cap, .int .i64 mn, .int .i64 mx, .int .i64 wl]] w fun e w' => e = .returned (.int .i64 (chkE k zs mn mx wl)) ∧ Below w.heap.size w w' := by
  have cM := fun (m : Int) (w2 : World) (hb : Below w.heap.size w w2) => mayBe_any ao len cap zs m w2 hlen hl hcap (hr.below altC_length hb)
  have cH := fun w => hasSpan_any k ao len cap mn mx wl w
  have hSB := SBox.new w k (.slice ao len cap) mn mx wl
  have HSB := Lib.hid hSB
  clear hSB
  obtain ⟨E, hE⟩ : ∃ E, E = chkE k zs mn mx wl := ⟨_, rfl⟩
  rw [← hE]
  unfold chkE chkB at hE
  have hl64 : len ≤ 9223372036854775807 := by unfold maxLen at hcap; omega
  by_cases k1 : k = 1
  · subst k1
    rw [if_pos rfl] at hE
    have cM1 := cM 1
    cases h1 : mayB zs 1 with
    | false =>
      rw [h1] at hE
      simp only [h1] at cM1
      have HE := Lib.hid hE
      have CM := Lib.hid cM1
      clear hE cM cM1 cH h1 hr hlen
      go_enter Try.func9, Try.ntmps9
      go_wp2_with (first
        | (go_at_call 24; (with_reducible refine (CM.out _ (by (focus repeat (first | exact Below.refl _ _ | assumption | (exact Hid.out (by assumption)) | (with_reducible refine Below.drew ?_) | (with_reducible refine Base.below_drewN ?_ _) | (refine Below.from (below_one _) ?_) | (refine Below.from (below_conv _ _ _) ?_) | (refine Below.setCell ?_ (by simp <;> omega) _) | (refine Below.from (by assumption) ?_))))).mono ?_); rintro e w1 ⟨rfl, p1⟩)
        | fail)
      go_ret
      exact ⟨ret_i64 HE.out.symm, by (focus repeat (first | exact Below.refl _ _ | assumption | (exact Hid.out (by assumption)) | (with_reducible refine Below.drew ?_) | (with_reducible refine Base.below_drewN ?_ _) | (refine Below.from (below_one _) ?_) | (refine Below.from (below_conv _ _ _) ?_) | (refine Below.setCell ?_ (by simp <;> omega) _) | (refine Below.from (by assumption) ?_)))⟩
    | true =>
      simp only [h1] at cM1
      have CM := Lib.hid cM1
      have HE : Hid (E = if spanB mn mx wl = false then 0 else 70) := Lib.hid (by rw [hE, h1]; cases spanB mn mx wl <;> rfl)
      clear hE cM cM1 h1 hr hlen
      cases h2 : spanB mn mx wl with
      | false =>
        simp only [h2] at cH
        have HE : Hid (0 = E) := Lib.hid (by rw [HE.out, h2]; rfl)
        have CH := Lib.hid cH
        clear cH h2
        go_enter Try.func9, Try.ntmps9
        go_wp2_with (first
          | (go_at_call 24; (with_reducible refine (CM.out _ (by (focus repeat (first | exact Below.refl _ _ | assumption | (exact Hid.out (by assumption)) | (with_reducible refine Below.drew ?_) | (with_reducible refine Base.below_drewN ?_ _) | (refine Below.from (below_one _) ?_) | (refine Below.from (below_conv _ _ _) ?_) | (refine Below.setCell ?_ (by simp <;> omega) _) | (refine Below.from (by assumption) ?_))))).mono ?_); rintro e w1 ⟨rfl, p1⟩; obtain ⟨x0, x1, x2, x3, x4⟩ := (HSB.out.below p1).cells)
          | (go_at_call 25; (with_reducible refine (CH.out _).mono ?_); rintro e w2 ⟨rfl, p2⟩)
          | fail)
        go_ret
        exact ⟨ret_i64 HE.out, by (focus repeat (first | exact Below.refl _ _ | assumption | (exact Hid.out (by assumption)) | (with_reducible refine Below.drew ?_) | (with_reducible refine Base.below_drewN ?_ _) | (refine Below.from (below_one _) ?_) | (refine Below.from (below_conv _ _ _) ?_) | (refine Below.setCell ?_ (by simp <;> omega) _) | (refine Below.from (by assumption) ?_)))⟩
      | true =>
        simp only [h2] at cH
        have HE : Hid (70 = E) := Lib.hid (by rw [HE.out, h2]; rfl)
        have CH := Lib.hid cH
        clear cH h2
        go_enter Try.func9, Try.ntmps9
        go_wp2_with (first
          | (go_at_call 24; (with_reducible refine (CM.out _ (by (focus repeat (first | exact Below.refl _ _ | assumption | (exact Hid.out (by assumption)) | (with_reducible refine Below.drew ?_) | (with_reducible refine Base.below_drewN ?_ _) | (refine Below.from (below_one _) ?_) | (refine Below.from (below_conv _ _ _) ?_) | (refine Below.setCell ?_ (by simp <;> omega) _) | (refine Below.from (by assumption) ?_))))).mono ?_); rintro e w1 ⟨rfl, p1⟩; obtain ⟨x0, x1, x2, x3, x4⟩ := (HSB.out.below p1).cells)
          | (go_at_call 25; (with_reducible refine (CH.out _).mono ?_); rintro e w2 ⟨rfl, p2⟩)
          | fail)
        go_ret
        exact ⟨ret_i64 HE.out, by (focus repeat (first | exact Below.refl _ _ | assumption | (exact Hid.out (by assumption)) | (with_reducible refine Below.drew ?_) | (with_reducible refine Base.below_drewN ?_ _) | (refine Below.from (below_one _) ?_) | (refine Below.from (below_conv _ _ _) ?_) | (refine Below.setCell ?_ (by simp <;> omega) _) | (refine Below.from (by assumption) ?_)))⟩
  by_cases k2 : k = 2
  · subst k2
    rw [if_neg k1, if_pos rfl] at hE
    have cM1 := cM 6
    cases h1 : mayB zs 6 with
    | false =>
      rw [h1] at hE
      simp only [h1] at cM1
      have HE := Lib.hid hE
      have CM := Lib.hid cM1
      clear hE cM cM1 cH h1 hr hlen
      go_enter Try.func9, Try.ntmps9
      go_wp2_with (first
        | (go_at_call 24; (with_reducible refine (CM.out _ (by (focus repeat (first | exact Below.refl _ _ | assumption | (exact Hid.out (by assumption)) | (with_reducible refine Below.drew ?_) | (with_reducible refine Base.below_drewN ?_ _) | (refine Below.from (below_one _) ?_) | (refine Below.from (below_conv _ _ _) ?_) | (refine Below.setCell ?_ (by simp <;> omega) _) | (refine Below.from (by assumption) ?_))))).mono ?_); rintro e w1 ⟨rfl, p1⟩)
        | fail)
      go_ret
      exact ⟨ret_i64 HE.out.symm, by (focus repeat (first | exact Below.refl _ _ | assumption | (exact Hid.out (by assumption)) | (with_reducible refine Below.drew ?_) | (with_reducible refine Base.below_drewN ?_ _) | (refine Below.from (below_one _) ?_) | (refine Below.from (below_conv _ _ _) ?_) | (refine Below.setCell ?_ (by simp <;> omega) _) | (refine Below.from (by assumption) ?_)))⟩
    | true =>
      simp only [h1] at cM1
      have CM := Lib.hid cM1
      have HE : Hid (E = if spanB mn mx wl = false then 0 else 70) := Lib.hid (by rw [hE, h1]; cases spanB mn mx wl <;> rfl)
      clear hE cM cM1 h1 hr hlen
      cases h2 : spanB mn mx wl with
      | false =>
        simp only [h2] at cH
        have HE : Hid (0 = E) := Lib.hid (by rw [HE.out, h2]; rfl)
        have CH := Lib.hid cH
        clear cH h2
        go_enter Try.func9, Try.ntmps9
        go_wp2_with (first
          | (go_at_call 24; (with_reducible refine (CM.out _ (by (focus repeat (first | exact Below.refl _ _ | assumption | (exact Hid.out (by assumption)) | (with_reducible refine Below.drew ?_) | (with_reducible refine Base.below_drewN ?_ _) | (refine Below.from (below_one _) ?_) | (refine Below.from (below_conv _ _ _) ?_) | (refine Below.setCell ?_ (by simp <;> omega) _) | (refine Below.from (by assumption) ?_))))).mono ?_); rintro e w1 ⟨rfl, p1⟩; obtain ⟨x0, x1, x2, x3, x4⟩ := (HSB.out.below p1).cells)
          | (go_at_call 25; (with_reducible refine (CH.out _).mono ?_); rintro e w2 ⟨rfl, p2⟩)
          | fail)
        go_ret
        exact ⟨ret_i64 HE.out, by (focus repeat (first | exact Below.refl _ _ | assumption | (exact Hid.out (by assumption)) | (with_reducible refine Below.drew ?_) | (with_reducible refine Base.below_drewN ?_ _) | (refine Below.from (below_one _) ?_) | (refine Below.from (below_conv _ _ _) ?_) | (refine Below.setCell ?_ (by simp <;> omega) _) | (refine Below.from (by assumption) ?_)))⟩
      | true =>
        simp only [h2] at cH
        have HE : Hid (70 = E) := Lib.hid (by rw [HE.out, h2]; rfl)
        have CH := Lib.hid cH
        clear cH h2
        go_enter Try.func9, Try.ntmps9
        go_wp2_with (first
          | (go_at_call 24; (with_reducible refine (CM.out _ (by (focus repeat (first | exact Below.refl _ _ | assumption | (exact Hid.out (by assumption)) | (with_reducible refine Below.drew ?_) | (with_reducible refine Base.below_drewN ?_ _) | (refine Below.from (below_one _) ?_) | (refine Below.from (below_conv _ _ _) ?_) | (refine Below.setCell ?_ (by simp <;> omega) _) | (refine Below.from (by assumption) ?_))))).mono ?_); rintro e w1 ⟨rfl, p1⟩; obtain ⟨x0, x1, x2, x3, x4⟩ := (HSB.out.below p1).cells)
          | (go_at_call 25; (with_reducible refine (CH.out _).mono ?_); rintro e w2 ⟨rfl, p2⟩)
          | fail)
        go_ret
        exact ⟨ret_i64 HE.out, by (focus repeat (first | exact Below.refl _ _ | assumption | (exact Hid.out (by assumption)) | (with_reducible refine Below.drew ?_) | (with_reducible refine Base.below_drewN ?_ _) | (refine Below.from (below_one _) ?_) | (refine Below.from (below_conv _ _ _) ?_) | (refine Below.setCell ?_ (by simp <;> omega) _) | (refine Below.from (by assumption) ?_)))⟩
  clear cM cH
  rw [if_neg k1, if_neg k2] at hE
  by_cases k3 : k = 3
  · subst k3
    rw [if_pos rfl] at hE
    have cS1 := fun w => isSize_any mn w
    have cS2 := fun w => isSize_any mx w
    have cW := fun w => isWall_any wl w
    have tl : decide ((zs.length : Int) = 0) = ((len : Int) == 0) := by rw [hlen, Bool.eq_iff_iff]; simp
    rw [tl] at hE
    clear tl k1 k2 hr hlen
    cases h1 : sizeB mn with
    | false =>
      rw [h1] at hE
      simp only [h1] at cS1
      have HE : Hid (70 = E) := Lib.hid (by rw [hE]; rfl)
      have CS1 := Lib.hid cS1
      clear hE cS1 cS2 cW h1
      go_enter Try.func9, Try.ntmps9
      go_wp2_with (first
        | (go_at_call 26; (with_reducible refine (CS1.out _).mono ?_); rintro e w1 ⟨rfl, rfl⟩)
        | fail)
      go_ret
      exact ⟨ret_i64 HE.out, by (focus repeat (first | exact Below.refl _ _ | assumption | (exact Hid.out (by assumption)) | (with_reducible refine Below.drew ?_) | (with_reducible refine Base.below_drewN ?_ _) | (refine Below.from (below_one _) ?_) | (refine Below.from (below_conv _ _ _) ?_) | (refine Below.setCell ?_ (by simp <;> omega) _) | (refine Below.from (by assumption) ?_)))⟩
    | true =>
      rw [h1, Bool.true_and] at hE
      simp only [h1] at cS1
      have CS1 := Lib.hid cS1
      clear cS1 h1
      cases h2 : sizeB mx with
      | false =>
        rw [h2] at hE
        simp only [h2] at cS2
        have HE : Hid (70 = E) := Lib.hid (by rw [hE]; rfl)
        have CS2 := Lib.hid cS2
        clear hE cS2 cW h2
        go_enter Try.func9, Try.ntmps9
        go_wp2_with (first
          | (go_at_call 26; (with_reducible refine (CS1.out _).mono ?_); rintro e w1 ⟨rfl, rfl⟩)
          | (go_at_call 26; (with_reducible refine (CS2.out _).mono ?_); rintro e w1 ⟨rfl, rfl⟩)
          | fail)
        go_ret
        exact ⟨ret_i64 HE.out, by (focus repeat (first | exact Below.refl _ _ | assumption | (exact Hid.out (by assumption)) | (with_reducible refine Below.drew ?_) | (with_reducible refine Base.below_drewN ?_ _) | (refine Below.from (below_one _) ?_) | (refine Below.from (below_conv _ _ _) ?_) | (refine Below.setCell ?_ (by simp <;> omega) _) | (refine Below.from (by assumption) ?_)))⟩
      | true =>
        rw [h2, Bool.true_and] at hE
        simp only [h2] at cS2
        have CS2 := Lib.hid cS2
        clear cS2 h2
        cases h3 : decide (mn ≤ mx) with
        | false =>
          rw [h3] at hE
          have HE : Hid (70 = E) := Lib.hid (by rw [hE]; rfl)
          clear hE cW
          go_enter Try.func9, Try.ntmps9
          go_wp2_with (first
            | (go_at_call 26; (with_reducible refine (CS1.out _).mono ?_); rintro e w1 ⟨rfl, rfl⟩)
            | (go_at_call 26; (with_reducible refine (CS2.out _).mono ?_); rintro e w1 ⟨rfl, rfl⟩)
            | fail)
          go_ret
          exact ⟨ret_i64 HE.out, by (focus repeat (first | exact Below.refl _ _ | assumption | (exact Hid.out (by assumption)) | (with_reducible refine Below.drew ?_) | (with_reducible refine Base.below_drewN ?_ _) | (refine Below.from (below_one _) ?_) | (refine Below.from (below_conv _ _ _) ?_) | (refine Below.setCell ?_ (by simp <;> omega) _) | (refine Below.from (by assumption) ?_)))⟩
        | true =>
          rw [h3, Bool.true_and] at hE
          cases h4 : wallB wl with
          | false =>
            rw [h4] at hE
            simp only [h4] at cW
            have HE : Hid (70 = E) := Lib.hid (by rw [hE]; rfl)
            have CW := Lib.hid cW
            clear hE cW h4
            go_enter Try.func9, Try.ntmps9
            go_wp2_with (first
              | (go_at_call 26; (with_reducible refine (CS1.out _).mono ?_); rintro e w1 ⟨rfl, rfl⟩)
              | (go_at_call 26; (with_reducible refine (CS2.out _).mono ?_); rintro e w1 ⟨rfl, rfl⟩)
              | (go_at_call 27; (with_reducible refine (CW.out _).mono ?_); rintro e w1 ⟨rfl, rfl⟩)
              | fail)
            go_ret
            exact ⟨ret_i64 HE.out, by (focus repeat (first | exact Below.refl _ _ | assumption | (exact Hid.out (by assumption)) | (with_reducible refine Below.drew ?_) | (with_reducible refine Base.below_drewN ?_ _) | (refine Below.from (below_one _) ?_) | (refine Below.from (below_conv _ _ _) ?_) | (refine Below.setCell ?_ (by simp <;> omega) _) | (refine Below.from (by assumption) ?_)))⟩
          | true =>
            rw [h4, Bool.true_and] at hE
            simp only [h4] at cW
            have CW := Lib.hid cW
            clear cW h4
            cases h5 : ((len : Int) == 0) with
            | false =>
              rw [h5] at hE
              have HE : Hid (70 = E) := Lib.hid (by rw [hE]; rfl)
              clear hE
              go_enter Try.func9, Try.ntmps9
              go_wp2_with (first
                | (go_at_call 26; (with_reducible refine (CS1.out _).mono ?_); rintro e w1 ⟨rfl, rfl⟩)
                | (go_at_call 26; (with_reducible refine (CS2.out _).mono ?_); rintro e w1 ⟨rfl, rfl⟩)
                | (go_at_call 27; (with_reducible refine (CW.out _).mono ?_); rintro e w1 ⟨rfl, rfl⟩)
                | fail)
              go_ret
              exact ⟨ret_i64 HE.out, by (focus repeat (first | exact Below.refl _ _ | assumption | (exact Hid.out (by assumption)) | (with_reducible refine Below.drew ?_) | (with_reducible refine Base.below_drewN ?_ _) | (refine Below.from (below_one _) ?_) | (refine Below.from (below_conv _ _ _) ?_) | (refine Below.setCell ?_ (by simp <;> omega) _) | (refine Below.from (by assumption) ?_)))⟩
            | true =>
              rw [h5] at hE
              have HE : Hid (0 = E) := Lib.hid (by rw [hE]; rfl)
              clear hE
              go_enter Try.func9, Try.ntmps9
              go_wp2_with (first
                | (go_at_call 26; (with_reducible refine (CS1.out _).mono ?_); rintro e w1 ⟨rfl, rfl⟩)
                | (go_at_call 26; (with_reducible refine (CS2.out _).mono ?_); rintro e w1 ⟨rfl, rfl⟩)
                | (go_at_call 27; (with_reducible refine (CW.out _).mono ?_); rintro e w1 ⟨rfl, rfl⟩)
                | fail)
              go_ret
              exact ⟨ret_i64 HE.out, by (focus repeat (first | exact Below.refl _ _ | assumption | (exact Hid.out (by assumption)) | (with_reducible refine Below.drew ?_) | (with_reducible refine Base.below_drewN ?_ _) | (refine Below.from (below_one _) ?_) | (refine Below.from (below_conv _ _ _) ?_) | (refine Below.setCell ?_ (by simp <;> omega) _) | (refine Below.from (by assumption) ?_)))⟩
  · rw [if_neg k3] at hE
    have HE : Hid (70 = E) := Lib.hid (by rw [hE]; rfl)
    have t1 : (k == 1) = false := by simpa using k1
    have t2 : (k == 2) = false := by simpa using k2
    have t3 : (k == 3) = false := by simpa using k3
    clear hE k1 k2 k3 hr hlen
    go_enter Try.func9, Try.ntmps9
    go_wp2
    go_ret
    exact ⟨ret_i64 HE.out, by (focus repeat (first | exact Below.refl _ _ | assumption | (exact Hid.out (by assumption)) | (with_reducible refine Below.drew ?_) | (with_reducible refine Base.below_drewN ?_ _) | (refine Below.from (below_one _) ?_) | (refine Below.from (below_conv _ _ _) ?_) | (refine Below.setCell ?_ (by simp <;> omega) _) | (refine Below.from (by assumption) ?_)))⟩

end Go.Proofs.Ytlmogkhgangmgaa.Shape
