/-
  The walks of the document's own tokens: one, and all of a line.
-/
import Derived.Test.YtejppikbdplamaaDoorLexText
namespace Go.Proofs.YtejppikbdplamaaDoor.Lex
open Go.RowKit
open Base Runes
set_option linter.unusedVariables false
set_option linter.unusedSimpArgs false

/-- The four cells of a block. -/
theorem blk4 {w : World} {n : Nat} {t : TypeId} {v0 v1 v2 v3 : Value} (h : w.heap[n]? = some (.cells #[v0, v1, v2, v3] t)) :
    (w.cell? ⟨n, 0, none⟩ = some v0 ∧ w.cell? ⟨n, 1, none⟩ = some v1 ∧ w.cell? ⟨n, 2, none⟩ = some v2 ∧ w.cell? ⟨n, 3, none⟩ = some v3) ∧
    (w.frozen? ⟨n, 0, none⟩ = false ∧ w.frozen? ⟨n, 1, none⟩ = false ∧ w.frozen? ⟨n, 2, none⟩ = false ∧ w.frozen? ⟨n, 3, none⟩ = false) := by
  simp [World.cell?, World.frozen?, h]
/-- Two blocks that the call has laid, behind other calls. -/
theorem two_blocks {w w1 : World} {A B : Obj} (p : Below ((w.alloc A).alloc B).heap.size ((w.alloc A).alloc B) w1) : w1.heap[w.heap.size]? = some A ∧ w1.heap[w.heap.size + 1]? = some B := by
  constructor
  · rw [p.block _ (by simp; omega), Lib.alloc_old _ _ _ (by simp)]; exact heap_alloc_new w _
  · rw [p.block _ (by simp)]
    have := heap_alloc_new (w.alloc A) B
    simpa using this

set_option maxRecDepth 100000 in
set_option maxHeartbeats 8000000 in
theorem rone_any (ao : Option Addr) (cap : Nat) (R : List Nat) (p : Nat) (w : World) (hl : R.length ≤ 100000) (hcap : R.length ≤ cap) (hcm : cap ≤ maxLen) (hp : p < R.length) (hr : Reads rV w ao R) :
    Calls Tryd.prog 18 #[.slice ao R.length cap, .int .i64 (p : Int)] w fun e w' => e = .returned (resV (oneR R p)) ∧ Below w.heap.size w w' := by
  have HR := Lib.hid hr
  obtain ⟨b0, off0, rfl, hcx⟩ := hr.at_ hp
  obtain ⟨x, hx⟩ : ∃ x, x = R[p] := ⟨_, rfl⟩
  have hgx : R.getD p 0 = x := by rw [hx]; simp [List.getD, List.getElem?_eq_getElem hp]
  rw [← hx] at hcx
  unfold rV at hcx
  have hcx0 : ((w.alloc (.cells #[.int .i64 0, .string ⟨#[]⟩, .int .i64 0, .int .i64 0] 37)).alloc (.cells #[.int .i64 0, .string ⟨#[]⟩, .int .i64 0, .int .i64 (p : Int)] 37)).cell? ⟨b0, off0 + p, none⟩ = some (.int .i32 (x : Int)) := cell_below hcx (below_two _ _)
  obtain ⟨T, hT⟩ : ∃ T, T = oneR R p := ⟨_, rfl⟩
  rw [← hT]
  unfold oneR at hT
  rw [hgx] at hT
  clear hr hx hgx
  obtain ⟨E, hE⟩ : ∃ E, E = endR R p := ⟨_, rfl⟩
  have hEl := endR_le R p hp
  rw [← hE] at hT hEl
  have HRW : ∀ A B : Obj, Reads rV ((w.alloc A).alloc B) (some ⟨b0, off0, none⟩) R := fun A B => HR.out.below (below_two A B)
  have HRD : ∀ A B : Obj, Reads rV ((w.alloc A).alloc B) (some ⟨b0, off0 + p, none⟩) (cutR R p E) := fun A B => reads_cut (HRW A B) p E hEl.2
  have hcl := cutR_length R p E hEl.2
  have hce := rend_any (some ⟨b0, off0, none⟩) cap R p ((w.alloc (.cells #[.int .i64 0, .string ⟨#[]⟩, .int .i64 0, .int .i64 0] 37)).alloc (.cells #[.int .i64 0, .string ⟨#[]⟩, .int .i64 0, .int .i64 (p : Int)] 37)) (by omega) hp (HRW _ _)
  simp only [← hE] at hce
  obtain ⟨z, hz⟩ : ∃ z, z = encB (cutR R p E) := ⟨_, rfl⟩
  have hzs : z.size ≤ 1000000 := by
    have := encB_size (cutR R p E)
    rw [hcl, ← hz] at this; omega
  have hcv : ∀ A B : Obj, (convert 45 9 (.slice (some ⟨b0, off0 + p, none⟩) (E - p) (cap - p))).run Tryd.prog ((w.alloc A).alloc B) = .ok (.string z) ((w.alloc A).alloc B) := fun A B => by
    rw [hz]
    exact run_conv_runes (P := Tryd.prog) (HRD A B) 45 9 21 Tryd.underlying45 Tryd.underlying21 Tryd.underlying9 (E - p) (cap - p) hcl
  rw [← hz] at hT
  have HCE := Lib.hid hce
  have HCV := Lib.hid hcv
  have HRW2 := Lib.hid HRW
  have HRD2 := Lib.hid HRD
  have HCL := Lib.hid hcl
  have HZ := Lib.hid hz
  clear hce hE hcv HRW HRD hcl hz hcx
  by_cases h0 : cls (x : Int) = 0
  · rw [if_pos h0] at hT
    have HT := Lib.hid hT
    have t0 : (cls (x : Int) == 0) = true := by rw [beq_iff_eq]; exact h0
    clear hT h0
    go_enter Tryd.func18, Tryd.ntmps18
    go_wp2_with (first | (go_at_call 17; (with_reducible refine (rclass_any _ _).mono ?_); rintro e w' ⟨rfl, rfl⟩) | fail)
    refine bodyPost_ret (v := resV (zT, 0, p, 40)) (by simp [results, Tryd.results18, go_sem, resV, tokV, zT]) rfl ⟨by rw [HT.out], ?_⟩
    first | exact below_two _ _ | (focus repeat (first | exact Below.refl _ _ | assumption | (exact Hid.out (by assumption)) | (with_reducible refine Below.drew ?_) | (with_reducible refine below_drewN ?_ _) | (refine Below.from (below_one _) ?_) | (refine Below.from (below_conv _ _ _) ?_) | (refine Below.setCell ?_ (by simp <;> omega) _) | (refine Below.from (by assumption) ?_)))
  · have t0 : (cls (x : Int) == 0) = false := by rw [beq_eq_false_iff_ne]; exact h0
    rw [if_neg h0] at hT
    by_cases h2 : cls (x : Int) = 2
    · rw [if_pos h2] at hT
      have t2 : (cls (x : Int) == 2) = true := by rw [beq_iff_eq]; exact h2
      have HT := Lib.hid hT
      have hcv1 := HCV.out (.cells #[.int .i64 0, .string ⟨#[]⟩, .int .i64 0, .int .i64 0] 37) (.cells #[.int .i64 1, .string ⟨#[]⟩, .int .i64 0, .int .i64 (p : Int)] 37)
      clear hT h0 h2
      go_enter Tryd.func18, Tryd.ntmps18
      go_wp2_with (first
        | (go_at_call 17; (with_reducible refine (rclass_any _ _).mono ?_); rintro e w' ⟨rfl, rfl⟩)
        | (go_at_call 36; (with_reducible refine (HCE.out).mono ?_); rintro e w' ⟨rfl, rfl⟩)
        | (go_at_call 37; (with_reducible refine (rlower_any z hzs _).mono ?_); rintro e w1 ⟨rfl, p1⟩; obtain ⟨q0, q1⟩ := two_blocks p1; obtain ⟨⟨r0, r1, r2, r3⟩, f0, f1, f2, f3⟩ := blk4 q0; obtain ⟨⟨m0, m1, m2, m3⟩, g0, g1, g2, g3⟩ := blk4 q1; clear q0 q1)
        | fail)
      have o : ∀ i, (w1.setCell ⟨w.heap.size + 1, 1, none⟩ (.string (lowS z))).cell? ⟨w.heap.size, i, none⟩ = w1.cell? ⟨w.heap.size, i, none⟩ := fun i => World.cell?_setCell_other _ _ _ _ (by intro e; injection e with e1; omega)
      obtain ⟨s0, s1, s2, s3⟩ := tok_set (.int .i64 1) (.string (lowS z)) (.int .i64 0) (.int .i64 (p : Int)) ((o 0).trans r0) ((o 1).trans r1) ((o 2).trans r2) ((o 3).trans r3)
      clear o
      refine bodyPost_ret (v := resV ((1, lowS z, 0, (p : Int)), E, 0, 0)) (by simp [results, Tryd.results18, go_sem, s0, s1, s2, s3, resV, tokV]) rfl ⟨by rw [HT.out], ?_⟩
      exact below_set4 ((p1.from (below_two _ _)).setCell (p := ⟨w.heap.size + 1, 1, none⟩) (Nat.le_succ _) _) (Nat.le_refl _) _ _ _ _
    · have t2 : (cls (x : Int) == 2) = false := by rw [beq_eq_false_iff_ne]; exact h2
      rw [if_neg h2] at hT
      by_cases h3 : cls (x : Int) = 3
      · rw [if_pos h3] at hT
        have t3 : (cls (x : Int) == 3) = true := by rw [beq_iff_eq]; exact h3
        have hpl := rplain_any (some ⟨b0, off0 + p, none⟩) (cap - p) (cutR R p E) ((w.alloc (.cells #[.int .i64 0, .string ⟨#[]⟩, .int .i64 0, .int .i64 0] 37)).alloc (.cells #[.int .i64 0, .string ⟨#[]⟩, .int .i64 0, .int .i64 (p : Int)] 37)) (by rw [HCL.out]; unfold maxLen; omega) (HRD2.out _ _)
        simp only [HCL.out] at hpl
        cases hany : anyL (cutR R p E) with
        | true =>
          rw [if_pos hany] at hT
          simp only [hany] at hpl
          have HPL := Lib.hid hpl
          have HT := Lib.hid hT
          have hcv3 := HCV.out (.cells #[.int .i64 0, .string ⟨#[]⟩, .int .i64 0, .int .i64 0] 37) (.cells #[.int .i64 3, .string ⟨#[]⟩, .int .i64 0, .int .i64 (p : Int)] 37)
          clear hT h0 h2 h3 hpl hany
          go_enter Tryd.func18, Tryd.ntmps18
          go_wp2_with (first
            | (go_at_call 17; (with_reducible refine (rclass_any _ _).mono ?_); rintro e w' ⟨rfl, rfl⟩)
            | (go_at_call 36; (with_reducible refine (HCE.out).mono ?_); rintro e w' ⟨rfl, rfl⟩)
            | (go_at_call 38; (with_reducible refine (HPL.out).mono ?_); rintro e w' ⟨rfl, rfl⟩)
            | fail)
          refine bodyPost_ret (v := resV ((3, z, 0, (p : Int)), E, 0, 0)) (by simp [results, Tryd.results18, go_sem, resV, tokV, zT]) rfl ⟨by rw [HT.out], ?_⟩
          first | exact below_two _ _ | (focus repeat (first | exact Below.refl _ _ | assumption | (exact Hid.out (by assumption)) | (with_reducible refine Below.drew ?_) | (with_reducible refine below_drewN ?_ _) | (refine Below.from (below_one _) ?_) | (refine Below.from (below_conv _ _ _) ?_) | (refine Below.setCell ?_ (by simp <;> omega) _) | (refine Below.from (by assumption) ?_)))
        | false =>
          rw [if_neg (by rw [hany]; simp)] at hT
          simp only [hany] at hpl
          have HPL := Lib.hid hpl
          have hnu := rnumber_any (some ⟨b0, off0 + p, none⟩) (cap - p) (cutR R p E) ((w.alloc (.cells #[.int .i64 0, .string ⟨#[]⟩, .int .i64 0, .int .i64 0] 37)).alloc (.cells #[.int .i64 2, .string ⟨#[]⟩, .int .i64 0, .int .i64 (p : Int)] 37)) (by rw [HCL.out]; unfold maxLen; omega) (HRD2.out _ _)
          obtain ⟨N, hN⟩ : ∃ N, N = numR (cutR R p E) := ⟨_, rfl⟩
          simp only [HCL.out, ← hN] at hnu
          rw [← hN] at hT
          have HNU := Lib.hid hnu
          clear hpl hany hnu hN
          by_cases hn : N < 0
          · rw [if_pos hn] at hT
            have HT := Lib.hid hT
            clear hT h0 h2 h3
            go_enter Tryd.func18, Tryd.ntmps18
            go_wp2_with (first
              | (go_at_call 17; (with_reducible refine (rclass_any _ _).mono ?_); rintro e w' ⟨rfl, rfl⟩)
              | (go_at_call 36; (with_reducible refine (HCE.out).mono ?_); rintro e w' ⟨rfl, rfl⟩)
              | (go_at_call 38; (with_reducible refine (HPL.out).mono ?_); rintro e w' ⟨rfl, rfl⟩)
              | (go_at_call 39; (with_reducible refine (HNU.out).mono ?_); rintro e w' ⟨rfl, rfl⟩)
              | fail)
            refine bodyPost_ret (v := resV (zT, 0, p, 50)) (by simp [results, Tryd.results18, go_sem, resV, tokV, zT]) rfl ⟨by rw [HT.out], ?_⟩
            first | exact below_two _ _ | (focus repeat (first | exact Below.refl _ _ | assumption | (exact Hid.out (by assumption)) | (with_reducible refine Below.drew ?_) | (with_reducible refine below_drewN ?_ _) | (refine Below.from (below_one _) ?_) | (refine Below.from (below_conv _ _ _) ?_) | (refine Below.setCell ?_ (by simp <;> omega) _) | (refine Below.from (by assumption) ?_)))
          · rw [if_neg hn] at hT
            have HT := Lib.hid hT
            clear hT h0 h2 h3
            go_enter Tryd.func18, Tryd.ntmps18
            go_wp2_with (first
              | (go_at_call 17; (with_reducible refine (rclass_any _ _).mono ?_); rintro e w' ⟨rfl, rfl⟩)
              | (go_at_call 36; (with_reducible refine (HCE.out).mono ?_); rintro e w' ⟨rfl, rfl⟩)
              | (go_at_call 38; (with_reducible refine (HPL.out).mono ?_); rintro e w' ⟨rfl, rfl⟩)
              | (go_at_call 39; (with_reducible refine (HNU.out).mono ?_); rintro e w' ⟨rfl, rfl⟩)
              | fail)
            refine bodyPost_ret (v := resV ((2, ⟨#[]⟩, N, (p : Int)), E, 0, 0)) (by simp [results, Tryd.results18, go_sem, resV, tokV, zT]) rfl ⟨by rw [HT.out], ?_⟩
            first | exact below_two _ _ | (focus repeat (first | exact Below.refl _ _ | assumption | (exact Hid.out (by assumption)) | (with_reducible refine Below.drew ?_) | (with_reducible refine below_drewN ?_ _) | (refine Below.from (below_one _) ?_) | (refine Below.from (below_conv _ _ _) ?_) | (refine Below.setCell ?_ (by simp <;> omega) _) | (refine Below.from (by assumption) ?_)))
      · rw [if_neg h3] at hT
        have t3 : (cls (x : Int) == 3) = false := by rw [beq_eq_false_iff_ne]; exact h3
        by_cases h34 : x = 34
        · rw [if_pos h34] at hT
          have t34 : ((x : Int) == 34) = true := by rw [beq_iff_eq]; omega
          have hqt := rtext_any (some ⟨b0, off0, none⟩) cap R p ((w.alloc (.cells #[.int .i64 0, .string ⟨#[]⟩, .int .i64 0, .int .i64 0] 37)).alloc (.cells #[.int .i64 0, .string ⟨#[]⟩, .int .i64 0, .int .i64 (p : Int)] 37)) hl hcap hcm hp (HRW2.out _ _)
          rw [← hT] at hqt
          obtain ⟨⟨k', s', n', a'⟩, to', at', e'⟩ := T
          simp only [resV, tokV] at hqt
          have HQT := Lib.hid hqt
          clear hT hqt h0 h2 h3 h34
          go_enter Tryd.func18, Tryd.ntmps18
          go_wp2_with (first
            | (go_at_call 17; (with_reducible refine (rclass_any _ _).mono ?_); rintro e w' ⟨rfl, rfl⟩)
            | (go_at_call 40; (with_reducible refine HQT.out.mono ?_); rintro e w1 ⟨rfl, p1⟩; obtain ⟨q0, q1⟩ := two_blocks p1; obtain ⟨⟨r0, r1, r2, r3⟩, f0, f1, f2, f3⟩ := blk4 q0; clear q0 q1)
            | fail)
          obtain ⟨s0, s1, s2, s3⟩ := tok_set (.int .i64 k') (.string s') (.int .i64 n') (.int .i64 a') r0 r1 r2 r3
          refine bodyPost_ret (v := resV ((k', s', n', a'), to', at', e')) (by simp [results, Tryd.results18, go_sem, s0, s1, s2, s3, resV, tokV]) rfl ⟨rfl, ?_⟩
          exact below_set4 (p1.from (below_two _ _)) (Nat.le_refl _) _ _ _ _
        · rw [if_neg h34] at hT
          have t34 : ((x : Int) == 34) = false := by rw [beq_eq_false_iff_ne]; omega
          by_cases hs : x = 61 ∨ x = 58 ∨ x = 44 ∨ x = 45
          · rw [if_pos hs] at hT
            obtain ⟨y, hy⟩ : ∃ y, y = encB (cutR R p (p + 1)) := ⟨_, rfl⟩
            rw [← hy] at hT
            have hcl1 : (cutR R p (p + 1)).length = 1 := by rw [cutR_length _ _ _ (by omega)]; omega
            have hcv5 := run_conv_runes (P := Tryd.prog) (reads_cut (HRW2.out (.cells #[.int .i64 0, .string ⟨#[]⟩, .int .i64 0, .int .i64 0] 37) (.cells #[.int .i64 5, .string ⟨#[]⟩, .int .i64 0, .int .i64 (p : Int)] 37)) p (p + 1) (by omega)) 45 9 21 Tryd.underlying45 Tryd.underlying21 Tryd.underlying9 1 (cap - p) hcl1
            rw [← hy] at hcv5
            have HT := Lib.hid hT
            clear hT h0 h2 h3 h34 hy hcl1
            go_enter Tryd.func18, Tryd.ntmps18
            go_wp2_with (first
              | (go_at_call 17; (with_reducible refine (rclass_any _ _).mono ?_); rintro e w' ⟨rfl, rfl⟩)
              | fail)
            all_goals first | (exfalso; simp only [beq_iff_eq, beq_eq_false_iff_ne, ne_eq] at *; omega) | skip
            all_goals
              refine bodyPost_ret (v := resV ((5, y, 0, (p : Int)), p + 1, 0, 0)) (by simp [results, Tryd.results18, go_sem, resV, tokV, zT]) rfl ⟨by rw [HT.out], ?_⟩
              first | exact below_two _ _ | (focus repeat (first | exact Below.refl _ _ | assumption | (exact Hid.out (by assumption)) | (with_reducible refine Below.drew ?_) | (with_reducible refine below_drewN ?_ _) | (refine Below.from (below_one _) ?_) | (refine Below.from (below_conv _ _ _) ?_) | (refine Below.setCell ?_ (by simp <;> omega) _) | (refine Below.from (by assumption) ?_)))
          · rw [if_neg hs] at hT
            have HT := Lib.hid hT
            have u1 : ((x : Int) == 61) = false := by rw [beq_eq_false_iff_ne]; omega
            have u2 : ((x : Int) == 58) = false := by rw [beq_eq_false_iff_ne]; omega
            have u3 : ((x : Int) == 44) = false := by rw [beq_eq_false_iff_ne]; omega
            have u4 : ((x : Int) == 45) = false := by rw [beq_eq_false_iff_ne]; omega
            clear hT h0 h2 h3 h34 hs
            go_enter Tryd.func18, Tryd.ntmps18
            go_wp2_with (first
              | (go_at_call 17; (with_reducible refine (rclass_any _ _).mono ?_); rintro e w' ⟨rfl, rfl⟩)
              | fail)
            refine bodyPost_ret (v := resV (zT, 0, p, 50)) (by simp [results, Tryd.results18, go_sem, resV, tokV, zT]) rfl ⟨by rw [HT.out], ?_⟩
            first | exact below_two _ _ | (focus repeat (first | exact Below.refl _ _ | assumption | (exact Hid.out (by assumption)) | (with_reducible refine Below.drew ?_) | (with_reducible refine below_drewN ?_ _) | (refine Below.from (below_one _) ?_) | (refine Below.from (below_conv _ _ _) ?_) | (refine Below.setCell ?_ (by simp <;> omega) _) | (refine Below.from (by assumption) ?_)))

end Go.Proofs.YtejppikbdplamaaDoor.Lex
