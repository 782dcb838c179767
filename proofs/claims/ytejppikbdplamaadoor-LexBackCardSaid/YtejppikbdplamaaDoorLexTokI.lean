/-
  The walk of the program's token of a piece.
-/
import Derived.Test.YtejppikbdplamaaDoorLexNumI
import Derived.Test.YtejppikbdplamaaDoorRunesUnq
namespace Go.Proofs.YtejppikbdplamaaDoor.Lex
open Go.RowKit
open Base Runes LexLib
set_option linter.unusedVariables false
set_option linter.unusedSimpArgs false

theorem first_rn (z : ByteArray) (h : 0 < z.size) : (Utf8.decode z 0).1 = (rn z).getD 0 0 := by
  unfold rn; rw [ps_step z 0 h]; rfl
theorem rn_pos {z : ByteArray} (h : rn z ≠ []) : 0 < z.size := by
  rcases Nat.eq_zero_or_pos z.size with h0 | h0
  · exfalso; apply h; unfold rn; rw [ps_end z 0 (by omega)]; rfl
  · exact h0

theorem idx_any (p : Nat → Bool) (s : ByteArray) : ∀ (f pos : Nat), s.size ≤ pos + f → (decide (0 ≤ Go.Lib.idxFuncFrom p true s f pos)) = ((ps s pos).map (·.1)).any p
  | f, pos, hf => by
    by_cases hp : pos < s.size
    · obtain ⟨g, rfl⟩ : ∃ g, f = g + 1 := ⟨f - 1, by omega⟩
      have hwd := ps_width s pos hp
      rw [ps_step s pos hp, List.map_cons, List.any_cons, Go.Lib.idxFuncFrom, if_pos hp]
      cases hq : p (Utf8.decode s pos).1 with
      | true => rw [if_pos rfl, Bool.true_or, decide_eq_true_iff]; omega
      | false => rw [if_neg (by simp), Bool.false_or]; exact idx_any p s g _ (by omega)
    · rw [ps_end s pos hp, Go.Lib.idxFuncFrom_end p true s f pos hp]; rfl

theorem hasSmall_any (z : ByteArray) (w : World) :
    Calls Tryd.prog 31 #[.string z, .func (.func 32) #[] #[]] w fun e w' => e = .returned (.bool (anyS (rn z))) ∧ Below w.heap.size w w' := by
  have h := containsFunc_any 32 (enters_of Tryd.func32 (by kernel_rfl) rfl) (fun r => decide (97 ≤ r ∧ r ≤ 122)) z w (fun W x hx hb => by
    refine (isSmall_any (x : Int) W).mono ?_
    rintro e w' ⟨rfl, rfl⟩
    refine ⟨ret_bool ?_, Below.refl _ _⟩
    rw [decide_eq_decide]; omega)
  rw [show decide (0 ≤ Go.Lib.idxFunc (fun r => decide (97 ≤ r ∧ r ≤ 122)) true z) = anyS (rn z) from idx_any _ z z.size 0 (by omega)] at h
  exact h

def pieV (r : Tok × Nat × Int) : Value := .tuple #[tokV r.1, .int .i64 (r.2.1 : Int), .int .i64 r.2.2]

set_option maxRecDepth 100000 in
set_option maxHeartbeats 4000000 in
theorem token_any (z : ByteArray) (hk : PieceOk z) (hs : z.size ≤ 1000000) (w : World) (hT : Tb w) :
    Calls Tryd.prog 15 #[.string z] w fun e w' => e = .returned (pieV (tokI z)) ∧ Below w.heap.size w w' := by
  obtain ⟨hne, h3s⟩ := hk
  have hpos := rn_pos hne
  have c1 := fun w => check_any z hs w
  have c2 := fun w hT => decode_any z hpos w hT
  simp only [first_rn z hpos] at c2
  obtain ⟨T, hTk⟩ : ∃ T, T = tokI z := ⟨_, rfl⟩
  rw [← hTk]
  unfold tokI at hTk
  obtain ⟨F, hF⟩ : ∃ F, F = (rn z).getD 0 0 := ⟨_, rfl⟩
  rw [← hF] at hTk h3s
  simp only [← hF] at c2
  have C2 := Lib.hid c2
  have HT := Lib.hid hT
  obtain ⟨K, hK⟩ : ∃ K, K = ckN z := ⟨_, rfl⟩
  obtain ⟨E, hE⟩ : ∃ E, E = ckE z := ⟨_, rfl⟩
  rw [← hK, ← hE] at hTk
  simp only [← hK, ← hE] at c1
  have C1 := Lib.hid c1
  clear c1 c2 hT hK hF
  by_cases hE0 : E = 0
  · have tE : (E != 0) = false := by rw [bne_eq_false_iff_eq]; exact hE0
    rw [if_neg (by omega)] at hTk
    have HS3 := Lib.hid h3s
    have HNE := Lib.hid hne
    have HE := Lib.hid (hE ▸ hE0 : ckE z = 0)
    clear h3s hne hE0 hE
    by_cases h1 : cls (F : Int) = 1
    · have t1 : (cls (F : Int) == 1) = true := by rw [beq_iff_eq]; exact h1
      rw [if_pos h1] at hTk
      have HK := Lib.hid hTk
      clear hTk
      go_enter Tryd.func15, Tryd.ntmps15
      go_wp2_with (first
        | (go_at_call 27; (with_reducible refine (C1.out _).mono ?_); rintro e w1 ⟨rfl, p1⟩)
        | (go_at_call 28; (with_reducible refine (C2.out _ ((HT.out.later (below_one _)).later p1)).mono ?_); rintro e w2 ⟨rfl, p2⟩; obtain ⟨⟨r0, r1, r2, r3⟩, f0, f1, f2, f3⟩ := tok_block rfl (p2.from p1))
        | (go_at_call 29; (with_reducible refine (class_any _ _).mono ?_); rintro e w' ⟨rfl, rfl⟩)
        | fail)
      obtain ⟨s0, s1, s2, s3⟩ := tok_set (.int .i64 0) (.string ⟨#[]⟩) (.int .i64 0) (.int .i64 0) r0 r1 r2 r3
      refine bodyPost_ret (v := pieV ((0, ⟨#[]⟩, 0, 0), 0, 0)) (by simp [results, Tryd.results15, go_sem, s0, s1, s2, s3, pieV, tokV]) rfl ⟨by rw [HK.out]; try first | rfl | simp [zT], ?_⟩
      exact below_set4 (Below.from (p2.from p1) (below_one _)) (Nat.le_refl _) _ _ _ _
    · have t1 : (cls (F : Int) == 1) = false := by rw [beq_eq_false_iff_ne]; exact h1
      rw [if_neg h1] at hTk
      by_cases h2 : cls (F : Int) = 2
      · have t2 : (cls (F : Int) == 2) = true := by rw [beq_iff_eq]; exact h2
        rw [if_pos h2] at hTk
        have HK := Lib.hid hTk
        clear hTk
        go_enter Tryd.func15, Tryd.ntmps15
        go_wp2_with (first
          | (go_at_call 27; (with_reducible refine (C1.out _).mono ?_); rintro e w1 ⟨rfl, p1⟩)
          | (go_at_call 28; (with_reducible refine (C2.out _ ((HT.out.later (below_one _)).later p1)).mono ?_); rintro e w2 ⟨rfl, p2⟩)
          | (go_at_call 29; (with_reducible refine (class_any _ _).mono ?_); rintro e w' ⟨rfl, rfl⟩)
          | (go_at_call 30; (with_reducible refine (lower_any z hs _).mono ?_); rintro e w3 ⟨rfl, p3⟩; obtain ⟨⟨r0, r1, r2, r3⟩, f0, f1, f2, f3⟩ := tok_block rfl (p3.from (p2.from p1)))
          | fail)
        obtain ⟨s0, s1, s2, s3⟩ := tok_set (.int .i64 1) (.string (lowS z)) (.int .i64 0) (.int .i64 0) r0 r1 r2 r3
        refine bodyPost_ret (v := pieV ((1, (lowS z), 0, 0), 0, 0)) (by simp [results, Tryd.results15, go_sem, s0, s1, s2, s3, pieV, tokV]) rfl ⟨by rw [HK.out]; try first | rfl | simp [zT], ?_⟩
        exact below_set4 (Below.from (p3.from (p2.from p1)) (below_one _)) (Nat.le_refl _) _ _ _ _
      · have t2 : (cls (F : Int) == 2) = false := by rw [beq_eq_false_iff_ne]; exact h2
        rw [if_neg h2] at hTk
        by_cases h3 : cls (F : Int) = 3
        · have t3 : (cls (F : Int) == 3) = true := by rw [beq_iff_eq]; exact h3
          rw [if_pos h3] at hTk
          have c3 := fun w => hasSmall_any z w
          cases hA : anyS (rn z) with
          | true =>
            rw [if_pos hA] at hTk
            simp only [hA] at c3
            have C3 := Lib.hid c3
            clear c3 hA
            have HK := Lib.hid hTk
            clear hTk
            go_enter Tryd.func15, Tryd.ntmps15
            go_wp2_with (first
              | (go_at_call 27; (with_reducible refine (C1.out _).mono ?_); rintro e w1 ⟨rfl, p1⟩)
              | (go_at_call 28; (with_reducible refine (C2.out _ ((HT.out.later (below_one _)).later p1)).mono ?_); rintro e w2 ⟨rfl, p2⟩)
              | (go_at_call 29; (with_reducible refine (class_any _ _).mono ?_); rintro e w' ⟨rfl, rfl⟩)
              | (go_at_call 31; (with_reducible refine (C3.out _).mono ?_); rintro e w3 ⟨rfl, p3⟩)
              | (go_at_call 25; (with_reducible refine (strClone_any z hs _).mono ?_); rintro e w4 ⟨rfl, p4⟩; obtain ⟨⟨r0, r1, r2, r3⟩, f0, f1, f2, f3⟩ := tok_block rfl (p4.from (p3.from (p2.from p1))))
              | fail)
            obtain ⟨s0, s1, s2, s3⟩ := tok_set (.int .i64 3) (.string z) (.int .i64 0) (.int .i64 0) r0 r1 r2 r3
            refine bodyPost_ret (v := pieV ((3, z, 0, 0), 0, 0)) (by simp [results, Tryd.results15, go_sem, s0, s1, s2, s3, pieV, tokV]) rfl ⟨by rw [HK.out]; try first | rfl | simp [zT], ?_⟩
            exact below_set4 (Below.from (p4.from (p3.from (p2.from p1))) (below_one _)) (Nat.le_refl _) _ _ _ _
          | false =>
            rw [if_neg (by rw [hA]; simp)] at hTk
            have hd : DigR (rn z) := fun r hr => by
              have h5 := HS3.out h3 r hr
              unfold anyS at hA
              rw [List.any_eq_false] at hA
              have h6 := hA r hr
              rw [decide_eq_true_iff] at h6
              unfold smallR at h5
              rw [decide_eq_true_iff] at h5
              omega
            have hz : encB (rn z) = z := encB_rn (digR_good hd)
            have c4 := fun w hT => number_any (rn z) hd HNE.out (by rw [hz]; exact hs) w hT
            simp only [hz] at c4
            have hTk2 : T = ((2, ⟨#[]⟩, nI (rn z), 0), 0, nE (rn z)) := by
              rw [hTk]; unfold nI nE; split <;> rfl
            obtain ⟨a, ha⟩ : ∃ a, a = nI (rn z) := ⟨_, rfl⟩
            obtain ⟨x, hx⟩ : ∃ x, x = nE (rn z) := ⟨_, rfl⟩
            rw [← ha, ← hx] at hTk2
            simp only [← ha, ← hx] at c4
            simp only [hA] at c3
            have C3 := Lib.hid c3
            have C4 := Lib.hid c4
            clear c3 c4 hA ha hx hz hd hTk
            have hTk := hTk2
            clear hTk2
            have HK := Lib.hid hTk
            clear hTk
            go_enter Tryd.func15, Tryd.ntmps15
            go_wp2_with (first
              | (go_at_call 27; (with_reducible refine (C1.out _).mono ?_); rintro e w1 ⟨rfl, p1⟩)
              | (go_at_call 28; (with_reducible refine (C2.out _ ((HT.out.later (below_one _)).later p1)).mono ?_); rintro e w2 ⟨rfl, p2⟩)
              | (go_at_call 29; (with_reducible refine (class_any _ _).mono ?_); rintro e w' ⟨rfl, rfl⟩)
              | (go_at_call 31; (with_reducible refine (C3.out _).mono ?_); rintro e w3 ⟨rfl, p3⟩)
              | (go_at_call 33; (with_reducible refine (C4.out _ ((((HT.out.later (below_one _)).later p1).later p2).later p3)).mono ?_); rintro e w4 ⟨rfl, p4⟩; obtain ⟨⟨r0, r1, r2, r3⟩, f0, f1, f2, f3⟩ := tok_block rfl (p4.from (p3.from (p2.from p1))))
              | fail)
            obtain ⟨s0, s1, s2, s3⟩ := tok_set (.int .i64 2) (.string ⟨#[]⟩) (.int .i64 a) (.int .i64 0) r0 r1 r2 r3
            refine bodyPost_ret (v := pieV ((2, ⟨#[]⟩, a, 0), 0, x)) (by simp [results, Tryd.results15, go_sem, s0, s1, s2, s3, pieV, tokV]) rfl ⟨by rw [HK.out]; try first | rfl | simp [zT], ?_⟩
            exact below_set4 (Below.from (p4.from (p3.from (p2.from p1))) (below_one _)) (Nat.le_refl _) _ _ _ _
        · have t3 : (cls (F : Int) == 3) = false := by rw [beq_eq_false_iff_ne]; exact h3
          rw [if_neg h3] at hTk
          by_cases h34 : F = 34
          · have t34 : ((F : Int) == 34) = true := by rw [beq_iff_eq]; omega
            rw [if_pos h34] at hTk
            have c5 := fun w => unquote_any z hs w
            obtain ⟨us, hus⟩ : ∃ x, x = uqS z := ⟨_, rfl⟩
            obtain ⟨ue, hue⟩ : ∃ x, x = uqE z := ⟨_, rfl⟩
            rw [← hus, ← hue] at hTk
            simp only [← hus, ← hue] at c5
            have C5 := Lib.hid c5
            clear c5 hus hue
            have HK := Lib.hid hTk
            clear hTk
            go_enter Tryd.func15, Tryd.ntmps15
            go_wp2_with (first
              | (go_at_call 27; (with_reducible refine (C1.out _).mono ?_); rintro e w1 ⟨rfl, p1⟩)
              | (go_at_call 28; (with_reducible refine (C2.out _ ((HT.out.later (below_one _)).later p1)).mono ?_); rintro e w2 ⟨rfl, p2⟩)
              | (go_at_call 29; (with_reducible refine (class_any _ _).mono ?_); rintro e w' ⟨rfl, rfl⟩)
              | (go_at_call 34; (with_reducible refine (C5.out _).mono ?_); rintro e w3 ⟨rfl, p3⟩; obtain ⟨⟨r0, r1, r2, r3⟩, f0, f1, f2, f3⟩ := tok_block rfl (p3.from (p2.from p1)))
              | fail)
            obtain ⟨s0, s1, s2, s3⟩ := tok_set (.int .i64 4) (.string us) (.int .i64 0) (.int .i64 0) r0 r1 r2 r3
            refine bodyPost_ret (v := pieV ((4, us, 0, 0), 0, ue)) (by simp [results, Tryd.results15, go_sem, s0, s1, s2, s3, pieV, tokV]) rfl ⟨by rw [HK.out]; try first | rfl | simp [zT], ?_⟩
            exact below_set4 (Below.from (p3.from (p2.from p1)) (below_one _)) (Nat.le_refl _) _ _ _ _
          · have t34 : ((F : Int) == 34) = false := by rw [beq_eq_false_iff_ne]; omega
            rw [if_neg h34] at hTk
            by_cases hsg : F = 61 ∨ F = 58 ∨ F = 44 ∨ F = 45
            · have ts : decide ((F : Int) = 61 ∨ (F : Int) = 58 ∨ (F : Int) = 44 ∨ (F : Int) = 45) = true := by rw [decide_eq_true_iff]; omega
              rw [if_pos hsg] at hTk
              have HK := Lib.hid hTk
              clear hTk
              go_enter Tryd.func15, Tryd.ntmps15
              go_wp2_with (first
                | (go_at_call 27; (with_reducible refine (C1.out _).mono ?_); rintro e w1 ⟨rfl, p1⟩)
                | (go_at_call 28; (with_reducible refine (C2.out _ ((HT.out.later (below_one _)).later p1)).mono ?_); rintro e w2 ⟨rfl, p2⟩)
                | (go_at_call 29; (with_reducible refine (class_any _ _).mono ?_); rintro e w' ⟨rfl, rfl⟩)
                | (go_at_call 35; (with_reducible refine (isSign_any _ _).mono ?_); rintro e w' ⟨rfl, rfl⟩)
                | (go_at_call 25; (with_reducible refine (strClone_any z hs _).mono ?_); rintro e w4 ⟨rfl, p4⟩; obtain ⟨⟨r0, r1, r2, r3⟩, f0, f1, f2, f3⟩ := tok_block rfl (p4.from (p2.from p1)))
                | fail)
              obtain ⟨s0, s1, s2, s3⟩ := tok_set (.int .i64 5) (.string z) (.int .i64 0) (.int .i64 0) r0 r1 r2 r3
              refine bodyPost_ret (v := pieV ((5, z, 0, 0), 0, 0)) (by simp [results, Tryd.results15, go_sem, s0, s1, s2, s3, pieV, tokV]) rfl ⟨by rw [HK.out]; try first | rfl | simp [zT], ?_⟩
              exact below_set4 (Below.from (p4.from (p2.from p1)) (below_one _)) (Nat.le_refl _) _ _ _ _
            · have ts : decide ((F : Int) = 61 ∨ (F : Int) = 58 ∨ (F : Int) = 44 ∨ (F : Int) = 45) = false := by rw [decide_eq_false_iff_not]; omega
              rw [if_neg hsg] at hTk
              have HK := Lib.hid hTk
              clear hTk
              go_enter Tryd.func15, Tryd.ntmps15
              go_wp2_with (first
                | (go_at_call 27; (with_reducible refine (C1.out _).mono ?_); rintro e w1 ⟨rfl, p1⟩)
                | (go_at_call 28; (with_reducible refine (C2.out _ ((HT.out.later (below_one _)).later p1)).mono ?_); rintro e w2 ⟨rfl, p2⟩; obtain ⟨⟨r0, r1, r2, r3⟩, f0, f1, f2, f3⟩ := tok_block rfl (p2.from p1))
                | (go_at_call 29; (with_reducible refine (class_any _ _).mono ?_); rintro e w' ⟨rfl, rfl⟩)
                | (go_at_call 35; (with_reducible refine (isSign_any _ _).mono ?_); rintro e w' ⟨rfl, rfl⟩)
                | fail)
              obtain ⟨s0, s1, s2, s3⟩ := tok_set (.int .i64 0) (.string ⟨#[]⟩) (.int .i64 0) (.int .i64 0) r0 r1 r2 r3
              refine bodyPost_ret (v := pieV ((0, ⟨#[]⟩, 0, 0), 0, 50)) (by simp [results, Tryd.results15, go_sem, s0, s1, s2, s3, pieV, tokV]) rfl ⟨by rw [HK.out]; try first | rfl | simp [zT], ?_⟩
              exact below_set4 (Below.from (p2.from p1) (below_one _)) (Nat.le_refl _) _ _ _ _
  · have tE : (E != 0) = true := by rw [bne_iff_ne]; exact hE0
    rw [if_pos hE0] at hTk
    clear hE hE0
    have HK := Lib.hid hTk
    clear hTk
    go_enter Tryd.func15, Tryd.ntmps15
    go_wp2_with (first
      | (go_at_call 27; (with_reducible refine (C1.out _).mono ?_); rintro e w1 ⟨rfl, p1⟩; obtain ⟨⟨r0, r1, r2, r3⟩, f0, f1, f2, f3⟩ := tok_block rfl (p1))
      | fail)
    obtain ⟨s0, s1, s2, s3⟩ := tok_set (.int .i64 0) (.string ⟨#[]⟩) (.int .i64 0) (.int .i64 0) r0 r1 r2 r3
    refine bodyPost_ret (v := pieV ((0, ⟨#[]⟩, 0, 0), K, E)) (by simp [results, Tryd.results15, go_sem, s0, s1, s2, s3, pieV, tokV]) rfl ⟨by rw [HK.out]; try first | rfl | simp [zT], ?_⟩
    exact below_set4 (Below.from (p1) (below_one _)) (Nat.le_refl _) _ _ _ _

end Go.Proofs.YtejppikbdplamaaDoor.Lex
