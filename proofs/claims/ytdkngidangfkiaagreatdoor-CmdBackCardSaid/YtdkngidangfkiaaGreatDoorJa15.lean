/-
  Joined out of: The walks of what takes the next token, for each question.
-/
import Derived.Test.YtdkngidangfkiaaGreatDoorJa14
namespace Go.Proofs.YtdkngidangfkiaaGreatDoor.Cmd
open Go.RowKit
open Base
open Lex (Tok tkC tkC_length tokV zT tok_cells)
set_option linter.unusedVariables false
set_option linter.unusedSimpArgs false
set_option maxRecDepth 100000 in
set_option maxHeartbeats 1000000 in
theorem next_word (P : Nat) (q : Tok → Bool) (B n : Nat) (l : List Tok) (w : World) (hR : RdAt w B l n)
    (hq : ∀ t, l.head? = some t → ∀ w2, Below w.heap.size w w2 → Calls Tryz.prog 98 #[tokV t, .pointer (some ⟨P, 0, none⟩)] w2 fun e w3 => e = .returned (.bool (q t)) ∧ Below w2.heap.size w2 w3) :
    Calls Tryz.prog 97 #[.pointer (some ⟨B, 0, none⟩), .func (.func 98) #[] #[.pointer (some ⟨P, 0, none⟩)]] w fun e w' => NextSays B n (nx q l).1 (nx q l).2 w e w' := by
  have hlt := hR.lt
  obtain ⟨ao, cap, h1, h2, h3, h4, h5⟩ := hR
  have c0 : w.cell? ⟨B, 0, none⟩ = some (.slice ao l.length cap) := by simp [World.cell?, h1]
  have c1 : w.cell? ⟨B, 1, none⟩ = some (.int .i64 (n : Int)) := by simp [World.cell?, h1]
  have hR2 : ∀ w2, Below w.heap.size w w2 → RdAt w2 B l n := fun w2 hb => RdAt.below ⟨ao, cap, h1, h2, h3, h4, h5⟩ hb
  have HCAP := Lib.hid h3
  have h3 : cap ≤ 9223372036854775807 := by unfold maxLen at h3; exact h3
  cases l with
  | nil =>
    have HR := Lib.hid hR2
    clear hR2 h1 h4 h5 hq
    rw [List.length_nil] at c0
    go_enter Tryz.func97, Tryz.ntmps97
    go_wp2
    refine bodyPost_ret (v := .tuple #[tokV zT, .bool false]) (by simp [results, Tryz.results97, go_sem, tokV, zT]) rfl ⟨rfl, HR.out _ (below_one _), kp_alloc (grown_refl w _) _⟩
  | cons t r =>
    have hq1 := hq t rfl
    obtain ⟨b, off, hao, hc⟩ := h4.at_ (j := 0) (by simp)
    subst hao
    have hb0 : b < B := h5 _ rfl
    have hb1 : b < w.heap.size := Nat.lt_trans hb0 hlt
    have hb2 : b ≠ B := Nat.ne_of_lt hb0
    have ht := reads_tail h4
    obtain ⟨tk, ts, tn, ta⟩ := t
    have d0 : w.cell? ⟨b, off, none⟩ = some (.int .i64 tk) := by have := hc 0 (by decide); simpa [tkC] using this
    have d1 : w.cell? ⟨b, off + 1, none⟩ = some (.string ts) := by have := hc 1 (by decide); simpa [tkC] using this
    have d2 : w.cell? ⟨b, off + 2, none⟩ = some (.int .i64 tn) := by have := hc 2 (by decide); simpa [tkC] using this
    have d3 : w.cell? ⟨b, off + 3, none⟩ = some (.int .i64 ta) := by have := hc 3 (by decide); simpa [tkC] using this
    rw [List.length_cons] at c0 h2
    have hlen0 : (((r.length + 1 : Nat) : Int) == 0) = false := by rw [beq_eq_false_iff_ne]; omega
    have hup : (0 : Int) < ((r.length + 1 : Nat) : Int) := by omega
    unfold tokV at hq1
    dsimp only at hq1
    have f0 : w.frozen? ⟨B, 0, none⟩ = false := by simp [World.frozen?, h1]
    obtain ⟨L, hL⟩ : ∃ L, L = r.length + 1 := ⟨_, rfl⟩
    rw [← hL] at c0 h2 hlen0 hup
    have HL := Lib.hid hL
    have HQ := Lib.hid hq1
    have H1 := Lib.hid h1
    have HT := Lib.hid ht
    clear hc h4 h5 hq hq1 h1 ht hL
    cases hqt : q (tk, ts, tn, ta) with
    | false =>
      rw [hqt] at HQ
      have hnx : nx q ((tk, ts, tn, ta) :: r) = (none, (tk, ts, tn, ta) :: r) := by rw [nx, if_neg (by rw [hqt]; simp)]
      rw [hnx]
      have HR := Lib.hid hR2
      clear hR2 hqt hnx
      go_enter Tryz.func97, Tryz.ntmps97
      go_wp2_with (first
        | (go_at_call 98; (with_reducible refine (HQ.out _ (by (focus repeat (first | exact Below.refl _ _ | assumption | (exact Hid.out (by assumption)) | (with_reducible refine Below.drew ?_) | (with_reducible refine Base.below_drewN ?_ _) | (refine Below.from (below_one _) ?_) | (refine Below.from (below_conv _ _ _) ?_) | (refine Below.setCell ?_ (by simp <;> omega) _) | (refine Below.from (by assumption) ?_))))).mono ?_); rintro e w3 ⟨rfl, p3⟩; have c0' := cell_below c0 (p3.from (below_one _)); have d0' := cell_below d0 (p3.from (below_one _)); have d1' := cell_below d1 (p3.from (below_one _)); have d2' := cell_below d2 (p3.from (below_one _)); have d3' := cell_below d3 (p3.from (below_one _)); have hl' := lt_of_cell c0'; have hm' := lt_of_cell d0'; have hf' := frozen_below c0 f0 (p3.from (below_one _)); have hz := new_facts p3; obtain ⟨e0, e1, e2, e3, ef, el⟩ := hz; have hne := fun (X : World) (v : Value) (i : Nat) => set_other X B w.heap.size v i hlt; have hnf := fun (X : World) (v : Value) (i : Nat) => set_frozen X B w.heap.size v i)
        | fail)
      obtain ⟨g1, g2⟩ := fin_none (v0 := .int .i64 0) (v1 := .string ⟨#[]⟩) (v2 := .int .i64 0) (v3 := .int .i64 0) p3
      obtain ⟨y0, y1, y2, y3⟩ := four g1
      refine bodyPost_ret (v := .tuple #[tokV zT, .bool false]) (by simp [results, Tryz.results97, go_sem, tokV, zT, y0, y1, y2, y3]) rfl ⟨rfl, HR.out _ g2, grown_of_below g2 _⟩
    | true =>
      rw [hqt] at HQ
      have hnx : nx q ((tk, ts, tn, ta) :: r) = (some (tk, ts, tn, ta), r) := by rw [nx, if_pos hqt]
      rw [hnx]
      clear hR2 hqt hnx
      go_enter Tryz.func97, Tryz.ntmps97
      go_wp2_with (first
        | (go_at_call 98; (with_reducible refine (HQ.out _ (by (focus repeat (first | exact Below.refl _ _ | assumption | (exact Hid.out (by assumption)) | (with_reducible refine Below.drew ?_) | (with_reducible refine Base.below_drewN ?_ _) | (refine Below.from (below_one _) ?_) | (refine Below.from (below_conv _ _ _) ?_) | (refine Below.setCell ?_ (by simp <;> omega) _) | (refine Below.from (by assumption) ?_))))).mono ?_); rintro e w3 ⟨rfl, p3⟩; have c0' := cell_below c0 (p3.from (below_one _)); have d0' := cell_below d0 (p3.from (below_one _)); have d1' := cell_below d1 (p3.from (below_one _)); have d2' := cell_below d2 (p3.from (below_one _)); have d3' := cell_below d3 (p3.from (below_one _)); have hl' := lt_of_cell c0'; have hm' := lt_of_cell d0'; have hf' := frozen_below c0 f0 (p3.from (below_one _)); have hz := new_facts p3; obtain ⟨e0, e1, e2, e3, ef, el⟩ := hz; have hne := fun (X : World) (v : Value) (i : Nat) => set_other X B w.heap.size v i hlt; have hnf := fun (X : World) (v : Value) (i : Nat) => set_frozen X B w.heap.size v i)
        | fail)
      · obtain ⟨g1, g2, g3⟩ := fin_facts (v := .slice (some ⟨b, off, none⟩) (L - 1) 0) (v0 := .int .i64 tk) (v1 := .string ts) (v2 := .int .i64 tn) (v3 := .int .i64 ta) (o := .cells #[.int .i64 tk, .string ts, .int .i64 tn, .int .i64 ta] 96) hlt H1.out p3
        obtain ⟨y0, y1, y2, y3⟩ := four g2
        have hl := HL.out
        have hr0 : r = [] := List.eq_nil_of_length_eq_zero (by omega)
        refine bodyPost_ret (v := .tuple #[tokV (tk, ts, tn, ta), .bool true]) (by simp [results, Tryz.results97, go_sem, tokV, y0, y1, y2, y3]) rfl ⟨rfl, ?_, g3⟩
        subst hr0
        obtain rfl : L = 1 := hl
        refine ⟨some ⟨b, off, none⟩, 0, g1, Nat.le_refl _, Nat.zero_le _, .inl rfl, ?_⟩
        intro a ha; injection ha with ha; subst ha; exact hb0
      · obtain ⟨g1, g2, g3⟩ := fin_facts (v := .slice (some ⟨b, off + 4, none⟩) (L - 1) (cap - 1)) (v0 := .int .i64 tk) (v1 := .string ts) (v2 := .int .i64 tn) (v3 := .int .i64 ta) (o := .cells #[.int .i64 tk, .string ts, .int .i64 tn, .int .i64 ta] 96) hlt H1.out p3
        obtain ⟨y0, y1, y2, y3⟩ := four g2
        have hl := HL.out
        refine bodyPost_ret (v := .tuple #[tokV (tk, ts, tn, ta), .bool true]) (by simp [results, Tryz.results97, go_sem, tokV, y0, y1, y2, y3]) rfl ⟨rfl, ?_, g3⟩
        have hl1 : L - 1 = r.length := by rw [hl]; exact Nat.add_sub_cancel _ _
        have a1 : r.length ≤ cap - 1 := by have := h2; rw [hl] at this; exact Nat.le_sub_one_of_lt this
        have a2 : cap - 1 ≤ maxLen := Nat.le_trans (Nat.sub_le _ _) HCAP.out
        refine ⟨some ⟨b, off + 4, none⟩, cap - 1, g1.trans (by rw [hl1]), a1, a2, reads_kept HT.out g3 ?_, ?_⟩
        · intro a ha; injection ha with ha; subst ha; exact ⟨hb1, hb2⟩
        · intro a ha; injection ha with ha; subst ha; exact hb0
set_option maxRecDepth 100000 in
set_option maxHeartbeats 1000000 in
theorem next_number (P : Nat) (q : Tok → Bool) (B n : Nat) (l : List Tok) (w : World) (hR : RdAt w B l n)
    (hq : ∀ t, l.head? = some t → ∀ w2, Below w.heap.size w w2 → Calls Tryz.prog 138 #[tokV t, .pointer (some ⟨P, 0, none⟩)] w2 fun e w3 => e = .returned (.bool (q t)) ∧ Below w2.heap.size w2 w3) :
    Calls Tryz.prog 97 #[.pointer (some ⟨B, 0, none⟩), .func (.func 138) #[] #[.pointer (some ⟨P, 0, none⟩)]] w fun e w' => NextSays B n (nx q l).1 (nx q l).2 w e w' := by
  have hlt := hR.lt
  obtain ⟨ao, cap, h1, h2, h3, h4, h5⟩ := hR
  have c0 : w.cell? ⟨B, 0, none⟩ = some (.slice ao l.length cap) := by simp [World.cell?, h1]
  have c1 : w.cell? ⟨B, 1, none⟩ = some (.int .i64 (n : Int)) := by simp [World.cell?, h1]
  have hR2 : ∀ w2, Below w.heap.size w w2 → RdAt w2 B l n := fun w2 hb => RdAt.below ⟨ao, cap, h1, h2, h3, h4, h5⟩ hb
  have HCAP := Lib.hid h3
  have h3 : cap ≤ 9223372036854775807 := by unfold maxLen at h3; exact h3
  cases l with
  | nil =>
    have HR := Lib.hid hR2
    clear hR2 h1 h4 h5 hq
    rw [List.length_nil] at c0
    go_enter Tryz.func97, Tryz.ntmps97
    go_wp2
    refine bodyPost_ret (v := .tuple #[tokV zT, .bool false]) (by simp [results, Tryz.results97, go_sem, tokV, zT]) rfl ⟨rfl, HR.out _ (below_one _), kp_alloc (grown_refl w _) _⟩
  | cons t r =>
    have hq1 := hq t rfl
    obtain ⟨b, off, hao, hc⟩ := h4.at_ (j := 0) (by simp)
    subst hao
    have hb0 : b < B := h5 _ rfl
    have hb1 : b < w.heap.size := Nat.lt_trans hb0 hlt
    have hb2 : b ≠ B := Nat.ne_of_lt hb0
    have ht := reads_tail h4
    obtain ⟨tk, ts, tn, ta⟩ := t
    have d0 : w.cell? ⟨b, off, none⟩ = some (.int .i64 tk) := by have := hc 0 (by decide); simpa [tkC] using this
    have d1 : w.cell? ⟨b, off + 1, none⟩ = some (.string ts) := by have := hc 1 (by decide); simpa [tkC] using this
    have d2 : w.cell? ⟨b, off + 2, none⟩ = some (.int .i64 tn) := by have := hc 2 (by decide); simpa [tkC] using this
    have d3 : w.cell? ⟨b, off + 3, none⟩ = some (.int .i64 ta) := by have := hc 3 (by decide); simpa [tkC] using this
    rw [List.length_cons] at c0 h2
    have hlen0 : (((r.length + 1 : Nat) : Int) == 0) = false := by rw [beq_eq_false_iff_ne]; omega
    have hup : (0 : Int) < ((r.length + 1 : Nat) : Int) := by omega
    unfold tokV at hq1
    dsimp only at hq1
    have f0 : w.frozen? ⟨B, 0, none⟩ = false := by simp [World.frozen?, h1]
    obtain ⟨L, hL⟩ : ∃ L, L = r.length + 1 := ⟨_, rfl⟩
    rw [← hL] at c0 h2 hlen0 hup
    have HL := Lib.hid hL
    have HQ := Lib.hid hq1
    have H1 := Lib.hid h1
    have HT := Lib.hid ht
    clear hc h4 h5 hq hq1 h1 ht hL
    cases hqt : q (tk, ts, tn, ta) with
    | false =>
      rw [hqt] at HQ
      have hnx : nx q ((tk, ts, tn, ta) :: r) = (none, (tk, ts, tn, ta) :: r) := by rw [nx, if_neg (by rw [hqt]; simp)]
      rw [hnx]
      have HR := Lib.hid hR2
      clear hR2 hqt hnx
      go_enter Tryz.func97, Tryz.ntmps97
      go_wp2_with (first
        | (go_at_call 138; (with_reducible refine (HQ.out _ (by (focus repeat (first | exact Below.refl _ _ | assumption | (exact Hid.out (by assumption)) | (with_reducible refine Below.drew ?_) | (with_reducible refine Base.below_drewN ?_ _) | (refine Below.from (below_one _) ?_) | (refine Below.from (below_conv _ _ _) ?_) | (refine Below.setCell ?_ (by simp <;> omega) _) | (refine Below.from (by assumption) ?_))))).mono ?_); rintro e w3 ⟨rfl, p3⟩; have c0' := cell_below c0 (p3.from (below_one _)); have d0' := cell_below d0 (p3.from (below_one _)); have d1' := cell_below d1 (p3.from (below_one _)); have d2' := cell_below d2 (p3.from (below_one _)); have d3' := cell_below d3 (p3.from (below_one _)); have hl' := lt_of_cell c0'; have hm' := lt_of_cell d0'; have hf' := frozen_below c0 f0 (p3.from (below_one _)); have hz := new_facts p3; obtain ⟨e0, e1, e2, e3, ef, el⟩ := hz; have hne := fun (X : World) (v : Value) (i : Nat) => set_other X B w.heap.size v i hlt; have hnf := fun (X : World) (v : Value) (i : Nat) => set_frozen X B w.heap.size v i)
        | fail)
      obtain ⟨g1, g2⟩ := fin_none (v0 := .int .i64 0) (v1 := .string ⟨#[]⟩) (v2 := .int .i64 0) (v3 := .int .i64 0) p3
      obtain ⟨y0, y1, y2, y3⟩ := four g1
      refine bodyPost_ret (v := .tuple #[tokV zT, .bool false]) (by simp [results, Tryz.results97, go_sem, tokV, zT, y0, y1, y2, y3]) rfl ⟨rfl, HR.out _ g2, grown_of_below g2 _⟩
    | true =>
      rw [hqt] at HQ
      have hnx : nx q ((tk, ts, tn, ta) :: r) = (some (tk, ts, tn, ta), r) := by rw [nx, if_pos hqt]
      rw [hnx]
      clear hR2 hqt hnx
      go_enter Tryz.func97, Tryz.ntmps97
      go_wp2_with (first
        | (go_at_call 138; (with_reducible refine (HQ.out _ (by (focus repeat (first | exact Below.refl _ _ | assumption | (exact Hid.out (by assumption)) | (with_reducible refine Below.drew ?_) | (with_reducible refine Base.below_drewN ?_ _) | (refine Below.from (below_one _) ?_) | (refine Below.from (below_conv _ _ _) ?_) | (refine Below.setCell ?_ (by simp <;> omega) _) | (refine Below.from (by assumption) ?_))))).mono ?_); rintro e w3 ⟨rfl, p3⟩; have c0' := cell_below c0 (p3.from (below_one _)); have d0' := cell_below d0 (p3.from (below_one _)); have d1' := cell_below d1 (p3.from (below_one _)); have d2' := cell_below d2 (p3.from (below_one _)); have d3' := cell_below d3 (p3.from (below_one _)); have hl' := lt_of_cell c0'; have hm' := lt_of_cell d0'; have hf' := frozen_below c0 f0 (p3.from (below_one _)); have hz := new_facts p3; obtain ⟨e0, e1, e2, e3, ef, el⟩ := hz; have hne := fun (X : World) (v : Value) (i : Nat) => set_other X B w.heap.size v i hlt; have hnf := fun (X : World) (v : Value) (i : Nat) => set_frozen X B w.heap.size v i)
        | fail)
      · obtain ⟨g1, g2, g3⟩ := fin_facts (v := .slice (some ⟨b, off, none⟩) (L - 1) 0) (v0 := .int .i64 tk) (v1 := .string ts) (v2 := .int .i64 tn) (v3 := .int .i64 ta) (o := .cells #[.int .i64 tk, .string ts, .int .i64 tn, .int .i64 ta] 96) hlt H1.out p3
        obtain ⟨y0, y1, y2, y3⟩ := four g2
        have hl := HL.out
        have hr0 : r = [] := List.eq_nil_of_length_eq_zero (by omega)
        refine bodyPost_ret (v := .tuple #[tokV (tk, ts, tn, ta), .bool true]) (by simp [results, Tryz.results97, go_sem, tokV, y0, y1, y2, y3]) rfl ⟨rfl, ?_, g3⟩
        subst hr0
        obtain rfl : L = 1 := hl
        refine ⟨some ⟨b, off, none⟩, 0, g1, Nat.le_refl _, Nat.zero_le _, .inl rfl, ?_⟩
        intro a ha; injection ha with ha; subst ha; exact hb0
      · obtain ⟨g1, g2, g3⟩ := fin_facts (v := .slice (some ⟨b, off + 4, none⟩) (L - 1) (cap - 1)) (v0 := .int .i64 tk) (v1 := .string ts) (v2 := .int .i64 tn) (v3 := .int .i64 ta) (o := .cells #[.int .i64 tk, .string ts, .int .i64 tn, .int .i64 ta] 96) hlt H1.out p3
        obtain ⟨y0, y1, y2, y3⟩ := four g2
        have hl := HL.out
        refine bodyPost_ret (v := .tuple #[tokV (tk, ts, tn, ta), .bool true]) (by simp [results, Tryz.results97, go_sem, tokV, y0, y1, y2, y3]) rfl ⟨rfl, ?_, g3⟩
        have hl1 : L - 1 = r.length := by rw [hl]; exact Nat.add_sub_cancel _ _
        have a1 : r.length ≤ cap - 1 := by have := h2; rw [hl] at this; exact Nat.le_sub_one_of_lt this
        have a2 : cap - 1 ≤ maxLen := Nat.le_trans (Nat.sub_le _ _) HCAP.out
        refine ⟨some ⟨b, off + 4, none⟩, cap - 1, g1.trans (by rw [hl1]), a1, a2, reads_kept HT.out g3 ?_, ?_⟩
        · intro a ha; injection ha with ha; subst ha; exact ⟨hb1, hb2⟩
        · intro a ha; injection ha with ha; subst ha; exact hb0
set_option maxRecDepth 100000 in
set_option maxHeartbeats 1000000 in
theorem next_name (q : Tok → Bool) (B n : Nat) (l : List Tok) (w : World) (hR : RdAt w B l n)
    (hq : ∀ t, l.head? = some t → ∀ w2, Below w.heap.size w w2 → Calls Tryz.prog 137 #[tokV t] w2 fun e w3 => e = .returned (.bool (q t)) ∧ Below w2.heap.size w2 w3) :
    Calls Tryz.prog 97 #[.pointer (some ⟨B, 0, none⟩), .func (.func 137) #[] #[]] w fun e w' => NextSays B n (nx q l).1 (nx q l).2 w e w' := by
  have hlt := hR.lt
  obtain ⟨ao, cap, h1, h2, h3, h4, h5⟩ := hR
  have c0 : w.cell? ⟨B, 0, none⟩ = some (.slice ao l.length cap) := by simp [World.cell?, h1]
  have c1 : w.cell? ⟨B, 1, none⟩ = some (.int .i64 (n : Int)) := by simp [World.cell?, h1]
  have hR2 : ∀ w2, Below w.heap.size w w2 → RdAt w2 B l n := fun w2 hb => RdAt.below ⟨ao, cap, h1, h2, h3, h4, h5⟩ hb
  have HCAP := Lib.hid h3
  have h3 : cap ≤ 9223372036854775807 := by unfold maxLen at h3; exact h3
  cases l with
  | nil =>
    have HR := Lib.hid hR2
    clear hR2 h1 h4 h5 hq
    rw [List.length_nil] at c0
    go_enter Tryz.func97, Tryz.ntmps97
    go_wp2
    refine bodyPost_ret (v := .tuple #[tokV zT, .bool false]) (by simp [results, Tryz.results97, go_sem, tokV, zT]) rfl ⟨rfl, HR.out _ (below_one _), kp_alloc (grown_refl w _) _⟩
  | cons t r =>
    have hq1 := hq t rfl
    obtain ⟨b, off, hao, hc⟩ := h4.at_ (j := 0) (by simp)
    subst hao
    have hb0 : b < B := h5 _ rfl
    have hb1 : b < w.heap.size := Nat.lt_trans hb0 hlt
    have hb2 : b ≠ B := Nat.ne_of_lt hb0
    have ht := reads_tail h4
    obtain ⟨tk, ts, tn, ta⟩ := t
    have d0 : w.cell? ⟨b, off, none⟩ = some (.int .i64 tk) := by have := hc 0 (by decide); simpa [tkC] using this
    have d1 : w.cell? ⟨b, off + 1, none⟩ = some (.string ts) := by have := hc 1 (by decide); simpa [tkC] using this
    have d2 : w.cell? ⟨b, off + 2, none⟩ = some (.int .i64 tn) := by have := hc 2 (by decide); simpa [tkC] using this
    have d3 : w.cell? ⟨b, off + 3, none⟩ = some (.int .i64 ta) := by have := hc 3 (by decide); simpa [tkC] using this
    rw [List.length_cons] at c0 h2
    have hlen0 : (((r.length + 1 : Nat) : Int) == 0) = false := by rw [beq_eq_false_iff_ne]; omega
    have hup : (0 : Int) < ((r.length + 1 : Nat) : Int) := by omega
    unfold tokV at hq1
    dsimp only at hq1
    have f0 : w.frozen? ⟨B, 0, none⟩ = false := by simp [World.frozen?, h1]
    obtain ⟨L, hL⟩ : ∃ L, L = r.length + 1 := ⟨_, rfl⟩
    rw [← hL] at c0 h2 hlen0 hup
    have HL := Lib.hid hL
    have HQ := Lib.hid hq1
    have H1 := Lib.hid h1
    have HT := Lib.hid ht
    clear hc h4 h5 hq hq1 h1 ht hL
    cases hqt : q (tk, ts, tn, ta) with
    | false =>
      rw [hqt] at HQ
      have hnx : nx q ((tk, ts, tn, ta) :: r) = (none, (tk, ts, tn, ta) :: r) := by rw [nx, if_neg (by rw [hqt]; simp)]
      rw [hnx]
      have HR := Lib.hid hR2
      clear hR2 hqt hnx
      go_enter Tryz.func97, Tryz.ntmps97
      go_wp2_with (first
        | (go_at_call 137; (with_reducible refine (HQ.out _ (by (focus repeat (first | exact Below.refl _ _ | assumption | (exact Hid.out (by assumption)) | (with_reducible refine Below.drew ?_) | (with_reducible refine Base.below_drewN ?_ _) | (refine Below.from (below_one _) ?_) | (refine Below.from (below_conv _ _ _) ?_) | (refine Below.setCell ?_ (by simp <;> omega) _) | (refine Below.from (by assumption) ?_))))).mono ?_); rintro e w3 ⟨rfl, p3⟩; have c0' := cell_below c0 (p3.from (below_one _)); have d0' := cell_below d0 (p3.from (below_one _)); have d1' := cell_below d1 (p3.from (below_one _)); have d2' := cell_below d2 (p3.from (below_one _)); have d3' := cell_below d3 (p3.from (below_one _)); have hl' := lt_of_cell c0'; have hm' := lt_of_cell d0'; have hf' := frozen_below c0 f0 (p3.from (below_one _)); have hz := new_facts p3; obtain ⟨e0, e1, e2, e3, ef, el⟩ := hz; have hne := fun (X : World) (v : Value) (i : Nat) => set_other X B w.heap.size v i hlt; have hnf := fun (X : World) (v : Value) (i : Nat) => set_frozen X B w.heap.size v i)
        | fail)
      obtain ⟨g1, g2⟩ := fin_none (v0 := .int .i64 0) (v1 := .string ⟨#[]⟩) (v2 := .int .i64 0) (v3 := .int .i64 0) p3
      obtain ⟨y0, y1, y2, y3⟩ := four g1
      refine bodyPost_ret (v := .tuple #[tokV zT, .bool false]) (by simp [results, Tryz.results97, go_sem, tokV, zT, y0, y1, y2, y3]) rfl ⟨rfl, HR.out _ g2, grown_of_below g2 _⟩
    | true =>
      rw [hqt] at HQ
      have hnx : nx q ((tk, ts, tn, ta) :: r) = (some (tk, ts, tn, ta), r) := by rw [nx, if_pos hqt]
      rw [hnx]
      clear hR2 hqt hnx
      go_enter Tryz.func97, Tryz.ntmps97
      go_wp2_with (first
        | (go_at_call 137; (with_reducible refine (HQ.out _ (by (focus repeat (first | exact Below.refl _ _ | assumption | (exact Hid.out (by assumption)) | (with_reducible refine Below.drew ?_) | (with_reducible refine Base.below_drewN ?_ _) | (refine Below.from (below_one _) ?_) | (refine Below.from (below_conv _ _ _) ?_) | (refine Below.setCell ?_ (by simp <;> omega) _) | (refine Below.from (by assumption) ?_))))).mono ?_); rintro e w3 ⟨rfl, p3⟩; have c0' := cell_below c0 (p3.from (below_one _)); have d0' := cell_below d0 (p3.from (below_one _)); have d1' := cell_below d1 (p3.from (below_one _)); have d2' := cell_below d2 (p3.from (below_one _)); have d3' := cell_below d3 (p3.from (below_one _)); have hl' := lt_of_cell c0'; have hm' := lt_of_cell d0'; have hf' := frozen_below c0 f0 (p3.from (below_one _)); have hz := new_facts p3; obtain ⟨e0, e1, e2, e3, ef, el⟩ := hz; have hne := fun (X : World) (v : Value) (i : Nat) => set_other X B w.heap.size v i hlt; have hnf := fun (X : World) (v : Value) (i : Nat) => set_frozen X B w.heap.size v i)
        | fail)
      · obtain ⟨g1, g2, g3⟩ := fin_facts (v := .slice (some ⟨b, off, none⟩) (L - 1) 0) (v0 := .int .i64 tk) (v1 := .string ts) (v2 := .int .i64 tn) (v3 := .int .i64 ta) (o := .cells #[.int .i64 tk, .string ts, .int .i64 tn, .int .i64 ta] 96) hlt H1.out p3
        obtain ⟨y0, y1, y2, y3⟩ := four g2
        have hl := HL.out
        have hr0 : r = [] := List.eq_nil_of_length_eq_zero (by omega)
        refine bodyPost_ret (v := .tuple #[tokV (tk, ts, tn, ta), .bool true]) (by simp [results, Tryz.results97, go_sem, tokV, y0, y1, y2, y3]) rfl ⟨rfl, ?_, g3⟩
        subst hr0
        obtain rfl : L = 1 := hl
        refine ⟨some ⟨b, off, none⟩, 0, g1, Nat.le_refl _, Nat.zero_le _, .inl rfl, ?_⟩
        intro a ha; injection ha with ha; subst ha; exact hb0
      · obtain ⟨g1, g2, g3⟩ := fin_facts (v := .slice (some ⟨b, off + 4, none⟩) (L - 1) (cap - 1)) (v0 := .int .i64 tk) (v1 := .string ts) (v2 := .int .i64 tn) (v3 := .int .i64 ta) (o := .cells #[.int .i64 tk, .string ts, .int .i64 tn, .int .i64 ta] 96) hlt H1.out p3
        obtain ⟨y0, y1, y2, y3⟩ := four g2
        have hl := HL.out
        refine bodyPost_ret (v := .tuple #[tokV (tk, ts, tn, ta), .bool true]) (by simp [results, Tryz.results97, go_sem, tokV, y0, y1, y2, y3]) rfl ⟨rfl, ?_, g3⟩
        have hl1 : L - 1 = r.length := by rw [hl]; exact Nat.add_sub_cancel _ _
        have a1 : r.length ≤ cap - 1 := by have := h2; rw [hl] at this; exact Nat.le_sub_one_of_lt this
        have a2 : cap - 1 ≤ maxLen := Nat.le_trans (Nat.sub_le _ _) HCAP.out
        refine ⟨some ⟨b, off + 4, none⟩, cap - 1, g1.trans (by rw [hl1]), a1, a2, reads_kept HT.out g3 ?_, ?_⟩
        · intro a ha; injection ha with ha; subst ha; exact ⟨hb1, hb2⟩
        · intro a ha; injection ha with ha; subst ha; exact hb0
set_option maxRecDepth 100000 in
set_option maxHeartbeats 1000000 in
theorem next_length (q : Tok → Bool) (B n : Nat) (l : List Tok) (w : World) (hR : RdAt w B l n)
    (hq : ∀ t, l.head? = some t → ∀ w2, Below w.heap.size w w2 → Calls Tryz.prog 168 #[tokV t] w2 fun e w3 => e = .returned (.bool (q t)) ∧ Below w2.heap.size w2 w3) :
    Calls Tryz.prog 97 #[.pointer (some ⟨B, 0, none⟩), .func (.func 168) #[] #[]] w fun e w' => NextSays B n (nx q l).1 (nx q l).2 w e w' := by
  have hlt := hR.lt
  obtain ⟨ao, cap, h1, h2, h3, h4, h5⟩ := hR
  have c0 : w.cell? ⟨B, 0, none⟩ = some (.slice ao l.length cap) := by simp [World.cell?, h1]
  have c1 : w.cell? ⟨B, 1, none⟩ = some (.int .i64 (n : Int)) := by simp [World.cell?, h1]
  have hR2 : ∀ w2, Below w.heap.size w w2 → RdAt w2 B l n := fun w2 hb => RdAt.below ⟨ao, cap, h1, h2, h3, h4, h5⟩ hb
  have HCAP := Lib.hid h3
  have h3 : cap ≤ 9223372036854775807 := by unfold maxLen at h3; exact h3
  cases l with
  | nil =>
    have HR := Lib.hid hR2
    clear hR2 h1 h4 h5 hq
    rw [List.length_nil] at c0
    go_enter Tryz.func97, Tryz.ntmps97
    go_wp2
    refine bodyPost_ret (v := .tuple #[tokV zT, .bool false]) (by simp [results, Tryz.results97, go_sem, tokV, zT]) rfl ⟨rfl, HR.out _ (below_one _), kp_alloc (grown_refl w _) _⟩
  | cons t r =>
    have hq1 := hq t rfl
    obtain ⟨b, off, hao, hc⟩ := h4.at_ (j := 0) (by simp)
    subst hao
    have hb0 : b < B := h5 _ rfl
    have hb1 : b < w.heap.size := Nat.lt_trans hb0 hlt
    have hb2 : b ≠ B := Nat.ne_of_lt hb0
    have ht := reads_tail h4
    obtain ⟨tk, ts, tn, ta⟩ := t
    have d0 : w.cell? ⟨b, off, none⟩ = some (.int .i64 tk) := by have := hc 0 (by decide); simpa [tkC] using this
    have d1 : w.cell? ⟨b, off + 1, none⟩ = some (.string ts) := by have := hc 1 (by decide); simpa [tkC] using this
    have d2 : w.cell? ⟨b, off + 2, none⟩ = some (.int .i64 tn) := by have := hc 2 (by decide); simpa [tkC] using this
    have d3 : w.cell? ⟨b, off + 3, none⟩ = some (.int .i64 ta) := by have := hc 3 (by decide); simpa [tkC] using this
    rw [List.length_cons] at c0 h2
    have hlen0 : (((r.length + 1 : Nat) : Int) == 0) = false := by rw [beq_eq_false_iff_ne]; omega
    have hup : (0 : Int) < ((r.length + 1 : Nat) : Int) := by omega
    unfold tokV at hq1
    dsimp only at hq1
    have f0 : w.frozen? ⟨B, 0, none⟩ = false := by simp [World.frozen?, h1]
    obtain ⟨L, hL⟩ : ∃ L, L = r.length + 1 := ⟨_, rfl⟩
    rw [← hL] at c0 h2 hlen0 hup
    have HL := Lib.hid hL
    have HQ := Lib.hid hq1
    have H1 := Lib.hid h1
    have HT := Lib.hid ht
    clear hc h4 h5 hq hq1 h1 ht hL
    cases hqt : q (tk, ts, tn, ta) with
    | false =>
      rw [hqt] at HQ
      have hnx : nx q ((tk, ts, tn, ta) :: r) = (none, (tk, ts, tn, ta) :: r) := by rw [nx, if_neg (by rw [hqt]; simp)]
      rw [hnx]
      have HR := Lib.hid hR2
      clear hR2 hqt hnx
      go_enter Tryz.func97, Tryz.ntmps97
      go_wp2_with (first
        | (go_at_call 168; (with_reducible refine (HQ.out _ (by (focus repeat (first | exact Below.refl _ _ | assumption | (exact Hid.out (by assumption)) | (with_reducible refine Below.drew ?_) | (with_reducible refine Base.below_drewN ?_ _) | (refine Below.from (below_one _) ?_) | (refine Below.from (below_conv _ _ _) ?_) | (refine Below.setCell ?_ (by simp <;> omega) _) | (refine Below.from (by assumption) ?_))))).mono ?_); rintro e w3 ⟨rfl, p3⟩; have c0' := cell_below c0 (p3.from (below_one _)); have d0' := cell_below d0 (p3.from (below_one _)); have d1' := cell_below d1 (p3.from (below_one _)); have d2' := cell_below d2 (p3.from (below_one _)); have d3' := cell_below d3 (p3.from (below_one _)); have hl' := lt_of_cell c0'; have hm' := lt_of_cell d0'; have hf' := frozen_below c0 f0 (p3.from (below_one _)); have hz := new_facts p3; obtain ⟨e0, e1, e2, e3, ef, el⟩ := hz; have hne := fun (X : World) (v : Value) (i : Nat) => set_other X B w.heap.size v i hlt; have hnf := fun (X : World) (v : Value) (i : Nat) => set_frozen X B w.heap.size v i)
        | fail)
      obtain ⟨g1, g2⟩ := fin_none (v0 := .int .i64 0) (v1 := .string ⟨#[]⟩) (v2 := .int .i64 0) (v3 := .int .i64 0) p3
      obtain ⟨y0, y1, y2, y3⟩ := four g1
      refine bodyPost_ret (v := .tuple #[tokV zT, .bool false]) (by simp [results, Tryz.results97, go_sem, tokV, zT, y0, y1, y2, y3]) rfl ⟨rfl, HR.out _ g2, grown_of_below g2 _⟩
    | true =>
      rw [hqt] at HQ
      have hnx : nx q ((tk, ts, tn, ta) :: r) = (some (tk, ts, tn, ta), r) := by rw [nx, if_pos hqt]
      rw [hnx]
      clear hR2 hqt hnx
      go_enter Tryz.func97, Tryz.ntmps97
      go_wp2_with (first
        | (go_at_call 168; (with_reducible refine (HQ.out _ (by (focus repeat (first | exact Below.refl _ _ | assumption | (exact Hid.out (by assumption)) | (with_reducible refine Below.drew ?_) | (with_reducible refine Base.below_drewN ?_ _) | (refine Below.from (below_one _) ?_) | (refine Below.from (below_conv _ _ _) ?_) | (refine Below.setCell ?_ (by simp <;> omega) _) | (refine Below.from (by assumption) ?_))))).mono ?_); rintro e w3 ⟨rfl, p3⟩; have c0' := cell_below c0 (p3.from (below_one _)); have d0' := cell_below d0 (p3.from (below_one _)); have d1' := cell_below d1 (p3.from (below_one _)); have d2' := cell_below d2 (p3.from (below_one _)); have d3' := cell_below d3 (p3.from (below_one _)); have hl' := lt_of_cell c0'; have hm' := lt_of_cell d0'; have hf' := frozen_below c0 f0 (p3.from (below_one _)); have hz := new_facts p3; obtain ⟨e0, e1, e2, e3, ef, el⟩ := hz; have hne := fun (X : World) (v : Value) (i : Nat) => set_other X B w.heap.size v i hlt; have hnf := fun (X : World) (v : Value) (i : Nat) => set_frozen X B w.heap.size v i)
        | fail)
      · obtain ⟨g1, g2, g3⟩ := fin_facts (v := .slice (some ⟨b, off, none⟩) (L - 1) 0) (v0 := .int .i64 tk) (v1 := .string ts) (v2 := .int .i64 tn) (v3 := .int .i64 ta) (o := .cells #[.int .i64 tk, .string ts, .int .i64 tn, .int .i64 ta] 96) hlt H1.out p3
        obtain ⟨y0, y1, y2, y3⟩ := four g2
        have hl := HL.out
        have hr0 : r = [] := List.eq_nil_of_length_eq_zero (by omega)
        refine bodyPost_ret (v := .tuple #[tokV (tk, ts, tn, ta), .bool true]) (by simp [results, Tryz.results97, go_sem, tokV, y0, y1, y2, y3]) rfl ⟨rfl, ?_, g3⟩
        subst hr0
        obtain rfl : L = 1 := hl
        refine ⟨some ⟨b, off, none⟩, 0, g1, Nat.le_refl _, Nat.zero_le _, .inl rfl, ?_⟩
        intro a ha; injection ha with ha; subst ha; exact hb0
      · obtain ⟨g1, g2, g3⟩ := fin_facts (v := .slice (some ⟨b, off + 4, none⟩) (L - 1) (cap - 1)) (v0 := .int .i64 tk) (v1 := .string ts) (v2 := .int .i64 tn) (v3 := .int .i64 ta) (o := .cells #[.int .i64 tk, .string ts, .int .i64 tn, .int .i64 ta] 96) hlt H1.out p3
        obtain ⟨y0, y1, y2, y3⟩ := four g2
        have hl := HL.out
        refine bodyPost_ret (v := .tuple #[tokV (tk, ts, tn, ta), .bool true]) (by simp [results, Tryz.results97, go_sem, tokV, y0, y1, y2, y3]) rfl ⟨rfl, ?_, g3⟩
        have hl1 : L - 1 = r.length := by rw [hl]; exact Nat.add_sub_cancel _ _
        have a1 : r.length ≤ cap - 1 := by have := h2; rw [hl] at this; exact Nat.le_sub_one_of_lt this
        have a2 : cap - 1 ≤ maxLen := Nat.le_trans (Nat.sub_le _ _) HCAP.out
        refine ⟨some ⟨b, off + 4, none⟩, cap - 1, g1.trans (by rw [hl1]), a1, a2, reads_kept HT.out g3 ?_, ?_⟩
        · intro a ha; injection ha with ha; subst ha; exact ⟨hb1, hb2⟩
        · intro a ha; injection ha with ha; subst ha; exact hb0
end Go.Proofs.YtdkngidangfkiaaGreatDoor.Cmd
