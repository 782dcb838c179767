/-
  The walk of the document's own texts.
-/
import Derived.Test.YtejppikbdplamaaGreatDoorLexNum
namespace Go.Proofs.YtejppikbdplamaaGreatDoor.Lex
open Go.RowKit
open Base Runes
set_option linter.unusedVariables false

/-! A text. -/

def tokV (t : Tok) : Value := .agg #[.int .i64 t.1, .string t.2.1, .int .i64 t.2.2.1, .int .i64 t.2.2.2]
def resV (r : Tok × Nat × Nat × Int) : Value := .tuple #[tokV r.1, .int .i64 (r.2.1 : Int), .int .i64 (r.2.2.1 : Int), .int .i64 r.2.2.2]

/-- From a place on within a text. -/
theorem scn_nil : scn [] = (2, 0) := rfl
theorem scn_end (t : List Nat) : scn (34 :: t) = (0, 0) := by cases t <;> rfl
theorem scn_bad {r : Nat} (t : List Nat) (h : r ≠ 34) (hb : cls (r : Int) = 0) : scn (r :: t) = (1, 0) := by
  cases t with
  | nil => rw [scn, if_neg h, if_pos hb]
  | cons c t => rw [scn, if_neg h, if_pos hb]
theorem scn_bs_end : scn [92] = (2, 1) := by decide
theorem scn_bs_bad {c : Nat} (t : List Nat) (hb : cls (c : Int) = 0) : scn (92 :: c :: t) = (1, 1) := by
  rw [scn, if_neg (by decide), if_neg (by decide), if_pos rfl, if_pos hb]
theorem scn_bs {c : Nat} (t : List Nat) (hb : cls (c : Int) ≠ 0) : scn (92 :: c :: t) = ((scn t).1, (scn t).2 + 2) := by
  rw [scn, if_neg (by decide), if_neg (by decide), if_pos rfl, if_neg hb]
theorem scn_on {r : Nat} (t : List Nat) (h : r ≠ 34) (hb : cls (r : Int) ≠ 0) (h2 : r ≠ 92) : (scn (r :: t)).1 = (scn t).1 ∧ ((scn t).1 ≠ 2 → (scn (r :: t)).2 = (scn t).2 + 1) := by
  cases t with
  | nil =>
    have e : scn [r] = (2, 1) := by rw [show scn [r] = (if r = 34 then (0, 0) else if cls (r : Int) = 0 then (1, 0) else (2, 1)) from rfl, if_neg h, if_neg hb]
    rw [e]; exact ⟨rfl, fun h => absurd rfl h⟩
  | cons c t => rw [scn, if_neg h, if_neg hb, if_neg h2]; exact ⟨rfl, fun _ => rfl⟩
theorem scn_le : ∀ (n : Nat) (l : List Nat), l.length ≤ n → (scn l).1 ≠ 2 → (scn l).2 < l.length
  | _, [], _, h => absurd rfl h
  | 0, _ :: _, hl, _ => by simp at hl
  | n + 1, r :: t, hl, h => by
    have hl2 : t.length ≤ n := by simpa using hl
    by_cases h34 : r = 34
    · subst h34; rw [scn_end]; simp
    · by_cases hb : cls (r : Int) = 0
      · rw [scn_bad t h34 hb]; simp
      · by_cases h92 : r = 92
        · subst h92
          cases t with
          | nil => exact absurd (by rw [scn_bs_end]) h
          | cons c u =>
            by_cases hc : cls (c : Int) = 0
            · rw [scn_bs_bad u hc]; simp
            · rw [scn_bs u hc] at h ⊢
              have := scn_le n u (by simp at hl2; omega) h
              simp only [List.length_cons]; omega
        · obtain ⟨e1, e2⟩ := scn_on t h34 hb h92
          rw [e1] at h
          rw [e2 h]
          have := scn_le n t hl2 h
          simp only [List.length_cons]; omega

/-- A token's block that the call has laid, behind other calls. -/
theorem tok_block {w w1 : World} {n : Nat} {t : TypeId} {v0 v1 v2 v3 : Value} (hn : n = w.heap.size) (p : Below (w.alloc (.cells #[v0, v1, v2, v3] t)).heap.size (w.alloc (.cells #[v0, v1, v2, v3] t)) w1) :
    (w1.cell? ⟨n, 0, none⟩ = some v0 ∧ w1.cell? ⟨n, 1, none⟩ = some v1 ∧ w1.cell? ⟨n, 2, none⟩ = some v2 ∧ w1.cell? ⟨n, 3, none⟩ = some v3) ∧
    (w1.frozen? ⟨n, 0, none⟩ = false ∧ w1.frozen? ⟨n, 1, none⟩ = false ∧ w1.frozen? ⟨n, 2, none⟩ = false ∧ w1.frozen? ⟨n, 3, none⟩ = false) := by
  subst hn
  have hb : w1.heap[w.heap.size]? = some (.cells #[v0, v1, v2, v3] t) := by rw [p.block _ (by simp)]; exact heap_alloc_new w _
  simp [World.cell?, World.frozen?, hb]

theorem tok_set {w1 : World} {n : Nat} {a0 a1 a2 a3 : Value} (v0 v1 v2 v3 : Value) (r0 : w1.cell? ⟨n, 0, none⟩ = some a0) (r1 : w1.cell? ⟨n, 1, none⟩ = some a1) (r2 : w1.cell? ⟨n, 2, none⟩ = some a2) (r3 : w1.cell? ⟨n, 3, none⟩ = some a3) :
    ((((w1.setCell ⟨n, 0, none⟩ v0).setCell ⟨n, 1, none⟩ v1).setCell ⟨n, 2, none⟩ v2).setCell ⟨n, 3, none⟩ v3).cell? ⟨n, 0, none⟩ = some v0 ∧
    ((((w1.setCell ⟨n, 0, none⟩ v0).setCell ⟨n, 1, none⟩ v1).setCell ⟨n, 2, none⟩ v2).setCell ⟨n, 3, none⟩ v3).cell? ⟨n, 1, none⟩ = some v1 ∧
    ((((w1.setCell ⟨n, 0, none⟩ v0).setCell ⟨n, 1, none⟩ v1).setCell ⟨n, 2, none⟩ v2).setCell ⟨n, 3, none⟩ v3).cell? ⟨n, 2, none⟩ = some v2 ∧
    ((((w1.setCell ⟨n, 0, none⟩ v0).setCell ⟨n, 1, none⟩ v1).setCell ⟨n, 2, none⟩ v2).setCell ⟨n, 3, none⟩ v3).cell? ⟨n, 3, none⟩ = some v3 := by
  have ne : ∀ i j : Nat, i ≠ j → (⟨n, i, none⟩ : Addr) ≠ ⟨n, j, none⟩ := fun i j h e => h (by injection e)
  have o : ∀ (W : World) (i j : Nat) (v : Value), i ≠ j → (W.setCell ⟨n, i, none⟩ v).cell? ⟨n, j, none⟩ = W.cell? ⟨n, j, none⟩ := fun W i j v h => World.cell?_setCell_other _ _ _ _ (ne i j h)
  refine ⟨?_, ?_, ?_, ?_⟩
  · rw [o _ 3 0 _ (by decide), o _ 2 0 _ (by decide), o _ 1 0 _ (by decide), World.cell?_setCell_same _ _ _ r0]
  · rw [o _ 3 1 _ (by decide), o _ 2 1 _ (by decide), World.cell?_setCell_same _ _ _ (by rw [o _ 0 1 _ (by decide)]; exact r1)]
  · rw [o _ 3 2 _ (by decide), World.cell?_setCell_same _ _ _ (by rw [o _ 1 2 _ (by decide), o _ 0 2 _ (by decide)]; exact r2)]
  · rw [World.cell?_setCell_same _ _ _ (by rw [o _ 2 3 _ (by decide), o _ 1 3 _ (by decide), o _ 0 3 _ (by decide)]; exact r3)]

theorem below_set4 {B n : Nat} {w w1 : World} (h : Below B w w1) (hn : B ≤ n) (v0 v1 v2 v3 : Value) : Below B w ((((w1.setCell ⟨n, 0, none⟩ v0).setCell ⟨n, 1, none⟩ v1).setCell ⟨n, 2, none⟩ v2).setCell ⟨n, 3, none⟩ v3) :=
  (((h.setCell (p := ⟨n, 0, none⟩) hn _).setCell (p := ⟨n, 1, none⟩) hn _).setCell (p := ⟨n, 2, none⟩) hn _).setCell (p := ⟨n, 3, none⟩) hn _

set_option maxRecDepth 100000 in
set_option maxHeartbeats 4000000 in
theorem rtext_any (ao : Option Addr) (cap : Nat) (R : List Nat) (p : Nat) (w : World) (hl : R.length ≤ 100000) (hcap : R.length ≤ cap) (hcm : cap ≤ maxLen) (hp : p < R.length) (hr : Reads rV w ao R) :
    Calls Tryz.prog 52 #[.slice ao R.length cap, .int .i64 (p : Int)] w fun e w' => e = .returned (resV (textR R p)) ∧ Below w.heap.size w w' := by
  have HR := Lib.hid hr
  clear hr
  obtain ⟨b0, off0, rfl, _⟩ := HR.out.at_ hp
  obtain ⟨T, hT⟩ : ∃ T, T = textR R p := ⟨_, rfl⟩
  rw [← hT]
  unfold textR at hT
  obtain ⟨q, hq⟩ : ∃ q, q = scn (R.drop (p + 1)) := ⟨_, rfl⟩
  rw [← hq] at hT
  have HT := Lib.hid hT
  have HQ := Lib.hid hq
  clear hT hq
  go_enter Tryz.func52, Tryz.ntmps52
  go_wp2
  go_loopw [8] (fun i wr => ∃ k : Nat, i = .int .i64 (k : Int) ∧ p + 1 ≤ k ∧ k ≤ R.length + 1 ∧ (scn (R.drop k)).1 = q.1 ∧ (q.1 ≠ 2 → k + (scn (R.drop k)).2 = p + 1 + q.2) ∧ w.alloc (.cells #[.int .i64 0, .string ⟨#[]⟩, .int .i64 0, .int .i64 0] 24) = wr) (fun i _ => R.length + 1 - (intOf i).toNat)
  case atStart => exact ⟨p + 1, by go_num, Nat.le_refl _, by omega, by rw [HQ.out], fun _ => by rw [HQ.out], rfl⟩
  case round =>
    obtain ⟨k, rfl, hk1, hk, h1, h2, rfl⟩ := hrel
    have hcells : ∀ j (h : j < R.length), (w.alloc (.cells #[.int .i64 0, .string ⟨#[]⟩, .int .i64 0, .int .i64 0] 24)).cell? ⟨b0, off0 + j, none⟩ = some (.int .i32 (R[j] : Int)) := fun j h => by
      obtain ⟨b, off, hbo, hc⟩ := (HR.out.alloc (.cells #[.int .i64 0, .string ⟨#[]⟩, .int .i64 0, .int .i64 0] 24)).at_ h
      obtain ⟨rfl, rfl⟩ : b0 = b ∧ off0 = off := by simpa using hbo
      exact hc
    have HCL := Lib.hid hcells
    clear hcells
    by_cases hk2 : k < R.length
    · have hcx := HCL.out k hk2
      obtain ⟨x, hx⟩ : ∃ x, x = R[k] := ⟨_, rfl⟩
      rw [List.drop_eq_getElem_cons hk2] at h1 h2
      rw [← hx] at hcx h1 h2
      by_cases h34 : x = 34
      · subst h34
        rw [scn_end] at h1 h2
        have HQ0 : Hid (q.1 = 0) := Lib.hid h1.symm
        have HQK : Hid (k = p + 1 + q.2) := Lib.hid (h2 (by have := HQ0.out; omega))
        have hrd := reads_cut (HR.out.alloc (.cells #[.int .i64 0, .string ⟨#[]⟩, .int .i64 0, .int .i64 0] 24)) p (k + 1) (by omega)
        have hcv := run_conv_runes (P := Tryz.prog) hrd 63 9 21 Tryz.underlying63 Tryz.underlying21 Tryz.underlying9 (k + 1 - p) (cap - p) (cutR_length _ _ _ (by omega))
        obtain ⟨z, hz⟩ : ∃ z, z = encB (cutR R p (k + 1)) := ⟨_, rfl⟩
        have hzs : z.size ≤ 1000000 := by
          have := encB_size (cutR R p (k + 1))
          rw [cutR_length _ _ _ (by omega), ← hz] at this; omega
        rw [← hz] at hcv
        have hT : T = if uqE z = 0 then ((4, uqS z, 0, (p : Int)), k + 1, 0, 0) else (zT, 0, p, 50) := by
          rw [HT.out, if_neg (by have := HQ0.out; omega), if_pos HQ0.out, hz, show p + q.2 + 2 = k + 1 by have := HQK.out; omega]
        have c1 := fun w => runquote_any z hzs w
        clear h1 h2 hx hz HCL
        by_cases hu : uqE z = 0
        · rw [if_pos hu] at hT
          simp only [hu] at c1
          have C1 := Lib.hid c1
          have HTT := Lib.hid hT
          clear c1 hT hu
          go_wp2_with (first
            | (go_at_call 69; (with_reducible refine (C1.out _).mono ?_); rintro e w1 ⟨rfl, p1⟩; obtain ⟨⟨r0, r1, r2, r3⟩, f0, f1, f2, f3⟩ := tok_block rfl p1)
            | fail)
          obtain ⟨s0, s1, s2, s3⟩ := tok_set (.int .i64 4) (.string (uqS z)) (.int .i64 0) (.int .i64 (p : Int)) r0 r1 r2 r3
          refine bodyPost_ret (v := resV ((4, uqS z, 0, (p : Int)), k + 1, 0, 0)) (by simp [results, Tryz.results52, go_sem, s0, s1, s2, s3, resV, tokV]) rfl ⟨?_, ?_⟩
          · rw [HTT.out]
          · exact below_set4 (p1.from (below_one _)) (Nat.le_refl _) _ _ _ _
        · rw [if_neg hu] at hT
          obtain ⟨E, hE⟩ : ∃ E, E = uqE z := ⟨_, rfl⟩
          rw [← hE] at hu
          simp only [← hE] at c1
          have tE : (E != 0) = true := by rw [bne_iff_ne]; exact hu
          have C1 := Lib.hid c1
          have HTT := Lib.hid hT
          clear c1 hT hu hE
          go_wp2_with (first
            | (go_at_call 69; (with_reducible refine (C1.out _).mono ?_); rintro e w1 ⟨rfl, p1⟩; obtain ⟨⟨r0, r1, r2, r3⟩, f0, f1, f2, f3⟩ := tok_block rfl p1)
            | fail)
          obtain ⟨s0, s1, s2, s3⟩ := tok_set (.int .i64 0) (.string ⟨#[]⟩) (.int .i64 0) (.int .i64 0) r0 r1 r2 r3
          refine bodyPost_ret (v := resV (zT, 0, p, 50)) (by simp [results, Tryz.results52, go_sem, s0, s1, s2, s3, resV, tokV, zT]) rfl ⟨?_, ?_⟩
          · rw [HTT.out]
          · exact below_set4 (p1.from (below_one _)) (Nat.le_refl _) _ _ _ _
      · have t34 : ((x : Int) != 34) = true := by rw [bne_iff_ne]; omega
        by_cases hb : cls (x : Int) = 0
        · rw [scn_bad _ h34 hb] at h1 h2
          have HQ0 : Hid (q.1 = 1) := Lib.hid h1.symm
          have hT : T = (zT, 0, k, 40) := by
            have := h2 (by rw [← h1]; decide)
            rw [HT.out, if_pos HQ0.out, show p + 1 + q.2 = k by omega]
          have HTT := Lib.hid hT
          have tb : (cls (x : Int) == 0) = true := by rw [beq_iff_eq]; exact hb
          clear h1 h2 hx hb hT
          go_wp2_with (first | (go_at_call 30; (with_reducible refine (rclass_any _ _).mono ?_); rintro e w' ⟨rfl, rfl⟩) | fail)
          refine bodyPost_ret (v := resV (zT, 0, k, 40)) (by simp [results, Tryz.results52, go_sem, resV, tokV, zT]) rfl ⟨by rw [HTT.out], ?_⟩
          (focus repeat (first | exact Below.refl _ _ | assumption | (exact Hid.out (by assumption)) | (with_reducible refine Below.drew ?_) | (with_reducible refine below_drewN ?_ _) | (refine Below.from (below_one _) ?_) | (refine Below.from (below_conv _ _ _) ?_) | (refine Below.setCell ?_ (by simp <;> omega) _) | (refine Below.from (by assumption) ?_)))
        · have tb : (cls (x : Int) == 0) = false := by rw [beq_eq_false_iff_ne]; exact hb
          by_cases h92 : x = 92
          · have t92 : ((x : Int) == 92) = true := by rw [beq_iff_eq]; omega
            by_cases hk3 : k + 1 < R.length
            · have hcy := HCL.out (k + 1) hk3
              obtain ⟨y, hy⟩ : ∃ y, y = R[k + 1] := ⟨_, rfl⟩
              rw [List.drop_eq_getElem_cons hk3, ← hy, h92] at h1 h2
              rw [← hy] at hcy
              by_cases hyb : cls (y : Int) = 0
              · rw [scn_bs_bad _ hyb] at h1 h2
                have HQ0 : Hid (q.1 = 1) := Lib.hid h1.symm
                have hT : T = (zT, 0, k + 1, 40) := by
                  have := h2 (by rw [← h1]; decide)
                  rw [HT.out, if_pos HQ0.out, show p + 1 + q.2 = k + 1 by omega]
                have HTT := Lib.hid hT
                have ty : (cls (y : Int) == 0) = true := by rw [beq_iff_eq]; exact hyb
                clear h1 h2 hx hy hb hyb hT h92
                go_wp2_with (first | (go_at_call 30; (with_reducible refine (rclass_any _ _).mono ?_); rintro e w' ⟨rfl, rfl⟩) | fail)
                refine bodyPost_ret (v := resV (zT, 0, k + 1, 40)) (by simp [results, Tryz.results52, go_sem, resV, tokV, zT]) rfl ⟨by rw [HTT.out], ?_⟩
                (focus repeat (first | exact Below.refl _ _ | assumption | (exact Hid.out (by assumption)) | (with_reducible refine Below.drew ?_) | (with_reducible refine below_drewN ?_ _) | (refine Below.from (below_one _) ?_) | (refine Below.from (below_conv _ _ _) ?_) | (refine Below.setCell ?_ (by simp <;> omega) _) | (refine Below.from (by assumption) ?_)))
              · rw [scn_bs _ hyb] at h1 h2
                have H1 := Lib.hid h1
                have H2 := Lib.hid h2
                have ty : (cls (y : Int) == 0) = false := by rw [beq_eq_false_iff_ne]; exact hyb
                clear h1 h2 hx hy hb hyb h92
                go_wp2_with (first | (go_at_call 30; (with_reducible refine (rclass_any _ _).mono ?_); rintro e w' ⟨rfl, rfl⟩) | fail)
                refine ⟨⟨k + 2, by go_num, by omega, by omega, H1.out, fun h => by have := H2.out h; show k + 2 + (scn (R.drop (k + 1 + 1))).2 = _; omega, by first | rfl | trivial⟩, ?_⟩
                simp [intOf]; omega
            · rw [List.drop_eq_nil_of_le (show R.length ≤ k + 1 by omega), h92, scn_bs_end] at h1 h2
              have H1 := Lib.hid h1
              clear h1 h2 hx hb h92
              go_wp2_with (first | (go_at_call 30; (with_reducible refine (rclass_any _ _).mono ?_); rintro e w' ⟨rfl, rfl⟩) | fail)
              refine ⟨⟨k + 2, by go_num, by omega, by omega, by rw [List.drop_eq_nil_of_le (by omega)]; exact H1.out, fun h => absurd H1.out.symm h, by first | rfl | trivial⟩, ?_⟩
              simp [intOf]; omega
          · have t92 : ((x : Int) == 92) = false := by rw [beq_eq_false_iff_ne]; omega
            obtain ⟨e1, e2⟩ := scn_on (R.drop (k + 1)) h34 hb h92
            rw [e1] at h1
            have H1 := Lib.hid h1
            have H2 : Hid (q.1 ≠ 2 → k + 1 + (scn (R.drop (k + 1))).2 = p + 1 + q.2) := Lib.hid (fun h => by have := h2 h; rw [e2 (by rw [h1]; exact h)] at this; omega)
            clear h1 h2 e1 e2 hx hb h92
            go_wp2_with (first | (go_at_call 30; (with_reducible refine (rclass_any _ _).mono ?_); rintro e w' ⟨rfl, rfl⟩) | fail)
            refine ⟨⟨k + 1, by go_num, by omega, by omega, H1.out, H2.out, by first | rfl | trivial⟩, ?_⟩
            simp [intOf]; omega
    · rw [List.drop_eq_nil_of_le (by omega), scn_nil] at h1
      have hT : T = (zT, 0, p, 50) := by
        rw [HT.out, if_neg (by omega), if_neg (by omega)]
      have HTT := Lib.hid hT
      clear h1 h2 hT
      go_wp2
      refine bodyPost_ret (v := resV (zT, 0, p, 50)) (by simp [results, Tryz.results52, go_sem, resV, tokV, zT]) rfl ⟨by rw [HTT.out], ?_⟩
      (focus repeat (first | exact Below.refl _ _ | assumption | (exact Hid.out (by assumption)) | (with_reducible refine Below.drew ?_) | (with_reducible refine below_drewN ?_ _) | (refine Below.from (below_one _) ?_) | (refine Below.from (below_conv _ _ _) ?_) | (refine Below.setCell ?_ (by simp <;> omega) _) | (refine Below.from (by assumption) ?_)))

end Go.Proofs.YtejppikbdplamaaGreatDoor.Lex
