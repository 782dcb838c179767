/-
  Joined out of: The walk of the document's own texts. The walks of the document's own tokens: one, and all of a line. The walk of the document's own tokens of a line.
-/
import Derived.Test.YtdkngidangfkiaaGreatDoorJb02
namespace Go.Proofs.YtdkngidangfkiaaGreatDoor.Lex
open Go.RowKit
open Base Runes
set_option linter.unusedVariables false
def tokV (t : Tok) : Value := .agg #[.int .i64 t.1, .string t.2.1, .int .i64 t.2.2.1, .int .i64 t.2.2.2]
def resV (r : Tok × Nat × Nat × Int) : Value := .tuple #[tokV r.1, .int .i64 (r.2.1 : Int), .int .i64 (r.2.2.1 : Int), .int .i64 r.2.2.2]
theorem scn_nil : scn [] = (2, 0) := rfl
theorem scn_end (t : List Nat) : scn (34 :: t) = (0, 0) := by cases t <;> rfl
theorem scn_bad {r : Nat} (t : List Nat) (h : r ≠ 34) (hb : cls (r : Int) = 0) : scn (r :: t) = (1, 0) := by
  cases t with
  | nil => rw [scn, if_neg h, if_pos hb]
  | cons c t => rw [scn, if_neg h, if_pos hb]
theorem scn_bs_end : scn [92] = (2, 1) := by decide
theorem scn_bs_bad {c : Nat} (t : List Nat) (hb : cls (c : Int) = 0) : scn (92 :: c :: t) = (1, 1) := by
  rw [scn, if_neg (by decide), if_neg (by decide), if_pos rfl, if_pos hb]
theorem scn_bs {c : Nat} (t : List Nat) (hb : cls (c : Int) ≠ 0) : scn (92 :: c :: t) = ((scn t).1, (scn t).2 + 2) := by
  rw [scn, if_neg (by decide), if_neg (by decide), if_pos rfl, if_neg hb]
theorem scn_on {r : Nat} (t : List Nat) (h : r ≠ 34) (hb : cls (r : Int) ≠ 0) (h2 : r ≠ 92) : (scn (r :: t)).1 = (scn t).1 ∧ ((scn t).1 ≠ 2 → (scn (r :: t)).2 = (scn t).2 + 1) := by
  cases t with
  | nil =>
    have e : scn [r] = (2, 1) := by rw [show scn [r] = (if r = 34 then (0, 0) else if cls (r : Int) = 0 then (1, 0) else (2, 1)) from rfl, if_neg h, if_neg hb]
    rw [e]; exact ⟨rfl, fun h => absurd rfl h⟩
  | cons c t => rw [scn, if_neg h, if_neg hb, if_neg h2]; exact ⟨rfl, fun _ => rfl⟩
theorem scn_le : ∀ (n : Nat) (l : List Nat), l.length ≤ n → (scn l).1 ≠ 2 → (scn l).2 < l.length
  | _, [], _, h => absurd rfl h
  | 0, _ :: _, hl, _ => by simp at hl
  | n + 1, r :: t, hl, h => by
    have hl2 : t.length ≤ n := by simpa using hl
    by_cases h34 : r = 34
    · subst h34; rw [scn_end]; simp
    · by_cases hb : cls (r : Int) = 0
      · rw [scn_bad t h34 hb]; simp
      · by_cases h92 : r = 92
        · subst h92
          cases t with
          | nil => exact absurd (by rw [scn_bs_end]) h
          | cons c u =>
            by_cases hc : cls (c : Int) = 0
            · rw [scn_bs_bad u hc]; simp
            · rw [scn_bs u hc] at h ⊢
              have := scn_le n u (by simp at hl2; omega) h
              simp only [List.length_cons]; omega
        · obtain ⟨e1, e2⟩ := scn_on t h34 hb h92
          rw [e1] at h
          rw [e2 h]
          have := scn_le n t hl2 h
          simp only [List.length_cons]; omega
theorem tok_block {w w1 : World} {n : Nat} {t : TypeId} {v0 v1 v2 v3 : Value} (hn : n = w.heap.size) (p : Below (w.alloc (.cells #[v0, v1, v2, v3] t)).heap.size (w.alloc (.cells #[v0, v1, v2, v3] t)) w1) :
    (w1.cell? ⟨n, 0, none⟩ = some v0 ∧ w1.cell? ⟨n, 1, none⟩ = some v1 ∧ w1.cell? ⟨n, 2, none⟩ = some v2 ∧ w1.cell? ⟨n, 3, none⟩ = some v3) ∧
    (w1.frozen? ⟨n, 0, none⟩ = false ∧ w1.frozen? ⟨n, 1, none⟩ = false ∧ w1.frozen? ⟨n, 2, none⟩ = false ∧ w1.frozen? ⟨n, 3, none⟩ = false) := by
  subst hn
  have hb : w1.heap[w.heap.size]? = some (.cells #[v0, v1, v2, v3] t) := by rw [p.block _ (by simp)]; exact heap_alloc_new w _
  simp [World.cell?, World.frozen?, hb]
theorem tok_set {w1 : World} {n : Nat} {a0 a1 a2 a3 : Value} (v0 v1 v2 v3 : Value) (r0 : w1.cell? ⟨n, 0, none⟩ = some a0) (r1 : w1.cell? ⟨n, 1, none⟩ = some a1) (r2 : w1.cell? ⟨n, 2, none⟩ = some a2) (r3 : w1.cell? ⟨n, 3, none⟩ = some a3) :
    ((((w1.setCell ⟨n, 0, none⟩ v0).setCell ⟨n, 1, none⟩ v1).setCell ⟨n, 2, none⟩ v2).setCell ⟨n, 3, none⟩ v3).cell? ⟨n, 0, none⟩ = some v0 ∧
    ((((w1.setCell ⟨n, 0, none⟩ v0).setCell ⟨n, 1, none⟩ v1).setCell ⟨n, 2, none⟩ v2).setCell ⟨n, 3, none⟩ v3).cell? ⟨n, 1, none⟩ = some v1 ∧
    ((((w1.setCell ⟨n, 0, none⟩ v0).setCell ⟨n, 1, none⟩ v1).setCell ⟨n, 2, none⟩ v2).setCell ⟨n, 3, none⟩ v3).cell? ⟨n, 2, none⟩ = some v2 ∧
    ((((w1.setCell ⟨n, 0, none⟩ v0).setCell ⟨n, 1, none⟩ v1).setCell ⟨n, 2, none⟩ v2).setCell ⟨n, 3, none⟩ v3).cell? ⟨n, 3, none⟩ = some v3 := by
  have ne : ∀ i j : Nat, i ≠ j → (⟨n, i, none⟩ : Addr) ≠ ⟨n, j, none⟩ := fun i j h e => h (by injection e)
  have o : ∀ (W : World) (i j : Nat) (v : Value), i ≠ j → (W.setCell ⟨n, i, none⟩ v).cell? ⟨n, j, none⟩ = W.cell? ⟨n, j, none⟩ := fun W i j v h => World.cell?_setCell_other _ _ _ _ (ne i j h)
  refine ⟨?_, ?_, ?_, ?_⟩
  · rw [o _ 3 0 _ (by decide), o _ 2 0 _ (by decide), o _ 1 0 _ (by decide), World.cell?_setCell_same _ _ _ r0]
  · rw [o _ 3 1 _ (by decide), o _ 2 1 _ (by decide), World.cell?_setCell_same _ _ _ (by rw [o _ 0 1 _ (by decide)]; exact r1)]
  · rw [o _ 3 2 _ (by decide), World.cell?_setCell_same _ _ _ (by rw [o _ 1 2 _ (by decide), o _ 0 2 _ (by decide)]; exact r2)]
  · rw [World.cell?_setCell_same _ _ _ (by rw [o _ 2 3 _ (by decide), o _ 1 3 _ (by decide), o _ 0 3 _ (by decide)]; exact r3)]
theorem below_set4 {B n : Nat} {w w1 : World} (h : Below B w w1) (hn : B ≤ n) (v0 v1 v2 v3 : Value) : Below B w ((((w1.setCell ⟨n, 0, none⟩ v0).setCell ⟨n, 1, none⟩ v1).setCell ⟨n, 2, none⟩ v2).setCell ⟨n, 3, none⟩ v3) :=
  (((h.setCell (p := ⟨n, 0, none⟩) hn _).setCell (p := ⟨n, 1, none⟩) hn _).setCell (p := ⟨n, 2, none⟩) hn _).setCell (p := ⟨n, 3, none⟩) hn _
set_option maxRecDepth 100000 in
set_option maxHeartbeats 4000000 in
theorem rtext_any (ao : Option Addr) (cap : Nat) (R : List Nat) (p : Nat) (w : World) (hl : R.length ≤ 100000) (hcap : R.length ≤ cap) (hcm : cap ≤ maxLen) (hp : p < R.length) (hr : Reads rV w ao R) :
    Calls Tryz.prog 155 #[.slice ao R.length cap, .int .i64 (p : Int)] w fun e w' => e = .returned (resV (textR R p)) ∧ Below w.heap.size w w' := by
  have HR := Lib.hid hr
  clear hr
  obtain ⟨b0, off0, rfl, _⟩ := HR.out.at_ hp
  obtain ⟨T, hT⟩ : ∃ T, T = textR R p := ⟨_, rfl⟩
  rw [← hT]
  unfold textR at hT
  obtain ⟨q, hq⟩ : ∃ q, q = scn (R.drop (p + 1)) := ⟨_, rfl⟩
  rw [← hq] at hT
  have HT := Lib.hid hT
  have HQ := Lib.hid hq
  clear hT hq
  go_enter Tryz.func155, Tryz.ntmps155
  go_wp2
  go_loopw [8] (fun i wr => ∃ k : Nat, i = .int .i64 (k : Int) ∧ p + 1 ≤ k ∧ k ≤ R.length + 1 ∧ (scn (R.drop k)).1 = q.1 ∧ (q.1 ≠ 2 → k + (scn (R.drop k)).2 = p + 1 + q.2) ∧ w.alloc (.cells #[.int .i64 0, .string ⟨#[]⟩, .int .i64 0, .int .i64 0] 96) = wr) (fun i _ => R.length + 1 - (intOf i).toNat)
  case atStart => exact ⟨p + 1, by go_num, Nat.le_refl _, by omega, by rw [HQ.out], fun _ => by rw [HQ.out], rfl⟩
  case round =>
    obtain ⟨k, rfl, hk1, hk, h1, h2, rfl⟩ := hrel
    have hcells : ∀ j (h : j < R.length), (w.alloc (.cells #[.int .i64 0, .string ⟨#[]⟩, .int .i64 0, .int .i64 0] 96)).cell? ⟨b0, off0 + j, none⟩ = some (.int .i32 (R[j] : Int)) := fun j h => by
      obtain ⟨b, off, hbo, hc⟩ := (HR.out.alloc (.cells #[.int .i64 0, .string ⟨#[]⟩, .int .i64 0, .int .i64 0] 96)).at_ h
      obtain ⟨rfl, rfl⟩ : b0 = b ∧ off0 = off := by simpa using hbo
      exact hc
    have HCL := Lib.hid hcells
    clear hcells
    by_cases hk2 : k < R.length
    · have hcx := HCL.out k hk2
      obtain ⟨x, hx⟩ : ∃ x, x = R[k] := ⟨_, rfl⟩
      rw [List.drop_eq_getElem_cons hk2] at h1 h2
      rw [← hx] at hcx h1 h2
      by_cases h34 : x = 34
      · subst h34
        rw [scn_end] at h1 h2
        have HQ0 : Hid (q.1 = 0) := Lib.hid h1.symm
        have HQK : Hid (k = p + 1 + q.2) := Lib.hid (h2 (by have := HQ0.out; omega))
        have hrd := reads_cut (HR.out.alloc (.cells #[.int .i64 0, .string ⟨#[]⟩, .int .i64 0, .int .i64 0] 96)) p (k + 1) (by omega)
        have hcv := run_conv_runes (P := Tryz.prog) hrd 148 9 21 Tryz.underlying148 Tryz.underlying21 Tryz.underlying9 (k + 1 - p) (cap - p) (cutR_length _ _ _ (by omega))
        obtain ⟨z, hz⟩ : ∃ z, z = encB (cutR R p (k + 1)) := ⟨_, rfl⟩
        have hzs : z.size ≤ 1000000 := by
          have := encB_size (cutR R p (k + 1))
          rw [cutR_length _ _ _ (by omega), ← hz] at this; omega
        rw [← hz] at hcv
        have hT : T = if uqE z = 0 then ((4, uqS z, 0, (p : Int)), k + 1, 0, 0) else (zT, 0, p, 50) := by
          rw [HT.out, if_neg (by have := HQ0.out; omega), if_pos HQ0.out, hz, show p + q.2 + 2 = k + 1 by have := HQK.out; omega]
        have c1 := fun w => runquote_any z hzs w
        clear h1 h2 hx hz HCL
        by_cases hu : uqE z = 0
        · rw [if_pos hu] at hT
          simp only [hu] at c1
          have C1 := Lib.hid c1
          have HTT := Lib.hid hT
          clear c1 hT hu
          go_wp2_with (first
            | (go_at_call 179; (with_reducible refine (C1.out _).mono ?_); rintro e w1 ⟨rfl, p1⟩; obtain ⟨⟨r0, r1, r2, r3⟩, f0, f1, f2, f3⟩ := tok_block rfl p1)
            | fail)
          obtain ⟨s0, s1, s2, s3⟩ := tok_set (.int .i64 4) (.string (uqS z)) (.int .i64 0) (.int .i64 (p : Int)) r0 r1 r2 r3
          refine bodyPost_ret (v := resV ((4, uqS z, 0, (p : Int)), k + 1, 0, 0)) (by simp [results, Tryz.results155, go_sem, s0, s1, s2, s3, resV, tokV]) rfl ⟨?_, ?_⟩
          · rw [HTT.out]
          · exact below_set4 (p1.from (below_one _)) (Nat.le_refl _) _ _ _ _
        · rw [if_neg hu] at hT
          obtain ⟨E, hE⟩ : ∃ E, E = uqE z := ⟨_, rfl⟩
          rw [← hE] at hu
          simp only [← hE] at c1
          have tE : (E != 0) = true := by rw [bne_iff_ne]; exact hu
          have C1 := Lib.hid c1
          have HTT := Lib.hid hT
          clear c1 hT hu hE
          go_wp2_with (first
            | (go_at_call 179; (with_reducible refine (C1.out _).mono ?_); rintro e w1 ⟨rfl, p1⟩; obtain ⟨⟨r0, r1, r2, r3⟩, f0, f1, f2, f3⟩ := tok_block rfl p1)
            | fail)
          obtain ⟨s0, s1, s2, s3⟩ := tok_set (.int .i64 0) (.string ⟨#[]⟩) (.int .i64 0) (.int .i64 0) r0 r1 r2 r3
          refine bodyPost_ret (v := resV (zT, 0, p, 50)) (by simp [results, Tryz.results155, go_sem, s0, s1, s2, s3, resV, tokV, zT]) rfl ⟨?_, ?_⟩
          · rw [HTT.out]
          · exact below_set4 (p1.from (below_one _)) (Nat.le_refl _) _ _ _ _
      · have t34 : ((x : Int) != 34) = true := by rw [bne_iff_ne]; omega
        by_cases hb : cls (x : Int) = 0
        · rw [scn_bad _ h34 hb] at h1 h2
          have HQ0 : Hid (q.1 = 1) := Lib.hid h1.symm
          have hT : T = (zT, 0, k, 40) := by
            have := h2 (by rw [← h1]; decide)
            rw [HT.out, if_pos HQ0.out, show p + 1 + q.2 = k by omega]
          have HTT := Lib.hid hT
          have tb : (cls (x : Int) == 0) = true := by rw [beq_iff_eq]; exact hb
          clear h1 h2 hx hb hT
          go_wp2_with (first | (go_at_call 77; (with_reducible refine (rclass_any _ _).mono ?_); rintro e w' ⟨rfl, rfl⟩) | fail)
          refine bodyPost_ret (v := resV (zT, 0, k, 40)) (by simp [results, Tryz.results155, go_sem, resV, tokV, zT]) rfl ⟨by rw [HTT.out], ?_⟩
          (exact Base.bel_)
        · have tb : (cls (x : Int) == 0) = false := by rw [beq_eq_false_iff_ne]; exact hb
          by_cases h92 : x = 92
          · have t92 : ((x : Int) == 92) = true := by rw [beq_iff_eq]; omega
            by_cases hk3 : k + 1 < R.length
            · have hcy := HCL.out (k + 1) hk3
              obtain ⟨y, hy⟩ : ∃ y, y = R[k + 1] := ⟨_, rfl⟩
              rw [List.drop_eq_getElem_cons hk3, ← hy, h92] at h1 h2
              rw [← hy] at hcy
              by_cases hyb : cls (y : Int) = 0
              · rw [scn_bs_bad _ hyb] at h1 h2
                have HQ0 : Hid (q.1 = 1) := Lib.hid h1.symm
                have hT : T = (zT, 0, k + 1, 40) := by
                  have := h2 (by rw [← h1]; decide)
                  rw [HT.out, if_pos HQ0.out, show p + 1 + q.2 = k + 1 by omega]
                have HTT := Lib.hid hT
                have ty : (cls (y : Int) == 0) = true := by rw [beq_iff_eq]; exact hyb
                clear h1 h2 hx hy hb hyb hT h92
                go_wp2_with (first | (go_at_call 77; (with_reducible refine (rclass_any _ _).mono ?_); rintro e w' ⟨rfl, rfl⟩) | fail)
                refine bodyPost_ret (v := resV (zT, 0, k + 1, 40)) (by simp [results, Tryz.results155, go_sem, resV, tokV, zT]) rfl ⟨by rw [HTT.out], ?_⟩
                (exact Base.bel_)
              · rw [scn_bs _ hyb] at h1 h2
                have H1 := Lib.hid h1
                have H2 := Lib.hid h2
                have ty : (cls (y : Int) == 0) = false := by rw [beq_eq_false_iff_ne]; exact hyb
                clear h1 h2 hx hy hb hyb h92
                go_wp2_with (first | (go_at_call 77; (with_reducible refine (rclass_any _ _).mono ?_); rintro e w' ⟨rfl, rfl⟩) | fail)
                refine ⟨⟨k + 2, by go_num, by omega, by omega, H1.out, fun h => by have := H2.out h; show k + 2 + (scn (R.drop (k + 1 + 1))).2 = _; omega, by first | rfl | trivial⟩, ?_⟩
                simp [intOf]; omega
            · rw [List.drop_eq_nil_of_le (show R.length ≤ k + 1 by omega), h92, scn_bs_end] at h1 h2
              have H1 := Lib.hid h1
              clear h1 h2 hx hb h92
              go_wp2_with (first | (go_at_call 77; (with_reducible refine (rclass_any _ _).mono ?_); rintro e w' ⟨rfl, rfl⟩) | fail)
              refine ⟨⟨k + 2, by go_num, by omega, by omega, by rw [List.drop_eq_nil_of_le (by omega)]; exact H1.out, fun h => absurd H1.out.symm h, by first | rfl | trivial⟩, ?_⟩
              simp [intOf]; omega
          · have t92 : ((x : Int) == 92) = false := by rw [beq_eq_false_iff_ne]; omega
            obtain ⟨e1, e2⟩ := scn_on (R.drop (k + 1)) h34 hb h92
            rw [e1] at h1
            have H1 := Lib.hid h1
            have H2 : Hid (q.1 ≠ 2 → k + 1 + (scn (R.drop (k + 1))).2 = p + 1 + q.2) := Lib.hid (fun h => by have := h2 h; rw [e2 (by rw [h1]; exact h)] at this; omega)
            clear h1 h2 e1 e2 hx hb h92
            go_wp2_with (first | (go_at_call 77; (with_reducible refine (rclass_any _ _).mono ?_); rintro e w' ⟨rfl, rfl⟩) | fail)
            refine ⟨⟨k + 1, by go_num, by omega, by omega, H1.out, H2.out, by first | rfl | trivial⟩, ?_⟩
            simp [intOf]; omega
    · rw [List.drop_eq_nil_of_le (by omega), scn_nil] at h1
      have hT : T = (zT, 0, p, 50) := by
        rw [HT.out, if_neg (by omega), if_neg (by omega)]
      have HTT := Lib.hid hT
      clear h1 h2 hT
      go_wp2
      refine bodyPost_ret (v := resV (zT, 0, p, 50)) (by simp [results, Tryz.results155, go_sem, resV, tokV, zT]) rfl ⟨by rw [HTT.out], ?_⟩
      (exact Base.bel_)
end Go.Proofs.YtdkngidangfkiaaGreatDoor.Lex
namespace Go.Proofs.YtdkngidangfkiaaGreatDoor.Lex
open Go.RowKit
open Base Runes
set_option linter.unusedVariables false
set_option linter.unusedSimpArgs false
theorem blk4 {w : World} {n : Nat} {t : TypeId} {v0 v1 v2 v3 : Value} (h : w.heap[n]? = some (.cells #[v0, v1, v2, v3] t)) :
    (w.cell? ⟨n, 0, none⟩ = some v0 ∧ w.cell? ⟨n, 1, none⟩ = some v1 ∧ w.cell? ⟨n, 2, none⟩ = some v2 ∧ w.cell? ⟨n, 3, none⟩ = some v3) ∧
    (w.frozen? ⟨n, 0, none⟩ = false ∧ w.frozen? ⟨n, 1, none⟩ = false ∧ w.frozen? ⟨n, 2, none⟩ = false ∧ w.frozen? ⟨n, 3, none⟩ = false) := by
  simp [World.cell?, World.frozen?, h]
theorem two_blocks {w w1 : World} {A B : Obj} (p : Below ((w.alloc A).alloc B).heap.size ((w.alloc A).alloc B) w1) : w1.heap[w.heap.size]? = some A ∧ w1.heap[w.heap.size + 1]? = some B := by
  constructor
  · rw [p.block _ (by simp; omega), Lib.alloc_old _ _ _ (by simp)]; exact heap_alloc_new w _
  · rw [p.block _ (by simp)]
    have := heap_alloc_new (w.alloc A) B
    simpa using this
set_option maxRecDepth 100000 in
set_option maxHeartbeats 8000000 in
theorem rone_any (ao : Option Addr) (cap : Nat) (R : List Nat) (p : Nat) (w : World) (hl : R.length ≤ 100000) (hcap : R.length ≤ cap) (hcm : cap ≤ maxLen) (hp : p < R.length) (hr : Reads rV w ao R) :
    Calls Tryz.prog 115 #[.slice ao R.length cap, .int .i64 (p : Int)] w fun e w' => e = .returned (resV (oneR R p)) ∧ Below w.heap.size w w' := by
  have HR := Lib.hid hr
  obtain ⟨b0, off0, rfl, hcx⟩ := hr.at_ hp
  obtain ⟨x, hx⟩ : ∃ x, x = R[p] := ⟨_, rfl⟩
  have hgx : R.getD p 0 = x := by rw [hx]; simp [List.getD, List.getElem?_eq_getElem hp]
  rw [← hx] at hcx
  unfold rV at hcx
  have hcx0 : ((w.alloc (.cells #[.int .i64 0, .string ⟨#[]⟩, .int .i64 0, .int .i64 0] 96)).alloc (.cells #[.int .i64 0, .string ⟨#[]⟩, .int .i64 0, .int .i64 (p : Int)] 96)).cell? ⟨b0, off0 + p, none⟩ = some (.int .i32 (x : Int)) := cell_below hcx (below_two _ _)
  obtain ⟨T, hT⟩ : ∃ T, T = oneR R p := ⟨_, rfl⟩
  rw [← hT]
  unfold oneR at hT
  rw [hgx] at hT
  clear hr hx hgx
  obtain ⟨E, hE⟩ : ∃ E, E = endR R p := ⟨_, rfl⟩
  have hEl := endR_le R p hp
  rw [← hE] at hT hEl
  have HRW : ∀ A B : Obj, Reads rV ((w.alloc A).alloc B) (some ⟨b0, off0, none⟩) R := fun A B => HR.out.below (below_two A B)
  have HRD : ∀ A B : Obj, Reads rV ((w.alloc A).alloc B) (some ⟨b0, off0 + p, none⟩) (cutR R p E) := fun A B => reads_cut (HRW A B) p E hEl.2
  have hcl := cutR_length R p E hEl.2
  have hce := rend_any (some ⟨b0, off0, none⟩) cap R p ((w.alloc (.cells #[.int .i64 0, .string ⟨#[]⟩, .int .i64 0, .int .i64 0] 96)).alloc (.cells #[.int .i64 0, .string ⟨#[]⟩, .int .i64 0, .int .i64 (p : Int)] 96)) (by omega) hp (HRW _ _)
  simp only [← hE] at hce
  obtain ⟨z, hz⟩ : ∃ z, z = encB (cutR R p E) := ⟨_, rfl⟩
  have hzs : z.size ≤ 1000000 := by
    have := encB_size (cutR R p E)
    rw [hcl, ← hz] at this; omega
  have hcv : ∀ A B : Obj, (convert 148 9 (.slice (some ⟨b0, off0 + p, none⟩) (E - p) (cap - p))).run Tryz.prog ((w.alloc A).alloc B) = .ok (.string z) ((w.alloc A).alloc B) := fun A B => by
    rw [hz]
    exact run_conv_runes (P := Tryz.prog) (HRD A B) 148 9 21 Tryz.underlying148 Tryz.underlying21 Tryz.underlying9 (E - p) (cap - p) hcl
  rw [← hz] at hT
  have HCE := Lib.hid hce
  have HCV := Lib.hid hcv
  have HRW2 := Lib.hid HRW
  have HRD2 := Lib.hid HRD
  have HCL := Lib.hid hcl
  have HZ := Lib.hid hz
  clear hce hE hcv HRW HRD hcl hz hcx
  by_cases h0 : cls (x : Int) = 0
  · rw [if_pos h0] at hT
    have HT := Lib.hid hT
    have t0 : (cls (x : Int) == 0) = true := by rw [beq_iff_eq]; exact h0
    clear hT h0
    go_enter Tryz.func115, Tryz.ntmps115
    go_wp2_with (first | (go_at_call 77; (with_reducible refine (rclass_any _ _).mono ?_); rintro e w' ⟨rfl, rfl⟩) | fail)
    refine bodyPost_ret (v := resV (zT, 0, p, 40)) (by simp [results, Tryz.results115, go_sem, resV, tokV, zT]) rfl ⟨by rw [HT.out], ?_⟩
    first | exact below_two _ _ | (exact Base.bel_)
  · have t0 : (cls (x : Int) == 0) = false := by rw [beq_eq_false_iff_ne]; exact h0
    rw [if_neg h0] at hT
    by_cases h2 : cls (x : Int) = 2
    · rw [if_pos h2] at hT
      have t2 : (cls (x : Int) == 2) = true := by rw [beq_iff_eq]; exact h2
      have HT := Lib.hid hT
      have hcv1 := HCV.out (.cells #[.int .i64 0, .string ⟨#[]⟩, .int .i64 0, .int .i64 0] 96) (.cells #[.int .i64 1, .string ⟨#[]⟩, .int .i64 0, .int .i64 (p : Int)] 96)
      clear hT h0 h2
      go_enter Tryz.func115, Tryz.ntmps115
      go_wp2_with (first
        | (go_at_call 77; (with_reducible refine (rclass_any _ _).mono ?_); rintro e w' ⟨rfl, rfl⟩)
        | (go_at_call 151; (with_reducible refine (HCE.out).mono ?_); rintro e w' ⟨rfl, rfl⟩)
        | (go_at_call 152; (with_reducible refine (rlower_any z hzs _).mono ?_); rintro e w1 ⟨rfl, p1⟩; obtain ⟨q0, q1⟩ := two_blocks p1; obtain ⟨⟨r0, r1, r2, r3⟩, f0, f1, f2, f3⟩ := blk4 q0; obtain ⟨⟨m0, m1, m2, m3⟩, g0, g1, g2, g3⟩ := blk4 q1; clear q0 q1)
        | fail)
      have o : ∀ i, (w1.setCell ⟨w.heap.size + 1, 1, none⟩ (.string (lowS z))).cell? ⟨w.heap.size, i, none⟩ = w1.cell? ⟨w.heap.size, i, none⟩ := fun i => World.cell?_setCell_other _ _ _ _ (by intro e; injection e with e1; omega)
      obtain ⟨s0, s1, s2, s3⟩ := tok_set (.int .i64 1) (.string (lowS z)) (.int .i64 0) (.int .i64 (p : Int)) ((o 0).trans r0) ((o 1).trans r1) ((o 2).trans r2) ((o 3).trans r3)
      clear o
      refine bodyPost_ret (v := resV ((1, lowS z, 0, (p : Int)), E, 0, 0)) (by simp [results, Tryz.results115, go_sem, s0, s1, s2, s3, resV, tokV]) rfl ⟨by rw [HT.out], ?_⟩
      exact below_set4 ((p1.from (below_two _ _)).setCell (p := ⟨w.heap.size + 1, 1, none⟩) (Nat.le_succ _) _) (Nat.le_refl _) _ _ _ _
    · have t2 : (cls (x : Int) == 2) = false := by rw [beq_eq_false_iff_ne]; exact h2
      rw [if_neg h2] at hT
      by_cases h3 : cls (x : Int) = 3
      · rw [if_pos h3] at hT
        have t3 : (cls (x : Int) == 3) = true := by rw [beq_iff_eq]; exact h3
        have hpl := rplain_any (some ⟨b0, off0 + p, none⟩) (cap - p) (cutR R p E) ((w.alloc (.cells #[.int .i64 0, .string ⟨#[]⟩, .int .i64 0, .int .i64 0] 96)).alloc (.cells #[.int .i64 0, .string ⟨#[]⟩, .int .i64 0, .int .i64 (p : Int)] 96)) (by rw [HCL.out]; unfold maxLen; omega) (HRD2.out _ _)
        simp only [HCL.out] at hpl
        cases hany : anyL (cutR R p E) with
        | true =>
          rw [if_pos hany] at hT
          simp only [hany] at hpl
          have HPL := Lib.hid hpl
          have HT := Lib.hid hT
          have hcv3 := HCV.out (.cells #[.int .i64 0, .string ⟨#[]⟩, .int .i64 0, .int .i64 0] 96) (.cells #[.int .i64 3, .string ⟨#[]⟩, .int .i64 0, .int .i64 (p : Int)] 96)
          clear hT h0 h2 h3 hpl hany
          go_enter Tryz.func115, Tryz.ntmps115
          go_wp2_with (first
            | (go_at_call 77; (with_reducible refine (rclass_any _ _).mono ?_); rintro e w' ⟨rfl, rfl⟩)
            | (go_at_call 151; (with_reducible refine (HCE.out).mono ?_); rintro e w' ⟨rfl, rfl⟩)
            | (go_at_call 153; (with_reducible refine (HPL.out).mono ?_); rintro e w' ⟨rfl, rfl⟩)
            | fail)
          refine bodyPost_ret (v := resV ((3, z, 0, (p : Int)), E, 0, 0)) (by simp [results, Tryz.results115, go_sem, resV, tokV, zT]) rfl ⟨by rw [HT.out], ?_⟩
          first | exact below_two _ _ | (exact Base.bel_)
        | false =>
          rw [if_neg (by rw [hany]; simp)] at hT
          simp only [hany] at hpl
          have HPL := Lib.hid hpl
          have hnu := rnumber_any (some ⟨b0, off0 + p, none⟩) (cap - p) (cutR R p E) ((w.alloc (.cells #[.int .i64 0, .string ⟨#[]⟩, .int .i64 0, .int .i64 0] 96)).alloc (.cells #[.int .i64 2, .string ⟨#[]⟩, .int .i64 0, .int .i64 (p : Int)] 96)) (by rw [HCL.out]; unfold maxLen; omega) (HRD2.out _ _)
          obtain ⟨N, hN⟩ : ∃ N, N = numR (cutR R p E) := ⟨_, rfl⟩
          simp only [HCL.out, ← hN] at hnu
          rw [← hN] at hT
          have HNU := Lib.hid hnu
          clear hpl hany hnu hN
          by_cases hn : N < 0
          · rw [if_pos hn] at hT
            have HT := Lib.hid hT
            clear hT h0 h2 h3
            go_enter Tryz.func115, Tryz.ntmps115
            go_wp2_with (first
              | (go_at_call 77; (with_reducible refine (rclass_any _ _).mono ?_); rintro e w' ⟨rfl, rfl⟩)
              | (go_at_call 151; (with_reducible refine (HCE.out).mono ?_); rintro e w' ⟨rfl, rfl⟩)
              | (go_at_call 153; (with_reducible refine (HPL.out).mono ?_); rintro e w' ⟨rfl, rfl⟩)
              | (go_at_call 154; (with_reducible refine (HNU.out).mono ?_); rintro e w' ⟨rfl, rfl⟩)
              | fail)
            refine bodyPost_ret (v := resV (zT, 0, p, 50)) (by simp [results, Tryz.results115, go_sem, resV, tokV, zT]) rfl ⟨by rw [HT.out], ?_⟩
            first | exact below_two _ _ | (exact Base.bel_)
          · rw [if_neg hn] at hT
            have HT := Lib.hid hT
            clear hT h0 h2 h3
            go_enter Tryz.func115, Tryz.ntmps115
            go_wp2_with (first
              | (go_at_call 77; (with_reducible refine (rclass_any _ _).mono ?_); rintro e w' ⟨rfl, rfl⟩)
              | (go_at_call 151; (with_reducible refine (HCE.out).mono ?_); rintro e w' ⟨rfl, rfl⟩)
              | (go_at_call 153; (with_reducible refine (HPL.out).mono ?_); rintro e w' ⟨rfl, rfl⟩)
              | (go_at_call 154; (with_reducible refine (HNU.out).mono ?_); rintro e w' ⟨rfl, rfl⟩)
              | fail)
            refine bodyPost_ret (v := resV ((2, ⟨#[]⟩, N, (p : Int)), E, 0, 0)) (by simp [results, Tryz.results115, go_sem, resV, tokV, zT]) rfl ⟨by rw [HT.out], ?_⟩
            first | exact below_two _ _ | (exact Base.bel_)
      · rw [if_neg h3] at hT
        have t3 : (cls (x : Int) == 3) = false := by rw [beq_eq_false_iff_ne]; exact h3
        by_cases h34 : x = 34
        · rw [if_pos h34] at hT
          have t34 : ((x : Int) == 34) = true := by rw [beq_iff_eq]; omega
          have hqt := rtext_any (some ⟨b0, off0, none⟩) cap R p ((w.alloc (.cells #[.int .i64 0, .string ⟨#[]⟩, .int .i64 0, .int .i64 0] 96)).alloc (.cells #[.int .i64 0, .string ⟨#[]⟩, .int .i64 0, .int .i64 (p : Int)] 96)) hl hcap hcm hp (HRW2.out _ _)
          rw [← hT] at hqt
          obtain ⟨⟨k', s', n', a'⟩, to', at', e'⟩ := T
          simp only [resV, tokV] at hqt
          have HQT := Lib.hid hqt
          clear hT hqt h0 h2 h3 h34
          go_enter Tryz.func115, Tryz.ntmps115
          go_wp2_with (first
            | (go_at_call 77; (with_reducible refine (rclass_any _ _).mono ?_); rintro e w' ⟨rfl, rfl⟩)
            | (go_at_call 155; (with_reducible refine HQT.out.mono ?_); rintro e w1 ⟨rfl, p1⟩; obtain ⟨q0, q1⟩ := two_blocks p1; obtain ⟨⟨r0, r1, r2, r3⟩, f0, f1, f2, f3⟩ := blk4 q0; clear q0 q1)
            | fail)
          obtain ⟨s0, s1, s2, s3⟩ := tok_set (.int .i64 k') (.string s') (.int .i64 n') (.int .i64 a') r0 r1 r2 r3
          refine bodyPost_ret (v := resV ((k', s', n', a'), to', at', e')) (by simp [results, Tryz.results115, go_sem, s0, s1, s2, s3, resV, tokV]) rfl ⟨rfl, ?_⟩
          exact below_set4 (p1.from (below_two _ _)) (Nat.le_refl _) _ _ _ _
        · rw [if_neg h34] at hT
          have t34 : ((x : Int) == 34) = false := by rw [beq_eq_false_iff_ne]; omega
          by_cases hs : x = 61 ∨ x = 58 ∨ x = 44 ∨ x = 45
          · rw [if_pos hs] at hT
            obtain ⟨y, hy⟩ : ∃ y, y = encB (cutR R p (p + 1)) := ⟨_, rfl⟩
            rw [← hy] at hT
            have hcl1 : (cutR R p (p + 1)).length = 1 := by rw [cutR_length _ _ _ (by omega)]; omega
            have hcv5 := run_conv_runes (P := Tryz.prog) (reads_cut (HRW2.out (.cells #[.int .i64 0, .string ⟨#[]⟩, .int .i64 0, .int .i64 0] 96) (.cells #[.int .i64 5, .string ⟨#[]⟩, .int .i64 0, .int .i64 (p : Int)] 96)) p (p + 1) (by omega)) 148 9 21 Tryz.underlying148 Tryz.underlying21 Tryz.underlying9 1 (cap - p) hcl1
            rw [← hy] at hcv5
            have HT := Lib.hid hT
            clear hT h0 h2 h3 h34 hy hcl1
            go_enter Tryz.func115, Tryz.ntmps115
            go_wp2_with (first
              | (go_at_call 77; (with_reducible refine (rclass_any _ _).mono ?_); rintro e w' ⟨rfl, rfl⟩)
              | fail)
            all_goals first | (exfalso; simp only [beq_iff_eq, beq_eq_false_iff_ne, ne_eq] at *; omega) | skip
            all_goals
              refine bodyPost_ret (v := resV ((5, y, 0, (p : Int)), p + 1, 0, 0)) (by simp [results, Tryz.results115, go_sem, resV, tokV, zT]) rfl ⟨by rw [HT.out], ?_⟩
              first | exact below_two _ _ | (exact Base.bel_)
          · rw [if_neg hs] at hT
            have HT := Lib.hid hT
            have u1 : ((x : Int) == 61) = false := by rw [beq_eq_false_iff_ne]; omega
            have u2 : ((x : Int) == 58) = false := by rw [beq_eq_false_iff_ne]; omega
            have u3 : ((x : Int) == 44) = false := by rw [beq_eq_false_iff_ne]; omega
            have u4 : ((x : Int) == 45) = false := by rw [beq_eq_false_iff_ne]; omega
            clear hT h0 h2 h3 h34 hs
            go_enter Tryz.func115, Tryz.ntmps115
            go_wp2_with (first
              | (go_at_call 77; (with_reducible refine (rclass_any _ _).mono ?_); rintro e w' ⟨rfl, rfl⟩)
              | fail)
            refine bodyPost_ret (v := resV (zT, 0, p, 50)) (by simp [results, Tryz.results115, go_sem, resV, tokV, zT]) rfl ⟨by rw [HT.out], ?_⟩
            first | exact below_two _ _ | (exact Base.bel_)
end Go.Proofs.YtdkngidangfkiaaGreatDoor.Lex
namespace Go.Proofs.YtdkngidangfkiaaGreatDoor.Lex
open Go.RowKit
open Base Runes
set_option linter.unusedVariables false
set_option linter.unusedSimpArgs false
theorem textR_to (R : List Nat) (p : Nat) (hp : p < R.length) (h : (textR R p).2.2.2 = 0) : p < (textR R p).2.1 ∧ (textR R p).2.1 ≤ R.length := by
  have hle := scn_le (R.drop (p + 1)).length (R.drop (p + 1)) (Nat.le_refl _)
  rw [List.length_drop] at hle
  unfold textR at h ⊢
  split at h
  · simp at h
  · rename_i h1
    split at h
    · rename_i h0
      have := hle (by omega)
      split at h
      · rename_i hu
        rw [if_neg h1, if_pos h0, if_pos hu]
        dsimp only; omega
      · simp at h
    · simp at h
theorem oneR_to (R : List Nat) (p : Nat) (hp : p < R.length) (h : (oneR R p).2.2.2 = 0) : p < (oneR R p).2.1 ∧ (oneR R p).2.1 ≤ R.length := by
  have he := endR_le R p hp
  have ht := textR_to R p hp
  unfold oneR at h ⊢
  by_cases h0 : cls (R.getD p 0 : Nat) = 0
  · rw [if_pos h0] at h; simp at h
  · rw [if_neg h0] at h ⊢
    by_cases h2 : cls (R.getD p 0 : Nat) = 2
    · rw [if_pos h2]; exact he
    · rw [if_neg h2] at h ⊢
      by_cases h3 : cls (R.getD p 0 : Nat) = 3
      · rw [if_pos h3] at h ⊢
        by_cases ha : anyL (cutR R p (endR R p)) = true
        · rw [if_pos ha]; exact he
        · rw [if_neg ha] at h ⊢
          by_cases hn : numR (cutR R p (endR R p)) < 0
          · rw [if_pos hn] at h; simp at h
          · rw [if_neg hn]; exact he
      · rw [if_neg h3] at h ⊢
        by_cases h34 : R.getD p 0 = 34
        · rw [if_pos h34] at h ⊢; exact ht h
        · rw [if_neg h34] at h ⊢
          by_cases hs : R.getD p 0 = 61 ∨ R.getD p 0 = 58 ∨ R.getD p 0 = 44 ∨ R.getD p 0 = 45
          · rw [if_pos hs]; dsimp only; omega
          · rw [if_neg hs] at h; simp at h
theorem info_tok : (Tryz.prog.info? 96).map (fun i => (i.zero, i.size, i.bytes)) = some (some (.agg #[.int .i64 0, .string ⟨#[]⟩, .int .i64 0, .int .i64 0]), 4, 40) := by kernel_rfl
theorem tkC_one (t : Tok) : ∀ u ∈ tkC t, u.oneCell' = true := by
  intro u hu
  simp only [tkC, List.mem_cons, List.not_mem_nil, or_false] at hu
  rcases hu with rfl | rfl | rfl | rfl <;> rfl
theorem readsT_one {w : World} {n : Nat} (hn : n = w.heap.size) (t : Tok) (ty : TypeId) : ReadsS 4 tkC (w.alloc (.cells #[.int .i64 t.1, .string t.2.1, .int .i64 t.2.2.1, .int .i64 t.2.2.2] ty)) (some ⟨n, 0, none⟩) [t] :=
  readsS_one (f := tkC) hn t _ rfl rfl ty
def LineSays (w w' : World) (e : Ending) (A : List Tok × Nat × Int) : Prop :=
  ∃ ao cap, e = .returned (.tuple #[.slice ao A.1.length cap, .int .i64 (A.2.1 : Int), .int .i64 A.2.2]) ∧ ReadsS 4 tkC w' ao A.1 ∧ (ao = none → cap = 0) ∧ A.1.length ≤ cap ∧ cap ≤ maxLen ∧ Below w.heap.size w w'
set_option maxRecDepth 100000 in
set_option maxHeartbeats 4000000 in
theorem rtokens_any (s : ByteArray) (hs : s.size ≤ maxLen) (w : World) :
    Calls Tryz.prog 75 #[.string s] w fun e w' => LineSays w w' e (tkA s) := by
  unfold maxLen at hs
  by_cases hbig : 400 < s.size
  · have hT : tkA s = ([], 0, 3) := by unfold tkA; rw [if_pos hbig]
    rw [hT]
    go_enter Tryz.func75, Tryz.ntmps75
    go_wp2
    go_ret3
    exact ⟨none, 0, rfl, .inl rfl, fun _ => rfl, Nat.le_refl _, Nat.zero_le _, Below.refl _ _⟩
  · obtain ⟨i0, hi, hz0, hz1, hz2⟩ := info_parts info_tok
    have HI := Lib.hid hi
    have HZ0 := Lib.hid hz0
    have HZ1 := Lib.hid hz1
    have HZ2 := Lib.hid hz2
    clear hi hz0 hz1 hz2
    obtain ⟨R, hR⟩ : ∃ R, R = rn s := ⟨_, rfl⟩
    have hRl : R.length ≤ 400 := by rw [hR, rn_length]; have := cn_le s; omega
    obtain ⟨A, hA⟩ : ∃ A, A = tkA s := ⟨_, rfl⟩
    rw [← hA]
    unfold tkA at hA
    rw [if_neg hbig, ← hR] at hA
    have c1 := fun w => rrunes_any s (by omega) w
    simp only [← hR] at c1
    have C1 := Lib.hid c1
    have HA := Lib.hid hA
    clear c1 hA hR
    go_enter Tryz.func75, Tryz.ntmps75
    go_wp2_with (first | (go_at_call 114; (with_reducible refine (C1.out _).mono ?_); rintro e w1 ⟨ro, rcap, rfl, hr, hrn, hrc, hrm, p1⟩) | fail)
    have HR := Lib.hid hr
    have P1 := Lib.hid p1
    clear hr p1
    go_loopw [6, 7] (fun v i wr => ∃ (k f : Nat) (acc : List Tok), i = .int .i64 (k : Int) ∧ k ≤ R.length ∧ R.length ≤ k + f ∧ OwnS 4 tkC w1.heap.size 96 v acc wr ∧ toksR f R k acc = A ∧ acc.length ≤ k ∧ Below w1.heap.size w1 wr) (fun _ i _ => R.length - (intOf i).toNat)
    case atStart => exact ⟨0, R.length, [], rfl, Nat.zero_le _, by omega, OwnS.nil (Nat.le_refl _), HA.out.symm, Nat.le_refl _, Below.refl _ _⟩
    case round =>
      obtain ⟨k, f, acc, rfl, hk, hf, ho, hc, hal, hb⟩ := hrel
      have HO := Lib.hid ho
      have HB := Lib.hid hb
      obtain ⟨ao, cap, rfl, hrd, hnil, hcap, hcm⟩ := ho.value tkC_length
      have HRD := Lib.hid hrd
      clear ho hb hrd
      by_cases hp : k < R.length
      · obtain ⟨f', rfl⟩ : ∃ f', f = f' + 1 := ⟨f - 1, by omega⟩
        rw [toksR, if_pos hp] at hc
        have hrw := HR.out.below HB.out
        obtain ⟨b0, off0, rfl, hcx⟩ := hrw.at_ hp
        obtain ⟨x, hx⟩ : ∃ x, x = R[k] := ⟨_, rfl⟩
        have hgx : R.getD k 0 = x := by rw [hx]; simp [List.getD, List.getElem?_eq_getElem hp]
        rw [← hx] at hcx
        unfold rV at hcx
        rw [hgx] at hc
        have HRW := Lib.hid hrw
        clear hrw hx hgx
        by_cases h1 : cls (x : Int) = 1
        · rw [if_pos h1] at hc
          have HC := Lib.hid hc
          have t1 : (cls (x : Int) == 1) = true := by rw [beq_iff_eq]; exact h1
          clear hc h1
          go_wp2_with (first | (go_at_call 77; (with_reducible refine (rclass_any _ _).mono ?_); rintro e w' ⟨rfl, rfl⟩) | fail)
          refine ⟨⟨k + 1, f', acc, by go_num, by omega, by omega, HO.out, HC.out, by omega, HB.out⟩, ?_⟩
          simp [intOf]; omega
        · have t1 : (cls (x : Int) == 1) = false := by rw [beq_eq_false_iff_ne]; exact h1
          rw [if_neg h1] at hc
          have hto := oneR_to R k hp
          have hone := rone_any (some ⟨b0, off0, none⟩) rcap R k wr (by omega) hrc hrm hp HRW.out
          obtain ⟨⟨⟨k', s', n', a'⟩, to', at', e'⟩, hQ⟩ : ∃ Q, Q = oneR R k := ⟨_, rfl⟩
          rw [← hQ] at hc hto hone
          dsimp only at hc hto
          simp only [resV, tokV] at hone
          have HONE := Lib.hid hone
          clear hQ hone h1
          by_cases he : e' = 0
          · rw [if_pos he] at hc
            subst he
            have hto2 := hto rfl
            have HC := Lib.hid hc
            clear hc hto
            go_wp2_with (first
              | (go_at_call 77; (with_reducible refine (rclass_any _ _).mono ?_); rintro e w' ⟨rfl, rfl⟩)
              | (go_at_call 115; (with_reducible refine (HONE.out).mono ?_); rintro e w2 ⟨rfl, p2⟩)
              | (at_builtin; refine wpList_append_srcS rfl (.tmp 41) (.tmp 43) 73 rfl tkC_length (by decide) i0 _ 40 Tryz.underlying73 HI.out HZ0.out HZ1.out HZ2.out rfl tkC_one rfl (((HO.out.below p2).alloc _).alloc _) _ 1 1 [((k', s', n', a') : Tok)] rfl rfl (readsT_one (by simp) (k', s', n', a') _) (by intro h; cases h) (by omega) (by unfold maxLen; omega) ?_; intro v4 w4 o4 b4)
              | fail)
            have hw2 : Below w1.heap.size w1 ((w2.alloc (.cells #[.int .i64 k', .string s', .int .i64 n', .int .i64 a'] 96)).alloc (.cells #[.int .i64 k', .string s', .int .i64 n', .int .i64 a'] 96)) := by
              have h1 := HB.out.trans (p2.mono HB.out.size)
              exact (h1.alloc h1.size _).alloc (by have := h1.size; simp; omega) _
            refine ⟨⟨to', f', acc ++ [(k', s', n', a')], rfl, hto2.2, by omega, o4, HC.out, by simp; omega, hw2.trans b4⟩, ?_⟩
            simp [intOf]; omega
          · rw [if_neg he] at hc
            have HC := Lib.hid hc
            have te : (e' != 0) = true := by rw [bne_iff_ne]; exact he
            clear hc hto he
            go_wp2_with (first
              | (go_at_call 77; (with_reducible refine (rclass_any _ _).mono ?_); rintro e w' ⟨rfl, rfl⟩)
              | (go_at_call 115; (with_reducible refine (HONE.out).mono ?_); rintro e w2 ⟨rfl, p2⟩)
              | fail)
            go_ret3
            have hw2 : Below w.heap.size w (w2.alloc (.cells #[.int .i64 k', .string s', .int .i64 n', .int .i64 a'] 96)) := by
              have h1 := (p2.from (HB.out.from P1.out))
              exact h1.alloc h1.size _
            rw [← HC.out]
            exact ⟨none, 0, rfl, .inl rfl, fun _ => rfl, Nat.le_refl _, Nat.zero_le _, hw2⟩
      · have hkk : k = R.length := by omega
        have hfin : (acc, R.length, (0 : Int)) = A := by
          rw [← hc]
          cases f with
          | zero => rfl
          | succ f => rw [toksR, if_neg hp]
        have HF := Lib.hid hfin
        clear hc hfin
        go_wp2
        go_ret3
        rw [← HF.out]
        exact ⟨ao, cap, rfl, HRD.out, hnil, hcap, hcm, HB.out.from P1.out⟩
end Go.Proofs.YtdkngidangfkiaaGreatDoor.Lex
