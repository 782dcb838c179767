/-
  Joined out of: The reader's block, and the walks of what takes the next token.
-/
import Derived.Test.YtdkngidangfkiaaGreatDoorJa13
namespace Go.Proofs.YtdkngidangfkiaaGreatDoor.Cmd
open Go.RowKit
open Base
open Lex (Tok tkC tkC_length tokV zT tok_cells)
set_option linter.unusedVariables false
set_option linter.unusedSimpArgs false
theorem kp_alloc {a w : World} {r : Option Nat} (h : a.grownBy w r) (o : Obj) : a.grownBy (w.alloc o) r := by
  refine ⟨h.os, h.tape, h.output, by rw [World.size_alloc]; have := h.size; omega, fun k hk hn => ?_⟩
  have : k < w.heap.size := Nat.lt_of_lt_of_le hk h.size
  rw [show (w.alloc o).heap[k]? = w.heap[k]? from Lib.alloc_old _ _ _ this]
  exact h.block k hk hn
theorem kp_set {a w : World} {r : Option Nat} (h : a.grownBy w r) (p : Addr) (v : Value) (hp : some p.block = r ∨ a.heap.size ≤ p.block) : a.grownBy (w.setCell p v) r := by
  have g := grown_set w p v
  refine ⟨g.os.trans h.os, g.tape.trans h.tape, g.output.trans h.output, Nat.le_trans h.size g.size, fun k hk hn => ?_⟩
  have hne : some k ≠ some p.block := by
    intro e
    rcases hp with hp | hp
    · rw [hp] at e; exact hn e
    · injection e; omega
  rw [g.block k (Nat.lt_of_lt_of_le hk h.size) hne]
  exact h.block k hk hn
theorem kp_below {a w w' : World} {r : Option Nat} (h : a.grownBy w r) (hb : Below w.heap.size w w') : a.grownBy w' r := grown_trans h (grown_of_below hb r)
theorem heap_set_same {W : World} {X i : Nat} {arr : Array Value} {T : TypeId} (h : W.heap[X]? = some (.cells arr T)) (v : Value) : (W.setCell ⟨X, i, none⟩ v).heap[X]? = some (.cells (arr.setIfInBounds i v) T) := by
  simp [World.setCell, Array.getElem?_modify, h]
theorem heap_set_other {W : World} {X : Nat} (p : Addr) (v : Value) (h : p.block ≠ X) : (W.setCell p v).heap[X]? = W.heap[X]? := by
  simp [World.setCell, Array.getElem?_modify, h]
def RdAt (w : World) (B : Nat) (l : List Tok) (n : Nat) : Prop :=
  ∃ ao cap, w.heap[B]? = some (.cells #[.slice ao l.length cap, .int .i64 (n : Int)] 77) ∧ l.length ≤ cap ∧ cap ≤ maxLen ∧ ReadsS 4 tkC w ao l ∧ ∀ a, ao = some a → a.block < B
theorem RdAt.lt {w : World} {B : Nat} {l : List Tok} {n : Nat} (h : RdAt w B l n) : B < w.heap.size := by
  obtain ⟨ao, cap, h, _⟩ := h
  exact (Array.getElem?_eq_some_iff.1 h).1
theorem RdAt.below {w w' : World} {B : Nat} {l : List Tok} {n : Nat} (h : RdAt w B l n) (hb : Below w.heap.size w w') : RdAt w' B l n := by
  have hlt := h.lt
  obtain ⟨ao, cap, h1, h2, h3, h4, h5⟩ := h
  refine ⟨ao, cap, ?_, h2, h3, h4.below tkC_length hb, h5⟩
  rw [hb.block _ hlt]; exact h1
theorem reads_tail {w : World} {b off : Nat} {t : Tok} {l : List Tok} (h : ReadsS 4 tkC w (some ⟨b, off, none⟩) (t :: l)) : ReadsS 4 tkC w (some ⟨b, off + 4, none⟩) l := by
  refine .inr ⟨b, off + 4, rfl, fun j hj i hi => ?_⟩
  obtain ⟨b', off', ha, hc⟩ := h.at_ (j := j + 1) (by simpa using hj)
  obtain ⟨rfl, rfl⟩ : b = b' ∧ off = off' := by simpa using ha
  have := hc i hi
  rw [show off + (j + 1) * 4 + i = off + 4 + j * 4 + i by omega] at this
  simpa using this
theorem reads_kept {w w' : World} {B : Nat} {ao : Option Addr} {l : List Tok} (h : ReadsS 4 tkC w ao l) (hg : w.grownBy w' (some B)) (hB : ∀ a, ao = some a → a.block < w.heap.size ∧ a.block ≠ B) : ReadsS 4 tkC w' ao l := by
  rcases h with h | ⟨b, off, rfl, hc⟩
  · exact .inl h
  · obtain ⟨h1, h2⟩ := hB _ rfl
    refine .inr ⟨b, off, rfl, fun j hj i hi => ?_⟩
    have hb := hg.block b h1 (by intro e; injection e with e; exact h2 e)
    rw [← hc j hj i hi]
    exact World.cell?_of_block hb
theorem new_facts {w w3 : World} {v0 v1 v2 v3 : Value} {T : TypeId} (p : Below (w.alloc (.cells #[v0, v1, v2, v3] T)).heap.size (w.alloc (.cells #[v0, v1, v2, v3] T)) w3) :
    w3.cell? ⟨w.heap.size, 0, none⟩ = some v0 ∧ w3.cell? ⟨w.heap.size, 1, none⟩ = some v1 ∧ w3.cell? ⟨w.heap.size, 2, none⟩ = some v2 ∧ w3.cell? ⟨w.heap.size, 3, none⟩ = some v3 ∧ (∀ i, w3.frozen? ⟨w.heap.size, i, none⟩ = false) ∧ w.heap.size < w3.heap.size := by
  have h := p.block w.heap.size (by simp)
  rw [heap_alloc_new] at h
  refine ⟨?_, ?_, ?_, ?_, fun i => ?_, ?_⟩
  · simp [World.cell?, h]
  · simp [World.cell?, h]
  · simp [World.cell?, h]
  · simp [World.cell?, h]
  · simp [World.frozen?, h]
  · have := p.size; simp at this; omega
theorem set_other (X : World) (B C : Nat) (v : Value) (i : Nat) (h : B < C) : (X.setCell ⟨B, 0, none⟩ v).cell? ⟨C, i, none⟩ = X.cell? ⟨C, i, none⟩ := World.cell?_setCell_other _ _ _ _ (fun h => by injection h; omega)
theorem set_frozen (X : World) (B C : Nat) (v : Value) (i : Nat) : (X.setCell ⟨B, 0, none⟩ v).frozen? ⟨C, i, none⟩ = X.frozen? ⟨C, i, none⟩ := by
  by_cases h : B = C
  · subst h
    simp only [World.frozen?, World.setCell, Array.getElem?_modify, if_pos]
    cases X.heap[B]? with
    | none => rfl
    | some o => cases o <;> rfl
  · exact World.frozen?_of_block (heap_set_other _ _ h)
theorem fin_facts {w w3 : World} {B : Nat} {s0 nV z0 z1 z2 z3 v v0 v1 v2 v3 : Value} {TR TT : TypeId} {o : Obj} (hB : B < w.heap.size) (h1 : w.heap[B]? = some (.cells #[s0, nV] TR))
    (p : Below (w.alloc (.cells #[z0, z1, z2, z3] TT)).heap.size (w.alloc (.cells #[z0, z1, z2, z3] TT)) w3) :
    ((((((w3.setCell ⟨B, 0, none⟩ v).setCell ⟨w.heap.size, 0, none⟩ v0).setCell ⟨w.heap.size, 1, none⟩ v1).setCell ⟨w.heap.size, 2, none⟩ v2).setCell ⟨w.heap.size, 3, none⟩ v3).alloc o).heap[B]? = some (.cells #[v, nV] TR) ∧
    ((((((w3.setCell ⟨B, 0, none⟩ v).setCell ⟨w.heap.size, 0, none⟩ v0).setCell ⟨w.heap.size, 1, none⟩ v1).setCell ⟨w.heap.size, 2, none⟩ v2).setCell ⟨w.heap.size, 3, none⟩ v3).alloc o).heap[w.heap.size]? = some (.cells #[v0, v1, v2, v3] TT) ∧
    w.grownBy ((((((w3.setCell ⟨B, 0, none⟩ v).setCell ⟨w.heap.size, 0, none⟩ v0).setCell ⟨w.heap.size, 1, none⟩ v1).setCell ⟨w.heap.size, 2, none⟩ v2).setCell ⟨w.heap.size, 3, none⟩ v3).alloc o) (some B) := by
  have hb := p.block B (by simp; omega)
  rw [Lib.alloc_old _ _ _ hB, h1] at hb
  have hn := p.block w.heap.size (by simp)
  rw [heap_alloc_new] at hn
  have hsz := p.size
  rw [World.size_alloc] at hsz
  have ne : w.heap.size ≠ B := by omega
  refine ⟨?_, ?_, ?_⟩
  · rw [Lib.alloc_old _ _ _ (by simp [World.setCell]; omega), heap_set_other _ _ ne, heap_set_other _ _ ne, heap_set_other _ _ ne, heap_set_other _ _ ne, heap_set_same hb]
    rfl
  · rw [Lib.alloc_old _ _ _ (by simp [World.setCell]; omega)]
    rw [heap_set_same (heap_set_same (heap_set_same (heap_set_same ((heap_set_other _ _ (Ne.symm ne)).trans hn) v0) v1) v2) v3]
    rfl
  · have g := (grown_of_below (p.from (below_one _)) (some B))
    exact kp_alloc (kp_set (kp_set (kp_set (kp_set (kp_set g _ _ (.inl rfl)) _ _ (.inr (Nat.le_refl _))) _ _ (.inr (Nat.le_refl _))) _ _ (.inr (Nat.le_refl _))) _ _ (.inr (Nat.le_refl _))) _
theorem fin_none {w w3 : World} {z0 z1 z2 z3 v0 v1 v2 v3 : Value} {TT : TypeId} (p : Below (w.alloc (.cells #[z0, z1, z2, z3] TT)).heap.size (w.alloc (.cells #[z0, z1, z2, z3] TT)) w3) :
    ((((w3.setCell ⟨w.heap.size, 0, none⟩ v0).setCell ⟨w.heap.size, 1, none⟩ v1).setCell ⟨w.heap.size, 2, none⟩ v2).setCell ⟨w.heap.size, 3, none⟩ v3).heap[w.heap.size]? = some (.cells #[v0, v1, v2, v3] TT) ∧
    Below w.heap.size w ((((w3.setCell ⟨w.heap.size, 0, none⟩ v0).setCell ⟨w.heap.size, 1, none⟩ v1).setCell ⟨w.heap.size, 2, none⟩ v2).setCell ⟨w.heap.size, 3, none⟩ v3) := by
  refine ⟨?_, ((((p.from (below_one _)).setCell (Nat.le_refl _) _).setCell (Nat.le_refl _) _).setCell (Nat.le_refl _) _).setCell (Nat.le_refl _) _⟩
  have hn := p.block w.heap.size (by simp)
  rw [heap_alloc_new] at hn
  rw [heap_set_same (heap_set_same (heap_set_same (heap_set_same hn v0) v1) v2) v3]
  rfl
theorem four {W : World} {B : Nat} {v0 v1 v2 v3 : Value} {T : TypeId} (h : W.heap[B]? = some (.cells #[v0, v1, v2, v3] T)) :
    W.cell? ⟨B, 0, none⟩ = some v0 ∧ W.cell? ⟨B, 1, none⟩ = some v1 ∧ W.cell? ⟨B, 2, none⟩ = some v2 ∧ W.cell? ⟨B, 3, none⟩ = some v3 := by
  simp [World.cell?, h]
def NextSays (B n : Nat) (o : Option Tok) (r : List Tok) (w : World) (e : Ending) (w' : World) : Prop :=
  e = .returned (.tuple #[tokV (o.getD zT), .bool o.isSome]) ∧ RdAt w' B r n ∧ w.grownBy w' (some B)
set_option maxRecDepth 100000 in
set_option maxHeartbeats 1000000 in
theorem next_sign (P : Nat) (q : Tok → Bool) (B n : Nat) (l : List Tok) (w : World) (hR : RdAt w B l n)
    (hq : ∀ t, l.head? = some t → ∀ w2, Below w.heap.size w w2 → Calls Tryz.prog 140 #[tokV t, .pointer (some ⟨P, 0, none⟩)] w2 fun e w3 => e = .returned (.bool (q t)) ∧ Below w2.heap.size w2 w3) :
    Calls Tryz.prog 97 #[.pointer (some ⟨B, 0, none⟩), .func (.func 140) #[] #[.pointer (some ⟨P, 0, none⟩)]] w fun e w' => NextSays B n (nx q l).1 (nx q l).2 w e w' := by
  have hlt := hR.lt
  obtain ⟨ao, cap, h1, h2, h3, h4, h5⟩ := hR
  have c0 : w.cell? ⟨B, 0, none⟩ = some (.slice ao l.length cap) := by simp [World.cell?, h1]
  have c1 : w.cell? ⟨B, 1, none⟩ = some (.int .i64 (n : Int)) := by simp [World.cell?, h1]
  have hR2 : ∀ w2, Below w.heap.size w w2 → RdAt w2 B l n := fun w2 hb => RdAt.below ⟨ao, cap, h1, h2, h3, h4, h5⟩ hb
  have HCAP := Lib.hid h3
  have h3 : cap ≤ 9223372036854775807 := by unfold maxLen at h3; exact h3
  cases l with
  | nil =>
    have HR := Lib.hid hR2
    clear hR2 h1 h4 h5 hq
    rw [List.length_nil] at c0
    go_enter Tryz.func97, Tryz.ntmps97
    go_wp2
    refine bodyPost_ret (v := .tuple #[tokV zT, .bool false]) (by simp [results, Tryz.results97, go_sem, tokV, zT]) rfl ⟨rfl, HR.out _ (below_one _), kp_alloc (grown_refl w _) _⟩
  | cons t r =>
    have hq1 := hq t rfl
    obtain ⟨b, off, hao, hc⟩ := h4.at_ (j := 0) (by simp)
    subst hao
    have hb0 : b < B := h5 _ rfl
    have hb1 : b < w.heap.size := Nat.lt_trans hb0 hlt
    have hb2 : b ≠ B := Nat.ne_of_lt hb0
    have ht := reads_tail h4
    obtain ⟨tk, ts, tn, ta⟩ := t
    have d0 : w.cell? ⟨b, off, none⟩ = some (.int .i64 tk) := by have := hc 0 (by decide); simpa [tkC] using this
    have d1 : w.cell? ⟨b, off + 1, none⟩ = some (.string ts) := by have := hc 1 (by decide); simpa [tkC] using this
    have d2 : w.cell? ⟨b, off + 2, none⟩ = some (.int .i64 tn) := by have := hc 2 (by decide); simpa [tkC] using this
    have d3 : w.cell? ⟨b, off + 3, none⟩ = some (.int .i64 ta) := by have := hc 3 (by decide); simpa [tkC] using this
    rw [List.length_cons] at c0 h2
    have hlen0 : (((r.length + 1 : Nat) : Int) == 0) = false := by rw [beq_eq_false_iff_ne]; omega
    have hup : (0 : Int) < ((r.length + 1 : Nat) : Int) := by omega
    unfold tokV at hq1
    dsimp only at hq1
    have f0 : w.frozen? ⟨B, 0, none⟩ = false := by simp [World.frozen?, h1]
    obtain ⟨L, hL⟩ : ∃ L, L = r.length + 1 := ⟨_, rfl⟩
    rw [← hL] at c0 h2 hlen0 hup
    have HL := Lib.hid hL
    have HQ := Lib.hid hq1
    have H1 := Lib.hid h1
    have HT := Lib.hid ht
    clear hc h4 h5 hq hq1 h1 ht hL
    cases hqt : q (tk, ts, tn, ta) with
    | false =>
      rw [hqt] at HQ
      have hnx : nx q ((tk, ts, tn, ta) :: r) = (none, (tk, ts, tn, ta) :: r) := by rw [nx, if_neg (by rw [hqt]; simp)]
      rw [hnx]
      have HR := Lib.hid hR2
      clear hR2 hqt hnx
      go_enter Tryz.func97, Tryz.ntmps97
      go_wp2_with (first
        | (go_at_call 140; (with_reducible refine (HQ.out _ (by (focus repeat (first | exact Below.refl _ _ | assumption | (exact Hid.out (by assumption)) | (with_reducible refine Below.drew ?_) | (with_reducible refine Base.below_drewN ?_ _) | (refine Below.from (below_one _) ?_) | (refine Below.from (below_conv _ _ _) ?_) | (refine Below.setCell ?_ (by simp <;> omega) _) | (refine Below.from (by assumption) ?_))))).mono ?_); rintro e w3 ⟨rfl, p3⟩; have c0' := cell_below c0 (p3.from (below_one _)); have d0' := cell_below d0 (p3.from (below_one _)); have d1' := cell_below d1 (p3.from (below_one _)); have d2' := cell_below d2 (p3.from (below_one _)); have d3' := cell_below d3 (p3.from (below_one _)); have hl' := lt_of_cell c0'; have hm' := lt_of_cell d0'; have hf' := frozen_below c0 f0 (p3.from (below_one _)); have hz := new_facts p3; obtain ⟨e0, e1, e2, e3, ef, el⟩ := hz; have hne := fun (X : World) (v : Value) (i : Nat) => set_other X B w.heap.size v i hlt; have hnf := fun (X : World) (v : Value) (i : Nat) => set_frozen X B w.heap.size v i)
        | fail)
      obtain ⟨g1, g2⟩ := fin_none (v0 := .int .i64 0) (v1 := .string ⟨#[]⟩) (v2 := .int .i64 0) (v3 := .int .i64 0) p3
      obtain ⟨y0, y1, y2, y3⟩ := four g1
      refine bodyPost_ret (v := .tuple #[tokV zT, .bool false]) (by simp [results, Tryz.results97, go_sem, tokV, zT, y0, y1, y2, y3]) rfl ⟨rfl, HR.out _ g2, grown_of_below g2 _⟩
    | true =>
      rw [hqt] at HQ
      have hnx : nx q ((tk, ts, tn, ta) :: r) = (some (tk, ts, tn, ta), r) := by rw [nx, if_pos hqt]
      rw [hnx]
      clear hR2 hqt hnx
      go_enter Tryz.func97, Tryz.ntmps97
      go_wp2_with (first
        | (go_at_call 140; (with_reducible refine (HQ.out _ (by (focus repeat (first | exact Below.refl _ _ | assumption | (exact Hid.out (by assumption)) | (with_reducible refine Below.drew ?_) | (with_reducible refine Base.below_drewN ?_ _) | (refine Below.from (below_one _) ?_) | (refine Below.from (below_conv _ _ _) ?_) | (refine Below.setCell ?_ (by simp <;> omega) _) | (refine Below.from (by assumption) ?_))))).mono ?_); rintro e w3 ⟨rfl, p3⟩; have c0' := cell_below c0 (p3.from (below_one _)); have d0' := cell_below d0 (p3.from (below_one _)); have d1' := cell_below d1 (p3.from (below_one _)); have d2' := cell_below d2 (p3.from (below_one _)); have d3' := cell_below d3 (p3.from (below_one _)); have hl' := lt_of_cell c0'; have hm' := lt_of_cell d0'; have hf' := frozen_below c0 f0 (p3.from (below_one _)); have hz := new_facts p3; obtain ⟨e0, e1, e2, e3, ef, el⟩ := hz; have hne := fun (X : World) (v : Value) (i : Nat) => set_other X B w.heap.size v i hlt; have hnf := fun (X : World) (v : Value) (i : Nat) => set_frozen X B w.heap.size v i)
        | fail)
      · obtain ⟨g1, g2, g3⟩ := fin_facts (v := .slice (some ⟨b, off, none⟩) (L - 1) 0) (v0 := .int .i64 tk) (v1 := .string ts) (v2 := .int .i64 tn) (v3 := .int .i64 ta) (o := .cells #[.int .i64 tk, .string ts, .int .i64 tn, .int .i64 ta] 96) hlt H1.out p3
        obtain ⟨y0, y1, y2, y3⟩ := four g2
        have hl := HL.out
        have hr0 : r = [] := List.eq_nil_of_length_eq_zero (by omega)
        refine bodyPost_ret (v := .tuple #[tokV (tk, ts, tn, ta), .bool true]) (by simp [results, Tryz.results97, go_sem, tokV, y0, y1, y2, y3]) rfl ⟨rfl, ?_, g3⟩
        subst hr0
        obtain rfl : L = 1 := hl
        refine ⟨some ⟨b, off, none⟩, 0, g1, Nat.le_refl _, Nat.zero_le _, .inl rfl, ?_⟩
        intro a ha; injection ha with ha; subst ha; exact hb0
      · obtain ⟨g1, g2, g3⟩ := fin_facts (v := .slice (some ⟨b, off + 4, none⟩) (L - 1) (cap - 1)) (v0 := .int .i64 tk) (v1 := .string ts) (v2 := .int .i64 tn) (v3 := .int .i64 ta) (o := .cells #[.int .i64 tk, .string ts, .int .i64 tn, .int .i64 ta] 96) hlt H1.out p3
        obtain ⟨y0, y1, y2, y3⟩ := four g2
        have hl := HL.out
        refine bodyPost_ret (v := .tuple #[tokV (tk, ts, tn, ta), .bool true]) (by simp [results, Tryz.results97, go_sem, tokV, y0, y1, y2, y3]) rfl ⟨rfl, ?_, g3⟩
        have hl1 : L - 1 = r.length := by rw [hl]; exact Nat.add_sub_cancel _ _
        have a1 : r.length ≤ cap - 1 := by have := h2; rw [hl] at this; exact Nat.le_sub_one_of_lt this
        have a2 : cap - 1 ≤ maxLen := Nat.le_trans (Nat.sub_le _ _) HCAP.out
        refine ⟨some ⟨b, off + 4, none⟩, cap - 1, g1.trans (by rw [hl1]), a1, a2, reads_kept HT.out g3 ?_, ?_⟩
        · intro a ha; injection ha with ha; subst ha; exact ⟨hb1, hb2⟩
        · intro a ha; injection ha with ha; subst ha; exact hb0
end Go.Proofs.YtdkngidangfkiaaGreatDoor.Cmd
