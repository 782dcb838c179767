/-
  Joined out of: The walks of the document's own numbers and texts. The walk of the document's own texts. The walk of the document's own tokens of a line.
-/
import Derived.Test.YtdkngidangfkiaaGreatDoorJa02
namespace Go.Proofs.YtdkngidangfkiaaGreatDoor.Lex
open Go.RowKit
open Base Runes
set_option linter.unusedVariables false
theorem pow9 (k : Nat) (h : k ≤ 9) : (10 : Int) ^ k ≤ 10 ^ 9 := by
  have : ∀ k : Fin 10, (10 : Int) ^ (k : Nat) ≤ 10 ^ 9 := by decide
  exact this ⟨k, by omega⟩
theorem numF_bound (l : List Nat) (n : Int) (m : Nat) (hn : 0 ≤ n) (hm : n < 10 ^ m) : numF n l < 10 ^ (m + l.length) := by
  induction l generalizing n m with
  | nil => simpa [numF] using hm
  | cons r t ih =>
    rw [numF]
    split
    · have : (0 : Int) < 10 ^ (m + (r :: t).length) := Int.pow_pos (by decide)
      omega
    · have h10 : (10 : Int) ^ (m + 1) = 10 ^ m * 10 := Int.pow_succ ..
      have := ih (10 * n + ((r : Int) - 48)) (m + 1) (by omega) (by omega)
      rw [List.length_cons, show m + (t.length + 1) = m + 1 + t.length by omega]
      exact this
end Go.Proofs.YtdkngidangfkiaaGreatDoor.Lex
namespace Go.Proofs.YtdkngidangfkiaaGreatDoor.Lex
open Go.RowKit
open Base Runes
set_option linter.unusedVariables false
def tokV (t : Tok) : Value := .agg #[.int .i64 t.1, .string t.2.1, .int .i64 t.2.2.1, .int .i64 t.2.2.2]
theorem scn_nil : scn [] = (2, 0) := rfl
theorem scn_end (t : List Nat) : scn (34 :: t) = (0, 0) := by cases t <;> rfl
theorem scn_bad {r : Nat} (t : List Nat) (h : r ≠ 34) (hb : cls (r : Int) = 0) : scn (r :: t) = (1, 0) := by
  cases t with
  | nil => rw [scn, if_neg h, if_pos hb]
  | cons c t => rw [scn, if_neg h, if_pos hb]
theorem scn_bs_end : scn [92] = (2, 1) := by decide
theorem scn_bs_bad {c : Nat} (t : List Nat) (hb : cls (c : Int) = 0) : scn (92 :: c :: t) = (1, 1) := by
  rw [scn, if_neg (by decide), if_neg (by decide), if_pos rfl, if_pos hb]
theorem scn_bs {c : Nat} (t : List Nat) (hb : cls (c : Int) ≠ 0) : scn (92 :: c :: t) = ((scn t).1, (scn t).2 + 2) := by
  rw [scn, if_neg (by decide), if_neg (by decide), if_pos rfl, if_neg hb]
theorem scn_on {r : Nat} (t : List Nat) (h : r ≠ 34) (hb : cls (r : Int) ≠ 0) (h2 : r ≠ 92) : (scn (r :: t)).1 = (scn t).1 ∧ ((scn t).1 ≠ 2 → (scn (r :: t)).2 = (scn t).2 + 1) := by
  cases t with
  | nil =>
    have e : scn [r] = (2, 1) := by rw [show scn [r] = (if r = 34 then (0, 0) else if cls (r : Int) = 0 then (1, 0) else (2, 1)) from rfl, if_neg h, if_neg hb]
    rw [e]; exact ⟨rfl, fun h => absurd rfl h⟩
  | cons c t => rw [scn, if_neg h, if_neg hb, if_neg h2]; exact ⟨rfl, fun _ => rfl⟩
theorem scn_le : ∀ (n : Nat) (l : List Nat), l.length ≤ n → (scn l).1 ≠ 2 → (scn l).2 < l.length
  | _, [], _, h => absurd rfl h
  | 0, _ :: _, hl, _ => by simp at hl
  | n + 1, r :: t, hl, h => by
    have hl2 : t.length ≤ n := by simpa using hl
    by_cases h34 : r = 34
    · subst h34; rw [scn_end]; simp
    · by_cases hb : cls (r : Int) = 0
      · rw [scn_bad t h34 hb]; simp
      · by_cases h92 : r = 92
        · subst h92
          cases t with
          | nil => exact absurd (by rw [scn_bs_end]) h
          | cons c u =>
            by_cases hc : cls (c : Int) = 0
            · rw [scn_bs_bad u hc]; simp
            · rw [scn_bs u hc] at h ⊢
              have := scn_le n u (by simp at hl2; omega) h
              simp only [List.length_cons]; omega
        · obtain ⟨e1, e2⟩ := scn_on t h34 hb h92
          rw [e1] at h
          rw [e2 h]
          have := scn_le n t hl2 h
          simp only [List.length_cons]; omega
theorem tok_block {w w1 : World} {n : Nat} {t : TypeId} {v0 v1 v2 v3 : Value} (hn : n = w.heap.size) (p : Below (w.alloc (.cells #[v0, v1, v2, v3] t)).heap.size (w.alloc (.cells #[v0, v1, v2, v3] t)) w1) :
    (w1.cell? ⟨n, 0, none⟩ = some v0 ∧ w1.cell? ⟨n, 1, none⟩ = some v1 ∧ w1.cell? ⟨n, 2, none⟩ = some v2 ∧ w1.cell? ⟨n, 3, none⟩ = some v3) ∧
    (w1.frozen? ⟨n, 0, none⟩ = false ∧ w1.frozen? ⟨n, 1, none⟩ = false ∧ w1.frozen? ⟨n, 2, none⟩ = false ∧ w1.frozen? ⟨n, 3, none⟩ = false) := by
  subst hn
  have hb : w1.heap[w.heap.size]? = some (.cells #[v0, v1, v2, v3] t) := by rw [p.block _ (by simp)]; exact heap_alloc_new w _
  simp [World.cell?, World.frozen?, hb]
theorem tok_set {w1 : World} {n : Nat} {a0 a1 a2 a3 : Value} (v0 v1 v2 v3 : Value) (r0 : w1.cell? ⟨n, 0, none⟩ = some a0) (r1 : w1.cell? ⟨n, 1, none⟩ = some a1) (r2 : w1.cell? ⟨n, 2, none⟩ = some a2) (r3 : w1.cell? ⟨n, 3, none⟩ = some a3) :
    ((((w1.setCell ⟨n, 0, none⟩ v0).setCell ⟨n, 1, none⟩ v1).setCell ⟨n, 2, none⟩ v2).setCell ⟨n, 3, none⟩ v3).cell? ⟨n, 0, none⟩ = some v0 ∧
    ((((w1.setCell ⟨n, 0, none⟩ v0).setCell ⟨n, 1, none⟩ v1).setCell ⟨n, 2, none⟩ v2).setCell ⟨n, 3, none⟩ v3).cell? ⟨n, 1, none⟩ = some v1 ∧
    ((((w1.setCell ⟨n, 0, none⟩ v0).setCell ⟨n, 1, none⟩ v1).setCell ⟨n, 2, none⟩ v2).setCell ⟨n, 3, none⟩ v3).cell? ⟨n, 2, none⟩ = some v2 ∧
    ((((w1.setCell ⟨n, 0, none⟩ v0).setCell ⟨n, 1, none⟩ v1).setCell ⟨n, 2, none⟩ v2).setCell ⟨n, 3, none⟩ v3).cell? ⟨n, 3, none⟩ = some v3 := by
  have ne : ∀ i j : Nat, i ≠ j → (⟨n, i, none⟩ : Addr) ≠ ⟨n, j, none⟩ := fun i j h e => h (by injection e)
  have o : ∀ (W : World) (i j : Nat) (v : Value), i ≠ j → (W.setCell ⟨n, i, none⟩ v).cell? ⟨n, j, none⟩ = W.cell? ⟨n, j, none⟩ := fun W i j v h => World.cell?_setCell_other _ _ _ _ (ne i j h)
  refine ⟨?_, ?_, ?_, ?_⟩
  · rw [o _ 3 0 _ (by decide), o _ 2 0 _ (by decide), o _ 1 0 _ (by decide), World.cell?_setCell_same _ _ _ r0]
  · rw [o _ 3 1 _ (by decide), o _ 2 1 _ (by decide), World.cell?_setCell_same _ _ _ (by rw [o _ 0 1 _ (by decide)]; exact r1)]
  · rw [o _ 3 2 _ (by decide), World.cell?_setCell_same _ _ _ (by rw [o _ 1 2 _ (by decide), o _ 0 2 _ (by decide)]; exact r2)]
  · rw [World.cell?_setCell_same _ _ _ (by rw [o _ 2 3 _ (by decide), o _ 1 3 _ (by decide), o _ 0 3 _ (by decide)]; exact r3)]
theorem below_set4 {B n : Nat} {w w1 : World} (h : Below B w w1) (hn : B ≤ n) (v0 v1 v2 v3 : Value) : Below B w ((((w1.setCell ⟨n, 0, none⟩ v0).setCell ⟨n, 1, none⟩ v1).setCell ⟨n, 2, none⟩ v2).setCell ⟨n, 3, none⟩ v3) :=
  (((h.setCell (p := ⟨n, 0, none⟩) hn _).setCell (p := ⟨n, 1, none⟩) hn _).setCell (p := ⟨n, 2, none⟩) hn _).setCell (p := ⟨n, 3, none⟩) hn _
end Go.Proofs.YtdkngidangfkiaaGreatDoor.Lex
namespace Go.Proofs.YtdkngidangfkiaaGreatDoor.Lex
open Go.RowKit
open Base Runes
set_option linter.unusedVariables false
set_option linter.unusedSimpArgs false
theorem textR_to (R : List Nat) (p : Nat) (hp : p < R.length) (h : (textR R p).2.2.2 = 0) : p < (textR R p).2.1 ∧ (textR R p).2.1 ≤ R.length := by
  have hle := scn_le (R.drop (p + 1)).length (R.drop (p + 1)) (Nat.le_refl _)
  rw [List.length_drop] at hle
  unfold textR at h ⊢
  split at h
  · simp at h
  · rename_i h1
    split at h
    · rename_i h0
      have := hle (by omega)
      split at h
      · rename_i hu
        rw [if_neg h1, if_pos h0, if_pos hu]
        dsimp only; omega
      · simp at h
    · simp at h
theorem oneR_to (R : List Nat) (p : Nat) (hp : p < R.length) (h : (oneR R p).2.2.2 = 0) : p < (oneR R p).2.1 ∧ (oneR R p).2.1 ≤ R.length := by
  have he := endR_le R p hp
  have ht := textR_to R p hp
  unfold oneR at h ⊢
  by_cases h0 : cls (R.getD p 0 : Nat) = 0
  · rw [if_pos h0] at h; simp at h
  · rw [if_neg h0] at h ⊢
    by_cases h2 : cls (R.getD p 0 : Nat) = 2
    · rw [if_pos h2]; exact he
    · rw [if_neg h2] at h ⊢
      by_cases h3 : cls (R.getD p 0 : Nat) = 3
      · rw [if_pos h3] at h ⊢
        by_cases ha : anyL (cutR R p (endR R p)) = true
        · rw [if_pos ha]; exact he
        · rw [if_neg ha] at h ⊢
          by_cases hn : numR (cutR R p (endR R p)) < 0
          · rw [if_pos hn] at h; simp at h
          · rw [if_neg hn]; exact he
      · rw [if_neg h3] at h ⊢
        by_cases h34 : R.getD p 0 = 34
        · rw [if_pos h34] at h ⊢; exact ht h
        · rw [if_neg h34] at h ⊢
          by_cases hs : R.getD p 0 = 61 ∨ R.getD p 0 = 58 ∨ R.getD p 0 = 44 ∨ R.getD p 0 = 45
          · rw [if_pos hs]; dsimp only; omega
          · rw [if_neg hs] at h; simp at h
theorem info_tok : (Tryz.prog.info? 96).map (fun i => (i.zero, i.size, i.bytes)) = some (some (.agg #[.int .i64 0, .string ⟨#[]⟩, .int .i64 0, .int .i64 0]), 4, 40) := by kernel_rfl
theorem tkC_one (t : Tok) : ∀ u ∈ tkC t, u.oneCell' = true := by
  intro u hu
  simp only [tkC, List.mem_cons, List.not_mem_nil, or_false] at hu
  rcases hu with rfl | rfl | rfl | rfl <;> rfl
theorem readsT_one {w : World} {n : Nat} (hn : n = w.heap.size) (t : Tok) (ty : TypeId) : ReadsS 4 tkC (w.alloc (.cells #[.int .i64 t.1, .string t.2.1, .int .i64 t.2.2.1, .int .i64 t.2.2.2] ty)) (some ⟨n, 0, none⟩) [t] :=
  readsS_one (f := tkC) hn t _ rfl rfl ty
def LineSays (w w' : World) (e : Ending) (A : List Tok × Nat × Int) : Prop :=
  ∃ ao cap, e = .returned (.tuple #[.slice ao A.1.length cap, .int .i64 (A.2.1 : Int), .int .i64 A.2.2]) ∧ ReadsS 4 tkC w' ao A.1 ∧ (ao = none → cap = 0) ∧ A.1.length ≤ cap ∧ cap ≤ maxLen ∧ Below w.heap.size w w'
end Go.Proofs.YtdkngidangfkiaaGreatDoor.Lex
