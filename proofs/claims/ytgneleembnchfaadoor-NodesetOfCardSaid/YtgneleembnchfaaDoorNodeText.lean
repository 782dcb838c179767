/-
  The texts of sets, plain: runs of members, their text, and back.
-/
import Derived.Test.YtgneleembnchfaaDoorNodeBits
import Derived.Lib.AtoiAll
import Derived.Lib.ItoaNum
import Derived.Lib.IndexMore
namespace Go.Proofs.YtgneleembnchfaaDoor.Node
set_option linter.unusedVariables false
set_option linter.unusedSimpArgs false

/-- A number below 100, in decimal. -/
def dec (n : Nat) : List UInt8 := if n < 10 then [UInt8.ofNat (48 + n)] else [UInt8.ofNat (48 + n / 10), UInt8.ofNat (48 + n % 10)]

def runs : List Nat → List (Nat × Nat)
  | [] => []
  | a :: l =>
    match runs l with
    | (b, c) :: r => if b = a + 1 then (a, c) :: r else (a, a) :: (b, c) :: r
    | [] => [(a, a)]

def endT (r : Nat × Nat) : List UInt8 := if r.1 = r.2 then [] else 45 :: dec r.2
def runT (r : Nat × Nat) : List UInt8 := dec r.1 ++ endT r
def tailT : List (Nat × Nat) → List UInt8
  | [] => []
  | r :: l => 44 :: (runT r ++ tailT l)
def joinT : List (Nat × Nat) → List UInt8
  | [] => []
  | r :: l => runT r ++ tailT l
def showT (l : List Nat) : List UInt8 := if l = [] then [45] else joinT (runs l)

theorem runs_cons (a : Nat) (l : List Nat) : ∃ c r, runs (a :: l) = (a, c) :: r := by
  unfold runs
  cases runs l with
  | nil => exact ⟨a, [], rfl⟩
  | cons x r =>
    obtain ⟨b, c⟩ := x
    by_cases h : b = a + 1
    · exact ⟨c, r, by simp [h]⟩
    · exact ⟨a, (b, c) :: r, by simp [h]⟩

/-- A member that the next one follows. -/
theorem runs_on (a : Nat) (l : List Nat) (c : Nat) (r : List (Nat × Nat)) (h : runs l = (a + 1, c) :: r) : runs (a :: l) = (a, c) :: r := by
  conv => lhs; unfold runs
  rw [h]; simp
/-- A member that the next one doesn't follow. -/
theorem runs_off (a : Nat) (l : List Nat) (h : ∀ c r, runs l ≠ (a + 1, c) :: r) : runs (a :: l) = (a, a) :: runs l := by
  conv => lhs; unfold runs
  cases hl : runs l with
  | nil => rfl
  | cons x r =>
    obtain ⟨b, c⟩ := x
    have : b ≠ a + 1 := fun e => h c r (by rw [hl, e])
    simp [this]

theorem runs_head (l : List Nat) (a c : Nat) (r : List (Nat × Nat)) (h : runs l = (a, c) :: r) : ∃ t, l = a :: t := by
  cases l with
  | nil => simp [runs] at h
  | cons b t =>
    obtain ⟨c', r', e⟩ := runs_cons b t
    rw [e] at h
    simp at h
    exact ⟨t, by rw [h.1.1]⟩

/-- All that runs stand for. -/
def flat : List (Nat × Nat) → List Nat
  | [] => []
  | r :: l => List.range' r.1 (r.2 + 1 - r.1) ++ flat l

theorem flat_runs : ∀ l, flat (runs l) = l ∧ ∀ r ∈ runs l, r.1 ≤ r.2 ∧ r.2 ∈ l
  | [] => ⟨rfl, by simp [runs]⟩
  | a :: l => by
    obtain ⟨h1, h2⟩ := flat_runs l
    cases hr : runs l with
    | nil =>
      rw [runs_off a l (by rw [hr]; simp), hr]
      rw [hr] at h1
      refine ⟨?_, ?_⟩
      · rw [← h1]; simp [flat, List.range']
      · intro r hm
        simp at hm
        subst hm
        simp
    | cons x r =>
      obtain ⟨b, c⟩ := x
      rw [hr] at h1 h2
      have hbc := h2 (b, c) (by simp)
      by_cases hb : b = a + 1
      · subst hb
        rw [runs_on a l c r hr]
        refine ⟨?_, ?_⟩
        · rw [← h1]
          simp only [flat]
          rw [← List.cons_append]
          congr 1
          simp only at hbc
          rw [show c + 1 - a = (c + 1 - (a + 1)) + 1 by omega, List.range'_succ]
        · intro q hm
          rcases List.mem_cons.1 hm with rfl | hm
          · simp only at hbc ⊢; exact ⟨by omega, List.mem_cons_of_mem _ hbc.2⟩
          · have := h2 q (List.mem_cons_of_mem _ hm); exact ⟨this.1, List.mem_cons_of_mem _ this.2⟩
      · rw [runs_off a l (by rw [hr]; intro c' r' e; simp at e; exact hb e.1.1), hr]
        refine ⟨?_, ?_⟩
        · rw [← h1]
          simp [flat, List.range']
        · intro q hm
          rcases List.mem_cons.1 hm with rfl | hm
          · simp
          · have := h2 q hm; exact ⟨this.1, List.mem_cons_of_mem _ this.2⟩

theorem runs_ne {l : List Nat} (h : l ≠ []) : runs l ≠ [] := by
  cases l with
  | nil => exact absurd rfl h
  | cons a l => obtain ⟨c, r, e⟩ := runs_cons a l; rw [e]; simp

/-! ### Numbers -/

theorem itoa_dec (n : Nat) (h : n < 64) : Go.Lib.itoa (n : Int) = dec n := by
  unfold Go.Lib.itoa dec
  rw [if_neg (by omega), Int.toNat_natCast, Go.Lib.decDigits]
  by_cases h1 : n < 10
  · rw [dif_pos h1, if_pos h1]
  · rw [dif_neg h1, if_neg h1, Go.Lib.decDigits, dif_pos (by omega)]
    rfl

theorem dec_length (n : Nat) : (dec n).length ≤ 2 ∧ 1 ≤ (dec n).length := by unfold dec; split <;> simp

/-- A node's number, read. -/
def nodeN (t : List UInt8) : Option Nat := match Go.Lib.atoiAll t with
  | .ok v => if 0 ≤ v ∧ v < 64 then some v.toNat else none
  | _ => none

theorem nodeN_dec : ∀ n : Fin 64, nodeN (dec n.val) = some n.val := by decide +kernel
theorem dec_bytes : ∀ n : Fin 64, (dec n.val).all (fun b => decide (48 ≤ b.toNat ∧ b.toNat ≤ 57)) = true := by decide +kernel
theorem dec_in (n : Nat) (h : n < 64) (b : UInt8) (hb : b ∈ dec n) : b ≠ 44 ∧ b ≠ 45 := by
  have := List.all_eq_true.1 (dec_bytes ⟨n, h⟩) b hb
  rw [decide_eq_true_eq] at this
  constructor
  · rintro rfl; exact absurd this (by decide)
  · rintro rfl; exact absurd this (by decide)

/-! ### A text cut at a byte -/

theorem index_byte (c : UInt8) (x : List UInt8) : ∀ p : List UInt8, c ∉ p → Go.Lib.index (p ++ c :: x) [c] = (p.length : Int)
  | [], _ => by simp [Go.Lib.index, List.isPrefixOf]
  | b :: p, h => by
    have hb : b ≠ c := fun e => h (by rw [e]; simp)
    have hi := index_byte c x p (fun hm => h (List.mem_cons_of_mem _ hm))
    have h1 : ([c].isPrefixOf (b :: (p ++ c :: x))) = false := by
      have : (c == b) = false := by rw [beq_eq_false_iff_ne]; exact fun e => hb e.symm
      simp [List.isPrefixOf, this]
    rw [List.cons_append, Go.Lib.index, hi, h1]
    have : ((p.length : Int) == -1) = false := by rw [beq_eq_false_iff_ne]; omega
    simp [this]
theorem index_not (c : UInt8) : ∀ p : List UInt8, c ∉ p → Go.Lib.index p [c] = -1
  | [], _ => by simp [Go.Lib.index]
  | b :: p, h => by
    have hb : b ≠ c := fun e => h (by rw [e]; simp)
    have hi := index_not c p (fun hm => h (List.mem_cons_of_mem _ hm))
    have h1 : ([c].isPrefixOf (b :: p)) = false := by
      have : (c == b) = false := by rw [beq_eq_false_iff_ne]; exact fun e => hb e.symm
      simp [List.isPrefixOf, this]
    rw [Go.Lib.index, hi, h1]
    simp

theorem cut_at (c : UInt8) (p x : List UInt8) (h : c ∉ p) : Go.Lib.cut (p ++ c :: x) [c] = (p, x, true) := by
  unfold Go.Lib.cut
  rw [index_byte c x p h, if_pos (by omega), Int.toNat_natCast]
  simp [List.drop_append]
theorem cut_not (c : UInt8) (p : List UInt8) (h : c ∉ p) : Go.Lib.cut p [c] = (p, [], false) := by
  unfold Go.Lib.cut
  rw [index_not c p h, if_neg (by omega)]
theorem cut_shorter (c : UInt8) (t : List UInt8) : (Go.Lib.cut t [c]).1.length ≤ t.length ∧ (Go.Lib.cut t [c]).2.1.length ≤ t.length ∧ ((Go.Lib.cut t [c]).2.2 = true → (Go.Lib.cut t [c]).2.1.length < t.length) := by
  unfold Go.Lib.cut
  split
  · rename_i h
    have hr := Go.Lib.index_room t [c] h
    simp only [List.length_take, List.length_drop, List.length_singleton] at hr ⊢
    refine ⟨by omega, by omega, fun _ => by omega⟩
  · simp

/-! ### The program's reading -/

def mask (a b : Nat) : Nat := allN ((b : Int) + 1) &&& (18446744073709551615 - allN (a : Int))
theorem mask_lt (a b : Nat) : mask a b < 18446744073709551616 := Nat.lt_of_le_of_lt Nat.and_le_left (allN_lt _)
theorem tb_mask (a b i : Nat) (hi : i < 64) : (mask a b).testBit i = decide (a ≤ i ∧ i ≤ b) := by
  unfold mask
  rw [Nat.testBit_and, tb_not _ _ (allN_lt _), tb_all, tb_all, decide_eq_true hi, Bool.true_and, Bool.eq_iff_iff]
  simp
  omega

/-- What stands behind the sign, or is the first number again. -/
def toT (t : List UInt8) : List UInt8 := if (Go.Lib.cut t [45]).2.2 = true then (Go.Lib.cut t [45]).2.1 else (Go.Lib.cut t [45]).1
def runN (t : List UInt8) : Option Nat :=
  match nodeN (Go.Lib.cut t [45]).1, nodeN (toT t) with
  | some a, some b => some (mask a b)
  | _, _ => none
theorem runN_lt {t : List UInt8} {x : Nat} (h : runN t = some x) : x < 18446744073709551616 := by
  unfold runN at h
  split at h
  · injection h with h; rw [← h]; exact mask_lt _ _
  · cases h

theorem runN_run (a b : Nat) (hab : a ≤ b) (hb : b < 64) : runN (runT (a, b)) = some (mask a b) := by
  have ha : (45 : UInt8) ∉ dec a := fun h => (dec_in a (by omega) _ h).2 rfl
  unfold runN toT runT endT
  by_cases he : a = b
  · subst he
    rw [if_pos rfl, List.append_nil, cut_not 45 _ ha, if_neg (by simp)]
    have := nodeN_dec ⟨a, hb⟩
    simp only at this
    simp only [this]
  · rw [if_neg he, cut_at 45 (dec a) (dec b) ha, if_pos rfl]
    have h1 := nodeN_dec ⟨a, by omega⟩
    have h2 := nodeN_dec ⟨b, hb⟩
    simp only at h1 h2
    simp only [h1, h2]

theorem comma_in (r : Nat × Nat) (h1 : r.1 < 64) (h2 : r.2 < 64) : (44 : UInt8) ∉ runT r := by
  unfold runT endT
  intro h
  rcases List.mem_append.1 h with h | h
  · exact (dec_in _ h1 _ h).1 rfl
  · split at h
    · simp at h
    · rcases List.mem_cons.1 h with h | h
      · cases h
      · exact (dec_in _ h2 _ h).1 rfl

def guessF : Nat → Nat → List UInt8 → Nat
  | 0, s, _ => s
  | f + 1, s, t =>
    match runN (Go.Lib.cut t [44]).1 with
    | none => 0
    | some x => if (Go.Lib.cut t [44]).2.2 = true then guessF f (s ||| x) (Go.Lib.cut t [44]).2.1 else s ||| x
def guessN (t : List UInt8) : Nat := guessF (t.length + 1) 0 t

theorem guessF_lt : ∀ (f s : Nat) (t : List UInt8), s < 18446744073709551616 → guessF f s t < 18446744073709551616
  | 0, s, t, h => h
  | f + 1, s, t, h => by
    unfold guessF
    split
    · decide
    · rename_i x hx
      have hx2 := runN_lt hx
      have ho : s ||| x < 18446744073709551616 := by
        have : s ||| x < 2 ^ 64 := Nat.or_lt_two_pow (by simpa using h) (by simpa using hx2)
        simpa using this
      split
      · exact guessF_lt f _ _ ho
      · exact ho
theorem guessN_lt (t : List UInt8) : guessN t < 18446744073709551616 := guessF_lt _ _ _ (by decide)

/-- Runs that may be. -/
def ok (rs : List (Nat × Nat)) : Prop := ∀ r ∈ rs, r.1 ≤ r.2 ∧ r.2 < 64

theorem flat_lt : ∀ rs, ok rs → ∀ n ∈ flat rs, n < 64
  | [], _, n, h => by simp [flat] at h
  | r :: rs, h, n, hn => by
    unfold flat at hn
    rcases List.mem_append.1 hn with hn | hn
    · have := h r (by simp)
      have := List.mem_range'_1.1 hn
      omega
    · exact flat_lt rs (fun q hq => h q (List.mem_cons_of_mem _ hq)) n hn

theorem or_mask (s : Nat) (r : Nat × Nat) (rs : List (Nat × Nat)) (h : r.1 ≤ r.2 ∧ r.2 < 64) : (s ||| mask r.1 r.2) ||| setOf (flat rs) = s ||| setOf (flat (r :: rs)) := by
  apply Nat.eq_of_testBit_eq
  intro i
  rw [Nat.testBit_or, Nat.testBit_or, Nat.testBit_or, tb_setOf, tb_setOf, Bool.or_assoc]
  congr 1
  rw [show flat (r :: rs) = List.range' r.1 (r.2 + 1 - r.1) ++ flat rs from rfl]
  have e : (mask r.1 r.2).testBit i = decide (i ∈ List.range' r.1 (r.2 + 1 - r.1)) := by
    by_cases hi : i < 64
    · rw [tb_mask _ _ _ hi, decide_eq_decide, List.mem_range'_1]
      omega
    · rw [tb_high _ _ (mask_lt _ _) (by omega), eq_comm, decide_eq_false_iff_not, List.mem_range'_1]
      omega
  rw [e]
  simp only [List.mem_append, Bool.decide_or]

theorem guess_join : ∀ (rs : List (Nat × Nat)) (f s : Nat), rs ≠ [] → ok rs → rs.length ≤ f → guessF f s (joinT rs) = s ||| setOf (flat rs)
  | [], _, _, h, _, _ => absurd rfl h
  | r :: rs, f, s, _, ho, hf => by
    obtain ⟨g, rfl⟩ : ∃ g, f = g + 1 := ⟨f - 1, by simp at hf; omega⟩
    have hr := ho r (by simp)
    have hin := comma_in r (by omega) hr.2
    cases rs with
    | nil =>
      rw [show joinT [r] = runT r ++ [] from rfl, List.append_nil, guessF, cut_not 44 _ hin, runN_run r.1 r.2 hr.1 hr.2]
      simp only [Bool.false_eq_true, if_false]
      rw [← or_mask s r [] hr]
      simp [flat, setOf]
    | cons q rs =>
      rw [show joinT (r :: q :: rs) = runT r ++ 44 :: joinT (q :: rs) from rfl, guessF, cut_at 44 _ _ hin, runN_run r.1 r.2 hr.1 hr.2]
      simp only [if_true]
      rw [guess_join (q :: rs) g _ (by simp) (fun x hx => ho x (List.mem_cons_of_mem _ hx)) (by simp at hf ⊢; omega), or_mask s r (q :: rs) hr]

theorem tail_length : ∀ rs : List (Nat × Nat), rs.length ≤ (tailT rs).length
  | [] => Nat.le_refl _
  | r :: rs => by
    have := tail_length rs
    simp [tailT]; omega
theorem join_length (rs : List (Nat × Nat)) : rs.length ≤ (joinT rs).length + 1 := by
  cases rs with
  | nil => simp
  | cons r rs =>
    have := tail_length rs
    simp [joinT]; omega

theorem ok_runs (l : List Nat) (h : ∀ n ∈ l, n < 64) : ok (runs l) := fun r hr => by
  have := (flat_runs l).2 r hr
  exact ⟨this.1, h _ this.2⟩

/-- A set's text is read as the set. -/
theorem guess_show (l : List Nat) (h : ∀ n ∈ l, n < 64) : guessN (showT l) = setOf l := by
  unfold guessN showT
  by_cases hl : l = []
  · subst hl
    decide +kernel
  · rw [if_neg hl, guess_join _ _ _ (runs_ne hl) (ok_runs l h) (join_length _), (flat_runs l).1, Nat.zero_or]

/-! ### The document's reading -/

/-- What a run, or a number alone, adds. -/
def flush (d : Bool) (l : List Nat) (n : Nat) (fr : Int) : List Nat :=
  if d = true then l else l ++ List.range' (if fr < 0 then n else fr.toNat) (min (n + 1) 64 - (if fr < 0 then n else fr.toNat))
def parR (d : Bool) (l : List Nat) (n : Nat) (fr : Int) : List UInt8 → List Nat
  | [] => flush d l n fr
  | b :: t =>
    if 48 ≤ b.toNat ∧ b.toNat ≤ 57 ∧ n < 100 then parR d l (10 * n + (b.toNat - 48)) fr t
    else if b = 45 then parR d l 0 (n : Int) t
    else parR d (flush d l n fr) 0 (-1) t

theorem par_dec (l : List Nat) (fr : Int) (t : List UInt8) (n : Nat) (h : n < 64) : parR false l 0 fr (dec n ++ t) = parR false l n fr t := by
  unfold dec
  by_cases h1 : n < 10
  · rw [if_pos h1]
    have e : (UInt8.ofNat (48 + n)).toNat = 48 + n := by rw [UInt8.toNat_ofNat']; omega
    show parR false l 0 fr (UInt8.ofNat (48 + n) :: t) = _
    rw [parR, e, if_pos ⟨by omega, by omega, by omega⟩]
    congr 1
    omega
  · rw [if_neg h1]
    have e : (UInt8.ofNat (48 + n / 10)).toNat = 48 + n / 10 := by rw [UInt8.toNat_ofNat']; omega
    have e2 : (UInt8.ofNat (48 + n % 10)).toNat = 48 + n % 10 := by rw [UInt8.toNat_ofNat']; omega
    show parR false l 0 fr (UInt8.ofNat (48 + n / 10) :: UInt8.ofNat (48 + n % 10) :: t) = _
    rw [parR, e, if_pos ⟨by omega, by omega, by omega⟩, parR, e2, if_pos ⟨by omega, by omega, by omega⟩]
    congr 1
    omega

theorem par_run (l : List Nat) (r : Nat × Nat) (t : List UInt8) (h : r.1 ≤ r.2 ∧ r.2 < 64) :
    parR false l 0 (-1) (runT r ++ t) = if r.1 = r.2 then parR false l r.1 (-1) t else parR false l r.2 (r.1 : Int) t := by
  unfold runT endT
  rw [List.append_assoc, par_dec _ _ _ _ (by omega)]
  by_cases he : r.1 = r.2
  · rw [if_pos he, if_pos he, List.nil_append]
  · rw [if_neg he, if_neg he, List.cons_append, parR, if_neg (by rintro ⟨h1, _⟩; exact absurd h1 (by decide)), if_pos rfl, par_dec _ _ _ _ h.2]

theorem flush_run (l : List Nat) (r : Nat × Nat) (h : r.1 ≤ r.2 ∧ r.2 < 64) : (if r.1 = r.2 then flush false l r.1 (-1) else flush false l r.2 (r.1 : Int)) = l ++ List.range' r.1 (r.2 + 1 - r.1) := by
  unfold flush
  by_cases he : r.1 = r.2
  · rw [if_pos he, if_neg (by decide), if_pos (by decide), ← he]
    congr 2
    omega
  · rw [if_neg he, if_neg (by decide), if_neg (by omega), Int.toNat_natCast]
    congr 2
    omega

theorem par_tail : ∀ (rs : List (Nat × Nat)) (l : List Nat) (n : Nat) (fr : Int), ok rs → parR false l n fr (tailT rs) = flush false l n fr ++ flat rs
  | [], l, n, fr, _ => by simp [tailT, parR, flat]
  | r :: rs, l, n, fr, h => by
    have hr := h r (by simp)
    have ih := fun l n fr => par_tail rs l n fr (fun q hq => h q (List.mem_cons_of_mem _ hq))
    unfold tailT
    rw [parR, if_neg (by rintro ⟨h1, _⟩; exact absurd h1 (by decide)), if_neg (by decide), par_run _ _ _ hr]
    have hf := flush_run (flush false l n fr) r hr
    unfold flat
    rw [← List.append_assoc, ← hf]
    split <;> rw [ih]

theorem par_join (rs : List (Nat × Nat)) (hn : rs ≠ []) (h : ok rs) : parR false [] 0 (-1) (joinT rs) = flat rs := by
  cases rs with
  | nil => exact absurd rfl hn
  | cons r rs =>
    have hr := h r (by simp)
    unfold joinT
    rw [par_run _ _ _ hr]
    have hf := flush_run [] r hr
    unfold flat
    rw [← List.nil_append (List.range' r.1 (r.2 + 1 - r.1)), ← hf]
    split <;> rw [par_tail _ _ _ _ (fun q hq => h q (List.mem_cons_of_mem _ hq))]

def isDash (t : List UInt8) : Bool := decide (t = [45])
def parN (t : List UInt8) : List Nat := parR (isDash t) [] 0 (-1) t

theorem join_ne (l : List Nat) (h : ∀ n ∈ l, n < 64) (hl : l ≠ []) : joinT (runs l) ≠ [45] := by
  intro e
  have := guess_join (runs l) (l.length + 2) 0 (runs_ne hl) (ok_runs l h) ?_
  · rw [e, (flat_runs l).1] at this
    cases l with
    | nil => exact hl rfl
    | cons a l =>
      have h2 : (setOf (a :: l)).testBit a = true := by rw [tb_setOf]; simp
      rw [Nat.zero_or] at this
      rw [← this] at h2
      have h3 : guessF ((a :: l).length + 2) 0 [45] = 0 := by
        unfold guessF
        rw [show runN (Go.Lib.cut [45] [44]).1 = none from by decide +kernel]
      rw [h3, Nat.zero_testBit] at h2
      cases h2
  · have h1 : ∀ l : List Nat, (runs l).length ≤ l.length := by
      intro l
      induction l with
      | nil => simp [runs]
      | cons a l ih =>
        unfold runs
        split
        · rename_i b c r hr
          rw [hr] at ih
          split
          · simp at ih ⊢; omega
          · simp at ih ⊢; omega
        · simp
    have := h1 l
    omega

theorem par_show (l : List Nat) (h : ∀ n ∈ l, n < 64) : parN (showT l) = l := by
  unfold parN showT isDash
  by_cases hl : l = []
  · subst hl
    decide
  · rw [if_neg hl, decide_eq_false (join_ne l h hl), par_join _ (runs_ne hl) (ok_runs l h), (flat_runs l).1]

/-- What stands in the list is a node. -/
theorem flush_lt (d : Bool) (l : List Nat) (n : Nat) (fr : Int) (h : ∀ x ∈ l, x < 64) : ∀ x ∈ flush d l n fr, x < 64 := by
  unfold flush
  intro x hx
  split at hx
  · exact h x hx
  · rcases List.mem_append.1 hx with hx | hx
    · exact h x hx
    · have := List.mem_range'_1.1 hx
      omega

/-! ### Parse -/

def parseS (t : List UInt8) : Nat := if showT (mem (guessN t)) = t then guessN t else 0
def parseE (t : List UInt8) : Int := if showT (mem (guessN t)) = t then 0 else 90
theorem parseS_lt (t : List UInt8) : parseS t < 18446744073709551616 := by unfold parseS; split; exact guessN_lt t; decide

/-- The document's reading comes to the same. -/
theorem parse_same (t : List UInt8) (h : ∀ x ∈ parN t, x < 64) :
    (if showT (mem (setOf (parN t))) = t then setOf (parN t) else 0) = parseS t ∧ (if showT (mem (setOf (parN t))) = t then (0 : Int) else 90) = parseE t := by
  have hm : ∀ s, ∀ n ∈ mem s, n < 64 := fun s n hn => mem_lt s n hn
  unfold parseS parseE
  by_cases h1 : showT (mem (guessN t)) = t
  · have h2 : parN t = mem (guessN t) := by
      have := par_show (mem (guessN t)) (hm _)
      rwa [h1] at this
    rw [h2, setOf_mem _ (guessN_lt t), if_pos h1, if_pos h1]
    exact ⟨rfl, rfl⟩
  · have h2 : ¬ showT (mem (setOf (parN t))) = t := by
      intro h3
      have := guess_show (mem (setOf (parN t))) (hm _)
      rw [h3, setOf_mem _ (setOf_lt _ h)] at this
      rw [← this] at h3
      exact h1 h3
    rw [if_neg h2, if_neg h2, if_neg h1, if_neg h1]
    exact ⟨rfl, rfl⟩

/-- P9.5. -/
theorem parse_show (s : Nat) (h : s < 18446744073709551616) : parseS (showT (mem s)) = s ∧ parseE (showT (mem s)) = 0 := by
  have hg : guessN (showT (mem s)) = s := by rw [guess_show _ (fun n hn => mem_lt s n hn), setOf_mem s h]
  unfold parseS parseE
  rw [hg, if_pos rfl, if_pos rfl]
  exact ⟨rfl, rfl⟩

end Go.Proofs.YtgneleembnchfaaDoor.Node
