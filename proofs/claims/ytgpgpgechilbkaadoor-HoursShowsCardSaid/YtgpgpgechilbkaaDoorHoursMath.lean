/-
  Plain: the text of a time, as it is gone through and as it is written; nothing of the program.
-/
import Derived.Test.YtgpgpgechilbkaaDoorSatMath
import Derived.Lib.SlTrimSet
import Derived.Lib.AtoiAllCases
import Derived.Lib.ItoaNum
import Derived.Lib.Hide
import Derived.Lib.Strings
namespace Go.Proofs.YtgpgpgechilbkaaDoor.Hours
open Sat
set_option linter.unusedVariables false
set_option linter.unusedSimpArgs false

/-! The digits that a text begins with. -/

def D (b : UInt8) : Bool := [48, 49, 50, 51, 52, 53, 54, 55, 56, 57].contains b
theorem D_nat (b : UInt8) (h : D b = true) : 48 ≤ b.toNat ∧ b.toNat ≤ 57 := by
  unfold D at h
  simp at h
  rcases h with h | h | h | h | h | h | h | h | h | h <;> subst h <;> decide
theorem D_dig (d : Nat) (h : d < 10) : D (UInt8.ofNat (48 + d)) = true := by
  rcases d with _ | _ | _ | _ | _ | _ | _ | _ | _ | _ | d <;> first | rfl | omega
theorem ofNat_dig (d : Nat) (h : d < 10) : (UInt8.ofNat (48 + d)).toNat = 48 + d := by
  rw [UInt8.toNat_ofNat']; omega

def rst (l : List UInt8) : List UInt8 := Go.Lib.trimLeftS l [48, 49, 50, 51, 52, 53, 54, 55, 56, 57]
theorem rst_eq (l : List UInt8) : rst l = l.dropWhile D := rfl
def dgs (l : List UInt8) : List UInt8 := l.take (l.length - (rst l).length)
theorem rst_le (l : List UInt8) : (rst l).length ≤ l.length := by
  have h := congrArg List.length (List.takeWhile_append_dropWhile (p := D) (l := l))
  rw [List.length_append] at h
  rw [rst_eq]; omega
theorem dgs_eq (l : List UInt8) : dgs l = l.takeWhile D := by
  have h := List.takeWhile_append_dropWhile (p := D) (l := l)
  have h2 := congrArg List.length h
  rw [List.length_append] at h2
  unfold dgs
  rw [rst_eq, show l.length - (l.dropWhile D).length = (l.takeWhile D).length from by omega]
  have e : l.take (l.takeWhile D).length = (l.takeWhile D ++ l.dropWhile D).take (l.takeWhile D).length := by rw [h]
  rw [e, List.take_left' rfl]
theorem dgs_all (l : List UInt8) : ∀ b ∈ dgs l, D b = true := by
  rw [dgs_eq]
  intro b hb
  induction l with
  | nil => simp at hb
  | cons c r ih =>
    rw [List.takeWhile_cons] at hb
    by_cases hc : D c = true
    · rw [if_pos hc] at hb
      rcases List.mem_cons.1 hb with rfl | hb
      · exact hc
      · exact ih hb
    · rw [if_neg hc] at hb; simp at hb

/-! What a row of digits spells. -/

def vl (a : Nat) (l : List UInt8) : Nat := l.foldl (fun a c => a * 10 + (c.toNat - 48)) a
theorem vl_cons (a : Nat) (c : UInt8) (r : List UInt8) : vl a (c :: r) = vl (a * 10 + (c.toNat - 48)) r := by unfold vl; rw [List.foldl_cons]
theorem vl_nil (a : Nat) : vl a [] = a := by unfold vl; rw [List.foldl_nil]
theorem vl_snoc (c : UInt8) : ∀ (l : List UInt8) (a : Nat), vl a (l ++ [c]) = vl a l * 10 + (c.toNat - 48)
  | [], a => by rw [List.nil_append, vl_cons, vl_nil, vl_nil]
  | b :: r, a => by rw [List.cons_append, vl_cons, vl_cons, vl_snoc c r]
theorem vl_spells (l : List UInt8) : ∀ (a k : Nat), a < 10 ^ k → k + l.length ≤ 15 → (∀ b ∈ l, D b = true) → Go.Lib.parseUint10 a l = .ok (vl a l) ∧ vl a l < 10 ^ (k + l.length) := by
  induction l with
  | nil => intro a k ha _ _; rw [vl_nil]; exact ⟨rfl, ha⟩
  | cons c r ih =>
    intro a k ha hl hd
    have hc := D_nat c (hd c (by simp))
    rw [List.length_cons] at hl
    have hp : (10 : Nat) ^ k ≤ 10 ^ 14 := Nat.pow_le_pow_right (by decide) (by omega)
    have hp14 : (10 : Nat) ^ 14 = 100000000000000 := by decide
    have hs := Nat.pow_succ 10 k
    rw [hp14] at hp
    obtain ⟨K, hK⟩ : ∃ K, K = (10 : Nat) ^ k := ⟨_, rfl⟩
    rw [← hK] at hp ha hs
    obtain ⟨h1, h2⟩ := ih (a * 10 + (c.toNat - 48)) (k + 1) (by rw [Nat.succ_eq_add_one] at hs; omega) (by omega) (fun b hb => hd b (by simp [hb]))
    refine ⟨?_, ?_⟩
    · rw [Go.Lib.parseUint10, if_pos ⟨hc.1, hc.2⟩, if_neg (by omega), if_neg (by omega), h1, vl_cons]
    · rw [vl_cons, List.length_cons, show k + (r.length + 1) = k + 1 + r.length from by omega]; exact h2
theorem atoi_dgs (d : List UInt8) (hd : ∀ b ∈ d, D b = true) (hn : d ≠ []) (hl : d.length ≤ 7) : Go.Lib.atoiAll d = .ok (vl 0 d : Int) ∧ vl 0 d < 10000000 := by
  obtain ⟨h1, h2⟩ := vl_spells d 0 0 (by decide) (by omega) hd
  have hp : (10 : Nat) ^ (0 + d.length) ≤ 10 ^ 7 := Nat.pow_le_pow_right (by decide) (by omega)
  have hp7 : (10 : Nat) ^ 7 = 10000000 := by decide
  cases d with
  | nil => exact absurd rfl hn
  | cons c r =>
    have hc := D_nat c (hd c (by simp))
    refine ⟨?_, by omega⟩
    rw [Go.Lib.atoiAll_plain c r (by omega) (by omega)]
    unfold Go.Lib.parseMag
    rw [if_neg (by simp), h1]
    unfold Go.Lib.signless
    simp only
    rw [if_neg (by omega)]

/-! A count, as it is read. -/

def cutOk (l : List UInt8) : Bool := decide ((dgs l).length ≤ 7 ∧ dgs l ≠ [] ∧ ¬ (1 < (dgs l).length ∧ (dgs l).getD 0 0 = 48))
def cutN (l : List UInt8) : Int := (vl 0 (dgs l) : Int)
theorem cutN_bd {l : List UInt8} (h : cutOk l = true) : 0 ≤ cutN l ∧ cutN l < 10000000 := by
  unfold cutOk at h
  rw [decide_eq_true_eq] at h
  have := (atoi_dgs (dgs l) (dgs_all l) h.2.1 h.1).2
  unfold cutN; omega

/-! A number, as it is written. -/

theorem dec_facts : ∀ (k u : Nat), u < 10 ^ k → 1 ≤ k → (∀ b ∈ Go.Lib.decDigits u, D b = true) ∧ vl 0 (Go.Lib.decDigits u) = u ∧ (Go.Lib.decDigits u).length ≤ k ∧ Go.Lib.decDigits u ≠ [] ∧ (1 ≤ u → (Go.Lib.decDigits u).getD 0 0 ≠ 48)
  | 0, _, _, h => absurd h (by decide)
  | k + 1, u, hu, _ => by
    rw [Go.Lib.decDigits]
    by_cases h : u < 10
    · rw [dif_pos h]
      refine ⟨?_, ?_, by simp, by simp, ?_⟩
      · intro b hb
        rw [List.mem_singleton] at hb
        rw [hb]; exact D_dig u h
      · rw [vl_cons, vl_nil, ofNat_dig u h]; omega
      · intro h1 he
        have e : UInt8.ofNat (48 + u) = 48 := he
        have := congrArg UInt8.toNat e
        rw [ofNat_dig u h] at this
        have h48 : (48 : UInt8).toNat = 48 := by decide
        omega
    · rw [dif_neg h]
      have hk : 1 ≤ k := by
        rcases Nat.eq_zero_or_pos k with h0 | h0
        · subst h0; simp at hu; omega
        · exact h0
      have hs := Nat.pow_succ 10 k
      obtain ⟨h1, h2, h3, h4, h5⟩ := dec_facts k (u / 10) (by omega) hk
      have hm : u % 10 < 10 := Nat.mod_lt _ (by decide)
      refine ⟨?_, ?_, ?_, by simp, ?_⟩
      · intro b hb
        rcases List.mem_append.1 hb with hb | hb
        · exact h1 b hb
        · rw [List.mem_singleton] at hb
          rw [hb]; exact D_dig _ hm
      · rw [vl_snoc, h2, ofNat_dig _ hm]; omega
      · rw [List.length_append, List.length_singleton]; omega
      · intro _
        cases hd : Go.Lib.decDigits (u / 10) with
        | nil => exact absurd hd h4
        | cons c r =>
          have := h5 (by omega)
          rw [hd] at this
          simpa using this
theorem drop_all (c : UInt8) (r : List UInt8) (hc : D c = false) : ∀ (d : List UInt8), (∀ b ∈ d, D b = true) → (d ++ c :: r).dropWhile D = c :: r ∧ (d ++ c :: r).takeWhile D = d
  | [], _ => by
    rw [List.nil_append, List.dropWhile_cons, List.takeWhile_cons, if_neg (by rw [hc]; simp), if_neg (by rw [hc]; simp)]
    exact ⟨rfl, rfl⟩
  | b :: d, hd => by
    obtain ⟨h1, h2⟩ := drop_all c r hc d (fun x hx => hd x (by simp [hx]))
    have hb := hd b (by simp)
    rw [List.cons_append, List.dropWhile_cons, List.takeWhile_cons, if_pos hb, if_pos hb, h1, h2]
    exact ⟨rfl, rfl⟩
theorem cut_dec (u : Nat) (hu : u < 10000000) (c : UInt8) (r : List UInt8) (hc : D c = false) :
    cutOk (Go.Lib.decDigits u ++ c :: r) = true ∧ cutN (Go.Lib.decDigits u ++ c :: r) = (u : Int) ∧ rst (Go.Lib.decDigits u ++ c :: r) = c :: r := by
  obtain ⟨h1, h2, h3, h4, h5⟩ := dec_facts 7 u (by omega) (by decide)
  obtain ⟨h6, h7⟩ := drop_all c r hc (Go.Lib.decDigits u) h1
  refine ⟨?_, ?_, ?_⟩
  · unfold cutOk
    rw [decide_eq_true_eq, dgs_eq, h7]
    refine ⟨h3, h4, fun ⟨a, b⟩ => ?_⟩
    by_cases h0 : 1 ≤ u
    · exact h5 h0 b
    · obtain rfl : u = 0 := by omega
      rw [Go.Lib.decDigits, dif_pos (by decide)] at a
      simp at a
  · unfold cutN
    rw [dgs_eq, h7, h2]
  · rw [rst_eq, h6]

/-! A text, read. -/

def tk : Nat → Int
  | 0 => 86400
  | 1 => 3600
  | 2 => 60
  | _ => 1
def sg : Nat → UInt8
  | 0 => 100
  | 1 => 104
  | 2 => 109
  | _ => 115
def ix (c : UInt8) : Nat := if c = 100 then 0 else if c = 104 then 1 else if c = 109 then 2 else if c = 115 then 3 else 4
theorem ix_sg (c : UInt8) (i : Nat) (h : i < 4) : ix c = i ↔ c = sg i := by
  unfold ix
  match i, h with
  | 0, _ | 1, _ | 2, _ | 3, _ =>
    by_cases h0 : c = 100
    · subst h0; decide
    by_cases h1 : c = 104
    · subst h1; decide
    by_cases h2 : c = 109
    · subst h2; decide
    by_cases h3 : c = 115
    · subst h3; decide
    simp [h0, h1, h2, h3, sg]
theorem tk_bd (i : Nat) : 1 ≤ tk i ∧ tk i ≤ 86400 := by
  match i with
  | 0 | 1 | 2 => decide
  | n + 3 => exact ⟨Int.le_refl _, by show (1 : Int) ≤ 86400; decide⟩

def run : Nat → List UInt8 → Int → Nat → Int × Int
  | 0, _, _, _ => (0, 60)
  | f + 1, l, t, k =>
    if l = [] then (if cl t 1000000 = t then (t, 0) else (0, 153))
    else if cutOk l = true ∧ rst l ≠ [] then
      (if k ≤ ix ((rst l).getD 0 0) ∧ ix ((rst l).getD 0 0) < 4 then run f ((rst l).drop 1) (add 1000000000000 [t, mulc 1000000000000 (cutN l) (tk (ix ((rst l).getD 0 0)))]) (ix ((rst l).getD 0 0) + 1) else (0, 60))
    else (0, 60)
def parse (l : List UInt8) : Int × Int := if l = [] then (0, 60) else run (l.length + 1) l 0 0

theorem run_ok : ∀ (f : Nat) (l : List UInt8) (t : Int) (k : Nat), ((run f l t k).2 = 0 ∧ 0 ≤ (run f l t k).1 ∧ (run f l t k).1 ≤ 1000000) ∨ ((run f l t k).2 = 60 ∧ (run f l t k).1 = 0) ∨ ((run f l t k).2 = 153 ∧ (run f l t k).1 = 0)
  | 0, l, t, k => .inr (.inl ⟨rfl, rfl⟩)
  | f + 1, l, t, k => by
    rw [run]
    split
    · split
      · rename_i h
        have := cl_bd t 1000000 (by decide)
        exact .inl ⟨rfl, by dsimp only; omega, by dsimp only; omega⟩
      · exact .inr (.inr ⟨rfl, rfl⟩)
    · split
      · split
        · exact run_ok f _ _ _
        · exact .inr (.inl ⟨rfl, rfl⟩)
      · exact .inr (.inl ⟨rfl, rfl⟩)
theorem parse_ok (l : List UInt8) : ((parse l).2 = 0 ∧ 0 ≤ (parse l).1 ∧ (parse l).1 ≤ 1000000) ∨ ((parse l).2 = 60 ∧ (parse l).1 = 0) ∨ ((parse l).2 = 153 ∧ (parse l).1 = 0) := by
  unfold parse
  split
  · exact .inr (.inl ⟨rfl, rfl⟩)
  · exact run_ok _ _ _ _

/-! A time, written. -/

def pc (i : Nat) (n : Int) : List UInt8 := if tk i ≤ n then Go.Lib.itoa (n / tk i) ++ [sg i] else []
def rm : Nat → Int → Int
  | 0, n => n
  | i + 1, n => rm i n % tk i
def tx : Nat → Int → List UInt8
  | 0, _ => []
  | i + 1, n => tx i n ++ pc i (rm i n)
def showL (n : Int) : List UInt8 := if n = 0 then [48, 115] else tx 4 n

theorem sg_D (i : Nat) : D (sg i) = false := by
  match i with
  | 0 | 1 | 2 => decide
  | n + 3 => show D 115 = false; decide
theorem itoa_nat (n : Int) (h : 0 ≤ n) : Go.Lib.itoa n = Go.Lib.decDigits n.toNat := by unfold Go.Lib.itoa; rw [if_neg (by omega)]

theorem run_pc (f i k : Nat) (n t : Int) (r : List UInt8) (hk : k ≤ i) (hi : i < 4) (hf : (pc i n ++ r).length < f) (hn : 0 ≤ n) (hn2 : n ≤ 1000000) (ht : 0 ≤ t) (ht2 : t ≤ 10000000) :
    ∃ f' k', r.length < f' ∧ k' ≤ i + 1 ∧ run f (pc i n ++ r) t k = run f' r (t + n / tk i * tk i) k' := by
  have htk := tk_bd i
  by_cases h : tk i ≤ n
  · have hq0 : 0 ≤ n / tk i := Int.ediv_nonneg hn (by omega)
    have hq1 : n / tk i ≤ n := Int.ediv_le_self _ hn
    have hqm : n / tk i * tk i ≤ n := Int.ediv_mul_le n (by omega)
    have hqm0 : 0 ≤ n / tk i * tk i := Int.mul_nonneg hq0 (by omega)
    obtain ⟨u, hu⟩ := Int.eq_ofNat_of_zero_le hq0
    have e : pc i n ++ r = Go.Lib.decDigits u ++ sg i :: r := by
      unfold pc
      rw [if_pos h, itoa_nat _ hq0, hu, Int.toNat_natCast, List.append_assoc]
      rfl
    obtain ⟨c1, c2, c3⟩ := cut_dec u (by omega) (sg i) r (sg_D i)
    have hix : ix (sg i) = i := (ix_sg (sg i) i hi).2 rfl
    cases f with
    | zero => omega
    | succ f =>
      refine ⟨f, i + 1, ?_, Nat.le_refl _, ?_⟩
      · rw [e, List.length_append, List.length_cons] at hf
        have := (dec_facts 7 u (by omega) (by decide)).2.2.2.1
        have hl : 0 < (Go.Lib.decDigits u).length := List.length_pos_iff.2 this
        omega
      · have hne : Go.Lib.decDigits u ++ sg i :: r ≠ [] := by simp
        rw [e, run, if_neg hne, c3, if_pos ⟨c1, by simp⟩]
        rw [show (sg i :: r).getD 0 0 = sg i from rfl, hix, if_pos ⟨hk, hi⟩, c2, show (sg i :: r).drop 1 = r from rfl]
        congr 1
        rw [hu] at hqm hqm0 hq1
        rw [hu]
        have em : mulc 1000000000000 u (tk i) = u * tk i := by
          unfold mulc
          rw [cl_id u 1000000000000 (by omega) (by omega), cl_id (tk i) 1000000000000 (by omega) (by omega), if_neg (by omega)]
        rw [em]
        unfold add
        rw [tot_two, cl_id t 1000000000000 (by omega) (by omega), cl_id (u * tk i) 1000000000000 (by omega) (by omega), if_neg (by omega)]
  · have e : pc i n = [] := by unfold pc; rw [if_neg h]
    rw [e, List.nil_append] at hf ⊢
    have hq : n / tk i = 0 := Int.ediv_eq_zero_of_lt hn (by omega)
    exact ⟨f, k, hf, by omega, by rw [hq]; simp⟩

theorem tx_ne (n : Int) (h : 1 ≤ n) (h2 : n ≤ 1000000) : tx 4 n ≠ [] := by
  intro he
  have e : tx 4 n = [] ++ pc 0 n ++ pc 1 (n % 86400) ++ pc 2 (n % 86400 % 3600) ++ pc 3 (n % 86400 % 3600 % 60) := rfl
  rw [e] at he
  simp only [List.nil_append, List.append_assoc, List.append_eq_nil_iff] at he
  obtain ⟨h0, h1, h2, h3⟩ := he
  have q : ∀ i m, pc i m = [] → m < tk i := by
    intro i m hm
    unfold pc at hm
    by_cases h : tk i ≤ m
    · rw [if_pos h] at hm; simp at hm
    · omega
  have a0 := q 0 _ h0
  have a1 := q 1 _ h1
  have a2 := q 2 _ h2
  have a3 := q 3 _ h3
  simp only [tk] at a0 a1 a2 a3
  omega

/-- A time is read as it was written. -/
theorem parse_show (n : Int) (h0 : 0 ≤ n) (h1 : n ≤ 1000000) : parse (showL n) = (n, 0) := by
  unfold showL
  by_cases hz : n = 0
  · subst hz; rw [if_pos rfl]; decide
  · rw [if_neg hz]
    unfold parse
    rw [if_neg (tx_ne n (by omega) h1)]
    have e : tx 4 n = pc 0 n ++ (pc 1 (n % 86400) ++ (pc 2 (n % 86400 % 3600) ++ (pc 3 (n % 86400 % 3600 % 60) ++ []))) := by
      rw [List.append_nil, ← List.append_assoc, ← List.append_assoc]; rfl
    rw [e]
    obtain ⟨f1, k1, g1, j1, e1⟩ := run_pc ((pc 0 n ++ (pc 1 (n % 86400) ++ (pc 2 (n % 86400 % 3600) ++ (pc 3 (n % 86400 % 3600 % 60) ++ [])))).length + 1) 0 0 n 0 _ (by omega) (by omega) (Nat.lt_succ_self _) h0 h1 (by omega) (by omega)
    rw [e1]
    simp only [tk] at *
    obtain ⟨f2, k2, g2, j2, e2⟩ := run_pc f1 1 k1 (n % 86400) (0 + n / 86400 * 86400) _ (by omega) (by omega) g1 (by omega) (by omega) (by omega) (by omega)
    rw [e2]
    simp only [tk] at *
    obtain ⟨f3, k3, g3, j3, e3⟩ := run_pc f2 2 k2 (n % 86400 % 3600) (0 + n / 86400 * 86400 + n % 86400 / 3600 * 3600) _ (by omega) (by omega) g2 (by omega) (by omega) (by omega) (by omega)
    rw [e3]
    simp only [tk] at *
    obtain ⟨f4, k4, g4, j4, e4⟩ := run_pc f3 3 k3 (n % 86400 % 3600 % 60) (0 + n / 86400 * 86400 + n % 86400 / 3600 * 3600 + n % 86400 % 3600 / 60 * 60) _ (by omega) (by omega) g3 (by omega) (by omega) (by omega) (by omega)
    rw [e4]
    simp only [tk] at *
    have ht : 0 + n / 86400 * 86400 + n % 86400 / 3600 * 3600 + n % 86400 % 3600 / 60 * 60 + n % 86400 % 3600 % 60 / 1 * 1 = n := by omega
    rw [ht]
    cases f4 with
    | zero => simp at g4
    | succ f => rw [run, if_pos rfl, if_pos (cl_id n 1000000 h0 h1)]

theorem show_inj (a b : Int) (ha : 0 ≤ a) (ha2 : a ≤ 1000000) (hb : 0 ≤ b) (hb2 : b ≤ 1000000) (h : showL a = showL b) : a = b := by
  have h1 := parse_show a ha ha2
  rw [h, parse_show b hb hb2] at h1
  injection h1 with h1 _
  exact h1.symm

theorem rm_bd (n : Int) (h0 : 0 ≤ n) (h1 : n ≤ 1000000) : ∀ i, 0 ≤ rm i n ∧ rm i n ≤ 1000000
  | 0 => ⟨h0, h1⟩
  | i + 1 => by
    have := rm_bd n h0 h1 i
    have ht := tk_bd i
    have a := Int.emod_nonneg (rm i n) (b := tk i) (by omega)
    have b := Int.emod_lt_of_pos (rm i n) (b := tk i) (by omega)
    rw [rm]; omega
theorem pc_length (i : Nat) (n : Int) (h0 : 0 ≤ n) (h1 : n ≤ 1000000) : (pc i n).length ≤ 8 := by
  unfold pc
  split
  · have ht := tk_bd i
    have hq0 : 0 ≤ n / tk i := Int.ediv_nonneg h0 (by omega)
    have hq1 : n / tk i ≤ n := Int.ediv_le_self _ h0
    rw [itoa_nat _ hq0, List.length_append, List.length_singleton]
    have := (dec_facts 7 (n / tk i).toNat (by omega) (by decide)).2.2.1
    omega
  · simp
theorem tx_length (n : Int) (h0 : 0 ≤ n) (h1 : n ≤ 1000000) : ∀ i, (tx i n).length ≤ 8 * i
  | 0 => by simp [tx]
  | i + 1 => by
    have := tx_length n h0 h1 i
    have hr := rm_bd n h0 h1 i
    have hp := pc_length i (rm i n) hr.1 hr.2
    rw [tx, List.length_append]; omega
theorem show_length (n : Int) (h0 : 0 ≤ n) (h1 : n ≤ 1000000) : (showL n).length ≤ 32 := by
  unfold showL
  split
  · simp
  · exact tx_length n h0 h1 4

end Go.Proofs.YtgpgpgechilbkaaDoor.Hours
