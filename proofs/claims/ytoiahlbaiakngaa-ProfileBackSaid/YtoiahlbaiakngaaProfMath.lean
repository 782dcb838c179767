/-
  Profiles, plain: what is one, how many are free at a tick, the least of some ticks, what one comes to; and that a profile is told by what it tells at each tick.
-/
import Derived.Lib.Hide
namespace Go.Proofs.Ytoiahlbaiakngaa.Prof
set_option linter.unusedVariables false
set_option linter.unusedSimpArgs false

/-- A step: its At, its Free. -/
abbrev St := Int × Int

/-- May the step at place i stand there? -/
def okAt (p : List St) (i : Nat) : Prop :=
  (-1000000 ≤ (p.getD i (0, 0)).2 ∧ (p.getD i (0, 0)).2 ≤ 1000000 ∧ (p.getD i (0, 0)).1 ≤ 1000000) ∧
  (0 < i → (p.getD (i - 1) (0, 0)).1 < (p.getD i (0, 0)).1 ∧ (p.getD i (0, 0)).2 ≠ (p.getD (i - 1) (0, 0)).2)
instance (p : List St) (i : Nat) : Decidable (okAt p i) := by unfold okAt; exact inferInstance

/-- Is it a profile? -/
def Prof (p : List St) : Prop := (1 ≤ p.length ∧ p.length ≤ 1000 ∧ (p.getD 0 (0, 0)).1 = 0) ∧ ∀ i, i < p.length → okAt p i
instance (p : List St) : Decidable (Prof p) := by unfold Prof; exact inferInstance
/-- Check's answer. -/
def chkE (p : List St) : Int := if Prof p then 0 else 100

theorem chkE_0 {p : List St} (h : Prof p) : chkE p = 0 := if_pos h
theorem chkE_100 {p : List St} (h : ¬ Prof p) : chkE p = 100 := if_neg h
theorem chkE_iff (p : List St) : chkE p = 0 ↔ Prof p := by
  unfold chkE; split
  · simp_all
  · simp_all

/-- Of the steps that have begun at t the last one's Free; d, if there is none. -/
def nowF (d : Int) (l : List St) (t : Int) : Int := l.foldl (fun o s => if s.1 ≤ t then s.2 else o) d
def now (p : List St) (t : Int) : Int := nowF 0 p t

/-- Each step of l is behind the one ahead of it, and tells something else. -/
def Chain : St → List St → Prop
  | _, [] => True
  | x, y :: l => x.1 < y.1 ∧ y.2 ≠ x.2 ∧ Chain y l
def Can : List St → Prop
  | [] => True
  | x :: l => x.1 = 0 ∧ Chain x l

theorem Chain.gt : ∀ {l : List St} {x : St}, Chain x l → ∀ s ∈ l, x.1 < s.1
  | [], _, _, s, h => by simp at h
  | y :: l, x, ⟨h1, h2, h3⟩, s, h => by
    rcases List.mem_cons.1 h with rfl | h
    · exact h1
    · have := Chain.gt h3 s h; omega

theorem nowF_nil (d t : Int) : nowF d [] t = d := rfl
theorem nowF_cons (d t : Int) (s : St) (l : List St) : nowF d (s :: l) t = nowF (if s.1 ≤ t then s.2 else d) l t := rfl
theorem nowF_snoc (d t : Int) (s : St) (l : List St) : nowF d (l ++ [s]) t = if s.1 ≤ t then s.2 else nowF d l t := by
  unfold nowF; rw [List.foldl_append]; rfl
theorem nowF_app (d t : Int) (a b : List St) : nowF d (a ++ b) t = nowF (nowF d a t) b t := by
  unfold nowF; rw [List.foldl_append]
theorem nowF_none {t : Int} : ∀ {l : List St} {d : Int}, (∀ s ∈ l, t < s.1) → nowF d l t = d
  | [], _, _ => rfl
  | s :: l, d, h => by
    have h1 := h s (by simp)
    rw [nowF_cons, if_neg (by omega), nowF_none fun x hx => h x (by simp [hx])]
theorem nowF_d {t : Int} (d e : Int) (s : St) (l : List St) (h : s.1 ≤ t) : nowF d (s :: l) t = nowF e (s :: l) t := by
  rw [nowF_cons, nowF_cons, if_pos h, if_pos h]

theorem chain_of : ∀ {l : List St} {x : St}, (∀ i, i < l.length → ((x :: l).getD i (0, 0)).1 < (l.getD i (0, 0)).1 ∧ (l.getD i (0, 0)).2 ≠ ((x :: l).getD i (0, 0)).2) → Chain x l
  | [], _, _ => trivial
  | y :: l, x, h => by
    have h0 := h 0 (by simp)
    simp at h0
    exact ⟨h0.1, h0.2, chain_of fun i hi => by simpa using h (i + 1) (by simpa using hi)⟩

theorem getD_mem (p : List St) (i : Nat) (h : i < p.length) : p.getD i (0, 0) ∈ p := by
  rw [List.getD_eq_getElem?_getD, List.getElem?_eq_getElem h]; exact List.getElem_mem h
theorem mem_getD {p : List St} {s : St} (h : s ∈ p) : ∃ i, i < p.length ∧ p.getD i (0, 0) = s := by
  obtain ⟨i, hi, rfl⟩ := List.getElem_of_mem h
  exact ⟨i, hi, by rw [List.getD_eq_getElem?_getD, List.getElem?_eq_getElem hi]; rfl⟩

theorem Prof.can {p : List St} (h : Prof p) : Can p := by
  cases p with
  | nil => trivial
  | cons x l =>
    refine ⟨by simpa using h.1.2.2, chain_of fun i hi => ?_⟩
    have := (h.2 (i + 1) (by simpa using hi)).2 (by omega)
    simpa using this
theorem Prof.mem {p : List St} (h : Prof p) {s : St} (hs : s ∈ p) : -1000000 ≤ s.2 ∧ s.2 ≤ 1000000 ∧ s.1 ≤ 1000000 := by
  obtain ⟨i, hi, rfl⟩ := mem_getD hs
  exact (h.2 i hi).1
theorem Can.pos : ∀ {p : List St}, Can p → ∀ s ∈ p, 0 ≤ s.1
  | [], _, s, h => by simp at h
  | x :: l, ⟨h0, h1⟩, s, h => by
    rcases List.mem_cons.1 h with rfl | h
    · omega
    · have := h1.gt s h; omega

/-- What is free lies within the profile's ends. -/
theorem nowF_bd {p : List St} {d t : Int} (hd : -1000000 ≤ d ∧ d ≤ 1000000) (h : ∀ s ∈ p, -1000000 ≤ s.2 ∧ s.2 ≤ 1000000) : -1000000 ≤ nowF d p t ∧ nowF d p t ≤ 1000000 := by
  induction p generalizing d with
  | nil => exact hd
  | cons s l ih =>
    rw [nowF_cons]
    refine ih ?_ fun x hx => h x (by simp [hx])
    split
    · exact h s (by simp)
    · exact hd
theorem now_bd {p : List St} (h : Prof p) (t : Int) : -1000000 ≤ now p t ∧ now p t ≤ 1000000 :=
  nowF_bd (by decide) fun s hs => ⟨(h.mem hs).1, (h.mem hs).2.1⟩

/-! A profile is told by what it tells. -/

theorem chain_same : ∀ {a b : List St} {x : St}, Chain x a → Chain x b → (∀ s ∈ a, s.1 ≤ 1000000) → (∀ s ∈ b, s.1 ≤ 1000000) →
    (∀ t, x.1 ≤ t → t ≤ 1000000 → nowF x.2 a t = nowF x.2 b t) → a = b
  | [], [], _, _, _, _, _, _ => rfl
  | y :: a, [], x, ⟨h1, h2, h3⟩, _, ha, _, h => by
    have := h y.1 (by omega) (ha y (by simp))
    rw [nowF_cons, if_pos (Int.le_refl _), nowF_none h3.gt, nowF_nil] at this
    exact absurd this h2
  | [], y :: b, x, _, ⟨h1, h2, h3⟩, _, hb, h => by
    have := h y.1 (by omega) (hb y (by simp))
    rw [nowF_cons, if_pos (Int.le_refl _), nowF_none h3.gt, nowF_nil] at this
    exact absurd this.symm h2
  | y :: a, z :: b, x, ⟨h1, h2, h3⟩, ⟨k1, k2, k3⟩, ha, hb, h => by
    have hy : y.1 = z.1 := by
      rcases Int.lt_trichotomy y.1 z.1 with hlt | he | hlt
      · have := h y.1 (by omega) (ha y (by simp))
        rw [nowF_cons, if_pos (Int.le_refl _), nowF_none h3.gt, nowF_cons, if_neg (by omega), nowF_none (fun s hs => by have := k3.gt s hs; omega)] at this
        exact absurd this h2
      · exact he
      · have := h z.1 (by omega) (hb z (by simp))
        rw [nowF_cons, if_neg (by omega), nowF_none (fun s hs => by have := h3.gt s hs; omega), nowF_cons, if_pos (Int.le_refl _), nowF_none k3.gt] at this
        exact absurd this.symm k2
    have hf := h y.1 (by omega) (ha y (by simp))
    rw [nowF_cons, if_pos (Int.le_refl _), nowF_none h3.gt, nowF_cons, if_pos (by omega), nowF_none (fun s hs => by have := k3.gt s hs; omega)] at hf
    obtain rfl : y = z := Prod.ext hy hf
    rw [chain_same h3 k3 (fun s hs => ha s (by simp [hs])) (fun s hs => hb s (by simp [hs])) fun t ht ht2 => ?_]
    have := h t (by omega) ht2
    rw [nowF_cons, nowF_cons, if_pos ht] at this
    exact this

theorem can_same {a b : List St} (ha : Can a) (hb : Can b) (h1 : ∀ s ∈ a, s.1 ≤ 1000000) (h2 : ∀ s ∈ b, s.1 ≤ 1000000) (n1 : a ≠ []) (n2 : b ≠ [])
    (h : ∀ t, 0 ≤ t → t ≤ 1000000 → now a t = now b t) : a = b := by
  cases a with
  | nil => exact absurd rfl n1
  | cons x a =>
    cases b with
    | nil => exact absurd rfl n2
    | cons y b =>
      obtain ⟨hx, hca⟩ := ha
      obtain ⟨hy, hcb⟩ := hb
      have h0 := h 0 (by omega) (by omega)
      unfold now at h0 h
      rw [nowF_cons, nowF_cons, if_pos (by omega), if_pos (by omega), nowF_none (fun s hs => by have := hca.gt s hs; omega), nowF_none (fun s hs => by have := hcb.gt s hs; omega)] at h0
      obtain rfl : x = y := Prod.ext (by rw [hx, hy]) h0
      rw [chain_same hca hcb (fun s hs => h1 s (by simp [hs])) (fun s hs => h2 s (by simp [hs])) fun t ht ht2 => ?_]
      have := h t (by omega) ht2
      rw [nowF_cons, nowF_cons, if_pos ht] at this
      exact this

/-! Steps that are laid one behind the other. -/

/-- Laid, unless the step ahead tells the same. -/
def layL (q : List St) (a n : Int) : List St := if q ≠ [] ∧ (q.getD (q.length - 1) (0, 0)).2 = n then q else q ++ [(a, n)]
theorem layL_le (q : List St) (a n : Int) : (layL q a n).length ≤ q.length + 1 := by
  unfold layL; split <;> simp

/-- What is laid tells what f does, up to b. -/
structure Inv (f : Int → Int) (q : List St) (b : Int) : Prop where
  can : Can q
  lt : ∀ s ∈ q, s.1 < b
  le : 0 ≤ b ∧ b ≤ 1000001
  nil : q = [] → b = 0
  at_ : ∀ t, 0 ≤ t → t < b → now q t = f t

theorem chain_snoc : ∀ {l : List St} {x y : St}, Chain x l → ((x :: l).getD l.length (0, 0)).1 < y.1 → y.2 ≠ ((x :: l).getD l.length (0, 0)).2 → Chain x (l ++ [y])
  | [], x, y, _, h1, h2 => by
    simp at h1 h2
    exact ⟨h1, h2, trivial⟩
  | z :: l, x, y, ⟨a, b, c⟩, h1, h2 => by
    simp only [List.length_cons, List.getD_cons_succ] at h1 h2
    exact ⟨a, b, chain_snoc c h1 h2⟩

theorem now_last : ∀ {q : List St} {d t : Int}, q ≠ [] → (∀ s ∈ q, s.1 ≤ t) → nowF d q t = (q.getD (q.length - 1) (0, 0)).2
  | [x], d, t, _, h => by
    rw [nowF_cons, if_pos (h x (by simp))]; rfl
  | x :: y :: l, d, t, _, h => by
    rw [nowF_cons, now_last (q := y :: l) (by simp) fun s hs => h s (by simp at hs ⊢; exact .inr hs)]
    simp

theorem Inv.lay {f : Int → Int} {q : List St} {b c v : Int} (h : Inv f q b) (hc : b < c) (hc2 : c ≤ 1000001) (hv : ∀ t, b ≤ t → t < c → f t = v) : Inv f (layL q b v) c := by
  unfold layL
  by_cases hq : q = []
  · subst hq
    have hb := h.nil rfl
    subst hb
    rw [if_neg (by simp)]
    refine ⟨⟨rfl, trivial⟩, ?_, ⟨by omega, hc2⟩, by simp, fun t h0 h1 => ?_⟩
    · intro s hs; simp at hs; subst hs; exact hc
    · unfold now
      rw [List.nil_append, nowF_cons, if_pos h0, nowF_nil, hv t h0 h1]
  · by_cases hl : (q.getD (q.length - 1) (0, 0)).2 = v
    · rw [if_pos ⟨hq, hl⟩]
      refine ⟨h.can, fun s hs => by have := h.lt s hs; omega, ⟨by have := h.le; omega, hc2⟩, fun e => absurd e hq, fun t h0 h1 => ?_⟩
      by_cases ht : t < b
      · exact h.at_ t h0 ht
      · unfold now
        rw [now_last hq fun s hs => by have := h.lt s hs; omega]
        rw [hl, hv t (by omega) h1]
    · rw [if_neg (fun e => hl e.2)]
      refine ⟨?_, ?_, ⟨by have := h.le; omega, hc2⟩, by simp, fun t h0 h1 => ?_⟩
      · cases q with
        | nil => exact absurd rfl hq
        | cons x l =>
          obtain ⟨hx, hch⟩ := h.can
          refine ⟨hx, chain_snoc hch ?_ ?_⟩
          · have := h.lt _ (getD_mem (x :: l) l.length (by simp))
            exact this
          · exact fun e => hl (by simpa using e.symm)
      · intro s hs
        rcases List.mem_append.1 hs with hs | hs
        · have := h.lt s hs; omega
        · simp at hs; subst hs; exact hc
      · unfold now
        rw [nowF_snoc]
        by_cases ht : b ≤ t
        · rw [if_pos ht, hv t ht h1]
        · rw [if_neg (by simpa using ht)]; exact h.at_ t h0 (by omega)
theorem Inv.nil_ (f : Int → Int) : Inv f [] 0 := ⟨trivial, by simp, by omega, fun _ => rfl, fun t h0 h1 => by omega⟩

/-- So many more, at these ticks. -/
def bump (a b n t : Int) : Int := if a ≤ t ∧ t < b then n else 0

/-! As the program adds: each step, in its three parts. -/

abbrev Pt := Int × Int × Int
def inn (next : Int) (s : St) : List Pt → List St → List St
  | [], q => q
  | x :: xs, q => if next ≤ max s.1 x.1 then q else inn next s xs (if max s.1 x.1 < x.2.1 then layL q (max s.1 x.1) (s.2 + x.2.2) else q)
def nxt : List St → Int
  | [] => 1000001
  | s :: _ => s.1
def adds (xs : List Pt) : List St → List St → List St
  | [], q => q
  | s :: l, q => adds xs l (inn (nxt l) s xs q)
def parts (a b n : Int) : List Pt := [(0, a, 0), (a, b, n), (b, 1000001, 0)]
def addL (p : List St) (a b n : Int) : List St := adds (parts a b n) p []

theorem inn_le (next : Int) (s : St) : ∀ (xs : List Pt) (q : List St), (inn next s xs q).length ≤ q.length + xs.length
  | [], q => by simp [inn]
  | x :: xs, q => by
    unfold inn
    split
    · simp
    · split
      · have := inn_le next s xs (layL q (max s.1 x.1) (s.2 + x.2.2))
        have := layL_le q (max s.1 x.1) (s.2 + x.2.2)
        simp only [List.length_cons]; omega
      · have := inn_le next s xs q
        simp only [List.length_cons]; omega

theorem inn_inv {f : Int → Int} {q : List St} {a b n next : Int} {s : St} (h : Inv f q s.1) (hn : s.1 < next) (hn2 : next ≤ 1000001) (ha : 0 ≤ a) (hab : a ≤ b)
    (hf : ∀ t, s.1 ≤ t → t < next → f t = s.2 + bump a b n t) : Inv f (inn next s (parts a b n) q) next := by
  have h0 := h.le.1
  unfold parts
  unfold inn
  simp only []
  have e0 : max s.1 0 = s.1 := by omega
  rw [e0, if_neg (by omega)]
  -- the part ahead
  obtain ⟨q1, hq1, h1⟩ : ∃ q1, (if s.1 < a then layL q s.1 (s.2 + 0) else q) = q1 ∧ Inv f q1 (max s.1 (min a next)) := by
    by_cases c : s.1 < a
    · refine ⟨_, if_pos c, ?_⟩
      have : max s.1 (min a next) = min a next := by omega
      rw [this]
      exact h.lay (by omega) (by omega) fun t t1 t2 => by rw [hf t t1 (by omega)]; unfold bump; rw [if_neg (by omega)]
    · refine ⟨_, if_neg c, ?_⟩
      have : max s.1 (min a next) = s.1 := by omega
      rw [this]; exact h
  rw [hq1]
  unfold inn
  simp only []
  by_cases c2 : next ≤ max s.1 a
  · rw [if_pos c2]
    have : max s.1 (min a next) = next := by omega
    rw [this] at h1; exact h1
  rw [if_neg c2]
  have e1 : max s.1 (min a next) = max s.1 a := by omega
  rw [e1] at h1
  obtain ⟨q2, hq2, h2⟩ : ∃ q2, (if max s.1 a < b then layL q1 (max s.1 a) (s.2 + n) else q1) = q2 ∧ Inv f q2 (max (max s.1 a) (min b next)) := by
    by_cases c : max s.1 a < b
    · refine ⟨_, if_pos c, ?_⟩
      have : max (max s.1 a) (min b next) = min b next := by omega
      rw [this]
      exact h1.lay (by omega) (by omega) fun t t1 t2 => by rw [hf t (by omega) (by omega)]; unfold bump; rw [if_pos (by omega)]
    · refine ⟨_, if_neg c, ?_⟩
      have : max (max s.1 a) (min b next) = max s.1 a := by omega
      rw [this]; exact h1
  rw [hq2]
  unfold inn
  simp only []
  by_cases c3 : next ≤ max s.1 b
  · rw [if_pos c3]
    have : max (max s.1 a) (min b next) = next := by omega
    rw [this] at h2; exact h2
  rw [if_neg c3]
  have e2 : max (max s.1 a) (min b next) = max s.1 b := by omega
  rw [e2] at h2
  rw [if_pos (by omega)]
  unfold inn
  exact h2.lay (by omega) hn2 fun t t1 t2 => by rw [hf t (by omega) t2]; unfold bump; rw [if_neg (by omega)]

theorem adds_inv {f : Int → Int} {a b n : Int} (ha : 0 ≤ a) (hab : a ≤ b) : ∀ {l : List St} {s : St} {q : List St}, Chain s l → (∀ x ∈ s :: l, x.1 ≤ 1000000) → Inv f q s.1 →
    (∀ t, s.1 ≤ t → t ≤ 1000000 → f t = nowF s.2 l t + bump a b n t) → Inv f (adds (parts a b n) (s :: l) q) 1000001
  | [], s, q, hc, hm, hi, hf => by
    unfold adds; unfold adds
    exact inn_inv hi (by have := hm s (by simp); show s.1 < 1000001; omega) (by show (1000001 : Int) ≤ 1000001; omega) ha hab fun t t1 t2 => by
      have t3 : t < 1000001 := t2
      rw [hf t t1 (by omega), nowF_nil]
  | y :: l, s, q, ⟨h1, h2, h3⟩, hm, hi, hf => by
    unfold adds
    have hy := hm y (by simp)
    refine adds_inv ha hab h3 (fun x hx => hm x (by simp at hx ⊢; exact .inr hx)) (inn_inv hi h1 (by show y.1 ≤ 1000001; omega) ha hab fun t t1 t2 => ?_) fun t t1 t2 => ?_
    · have t3 : t < y.1 := t2
      rw [hf t t1 (by omega), nowF_none fun x hx => ?_]
      rcases List.mem_cons.1 hx with rfl | hx
      · exact t3
      · have := h3.gt x hx; omega
    · rw [hf t (by omega) t2, nowF_cons, if_pos t1]

/-- What is added tells what is said. -/
theorem addL_inv {p : List St} {a b n : Int} (h : Prof p) (ha : 0 ≤ a) (hab : a ≤ b) : Inv (fun t => now p t + bump a b n t) (addL p a b n) 1000001 := by
  cases p with
  | nil => have := h.1.1; simp at this
  | cons s l =>
    obtain ⟨h0, hc⟩ := h.can
    refine adds_inv ha hab hc (fun x hx => (h.mem hx).2.2) (by rw [h0]; exact Inv.nil_ _) fun t t1 t2 => ?_
    unfold now
    rw [nowF_cons, if_pos t1]

/-- What tells the same is the same. -/
theorem Inv.same {f g : Int → Int} {q r : List St} (h : Inv f q 1000001) (k : Inv g r 1000001) (hfg : ∀ t, 0 ≤ t → t ≤ 1000000 → f t = g t) : q = r :=
  can_same h.can k.can (fun s hs => by have := h.lt s hs; omega) (fun s hs => by have := k.lt s hs; omega)
    (fun e => by have := h.nil e; omega) (fun e => by have := k.nil e; omega)
    fun t t1 t2 => by rw [h.at_ t t1 (by omega), k.at_ t t1 (by omega), hfg t t1 t2]
theorem Prof.inv {p : List St} (h : Prof p) : Inv (now p) p 1000001 :=
  ⟨h.can, fun s hs => by have := h.mem hs; omega, by omega, fun e => by have := h.1.1; subst e; simp at this, fun _ _ _ => rfl⟩

/-- Adding answers so. -/
def badA (a b n : Int) : Prop := ¬ (0 ≤ a ∧ a ≤ 1000000 ∧ a ≤ b ∧ -1000000 ≤ n ∧ n ≤ 1000000)
instance (a b n : Int) : Decidable (badA a b n) := by unfold badA; exact inferInstance
def addR (p : List St) (a b n : Int) : List St × Int :=
  if ¬ Prof p then ([], 100) else if badA a b n then ([], 2) else if Prof (addL p a b n) then (addL p a b n, 0) else ([], 3)

theorem addR_prof {p : List St} {a b n : Int} (h : ¬ Prof p) : addR p a b n = ([], 100) := by unfold addR; rw [if_pos h]
theorem addR_bad {p : List St} {a b n : Int} (h : Prof p) (hb : badA a b n) : addR p a b n = ([], 2) := by unfold addR; rw [if_neg (by simpa using h), if_pos hb]
theorem addR_ok {p : List St} {a b n : Int} (h : Prof p) (hb : ¬ badA a b n) (k : Prof (addL p a b n)) : addR p a b n = (addL p a b n, 0) := by unfold addR; rw [if_neg (by simpa using h), if_neg hb, if_pos k]
theorem addR_big {p : List St} {a b n : Int} (h : Prof p) (hb : ¬ badA a b n) (k : ¬ Prof (addL p a b n)) : addR p a b n = ([], 3) := by unfold addR; rw [if_neg (by simpa using h), if_neg hb, if_neg k]
theorem addR_of {p : List St} {a b n : Int} (h : (addR p a b n).2 = 0) : Prof p ∧ ¬ badA a b n ∧ Prof (addL p a b n) ∧ (addR p a b n).1 = addL p a b n := by
  by_cases hp : Prof p
  · by_cases hb : badA a b n
    · rw [addR_bad hp hb] at h; simp at h
    · by_cases hk : Prof (addL p a b n)
      · rw [addR_ok hp hb hk]; exact ⟨hp, hb, hk, rfl⟩
      · rw [addR_big hp hb hk] at h; simp at h
  · rw [addR_prof hp] at h; simp at h
theorem addR_nil {p : List St} {a b n : Int} (h : (addR p a b n).2 ≠ 0) : (addR p a b n).1 = [] := by
  unfold addR at h ⊢
  split
  · rfl
  · split
    · rfl
    · split
      · rename_i h1 h2 h3; rw [if_neg h1, if_neg h2, if_pos h3] at h; simp at h
      · rfl

theorem not_bad {a b n : Int} (h : ¬ badA a b n) : 0 ≤ a ∧ a ≤ 1000000 ∧ a ≤ b ∧ -1000000 ≤ n ∧ n ≤ 1000000 := by
  unfold badA at h; exact Classical.not_not.1 h

/-- P10.5: in one order, or the other. -/
theorem add_order {p : List St} {a b n c d m : Int} (h1 : (addR p a b n).2 = 0) (h2 : (addR p c d m).2 = 0) :
    addR (addR p a b n).1 c d m = addR (addR p c d m).1 a b n := by
  obtain ⟨hp, b1, k1, e1⟩ := addR_of h1
  obtain ⟨_, b2, k2, e2⟩ := addR_of h2
  rw [e1, e2]
  have g1 := not_bad b1
  have g2 := not_bad b2
  have i1 := addL_inv (n := n) hp g1.1 g1.2.2.1
  have i2 := addL_inv (n := m) hp g2.1 g2.2.2.1
  have j1 := addL_inv (n := m) k1 g2.1 g2.2.2.1
  have j2 := addL_inv (n := n) k2 g1.1 g1.2.2.1
  have he : addL (addL p a b n) c d m = addL (addL p c d m) a b n := j1.same j2 fun t t0 t1 => by
    rw [i1.at_ t t0 (by omega), i2.at_ t t0 (by omega)]
    omega
  by_cases k : Prof (addL (addL p c d m) a b n)
  · rw [addR_ok k2 b1 k, addR_ok k1 b2 (by rw [he]; exact k), he]
  · rw [addR_big k2 b1 k, addR_big k1 b2 (by rw [he]; exact k)]

/-- P10.5: and taken again. -/
theorem add_back {p : List St} {a b n : Int} (h1 : (addR p a b n).2 = 0) : addR (addR p a b n).1 a b (-n) = (p, 0) := by
  obtain ⟨hp, b1, k1, e1⟩ := addR_of h1
  rw [e1]
  have g1 := not_bad b1
  have i1 := addL_inv (n := n) hp g1.1 g1.2.2.1
  have j1 := addL_inv (n := -n) k1 g1.1 g1.2.2.1
  have he : addL (addL p a b n) a b (-n) = p := j1.same hp.inv fun t t0 t1 => by
    rw [i1.at_ t t0 (by omega)]
    simp only [bump]
    split <;> omega
  rw [addR_ok k1 (by unfold badA; omega) (by rw [he]; exact hp), he]

/-- P10.6: at each tick just what is said. -/
theorem add_at {p : List St} {a b n t : Int} (h1 : (addR p a b n).2 = 0) (t0 : 0 ≤ t) (t1 : t ≤ 1000000) : now (addR p a b n).1 t = now p t + bump a b n t := by
  obtain ⟨hp, b1, k1, e1⟩ := addR_of h1
  rw [e1]
  have g1 := not_bad b1
  exact (addL_inv (n := n) hp g1.1 g1.2.2.1).at_ t t0 (by omega)

end Go.Proofs.Ytoiahlbaiakngaa.Prof
