/-
  Joined out of: Layer 8, plain: the document's Check tells what may be. Layer 8, plain: the place of what is wrong lies within the line; runes of a line of any length are counted.
-/
import Derived.Test.YtdkngidangfkiaaGreatDoorJb41
import Derived.Test.YtdkngidangfkiaaGreatDoorJb42
import Derived.Test.YtdkngidangfkiaaGreatDoorJb43
import Derived.Test.YtdkngidangfkiaaGreatDoorJb44
import Derived.Test.YtdkngidangfkiaaGreatDoorJb45
import Derived.Test.YtdkngidangfkiaaGreatDoorJb28
import Derived.Test.YtdkngidangfkiaaGreatDoorJb08
namespace Go.Proofs.YtdkngidangfkiaaGreatDoor.Cmd
open Go.RowKit
open Base Runes Lex
open Shape (frB frB_iff sameL sameB chkB goodB altOk sizeB wallB)
set_option linter.unusedVariables false
set_option linter.unusedSimpArgs false
theorem isEmpty_nil (s : ByteArray) : s.toList.isEmpty = decide (s = nil_) := by
  have h := ne_nil s
  by_cases e : s = nil_
  · rw [decide_eq_true e]
    have h2 : decide (s ≠ nil_) = false := decide_eq_false (fun h => h e)
    rw [h2] at h
    cases hx : s.toList.isEmpty with
    | true => rfl
    | false => rw [hx] at h; cases h
  · rw [decide_eq_false e]
    have h2 : decide (s ≠ nil_) = true := decide_eq_true e
    rw [h2] at h
    cases hx : s.toList.isEmpty with
    | false => rfl
    | true => rw [hx] at h; cases h
theorem len_nil (l : List (Int × Int)) : decide ((l.length : Int) = 0) = decide (l = []) := by
  cases l <;> simp <;> omega
theorem refB1_is (c : Co) (h : c.kind = 1) : refB1 c = mayC c := by
  obtain ⟨a1, a2, a3, a4, a5, a6, a7, a8, a9, a10, a11, a12, a13, a14, a15, a16, a17, a18⟩ := c
  dsimp only at h; subst h
  rw [Bool.eq_iff_iff, mayC_iff]
  unfold refB1 noneB partsB submitB aloneC prioB prB Shape.chkE zCo
  simp only [isEmpty_nil, len_nil]
  cases a12 <;> cases a14 <;> simp [frB] <;> (try constructor) <;> (try intros) <;> simp_all
theorem refB2_is (c : Co) (h : c.kind = 2) : refB2 c = mayC c := by
  obtain ⟨a1, a2, a3, a4, a5, a6, a7, a8, a9, a10, a11, a12, a13, a14, a15, a16, a17, a18⟩ := c
  dsimp only at h; subst h
  rw [Bool.eq_iff_iff, mayC_iff]
  unfold refB2 noneB partsB aloneC idB zCo sameB sameL
  simp only [isEmpty_nil, len_nil]
  cases a12 <;> cases a14 <;> simp [frB] <;> (try constructor) <;> (try intros) <;> simp_all
theorem refB3_is (c : Co) (h : c.kind = 3) : refB3 c = mayC c := by
  obtain ⟨a1, a2, a3, a4, a5, a6, a7, a8, a9, a10, a11, a12, a13, a14, a15, a16, a17, a18⟩ := c
  dsimp only at h; subst h
  rw [Bool.eq_iff_iff, mayC_iff]
  unfold refB3 noneB partsB aloneC idB nodeB tickB prioB timeB prB lenB sizeB zCo sameB sameL
  simp only [isEmpty_nil, len_nil]
  cases a12 <;> cases a14 <;> simp [frB] <;> (try constructor) <;> (try intros) <;> simp_all
theorem refB4_is (c : Co) (h : c.kind = 4) : refB4 c = mayC c := by
  obtain ⟨a1, a2, a3, a4, a5, a6, a7, a8, a9, a10, a11, a12, a13, a14, a15, a16, a17, a18⟩ := c
  dsimp only at h; subst h
  rw [Bool.eq_iff_iff, mayC_iff]
  unfold refB4 noneB partsB aloneC idB nodeB tickB prioB timeB prB lenB sizeB zCo sameB sameL
  simp only [isEmpty_nil, len_nil]
  cases a12 <;> cases a14 <;> simp [frB] <;> (try constructor) <;> (try intros) <;> simp_all
theorem refB11_is (c : Co) (h : c.kind = 11) : refB11 c = mayC c := by
  obtain ⟨a1, a2, a3, a4, a5, a6, a7, a8, a9, a10, a11, a12, a13, a14, a15, a16, a17, a18⟩ := c
  dsimp only at h; subst h
  rw [Bool.eq_iff_iff, mayC_iff]
  unfold refB11 noneB partsB aloneC idB nodeB tickB prioB timeB prB lenB sizeB zCo sameB sameL
  simp only [isEmpty_nil, len_nil]
  cases a12 <;> cases a14 <;> simp [frB] <;> (try constructor) <;> (try intros) <;> simp_all
theorem refB12_is (c : Co) (h : c.kind = 12) : refB12 c = mayC c := by
  obtain ⟨a1, a2, a3, a4, a5, a6, a7, a8, a9, a10, a11, a12, a13, a14, a15, a16, a17, a18⟩ := c
  dsimp only at h; subst h
  rw [Bool.eq_iff_iff, mayC_iff]
  unfold refB12 noneB partsB aloneC idB nodeB tickB prioB timeB prB lenB sizeB zCo sameB sameL
  simp only [isEmpty_nil, len_nil]
  cases a12 <;> cases a14 <;> simp [frB] <;> (try constructor) <;> (try intros) <;> simp_all <;> (try omega)
theorem refB5_is (c : Co) (h : c.kind = 5) : refB5 c = mayC c := by
  obtain ⟨a1, a2, a3, a4, a5, a6, a7, a8, a9, a10, a11, a12, a13, a14, a15, a16, a17, a18⟩ := c
  dsimp only at h; subst h
  rw [Bool.eq_iff_iff, mayC_iff]
  unfold refB5 noneB partsB aloneC idB nodeB tickB prioB timeB prB lenB sizeB zCo sameB sameL
  simp only [isEmpty_nil, len_nil]
  cases a12 <;> cases a14 <;> simp [frB] <;> (try constructor) <;> (try intros) <;> simp_all
theorem refB6_is (c : Co) (h : c.kind = 6) : refB6 c = mayC c := by
  obtain ⟨a1, a2, a3, a4, a5, a6, a7, a8, a9, a10, a11, a12, a13, a14, a15, a16, a17, a18⟩ := c
  dsimp only at h; subst h
  rw [Bool.eq_iff_iff, mayC_iff]
  unfold refB6 noneB partsB aloneC idB nodeB tickB prioB timeB prB lenB sizeB zCo sameB sameL
  simp only [isEmpty_nil, len_nil]
  cases a12 <;> cases a14 <;> simp [frB] <;> (try constructor) <;> (try intros) <;> simp_all
theorem refB7_is (c : Co) (h : c.kind = 7) : refB7 c = mayC c := by
  obtain ⟨a1, a2, a3, a4, a5, a6, a7, a8, a9, a10, a11, a12, a13, a14, a15, a16, a17, a18⟩ := c
  dsimp only at h; subst h
  rw [Bool.eq_iff_iff, mayC_iff]
  unfold refB7 noneB partsB aloneC idB nodeB tickB prioB timeB prB lenB sizeB zCo sameB sameL
  simp only [isEmpty_nil, len_nil]
  cases a12 <;> cases a14 <;> simp [frB] <;> (try constructor) <;> (try intros) <;> simp_all
theorem refB8_is (c : Co) (h : c.kind = 8) : refB8 c = mayC c := by
  obtain ⟨a1, a2, a3, a4, a5, a6, a7, a8, a9, a10, a11, a12, a13, a14, a15, a16, a17, a18⟩ := c
  dsimp only at h; subst h
  rw [Bool.eq_iff_iff, mayC_iff]
  unfold refB8 noneB partsB aloneC idB nodeB tickB prioB timeB prB lenB sizeB zCo sameB sameL
  simp only [isEmpty_nil, len_nil]
  cases a12 <;> cases a14 <;> simp [frB] <;> (try constructor) <;> (try intros) <;> simp_all
theorem refB9_is (c : Co) (h : c.kind = 9) : refB9 c = mayC c := by
  obtain ⟨a1, a2, a3, a4, a5, a6, a7, a8, a9, a10, a11, a12, a13, a14, a15, a16, a17, a18⟩ := c
  dsimp only at h; subst h
  rw [Bool.eq_iff_iff, mayC_iff]
  unfold refB9 noneB partsB aloneC idB nodeB tickB prioB timeB prB lenB sizeB zCo sameB sameL
  simp only [isEmpty_nil, len_nil]
  cases a12 <;> cases a14 <;> simp [frB] <;> (try constructor) <;> (try intros) <;> simp_all
theorem refB10_is (c : Co) (h : c.kind = 10) : refB10 c = mayC c := by
  obtain ⟨a1, a2, a3, a4, a5, a6, a7, a8, a9, a10, a11, a12, a13, a14, a15, a16, a17, a18⟩ := c
  dsimp only at h; subst h
  rw [Bool.eq_iff_iff, mayC_iff]
  unfold refB10 noneB partsB aloneC idB nodeB tickB prioB timeB prB lenB sizeB zCo sameB sameL
  simp only [isEmpty_nil, len_nil]
  cases a12 <;> cases a14 <;> simp [frB] <;> (try constructor) <;> (try intros) <;> simp_all
theorem mayC_other (c : Co) (h : c.kind < 1 ∨ 12 < c.kind) : mayC c = false := by
  cases hm : mayC c with
  | false => rfl
  | true => have := kind_bd hm; omega
set_option maxRecDepth 100000 in
set_option maxHeartbeats 4000000 in
theorem rchk0 (a1 a2 : Int) (a3 a4 a5 : ByteArray) (a6 : Int) (a7 : List (Int × Int)) (a8 a9 a10 a11 : Int) (a12 : Bool) (a13 : Int) (a14 : Bool) (a15 : List (Int × Int)) (a16 a17 a18 : Int) (va vd : Value) (w : World) (h1 : Row w va a7) (h2 : Row w vd a15) (hk : a1 < 1 ∨ 12 < a1) :
    Calls Tryz.prog 12 #[cmdV ⟨a1, a2, a3, a4, a5, a6, a7, a8, a9, a10, a11, a12, a13, a14, a15, a16, a17, a18⟩ va vd] w fun e w' => e = .returned (.int .i64 80) ∧ Below w.heap.size w w' := by
  obtain ⟨pa, qa, rfl, l1, m1, r1, n1_⟩ := h1
  obtain ⟨pd, qd, rfl, l2, m2, r2, n2_⟩ := h2
  unfold cmdV
  dsimp only
  have t1 : (a1 == 1) = false := by rw [beq_eq_false_iff_ne]; omega
  have t2 : (a1 == 2) = false := by rw [beq_eq_false_iff_ne]; omega
  have t3 : (a1 == 3) = false := by rw [beq_eq_false_iff_ne]; omega
  have t4 : (a1 == 4) = false := by rw [beq_eq_false_iff_ne]; omega
  have t5 : (a1 == 5) = false := by rw [beq_eq_false_iff_ne]; omega
  have t6 : (a1 == 6) = false := by rw [beq_eq_false_iff_ne]; omega
  have t7 : (a1 == 7) = false := by rw [beq_eq_false_iff_ne]; omega
  have t8 : (a1 == 8) = false := by rw [beq_eq_false_iff_ne]; omega
  have t9 : (a1 == 9) = false := by rw [beq_eq_false_iff_ne]; omega
  have t10 : (a1 == 10) = false := by rw [beq_eq_false_iff_ne]; omega
  have t11 : (a1 == 11) = false := by rw [beq_eq_false_iff_ne]; omega
  have t12 : (a1 == 12) = false := by rw [beq_eq_false_iff_ne]; omega
  clear hk r1 r2 n1_ n2_ l1 m1 l2 m2
  go_enter Tryz.func12, Tryz.ntmps12
  go_wp2
  all_goals
    go_ret
    exact ⟨rfl, Base.bel_⟩
theorem rcheck8_any (c : Co) (va vd : Value) (w : World) (h1 : Row w va c.alts) (h2 : Row w vd c.after) (hn : c.name.size ≤ 1000000) (hu : c.user.size ≤ 1000000) (ha : c.account.size ≤ 1000000) :
    Calls Tryz.prog 12 #[cmdV c va vd] w fun e w' => e = .returned (.int .i64 (chkC c)) ∧ Below w.heap.size w w' := by
  by_cases hk : c.kind < 1 ∨ 12 < c.kind
  · have e : chkC c = 80 := by unfold chkC; rw [mayC_other c hk]; rfl
    rw [e]
    obtain ⟨a1, a2, a3, a4, a5, a6, a7, a8, a9, a10, a11, a12, a13, a14, a15, a16, a17, a18⟩ := c
    exact rchk0 _ _ _ _ _ _ _ _ _ _ _ _ _ _ _ _ _ _ va vd w h1 h2 hk
  have hk2 : c.kind = 1 ∨ c.kind = 2 ∨ c.kind = 3 ∨ c.kind = 4 ∨ c.kind = 5 ∨ c.kind = 6 ∨ c.kind = 7 ∨ c.kind = 8 ∨ c.kind = 9 ∨ c.kind = 10 ∨ c.kind = 11 ∨ c.kind = 12 := by omega
  unfold chkC
  rcases hk2 with h | h | h | h | h | h | h | h | h | h | h | h
  · rw [← refB1_is c h]
    obtain ⟨a1, a2, a3, a4, a5, a6, a7, a8, a9, a10, a11, a12, a13, a14, a15, a16, a17, a18⟩ := c
    dsimp only at h; subst h
    exact rchk1 _ _ _ _ _ _ _ _ _ _ _ _ _ _ _ _ _ va vd w h1 h2 hn hu ha
  · rw [← refB2_is c h]
    obtain ⟨a1, a2, a3, a4, a5, a6, a7, a8, a9, a10, a11, a12, a13, a14, a15, a16, a17, a18⟩ := c
    dsimp only at h; subst h
    exact rchk2 _ _ _ _ _ _ _ _ _ _ _ _ _ _ _ _ _ va vd w h1 h2 hn hu ha
  · rw [← refB3_is c h]
    obtain ⟨a1, a2, a3, a4, a5, a6, a7, a8, a9, a10, a11, a12, a13, a14, a15, a16, a17, a18⟩ := c
    dsimp only at h; subst h
    exact rchk3 _ _ _ _ _ _ _ _ _ _ _ _ _ _ _ _ _ va vd w h1 h2 hn hu ha
  · rw [← refB4_is c h]
    obtain ⟨a1, a2, a3, a4, a5, a6, a7, a8, a9, a10, a11, a12, a13, a14, a15, a16, a17, a18⟩ := c
    dsimp only at h; subst h
    exact rchk4 _ _ _ _ _ _ _ _ _ _ _ _ _ _ _ _ _ va vd w h1 h2 hn hu ha
  · rw [← refB5_is c h]
    obtain ⟨a1, a2, a3, a4, a5, a6, a7, a8, a9, a10, a11, a12, a13, a14, a15, a16, a17, a18⟩ := c
    dsimp only at h; subst h
    exact rchk5 _ _ _ _ _ _ _ _ _ _ _ _ _ _ _ _ _ va vd w h1 h2 hn hu ha
  · rw [← refB6_is c h]
    obtain ⟨a1, a2, a3, a4, a5, a6, a7, a8, a9, a10, a11, a12, a13, a14, a15, a16, a17, a18⟩ := c
    dsimp only at h; subst h
    exact rchk6 _ _ _ _ _ _ _ _ _ _ _ _ _ _ _ _ _ va vd w h1 h2 hn hu ha
  · rw [← refB7_is c h]
    obtain ⟨a1, a2, a3, a4, a5, a6, a7, a8, a9, a10, a11, a12, a13, a14, a15, a16, a17, a18⟩ := c
    dsimp only at h; subst h
    exact rchk7 _ _ _ _ _ _ _ _ _ _ _ _ _ _ _ _ _ va vd w h1 h2 hn hu ha
  · rw [← refB8_is c h]
    obtain ⟨a1, a2, a3, a4, a5, a6, a7, a8, a9, a10, a11, a12, a13, a14, a15, a16, a17, a18⟩ := c
    dsimp only at h; subst h
    exact rchk8 _ _ _ _ _ _ _ _ _ _ _ _ _ _ _ _ _ va vd w h1 h2 hn hu ha
  · rw [← refB9_is c h]
    obtain ⟨a1, a2, a3, a4, a5, a6, a7, a8, a9, a10, a11, a12, a13, a14, a15, a16, a17, a18⟩ := c
    dsimp only at h; subst h
    exact rchk9 _ _ _ _ _ _ _ _ _ _ _ _ _ _ _ _ _ va vd w h1 h2 hn hu ha
  · rw [← refB10_is c h]
    obtain ⟨a1, a2, a3, a4, a5, a6, a7, a8, a9, a10, a11, a12, a13, a14, a15, a16, a17, a18⟩ := c
    dsimp only at h; subst h
    exact rchk10 _ _ _ _ _ _ _ _ _ _ _ _ _ _ _ _ _ va vd w h1 h2 hn hu ha
  · rw [← refB11_is c h]
    obtain ⟨a1, a2, a3, a4, a5, a6, a7, a8, a9, a10, a11, a12, a13, a14, a15, a16, a17, a18⟩ := c
    dsimp only at h; subst h
    exact rchk11 _ _ _ _ _ _ _ _ _ _ _ _ _ _ _ _ _ va vd w h1 h2 hn hu ha
  · rw [← refB12_is c h]
    obtain ⟨a1, a2, a3, a4, a5, a6, a7, a8, a9, a10, a11, a12, a13, a14, a15, a16, a17, a18⟩ := c
    dsimp only at h; subst h
    exact rchk12 _ _ _ _ _ _ _ _ _ _ _ _ _ _ _ _ _ va vd w h1 h2 hn hu ha
end Go.Proofs.YtdkngidangfkiaaGreatDoor.Cmd
namespace Go.Proofs.YtdkngidangfkiaaGreatDoor.Cmd
open Go.RowKit
open Base Runes Lex
set_option linter.unusedVariables false
set_option linter.unusedSimpArgs false
theorem may_small {c : Co} (h : mayC c = true) : c.name.size ≤ 64 ∧ c.user.size ≤ 64 ∧ c.account.size ≤ 64 := by
  by_cases hk : c.kind = 1
  · have s := sub_ok h hk
    exact ⟨(name_bytes s.name).2, (name_bytes s.user.1).2, (name_bytes s.account.1).2⟩
  · obtain ⟨f1, _⟩ := alone_facts ((mayC_iff c).1 h).2
    obtain ⟨g1, g2, g3, _⟩ := f1 hk
    rw [g1, g2, g3]
    exact ⟨Nat.zero_le _, Nat.zero_le _, Nat.zero_le _⟩
end Go.Proofs.YtdkngidangfkiaaGreatDoor.Cmd
