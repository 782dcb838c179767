/-
  Joined out of: The walk of what asks whether a command's parts may be, by its kind.
-/
import Derived.Test.YtdkngidangfkiaaGreatDoorJb20
namespace Go.Proofs.YtdkngidangfkiaaGreatDoor.Cmd
open Go.RowKit
open Base
open Shape (altC altC_length frB chkB chkE sizeB)
set_option linter.unusedVariables false
set_option linter.unusedSimpArgs false
set_option maxRecDepth 100000 in
set_option maxHeartbeats 2000000 in
theorem parts1 (c : Co) (va vd : Value) (w : World) (hT : Tb w) (h1 : Row w va c.alts) (h2 : Row w vd c.after) (hn : c.name.size ≤ 1000000) (hu : c.user.size ≤ 1000000) (ha : c.account.size ≤ 1000000) (hk : c.kind = 1) :
    Calls Tryz.prog 29 #[cmdV c va vd] w fun e w' => e = .returned (.bool (partsB c)) ∧ Below w.heap.size w w' := by
  have cS := fun w2 (hb : Below w.heap.size w w2) => submitMay_any c va vd w2 (hT.later hb) (h1.below hb) (h2.below hb) hn hu ha
  obtain ⟨pa, qa, rfl, l1, m1, r1, n1⟩ := h1
  obtain ⟨pd, qd, rfl, l2, m2, r2, n2⟩ := h2
  obtain ⟨K, a2, a3, a4, a5, a6, a7, a8, a9, a10, a11, a12, a13, a14, a15, a16, a17, a18⟩ := c
  unfold partsB
  unfold cmdV at cS ⊢
  dsimp only at *
  obtain ⟨S, hS⟩ : ∃ S, S = submitB ⟨K, a2, a3, a4, a5, a6, a7, a8, a9, a10, a11, a12, a13, a14, a15, a16, a17, a18⟩ := ⟨_, rfl⟩
  rw [← hS] at cS ⊢
  have t1 : (K == 1) = true := by simpa using hk
  have t2 : (K == 2) = false := by rw [hk]; rfl
  have t3 : (K == 3) = false := by rw [hk]; rfl
  have t4 : (K == 4) = false := by rw [hk]; rfl
  have t11 : (K == 11) = false := by rw [hk]; rfl
  have t5 : (K == 5) = false := by rw [hk]; rfl
  have t6 : (K == 6) = false := by rw [hk]; rfl
  have t7 : (K == 7) = false := by rw [hk]; rfl
  have t8 : (K == 8) = false := by rw [hk]; rfl
  have t9 : (K == 9) = false := by rw [hk]; rfl
  have t10 : (K == 10) = false := by rw [hk]; rfl
  have t12 : (K == 12) = false := by rw [hk]; rfl
  rw [if_pos hk]
  have CS := Lib.hid cS
  clear cS hS
  clear r1 n1 r2 n2 hT hn hu ha l1 l2 m1 m2 hk
  go_enter Tryz.func29, Tryz.ntmps29
  go_wp2_with (first
    | (refine ld_cmd rfl (.tmp 1) rfl w.heap.size _ _ rfl (heap_alloc_new w _) rfl ?_)
    | (go_at_call 50; (with_reducible refine (CS.out _ (Base.bel_)).mono ?_); rintro e w1 ⟨rfl, p1⟩)
    | fail)
  all_goals
    go_ret
    refine ⟨ret_bool ?_, Base.bel_⟩
    first | rfl | (simp [*]; done) | (simp_all; done)
set_option maxRecDepth 100000 in
set_option maxHeartbeats 2000000 in
theorem parts2 (c : Co) (va vd : Value) (w : World) (hT : Tb w) (h1 : Row w va c.alts) (h2 : Row w vd c.after) (hn : c.name.size ≤ 1000000) (hu : c.user.size ≤ 1000000) (ha : c.account.size ≤ 1000000) (hk : c.kind = 2) :
    Calls Tryz.prog 29 #[cmdV c va vd] w fun e w' => e = .returned (.bool (partsB c)) ∧ Below w.heap.size w w' := by
  obtain ⟨pa, qa, rfl, l1, m1, r1, n1⟩ := h1
  obtain ⟨pd, qd, rfl, l2, m2, r2, n2⟩ := h2
  obtain ⟨K, a2, a3, a4, a5, a6, a7, a8, a9, a10, a11, a12, a13, a14, a15, a16, a17, a18⟩ := c
  unfold partsB
  unfold cmdV at ⊢
  dsimp only at *
  have t1 : (K == 1) = false := by rw [hk]; rfl
  have t2 : (K == 2) = true := by simpa using hk
  have t3 : (K == 3) = false := by rw [hk]; rfl
  have t4 : (K == 4) = false := by rw [hk]; rfl
  have t11 : (K == 11) = false := by rw [hk]; rfl
  have t5 : (K == 5) = false := by rw [hk]; rfl
  have t6 : (K == 6) = false := by rw [hk]; rfl
  have t7 : (K == 7) = false := by rw [hk]; rfl
  have t8 : (K == 8) = false := by rw [hk]; rfl
  have t9 : (K == 9) = false := by rw [hk]; rfl
  have t10 : (K == 10) = false := by rw [hk]; rfl
  have t12 : (K == 12) = false := by rw [hk]; rfl
  rw [if_neg (by omega), if_pos (by omega)]
  clear r1 n1 r2 n2 hT hn hu ha l1 l2 m1 m2 hk
  go_enter Tryz.func29, Tryz.ntmps29
  go_wp2_with (first
    | (go_at_call 51; (with_reducible refine (isId_any _ _).mono ?_); rintro e w1 ⟨rfl, rfl⟩)
    | fail)
  all_goals
    go_ret
    refine ⟨ret_bool ?_, Base.bel_⟩
    first | rfl | (simp [*]; done) | (simp_all; done)
set_option maxRecDepth 100000 in
set_option maxHeartbeats 2000000 in
theorem parts3 (c : Co) (va vd : Value) (w : World) (hT : Tb w) (h1 : Row w va c.alts) (h2 : Row w vd c.after) (hn : c.name.size ≤ 1000000) (hu : c.user.size ≤ 1000000) (ha : c.account.size ≤ 1000000) (hk : c.kind = 3) :
    Calls Tryz.prog 29 #[cmdV c va vd] w fun e w' => e = .returned (.bool (partsB c)) ∧ Below w.heap.size w w' := by
  obtain ⟨pa, qa, rfl, l1, m1, r1, n1⟩ := h1
  obtain ⟨pd, qd, rfl, l2, m2, r2, n2⟩ := h2
  obtain ⟨K, a2, a3, a4, a5, a6, a7, a8, a9, a10, a11, a12, a13, a14, a15, a16, a17, a18⟩ := c
  unfold partsB
  unfold cmdV at ⊢
  dsimp only at *
  have t1 : (K == 1) = false := by rw [hk]; rfl
  have t2 : (K == 2) = false := by rw [hk]; rfl
  have t3 : (K == 3) = true := by simpa using hk
  have t4 : (K == 4) = false := by rw [hk]; rfl
  have t11 : (K == 11) = false := by rw [hk]; rfl
  have t5 : (K == 5) = false := by rw [hk]; rfl
  have t6 : (K == 6) = false := by rw [hk]; rfl
  have t7 : (K == 7) = false := by rw [hk]; rfl
  have t8 : (K == 8) = false := by rw [hk]; rfl
  have t9 : (K == 9) = false := by rw [hk]; rfl
  have t10 : (K == 10) = false := by rw [hk]; rfl
  have t12 : (K == 12) = false := by rw [hk]; rfl
  rw [if_neg (by omega), if_pos (by omega)]
  clear r1 n1 r2 n2 hT hn hu ha l1 l2 m1 m2 hk
  go_enter Tryz.func29, Tryz.ntmps29
  go_wp2_with (first
    | (go_at_call 51; (with_reducible refine (isId_any _ _).mono ?_); rintro e w1 ⟨rfl, rfl⟩)
    | fail)
  all_goals
    go_ret
    refine ⟨ret_bool ?_, Base.bel_⟩
    first | rfl | (simp [*]; done) | (simp_all; done)
set_option maxRecDepth 100000 in
set_option maxHeartbeats 2000000 in
theorem parts4 (c : Co) (va vd : Value) (w : World) (hT : Tb w) (h1 : Row w va c.alts) (h2 : Row w vd c.after) (hn : c.name.size ≤ 1000000) (hu : c.user.size ≤ 1000000) (ha : c.account.size ≤ 1000000) (hk : c.kind = 4) :
    Calls Tryz.prog 29 #[cmdV c va vd] w fun e w' => e = .returned (.bool (partsB c)) ∧ Below w.heap.size w w' := by
  obtain ⟨pa, qa, rfl, l1, m1, r1, n1⟩ := h1
  obtain ⟨pd, qd, rfl, l2, m2, r2, n2⟩ := h2
  obtain ⟨K, a2, a3, a4, a5, a6, a7, a8, a9, a10, a11, a12, a13, a14, a15, a16, a17, a18⟩ := c
  unfold partsB
  unfold cmdV at ⊢
  dsimp only at *
  have t1 : (K == 1) = false := by rw [hk]; rfl
  have t2 : (K == 2) = false := by rw [hk]; rfl
  have t3 : (K == 3) = false := by rw [hk]; rfl
  have t4 : (K == 4) = true := by simpa using hk
  have t11 : (K == 11) = false := by rw [hk]; rfl
  have t5 : (K == 5) = false := by rw [hk]; rfl
  have t6 : (K == 6) = false := by rw [hk]; rfl
  have t7 : (K == 7) = false := by rw [hk]; rfl
  have t8 : (K == 8) = false := by rw [hk]; rfl
  have t9 : (K == 9) = false := by rw [hk]; rfl
  have t10 : (K == 10) = false := by rw [hk]; rfl
  have t12 : (K == 12) = false := by rw [hk]; rfl
  rw [if_neg (by omega), if_pos (by omega)]
  clear r1 n1 r2 n2 hT hn hu ha l1 l2 m1 m2 hk
  go_enter Tryz.func29, Tryz.ntmps29
  go_wp2_with (first
    | (go_at_call 51; (with_reducible refine (isId_any _ _).mono ?_); rintro e w1 ⟨rfl, rfl⟩)
    | fail)
  all_goals
    go_ret
    refine ⟨ret_bool ?_, Base.bel_⟩
    first | rfl | (simp [*]; done) | (simp_all; done)
set_option maxRecDepth 100000 in
set_option maxHeartbeats 2000000 in
theorem parts11 (c : Co) (va vd : Value) (w : World) (hT : Tb w) (h1 : Row w va c.alts) (h2 : Row w vd c.after) (hn : c.name.size ≤ 1000000) (hu : c.user.size ≤ 1000000) (ha : c.account.size ≤ 1000000) (hk : c.kind = 11) :
    Calls Tryz.prog 29 #[cmdV c va vd] w fun e w' => e = .returned (.bool (partsB c)) ∧ Below w.heap.size w w' := by
  obtain ⟨pa, qa, rfl, l1, m1, r1, n1⟩ := h1
  obtain ⟨pd, qd, rfl, l2, m2, r2, n2⟩ := h2
  obtain ⟨K, a2, a3, a4, a5, a6, a7, a8, a9, a10, a11, a12, a13, a14, a15, a16, a17, a18⟩ := c
  unfold partsB
  unfold cmdV at ⊢
  dsimp only at *
  have t1 : (K == 1) = false := by rw [hk]; rfl
  have t2 : (K == 2) = false := by rw [hk]; rfl
  have t3 : (K == 3) = false := by rw [hk]; rfl
  have t4 : (K == 4) = false := by rw [hk]; rfl
  have t11 : (K == 11) = true := by simpa using hk
  have t5 : (K == 5) = false := by rw [hk]; rfl
  have t6 : (K == 6) = false := by rw [hk]; rfl
  have t7 : (K == 7) = false := by rw [hk]; rfl
  have t8 : (K == 8) = false := by rw [hk]; rfl
  have t9 : (K == 9) = false := by rw [hk]; rfl
  have t10 : (K == 10) = false := by rw [hk]; rfl
  have t12 : (K == 12) = false := by rw [hk]; rfl
  rw [if_neg (by omega), if_pos (by omega)]
  clear r1 n1 r2 n2 hT hn hu ha l1 l2 m1 m2 hk
  go_enter Tryz.func29, Tryz.ntmps29
  go_wp2_with (first
    | (go_at_call 51; (with_reducible refine (isId_any _ _).mono ?_); rintro e w1 ⟨rfl, rfl⟩)
    | fail)
  all_goals
    go_ret
    refine ⟨ret_bool ?_, Base.bel_⟩
    first | rfl | (simp [*]; done) | (simp_all; done)
set_option maxRecDepth 100000 in
set_option maxHeartbeats 2000000 in
theorem parts6 (c : Co) (va vd : Value) (w : World) (hT : Tb w) (h1 : Row w va c.alts) (h2 : Row w vd c.after) (hn : c.name.size ≤ 1000000) (hu : c.user.size ≤ 1000000) (ha : c.account.size ≤ 1000000) (hk : c.kind = 6) :
    Calls Tryz.prog 29 #[cmdV c va vd] w fun e w' => e = .returned (.bool (partsB c)) ∧ Below w.heap.size w w' := by
  obtain ⟨pa, qa, rfl, l1, m1, r1, n1⟩ := h1
  obtain ⟨pd, qd, rfl, l2, m2, r2, n2⟩ := h2
  obtain ⟨K, a2, a3, a4, a5, a6, a7, a8, a9, a10, a11, a12, a13, a14, a15, a16, a17, a18⟩ := c
  unfold partsB
  unfold cmdV at ⊢
  dsimp only at *
  have t1 : (K == 1) = false := by rw [hk]; rfl
  have t2 : (K == 2) = false := by rw [hk]; rfl
  have t3 : (K == 3) = false := by rw [hk]; rfl
  have t4 : (K == 4) = false := by rw [hk]; rfl
  have t11 : (K == 11) = false := by rw [hk]; rfl
  have t5 : (K == 5) = false := by rw [hk]; rfl
  have t6 : (K == 6) = true := by simpa using hk
  have t7 : (K == 7) = false := by rw [hk]; rfl
  have t8 : (K == 8) = false := by rw [hk]; rfl
  have t9 : (K == 9) = false := by rw [hk]; rfl
  have t10 : (K == 10) = false := by rw [hk]; rfl
  have t12 : (K == 12) = false := by rw [hk]; rfl
  rw [if_neg (by omega), if_neg (by omega), if_neg (by omega), if_pos hk]
  clear r1 n1 r2 n2 hT hn hu ha l1 l2 m1 m2 hk
  go_enter Tryz.func29, Tryz.ntmps29
  go_wp2_with (first
    | (go_at_call 51; (with_reducible refine (isId_any _ _).mono ?_); rintro e w1 ⟨rfl, rfl⟩)
    | (go_at_call 54; (with_reducible refine (isSize_any _ _).mono ?_); rintro e w1 ⟨rfl, rfl⟩)
    | fail)
  all_goals
    go_ret
    refine ⟨ret_bool ?_, Base.bel_⟩
    first | rfl | (simp [*]; done) | (simp_all; done)
set_option maxRecDepth 100000 in
set_option maxHeartbeats 2000000 in
theorem parts7 (c : Co) (va vd : Value) (w : World) (hT : Tb w) (h1 : Row w va c.alts) (h2 : Row w vd c.after) (hn : c.name.size ≤ 1000000) (hu : c.user.size ≤ 1000000) (ha : c.account.size ≤ 1000000) (hk : c.kind = 7) :
    Calls Tryz.prog 29 #[cmdV c va vd] w fun e w' => e = .returned (.bool (partsB c)) ∧ Below w.heap.size w w' := by
  obtain ⟨pa, qa, rfl, l1, m1, r1, n1⟩ := h1
  obtain ⟨pd, qd, rfl, l2, m2, r2, n2⟩ := h2
  obtain ⟨K, a2, a3, a4, a5, a6, a7, a8, a9, a10, a11, a12, a13, a14, a15, a16, a17, a18⟩ := c
  unfold partsB
  unfold cmdV at ⊢
  dsimp only at *
  have t1 : (K == 1) = false := by rw [hk]; rfl
  have t2 : (K == 2) = false := by rw [hk]; rfl
  have t3 : (K == 3) = false := by rw [hk]; rfl
  have t4 : (K == 4) = false := by rw [hk]; rfl
  have t11 : (K == 11) = false := by rw [hk]; rfl
  have t5 : (K == 5) = false := by rw [hk]; rfl
  have t6 : (K == 6) = false := by rw [hk]; rfl
  have t7 : (K == 7) = true := by simpa using hk
  have t8 : (K == 8) = false := by rw [hk]; rfl
  have t9 : (K == 9) = false := by rw [hk]; rfl
  have t10 : (K == 10) = false := by rw [hk]; rfl
  have t12 : (K == 12) = false := by rw [hk]; rfl
  rw [if_neg (by omega), if_neg (by omega), if_neg (by omega), if_neg (by omega), if_pos (by omega)]
  clear r1 n1 r2 n2 hT hn hu ha l1 l2 m1 m2 hk
  go_enter Tryz.func29, Tryz.ntmps29
  go_wp2_with (first
    | (go_at_call 55; (with_reducible refine (isNode_any _ _).mono ?_); rintro e w1 ⟨rfl, rfl⟩)
    | fail)
  all_goals
    go_ret
    refine ⟨ret_bool ?_, Base.bel_⟩
    first | rfl | (simp [*]; done) | (simp_all; done)
set_option maxRecDepth 100000 in
set_option maxHeartbeats 2000000 in
theorem parts8 (c : Co) (va vd : Value) (w : World) (hT : Tb w) (h1 : Row w va c.alts) (h2 : Row w vd c.after) (hn : c.name.size ≤ 1000000) (hu : c.user.size ≤ 1000000) (ha : c.account.size ≤ 1000000) (hk : c.kind = 8) :
    Calls Tryz.prog 29 #[cmdV c va vd] w fun e w' => e = .returned (.bool (partsB c)) ∧ Below w.heap.size w w' := by
  obtain ⟨pa, qa, rfl, l1, m1, r1, n1⟩ := h1
  obtain ⟨pd, qd, rfl, l2, m2, r2, n2⟩ := h2
  obtain ⟨K, a2, a3, a4, a5, a6, a7, a8, a9, a10, a11, a12, a13, a14, a15, a16, a17, a18⟩ := c
  unfold partsB
  unfold cmdV at ⊢
  dsimp only at *
  have t1 : (K == 1) = false := by rw [hk]; rfl
  have t2 : (K == 2) = false := by rw [hk]; rfl
  have t3 : (K == 3) = false := by rw [hk]; rfl
  have t4 : (K == 4) = false := by rw [hk]; rfl
  have t11 : (K == 11) = false := by rw [hk]; rfl
  have t5 : (K == 5) = false := by rw [hk]; rfl
  have t6 : (K == 6) = false := by rw [hk]; rfl
  have t7 : (K == 7) = false := by rw [hk]; rfl
  have t8 : (K == 8) = true := by simpa using hk
  have t9 : (K == 9) = false := by rw [hk]; rfl
  have t10 : (K == 10) = false := by rw [hk]; rfl
  have t12 : (K == 12) = false := by rw [hk]; rfl
  rw [if_neg (by omega), if_neg (by omega), if_neg (by omega), if_neg (by omega), if_pos (by omega)]
  clear r1 n1 r2 n2 hT hn hu ha l1 l2 m1 m2 hk
  go_enter Tryz.func29, Tryz.ntmps29
  go_wp2_with (first
    | (go_at_call 55; (with_reducible refine (isNode_any _ _).mono ?_); rintro e w1 ⟨rfl, rfl⟩)
    | fail)
  all_goals
    go_ret
    refine ⟨ret_bool ?_, Base.bel_⟩
    first | rfl | (simp [*]; done) | (simp_all; done)
set_option maxRecDepth 100000 in
set_option maxHeartbeats 2000000 in
theorem parts9 (c : Co) (va vd : Value) (w : World) (hT : Tb w) (h1 : Row w va c.alts) (h2 : Row w vd c.after) (hn : c.name.size ≤ 1000000) (hu : c.user.size ≤ 1000000) (ha : c.account.size ≤ 1000000) (hk : c.kind = 9) :
    Calls Tryz.prog 29 #[cmdV c va vd] w fun e w' => e = .returned (.bool (partsB c)) ∧ Below w.heap.size w w' := by
  obtain ⟨pa, qa, rfl, l1, m1, r1, n1⟩ := h1
  obtain ⟨pd, qd, rfl, l2, m2, r2, n2⟩ := h2
  obtain ⟨K, a2, a3, a4, a5, a6, a7, a8, a9, a10, a11, a12, a13, a14, a15, a16, a17, a18⟩ := c
  unfold partsB
  unfold cmdV at ⊢
  dsimp only at *
  have t1 : (K == 1) = false := by rw [hk]; rfl
  have t2 : (K == 2) = false := by rw [hk]; rfl
  have t3 : (K == 3) = false := by rw [hk]; rfl
  have t4 : (K == 4) = false := by rw [hk]; rfl
  have t11 : (K == 11) = false := by rw [hk]; rfl
  have t5 : (K == 5) = false := by rw [hk]; rfl
  have t6 : (K == 6) = false := by rw [hk]; rfl
  have t7 : (K == 7) = false := by rw [hk]; rfl
  have t8 : (K == 8) = false := by rw [hk]; rfl
  have t9 : (K == 9) = true := by simpa using hk
  have t10 : (K == 10) = false := by rw [hk]; rfl
  have t12 : (K == 12) = false := by rw [hk]; rfl
  rw [if_neg (by omega), if_neg (by omega), if_neg (by omega), if_neg (by omega), if_pos (by omega)]
  clear r1 n1 r2 n2 hT hn hu ha l1 l2 m1 m2 hk
  go_enter Tryz.func29, Tryz.ntmps29
  go_wp2_with (first
    | (go_at_call 55; (with_reducible refine (isNode_any _ _).mono ?_); rintro e w1 ⟨rfl, rfl⟩)
    | fail)
  all_goals
    go_ret
    refine ⟨ret_bool ?_, Base.bel_⟩
    first | rfl | (simp [*]; done) | (simp_all; done)
set_option maxRecDepth 100000 in
set_option maxHeartbeats 2000000 in
theorem parts12 (c : Co) (va vd : Value) (w : World) (hT : Tb w) (h1 : Row w va c.alts) (h2 : Row w vd c.after) (hn : c.name.size ≤ 1000000) (hu : c.user.size ≤ 1000000) (ha : c.account.size ≤ 1000000) (hk : c.kind = 12) :
    Calls Tryz.prog 29 #[cmdV c va vd] w fun e w' => e = .returned (.bool (partsB c)) ∧ Below w.heap.size w w' := by
  obtain ⟨pa, qa, rfl, l1, m1, r1, n1⟩ := h1
  obtain ⟨pd, qd, rfl, l2, m2, r2, n2⟩ := h2
  obtain ⟨K, a2, a3, a4, a5, a6, a7, a8, a9, a10, a11, a12, a13, a14, a15, a16, a17, a18⟩ := c
  unfold partsB
  unfold cmdV at ⊢
  dsimp only at *
  have t1 : (K == 1) = false := by rw [hk]; rfl
  have t2 : (K == 2) = false := by rw [hk]; rfl
  have t3 : (K == 3) = false := by rw [hk]; rfl
  have t4 : (K == 4) = false := by rw [hk]; rfl
  have t11 : (K == 11) = false := by rw [hk]; rfl
  have t5 : (K == 5) = false := by rw [hk]; rfl
  have t6 : (K == 6) = false := by rw [hk]; rfl
  have t7 : (K == 7) = false := by rw [hk]; rfl
  have t8 : (K == 8) = false := by rw [hk]; rfl
  have t9 : (K == 9) = false := by rw [hk]; rfl
  have t10 : (K == 10) = false := by rw [hk]; rfl
  have t12 : (K == 12) = true := by simpa using hk
  rw [if_neg (by omega), if_neg (by omega), if_neg (by omega), if_neg (by omega), if_neg (by omega), if_neg (by omega), if_pos hk]
  clear r1 n1 r2 n2 hT hn hu ha l1 l2 m1 m2 hk
  go_enter Tryz.func29, Tryz.ntmps29
  go_wp2_with (first
    | (go_at_call 51; (with_reducible refine (isId_any _ _).mono ?_); rintro e w1 ⟨rfl, rfl⟩)
    | fail)
  all_goals
    go_ret
    refine ⟨ret_bool ?_, Base.bel_⟩
    first | rfl | (simp [*]; done) | (simp_all; done)
set_option maxRecDepth 100000 in
set_option maxHeartbeats 2000000 in
theorem partsElse (c : Co) (va vd : Value) (w : World) (hT : Tb w) (h1 : Row w va c.alts) (h2 : Row w vd c.after) (hn : c.name.size ≤ 1000000) (hu : c.user.size ≤ 1000000) (ha : c.account.size ≤ 1000000) (hk : c.kind ≠ 1 ∧ c.kind ≠ 2 ∧ c.kind ≠ 3 ∧ c.kind ≠ 4 ∧ c.kind ≠ 11 ∧ c.kind ≠ 5 ∧ c.kind ≠ 6 ∧ c.kind ≠ 7 ∧ c.kind ≠ 8 ∧ c.kind ≠ 9 ∧ c.kind ≠ 10 ∧ c.kind ≠ 12) :
    Calls Tryz.prog 29 #[cmdV c va vd] w fun e w' => e = .returned (.bool (partsB c)) ∧ Below w.heap.size w w' := by
  obtain ⟨pa, qa, rfl, l1, m1, r1, n1⟩ := h1
  obtain ⟨pd, qd, rfl, l2, m2, r2, n2⟩ := h2
  obtain ⟨K, a2, a3, a4, a5, a6, a7, a8, a9, a10, a11, a12, a13, a14, a15, a16, a17, a18⟩ := c
  unfold partsB
  unfold cmdV at ⊢
  dsimp only at *
  have t1 : (K == 1) = false := by simp; omega
  have t2 : (K == 2) = false := by simp; omega
  have t3 : (K == 3) = false := by simp; omega
  have t4 : (K == 4) = false := by simp; omega
  have t11 : (K == 11) = false := by simp; omega
  have t5 : (K == 5) = false := by simp; omega
  have t6 : (K == 6) = false := by simp; omega
  have t7 : (K == 7) = false := by simp; omega
  have t8 : (K == 8) = false := by simp; omega
  have t9 : (K == 9) = false := by simp; omega
  have t10 : (K == 10) = false := by simp; omega
  have t12 : (K == 12) = false := by simp; omega
  rw [if_neg (by omega), if_neg (by omega), if_neg (by omega), if_neg (by omega), if_neg (by omega), if_neg (by omega), if_neg (by omega)]
  clear r1 n1 r2 n2 hT hn hu ha l1 l2 m1 m2 hk
  go_enter Tryz.func29, Tryz.ntmps29
  go_wp2
  all_goals
    go_ret
    refine ⟨ret_bool ?_, Base.bel_⟩
    first | rfl | (simp [*]; done) | (simp_all; done)
end Go.Proofs.YtdkngidangfkiaaGreatDoor.Cmd
