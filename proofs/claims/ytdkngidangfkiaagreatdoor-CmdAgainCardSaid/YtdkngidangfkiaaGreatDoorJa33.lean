/-
  Joined out of: The walk of what asks whether a command's parts may be: what is altered.
-/
import Derived.Test.YtdkngidangfkiaaGreatDoorJa32
import Derived.Deep.Cut
import Derived.Test.YtdkngidangfkiaaGreatDoorJa24
namespace Go.Proofs.YtdkngidangfkiaaGreatDoor.Cmd
open Go.RowKit
open Base
open Shape (altC altC_length frB chkB chkE sizeB)
set_option linter.unusedVariables false
set_option linter.unusedSimpArgs false
set_option maxRecDepth 100000 in
set_option maxHeartbeats 1000000 in
theorem parts5_false_o_q_p (c : Co) (va vd : Value) (w : World) (h1 : Row w va c.alts) (h2 : Row w vd c.after) (hk : c.kind = 5) (hI : idB c.job = false) :
    Calls Tryz.prog 29 #[cmdV c va vd] w fun e w' => e = .returned (.bool (idB c.job && (c.hasPrio || c.hasTime) && prioB c && timeB c)) ∧ Below w.heap.size w w' := by
  obtain ⟨pa, qa, rfl, l1, m1, r1, n1⟩ := h1
  obtain ⟨pd, qd, rfl, l2, m2, r2, n2⟩ := h2
  have cI := fun w => isId_any c.job w
  have cP := fun w => prioMay_any c pa c.alts.length qa pd c.after.length qd w
  have cT := fun w => timeMay_any c pa c.alts.length qa pd c.after.length qd w
  rw [hI] at cI ⊢
  obtain ⟨P, hP⟩ : ∃ P, P = prioB c := ⟨_, rfl⟩
  rw [← hP] at cP ⊢
  obtain ⟨T, hT⟩ : ∃ T, T = timeB c := ⟨_, rfl⟩
  rw [← hT] at cT ⊢
  clear hI hP hT
  obtain ⟨K, a2, a3, a4, a5, a6, a7, a8, a9, a10, a11, a12, a13, a14, a15, a16, a17, a18⟩ := c
  unfold cmdV at cP cT ⊢
  dsimp only at *
  have t1 : (K == 1) = false := by rw [hk]; rfl
  have t2 : (K == 2) = false := by rw [hk]; rfl
  have t3 : (K == 3) = false := by rw [hk]; rfl
  have t4 : (K == 4) = false := by rw [hk]; rfl
  have t11 : (K == 11) = false := by rw [hk]; rfl
  have t5 : (K == 5) = true := by simpa using hk
  have CI := Lib.hid cI
  have CP := Lib.hid cP
  have CT := Lib.hid cT
  clear cI cP cT
  clear r1 n1 r2 n2 l1 l2 m1 m2 hk
  go_enter Tryz.func29, Tryz.ntmps29
  go_upto_region 1 with fail
  obtain ⟨W1, hW⟩ : ∃ W1, W1 = w.alloc (.cells #[.int .i64 K, .int .i64 a2, .string a3, .string a4, .string a5, .int .i64 a6, .slice pa a7.length qa, .int .i64 a8, .int .i64 a9, .int .i64 a10, .int .i64 a11, .bool a12, .int .i64 a13, .bool a14, .slice pd a15.length qd, .int .i64 a16, .int .i64 a17, .int .i64 a18] 27) := ⟨_, rfl⟩
  have hB1 : Below w.heap.size w W1 := by rw [hW]; exact below_one _
  have hbx : ∀ w2, Below W1.heap.size W1 w2 → w2.heap[w.heap.size]? = some (.cells #[.int .i64 K, .int .i64 a2, .string a3, .string a4, .string a5, .int .i64 a6, .slice pa a7.length qa, .int .i64 a8, .int .i64 a9, .int .i64 a10, .int .i64 a11, .bool a12, .int .i64 a13, .bool a14, .slice pd a15.length qd, .int .i64 a16, .int .i64 a17, .int .i64 a18] 27) := fun w2 hb => by rw [hW] at hb; exact box_cmd hb
  have k0 := hbx W1 (Below.refl _ _)
  obtain ⟨x0, x1, x2, x3, x4, x5, x6, x7, x8, x9, x10, x11, x12, x13, x14, x15, x16, x17⟩ := all18 k0
  clear x2 x3 x4 x5 x6 x7 x8 x9 x10 x12 x14 x15 x16 x17
  rw [← hW]
  have HBX := Lib.hid hbx
  have HB1 := Lib.hid hB1
  have K0 := Lib.hid k0
  clear hW hbx hB1 k0
  go_upto_region 10 with fail
  refine wp_region_list ?_
  go_wp2_with (first
    | (go_at_call 51; (with_reducible refine (CI.out _).mono ?_); rintro e w1 ⟨rfl, rfl⟩)
    | (go_at_call 52; (with_reducible refine (CP.out _).mono ?_); rintro e w1 ⟨rfl, p1⟩; have K1 := Lib.hid (HBX.out w1 (by (focus repeat (first | exact Below.refl _ _ | assumption | (exact Hid.out (by assumption)) | (with_reducible refine Below.drew ?_) | (with_reducible refine Base.below_drewN ?_ _) | (refine Below.from (below_one _) ?_) | (refine Below.from (below_conv _ _ _) ?_) | (refine Below.setCell ?_ (by simp <;> omega) _) | (refine Below.from (by assumption) ?_))))))
    | (go_at_call 53; (with_reducible refine (CT.out _).mono ?_); rintro e w1 ⟨rfl, p1⟩)
    | (refine ld_cmdG ?_ (.tmp 1) rfl w.heap.size _ _ rfl K1.out rfl ?_; focus (simp [Region.wanted, yielded]; done))
    | (refine ld_cmdG ?_ (.tmp 1) rfl w.heap.size _ _ rfl K0.out rfl ?_; focus (simp [Region.wanted, yielded]; done))
    | fail)
  all_goals
    go_ret
    refine ⟨ret_bool ?_, by first | exact HB1.out | (focus repeat (first | exact Below.refl _ _ | assumption | (exact Hid.out (by assumption)) | (with_reducible refine Below.drew ?_) | (with_reducible refine Base.below_drewN ?_ _) | (refine Below.from (below_one _) ?_) | (refine Below.from (below_conv _ _ _) ?_) | (refine Below.setCell ?_ (by simp <;> omega) _) | (refine Below.from (by assumption) ?_)))⟩
    first | rfl | (simp [*]; done) | (simp_all; done)
set_option maxRecDepth 100000 in
set_option maxHeartbeats 1000000 in
theorem parts5_true_false_false_p (c : Co) (va vd : Value) (w : World) (h1 : Row w va c.alts) (h2 : Row w vd c.after) (hk : c.kind = 5) (hI : idB c.job = true) (hO : c.hasPrio = false) (hQ : c.hasTime = false) :
    Calls Tryz.prog 29 #[cmdV c va vd] w fun e w' => e = .returned (.bool (idB c.job && (c.hasPrio || c.hasTime) && prioB c && timeB c)) ∧ Below w.heap.size w w' := by
  obtain ⟨pa, qa, rfl, l1, m1, r1, n1⟩ := h1
  obtain ⟨pd, qd, rfl, l2, m2, r2, n2⟩ := h2
  have cI := fun w => isId_any c.job w
  have cP := fun w => prioMay_any c pa c.alts.length qa pd c.after.length qd w
  have cT := fun w => timeMay_any c pa c.alts.length qa pd c.after.length qd w
  rw [hI] at cI ⊢
  obtain ⟨P, hP⟩ : ∃ P, P = prioB c := ⟨_, rfl⟩
  rw [← hP] at cP ⊢
  obtain ⟨T, hT⟩ : ∃ T, T = timeB c := ⟨_, rfl⟩
  rw [← hT] at cT ⊢
  clear hI hP hT
  obtain ⟨K, a2, a3, a4, a5, a6, a7, a8, a9, a10, a11, a12, a13, a14, a15, a16, a17, a18⟩ := c
  unfold cmdV at cP cT ⊢
  dsimp only at *
  subst hO hQ
  have t1 : (K == 1) = false := by rw [hk]; rfl
  have t2 : (K == 2) = false := by rw [hk]; rfl
  have t3 : (K == 3) = false := by rw [hk]; rfl
  have t4 : (K == 4) = false := by rw [hk]; rfl
  have t11 : (K == 11) = false := by rw [hk]; rfl
  have t5 : (K == 5) = true := by simpa using hk
  have CI := Lib.hid cI
  have CP := Lib.hid cP
  have CT := Lib.hid cT
  clear cI cP cT
  clear r1 n1 r2 n2 l1 l2 m1 m2 hk
  go_enter Tryz.func29, Tryz.ntmps29
  go_upto_region 1 with fail
  obtain ⟨W1, hW⟩ : ∃ W1, W1 = w.alloc (.cells #[.int .i64 K, .int .i64 a2, .string a3, .string a4, .string a5, .int .i64 a6, .slice pa a7.length qa, .int .i64 a8, .int .i64 a9, .int .i64 a10, .int .i64 a11, .bool false, .int .i64 a13, .bool false, .slice pd a15.length qd, .int .i64 a16, .int .i64 a17, .int .i64 a18] 27) := ⟨_, rfl⟩
  have hB1 : Below w.heap.size w W1 := by rw [hW]; exact below_one _
  have hbx : ∀ w2, Below W1.heap.size W1 w2 → w2.heap[w.heap.size]? = some (.cells #[.int .i64 K, .int .i64 a2, .string a3, .string a4, .string a5, .int .i64 a6, .slice pa a7.length qa, .int .i64 a8, .int .i64 a9, .int .i64 a10, .int .i64 a11, .bool false, .int .i64 a13, .bool false, .slice pd a15.length qd, .int .i64 a16, .int .i64 a17, .int .i64 a18] 27) := fun w2 hb => by rw [hW] at hb; exact box_cmd hb
  have k0 := hbx W1 (Below.refl _ _)
  obtain ⟨x0, x1, x2, x3, x4, x5, x6, x7, x8, x9, x10, x11, x12, x13, x14, x15, x16, x17⟩ := all18 k0
  clear x2 x3 x4 x5 x6 x7 x8 x9 x10 x12 x14 x15 x16 x17
  rw [← hW]
  have HBX := Lib.hid hbx
  have HB1 := Lib.hid hB1
  have K0 := Lib.hid k0
  clear hW hbx hB1 k0
  go_upto_region 10 with fail
  refine wp_region_list ?_
  go_wp2_with (first
    | (go_at_call 51; (with_reducible refine (CI.out _).mono ?_); rintro e w1 ⟨rfl, rfl⟩)
    | (go_at_call 52; (with_reducible refine (CP.out _).mono ?_); rintro e w1 ⟨rfl, p1⟩; have K1 := Lib.hid (HBX.out w1 (by (focus repeat (first | exact Below.refl _ _ | assumption | (exact Hid.out (by assumption)) | (with_reducible refine Below.drew ?_) | (with_reducible refine Base.below_drewN ?_ _) | (refine Below.from (below_one _) ?_) | (refine Below.from (below_conv _ _ _) ?_) | (refine Below.setCell ?_ (by simp <;> omega) _) | (refine Below.from (by assumption) ?_))))))
    | (go_at_call 53; (with_reducible refine (CT.out _).mono ?_); rintro e w1 ⟨rfl, p1⟩)
    | (refine ld_cmdG ?_ (.tmp 1) rfl w.heap.size _ _ rfl K1.out rfl ?_; focus (simp [Region.wanted, yielded]; done))
    | (refine ld_cmdG ?_ (.tmp 1) rfl w.heap.size _ _ rfl K0.out rfl ?_; focus (simp [Region.wanted, yielded]; done))
    | fail)
  all_goals
    go_ret
    refine ⟨ret_bool ?_, by first | exact HB1.out | (focus repeat (first | exact Below.refl _ _ | assumption | (exact Hid.out (by assumption)) | (with_reducible refine Below.drew ?_) | (with_reducible refine Base.below_drewN ?_ _) | (refine Below.from (below_one _) ?_) | (refine Below.from (below_conv _ _ _) ?_) | (refine Below.setCell ?_ (by simp <;> omega) _) | (refine Below.from (by assumption) ?_)))⟩
    first | rfl | (simp [*]; done) | (simp_all; done)
set_option maxRecDepth 100000 in
set_option maxHeartbeats 1000000 in
theorem parts5_true_true_true_true (c : Co) (va vd : Value) (w : World) (h1 : Row w va c.alts) (h2 : Row w vd c.after) (hk : c.kind = 5) (hI : idB c.job = true) (hO : c.hasPrio = true) (hQ : c.hasTime = true) (hP : prioB c = true) :
    Calls Tryz.prog 29 #[cmdV c va vd] w fun e w' => e = .returned (.bool (idB c.job && (c.hasPrio || c.hasTime) && prioB c && timeB c)) ∧ Below w.heap.size w w' := by
  obtain ⟨pa, qa, rfl, l1, m1, r1, n1⟩ := h1
  obtain ⟨pd, qd, rfl, l2, m2, r2, n2⟩ := h2
  have cI := fun w => isId_any c.job w
  have cP := fun w => prioMay_any c pa c.alts.length qa pd c.after.length qd w
  have cT := fun w => timeMay_any c pa c.alts.length qa pd c.after.length qd w
  rw [hI] at cI ⊢
  rw [hP] at cP ⊢
  obtain ⟨T, hT⟩ : ∃ T, T = timeB c := ⟨_, rfl⟩
  rw [← hT] at cT ⊢
  clear hI hP hT
  obtain ⟨K, a2, a3, a4, a5, a6, a7, a8, a9, a10, a11, a12, a13, a14, a15, a16, a17, a18⟩ := c
  unfold cmdV at cP cT ⊢
  dsimp only at *
  subst hO hQ
  have t1 : (K == 1) = false := by rw [hk]; rfl
  have t2 : (K == 2) = false := by rw [hk]; rfl
  have t3 : (K == 3) = false := by rw [hk]; rfl
  have t4 : (K == 4) = false := by rw [hk]; rfl
  have t11 : (K == 11) = false := by rw [hk]; rfl
  have t5 : (K == 5) = true := by simpa using hk
  have CI := Lib.hid cI
  have CP := Lib.hid cP
  have CT := Lib.hid cT
  clear cI cP cT
  clear r1 n1 r2 n2 l1 l2 m1 m2 hk
  go_enter Tryz.func29, Tryz.ntmps29
  go_upto_region 1 with fail
  obtain ⟨W1, hW⟩ : ∃ W1, W1 = w.alloc (.cells #[.int .i64 K, .int .i64 a2, .string a3, .string a4, .string a5, .int .i64 a6, .slice pa a7.length qa, .int .i64 a8, .int .i64 a9, .int .i64 a10, .int .i64 a11, .bool true, .int .i64 a13, .bool true, .slice pd a15.length qd, .int .i64 a16, .int .i64 a17, .int .i64 a18] 27) := ⟨_, rfl⟩
  have hB1 : Below w.heap.size w W1 := by rw [hW]; exact below_one _
  have hbx : ∀ w2, Below W1.heap.size W1 w2 → w2.heap[w.heap.size]? = some (.cells #[.int .i64 K, .int .i64 a2, .string a3, .string a4, .string a5, .int .i64 a6, .slice pa a7.length qa, .int .i64 a8, .int .i64 a9, .int .i64 a10, .int .i64 a11, .bool true, .int .i64 a13, .bool true, .slice pd a15.length qd, .int .i64 a16, .int .i64 a17, .int .i64 a18] 27) := fun w2 hb => by rw [hW] at hb; exact box_cmd hb
  have k0 := hbx W1 (Below.refl _ _)
  obtain ⟨x0, x1, x2, x3, x4, x5, x6, x7, x8, x9, x10, x11, x12, x13, x14, x15, x16, x17⟩ := all18 k0
  clear x2 x3 x4 x5 x6 x7 x8 x9 x10 x12 x14 x15 x16 x17
  rw [← hW]
  have HBX := Lib.hid hbx
  have HB1 := Lib.hid hB1
  have K0 := Lib.hid k0
  clear hW hbx hB1 k0
  go_upto_region 10 with fail
  refine wp_region_list ?_
  go_wp2_with (first
    | (go_at_call 51; (with_reducible refine (CI.out _).mono ?_); rintro e w1 ⟨rfl, rfl⟩)
    | (go_at_call 52; (with_reducible refine (CP.out _).mono ?_); rintro e w1 ⟨rfl, p1⟩; have K1 := Lib.hid (HBX.out w1 (by (focus repeat (first | exact Below.refl _ _ | assumption | (exact Hid.out (by assumption)) | (with_reducible refine Below.drew ?_) | (with_reducible refine Base.below_drewN ?_ _) | (refine Below.from (below_one _) ?_) | (refine Below.from (below_conv _ _ _) ?_) | (refine Below.setCell ?_ (by simp <;> omega) _) | (refine Below.from (by assumption) ?_))))))
    | (go_at_call 53; (with_reducible refine (CT.out _).mono ?_); rintro e w1 ⟨rfl, p1⟩)
    | (refine ld_cmdG ?_ (.tmp 1) rfl w.heap.size _ _ rfl K1.out rfl ?_; focus (simp [Region.wanted, yielded]; done))
    | (refine ld_cmdG ?_ (.tmp 1) rfl w.heap.size _ _ rfl K0.out rfl ?_; focus (simp [Region.wanted, yielded]; done))
    | fail)
  all_goals
    go_ret
    refine ⟨ret_bool ?_, by first | exact HB1.out | (focus repeat (first | exact Below.refl _ _ | assumption | (exact Hid.out (by assumption)) | (with_reducible refine Below.drew ?_) | (with_reducible refine Base.below_drewN ?_ _) | (refine Below.from (below_one _) ?_) | (refine Below.from (below_conv _ _ _) ?_) | (refine Below.setCell ?_ (by simp <;> omega) _) | (refine Below.from (by assumption) ?_)))⟩
    first | rfl | (simp [*]; done) | (simp_all; done)
set_option maxRecDepth 100000 in
set_option maxHeartbeats 1000000 in
theorem parts5_true_true_true_false (c : Co) (va vd : Value) (w : World) (h1 : Row w va c.alts) (h2 : Row w vd c.after) (hk : c.kind = 5) (hI : idB c.job = true) (hO : c.hasPrio = true) (hQ : c.hasTime = true) (hP : prioB c = false) :
    Calls Tryz.prog 29 #[cmdV c va vd] w fun e w' => e = .returned (.bool (idB c.job && (c.hasPrio || c.hasTime) && prioB c && timeB c)) ∧ Below w.heap.size w w' := by
  obtain ⟨pa, qa, rfl, l1, m1, r1, n1⟩ := h1
  obtain ⟨pd, qd, rfl, l2, m2, r2, n2⟩ := h2
  have cI := fun w => isId_any c.job w
  have cP := fun w => prioMay_any c pa c.alts.length qa pd c.after.length qd w
  have cT := fun w => timeMay_any c pa c.alts.length qa pd c.after.length qd w
  rw [hI] at cI ⊢
  rw [hP] at cP ⊢
  obtain ⟨T, hT⟩ : ∃ T, T = timeB c := ⟨_, rfl⟩
  rw [← hT] at cT ⊢
  clear hI hP hT
  obtain ⟨K, a2, a3, a4, a5, a6, a7, a8, a9, a10, a11, a12, a13, a14, a15, a16, a17, a18⟩ := c
  unfold cmdV at cP cT ⊢
  dsimp only at *
  subst hO hQ
  have t1 : (K == 1) = false := by rw [hk]; rfl
  have t2 : (K == 2) = false := by rw [hk]; rfl
  have t3 : (K == 3) = false := by rw [hk]; rfl
  have t4 : (K == 4) = false := by rw [hk]; rfl
  have t11 : (K == 11) = false := by rw [hk]; rfl
  have t5 : (K == 5) = true := by simpa using hk
  have CI := Lib.hid cI
  have CP := Lib.hid cP
  have CT := Lib.hid cT
  clear cI cP cT
  clear r1 n1 r2 n2 l1 l2 m1 m2 hk
  go_enter Tryz.func29, Tryz.ntmps29
  go_upto_region 1 with fail
  obtain ⟨W1, hW⟩ : ∃ W1, W1 = w.alloc (.cells #[.int .i64 K, .int .i64 a2, .string a3, .string a4, .string a5, .int .i64 a6, .slice pa a7.length qa, .int .i64 a8, .int .i64 a9, .int .i64 a10, .int .i64 a11, .bool true, .int .i64 a13, .bool true, .slice pd a15.length qd, .int .i64 a16, .int .i64 a17, .int .i64 a18] 27) := ⟨_, rfl⟩
  have hB1 : Below w.heap.size w W1 := by rw [hW]; exact below_one _
  have hbx : ∀ w2, Below W1.heap.size W1 w2 → w2.heap[w.heap.size]? = some (.cells #[.int .i64 K, .int .i64 a2, .string a3, .string a4, .string a5, .int .i64 a6, .slice pa a7.length qa, .int .i64 a8, .int .i64 a9, .int .i64 a10, .int .i64 a11, .bool true, .int .i64 a13, .bool true, .slice pd a15.length qd, .int .i64 a16, .int .i64 a17, .int .i64 a18] 27) := fun w2 hb => by rw [hW] at hb; exact box_cmd hb
  have k0 := hbx W1 (Below.refl _ _)
  obtain ⟨x0, x1, x2, x3, x4, x5, x6, x7, x8, x9, x10, x11, x12, x13, x14, x15, x16, x17⟩ := all18 k0
  clear x2 x3 x4 x5 x6 x7 x8 x9 x10 x12 x14 x15 x16 x17
  rw [← hW]
  have HBX := Lib.hid hbx
  have HB1 := Lib.hid hB1
  have K0 := Lib.hid k0
  clear hW hbx hB1 k0
  go_upto_region 10 with fail
  refine wp_region_list ?_
  go_wp2_with (first
    | (go_at_call 51; (with_reducible refine (CI.out _).mono ?_); rintro e w1 ⟨rfl, rfl⟩)
    | (go_at_call 52; (with_reducible refine (CP.out _).mono ?_); rintro e w1 ⟨rfl, p1⟩; have K1 := Lib.hid (HBX.out w1 (by (focus repeat (first | exact Below.refl _ _ | assumption | (exact Hid.out (by assumption)) | (with_reducible refine Below.drew ?_) | (with_reducible refine Base.below_drewN ?_ _) | (refine Below.from (below_one _) ?_) | (refine Below.from (below_conv _ _ _) ?_) | (refine Below.setCell ?_ (by simp <;> omega) _) | (refine Below.from (by assumption) ?_))))))
    | (go_at_call 53; (with_reducible refine (CT.out _).mono ?_); rintro e w1 ⟨rfl, p1⟩)
    | (refine ld_cmdG ?_ (.tmp 1) rfl w.heap.size _ _ rfl K1.out rfl ?_; focus (simp [Region.wanted, yielded]; done))
    | (refine ld_cmdG ?_ (.tmp 1) rfl w.heap.size _ _ rfl K0.out rfl ?_; focus (simp [Region.wanted, yielded]; done))
    | fail)
  all_goals
    go_ret
    refine ⟨ret_bool ?_, by first | exact HB1.out | (focus repeat (first | exact Below.refl _ _ | assumption | (exact Hid.out (by assumption)) | (with_reducible refine Below.drew ?_) | (with_reducible refine Base.below_drewN ?_ _) | (refine Below.from (below_one _) ?_) | (refine Below.from (below_conv _ _ _) ?_) | (refine Below.setCell ?_ (by simp <;> omega) _) | (refine Below.from (by assumption) ?_)))⟩
    first | rfl | (simp [*]; done) | (simp_all; done)
set_option maxRecDepth 100000 in
set_option maxHeartbeats 1000000 in
theorem parts5_true_true_false_true (c : Co) (va vd : Value) (w : World) (h1 : Row w va c.alts) (h2 : Row w vd c.after) (hk : c.kind = 5) (hI : idB c.job = true) (hO : c.hasPrio = true) (hQ : c.hasTime = false) (hP : prioB c = true) :
    Calls Tryz.prog 29 #[cmdV c va vd] w fun e w' => e = .returned (.bool (idB c.job && (c.hasPrio || c.hasTime) && prioB c && timeB c)) ∧ Below w.heap.size w w' := by
  obtain ⟨pa, qa, rfl, l1, m1, r1, n1⟩ := h1
  obtain ⟨pd, qd, rfl, l2, m2, r2, n2⟩ := h2
  have cI := fun w => isId_any c.job w
  have cP := fun w => prioMay_any c pa c.alts.length qa pd c.after.length qd w
  have cT := fun w => timeMay_any c pa c.alts.length qa pd c.after.length qd w
  rw [hI] at cI ⊢
  rw [hP] at cP ⊢
  obtain ⟨T, hT⟩ : ∃ T, T = timeB c := ⟨_, rfl⟩
  rw [← hT] at cT ⊢
  clear hI hP hT
  obtain ⟨K, a2, a3, a4, a5, a6, a7, a8, a9, a10, a11, a12, a13, a14, a15, a16, a17, a18⟩ := c
  unfold cmdV at cP cT ⊢
  dsimp only at *
  subst hO hQ
  have t1 : (K == 1) = false := by rw [hk]; rfl
  have t2 : (K == 2) = false := by rw [hk]; rfl
  have t3 : (K == 3) = false := by rw [hk]; rfl
  have t4 : (K == 4) = false := by rw [hk]; rfl
  have t11 : (K == 11) = false := by rw [hk]; rfl
  have t5 : (K == 5) = true := by simpa using hk
  have CI := Lib.hid cI
  have CP := Lib.hid cP
  have CT := Lib.hid cT
  clear cI cP cT
  clear r1 n1 r2 n2 l1 l2 m1 m2 hk
  go_enter Tryz.func29, Tryz.ntmps29
  go_upto_region 1 with fail
  obtain ⟨W1, hW⟩ : ∃ W1, W1 = w.alloc (.cells #[.int .i64 K, .int .i64 a2, .string a3, .string a4, .string a5, .int .i64 a6, .slice pa a7.length qa, .int .i64 a8, .int .i64 a9, .int .i64 a10, .int .i64 a11, .bool true, .int .i64 a13, .bool false, .slice pd a15.length qd, .int .i64 a16, .int .i64 a17, .int .i64 a18] 27) := ⟨_, rfl⟩
  have hB1 : Below w.heap.size w W1 := by rw [hW]; exact below_one _
  have hbx : ∀ w2, Below W1.heap.size W1 w2 → w2.heap[w.heap.size]? = some (.cells #[.int .i64 K, .int .i64 a2, .string a3, .string a4, .string a5, .int .i64 a6, .slice pa a7.length qa, .int .i64 a8, .int .i64 a9, .int .i64 a10, .int .i64 a11, .bool true, .int .i64 a13, .bool false, .slice pd a15.length qd, .int .i64 a16, .int .i64 a17, .int .i64 a18] 27) := fun w2 hb => by rw [hW] at hb; exact box_cmd hb
  have k0 := hbx W1 (Below.refl _ _)
  obtain ⟨x0, x1, x2, x3, x4, x5, x6, x7, x8, x9, x10, x11, x12, x13, x14, x15, x16, x17⟩ := all18 k0
  clear x2 x3 x4 x5 x6 x7 x8 x9 x10 x12 x14 x15 x16 x17
  rw [← hW]
  have HBX := Lib.hid hbx
  have HB1 := Lib.hid hB1
  have K0 := Lib.hid k0
  clear hW hbx hB1 k0
  go_upto_region 10 with fail
  refine wp_region_list ?_
  go_wp2_with (first
    | (go_at_call 51; (with_reducible refine (CI.out _).mono ?_); rintro e w1 ⟨rfl, rfl⟩)
    | (go_at_call 52; (with_reducible refine (CP.out _).mono ?_); rintro e w1 ⟨rfl, p1⟩; have K1 := Lib.hid (HBX.out w1 (by (focus repeat (first | exact Below.refl _ _ | assumption | (exact Hid.out (by assumption)) | (with_reducible refine Below.drew ?_) | (with_reducible refine Base.below_drewN ?_ _) | (refine Below.from (below_one _) ?_) | (refine Below.from (below_conv _ _ _) ?_) | (refine Below.setCell ?_ (by simp <;> omega) _) | (refine Below.from (by assumption) ?_))))))
    | (go_at_call 53; (with_reducible refine (CT.out _).mono ?_); rintro e w1 ⟨rfl, p1⟩)
    | (refine ld_cmdG ?_ (.tmp 1) rfl w.heap.size _ _ rfl K1.out rfl ?_; focus (simp [Region.wanted, yielded]; done))
    | (refine ld_cmdG ?_ (.tmp 1) rfl w.heap.size _ _ rfl K0.out rfl ?_; focus (simp [Region.wanted, yielded]; done))
    | fail)
  all_goals
    go_ret
    refine ⟨ret_bool ?_, by first | exact HB1.out | (focus repeat (first | exact Below.refl _ _ | assumption | (exact Hid.out (by assumption)) | (with_reducible refine Below.drew ?_) | (with_reducible refine Base.below_drewN ?_ _) | (refine Below.from (below_one _) ?_) | (refine Below.from (below_conv _ _ _) ?_) | (refine Below.setCell ?_ (by simp <;> omega) _) | (refine Below.from (by assumption) ?_)))⟩
    first | rfl | (simp [*]; done) | (simp_all; done)
set_option maxRecDepth 100000 in
set_option maxHeartbeats 1000000 in
theorem parts5_true_true_false_false (c : Co) (va vd : Value) (w : World) (h1 : Row w va c.alts) (h2 : Row w vd c.after) (hk : c.kind = 5) (hI : idB c.job = true) (hO : c.hasPrio = true) (hQ : c.hasTime = false) (hP : prioB c = false) :
    Calls Tryz.prog 29 #[cmdV c va vd] w fun e w' => e = .returned (.bool (idB c.job && (c.hasPrio || c.hasTime) && prioB c && timeB c)) ∧ Below w.heap.size w w' := by
  obtain ⟨pa, qa, rfl, l1, m1, r1, n1⟩ := h1
  obtain ⟨pd, qd, rfl, l2, m2, r2, n2⟩ := h2
  have cI := fun w => isId_any c.job w
  have cP := fun w => prioMay_any c pa c.alts.length qa pd c.after.length qd w
  have cT := fun w => timeMay_any c pa c.alts.length qa pd c.after.length qd w
  rw [hI] at cI ⊢
  rw [hP] at cP ⊢
  obtain ⟨T, hT⟩ : ∃ T, T = timeB c := ⟨_, rfl⟩
  rw [← hT] at cT ⊢
  clear hI hP hT
  obtain ⟨K, a2, a3, a4, a5, a6, a7, a8, a9, a10, a11, a12, a13, a14, a15, a16, a17, a18⟩ := c
  unfold cmdV at cP cT ⊢
  dsimp only at *
  subst hO hQ
  have t1 : (K == 1) = false := by rw [hk]; rfl
  have t2 : (K == 2) = false := by rw [hk]; rfl
  have t3 : (K == 3) = false := by rw [hk]; rfl
  have t4 : (K == 4) = false := by rw [hk]; rfl
  have t11 : (K == 11) = false := by rw [hk]; rfl
  have t5 : (K == 5) = true := by simpa using hk
  have CI := Lib.hid cI
  have CP := Lib.hid cP
  have CT := Lib.hid cT
  clear cI cP cT
  clear r1 n1 r2 n2 l1 l2 m1 m2 hk
  go_enter Tryz.func29, Tryz.ntmps29
  go_upto_region 1 with fail
  obtain ⟨W1, hW⟩ : ∃ W1, W1 = w.alloc (.cells #[.int .i64 K, .int .i64 a2, .string a3, .string a4, .string a5, .int .i64 a6, .slice pa a7.length qa, .int .i64 a8, .int .i64 a9, .int .i64 a10, .int .i64 a11, .bool true, .int .i64 a13, .bool false, .slice pd a15.length qd, .int .i64 a16, .int .i64 a17, .int .i64 a18] 27) := ⟨_, rfl⟩
  have hB1 : Below w.heap.size w W1 := by rw [hW]; exact below_one _
  have hbx : ∀ w2, Below W1.heap.size W1 w2 → w2.heap[w.heap.size]? = some (.cells #[.int .i64 K, .int .i64 a2, .string a3, .string a4, .string a5, .int .i64 a6, .slice pa a7.length qa, .int .i64 a8, .int .i64 a9, .int .i64 a10, .int .i64 a11, .bool true, .int .i64 a13, .bool false, .slice pd a15.length qd, .int .i64 a16, .int .i64 a17, .int .i64 a18] 27) := fun w2 hb => by rw [hW] at hb; exact box_cmd hb
  have k0 := hbx W1 (Below.refl _ _)
  obtain ⟨x0, x1, x2, x3, x4, x5, x6, x7, x8, x9, x10, x11, x12, x13, x14, x15, x16, x17⟩ := all18 k0
  clear x2 x3 x4 x5 x6 x7 x8 x9 x10 x12 x14 x15 x16 x17
  rw [← hW]
  have HBX := Lib.hid hbx
  have HB1 := Lib.hid hB1
  have K0 := Lib.hid k0
  clear hW hbx hB1 k0
  go_upto_region 10 with fail
  refine wp_region_list ?_
  go_wp2_with (first
    | (go_at_call 51; (with_reducible refine (CI.out _).mono ?_); rintro e w1 ⟨rfl, rfl⟩)
    | (go_at_call 52; (with_reducible refine (CP.out _).mono ?_); rintro e w1 ⟨rfl, p1⟩; have K1 := Lib.hid (HBX.out w1 (by (focus repeat (first | exact Below.refl _ _ | assumption | (exact Hid.out (by assumption)) | (with_reducible refine Below.drew ?_) | (with_reducible refine Base.below_drewN ?_ _) | (refine Below.from (below_one _) ?_) | (refine Below.from (below_conv _ _ _) ?_) | (refine Below.setCell ?_ (by simp <;> omega) _) | (refine Below.from (by assumption) ?_))))))
    | (go_at_call 53; (with_reducible refine (CT.out _).mono ?_); rintro e w1 ⟨rfl, p1⟩)
    | (refine ld_cmdG ?_ (.tmp 1) rfl w.heap.size _ _ rfl K1.out rfl ?_; focus (simp [Region.wanted, yielded]; done))
    | (refine ld_cmdG ?_ (.tmp 1) rfl w.heap.size _ _ rfl K0.out rfl ?_; focus (simp [Region.wanted, yielded]; done))
    | fail)
  all_goals
    go_ret
    refine ⟨ret_bool ?_, by first | exact HB1.out | (focus repeat (first | exact Below.refl _ _ | assumption | (exact Hid.out (by assumption)) | (with_reducible refine Below.drew ?_) | (with_reducible refine Base.below_drewN ?_ _) | (refine Below.from (below_one _) ?_) | (refine Below.from (below_conv _ _ _) ?_) | (refine Below.setCell ?_ (by simp <;> omega) _) | (refine Below.from (by assumption) ?_)))⟩
    first | rfl | (simp [*]; done) | (simp_all; done)
set_option maxRecDepth 100000 in
set_option maxHeartbeats 1000000 in
theorem parts5_true_false_true_true (c : Co) (va vd : Value) (w : World) (h1 : Row w va c.alts) (h2 : Row w vd c.after) (hk : c.kind = 5) (hI : idB c.job = true) (hO : c.hasPrio = false) (hQ : c.hasTime = true) (hP : prioB c = true) :
    Calls Tryz.prog 29 #[cmdV c va vd] w fun e w' => e = .returned (.bool (idB c.job && (c.hasPrio || c.hasTime) && prioB c && timeB c)) ∧ Below w.heap.size w w' := by
  obtain ⟨pa, qa, rfl, l1, m1, r1, n1⟩ := h1
  obtain ⟨pd, qd, rfl, l2, m2, r2, n2⟩ := h2
  have cI := fun w => isId_any c.job w
  have cP := fun w => prioMay_any c pa c.alts.length qa pd c.after.length qd w
  have cT := fun w => timeMay_any c pa c.alts.length qa pd c.after.length qd w
  rw [hI] at cI ⊢
  rw [hP] at cP ⊢
  obtain ⟨T, hT⟩ : ∃ T, T = timeB c := ⟨_, rfl⟩
  rw [← hT] at cT ⊢
  clear hI hP hT
  obtain ⟨K, a2, a3, a4, a5, a6, a7, a8, a9, a10, a11, a12, a13, a14, a15, a16, a17, a18⟩ := c
  unfold cmdV at cP cT ⊢
  dsimp only at *
  subst hO hQ
  have t1 : (K == 1) = false := by rw [hk]; rfl
  have t2 : (K == 2) = false := by rw [hk]; rfl
  have t3 : (K == 3) = false := by rw [hk]; rfl
  have t4 : (K == 4) = false := by rw [hk]; rfl
  have t11 : (K == 11) = false := by rw [hk]; rfl
  have t5 : (K == 5) = true := by simpa using hk
  have CI := Lib.hid cI
  have CP := Lib.hid cP
  have CT := Lib.hid cT
  clear cI cP cT
  clear r1 n1 r2 n2 l1 l2 m1 m2 hk
  go_enter Tryz.func29, Tryz.ntmps29
  go_upto_region 1 with fail
  obtain ⟨W1, hW⟩ : ∃ W1, W1 = w.alloc (.cells #[.int .i64 K, .int .i64 a2, .string a3, .string a4, .string a5, .int .i64 a6, .slice pa a7.length qa, .int .i64 a8, .int .i64 a9, .int .i64 a10, .int .i64 a11, .bool false, .int .i64 a13, .bool true, .slice pd a15.length qd, .int .i64 a16, .int .i64 a17, .int .i64 a18] 27) := ⟨_, rfl⟩
  have hB1 : Below w.heap.size w W1 := by rw [hW]; exact below_one _
  have hbx : ∀ w2, Below W1.heap.size W1 w2 → w2.heap[w.heap.size]? = some (.cells #[.int .i64 K, .int .i64 a2, .string a3, .string a4, .string a5, .int .i64 a6, .slice pa a7.length qa, .int .i64 a8, .int .i64 a9, .int .i64 a10, .int .i64 a11, .bool false, .int .i64 a13, .bool true, .slice pd a15.length qd, .int .i64 a16, .int .i64 a17, .int .i64 a18] 27) := fun w2 hb => by rw [hW] at hb; exact box_cmd hb
  have k0 := hbx W1 (Below.refl _ _)
  obtain ⟨x0, x1, x2, x3, x4, x5, x6, x7, x8, x9, x10, x11, x12, x13, x14, x15, x16, x17⟩ := all18 k0
  clear x2 x3 x4 x5 x6 x7 x8 x9 x10 x12 x14 x15 x16 x17
  rw [← hW]
  have HBX := Lib.hid hbx
  have HB1 := Lib.hid hB1
  have K0 := Lib.hid k0
  clear hW hbx hB1 k0
  go_upto_region 10 with fail
  refine wp_region_list ?_
  go_wp2_with (first
    | (go_at_call 51; (with_reducible refine (CI.out _).mono ?_); rintro e w1 ⟨rfl, rfl⟩)
    | (go_at_call 52; (with_reducible refine (CP.out _).mono ?_); rintro e w1 ⟨rfl, p1⟩; have K1 := Lib.hid (HBX.out w1 (by (focus repeat (first | exact Below.refl _ _ | assumption | (exact Hid.out (by assumption)) | (with_reducible refine Below.drew ?_) | (with_reducible refine Base.below_drewN ?_ _) | (refine Below.from (below_one _) ?_) | (refine Below.from (below_conv _ _ _) ?_) | (refine Below.setCell ?_ (by simp <;> omega) _) | (refine Below.from (by assumption) ?_))))))
    | (go_at_call 53; (with_reducible refine (CT.out _).mono ?_); rintro e w1 ⟨rfl, p1⟩)
    | (refine ld_cmdG ?_ (.tmp 1) rfl w.heap.size _ _ rfl K1.out rfl ?_; focus (simp [Region.wanted, yielded]; done))
    | (refine ld_cmdG ?_ (.tmp 1) rfl w.heap.size _ _ rfl K0.out rfl ?_; focus (simp [Region.wanted, yielded]; done))
    | fail)
  all_goals
    go_ret
    refine ⟨ret_bool ?_, by first | exact HB1.out | (focus repeat (first | exact Below.refl _ _ | assumption | (exact Hid.out (by assumption)) | (with_reducible refine Below.drew ?_) | (with_reducible refine Base.below_drewN ?_ _) | (refine Below.from (below_one _) ?_) | (refine Below.from (below_conv _ _ _) ?_) | (refine Below.setCell ?_ (by simp <;> omega) _) | (refine Below.from (by assumption) ?_)))⟩
    first | rfl | (simp [*]; done) | (simp_all; done)
set_option maxRecDepth 100000 in
set_option maxHeartbeats 1000000 in
theorem parts5_true_false_true_false (c : Co) (va vd : Value) (w : World) (h1 : Row w va c.alts) (h2 : Row w vd c.after) (hk : c.kind = 5) (hI : idB c.job = true) (hO : c.hasPrio = false) (hQ : c.hasTime = true) (hP : prioB c = false) :
    Calls Tryz.prog 29 #[cmdV c va vd] w fun e w' => e = .returned (.bool (idB c.job && (c.hasPrio || c.hasTime) && prioB c && timeB c)) ∧ Below w.heap.size w w' := by
  obtain ⟨pa, qa, rfl, l1, m1, r1, n1⟩ := h1
  obtain ⟨pd, qd, rfl, l2, m2, r2, n2⟩ := h2
  have cI := fun w => isId_any c.job w
  have cP := fun w => prioMay_any c pa c.alts.length qa pd c.after.length qd w
  have cT := fun w => timeMay_any c pa c.alts.length qa pd c.after.length qd w
  rw [hI] at cI ⊢
  rw [hP] at cP ⊢
  obtain ⟨T, hT⟩ : ∃ T, T = timeB c := ⟨_, rfl⟩
  rw [← hT] at cT ⊢
  clear hI hP hT
  obtain ⟨K, a2, a3, a4, a5, a6, a7, a8, a9, a10, a11, a12, a13, a14, a15, a16, a17, a18⟩ := c
  unfold cmdV at cP cT ⊢
  dsimp only at *
  subst hO hQ
  have t1 : (K == 1) = false := by rw [hk]; rfl
  have t2 : (K == 2) = false := by rw [hk]; rfl
  have t3 : (K == 3) = false := by rw [hk]; rfl
  have t4 : (K == 4) = false := by rw [hk]; rfl
  have t11 : (K == 11) = false := by rw [hk]; rfl
  have t5 : (K == 5) = true := by simpa using hk
  have CI := Lib.hid cI
  have CP := Lib.hid cP
  have CT := Lib.hid cT
  clear cI cP cT
  clear r1 n1 r2 n2 l1 l2 m1 m2 hk
  go_enter Tryz.func29, Tryz.ntmps29
  go_upto_region 1 with fail
  obtain ⟨W1, hW⟩ : ∃ W1, W1 = w.alloc (.cells #[.int .i64 K, .int .i64 a2, .string a3, .string a4, .string a5, .int .i64 a6, .slice pa a7.length qa, .int .i64 a8, .int .i64 a9, .int .i64 a10, .int .i64 a11, .bool false, .int .i64 a13, .bool true, .slice pd a15.length qd, .int .i64 a16, .int .i64 a17, .int .i64 a18] 27) := ⟨_, rfl⟩
  have hB1 : Below w.heap.size w W1 := by rw [hW]; exact below_one _
  have hbx : ∀ w2, Below W1.heap.size W1 w2 → w2.heap[w.heap.size]? = some (.cells #[.int .i64 K, .int .i64 a2, .string a3, .string a4, .string a5, .int .i64 a6, .slice pa a7.length qa, .int .i64 a8, .int .i64 a9, .int .i64 a10, .int .i64 a11, .bool false, .int .i64 a13, .bool true, .slice pd a15.length qd, .int .i64 a16, .int .i64 a17, .int .i64 a18] 27) := fun w2 hb => by rw [hW] at hb; exact box_cmd hb
  have k0 := hbx W1 (Below.refl _ _)
  obtain ⟨x0, x1, x2, x3, x4, x5, x6, x7, x8, x9, x10, x11, x12, x13, x14, x15, x16, x17⟩ := all18 k0
  clear x2 x3 x4 x5 x6 x7 x8 x9 x10 x12 x14 x15 x16 x17
  rw [← hW]
  have HBX := Lib.hid hbx
  have HB1 := Lib.hid hB1
  have K0 := Lib.hid k0
  clear hW hbx hB1 k0
  go_upto_region 10 with fail
  refine wp_region_list ?_
  go_wp2_with (first
    | (go_at_call 51; (with_reducible refine (CI.out _).mono ?_); rintro e w1 ⟨rfl, rfl⟩)
    | (go_at_call 52; (with_reducible refine (CP.out _).mono ?_); rintro e w1 ⟨rfl, p1⟩; have K1 := Lib.hid (HBX.out w1 (by (focus repeat (first | exact Below.refl _ _ | assumption | (exact Hid.out (by assumption)) | (with_reducible refine Below.drew ?_) | (with_reducible refine Base.below_drewN ?_ _) | (refine Below.from (below_one _) ?_) | (refine Below.from (below_conv _ _ _) ?_) | (refine Below.setCell ?_ (by simp <;> omega) _) | (refine Below.from (by assumption) ?_))))))
    | (go_at_call 53; (with_reducible refine (CT.out _).mono ?_); rintro e w1 ⟨rfl, p1⟩)
    | (refine ld_cmdG ?_ (.tmp 1) rfl w.heap.size _ _ rfl K1.out rfl ?_; focus (simp [Region.wanted, yielded]; done))
    | (refine ld_cmdG ?_ (.tmp 1) rfl w.heap.size _ _ rfl K0.out rfl ?_; focus (simp [Region.wanted, yielded]; done))
    | fail)
  all_goals
    go_ret
    refine ⟨ret_bool ?_, by first | exact HB1.out | (focus repeat (first | exact Below.refl _ _ | assumption | (exact Hid.out (by assumption)) | (with_reducible refine Below.drew ?_) | (with_reducible refine Base.below_drewN ?_ _) | (refine Below.from (below_one _) ?_) | (refine Below.from (below_conv _ _ _) ?_) | (refine Below.setCell ?_ (by simp <;> omega) _) | (refine Below.from (by assumption) ?_)))⟩
    first | rfl | (simp [*]; done) | (simp_all; done)
theorem parts5 (c : Co) (va vd : Value) (w : World) (hT : Tb w) (h1 : Row w va c.alts) (h2 : Row w vd c.after) (hn : c.name.size ≤ 1000000) (hu : c.user.size ≤ 1000000) (ha : c.account.size ≤ 1000000) (hk : c.kind = 5) :
    Calls Tryz.prog 29 #[cmdV c va vd] w fun e w' => e = .returned (.bool (partsB c)) ∧ Below w.heap.size w w' := by
  have hv : partsB c = (idB c.job && (c.hasPrio || c.hasTime) && prioB c && timeB c) := by
    unfold partsB
    rw [if_neg (by omega), if_neg (by omega), if_pos hk]
  rw [hv]
  rcases Bool.eq_false_or_eq_true (idB c.job) with hI | hI
  · rcases Bool.eq_false_or_eq_true c.hasPrio with hO | hO <;> rcases Bool.eq_false_or_eq_true c.hasTime with hQ | hQ <;> rcases Bool.eq_false_or_eq_true (prioB c) with hP | hP
    · exact parts5_true_true_true_true c va vd w h1 h2 hk hI hO hQ hP
    · exact parts5_true_true_true_false c va vd w h1 h2 hk hI hO hQ hP
    · exact parts5_true_true_false_true c va vd w h1 h2 hk hI hO hQ hP
    · exact parts5_true_true_false_false c va vd w h1 h2 hk hI hO hQ hP
    · exact parts5_true_false_true_true c va vd w h1 h2 hk hI hO hQ hP
    · exact parts5_true_false_true_false c va vd w h1 h2 hk hI hO hQ hP
    · exact parts5_true_false_false_p c va vd w h1 h2 hk hI hO hQ
    · exact parts5_true_false_false_p c va vd w h1 h2 hk hI hO hQ
  · exact parts5_false_o_q_p c va vd w h1 h2 hk hI
end Go.Proofs.YtdkngidangfkiaaGreatDoor.Cmd
