/-
  Joined out of: The walk of what asks whether a command's parts may be: what is altered, what is reserved; all kinds together.
-/
import Derived.Test.YtdkngidangfkiaaGreatDoorJa33
import Derived.Deep.Cut
namespace Go.Proofs.YtdkngidangfkiaaGreatDoor.Cmd
open Go.RowKit
open Base
open Shape (altC altC_length frB chkB chkE sizeB)
set_option linter.unusedVariables false
set_option linter.unusedSimpArgs false
set_option maxRecDepth 100000 in
set_option maxHeartbeats 1000000 in
theorem parts10 (c : Co) (va vd : Value) (w : World) (hT : Tb w) (h1 : Row w va c.alts) (h2 : Row w vd c.after) (hn : c.name.size ≤ 1000000) (hu : c.user.size ≤ 1000000) (ha : c.account.size ≤ 1000000) (hk : c.kind = 10) :
    Calls Tryz.prog 29 #[cmdV c va vd] w fun e w' => e = .returned (.bool (partsB c)) ∧ Below w.heap.size w w' := by
  obtain ⟨pa, qa, rfl, l1, m1, r1, n1⟩ := h1
  obtain ⟨pd, qd, rfl, l2, m2, r2, n2⟩ := h2
  have cT := fun w => timeMay_any c pa c.alts.length qa pd c.after.length qd w
  obtain ⟨K, a2, a3, a4, a5, a6, a7, a8, a9, a10, a11, a12, a13, a14, a15, a16, a17, a18⟩ := c
  unfold partsB
  unfold cmdV at cT ⊢
  dsimp only at *
  obtain ⟨T, hT⟩ : ∃ T, T = timeB ⟨K, a2, a3, a4, a5, a6, a7, a8, a9, a10, a11, a12, a13, a14, a15, a16, a17, a18⟩ := ⟨_, rfl⟩
  rw [← hT] at cT ⊢
  have t1 : (K == 1) = false := by rw [hk]; rfl
  have t2 : (K == 2) = false := by rw [hk]; rfl
  have t3 : (K == 3) = false := by rw [hk]; rfl
  have t4 : (K == 4) = false := by rw [hk]; rfl
  have t11 : (K == 11) = false := by rw [hk]; rfl
  have t5 : (K == 5) = false := by rw [hk]; rfl
  have t6 : (K == 6) = false := by rw [hk]; rfl
  have t7 : (K == 7) = false := by rw [hk]; rfl
  have t8 : (K == 8) = false := by rw [hk]; rfl
  have t9 : (K == 9) = false := by rw [hk]; rfl
  have t10 : (K == 10) = true := by simpa using hk
  have t12 : (K == 12) = false := by rw [hk]; rfl
  rw [if_neg (by omega), if_neg (by omega), if_neg (by omega), if_neg (by omega), if_neg (by omega), if_pos hk]
  have hbx : ∀ w2, Below (w.alloc (.cells #[.int .i64 K, .int .i64 a2, .string a3, .string a4, .string a5, .int .i64 a6, .slice pa a7.length qa, .int .i64 a8, .int .i64 a9, .int .i64 a10, .int .i64 a11, .bool a12, .int .i64 a13, .bool a14, .slice pd a15.length qd, .int .i64 a16, .int .i64 a17, .int .i64 a18] 27)).heap.size (w.alloc (.cells #[.int .i64 K, .int .i64 a2, .string a3, .string a4, .string a5, .int .i64 a6, .slice pa a7.length qa, .int .i64 a8, .int .i64 a9, .int .i64 a10, .int .i64 a11, .bool a12, .int .i64 a13, .bool a14, .slice pd a15.length qd, .int .i64 a16, .int .i64 a17, .int .i64 a18] 27)) w2 → w2.heap[w.heap.size]? = some (.cells #[.int .i64 K, .int .i64 a2, .string a3, .string a4, .string a5, .int .i64 a6, .slice pa a7.length qa, .int .i64 a8, .int .i64 a9, .int .i64 a10, .int .i64 a11, .bool a12, .int .i64 a13, .bool a14, .slice pd a15.length qd, .int .i64 a16, .int .i64 a17, .int .i64 a18] 27) := fun w2 hb => box_cmd hb
  have HBX := Lib.hid hbx
  clear hbx
  have CT := Lib.hid cT
  clear cT hT
  clear r1 n1 r2 n2 hT hn hu ha l1 l2 m1 m2 hk
  cases a14
  all_goals
    go_enter Tryz.func29, Tryz.ntmps29
    go_wp2_with (first
      | (go_at_call 56; (with_reducible refine (isTick_any _ _).mono ?_); rintro e w1 ⟨rfl, rfl⟩)
      | (go_at_call 54; (with_reducible refine (isSize_any _ _).mono ?_); rintro e w1 ⟨rfl, rfl⟩)
      | (refine ld_cmdG ?_ (.tmp 1) rfl w.heap.size _ _ rfl (heap_alloc_new w _) rfl ?_; focus (first | rfl | (simp [Region.wanted, yielded, *]; done)))
      | (go_at_call 53; (with_reducible refine (CT.out _).mono ?_); rintro e w1 ⟨rfl, p1⟩; have k1 := HBX.out w1 (by (focus repeat (first | exact Below.refl _ _ | assumption | (exact Hid.out (by assumption)) | (with_reducible refine Below.drew ?_) | (with_reducible refine Base.below_drewN ?_ _) | (refine Below.from (below_one _) ?_) | (refine Below.from (below_conv _ _ _) ?_) | (refine Below.setCell ?_ (by simp <;> omega) _) | (refine Below.from (by assumption) ?_)))); (try clear x0 x1 x2 x3 x4 x5 x6 x7 x8 x9 x10 x11 x12 x13 x14 x15 x16 x17); obtain ⟨x0, x1, x2, x3, x4, x5, x6, x7, x8, x9, x10, x11, x12, x13, x14, x15, x16, x17⟩ := all18 k1; clear k1)
      | fail)
    all_goals
      go_ret
      refine ⟨ret_bool ?_, by (focus repeat (first | exact Below.refl _ _ | assumption | (exact Hid.out (by assumption)) | (with_reducible refine Below.drew ?_) | (with_reducible refine Base.below_drewN ?_ _) | (refine Below.from (below_one _) ?_) | (refine Below.from (below_conv _ _ _) ?_) | (refine Below.setCell ?_ (by simp <;> omega) _) | (refine Below.from (by assumption) ?_)))⟩
      first | rfl | (simp [*]; done) | (simp_all; done)
theorem partsMay_any (c : Co) (va vd : Value) (w : World) (hT : Tb w) (h1 : Row w va c.alts) (h2 : Row w vd c.after) (hn : c.name.size ≤ 1000000) (hu : c.user.size ≤ 1000000) (ha : c.account.size ≤ 1000000) :
    Calls Tryz.prog 29 #[cmdV c va vd] w fun e w' => e = .returned (.bool (partsB c)) ∧ Below w.heap.size w w' := by
  by_cases k1 : c.kind = 1
  · exact parts1 c va vd w hT h1 h2 hn hu ha k1
  by_cases k2 : c.kind = 2
  · exact parts2 c va vd w hT h1 h2 hn hu ha k2
  by_cases k3 : c.kind = 3
  · exact parts3 c va vd w hT h1 h2 hn hu ha k3
  by_cases k4 : c.kind = 4
  · exact parts4 c va vd w hT h1 h2 hn hu ha k4
  by_cases k11 : c.kind = 11
  · exact parts11 c va vd w hT h1 h2 hn hu ha k11
  by_cases k5 : c.kind = 5
  · exact parts5 c va vd w hT h1 h2 hn hu ha k5
  by_cases k6 : c.kind = 6
  · exact parts6 c va vd w hT h1 h2 hn hu ha k6
  by_cases k7 : c.kind = 7
  · exact parts7 c va vd w hT h1 h2 hn hu ha k7
  by_cases k8 : c.kind = 8
  · exact parts8 c va vd w hT h1 h2 hn hu ha k8
  by_cases k9 : c.kind = 9
  · exact parts9 c va vd w hT h1 h2 hn hu ha k9
  by_cases k10 : c.kind = 10
  · exact parts10 c va vd w hT h1 h2 hn hu ha k10
  by_cases k12 : c.kind = 12
  · exact parts12 c va vd w hT h1 h2 hn hu ha k12
  exact partsElse c va vd w hT h1 h2 hn hu ha ⟨k1, k2, k3, k4, k11, k5, k6, k7, k8, k9, k10, k12⟩
end Go.Proofs.YtdkngidangfkiaaGreatDoor.Cmd
