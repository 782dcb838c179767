/-
  Joined out of: The walks of the document's own answer for layer 8: may a command be (written by gen_refc.py).
-/
import Derived.Test.YtdkngidangfkiaaGreatDoorJb40
import Derived.Test.YtdkngidangfkiaaGreatDoorJb20
namespace Go.Proofs.YtdkngidangfkiaaGreatDoor.Cmd
open Go.RowKit
open Base Runes Lex
open Shape (frB frB_iff sameL sameB chkB goodB altOk sizeB wallB altC_length altC)
set_option linter.unusedVariables false
set_option linter.unusedSimpArgs false
def refB5 (c : Co) : Bool := ((noneB c false true false false true true true) && (frB c.job 1 99999) && (c.hasPrio || c.hasTime)) && ((c.hasPrio && frB c.prio 0 100 || !c.hasPrio && (c.prio == 0)) && (c.hasTime && frB c.time 1 100000 || !c.hasTime && (c.time == 0)))
set_option maxRecDepth 100000 in
set_option maxHeartbeats 8000000 in
theorem rchk5 (a2 : Int) (a3 a4 a5 : ByteArray) (a6 : Int) (a7 : List (Int × Int)) (a8 a9 a10 a11 : Int) (a12 : Bool) (a13 : Int) (a14 : Bool) (a15 : List (Int × Int)) (a16 a17 a18 : Int) (va vd : Value) (w : World) (h1 : Row w va a7) (h2 : Row w vd a15) (hn : a3.size ≤ 1000000) (hu : a4.size ≤ 1000000) (ha : a5.size ≤ 1000000) :
    Calls Tryz.prog 12 #[cmdV ⟨5, a2, a3, a4, a5, a6, a7, a8, a9, a10, a11, a12, a13, a14, a15, a16, a17, a18⟩ va vd] w fun e w' => e = .returned (.int .i64 (if refB5 ⟨5, a2, a3, a4, a5, a6, a7, a8, a9, a10, a11, a12, a13, a14, a15, a16, a17, a18⟩ = true then 0 else 80)) ∧ Below w.heap.size w w' := by
  have cN := fun w2 (hb : Below w.heap.size w w2) => rnoneAlter ⟨5, a2, a3, a4, a5, a6, a7, a8, a9, a10, a11, a12, a13, a14, a15, a16, a17, a18⟩ va vd w2 (h1.below hb) (h2.below hb)
  obtain ⟨pa, qa, rfl, l1, m1, r1, n1_⟩ := h1
  obtain ⟨pd, qd, rfl, l2, m2, r2, n2_⟩ := h2
  have c_j := fun w => rin_any a2 1 99999 w
  have c_pr := fun w => rin_any a11 0 100 w
  have c_tm := fun w => rin_any a13 1 100000 w
  obtain ⟨E, hE⟩ : ∃ E : Int, E = if refB5 ⟨5, a2, a3, a4, a5, a6, a7, a8, a9, a10, a11, a12, a13, a14, a15, a16, a17, a18⟩ = true then 0 else 80 := ⟨_, rfl⟩
  rw [← hE]
  unfold refB5 at hE
  unfold cmdV at cN ⊢
  dsimp only at *
  obtain ⟨N, hN⟩ : ∃ N, N = noneB ⟨5, a2, a3, a4, a5, a6, a7, a8, a9, a10, a11, a12, a13, a14, a15, a16, a17, a18⟩ false true false false true true true := ⟨_, rfl⟩
  rw [← hN] at hE cN
  obtain ⟨j, h_j⟩ : ∃ x, x = frB a2 1 99999 := ⟨_, rfl⟩
  rw [← h_j] at hE c_j
  obtain ⟨pr, h_pr⟩ : ∃ x, x = frB a11 0 100 := ⟨_, rfl⟩
  rw [← h_pr] at hE c_pr
  obtain ⟨tm, h_tm⟩ : ∃ x, x = frB a13 1 100000 := ⟨_, rfl⟩
  rw [← h_tm] at hE c_tm
  have hno : ((N && j && (a12 || a14)) && ((a12 && pr || !a12 && (a11 == 0)) && (a14 && tm || !a14 && (a13 == 0)))) = false → 80 = E := fun h => by rw [hE, h]; rfl
  have hyes : ((N && j && (a12 || a14)) && ((a12 && pr || !a12 && (a11 == 0)) && (a14 && tm || !a14 && (a13 == 0)))) = true → 0 = E := fun h => by rw [hE, h]; rfl
  have hbx : ∀ w2, Below (w.alloc (.cells #[.int .i64 5, .int .i64 a2, .string a3, .string a4, .string a5, .int .i64 a6, .slice pa a7.length qa, .int .i64 a8, .int .i64 a9, .int .i64 a10, .int .i64 a11, .bool a12, .int .i64 a13, .bool a14, .slice pd a15.length qd, .int .i64 a16, .int .i64 a17, .int .i64 a18] 27)).heap.size (w.alloc (.cells #[.int .i64 5, .int .i64 a2, .string a3, .string a4, .string a5, .int .i64 a6, .slice pa a7.length qa, .int .i64 a8, .int .i64 a9, .int .i64 a10, .int .i64 a11, .bool a12, .int .i64 a13, .bool a14, .slice pd a15.length qd, .int .i64 a16, .int .i64 a17, .int .i64 a18] 27)) w2 → w2.heap[w.heap.size]? = some (.cells #[.int .i64 5, .int .i64 a2, .string a3, .string a4, .string a5, .int .i64 a6, .slice pa a7.length qa, .int .i64 a8, .int .i64 a9, .int .i64 a10, .int .i64 a11, .bool a12, .int .i64 a13, .bool a14, .slice pd a15.length qd, .int .i64 a16, .int .i64 a17, .int .i64 a18] 27) := fun w2 hb => box_cmd hb
  have HC := Lib.hid hbx
  have HB0 := Lib.hid (below_one (w := w) (.cells #[.int .i64 5, .int .i64 a2, .string a3, .string a4, .string a5, .int .i64 a6, .slice pa a7.length qa, .int .i64 a8, .int .i64 a9, .int .i64 a10, .int .i64 a11, .bool a12, .int .i64 a13, .bool a14, .slice pd a15.length qd, .int .i64 a16, .int .i64 a17, .int .i64 a18] 27))
  have PL := Lib.hid (Below.refl (w.alloc (.cells #[.int .i64 5, .int .i64 a2, .string a3, .string a4, .string a5, .int .i64 a6, .slice pa a7.length qa, .int .i64 a8, .int .i64 a9, .int .i64 a10, .int .i64 a11, .bool a12, .int .i64 a13, .bool a14, .slice pd a15.length qd, .int .i64 a16, .int .i64 a17, .int .i64 a18] 27)).heap.size (w.alloc (.cells #[.int .i64 5, .int .i64 a2, .string a3, .string a4, .string a5, .int .i64 a6, .slice pa a7.length qa, .int .i64 a8, .int .i64 a9, .int .i64 a10, .int .i64 a11, .bool a12, .int .i64 a13, .bool a14, .slice pd a15.length qd, .int .i64 a16, .int .i64 a17, .int .i64 a18] 27)))
  have HNO := Lib.hid hno
  have HYES := Lib.hid hyes
  have CN := Lib.hid cN
  have C_j := Lib.hid c_j
  have C_pr := Lib.hid c_pr
  have C_tm := Lib.hid c_tm
  clear hno hyes hbx cN hE hN r1 r2 n1_ n2_ l1 m1 l2 m2 hn hu ha c_j c_pr c_tm h_j h_pr h_tm
  go_enter Tryz.func12, Tryz.ntmps12
  go_wp2_with (first
    | (refine ld_cmd rfl (.tmp 1) rfl w.heap.size _ _ rfl (heap_alloc_new w _) rfl ?_)
    | (go_at_call 31; (with_reducible refine (CN.out _ HB0.out).mono ?_); rintro e w1 ⟨rfl, p⟩; have PN := Lib.hid (PL.out.trans (p.mono PL.out.size)); clear PL; have PL := PN; clear PN p; (try clear x0 x1 x2 x3 x4 x5 x6 x7 x8 x9 x10 x11 x12 x13 x14 x15 x16 x17); obtain ⟨x0, x1, x2, x3, x4, x5, x6, x7, x8, x9, x10, x11, x12, x13, x14, x15, x16, x17⟩ := all18 (HC.out _ PL.out))
    | (go_at_call 35; (with_reducible refine (C_j.out _).mono ?_); rintro e w1 ⟨rfl, rfl⟩)
    | (go_at_call 35; (with_reducible refine (C_pr.out _).mono ?_); rintro e w1 ⟨rfl, rfl⟩)
    | (go_at_call 35; (with_reducible refine (C_tm.out _).mono ?_); rintro e w1 ⟨rfl, rfl⟩)
    | fail)
  all_goals first
    | (go_ret; refine ⟨ret_i64 (HNO.out (by first | (simp [*]; done) | (simp only [Bool.not_eq_true', Bool.not_eq_false', beq_iff_eq, beq_eq_false_iff_ne, ne_eq] at *; simp [*]; done))), HB0.out.trans (PL.out.mono HB0.out.size)⟩; done)
    | (go_ret; refine ⟨ret_i64 (HYES.out (by first | (simp [*]; done) | (simp only [Bool.not_eq_true', Bool.not_eq_false', beq_iff_eq, beq_eq_false_iff_ne, ne_eq] at *; simp [*]; done))), HB0.out.trans (PL.out.mono HB0.out.size)⟩; done)
    | trace_state
def refB12 (c : Co) : Bool := ((noneB c false true true true true true true) && (frB c.job 0 99999)) && ((c.hasPrio && frB c.prio 0 100 || !c.hasPrio && (c.prio == 0)) && (c.hasTime && frB c.time 1 100000 || !c.hasTime && (c.time == 0)))
set_option maxRecDepth 100000 in
set_option maxHeartbeats 8000000 in
theorem rchk12 (a2 : Int) (a3 a4 a5 : ByteArray) (a6 : Int) (a7 : List (Int × Int)) (a8 a9 a10 a11 : Int) (a12 : Bool) (a13 : Int) (a14 : Bool) (a15 : List (Int × Int)) (a16 a17 a18 : Int) (va vd : Value) (w : World) (h1 : Row w va a7) (h2 : Row w vd a15) (hn : a3.size ≤ 1000000) (hu : a4.size ≤ 1000000) (ha : a5.size ≤ 1000000) :
    Calls Tryz.prog 12 #[cmdV ⟨12, a2, a3, a4, a5, a6, a7, a8, a9, a10, a11, a12, a13, a14, a15, a16, a17, a18⟩ va vd] w fun e w' => e = .returned (.int .i64 (if refB12 ⟨12, a2, a3, a4, a5, a6, a7, a8, a9, a10, a11, a12, a13, a14, a15, a16, a17, a18⟩ = true then 0 else 80)) ∧ Below w.heap.size w w' := by
  have cN := fun w2 (hb : Below w.heap.size w w2) => rnoneJob ⟨12, a2, a3, a4, a5, a6, a7, a8, a9, a10, a11, a12, a13, a14, a15, a16, a17, a18⟩ va vd w2 (h1.below hb) (h2.below hb)
  obtain ⟨pa, qa, rfl, l1, m1, r1, n1_⟩ := h1
  obtain ⟨pd, qd, rfl, l2, m2, r2, n2_⟩ := h2
  have c_j := fun w => rin_any a2 0 99999 w
  have c_pr := fun w => rin_any a11 0 100 w
  have c_tm := fun w => rin_any a13 1 100000 w
  obtain ⟨E, hE⟩ : ∃ E : Int, E = if refB12 ⟨12, a2, a3, a4, a5, a6, a7, a8, a9, a10, a11, a12, a13, a14, a15, a16, a17, a18⟩ = true then 0 else 80 := ⟨_, rfl⟩
  rw [← hE]
  unfold refB12 at hE
  unfold cmdV at cN ⊢
  dsimp only at *
  obtain ⟨N, hN⟩ : ∃ N, N = noneB ⟨12, a2, a3, a4, a5, a6, a7, a8, a9, a10, a11, a12, a13, a14, a15, a16, a17, a18⟩ false true true true true true true := ⟨_, rfl⟩
  rw [← hN] at hE cN
  obtain ⟨j, h_j⟩ : ∃ x, x = frB a2 0 99999 := ⟨_, rfl⟩
  rw [← h_j] at hE c_j
  obtain ⟨pr, h_pr⟩ : ∃ x, x = frB a11 0 100 := ⟨_, rfl⟩
  rw [← h_pr] at hE c_pr
  obtain ⟨tm, h_tm⟩ : ∃ x, x = frB a13 1 100000 := ⟨_, rfl⟩
  rw [← h_tm] at hE c_tm
  have hno : ((N && j) && ((a12 && pr || !a12 && (a11 == 0)) && (a14 && tm || !a14 && (a13 == 0)))) = false → 80 = E := fun h => by rw [hE, h]; rfl
  have hyes : ((N && j) && ((a12 && pr || !a12 && (a11 == 0)) && (a14 && tm || !a14 && (a13 == 0)))) = true → 0 = E := fun h => by rw [hE, h]; rfl
  have hbx : ∀ w2, Below (w.alloc (.cells #[.int .i64 12, .int .i64 a2, .string a3, .string a4, .string a5, .int .i64 a6, .slice pa a7.length qa, .int .i64 a8, .int .i64 a9, .int .i64 a10, .int .i64 a11, .bool a12, .int .i64 a13, .bool a14, .slice pd a15.length qd, .int .i64 a16, .int .i64 a17, .int .i64 a18] 27)).heap.size (w.alloc (.cells #[.int .i64 12, .int .i64 a2, .string a3, .string a4, .string a5, .int .i64 a6, .slice pa a7.length qa, .int .i64 a8, .int .i64 a9, .int .i64 a10, .int .i64 a11, .bool a12, .int .i64 a13, .bool a14, .slice pd a15.length qd, .int .i64 a16, .int .i64 a17, .int .i64 a18] 27)) w2 → w2.heap[w.heap.size]? = some (.cells #[.int .i64 12, .int .i64 a2, .string a3, .string a4, .string a5, .int .i64 a6, .slice pa a7.length qa, .int .i64 a8, .int .i64 a9, .int .i64 a10, .int .i64 a11, .bool a12, .int .i64 a13, .bool a14, .slice pd a15.length qd, .int .i64 a16, .int .i64 a17, .int .i64 a18] 27) := fun w2 hb => box_cmd hb
  have HC := Lib.hid hbx
  have HB0 := Lib.hid (below_one (w := w) (.cells #[.int .i64 12, .int .i64 a2, .string a3, .string a4, .string a5, .int .i64 a6, .slice pa a7.length qa, .int .i64 a8, .int .i64 a9, .int .i64 a10, .int .i64 a11, .bool a12, .int .i64 a13, .bool a14, .slice pd a15.length qd, .int .i64 a16, .int .i64 a17, .int .i64 a18] 27))
  have PL := Lib.hid (Below.refl (w.alloc (.cells #[.int .i64 12, .int .i64 a2, .string a3, .string a4, .string a5, .int .i64 a6, .slice pa a7.length qa, .int .i64 a8, .int .i64 a9, .int .i64 a10, .int .i64 a11, .bool a12, .int .i64 a13, .bool a14, .slice pd a15.length qd, .int .i64 a16, .int .i64 a17, .int .i64 a18] 27)).heap.size (w.alloc (.cells #[.int .i64 12, .int .i64 a2, .string a3, .string a4, .string a5, .int .i64 a6, .slice pa a7.length qa, .int .i64 a8, .int .i64 a9, .int .i64 a10, .int .i64 a11, .bool a12, .int .i64 a13, .bool a14, .slice pd a15.length qd, .int .i64 a16, .int .i64 a17, .int .i64 a18] 27)))
  have HNO := Lib.hid hno
  have HYES := Lib.hid hyes
  have CN := Lib.hid cN
  have C_j := Lib.hid c_j
  have C_pr := Lib.hid c_pr
  have C_tm := Lib.hid c_tm
  clear hno hyes hbx cN hE hN r1 r2 n1_ n2_ l1 m1 l2 m2 hn hu ha c_j c_pr c_tm h_j h_pr h_tm
  go_enter Tryz.func12, Tryz.ntmps12
  go_wp2_with (first
    | (refine ld_cmd rfl (.tmp 1) rfl w.heap.size _ _ rfl (heap_alloc_new w _) rfl ?_)
    | (go_at_call 31; (with_reducible refine (CN.out _ HB0.out).mono ?_); rintro e w1 ⟨rfl, p⟩; have PN := Lib.hid (PL.out.trans (p.mono PL.out.size)); clear PL; have PL := PN; clear PN p; (try clear x0 x1 x2 x3 x4 x5 x6 x7 x8 x9 x10 x11 x12 x13 x14 x15 x16 x17); obtain ⟨x0, x1, x2, x3, x4, x5, x6, x7, x8, x9, x10, x11, x12, x13, x14, x15, x16, x17⟩ := all18 (HC.out _ PL.out))
    | (go_at_call 35; (with_reducible refine (C_j.out _).mono ?_); rintro e w1 ⟨rfl, rfl⟩)
    | (go_at_call 35; (with_reducible refine (C_pr.out _).mono ?_); rintro e w1 ⟨rfl, rfl⟩)
    | (go_at_call 35; (with_reducible refine (C_tm.out _).mono ?_); rintro e w1 ⟨rfl, rfl⟩)
    | fail)
  all_goals first
    | (go_ret; refine ⟨ret_i64 (HNO.out (by first | (simp [*]; done) | (simp only [Bool.not_eq_true', Bool.not_eq_false', beq_iff_eq, beq_eq_false_iff_ne, ne_eq] at *; simp [*]; done))), HB0.out.trans (PL.out.mono HB0.out.size)⟩; done)
    | (go_ret; refine ⟨ret_i64 (HYES.out (by first | (simp [*]; done) | (simp only [Bool.not_eq_true', Bool.not_eq_false', beq_iff_eq, beq_eq_false_iff_ne, ne_eq] at *; simp [*]; done))), HB0.out.trans (PL.out.mono HB0.out.size)⟩; done)
    | trace_state
end Go.Proofs.YtdkngidangfkiaaGreatDoor.Cmd
