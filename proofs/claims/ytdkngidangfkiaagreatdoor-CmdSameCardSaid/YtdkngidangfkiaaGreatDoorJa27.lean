/-
  Joined out of: The walks of what asks whether a command's parts may be.
-/
import Derived.Test.YtdkngidangfkiaaGreatDoorJa26
import Derived.Test.YtdkngidangfkiaaGreatDoorJa24
import Derived.Test.YtdkngidangfkiaaGreatDoorJa09
namespace Go.Proofs.YtdkngidangfkiaaGreatDoor.Cmd
open Go.RowKit
open Base
open Shape (altC altC_length frB chkB chkE sizeB)
set_option linter.unusedVariables false
set_option linter.unusedSimpArgs false
theorem box_cmd {w w2 : World} {cs : Array Value} {T : TypeId} (hb : Below (w.alloc (.cells cs T)).heap.size (w.alloc (.cells cs T)) w2) : w2.heap[w.heap.size]? = some (.cells cs T) := by
  rw [hb.block _ (by simp)]; exact heap_alloc_new _ _
theorem cmd_cells {w : World} {B : Nat} {c : Co} {va vd : Value} {T : TypeId} (h : w.heap[B]? = some (.cells (cmdArr c va vd) T)) (i : Nat) (v : Value) (hv : (cmdArr c va vd)[i]? = some v) : w.cell? ⟨B, i, none⟩ = some v := by
  rw [← hv]; simp [World.cell?, h]
set_option maxRecDepth 100000 in
set_option maxHeartbeats 1000000 in
theorem prioMay_any (c : Co) (pa : Option Addr) (la qa : Nat) (pd : Option Addr) (ld qd : Nat) (w : World) :
    Calls Tryz.prog 52 #[cmdV c (.slice pa la qa) (.slice pd ld qd)] w fun e w' => e = .returned (.bool (prioB c)) ∧ Below w.heap.size w w' := by
  obtain ⟨a1, a2, a3, a4, a5, a6, a7, a8, a9, a10, a11, a12, a13, a14, a15, a16, a17, a18⟩ := c
  unfold cmdV prioB
  dsimp only
  have c1 := fun w => isPrio_any a11 w
  obtain ⟨P, hP⟩ : ∃ P, P = prB a11 := ⟨_, rfl⟩
  rw [← hP] at c1 ⊢
  have C1 := Lib.hid c1
  clear c1 hP
  cases a12 with
  | true =>
    cases P with
    | true =>
      go_enter Tryz.func52, Tryz.ntmps52
      go_wp2_with (first
        | (go_at_call 84; (with_reducible refine (C1.out _).mono ?_); rintro e w1 ⟨rfl, rfl⟩)
        | fail)
      go_ret
      exact ⟨rfl, by (focus repeat (first | exact Below.refl _ _ | assumption | (exact Hid.out (by assumption)) | (with_reducible refine Below.drew ?_) | (with_reducible refine Base.below_drewN ?_ _) | (refine Below.from (below_one _) ?_) | (refine Below.from (below_conv _ _ _) ?_) | (refine Below.setCell ?_ (by simp <;> omega) _) | (refine Below.from (by assumption) ?_)))⟩
    | false =>
      go_enter Tryz.func52, Tryz.ntmps52
      go_wp2_with (first
        | (go_at_call 84; (with_reducible refine (C1.out _).mono ?_); rintro e w1 ⟨rfl, rfl⟩)
        | fail)
      go_ret
      exact ⟨rfl, by (focus repeat (first | exact Below.refl _ _ | assumption | (exact Hid.out (by assumption)) | (with_reducible refine Below.drew ?_) | (with_reducible refine Base.below_drewN ?_ _) | (refine Below.from (below_one _) ?_) | (refine Below.from (below_conv _ _ _) ?_) | (refine Below.setCell ?_ (by simp <;> omega) _) | (refine Below.from (by assumption) ?_)))⟩
  | false =>
    go_enter Tryz.func52, Tryz.ntmps52
    go_wp2
    go_ret
    refine ⟨ret_bool ?_, by (focus repeat (first | exact Below.refl _ _ | assumption | (exact Hid.out (by assumption)) | (with_reducible refine Below.drew ?_) | (with_reducible refine Base.below_drewN ?_ _) | (refine Below.from (below_one _) ?_) | (refine Below.from (below_conv _ _ _) ?_) | (refine Below.setCell ?_ (by simp <;> omega) _) | (refine Below.from (by assumption) ?_)))⟩
    simp
set_option maxRecDepth 100000 in
set_option maxHeartbeats 1000000 in
theorem timeMay_any (c : Co) (pa : Option Addr) (la qa : Nat) (pd : Option Addr) (ld qd : Nat) (w : World) :
    Calls Tryz.prog 53 #[cmdV c (.slice pa la qa) (.slice pd ld qd)] w fun e w' => e = .returned (.bool (timeB c)) ∧ Below w.heap.size w w' := by
  obtain ⟨a1, a2, a3, a4, a5, a6, a7, a8, a9, a10, a11, a12, a13, a14, a15, a16, a17, a18⟩ := c
  unfold cmdV timeB
  dsimp only
  have c1 := fun w => isLength_any a13 w
  obtain ⟨P, hP⟩ : ∃ P, P = lenB a13 := ⟨_, rfl⟩
  rw [← hP] at c1 ⊢
  have C1 := Lib.hid c1
  clear c1 hP
  cases a14 with
  | true =>
    cases P with
    | true =>
      go_enter Tryz.func53, Tryz.ntmps53
      go_wp2_with (first
        | (go_at_call 85; (with_reducible refine (C1.out _).mono ?_); rintro e w1 ⟨rfl, rfl⟩)
        | fail)
      go_ret
      exact ⟨rfl, by (focus repeat (first | exact Below.refl _ _ | assumption | (exact Hid.out (by assumption)) | (with_reducible refine Below.drew ?_) | (with_reducible refine Base.below_drewN ?_ _) | (refine Below.from (below_one _) ?_) | (refine Below.from (below_conv _ _ _) ?_) | (refine Below.setCell ?_ (by simp <;> omega) _) | (refine Below.from (by assumption) ?_)))⟩
    | false =>
      go_enter Tryz.func53, Tryz.ntmps53
      go_wp2_with (first
        | (go_at_call 85; (with_reducible refine (C1.out _).mono ?_); rintro e w1 ⟨rfl, rfl⟩)
        | fail)
      go_ret
      exact ⟨rfl, by (focus repeat (first | exact Below.refl _ _ | assumption | (exact Hid.out (by assumption)) | (with_reducible refine Below.drew ?_) | (with_reducible refine Base.below_drewN ?_ _) | (refine Below.from (below_one _) ?_) | (refine Below.from (below_conv _ _ _) ?_) | (refine Below.setCell ?_ (by simp <;> omega) _) | (refine Below.from (by assumption) ?_)))⟩
  | false =>
    go_enter Tryz.func53, Tryz.ntmps53
    go_wp2
    go_ret
    refine ⟨ret_bool ?_, by (focus repeat (first | exact Below.refl _ _ | assumption | (exact Hid.out (by assumption)) | (with_reducible refine Below.drew ?_) | (with_reducible refine Base.below_drewN ?_ _) | (refine Below.from (below_one _) ?_) | (refine Below.from (below_conv _ _ _) ?_) | (refine Below.setCell ?_ (by simp <;> omega) _) | (refine Below.from (by assumption) ?_)))⟩
    simp
theorem all18 {W : World} {B : Nat} {v0 v1 v2 v3 v4 v5 v6 v7 v8 v9 v10 v11 v12 v13 v14 v15 v16 v17 : Value} {T : TypeId} (h : W.heap[B]? = some (.cells #[v0, v1, v2, v3, v4, v5, v6, v7, v8, v9, v10, v11, v12, v13, v14, v15, v16, v17] T)) :
    W.cell? ⟨B, 0, none⟩ = some v0 ∧ W.cell? ⟨B, 1, none⟩ = some v1 ∧ W.cell? ⟨B, 2, none⟩ = some v2 ∧ W.cell? ⟨B, 3, none⟩ = some v3 ∧ W.cell? ⟨B, 4, none⟩ = some v4 ∧ W.cell? ⟨B, 5, none⟩ = some v5 ∧ W.cell? ⟨B, 6, none⟩ = some v6 ∧ W.cell? ⟨B, 7, none⟩ = some v7 ∧ W.cell? ⟨B, 8, none⟩ = some v8 ∧ W.cell? ⟨B, 9, none⟩ = some v9 ∧ W.cell? ⟨B, 10, none⟩ = some v10 ∧ W.cell? ⟨B, 11, none⟩ = some v11 ∧ W.cell? ⟨B, 12, none⟩ = some v12 ∧ W.cell? ⟨B, 13, none⟩ = some v13 ∧ W.cell? ⟨B, 14, none⟩ = some v14 ∧ W.cell? ⟨B, 15, none⟩ = some v15 ∧ W.cell? ⟨B, 16, none⟩ = some v16 ∧ W.cell? ⟨B, 17, none⟩ = some v17 := by
  simp [World.cell?, h]
theorem ld_cmdG {ops : Array Oper} {rest : List Oper} {o : Oper} {a : Act} {w : World} {Q : Exit → Act → World → Prop} (hw : Region.wanted o (yielded ops a.tmps) = true) (x : Operand) (ho : o.op = .load 27 x)
    (g : Nat) (cs : Array Value) (T : TypeId) (hx : a.eval x = .pointer (some ⟨g, 0, none⟩)) (hg : w.heap[g]? = some (.cells cs T)) (hs : cs.size = 18)
    (h : wpList Tryz.prog ops Q rest (a.put o.dst (.agg cs)) w) : wpList Tryz.prog ops Q (o :: rest) a w := by
  unfold wpList
  rw [if_pos hw]
  exact .inl (wp_load_row 27 x ho g hx T cs (0, 0) _ hg Tryz.underlying27 rfl (by rw [hs]; exact info_cmd) h)
set_option maxRecDepth 100000 in
set_option maxHeartbeats 4000000 in
theorem submitMay_any (c : Co) (va vd : Value) (w : World) (hT : Tb w) (h1 : Row w va c.alts) (h2 : Row w vd c.after) (hn : c.name.size ≤ 1000000) (hu : c.user.size ≤ 1000000) (ha : c.account.size ≤ 1000000) :
    Calls Tryz.prog 50 #[cmdV c va vd] w fun e w' => e = .returned (.bool (submitB c)) ∧ Below w.heap.size w w' := by
  have c7 := fun (pa pd : Option Addr) (qa qd : Nat) w => prioMay_any c pa c.alts.length qa pd c.after.length qd w
  have c1 := fun w => isName_any c.name hn w
  have c2 := fun w => isName_any c.user hu w
  have c4 := fun w => isName_any c.account ha w
  have c3 := fun w hT => isWord_any c.user (by unfold maxLen; omega) w hT
  have c5 := fun w hT => isWord_any c.account (by unfold maxLen; omega) w hT
  have c6 := fun (pa : Option Addr) (qa : Nat) (l1 : c.alts.length ≤ qa) (m1 : qa ≤ maxLen) (r1 : ReadsS 2 altC w pa c.alts) w2 (hb : Below w.heap.size w w2) => Shape.check_any c.sk pa c.alts.length qa c.alts c.mn c.mx c.wl w2 rfl l1 m1 (r1.below altC_length hb)
  unfold submitB
  unfold chkE at c6
  obtain ⟨b1, e1⟩ : ∃ b, b = nameB c.name := ⟨_, rfl⟩
  obtain ⟨b2, e2⟩ : ∃ b, b = nameB c.user := ⟨_, rfl⟩
  obtain ⟨b3, e3⟩ : ∃ b, b = wordB c.user := ⟨_, rfl⟩
  obtain ⟨b4, e4⟩ : ∃ b, b = nameB c.account := ⟨_, rfl⟩
  obtain ⟨b5, e5⟩ : ∃ b, b = wordB c.account := ⟨_, rfl⟩
  obtain ⟨b6, e6⟩ : ∃ b, b = chkB c.sk c.alts c.mn c.mx c.wl := ⟨_, rfl⟩
  obtain ⟨b7, e7⟩ : ∃ b, b = prioB c := ⟨_, rfl⟩
  simp only [← e1, ← e2, ← e3, ← e4, ← e5, ← e6, ← e7] at *
  clear e1 e2 e3 e4 e5 e6 e7
  obtain ⟨a1, a2, a3, a4, a5, a6, a7, a8, a9, a10, a11, a12, a13, a14, a15, a16, a17, a18⟩ := c
  obtain ⟨pa, qa, rfl, l1, m1, r1, n1⟩ := h1
  obtain ⟨pd, qd, rfl, l2, m2, r2, n2⟩ := h2
  have c7 := c7 pa pd qa qd
  unfold cmdV at c7 ⊢
  dsimp only at *
  have c6 := c6 pa qa l1 m1 r1
  have c8 := fun w2 (hb : Below w.heap.size w w2) => afterMay_any pd qd a15 w2 l2 m2 (r2.below altC_length hb)
  obtain ⟨BX, hBX⟩ : ∃ W, W = w.alloc (.cells #[.int .i64 a1, .int .i64 a2, .string a3, .string a4, .string a5, .int .i64 a6, .slice pa a7.length qa, .int .i64 a8, .int .i64 a9, .int .i64 a10, .int .i64 a11, .bool a12, .int .i64 a13, .bool a14, .slice pd a15.length qd, .int .i64 a16, .int .i64 a17, .int .i64 a18] 27) := ⟨_, rfl⟩
  have hbx : ∀ w2, Below BX.heap.size BX w2 → w2.heap[w.heap.size]? = some (.cells #[.int .i64 a1, .int .i64 a2, .string a3, .string a4, .string a5, .int .i64 a6, .slice pa a7.length qa, .int .i64 a8, .int .i64 a9, .int .i64 a10, .int .i64 a11, .bool a12, .int .i64 a13, .bool a14, .slice pd a15.length qd, .int .i64 a16, .int .i64 a17, .int .i64 a18] 27) := by rw [hBX]; exact fun w2 hb => box_cmd hb
  have PL := Lib.hid (Below.refl BX.heap.size BX)
  have HB0 : Hid (Below w.heap.size w BX) := Lib.hid (by rw [hBX]; exact below_one _)
  have HE := Lib.hid hBX
  have HBX := Lib.hid hbx
  have C1 := Lib.hid c1
  have C2 := Lib.hid c2
  have C3 := Lib.hid c3
  have C4 := Lib.hid c4
  have C5 := Lib.hid c5
  have C7 := Lib.hid c7
  have C8 := Lib.hid c8
  have HT := Lib.hid hT
  clear c1 c2 c3 c4 c5 c7 c8 hbx hBX hT r1 r2 n1 n2 hn hu ha
  have hc : b1 = false ∨ (b1 = true ∧ b2 = false) ∨ (b1 = true ∧ b2 = true ∧ b3 = false) ∨ (b1 = true ∧ b2 = true ∧ b3 = true ∧ b4 = false) ∨ (b1 = true ∧ b2 = true ∧ b3 = true ∧ b4 = true ∧ b5 = false) ∨ (b1 = true ∧ b2 = true ∧ b3 = true ∧ b4 = true ∧ b5 = true ∧ b6 = false) ∨ (b1 = true ∧ b2 = true ∧ b3 = true ∧ b4 = true ∧ b5 = true ∧ b6 = true ∧ b7 = false) ∨ (b1 = true ∧ b2 = true ∧ b3 = true ∧ b4 = true ∧ b5 = true ∧ b6 = true ∧ b7 = true) := by cases b1 <;> cases b2 <;> cases b3 <;> cases b4 <;> cases b5 <;> cases b6 <;> cases b7 <;> simp
  rcases hc with rfl | ⟨rfl, rfl⟩ | ⟨rfl, rfl, rfl⟩ | ⟨rfl, rfl, rfl, rfl⟩ | ⟨rfl, rfl, rfl, rfl, rfl⟩ | ⟨rfl, rfl, rfl, rfl, rfl, rfl⟩ | ⟨rfl, rfl, rfl, rfl, rfl, rfl, rfl⟩ | ⟨rfl, rfl, rfl, rfl, rfl, rfl, rfl⟩
  all_goals
    (first | simp only [if_true] at c6 | simp only [Bool.false_eq_true, if_false] at c6 | skip)
    have C6 := Lib.hid c6
    clear c6
    go_enter Tryz.func50, Tryz.ntmps50
    go_wp2_with (first
      | (refine ld_cmdG ?_ (.tmp 1) rfl w.heap.size _ _ rfl (HBX.out _ PL.out) rfl ?_; focus (first | rfl | (simp [Region.wanted, yielded]; done)))
      | ((first
          | (go_at_call 80; with_reducible first | refine (C1.out _).mono ?_ | refine (C2.out _).mono ?_ | refine (C4.out _).mono ?_)
          | (go_at_call 72; with_reducible first | refine (C3.out _ (HT.out.later (by first | exact (HB0.out.trans (PL.out.mono HB0.out.size)) | exact (HE.out ▸ HB0.out)))).mono ?_ | refine (C5.out _ (HT.out.later (by first | exact (HB0.out.trans (PL.out.mono HB0.out.size)) | exact (HE.out ▸ HB0.out)))).mono ?_)
          | (go_at_call 81; with_reducible refine (C6.out _ (by first | exact (HB0.out.trans (PL.out.mono HB0.out.size)) | exact (HE.out ▸ HB0.out))).mono ?_)
          | (go_at_call 52; with_reducible refine (C7.out _).mono ?_)
          | (go_at_call 82; with_reducible refine (C8.out _ (by first | exact (HB0.out.trans (PL.out.mono HB0.out.size)) | exact (HE.out ▸ HB0.out))).mono ?_))
         rintro e w1 ⟨rfl, p⟩
         (first | rw [← HE.out] at p | skip); have PN := Lib.hid (PL.out.trans (p.mono PL.out.size)); clear PL; have PL := PN; clear PN p; (try clear x0 x1 x2 x3 x4 x5 x6 x7 x8 x9 x10 x11 x12 x13 x14 x15 x16 x17); obtain ⟨x0, x1, x2, x3, x4, x5, x6, x7, x8, x9, x10, x11, x12, x13, x14, x15, x16, x17⟩ := all18 (HBX.out _ PL.out))
      | fail)
    go_ret
    refine ⟨ret_bool ?_, HB0.out.trans (PL.out.mono HB0.out.size)⟩
    simp
end Go.Proofs.YtdkngidangfkiaaGreatDoor.Cmd
