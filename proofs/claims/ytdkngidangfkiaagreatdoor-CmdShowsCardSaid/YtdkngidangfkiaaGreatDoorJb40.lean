/-
  Joined out of: The walk of the document's own answer for layer 8: whether dependencies may be. The walks of the document's own answer for layer 8: what a command has nothing of (written by gen_refn.py).
-/
import Derived.Test.YtdkngidangfkiaaGreatDoorJb38
import Derived.Test.YtdkngidangfkiaaGreatDoorJb19
namespace Go.Proofs.YtdkngidangfkiaaGreatDoor.Cmd
open Go.RowKit
open Base Runes Lex
open Shape (frB frB_iff sameL sameB chkB goodB altOk sizeB wallB chkE altC_length altC alt_cells Alt)
set_option linter.unusedVariables false
set_option linter.unusedSimpArgs false
theorem hasJ_none (zs : List (Int × Int)) (k : Nat) (x : Int) (h : ∀ m (hm : m < zs.length), m < k → zs[m].2 ≠ x) : hasJ (zs.take k) x = false := by
  unfold hasJ
  rw [List.any_eq_false]
  intro d hd hx
  obtain ⟨m, hm, rfl⟩ := List.getElem_of_mem hd
  rw [List.length_take] at hm
  rw [List.getElem_take] at hx
  exact h m (by omega) (by omega) (by simpa using hx)
theorem hasJ_some (zs : List (Int × Int)) (k : Nat) (x : Int) (m : Nat) (hm : m < zs.length) (hk : m < k) (h : zs[m].2 = x) : hasJ (zs.take k) x = true := by
  unfold hasJ
  rw [List.any_eq_true]
  exact ⟨zs[m], List.mem_take_iff_getElem.2 ⟨m, by omega, rfl⟩, by simpa using h⟩
set_option maxRecDepth 100000 in
set_option maxHeartbeats 2000000 in
theorem rwaits_any (ao : Option Addr) (cap : Nat) (zs : List (Int × Int)) (w : World) (hl : zs.length ≤ cap) (hcap : cap ≤ maxLen) (hr : ReadsS 2 altC w ao zs) :
    Calls Tryz.prog 33 #[.slice ao zs.length cap] w fun e w' => e = .returned (.bool (depsB zs)) ∧ Below w.heap.size w w' := by
  rw [depsB_good]
  unfold maxLen at hcap
  have HR := Lib.hid hr
  clear hr
  by_cases h4 : 4 < zs.length
  · have t4 : decide ((4 : Int) < (zs.length : Int)) = true := by rw [decide_eq_true_iff]; omega
    have t5 : decide (zs.length ≤ 4) = false := by simpa using h4
    rw [t5]
    go_enter Tryz.func33, Tryz.ntmps33
    go_wp2
    go_ret
    exact ⟨rfl, Base.bel_⟩
  have t4 : decide ((4 : Int) < (zs.length : Int)) = false := by rw [decide_eq_false_iff_not]; omega
  have t5 : decide (zs.length ≤ 4) = true := by simpa using h4
  rw [t5, Bool.true_and]
  obtain ⟨M, hM⟩ : ∃ M, M = goodD zs := ⟨_, rfl⟩
  rw [← hM]
  have HM := Lib.hid hM
  clear hM
  go_enter Tryz.func33, Tryz.ntmps33
  go_wp2
  go_loopw [3] (fun i wr => ∃ k : Nat, i = .int .i64 (k : Int) ∧ k ≤ zs.length ∧ (∀ j (h : j < zs.length), j < k → depOk zs[j] = true ∧ hasJ (zs.take j) zs[j].2 = false) ∧ Below w.heap.size w wr) (fun i _ => zs.length - (intOf i).toNat)
  case atStart => exact ⟨0, rfl, Nat.zero_le _, fun _ _ h => absurd h (Nat.not_lt_zero _), Below.refl _ _⟩
  case round =>
    obtain ⟨k, rfl, hk, hs, hb⟩ := hrel
    have HS := Lib.hid hs
    have HBel := Lib.hid hb
    clear hs
    by_cases hp : k < zs.length
    · obtain ⟨bb, bo, hao, b0, b1⟩ := alt_cells (HR.out.below altC_length hb) hp
      have hno : depOk zs[k] = false ∨ hasJ (zs.take k) zs[k].2 = true → false = M := fun h => by rw [HM.out, goodD_no zs k hp h]
      have hgo : depOk zs[k] = true → hasJ (zs.take k) zs[k].2 = false → ∀ j (h : j < zs.length), j < k + 1 → depOk zs[j] = true ∧ hasJ (zs.take j) zs[j].2 = false := fun h1 h2 j hj hjk => by
        by_cases he : j = k
        · subst he; exact ⟨h1, h2⟩
        · exact HS.out j hj (by omega)
      subst hao
      unfold depOk at hno hgo
      obtain ⟨⟨n, wl⟩, hA⟩ : ∃ A : Int × Int, A = zs[k] := ⟨_, rfl⟩
      rw [← hA] at b0 b1 hno hgo
      dsimp only at b0 b1 hno hgo
      have HNO := Lib.hid hno
      have HGO := Lib.hid hgo
      have hlow : (0 : Int) ≤ (k : Int) := by omega
      have hup : (k : Int) < ((zs.length : Nat) : Int) := by omega
      clear hA hb hno hgo
      have cS := fun w => rin_any n 1 3 w
      have cW := fun w => rin_any wl 1 99999 w
      have hid : idB wl = frB wl 1 99999 := rfl
      rw [hid] at HNO HGO
      clear hid
      cases hq1 : frB n 1 3 with
      | false =>
        rw [hq1] at cS
        have HN := Lib.hid (HNO.out (.inl (by rw [hq1]; rfl)))
        have CS := Lib.hid cS
        clear HNO HGO cS cW hq1
        go_wp2_with (first
          | (go_at_call 35; (with_reducible refine (CS.out _).mono ?_); rintro e w1 ⟨rfl, rfl⟩)
          | fail)
        go_ret
        exact ⟨ret_bool HN.out, Base.bel_⟩
      | true =>
        rw [hq1] at cS
        have CS := Lib.hid cS
        clear cS
        cases hq2 : frB wl 1 99999 with
        | false =>
          rw [hq2] at cW
          have HN := Lib.hid (HNO.out (.inl (by rw [hq1, hq2]; rfl)))
          have CW := Lib.hid cW
          clear HNO HGO cW hq1 hq2
          go_wp2_with (first
            | (go_at_call 35; (with_reducible refine (CS.out _).mono ?_); rintro e w1 ⟨rfl, rfl⟩)
            | (go_at_call 35; (with_reducible refine (CW.out _).mono ?_); rintro e w1 ⟨rfl, rfl⟩)
            | fail)
          go_ret
          exact ⟨ret_bool HN.out, Base.bel_⟩
        | true =>
          rw [hq2] at cW
          have CW := Lib.hid cW
          have h12 : (frB n 1 3 && frB wl 1 99999) = true := by rw [hq1, hq2]; rfl
          have HN := Lib.hid (fun h => HNO.out (.inr h))
          have HG := Lib.hid (HGO.out h12)
          clear cW hq1 hq2 HNO HGO h12
          go_wp2_with (first
            | (go_at_call 35; (with_reducible refine (CS.out _).mono ?_); rintro e w1 ⟨rfl, rfl⟩)
            | (go_at_call 35; (with_reducible refine (CW.out _).mono ?_); rintro e w1 ⟨rfl, rfl⟩)
            | fail)
          go_loopw [4] (fun i wz => ∃ m : Nat, i = .int .i64 (m : Int) ∧ m ≤ k ∧ (∀ j (h : j < zs.length), j < m → zs[j].2 ≠ wl) ∧ Below w.heap.size w wz ∧ wz.cell? ⟨bb, bo + k * 2 + 1, none⟩ = some (.int .i64 wl)) (fun i _ => k - (intOf i).toNat)
          case atStart => exact ⟨0, rfl, Nat.zero_le _, fun _ _ h => absurd h (Nat.not_lt_zero _), Base.bel_, b1⟩
          case round =>
            obtain ⟨m, rfl, hm, hms, hbz, hcz⟩ := hrel
            have HMS := Lib.hid hms
            have HBZ := Lib.hid hbz
            clear hms
            by_cases hpm : m < k
            · have hmz : m < zs.length := by omega
              obtain ⟨_, _, he, z0, z1⟩ := alt_cells (HR.out.below altC_length hbz) hmz
              injection he with he
              injection he with he1 he2
              subst he1 he2
              have hin := HMS.out
              obtain ⟨x, hx⟩ : ∃ x, x = zs[m].2 := ⟨_, rfl⟩
              rw [← hx] at z1
              have hlow2 : (0 : Int) ≤ (m : Int) := by omega
              have hup2 : (m : Int) < (k : Int) := by omega
              have hup3 : (m : Int) < ((zs.length : Nat) : Int) := by omega
              cases hxe : (x == wl) with
              | true =>
                have HZ := Lib.hid (HN.out (hasJ_some zs k wl m hmz hpm (by rw [← hx]; simpa using hxe)))
                clear hx hbz hin z0
                go_wp2
                go_quiet (fail)
                go_wp2
                go_ret
                exact ⟨ret_bool HZ.out, Base.below_drewN HBZ.out _⟩
              | false =>
                have HZ : Hid (∀ j (h : j < zs.length), j < m + 1 → zs[j].2 ≠ wl) := Lib.hid (fun j hj hjm => by
                  by_cases he : j = m
                  · subst he; rw [← hx]; simpa using hxe
                  · exact HMS.out j hj (by omega))
                clear hx hbz hin z0
                go_wp2
                go_quiet (fail)
                go_wp2
                refine ⟨⟨m + 1, by go_num, by omega, HZ.out, Base.below_drewN HBZ.out _, hcz⟩, ?_⟩
                simp [intOf]; omega
            · have HZ := Lib.hid (HG.out (hasJ_none zs k wl fun j hj hjk => HMS.out j hj (by omega)))
              have hup2 : ¬ (m : Int) < (k : Int) := by omega
              clear hbz
              go_wp2
              refine ⟨⟨k + 1, by go_num, by omega, HZ.out, HBZ.out⟩, ?_⟩
              simp [intOf]; omega
    · have HN : Hid (true = M) := Lib.hid (by rw [HM.out]; symm; exact (goodD_steps zs).2 fun j hj => HS.out j hj (by omega))
      go_wp2
      go_ret
      exact ⟨ret_bool HN.out, HBel.out⟩
end Go.Proofs.YtdkngidangfkiaaGreatDoor.Cmd
namespace Go.Proofs.YtdkngidangfkiaaGreatDoor.Cmd
open Go.RowKit
open Base Runes Lex
open Shape (frB frB_iff sameL sameB chkB goodB altOk sizeB wallB chkE altC_length altC)
set_option linter.unusedVariables false
set_option linter.unusedSimpArgs false
def noneB (c : Co) (job submit prio time node nodes frm : Bool) : Bool :=
  !((job && (c.job != 0)) || (prio && c.hasPrio) || (time && c.hasTime) || (node && (c.node != 0)) || (nodes && (c.nodes != 0)) || (frm && (c.frm != 0))) &&
    (!submit || (c.name.toList.isEmpty && (c.user.toList.isEmpty && (c.account.toList.isEmpty && (decide ((c.after.length : Int) = 0) && sameB c.sk c.alts c.mn c.mx c.wl 0 [] 0 0 0)))))
set_option maxRecDepth 100000 in
set_option maxHeartbeats 2000000 in
theorem rnoneSubmit (c : Co) (va vd : Value) (w : World) (h1 : Row w va c.alts) (h2 : Row w vd c.after) :
    Calls Tryz.prog 31 #[cmdV c va vd, .bool true, .bool false, .bool false, .bool true, .bool true, .bool true, .bool true] w fun e w' => e = .returned (.bool (noneB c true false false true true true true)) ∧ Below w.heap.size w w' := by
  obtain ⟨a1, a2, a3, a4, a5, a6, a7, a8, a9, a10, a11, a12, a13, a14, a15, a16, a17, a18⟩ := c
  obtain ⟨pa, qa, rfl, l1, m1, r1, n1⟩ := h1
  obtain ⟨pd, qd, rfl, l2, m2, r2, n2⟩ := h2
  unfold cmdV noneB
  dsimp only at *
  have cS := fun (w2 : World) (hb : Below w.heap.size w w2) => Shape.shsame_any a6 pa a7.length qa a7 a8 a9 a10 0 none 0 0 [] 0 0 0 w2 rfl rfl (by omega) (by decide) (r1.below altC_length hb) (.inl rfl)
  obtain ⟨sb, hsb⟩ : ∃ s, s = sameB a6 a7 a8 a9 a10 0 [] 0 0 0 := ⟨_, rfl⟩
  obtain ⟨la, hla⟩ : ∃ n, n = a15.length := ⟨_, rfl⟩
  rw [← hla]
  rw [← hsb] at cS ⊢
  have CS := Lib.hid cS
  clear cS r1 r2 n1 n2 hsb hla l2
  go_enter Tryz.func31, Tryz.ntmps31
  go_wp2_with (first
    | (go_at_call 38; (with_reducible refine (CS.out _ (Base.bel_)).mono ?_); rintro e w2 ⟨rfl, p2⟩)
    | fail)
  all_goals first
    | (go_ret; refine ⟨ret_bool ?_, Base.bel_⟩; simp [*]; done)
    | trace_state
set_option maxRecDepth 100000 in
set_option maxHeartbeats 2000000 in
theorem rnoneJob (c : Co) (va vd : Value) (w : World) (h1 : Row w va c.alts) (h2 : Row w vd c.after) :
    Calls Tryz.prog 31 #[cmdV c va vd, .bool false, .bool true, .bool true, .bool true, .bool true, .bool true, .bool true] w fun e w' => e = .returned (.bool (noneB c false true true true true true true)) ∧ Below w.heap.size w w' := by
  obtain ⟨a1, a2, a3, a4, a5, a6, a7, a8, a9, a10, a11, a12, a13, a14, a15, a16, a17, a18⟩ := c
  obtain ⟨pa, qa, rfl, l1, m1, r1, n1⟩ := h1
  obtain ⟨pd, qd, rfl, l2, m2, r2, n2⟩ := h2
  unfold cmdV noneB
  dsimp only at *
  have cS := fun (w2 : World) (hb : Below w.heap.size w w2) => Shape.shsame_any a6 pa a7.length qa a7 a8 a9 a10 0 none 0 0 [] 0 0 0 w2 rfl rfl (by omega) (by decide) (r1.below altC_length hb) (.inl rfl)
  obtain ⟨sb, hsb⟩ : ∃ s, s = sameB a6 a7 a8 a9 a10 0 [] 0 0 0 := ⟨_, rfl⟩
  obtain ⟨la, hla⟩ : ∃ n, n = a15.length := ⟨_, rfl⟩
  rw [← hla]
  rw [← hsb] at cS ⊢
  have CS := Lib.hid cS
  clear cS r1 r2 n1 n2 hsb hla l2
  go_enter Tryz.func31, Tryz.ntmps31
  go_wp2_with (first
    | (go_at_call 38; (with_reducible refine (CS.out _ (Base.bel_)).mono ?_); rintro e w2 ⟨rfl, p2⟩)
    | fail)
  all_goals first
    | (go_ret; refine ⟨ret_bool ?_, Base.bel_⟩; simp [*]; done)
    | trace_state
set_option maxRecDepth 100000 in
set_option maxHeartbeats 2000000 in
theorem rnoneAlter (c : Co) (va vd : Value) (w : World) (h1 : Row w va c.alts) (h2 : Row w vd c.after) :
    Calls Tryz.prog 31 #[cmdV c va vd, .bool false, .bool true, .bool false, .bool false, .bool true, .bool true, .bool true] w fun e w' => e = .returned (.bool (noneB c false true false false true true true)) ∧ Below w.heap.size w w' := by
  obtain ⟨a1, a2, a3, a4, a5, a6, a7, a8, a9, a10, a11, a12, a13, a14, a15, a16, a17, a18⟩ := c
  obtain ⟨pa, qa, rfl, l1, m1, r1, n1⟩ := h1
  obtain ⟨pd, qd, rfl, l2, m2, r2, n2⟩ := h2
  unfold cmdV noneB
  dsimp only at *
  have cS := fun (w2 : World) (hb : Below w.heap.size w w2) => Shape.shsame_any a6 pa a7.length qa a7 a8 a9 a10 0 none 0 0 [] 0 0 0 w2 rfl rfl (by omega) (by decide) (r1.below altC_length hb) (.inl rfl)
  obtain ⟨sb, hsb⟩ : ∃ s, s = sameB a6 a7 a8 a9 a10 0 [] 0 0 0 := ⟨_, rfl⟩
  obtain ⟨la, hla⟩ : ∃ n, n = a15.length := ⟨_, rfl⟩
  rw [← hla]
  rw [← hsb] at cS ⊢
  have CS := Lib.hid cS
  clear cS r1 r2 n1 n2 hsb hla l2
  go_enter Tryz.func31, Tryz.ntmps31
  go_wp2_with (first
    | (go_at_call 38; (with_reducible refine (CS.out _ (Base.bel_)).mono ?_); rintro e w2 ⟨rfl, p2⟩)
    | fail)
  all_goals first
    | (go_ret; refine ⟨ret_bool ?_, Base.bel_⟩; simp [*]; done)
    | trace_state
set_option maxRecDepth 100000 in
set_option maxHeartbeats 2000000 in
theorem rnoneResize (c : Co) (va vd : Value) (w : World) (h1 : Row w va c.alts) (h2 : Row w vd c.after) :
    Calls Tryz.prog 31 #[cmdV c va vd, .bool false, .bool true, .bool true, .bool true, .bool true, .bool false, .bool true] w fun e w' => e = .returned (.bool (noneB c false true true true true false true)) ∧ Below w.heap.size w w' := by
  obtain ⟨a1, a2, a3, a4, a5, a6, a7, a8, a9, a10, a11, a12, a13, a14, a15, a16, a17, a18⟩ := c
  obtain ⟨pa, qa, rfl, l1, m1, r1, n1⟩ := h1
  obtain ⟨pd, qd, rfl, l2, m2, r2, n2⟩ := h2
  unfold cmdV noneB
  dsimp only at *
  have cS := fun (w2 : World) (hb : Below w.heap.size w w2) => Shape.shsame_any a6 pa a7.length qa a7 a8 a9 a10 0 none 0 0 [] 0 0 0 w2 rfl rfl (by omega) (by decide) (r1.below altC_length hb) (.inl rfl)
  obtain ⟨sb, hsb⟩ : ∃ s, s = sameB a6 a7 a8 a9 a10 0 [] 0 0 0 := ⟨_, rfl⟩
  obtain ⟨la, hla⟩ : ∃ n, n = a15.length := ⟨_, rfl⟩
  rw [← hla]
  rw [← hsb] at cS ⊢
  have CS := Lib.hid cS
  clear cS r1 r2 n1 n2 hsb hla l2
  go_enter Tryz.func31, Tryz.ntmps31
  go_wp2_with (first
    | (go_at_call 38; (with_reducible refine (CS.out _ (Base.bel_)).mono ?_); rintro e w2 ⟨rfl, p2⟩)
    | fail)
  all_goals first
    | (go_ret; refine ⟨ret_bool ?_, Base.bel_⟩; simp [*]; done)
    | trace_state
set_option maxRecDepth 100000 in
set_option maxHeartbeats 2000000 in
theorem rnoneNode (c : Co) (va vd : Value) (w : World) (h1 : Row w va c.alts) (h2 : Row w vd c.after) :
    Calls Tryz.prog 31 #[cmdV c va vd, .bool true, .bool true, .bool true, .bool true, .bool false, .bool true, .bool true] w fun e w' => e = .returned (.bool (noneB c true true true true false true true)) ∧ Below w.heap.size w w' := by
  obtain ⟨a1, a2, a3, a4, a5, a6, a7, a8, a9, a10, a11, a12, a13, a14, a15, a16, a17, a18⟩ := c
  obtain ⟨pa, qa, rfl, l1, m1, r1, n1⟩ := h1
  obtain ⟨pd, qd, rfl, l2, m2, r2, n2⟩ := h2
  unfold cmdV noneB
  dsimp only at *
  have cS := fun (w2 : World) (hb : Below w.heap.size w w2) => Shape.shsame_any a6 pa a7.length qa a7 a8 a9 a10 0 none 0 0 [] 0 0 0 w2 rfl rfl (by omega) (by decide) (r1.below altC_length hb) (.inl rfl)
  obtain ⟨sb, hsb⟩ : ∃ s, s = sameB a6 a7 a8 a9 a10 0 [] 0 0 0 := ⟨_, rfl⟩
  obtain ⟨la, hla⟩ : ∃ n, n = a15.length := ⟨_, rfl⟩
  rw [← hla]
  rw [← hsb] at cS ⊢
  have CS := Lib.hid cS
  clear cS r1 r2 n1 n2 hsb hla l2
  go_enter Tryz.func31, Tryz.ntmps31
  go_wp2_with (first
    | (go_at_call 38; (with_reducible refine (CS.out _ (Base.bel_)).mono ?_); rintro e w2 ⟨rfl, p2⟩)
    | fail)
  all_goals first
    | (go_ret; refine ⟨ret_bool ?_, Base.bel_⟩; simp [*]; done)
    | trace_state
set_option maxRecDepth 100000 in
set_option maxHeartbeats 2000000 in
theorem rnoneReserve (c : Co) (va vd : Value) (w : World) (h1 : Row w va c.alts) (h2 : Row w vd c.after) :
    Calls Tryz.prog 31 #[cmdV c va vd, .bool true, .bool true, .bool true, .bool false, .bool true, .bool false, .bool false] w fun e w' => e = .returned (.bool (noneB c true true true false true false false)) ∧ Below w.heap.size w w' := by
  obtain ⟨a1, a2, a3, a4, a5, a6, a7, a8, a9, a10, a11, a12, a13, a14, a15, a16, a17, a18⟩ := c
  obtain ⟨pa, qa, rfl, l1, m1, r1, n1⟩ := h1
  obtain ⟨pd, qd, rfl, l2, m2, r2, n2⟩ := h2
  unfold cmdV noneB
  dsimp only at *
  have cS := fun (w2 : World) (hb : Below w.heap.size w w2) => Shape.shsame_any a6 pa a7.length qa a7 a8 a9 a10 0 none 0 0 [] 0 0 0 w2 rfl rfl (by omega) (by decide) (r1.below altC_length hb) (.inl rfl)
  obtain ⟨sb, hsb⟩ : ∃ s, s = sameB a6 a7 a8 a9 a10 0 [] 0 0 0 := ⟨_, rfl⟩
  obtain ⟨la, hla⟩ : ∃ n, n = a15.length := ⟨_, rfl⟩
  rw [← hla]
  rw [← hsb] at cS ⊢
  have CS := Lib.hid cS
  clear cS r1 r2 n1 n2 hsb hla l2
  go_enter Tryz.func31, Tryz.ntmps31
  go_wp2_with (first
    | (go_at_call 38; (with_reducible refine (CS.out _ (Base.bel_)).mono ?_); rintro e w2 ⟨rfl, p2⟩)
    | fail)
  all_goals first
    | (go_ret; refine ⟨ret_bool ?_, Base.bel_⟩; simp [*]; done)
    | trace_state
end Go.Proofs.YtdkngidangfkiaaGreatDoor.Cmd
