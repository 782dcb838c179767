/-
  Joined out of: The walks of what takes a field: its name, its value. The walk of what takes a whole field.
-/
import Derived.Test.YtdkngidangfkiaaGreatDoorJa18
import Derived.Test.YtdkngidangfkiaaGreatDoorJa19
import Derived.BigQuiet
namespace Go.Proofs.YtdkngidangfkiaaGreatDoor.Cmd
open Go.RowKit
open Base
open Lex (Tok tkC tkC_length tokV zT)
open Shape (frB sizeB)
set_option linter.unusedVariables false
set_option linter.unusedSimpArgs false
set_option maxRecDepth 100000 in
set_option maxHeartbeats 1000000 in
theorem fieldq_any (k : Int) (ao : Option Addr) (cap : Nat) (st : List Fd) (s : ByteArray) (K P : Nat) (w : World) (hl : st.length ≤ 100000) (hr : ReadsS 2 fdC w ao st) (hT : Tb w)
    (hK : w.cell? ⟨K, 0, none⟩ = some (.int .i64 k)) (hP : w.cell? ⟨P, 0, none⟩ = some (.slice ao st.length cap)) :
    Calls Tryz.prog 101 #[.string s, .pointer (some ⟨K, 0, none⟩), .pointer (some ⟨P, 0, none⟩)] w fun e w' => e = .returned (.bool (qField k st s)) ∧ Below w.heap.size w w' := by
  have c1 := mayFollow_any ao cap st s w hl hr hT
  obtain ⟨M, hM⟩ : ∃ M, M = mayF st s := ⟨_, rfl⟩
  obtain ⟨F, hF⟩ : ∃ F, F = hasF k s := ⟨_, rfl⟩
  have c2 := hasField_any k s w
  rw [← hM] at c1
  rw [← hF] at c2
  have hq : qField k st s = (F && M) := by unfold qField; rw [hM, hF]
  rw [hq]
  have hlt := lt_of_cell hK
  have hlt2 := lt_of_cell hP
  have C1 := Lib.hid c1
  have C2 := Lib.hid c2
  clear c1 c2 hM hF hq hr hT
  cases F with
  | false =>
    go_enter Tryz.func101, Tryz.ntmps101
    go_wp2_with (first
      | (go_at_call 102; (with_reducible refine C2.out.mono ?_); rintro e w1 ⟨rfl, rfl⟩)
      | fail)
    go_ret
    exact ⟨rfl, Below.refl _ _⟩
  | true =>
    go_enter Tryz.func101, Tryz.ntmps101
    go_wp2_with (first
      | (go_at_call 102; (with_reducible refine C2.out.mono ?_); rintro e w1 ⟨rfl, rfl⟩)
      | (go_at_call 103; (with_reducible refine C1.out.mono ?_); rintro e w1 ⟨rfl, p1⟩)
      | fail)
    go_ret
    exact ⟨rfl, by (focus repeat (first | exact Below.refl _ _ | assumption | (exact Hid.out (by assumption)) | (with_reducible refine Below.drew ?_) | (with_reducible refine Base.below_drewN ?_ _) | (refine Below.from (below_one _) ?_) | (refine Below.from (below_conv _ _ _) ?_) | (refine Below.setCell ?_ (by simp <;> omega) _) | (refine Below.from (by assumption) ?_)))⟩
set_option maxRecDepth 100000 in
set_option maxHeartbeats 1000000 in
theorem wordc_field (t : Tok) (k : Int) (ao : Option Addr) (cap : Nat) (st : List Fd) (P K S : Nat) (w : World) (hl : st.length ≤ 100000) (hr : ReadsS 2 fdC w ao st) (hT : Tb w)
    (hK : w.cell? ⟨K, 0, none⟩ = some (.int .i64 k)) (hS : w.cell? ⟨S, 0, none⟩ = some (.slice ao st.length cap))
    (hP : w.cell? ⟨P, 0, none⟩ = some (.func (.func 101) #[] #[.pointer (some ⟨K, 0, none⟩), .pointer (some ⟨S, 0, none⟩)])) :
    Calls Tryz.prog 98 #[tokV t, .pointer (some ⟨P, 0, none⟩)] w fun e w' => e = .returned (.bool (qWord (qField k st) t)) ∧ Below w.heap.size w w' := by
  have c1 := fun s w2 (hb : Below w.heap.size w w2) => fieldq_any k ao cap st s K S w2 hl (hr.below fdC_length hb) (hT.later hb) (cell_below hK hb) (cell_below hS hb)
  obtain ⟨kk, x, n, a⟩ := t
  unfold tokV qWord
  dsimp only
  have hlt := lt_of_cell hP
  have C1 := Lib.hid c1
  clear c1 hr hT hK hS
  go_enter Tryz.func98, Tryz.ntmps98
  go_wp2_with (first
    | (go_at_call 101; (with_reducible refine (C1.out _ _ (by (focus repeat (first | exact Below.refl _ _ | assumption | (exact Hid.out (by assumption)) | (with_reducible refine Below.drew ?_) | (with_reducible refine Base.below_drewN ?_ _) | (refine Below.from (below_one _) ?_) | (refine Below.from (below_conv _ _ _) ?_) | (refine Below.setCell ?_ (by simp <;> omega) _) | (refine Below.from (by assumption) ?_))))).mono ?_); rintro e w1 ⟨rfl, p1⟩)
    | fail)
  all_goals
    go_ret
    refine ⟨ret_bool ?_, by (focus repeat (first | exact Below.refl _ _ | assumption | (exact Hid.out (by assumption)) | (with_reducible refine Below.drew ?_) | (with_reducible refine Base.below_drewN ?_ _) | (refine Below.from (below_one _) ?_) | (refine Below.from (below_conv _ _ _) ?_) | (refine Below.setCell ?_ (by simp <;> omega) _) | (refine Below.from (by assumption) ?_)))⟩
    simp [*]
set_option maxRecDepth 100000 in
set_option maxHeartbeats 2000000 in
theorem idq_any (ao : Option Addr) (cap : Nat) (st : List Fd) (n : Int) (P : Nat) (w : World) (hl : st.length ≤ 100000) (hr : ReadsS 2 fdC w ao st)
    (hP : w.cell? ⟨P, 0, none⟩ = some (.slice ao st.length cap)) :
    Calls Tryz.prog 170 #[.int .i64 n, .pointer (some ⟨P, 0, none⟩)] w fun e w' => e = .returned (.bool (idQ st n)) ∧ Below w.heap.size w w' := by
  have c1 := fun w2 (hb : Below w.heap.size w w2) (Q : Nat) (hQ : w2.cell? ⟨Q, 0, none⟩ = some (.int .i64 n)) => count_on Q n ao cap st w2 hl (hr.below fdC_length hb) hQ
  have c2 := fun w => isId_any n w
  have hlt := lt_of_cell hP
  obtain ⟨m1, hm1⟩ : ∃ m, m = cntL (depOn n) st := ⟨_, rfl⟩
  obtain ⟨I, hI⟩ : ∃ I, I = idB n := ⟨_, rfl⟩
  have hM : idQ st n = (I && decide (m1 = 0)) := by unfold idQ; rw [hm1, hI]
  rw [hM]
  rw [← hm1] at c1
  rw [← hI] at c2
  have C1 := Lib.hid c1
  have C2 := Lib.hid c2
  have HPB := Lib.hid (fun w2 (hb : Below w.heap.size w w2) => cell_below hP hb)
  clear c1 c2 hm1 hM hr hI
  cases I with
  | false =>
    go_enter Tryz.func170, Tryz.ntmps170
    go_wp2
    go_quiet (first
      | (go_at_call 51; refine Calls.quiet_of_same ((C2.out _).mono fun e w' h => ⟨h.1, h.2.symm⟩))
      | fail)
    go_wp2
    go_ret
    exact ⟨rfl, by (focus repeat (first | exact Below.refl _ _ | assumption | (exact Hid.out (by assumption)) | (with_reducible refine Below.drew ?_) | (with_reducible refine Base.below_drewN ?_ _) | (refine Below.from (below_one _) ?_) | (refine Below.from (below_conv _ _ _) ?_) | (refine Below.setCell ?_ (by simp <;> omega) _) | (refine Below.from (by assumption) ?_)))⟩
  | true =>
    go_enter Tryz.func170, Tryz.ntmps170
    go_wp2
    go_region_with (first
      | (go_at_call 51; (with_reducible refine (C2.out _).mono ?_); rintro e w1 ⟨rfl, rfl⟩)
      | (go_at_call 171; (with_reducible refine (on_some _ _).mono ?_); rintro e w1 ⟨Q, rfl, hQ, p1⟩; have hP1 := HPB.out w1 (by (focus repeat (first | exact Below.refl _ _ | assumption | (exact Hid.out (by assumption)) | (with_reducible refine Below.drew ?_) | (with_reducible refine Base.below_drewN ?_ _) | (refine Below.from (below_one _) ?_) | (refine Below.from (below_conv _ _ _) ?_) | (refine Below.setCell ?_ (by simp <;> omega) _) | (refine Below.from (by assumption) ?_)))))
      | (go_at_call 109; (with_reducible refine (C1.out _ (by (focus repeat (first | exact Below.refl _ _ | assumption | (exact Hid.out (by assumption)) | (with_reducible refine Below.drew ?_) | (with_reducible refine Base.below_drewN ?_ _) | (refine Below.from (below_one _) ?_) | (refine Below.from (below_conv _ _ _) ?_) | (refine Below.setCell ?_ (by simp <;> omega) _) | (refine Below.from (by assumption) ?_)))) _ (by assumption)).mono ?_); rintro e w2 ⟨rfl, p2⟩)
      | fail)
    all_goals
      go_wp2
      go_ret
      refine ⟨ret_bool ?_, by (focus repeat (first | exact Below.refl _ _ | assumption | (exact Hid.out (by assumption)) | (with_reducible refine Below.drew ?_) | (with_reducible refine Base.below_drewN ?_ _) | (refine Below.from (below_one _) ?_) | (refine Below.from (below_conv _ _ _) ?_) | (refine Below.setCell ?_ (by simp <;> omega) _) | (refine Below.from (by assumption) ?_)))⟩
      rw [Bool.eq_iff_iff]; simp
set_option maxRecDepth 100000 in
set_option maxHeartbeats 1000000 in
theorem numc_id (t : Tok) (ao : Option Addr) (cap : Nat) (st : List Fd) (P S : Nat) (w : World) (hl : st.length ≤ 100000) (hr : ReadsS 2 fdC w ao st)
    (hS : w.cell? ⟨S, 0, none⟩ = some (.slice ao st.length cap)) (hP : w.cell? ⟨P, 0, none⟩ = some (.func (.func 170) #[] #[.pointer (some ⟨S, 0, none⟩)])) :
    Calls Tryz.prog 138 #[tokV t, .pointer (some ⟨P, 0, none⟩)] w fun e w' => e = .returned (.bool (qNum (idQ st) t)) ∧ Below w.heap.size w w' := by
  have c1 := fun n w2 (hb : Below w.heap.size w w2) => idq_any ao cap st n S w2 hl (hr.below fdC_length hb) (cell_below hS hb)
  obtain ⟨kk, x, n, a⟩ := t
  unfold tokV qNum
  dsimp only
  have hlt := lt_of_cell hP
  have C1 := Lib.hid c1
  clear c1 hr hS
  go_enter Tryz.func138, Tryz.ntmps138
  go_wp2_with (first
    | (go_at_call 170; (with_reducible refine (C1.out _ _ (by (focus repeat (first | exact Below.refl _ _ | assumption | (exact Hid.out (by assumption)) | (with_reducible refine Below.drew ?_) | (with_reducible refine Base.below_drewN ?_ _) | (refine Below.from (below_one _) ?_) | (refine Below.from (below_conv _ _ _) ?_) | (refine Below.setCell ?_ (by simp <;> omega) _) | (refine Below.from (by assumption) ?_))))).mono ?_); rintro e w1 ⟨rfl, p1⟩)
    | fail)
  all_goals
    go_ret
    refine ⟨ret_bool ?_, by (focus repeat (first | exact Below.refl _ _ | assumption | (exact Hid.out (by assumption)) | (with_reducible refine Below.drew ?_) | (with_reducible refine Base.below_drewN ?_ _) | (refine Below.from (below_one _) ?_) | (refine Below.from (below_conv _ _ _) ?_) | (refine Below.setCell ?_ (by simp <;> omega) _) | (refine Below.from (by assumption) ?_)))⟩
    simp [*]
set_option maxRecDepth 100000 in
set_option maxHeartbeats 1000000 in
theorem id_any (ao : Option Addr) (cap : Nat) (st : List Fd) (B n : Nat) (l : List Tok) (w : World) (hR : RdAt w B l n) (hl : st.length ≤ 100000) (hr : ReadsS 2 fdC w ao st) :
    Calls Tryz.prog 144 #[.pointer (some ⟨B, 0, none⟩), .slice ao st.length cap] w
      fun e w' => RSays B n (.int .i64 ((nx (qNum (idQ st)) l).1.getD zT).2.2.1) (nx (qNum (idQ st)) l).1.isSome (nx (qNum (idQ st)) l).2 w e w' := by
  have c1 := number_any 170 #[.pointer (some ⟨w.heap.size, 0, none⟩)] (idQ st) B n l (w.alloc (.cells #[.slice ao st.length cap] 52)) (hR.below (below_one _)) (fun t ht P w2 hb hP =>
    numc_id t ao cap st P w.heap.size w2 hl (hr.below fdC_length (hb.from (below_one _))) (box_cell hb) hP)
  unfold RSays at c1
  obtain ⟨V, hV⟩ : ∃ V, V = ((nx (qNum (idQ st)) l).1.getD zT).2.2.1 := ⟨_, rfl⟩
  obtain ⟨O, hO⟩ : ∃ O, O = (nx (qNum (idQ st)) l).1.isSome := ⟨_, rfl⟩
  obtain ⟨r, hr⟩ : ∃ r, r = (nx (qNum (idQ st)) l).2 := ⟨_, rfl⟩
  rw [← hV, ← hO, ← hr] at c1 ⊢
  have C1 := Lib.hid c1
  clear c1 hV hO hr hR
  go_enter Tryz.func144, Tryz.ntmps144
  go_wp2_with (first
    | (go_at_call 100; (with_reducible refine C1.out.mono ?_); rintro e w2 ⟨rfl, r2, g2⟩; have R2 := Lib.hid r2; have G2 := Lib.hid g2; clear r2 g2)
    | fail)
  refine bodyPost_ret (v := .tuple #[.int .i64 V, .bool O]) (by simp [results, Tryz.results144, go_sem]) rfl ⟨rfl, R2.out, grown_trans (grown_of_below (below_one _) _) G2.out⟩
theorem map_yes {α β : Type} {R : Option α} {f : α → β} {p : β → Prop} (h : ∀ t, R = some t → p (f t)) : ∀ x, R.map f = some x → p x := by
  intro x hx
  cases R with
  | none => simp at hx
  | some t => simp at hx; subst hx; exact h t rfl
set_option maxRecDepth 100000 in
set_option maxHeartbeats 4000000 in
theorem value_any (u : World) (s : ByteArray) (ao : Option Addr) (cap : Nat) (st : List Fd) (B n : Nat) (l : List Tok) (w : World) (hR : RdAt w B l n) (hs : ∀ t ∈ l, t.2.1.size ≤ 1000000) (hl : st.length ≤ 100000) (hr : ReadsS 2 fdC w ao st) (hC : Ctx u w B) :
    Calls Tryz.prog 105 #[.pointer (some ⟨B, 0, none⟩), .string s, .slice ao st.length cap] w
      fun e w' => ∃ T y, RSays B n (.iface T y) (rdVal s st l).1.isSome (rdVal s st l).2 w e w' ∧ ∀ x, (rdVal s st l).1 = some x → Value.iface T y = vlV x := by
  have cW := word_any 80 #[] nameB B n l w hR (fun t ht P w2 hb hP => wordc_name t (hs t (List.mem_of_mem_head? ht)) P w2 hP)
  have cP := number_any 84 #[] prB B n l w hR (fun t ht P w2 hb hP => numc_isPrio t P w2 hP)
  have cF := number_any 56 #[] tickB B n l w hR (fun t ht P w2 hb hP => numc_isTick t P w2 hP)
  have cN := number_any 54 #[] sizeB B n l w hR (fun t ht P w2 hb hP => numc_isSize t P w2 hP)
  have cA := option_any u B n l w hR hs hC
  have cR := span_any u B n l w hR hs hC
  have cT := length_any u B n l w hR hs hC
  have cI := id_any ao cap st B n l w hR hl hr
  unfold RSays at cW cP cF cN cA cR cT cI
  have CW := Lib.hid cW
  have CP := Lib.hid cP
  have CF := Lib.hid cF
  have CN := Lib.hid cN
  have CA := Lib.hid cA
  have CR := Lib.hid cR
  have CT := Lib.hid cT
  have CI := Lib.hid cI
  clear cW cP cF cN cA cR cT cI hR hs hr hC
  have kUser' := key_user s
  have kAccount' := key_account s
  have kPrio' := key_prio s
  have kFrom' := key_from s
  have kNodes' := key_nodes s
  have kAlt' := key_alt s
  have kRange' := key_range s
  have kTime' := key_time s
  unfold rdVal
  by_cases hU : s = kUser
  · rw [if_pos (.inl hU)]
    rw [decide_eq_true hU] at kUser'
    clear hU
    go_enter Tryz.func105, Tryz.ntmps105
    go_wp2_with (first
      | (go_at_call 63; (with_reducible refine CW.out.mono ?_); rintro e w2 ⟨rfl, r2, g2⟩)
      | fail)
    refine bodyPost_ret (v := .tuple #[.iface 83 (.string ((nx (qWord nameB) l).1.getD zT).2.1), .bool (nx (qWord nameB) l).1.isSome]) (by simp [results, Tryz.results105, go_sem]) rfl ⟨_, _, ⟨by unfold mapV rdWord getW; rw [Option.isSome_map, Option.isSome_map], r2, g2⟩, ?_⟩
    unfold mapV rdWord getW
    dsimp only
    rw [Option.map_map]
    exact map_yes (fun t h => by rw [h]; rfl)
  rw [decide_eq_false hU] at kUser'
  by_cases hA : s = kAccount
  · rw [if_pos (.inr hA)]
    rw [decide_eq_true hA] at kAccount'
    clear hA
    go_enter Tryz.func105, Tryz.ntmps105
    go_wp2_with (first
      | (go_at_call 63; (with_reducible refine CW.out.mono ?_); rintro e w2 ⟨rfl, r2, g2⟩)
      | fail)
    refine bodyPost_ret (v := .tuple #[.iface 83 (.string ((nx (qWord nameB) l).1.getD zT).2.1), .bool (nx (qWord nameB) l).1.isSome]) (by simp [results, Tryz.results105, go_sem]) rfl ⟨_, _, ⟨by unfold mapV rdWord getW; rw [Option.isSome_map, Option.isSome_map], r2, g2⟩, ?_⟩
    unfold mapV rdWord getW
    dsimp only
    rw [Option.map_map]
    exact map_yes (fun t h => by rw [h]; rfl)
  rw [decide_eq_false hA] at kAccount'
  rw [if_neg (by rintro (h | h); exact hU h; exact hA h)]
  by_cases hPrio : s = kPrio
  · rw [if_pos hPrio]
    rw [decide_eq_true hPrio] at kPrio'
    clear hPrio
    go_enter Tryz.func105, Tryz.ntmps105
    go_wp2_with (first
      | (go_at_call 100; (with_reducible refine CP.out.mono ?_); rintro e w2 ⟨rfl, r2, g2⟩)
      | fail)
    refine bodyPost_ret (v := .tuple #[.iface 84 (.int .i64 ((nx (qNum prB) l).1.getD zT).2.2.1), .bool (nx (qNum prB) l).1.isSome]) (by simp [results, Tryz.results105, go_sem]) rfl ⟨_, _, ⟨by unfold mapV rdNum getN; rw [Option.isSome_map, Option.isSome_map], r2, g2⟩, ?_⟩
    unfold mapV rdNum getN
    dsimp only
    rw [Option.map_map]
    exact map_yes (fun t h => by rw [h]; rfl)
  rw [decide_eq_false hPrio] at kPrio'
  rw [if_neg hPrio]
  by_cases hFrom : s = kFrom
  · rw [if_pos hFrom]
    rw [decide_eq_true hFrom] at kFrom'
    clear hFrom
    go_enter Tryz.func105, Tryz.ntmps105
    go_wp2_with (first
      | (go_at_call 100; (with_reducible refine CF.out.mono ?_); rintro e w2 ⟨rfl, r2, g2⟩)
      | fail)
    refine bodyPost_ret (v := .tuple #[.iface 84 (.int .i64 ((nx (qNum tickB) l).1.getD zT).2.2.1), .bool (nx (qNum tickB) l).1.isSome]) (by simp [results, Tryz.results105, go_sem]) rfl ⟨_, _, ⟨by unfold mapV rdNum getN; rw [Option.isSome_map, Option.isSome_map], r2, g2⟩, ?_⟩
    unfold mapV rdNum getN
    dsimp only
    rw [Option.map_map]
    exact map_yes (fun t h => by rw [h]; rfl)
  rw [decide_eq_false hFrom] at kFrom'
  rw [if_neg hFrom]
  by_cases hNodes : s = kNodes
  · rw [if_pos hNodes]
    rw [decide_eq_true hNodes] at kNodes'
    clear hNodes
    go_enter Tryz.func105, Tryz.ntmps105
    go_wp2_with (first
      | (go_at_call 100; (with_reducible refine CN.out.mono ?_); rintro e w2 ⟨rfl, r2, g2⟩)
      | fail)
    refine bodyPost_ret (v := .tuple #[.iface 84 (.int .i64 ((nx (qNum sizeB) l).1.getD zT).2.2.1), .bool (nx (qNum sizeB) l).1.isSome]) (by simp [results, Tryz.results105, go_sem]) rfl ⟨_, _, ⟨by unfold mapV rdNum getN; rw [Option.isSome_map, Option.isSome_map], r2, g2⟩, ?_⟩
    unfold mapV rdNum getN
    dsimp only
    rw [Option.map_map]
    exact map_yes (fun t h => by rw [h]; rfl)
  rw [decide_eq_false hNodes] at kNodes'
  rw [if_neg hNodes]
  by_cases hAlt : s = kAlt
  · rw [if_pos hAlt]
    rw [decide_eq_true hAlt] at kAlt'
    clear hAlt
    go_enter Tryz.func105, Tryz.ntmps105
    go_wp2_with (first
      | (go_at_call 141; (with_reducible refine CA.out.mono ?_); rintro e w2 ⟨a, b, ⟨rfl, r2, g2⟩, hp⟩)
      | fail)
    refine bodyPost_ret (v := .tuple #[.iface 89 (.agg #[.int .i64 a, .int .i64 b]), .bool (rdOpt l).1.isSome]) (by simp [results, Tryz.results105, go_sem]) rfl ⟨_, _, ⟨by unfold mapV; rw [Option.isSome_map], r2, g2⟩, ?_⟩
    exact map_yes (fun p h => by rw [hp p h]; rfl)
  rw [decide_eq_false hAlt] at kAlt'
  rw [if_neg hAlt]
  by_cases hRange : s = kRange
  · rw [if_pos hRange]
    rw [decide_eq_true hRange] at kRange'
    clear hRange
    go_enter Tryz.func105, Tryz.ntmps105
    go_wp2_with (first
      | (go_at_call 142; (with_reducible refine CR.out.mono ?_); rintro e w2 ⟨a, b, ⟨rfl, r2, g2⟩, hp⟩)
      | fail)
    refine bodyPost_ret (v := .tuple #[.iface 91 (.agg #[.int .i64 a, .int .i64 b]), .bool (rdSpan l).1.isSome]) (by simp [results, Tryz.results105, go_sem]) rfl ⟨_, _, ⟨by unfold mapV; rw [Option.isSome_map], r2, g2⟩, ?_⟩
    exact map_yes (fun p h => by rw [hp p h]; rfl)
  rw [decide_eq_false hRange] at kRange'
  rw [if_neg hRange]
  by_cases hTime : s = kTime
  · rw [if_pos hTime]
    rw [decide_eq_true hTime] at kTime'
    clear hTime
    go_enter Tryz.func105, Tryz.ntmps105
    go_wp2_with (first
      | (go_at_call 143; (with_reducible refine CT.out.mono ?_); rintro e w2 ⟨rfl, r2, g2⟩)
      | fail)
    refine bodyPost_ret (v := .tuple #[.iface 92 (.int .i64 (tkOf ((nx qLen l).1.getD zT))), .bool (nx (qLen) l).1.isSome]) (by simp [results, Tryz.results105, go_sem]) rfl ⟨_, _, ⟨by unfold mapV rdLen getL; rw [Option.isSome_map, Option.isSome_map], r2, g2⟩, ?_⟩
    unfold mapV rdLen getL
    dsimp only
    rw [Option.map_map]
    exact map_yes (fun t h => by rw [h]; rfl)
  rw [decide_eq_false hTime] at kTime'
  rw [if_neg hTime]
  clear hU hA hPrio hFrom hNodes hAlt hRange hTime
  go_enter Tryz.func105, Tryz.ntmps105
  go_wp2_with (first
    | (go_at_call 144; (with_reducible refine CI.out.mono ?_); rintro e w2 ⟨rfl, r2, g2⟩)
    | fail)
  refine bodyPost_ret (v := .tuple #[.iface 86 (.int .i64 ((nx (qNum (idQ st)) l).1.getD zT).2.2.1), .bool (nx (qNum (idQ st)) l).1.isSome]) (by simp [results, Tryz.results105, go_sem]) rfl ⟨_, _, ⟨by unfold mapV rdNum getN; rw [Option.isSome_map, Option.isSome_map], r2, g2⟩, ?_⟩
  unfold mapV rdNum getN
  dsimp only
  rw [Option.map_map]
  exact map_yes (fun t h => by rw [h]; rfl)
end Go.Proofs.YtdkngidangfkiaaGreatDoor.Cmd
namespace Go.Proofs.YtdkngidangfkiaaGreatDoor.Cmd
open Go.RowKit
open Base
open Lex (Tok tkC tkC_length tokV zT)
open Shape (frB sizeB)
set_option linter.unusedVariables false
set_option linter.unusedSimpArgs false
theorem reads_keptS {α : Type} {k : Nat} {f : α → List Value} {w w' : World} {B : Nat} {ao : Option Addr} {l : List α} (h : ReadsS k f w ao l) (hg : w.grownBy w' (some B)) (hB : ∀ a, ao = some a → a.block < w.heap.size ∧ a.block ≠ B) : ReadsS k f w' ao l := by
  rcases h with h | ⟨b, off, rfl, hc⟩
  · exact .inl h
  · obtain ⟨h1, h2⟩ := hB _ rfl
    refine .inr ⟨b, off, rfl, fun j hj i hi => ?_⟩
    have hb := hg.block b h1 (by intro e; injection e with e; exact h2 e)
    rw [← hc j hj i hi]
    exact World.cell?_of_block hb
theorem cell_keptN {w w' : World} {B N i : Nat} {v : Value} (h : w.cell? ⟨N, i, none⟩ = some v) (hg : w.grownBy w' (some B)) (hN : N ≠ B) : w'.cell? ⟨N, i, none⟩ = some v := by
  rw [← h]; exact World.cell?_of_block (hg.block N (lt_of_cell h) (by intro e; injection e with e; exact hN e))
def fieldW (w : World) (k : Int) (sl : Value) : World := ((w.alloc (.cells #[.int .i64 k] 3)).alloc (.cells #[sl] 52)).alloc (.cells #[.string ⟨#[]⟩, .nilIface] 57)
theorem fieldW_below (w : World) (k : Int) (sl : Value) : Below w.heap.size w (fieldW w k sl) := (below_two _ _).trans ((below_one _).mono (by simp; omega))
theorem fieldW_cells (w : World) (k : Int) (sl : Value) : (fieldW w k sl).cell? ⟨w.heap.size, 0, none⟩ = some (.int .i64 k) ∧ (fieldW w k sl).cell? ⟨w.heap.size + 1, 0, none⟩ = some sl := by
  unfold fieldW
  have a1 : (w.alloc (.cells #[.int .i64 k] 3)).cell? ⟨w.heap.size, 0, none⟩ = some (.int .i64 k) := by rw [World.cell?_alloc_at _ _ _ _ rfl]; rfl
  have a2 : ((w.alloc (.cells #[.int .i64 k] 3)).alloc (.cells #[sl] 52)).cell? ⟨w.heap.size + 1, 0, none⟩ = some sl := by rw [World.cell?_alloc_at _ _ _ _ (by simp)]; rfl
  exact ⟨cell_below (cell_below a1 (below_one _)) (below_one _), cell_below a2 (below_one _)⟩
set_option maxRecDepth 100000 in
set_option maxHeartbeats 4000000 in
theorem field_any (u : World) (k : Int) (ao : Option Addr) (cap : Nat) (st : List Fd) (B n : Nat) (l : List Tok) (w : World) (hR : RdAt w B l n) (hs : ∀ t ∈ l, t.2.1.size ≤ 1000000) (hl : st.length ≤ 100000) (hr : ReadsS 2 fdC w ao st) (hst : ∀ a, ao = some a → a.block < w.heap.size ∧ a.block ≠ B) (hC : Ctx u w B) :
    Calls Tryz.prog 67 #[.pointer (some ⟨B, 0, none⟩), .int .i64 k, .slice ao st.length cap] w
      fun e w' => ∃ x v, RSays B n (.agg #[.string x, v]) (rdFd k st l).1.isSome (rdFd k st l).2 w e w' ∧ (v = .nilIface ∨ ∃ T y, v = .iface T y) ∧ ∀ f, (rdFd k st l).1 = some f → x = f.1 ∧ v = vlV f.2 := by
  have hlt := hR.lt
  have hb0 := fieldW_below w k (.slice ao st.length cap)
  obtain ⟨a1, a2⟩ := fieldW_cells w k (.slice ao st.length cap)
  have c1 := word_any 101 #[.pointer (some ⟨w.heap.size, 0, none⟩), .pointer (some ⟨w.heap.size + 1, 0, none⟩)] (qField k st) B n l (fieldW w k (.slice ao st.length cap)) (hR.below hb0) (fun t ht P w2 hb hP =>
    wordc_field t k ao cap st P w.heap.size (w.heap.size + 1) w2 hl (hr.below fdC_length (hb.from hb0)) ((hC.below hb0).below hb).now (cell_below a1 hb) (cell_below a2 hb) hP)
  have hC0 := hC.below hb0
  have hC1 : ∀ w2, (fieldW w k (.slice ao st.length cap)).grownBy w2 (some B) → Ctx u w2 B := fun w2 g => hC0.grown g
  have hr1 : ∀ w2, (fieldW w k (.slice ao st.length cap)).grownBy w2 (some B) → ReadsS 2 fdC w2 ao st := fun w2 g => reads_keptS hr (grown_trans (grown_of_below hb0 _) g) hst
  have hs1 : ∀ w2, (fieldW w k (.slice ao st.length cap)).grownBy w2 (some B) → w2.cell? ⟨w.heap.size + 1, 0, none⟩ = some (.slice ao st.length cap) := fun w2 g => cell_keptN a2 g (by omega)
  have s1 := nx_suffix (qWord (qField k st)) l
  have hlt2 : B < ((w.alloc (.cells #[.int .i64 k] 3)).alloc (.cells #[.slice ao st.length cap] 52)).heap.size := by simp; omega
  have hN : w.heap.size + 1 + 1 = ((w.alloc (.cells #[.int .i64 k] 3)).alloc (.cells #[.slice ao st.length cap] 52)).heap.size := by simp
  have hup : w.grownBy ((w.alloc (.cells #[.int .i64 k] 3)).alloc (.cells #[.slice ao st.length cap] 52)) (some B) := grown_of_below (below_two _ _) _
  unfold fieldW at c1 hC1 hr1 hs1
  have HC1 := Lib.hid hC1
  have HR1 := Lib.hid hr1
  have HS1 := Lib.hid hs1
  have HUP := Lib.hid hup
  have HN := Lib.hid hN
  have HLT := Lib.hid hlt2
  clear hC hC0 hC1 hr1 hs1 hR hr hst a1 a2 hb0 hup hN hlt2
  unfold RSays at c1
  rcases h1 : nx (qWord (qField k st)) l with ⟨_ | t1, r1⟩
  · have hD : rdFd k st l = (none, r1) := by unfold rdFd rdWord getW; rw [h1]; rfl
    rw [hD]
    rw [h1] at c1
    dsimp only [Option.getD, Option.isSome, zT] at c1 ⊢
    have C1 := Lib.hid c1
    clear c1 h1 hD s1 hs
    go_enter Tryz.func67, Tryz.ntmps67
    go_wp2_with (first
      | (go_at_call 63; (with_reducible refine C1.out.mono ?_); rintro e w2 ⟨rfl, r2, g2⟩; have R2 := Lib.hid r2; have G2 := Lib.hid g2; obtain ⟨_, e0, e1, ef, el⟩ := res2 HN.out HLT.out g2; clear r2 g2)
      | fail)
    obtain ⟨y0, y1, f3, f4⟩ := res2_fin (v0 := .string ⟨#[]⟩) (v1 := .nilIface) HN.out HLT.out G2.out R2.out
    refine bodyPost_ret (v := .tuple #[.agg #[.string ⟨#[]⟩, .nilIface], .bool false]) (by simp [results, Tryz.results67, go_sem, y0, y1]) rfl ?_
    exact ⟨_, _, ⟨rfl, f4, grown_trans HUP.out f3⟩, .inl rfl, fun p h => by simp at h⟩
  rw [h1] at c1 s1
  dsimp only [Option.getD, Option.isSome] at c1 s1
  obtain ⟨X, hX⟩ : ∃ X, X = t1.2.1 := ⟨_, rfl⟩
  rw [← hX] at c1
  have c2 := fun (w2 : World) (h2 : RdAt w2 B r1 n) => sign_any kEq B n r1 w2 h2
  have s2 := nx_suffix (qSign kEq) r1
  have C1 := Lib.hid c1
  clear c1
  rcases h2 : nx (qSign kEq) r1 with ⟨_ | t2, r2⟩
  · have hD : rdFd k st l = (none, r2) := by unfold rdFd rdWord getW; rw [h1]; dsimp only [Option.map]; rw [h2]
    rw [hD]
    rw [h2] at c2
    unfold kEq at c2
    dsimp only [Option.getD, Option.isSome] at c2 ⊢
    have C2 := Lib.hid c2
    clear c2 h1 h2 hD s1 s2 hs hX
    go_enter Tryz.func67, Tryz.ntmps67
    go_wp2_with (first
      | (go_at_call 63; (with_reducible refine C1.out.mono ?_); rintro e w2 ⟨rfl, r2, g2⟩; have R2 := Lib.hid r2; have G2 := Lib.hid g2; clear r2 g2)
      | (go_at_call 104; (with_reducible refine (C2.out _ R2.out).mono ?_); rintro e w3 ⟨rfl, r3, g3⟩; have R3 := Lib.hid r3; have G3 := Lib.hid (grown_trans G2.out g3); obtain ⟨_, e0, e1, ef, el⟩ := res2 HN.out HLT.out G3.out; clear r3 g3)
      | fail)
    obtain ⟨y0, y1, f3, f4⟩ := res2_fin (v0 := .string ⟨#[]⟩) (v1 := .nilIface) HN.out HLT.out G3.out R3.out
    refine bodyPost_ret (v := .tuple #[.agg #[.string ⟨#[]⟩, .nilIface], .bool false]) (by simp [results, Tryz.results67, go_sem, y0, y1]) rfl ?_
    exact ⟨_, _, ⟨rfl, f4, grown_trans HUP.out f3⟩, .inl rfl, fun p h => by simp at h⟩
  rw [h2] at c2 s2
  unfold kEq at c2
  dsimp only [Option.getD, Option.isSome] at c2 s2
  have hs2 : ∀ t ∈ r2, t.2.1.size ≤ 1000000 := fun t ht => hs t ((s2.trans s1).mem ht)
  have c3 := fun (w2 : World) (h2 : RdAt w2 B r2 n) (hr2 : ReadsS 2 fdC w2 ao st) (hC2 : Ctx u w2 B) => value_any u X ao cap st B n r2 w2 h2 hs2 hl hr2 hC2
  have C2 := Lib.hid c2
  clear c2
  have hD : rdFd k st l = ((rdVal X st r2).1.map (fun v => (X, v)), (rdVal X st r2).2) := by
    unfold rdFd rdWord getW; rw [h1]; dsimp only [Option.map]; rw [h2]; dsimp only
    rw [← hX]
    rcases h3 : rdVal X st r2 with ⟨_ | t3, r3⟩ <;> rfl
  rw [hD]
  obtain ⟨O, hO⟩ : ∃ O, O = (rdVal X st r2).1.isSome := ⟨_, rfl⟩
  obtain ⟨r3, hr3⟩ : ∃ r, r = (rdVal X st r2).2 := ⟨_, rfl⟩
  obtain ⟨Y, hY⟩ : ∃ Y, Y = (rdVal X st r2).1 := ⟨_, rfl⟩
  have hsome : ((rdVal X st r2).1.map (fun v => ((X, v) : Fd))).isSome = O := by rw [hO, Option.isSome_map]
  unfold RSays at c3 ⊢
  dsimp only
  rw [hsome, ← hr3, ← hY]
  rw [← hO, ← hr3, ← hY] at c3
  have C3 := Lib.hid c3
  clear c3 hsome h1 h2 hD s1 s2 hs hs2 hX hO hr3 hY
  go_enter Tryz.func67, Tryz.ntmps67
  go_wp2_with (first
    | (go_at_call 105; (with_reducible refine (C3.out _ R3.out (HR1.out _ G3.out) (HC1.out _ G3.out)).mono ?_); rintro e w4 ⟨T, y, ⟨rfl, r4, g4⟩, hv⟩; have R4 := Lib.hid r4; have G4 := Lib.hid (grown_trans G3.out g4); have HV := Lib.hid hv; obtain ⟨_, e0, e1, ef, el⟩ := res2 HN.out HLT.out G4.out; clear r4 g4 hv)
    | (go_at_call 63; (with_reducible refine C1.out.mono ?_); rintro e w2 ⟨rfl, r2, g2⟩; have R2 := Lib.hid r2; have G2 := Lib.hid g2; clear r2 g2)
    | (go_at_call 104; (with_reducible refine (C2.out _ R2.out).mono ?_); rintro e w3 ⟨rfl, r3, g3⟩; have R3 := Lib.hid r3; have G3 := Lib.hid (grown_trans G2.out g3); have hst3 := HS1.out _ G3.out; clear r3 g3)
    | fail)
  obtain ⟨y0, y1, f3, f4⟩ := res2_fin (v0 := .string X) (v1 := .iface T y) HN.out HLT.out G4.out R4.out
  refine bodyPost_ret (v := .tuple #[.agg #[.string X, .iface T y], .bool O]) (by simp [results, Tryz.results67, go_sem, y0, y1]) rfl ?_
  exact ⟨X, _, ⟨rfl, f4, grown_trans HUP.out f3⟩, .inr ⟨_, _, rfl⟩, map_yes (fun x h => ⟨rfl, HV.out x h⟩)⟩
end Go.Proofs.YtdkngidangfkiaaGreatDoor.Cmd
