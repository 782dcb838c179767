/-
  Joined out of: The walks of what lays a field into a command.
-/
import Derived.Test.YtdkngidangfkiaaGreatDoorJa22
import Derived.Deep.RegionLaw
import Derived.Deep.AppendLies
namespace Go.Proofs.YtdkngidangfkiaaGreatDoor.Cmd
open Go.RowKit
open Base
open Shape (altC altC_length)
set_option linter.unusedVariables false
set_option linter.unusedSimpArgs false
def LaySays (b C : Nat) (c : Co) (w : World) (e : Ending) (w' : World) : Prop := e = .returned (.tuple #[]) ∧ (∃ va vd, COwn w' b C c va vd) ∧ LayK b C w w'
set_option maxRecDepth 100000 in
set_option maxHeartbeats 800000 in
theorem layNumber_any (b C : Nat) (c : Co) (va vd : Value) (s : ByteArray) (n : Int) (w : World) (h : COwn w b C c va vd) :
    Calls Tryz.prog 106 #[.pointer (some ⟨C, 0, none⟩), .string s, .int .i64 n] w fun e w' => LaySays b C (layC c (s, .num n)) w e w' := by
  have hlt := h.isLt
  have d10 := h.cell 10 _ rfl
  have d11 := h.cell 11 _ rfl
  have d16 := h.cell 16 _ rfl
  have d17 := h.cell 17 _ rfl
  have ff := h.frozen
  have H := Lib.hid h
  have k1 := key_prio s
  have k2 := key_from s
  have k3 := key_nodes s
  unfold layC
  dsimp only
  clear h
  by_cases h1 : s = kPrio
  · rw [if_pos h1]
    rw [decide_eq_true h1] at k1
    clear h1
    go_enter Tryz.func106, Tryz.ntmps106
    go_wp2
    refine bodyPost_ret (v := .tuple #[]) (by simp [results, Tryz.results106, go_sem]) rfl ⟨rfl, ⟨va, vd, ?_⟩, ?_⟩
    · exact COwn.set (c := { c with prio := n }) (c' := { c with prio := n, hasPrio := true }) (H.out.set (c' := { c with prio := n }) 10 (.int .i64 n) rfl rfl rfl) 11 (.bool true) rfl rfl rfl
    · exact ((LayK.refl _ _ _).set _ _).set _ _
  · rw [if_neg h1]
    rw [decide_eq_false h1] at k1
    by_cases h2 : s = kFrom
    · rw [if_pos h2]
      rw [decide_eq_true h2] at k2
      clear h1 h2
      go_enter Tryz.func106, Tryz.ntmps106
      go_wp2
      refine bodyPost_ret (v := .tuple #[]) (by simp [results, Tryz.results106, go_sem]) rfl ⟨rfl, ⟨va, vd, ?_⟩, (LayK.refl _ _ _).set _ _⟩
      exact H.out.set (c' := { c with frm := n }) 17 (.int .i64 n) rfl rfl rfl
    · rw [if_neg h2]
      rw [decide_eq_false h2] at k2
      by_cases h3 : s = kNodes
      · rw [if_pos h3]
        rw [decide_eq_true h3] at k3
        clear h1 h2 h3
        go_enter Tryz.func106, Tryz.ntmps106
        go_wp2
        refine bodyPost_ret (v := .tuple #[]) (by simp [results, Tryz.results106, go_sem]) rfl ⟨rfl, ⟨va, vd, ?_⟩, (LayK.refl _ _ _).set _ _⟩
        exact H.out.set (c' := { c with nodes := n }) 16 (.int .i64 n) rfl rfl rfl
      · rw [if_neg h3]
        rw [decide_eq_false h3] at k3
        clear h1 h2 h3
        go_enter Tryz.func106, Tryz.ntmps106
        go_wp2
        refine bodyPost_ret (v := .tuple #[]) (by simp [results, Tryz.results106, go_sem]) rfl ⟨rfl, ⟨va, vd, H.out⟩, LayK.refl _ _ _⟩
set_option maxRecDepth 100000 in
theorem info_dep : (Tryz.prog.info? 64).map (fun i => (i.zero, i.size, i.bytes)) = some (some (.agg #[.int .i64 0, .int .i64 0]), 2, 16) := by kernel_rfl
set_option maxRecDepth 100000 in
theorem info_alt : (Tryz.prog.info? 88).map (fun i => (i.zero, i.size, i.bytes)) = some (some (.agg #[.int .i64 0, .int .i64 0]), 2, 16) := by kernel_rfl
theorem altC_one (a : Int × Int) : ∀ u ∈ altC a, u.oneCell' = true := by
  intro u hu
  simp only [altC, List.mem_cons, List.not_mem_nil, or_false] at hu
  rcases hu with rfl | rfl <;> rfl
theorem cell_pair_new (w : World) (a : Int × Int) (T : TypeId) (B : Nat) (hB : B = w.heap.size) : ∀ j u, (altC a)[j]? = some u → (w.alloc (.cells #[.int .i64 a.1, .int .i64 a.2] T)).cell? ((⟨B, 0, none⟩ : Addr).add j) = some u := by
  subst hB
  intro j u h
  rw [Go.WideShapes.add_plain, World.cell?_alloc_at _ _ _ _ rfl, Nat.zero_add]
  rw [← h]
  simp [altC]
theorem step_wp {P : Program} {ops : Array Oper} {o : Oper} {a : Act} {w : World} {K : Act → World → Prop} {Q : Exit → Act → World → Prop} {E : Prop} (hgd : o.guard = none) (h : Oper.wp P o a w K Q) :
    if Region.wanted o (yielded ops a.tmps) = true then Oper.wp P o a w K Q else E := by
  have hw : Region.wanted o (yielded ops a.tmps) = true := by simp [Region.wanted, hgd]
  rw [if_pos hw]
  exact h
theorem cown_after {w W w4 : World} {b C : Nat} {c : Co} {va vd vd' : Value} {p : Int × Int} (h : COwn w b C c va vd) (hW : Below w.heap.size w W) (o4 : w4.ownsRow b 64 2 vd' (c.after.length + 1) (c.after.flatMap altC ++ altC p)) (g4 : W.grownBy w4 vd.ownBlock) :
    COwn (w4.setCell ⟨C, 14, none⟩ vd') b C { c with after := c.after ++ [p] } va vd' ∧ LayK b C w (w4.setCell ⟨C, 14, none⟩ vd') ∧ w4.cell? ⟨C, 14, none⟩ = some vd ∧ w4.frozen? ⟨C, 14, none⟩ = false := by
  have hw := h.below hW
  have hty : ∀ g, vd.ownBlock = some g → b ≤ g ∧ ∃ cur, W.heap[g]? = some (.cells cur 64) := fun g hg => by
    obtain ⟨h1, h2, cur, h3⟩ := own_at hw.after g hg
    exact ⟨h1, cur, h3⟩
  have hC : w4.heap[C]? = W.heap[C]? := g4.block C hw.isLt (by
    intro e
    have := (hty C e.symm).1
    have := h.lt
    omega)
  have hblk : w4.heap[C]? = some (.cells (cmdArr c va vd) 27) := by rw [hC]; exact hw.blk
  have hsz : b ≤ w4.heap.size := Nat.le_trans hw.after.2 g4.size
  have oA : OwnS 2 altC b 88 va c.alts w4 := own_other hw.alts g4 (fun g hg => by
    obtain ⟨_, cur, h3⟩ := hty g hg
    exact .inr ⟨cur, _, h3, by decide⟩)
  have oD : OwnS 2 altC b 64 vd' (c.after ++ [p]) w4 := by
    refine ⟨?_, hsz⟩
    rw [List.length_append, List.flatMap_append]
    simpa using o4
  refine ⟨⟨?_, h.lt, oA.kept (grown_set _ _ _) (fun k hk => by injection hk with hk; subst hk; exact h.lt), oD.kept (grown_set _ _ _) (fun k hk => by injection hk with hk; subst hk; exact h.lt)⟩, ?_, ?_, ?_⟩
  · rw [heap_set_same hblk]; rfl
  · exact ((LayK.below hW).trans (LayK.own hw.after (.inr rfl) g4)).set _ _
  · simp [World.cell?, hblk, cmdArr]
  · simp [World.frozen?, hblk]
theorem cown_alts {w W w4 : World} {b C : Nat} {c : Co} {va vd va' : Value} {p : Int × Int} (h : COwn w b C c va vd) (hW : Below w.heap.size w W) (o4 : w4.ownsRow b 88 2 va' (c.alts.length + 1) (c.alts.flatMap altC ++ altC p)) (g4 : W.grownBy w4 va.ownBlock) :
    COwn (w4.setCell ⟨C, 6, none⟩ va') b C { c with alts := c.alts ++ [p] } va' vd ∧ LayK b C w (w4.setCell ⟨C, 6, none⟩ va') ∧ w4.cell? ⟨C, 6, none⟩ = some va ∧ w4.frozen? ⟨C, 6, none⟩ = false := by
  have hw := h.below hW
  have hty : ∀ g, va.ownBlock = some g → b ≤ g ∧ ∃ cur, W.heap[g]? = some (.cells cur 88) := fun g hg => by
    obtain ⟨h1, h2, cur, h3⟩ := own_at hw.alts g hg
    exact ⟨h1, cur, h3⟩
  have hC : w4.heap[C]? = W.heap[C]? := g4.block C hw.isLt (by
    intro e
    have := (hty C e.symm).1
    have := h.lt
    omega)
  have hblk : w4.heap[C]? = some (.cells (cmdArr c va vd) 27) := by rw [hC]; exact hw.blk
  have hsz : b ≤ w4.heap.size := Nat.le_trans hw.alts.2 g4.size
  have oD : OwnS 2 altC b 64 vd c.after w4 := own_other hw.after g4 (fun g hg => by
    obtain ⟨_, cur, h3⟩ := hty g hg
    exact .inr ⟨cur, _, h3, by decide⟩)
  have oA : OwnS 2 altC b 88 va' (c.alts ++ [p]) w4 := by
    refine ⟨?_, hsz⟩
    rw [List.length_append, List.flatMap_append]
    simpa using o4
  refine ⟨⟨?_, h.lt, oA.kept (grown_set _ _ _) (fun k hk => by injection hk with hk; subst hk; exact h.lt), oD.kept (grown_set _ _ _) (fun k hk => by injection hk with hk; subst hk; exact h.lt)⟩, ?_, ?_, ?_⟩
  · rw [heap_set_same hblk]; rfl
  · exact ((LayK.below hW).trans (LayK.own hw.alts (.inl rfl) g4)).set _ _
  · simp [World.cell?, hblk, cmdArr]
  · simp [World.frozen?, hblk]
set_option maxRecDepth 100000 in
set_option maxHeartbeats 800000 in
theorem lay_plain (b C : Nat) (c : Co) (va vd : Value) (f : Fd) (w : World) (h : COwn w b C c va vd) (hv : (∃ s, f.2 = .word s) ∨ (∃ n, f.2 = .num n) ∨ (∃ n, f.2 = .tk n) ∨ ∃ p q, f.2 = .span p q) :
    Calls Tryz.prog 68 #[.pointer (some ⟨C, 0, none⟩), fdV f] w fun e w' => LaySays b C (layC c f) w e w' := by
  obtain ⟨x, v⟩ := f
  dsimp only at hv
  have hlt := h.isLt
  have ff := h.frozen
  have H := Lib.hid h
  rcases hv with ⟨s, rfl⟩ | ⟨n, rfl⟩ | ⟨n, rfl⟩ | ⟨p, q, rfl⟩
  · have d3 : w.cell? ⟨C, 3, none⟩ = some (.string c.user) := h.cell 3 _ rfl
    have d4 : w.cell? ⟨C, 4, none⟩ = some (.string c.account) := h.cell 4 _ rfl
    have a1 := as_word_word
    have k1 := key_user x
    unfold layC fdV
    dsimp only [vlV]
    clear h
    by_cases h1 : x = kUser
    · rw [if_pos h1]
      rw [decide_eq_true h1] at k1
      clear h1
      go_enter Tryz.func68, Tryz.ntmps68
      go_wp2
      refine bodyPost_ret (v := .tuple #[]) (by simp [results, Tryz.results68, go_sem]) rfl ⟨rfl, ⟨va, vd, ?_⟩, ?_⟩
      · exact (H.out.set (c' := { c with user := s }) 3 (.string s) rfl rfl rfl).below (below_one _)
      · exact ((LayK.refl _ _ _).set _ _).new _
    · rw [if_neg h1]
      rw [decide_eq_false h1] at k1
      clear h1
      go_enter Tryz.func68, Tryz.ntmps68
      go_wp2
      refine bodyPost_ret (v := .tuple #[]) (by simp [results, Tryz.results68, go_sem]) rfl ⟨rfl, ⟨va, vd, ?_⟩, ?_⟩
      · exact (H.out.set (c' := { c with account := s }) 4 (.string s) rfl rfl rfl).below (below_one _)
      · exact ((LayK.refl _ _ _).set _ _).new _
  · have c1 := fun (w2 : World) (hb : Below w.heap.size w w2) => layNumber_any b C c va vd x n w2 (h.below hb)
    have C1 := Lib.hid c1
    have a1 := as_num_word
    have a2 := as_num_num
    unfold fdV
    dsimp only [vlV]
    clear h c1
    go_enter Tryz.func68, Tryz.ntmps68
    go_wp2_with (first
      | (go_at_call 106; (with_reducible refine (C1.out _ (by (focus repeat (first | exact Below.refl _ _ | assumption | (exact Hid.out (by assumption)) | (with_reducible refine Below.drew ?_) | (with_reducible refine Base.below_drewN ?_ _) | (refine Below.from (below_one _) ?_) | (refine Below.from (below_conv _ _ _) ?_) | (refine Below.setCell ?_ (by simp <;> omega) _) | (refine Below.from (by assumption) ?_))))).mono ?_); rintro e w2 ⟨rfl, q2, g2⟩)
      | fail)
    refine bodyPost_ret (v := .tuple #[]) (by simp [results, Tryz.results68, go_sem]) rfl ⟨rfl, q2, (LayK.below (below_one _)).trans g2⟩
  · have a1 := as_tk_word
    have a2 := as_tk_num
    have a3 := as_tk_id
    have a4 := as_tk_tk
    have d12 : w.cell? ⟨C, 12, none⟩ = some (.int .i64 c.time) := h.cell 12 _ rfl
    have d13 : w.cell? ⟨C, 13, none⟩ = some (.bool c.hasTime) := h.cell 13 _ rfl
    unfold layC fdV
    dsimp only [vlV]
    clear h
    go_enter Tryz.func68, Tryz.ntmps68
    go_wp2
    refine bodyPost_ret (v := .tuple #[]) (by simp [results, Tryz.results68, go_sem]) rfl ⟨rfl, ⟨va, vd, ?_⟩, ?_⟩
    · exact (COwn.set (c := { c with time := n }) (c' := { c with time := n, hasTime := true }) (H.out.set (c' := { c with time := n }) 12 (.int .i64 n) rfl rfl rfl) 13 (.bool true) rfl rfl rfl).below (below_one _)
    · exact (((LayK.refl _ _ _).set _ _).set _ _).new _
  · have a1 := as_span_word
    have a2 := as_span_num
    have a3 := as_span_id
    have a4 := as_span_tk
    have a5 := as_span_opt
    have a6 := as_span_span
    have d7 : w.cell? ⟨C, 7, none⟩ = some (.int .i64 c.mn) := h.cell 7 _ rfl
    have d8 : w.cell? ⟨C, 8, none⟩ = some (.int .i64 c.mx) := h.cell 8 _ rfl
    unfold layC fdV
    dsimp only [vlV]
    clear h
    go_enter Tryz.func68, Tryz.ntmps68
    go_wp2
    go_region
    all_goals
      go_wp2
      refine bodyPost_ret (v := .tuple #[]) (by simp [results, Tryz.results68, go_sem]) rfl ⟨rfl, ⟨va, vd, ?_⟩, ?_⟩
      · exact ((COwn.set (c := { c with mn := p }) (c' := { c with mn := p, mx := q }) (H.out.set (c' := { c with mn := p }) 7 (.int .i64 p) rfl rfl rfl) 8 (.int .i64 q) rfl rfl rfl).below (below_two _ _).drew)
      · exact (((LayK.refl _ _ _).set _ _).set _ _).trans (LayK.below (below_two _ _).drew)
set_option maxRecDepth 100000 in
set_option maxHeartbeats 1000000 in
theorem lay_id (b C : Nat) (c : Co) (va vd : Value) (x : ByteArray) (n : Int) (w : World) (h : COwn w b C c va vd) (hT : Tb w) (hs2 : c.after.length ≤ 1000) :
    Calls Tryz.prog 68 #[.pointer (some ⟨C, 0, none⟩), fdV (x, .id n)] w fun e w' => LaySays b C (layC c (x, .id n)) w e w' := by
  have hlt := h.isLt
  have a1 := as_id_word
  have a2 := as_id_num
  have a3 := as_id_id
  have d14 : w.cell? ⟨C, 14, none⟩ = some vd := h.cell 14 _ rfl
  have ff := h.frozen
  have c1 := fun (w2 : World) (hb : Below w.heap.size w w2) => howOf_any x w2 (hT.later hb)
  have H := Lib.hid h
  obtain ⟨i0, hi, hz0, hz1, hz2⟩ := info_parts info_dep
  have HI := Lib.hid hi
  have HZ0 := Lib.hid hz0
  have HZ1 := Lib.hid hz1
  have HZ2 := Lib.hid hz2
  unfold layC fdV
  dsimp only [vlV]
  obtain ⟨q, hq⟩ : ∃ q, q = howN x := ⟨_, rfl⟩
  rw [← hq] at c1 ⊢
  have C1 := Lib.hid c1
  have hW : Below w.heap.size w ((w.alloc (.cells #[.string x, .iface 86 (.int .i64 n)] 57)).drew.alloc (.cells #[.int .i64 (q : Int), .int .i64 n] 64)) := ((below_one _).drew).trans ((below_one _).mono (by simp))
  have HW := Lib.hid hW
  have HOD := Lib.hid (h.below hW).after.1
  have HBS := Lib.hid (h.below hW).after.2
  have HNEW := Lib.hid (cell_pair_new (w.alloc (.cells #[.string x, .iface 86 (.int .i64 n)] 57)).drew ((q : Int), n) 64 (w.heap.size + 1) (by simp))
  clear hi hz0 hz1 hz2 h hT c1 hq hW
  go_enter Tryz.func68, Tryz.ntmps68
  go_wp2
  go_region_law (first
    | (refine step_wp rfl ?_; unfold Oper.wp; go_simp; go_at_call 107; refine (C1.out _ (by (focus repeat (first | exact Below.refl _ _ | assumption | (exact Hid.out (by assumption)) | (with_reducible refine Below.drew ?_) | (with_reducible refine Base.below_drewN ?_ _) | (refine Below.from (below_one _) ?_) | (refine Below.from (below_conv _ _ _) ?_) | (refine Below.setCell ?_ (by simp <;> omega) _) | (refine Below.from (by assumption) ?_))))).mono ?_; rintro e w1 ⟨rfl, rfl⟩)
    | (refine step_append_lies _ rfl (.tmp 41) (.tmp 47) 25 rfl b 64 i0 _ 2 16 Tryz.underlying25 HI.out HZ0.out HZ1.out HZ2.out rfl (by decide) vd c.after.length (c.after.flatMap altC) (by simp [Act.eval, Act.put]) HOD.out ⟨w.heap.size + 1, 0, none⟩ 1 1 (altC ((q : Int), n)) (by simp [Act.eval, Act.put]) rfl HNEW.out (altC_one _) (by decide) (by unfold maxLen; omega) (by omega) HBS.out _ rfl ?_; intro g cap4 w4 o4 g4 hat hlt4; obtain ⟨f1, f2, f3, f4⟩ := cown_after H.out HW.out o4 g4; have F1 := Lib.hid f1; have F2 := Lib.hid f2; clear f1 f2 o4 g4))
  all_goals
    go_wp2
    refine bodyPost_ret (v := .tuple #[]) (by simp [results, Tryz.results68, go_sem]) rfl ⟨rfl, ⟨va, _, F1.out⟩, F2.out⟩
set_option maxRecDepth 100000 in
set_option maxHeartbeats 1000000 in
theorem lay_opt (b C : Nat) (c : Co) (va vd : Value) (x : ByteArray) (p q : Int) (w : World) (h : COwn w b C c va vd) (hs1 : c.alts.length ≤ 1000) :
    Calls Tryz.prog 68 #[.pointer (some ⟨C, 0, none⟩), fdV (x, .opt p q)] w fun e w' => LaySays b C (layC c (x, .opt p q)) w e w' := by
  have hlt := h.isLt
  have a1 := as_opt_word
  have a2 := as_opt_num
  have a3 := as_opt_id
  have a4 := as_opt_tk
  have a5 := as_opt_opt
  have d6 : w.cell? ⟨C, 6, none⟩ = some va := h.cell 6 _ rfl
  have ff := h.frozen
  have d6b := cell_below d6 (below_two (.cells #[.string x, .iface 89 (.agg #[.int .i64 p, .int .i64 q])] 57) (.cells #[.int .i64 p, .int .i64 q] 89))
  have d6c := cell_below d6b (below_one (.cells #[.int .i64 p, .int .i64 q] 88))
  have H := Lib.hid h
  obtain ⟨i0, hi, hz0, hz1, hz2⟩ := info_parts info_alt
  have HI := Lib.hid hi
  have HZ0 := Lib.hid hz0
  have HZ1 := Lib.hid hz1
  have HZ2 := Lib.hid hz2
  unfold layC fdV
  dsimp only [vlV]
  have hW : Below w.heap.size w (((w.alloc (.cells #[.string x, .iface 89 (.agg #[.int .i64 p, .int .i64 q])] 57)).alloc (.cells #[.int .i64 p, .int .i64 q] 89)).drew.alloc (.cells #[.int .i64 p, .int .i64 q] 88)) := ((below_two _ _).drew).trans ((below_one _).mono (by simp; omega))
  have HW := Lib.hid hW
  have HOD := Lib.hid (h.below hW).alts.1
  have HBS := Lib.hid (h.below hW).alts.2
  have HNEW := Lib.hid (cell_pair_new ((w.alloc (.cells #[.string x, .iface 89 (.agg #[.int .i64 p, .int .i64 q])] 57)).alloc (.cells #[.int .i64 p, .int .i64 q] 89)).drew (p, q) 88 (w.heap.size + 1 + 1) (by simp))
  clear hi hz0 hz1 hz2 h hW
  go_enter Tryz.func68, Tryz.ntmps68
  go_wp2
  go_region_law (refine step_append_lies _ rfl (.tmp 69) (.tmp 71) 22 rfl b 88 i0 _ 2 16 Tryz.underlying22 HI.out HZ0.out HZ1.out HZ2.out rfl (by decide) va c.alts.length (c.alts.flatMap altC) (by simp [Act.eval, Act.put]) HOD.out ⟨w.heap.size + 1 + 1, 0, none⟩ 1 1 (altC (p, q)) (by simp [Act.eval, Act.put]) rfl HNEW.out (altC_one _) (by decide) (by unfold maxLen; omega) (by omega) HBS.out _ rfl ?_; intro g cap4 w4 o4 g4 hat hlt4; obtain ⟨f1, f2, f3, f4⟩ := cown_alts H.out HW.out o4 g4; have F1 := Lib.hid f1; have F2 := Lib.hid f2; clear f1 f2 o4 g4)
  all_goals
    go_wp2
    refine bodyPost_ret (v := .tuple #[]) (by simp [results, Tryz.results68, go_sem]) rfl ⟨rfl, ⟨_, vd, F1.out⟩, F2.out⟩
theorem lay_any (b C : Nat) (c : Co) (va vd : Value) (f : Fd) (w : World) (h : COwn w b C c va vd) (hT : Tb w) (hs1 : c.alts.length ≤ 1000) (hs2 : c.after.length ≤ 1000) :
    Calls Tryz.prog 68 #[.pointer (some ⟨C, 0, none⟩), fdV f] w fun e w' => LaySays b C (layC c f) w e w' := by
  obtain ⟨x, v⟩ := f
  cases v with
  | word s => exact lay_plain b C c va vd _ w h (.inl ⟨s, rfl⟩)
  | num n => exact lay_plain b C c va vd _ w h (.inr (.inl ⟨n, rfl⟩))
  | id n => exact lay_id b C c va vd x n w h hT hs2
  | tk n => exact lay_plain b C c va vd _ w h (.inr (.inr (.inl ⟨n, rfl⟩)))
  | opt p q => exact lay_opt b C c va vd x p q w h hs1
  | span p q => exact lay_plain b C c va vd _ w h (.inr (.inr (.inr ⟨p, q, rfl⟩)))
end Go.Proofs.YtdkngidangfkiaaGreatDoor.Cmd
