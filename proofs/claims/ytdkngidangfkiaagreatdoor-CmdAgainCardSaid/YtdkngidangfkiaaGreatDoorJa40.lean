/-
  Joined out of: The walk of what takes a command: its fields.
-/
import Derived.Test.YtdkngidangfkiaaGreatDoorJa28
import Derived.Deep.LoopGhost
namespace Go.Proofs.YtdkngidangfkiaaGreatDoor.Cmd
open Go.RowKit
open Base
open Lex (Tok tkC tkC_length tokV zT)
open Shape (altC altC_length)
set_option linter.unusedVariables false
set_option linter.unusedSimpArgs false
theorem info_fd : (Tryz.prog.info? 57).map (fun i => (i.zero, i.size, i.bytes)) = some (some (.agg #[.string ⟨#[]⟩, .nilIface]), 2, 32) := by kernel_rfl
theorem fdC_one (a : Fd) : ∀ u ∈ fdC a, u.oneCell' = true := by
  intro u hu
  obtain ⟨T, y, hy⟩ := vl_cases a.2
  simp only [fdC, hy, List.mem_cons, List.not_mem_nil, or_false] at hu
  rcases hu with rfl | rfl <;> rfl
theorem cell_own {X w7 : World} {r : Option Nat} {F i : Nat} {v : Value} (h : X.cell? ⟨F, i, none⟩ = some v) (g : X.grownBy w7 r) (hr : r ≠ some F) : w7.cell? ⟨F, i, none⟩ = some v :=
  (World.cell?_of_block (g.block F (lt_of_cell h) (fun e => hr e.symm))).trans h
theorem gather_after (c : Co) : (gatherC c).after = c.after := by
  unfold gatherC
  repeat' split
  all_goals rfl
def sliceN : Value → Nat
  | .slice _ n _ => n
  | _ => 0
theorem rdTgt_some {k : Int} {r r2 : List Tok} {c : Co} (h : rdTgt (zCo k) r = (some c, r2)) : c.kind = k ∧ c.alts = [] ∧ c.after = [] := by
  unfold rdTgt at h
  repeat' split at h
  all_goals simp only [Prod.mk.injEq, Option.map_eq_some_iff, Option.some.injEq] at h
  · obtain ⟨rfl, _⟩ := h; exact ⟨rfl, rfl, rfl⟩
  · obtain ⟨⟨_, _, rfl⟩, _⟩ := h; exact ⟨rfl, rfl, rfl⟩
  · obtain ⟨⟨_, _, rfl⟩, _⟩ := h; exact ⟨rfl, rfl, rfl⟩
  · obtain ⟨⟨_, _, rfl⟩, _⟩ := h; exact ⟨rfl, rfl, rfl⟩
theorem rdTgt_few {k : Int} {r r2 : List Tok} {o : Option Co} (h : rdTgt (zCo k) r = (o, r2)) : r2 <:+ r := by
  have := rdTgt_suffix (zCo k) r
  rw [h] at this; exact this
structure RunRel (B C R n : Nat) (k : Int) (w : World) (A : Option (Co × List Fd) × List Tok) (v : Value) (wr : World) (c : Co) (st : List Fd) (q : List Tok) (va vd : Value) : Prop where
  rd : RdAt wr B q n
  own : COwn wr (C + 1) C c va vd
  stand : OwnS 2 fdC (C + 1) 57 v st wr
  zero : ZAt wr R
  grown : w.grownBy wr (some B)
  kind : c.kind = k
  few : st.length + q.length ≤ 500
  alts : c.alts.length ≤ st.length
  after : c.after.length ≤ st.length
  small : ∀ t ∈ q, t.2.1.size ≤ 1000000
  goes : rdLoop q.length c st q = A
def finC : Option (Co × List Fd) → Option Co
  | none => none
  | some (c, st) => if lacksB c.kind st = true then none else some (gatherC c)
set_option maxRecDepth 100000 in
set_option maxHeartbeats 2000000 in
theorem command_loop (u : World) (B n : Nat) (l : List Tok) (w : World) (hR : RdAt w B l n) (hs : ∀ t ∈ l, t.2.1.size ≤ 1000000) (hl : l.length ≤ 500) (hC : Ctx u w B) (t : Tok) (r r2 : List Tok) (c0 : Co) (h0 : nx (qWord qK) l = (some t, r)) (h1 : rdTgt (zCo (kindN t.2.1 : Nat)) r = (some c0, r2)) :
    Calls Tryz.prog 40 #[.pointer (some ⟨B, 0, none⟩)] w fun e w' => CmdSays B n (finC (rdLoop r2.length c0 [] r2).1) (rdLoop r2.length c0 [] r2).2 w e w' := by
  have hlt := hR.lt
  have hb0 : Below w.heap.size w (w.alloc (.cells zArr 27)) := below_one _
  have c1 := word_any 64 #[] qK B n l (w.alloc (.cells zArr 27)) (hR.below hb0) (fun t ht P w2 hb hP => wordc_cmd t P w2 ((hC.below hb0).below hb).now hP)
  have hC0 := hC.below hb0
  have hC1 : ∀ w2, (w.alloc (.cells zArr 27)).grownBy w2 (some B) → Tb w2 := fun w2 g => (hC0.grown g).now
  have s1 := nx_suffix (qWord qK) l
  rw [h0] at c1 s1
  have hs2 : ∀ t ∈ r, t.2.1.size ≤ 1000000 := fun t ht => hs t (s1.mem ht)
  have hs3 : ∀ t ∈ r2, t.2.1.size ≤ 1000000 := fun t ht => hs2 t ((rdTgt_few h1).mem ht)
  have hl3 : r2.length ≤ 500 := Nat.le_trans ((rdTgt_few h1).trans s1).length_le hl
  unfold RSays at c1
  dsimp only [Option.getD, Option.isSome] at c1
  obtain ⟨s, hs0⟩ : ∃ s, s = t.2.1 := ⟨_, rfl⟩
  rw [← hs0] at c1 h1
  obtain ⟨k, hk⟩ : ∃ k : Nat, k = kindN s := ⟨_, rfl⟩
  rw [← hk] at h1
  obtain ⟨k1, k2, k3⟩ := rdTgt_some h1
  have HC := Lib.hid hC
  have C1 := Lib.hid c1
  have HC1 := Lib.hid hC1
  have HB := Lib.hid hlt
  have H1 := Lib.hid h1
  have HS2 := Lib.hid hs2
  have HS3 := Lib.hid hs3
  have HL3 := Lib.hid hl3
  have HK := Lib.hid hk
  have HK1 := Lib.hid k1
  have HK2 := Lib.hid k2
  have HK3 := Lib.hid k3
  obtain ⟨A, hA⟩ : ∃ A, A = rdLoop r2.length c0 [] r2 := ⟨_, rfl⟩
  rw [← hA]
  have HA := Lib.hid hA
  clear c1 hC1 hC0 hb0 hR hC h0 h1 hs hs2 hs3 hl3 hl s1 hs0 hk k1 k2 k3 hA
  unfold zArr at *
  go_enter Tryz.func40, Tryz.ntmps40
  go_upto_region 3 with (first
    | (go_at_call 63; (with_reducible refine C1.out.mono ?_); rintro e w2 ⟨rfl, r2, g2⟩; have R2 := Lib.hid r2; have G2 := Lib.hid g2; clear r2 g2)
    | (go_at_call 65; (with_reducible refine (kindOf_any _ _ (HC1.out _ G2.out)).mono ?_); rw [← HK.out]; rintro e w3 ⟨rfl, rfl⟩)
    | fail)
  obtain ⟨hz3, R3, G3, O3, hlt3⟩ := run_start (T := r) HB.out G2.out R2.out (k : Int)
  unfold kArr at R3 G3 hz3 O3
  obtain ⟨W3, hW⟩ : ∃ W3, W3 = (w2.alloc (.cells #[.int .i64 (k : Nat), .int .i64 0, .string ⟨#[]⟩, .string ⟨#[]⟩, .string ⟨#[]⟩, .int .i64 0, .slice none 0 0, .int .i64 0, .int .i64 0, .int .i64 0, .int .i64 0, .bool false, .int .i64 0, .bool false, .slice none 0 0, .int .i64 0, .int .i64 0, .int .i64 0] 27)) := ⟨_, rfl⟩
  rw [← hW] at R3 G3 hz3 O3 ⊢
  clear hW
  have cT := target_any (w2.heap.size + 1) B w2.heap.size n (zCo k) _ _ r W3 R3.out HS2.out O3.out hlt3.2
  unfold TgSays at cT
  rw [H1.out] at cT
  dsimp only [Option.isSome] at cT
  have CT := Lib.hid cT
  clear cT
  obtain ⟨C, hC⟩ : ∃ C, C = w2.heap.size := ⟨_, rfl⟩
  rw [← hC] at CT O3 hlt3 ⊢
  clear hC G2 R2
  go_wp2_with (first
    | (go_at_call 66; go_loud ((with_reducible refine CT.out.mono ?_); rintro e w4 ⟨rfl, r4, ⟨c4, o4, q4⟩, k4⟩; have hz4 := Lib.hid (hz3.tgk k4 (by omega) (by omega)); have R4 := Lib.hid r4; have K4 := Lib.hid (k4.up G3.out (Nat.le_of_lt hlt3.1)); obtain rfl := q4 c0 rfl; have O4 := Lib.hid o4; clear r4 k4 o4 q4 hz3))
    | fail)
  go_loopw [7] (fun v wr => ∃ (c : Co) (st : List Fd) (q : List Tok) (va vd : Value), RunRel B C w.heap.size n k w A v wr c st q va vd) (fun v _ => 1000 - sliceN v)
  case atStart => exact ⟨_, [], r2, _, _, ⟨R4.out, O4.out, OwnS.nil O4.out.isLt, hz4.out, K4.out, HK1.out, by simp; exact HL3.out, by rw [HK2.out]; exact Nat.le_refl _, by rw [HK3.out]; exact Nat.le_refl _, HS3.out, HA.out.symm⟩⟩
  case round =>
    obtain ⟨c, st, q, va, vd, hr⟩ := hrel
    obtain ⟨so, scap, rfl, hsr, hsn, hsc, hsm⟩ := hr.stand.value fdC_length
    obtain ⟨ao, cap, e1, e2, e3, e4, e5⟩ := hr.rd
    have d0 : wr.cell? ⟨B, 0, none⟩ = some (.slice ao q.length cap) := by simp [World.cell?, e1]
    have dk : wr.cell? ⟨C, 0, none⟩ = some (.int .i64 (k : Int)) := by rw [← hr.kind]; exact hr.own.cell 0 _ rfl
    have hgo := hr.goes
    have HR := Lib.hid hr
    have HE3 := Lib.hid e3
    unfold maxLen at e3
    cases q with
    | nil =>
      rw [List.length_nil] at d0 hgo
      have hA2 : A = (some (c, st), []) := by rw [← hgo]; rfl
      have HA2 := Lib.hid hA2
      clear hA2 hgo hr e1 e4 e5
      go_upto_region 12 with fail
      have nA := OwnS.new HR.out.own.alts
      have nD := OwnS.new HR.out.own.after
      have hClt := HR.out.own.isLt
      refine ret_region w.heap.size C c va vd (k : Int) HR.out.kind st so scap wr HR.out.own.blk HR.out.zero (by omega) (OwnS.row HR.out.own.alts) (OwnS.row HR.out.own.after) (by have := HR.out.few; omega) hsr _ _ _ _ _ _ _ _ _ _ _ _ _ _ _ _ _ _ _ _ _ _ _ _ _ _ _ _ _ _ _ _ _ _ _ _ _ _ _ _ _ _ _ _ _ _ _ _ _ _ _ _ _ _ (fun _ _ _ _ _ h => h) (fun va2 w6 u49 u50 u51 u52 u53 u54 u55 r6 q6 n6 => ?_)
      have hRlt : w.heap.size < wr.heap.size := Nat.lt_trans hlt3.1 hClt
      have nA2 : New (w.heap.size + 1) va2 := by
        rcases n6 with rfl | n6
        · exact nA.mono (by omega)
        · exact n6.mono (by omega)
      have z6 := HR.out.zero.below q6
      have g6 := grown_trans (grown_of_below q6 (some w.heap.size)) (grown_setRow w6 w.heap.size (cmdArr (gatherC c) va2 vd))
      have hfin : finC A.1 = if lacksB (k : Int) st = true then none else some (gatherC c) := by rw [HA2.out]; show (if lacksB c.kind st = true then none else some (gatherC c)) = _; rw [HR.out.kind]
      have hsome : (finC A.1).isSome = !lacksB (k : Int) st := by rw [hfin]; cases lacksB (k : Int) st <;> rfl
      have hr6 : A.2 = [] := by rw [HA2.out]
      have haf := gather_after c
      go_wp2
      refine bodyPost_ret (v := .tuple #[.agg (cmdArr (gatherC c) va2 vd), .bool (!lacksB (k : Int) st)]) (res_cmd2 Tryz.results40 _ _ w.heap.size 27 _ _ rfl rfl (setRow_heap _ _ _ _ _ _ z6) rfl) rfl ⟨gatherC c, va2, vd, by rw [hsome]; rfl, r6.setRow _ _ nA2, by rw [haf]; exact ((OwnS.row HR.out.own.after).below q6).setRow _ _ (nD.mono (by omega)), by rw [hr6]; exact HR.out.rd.other g6 (fun x hx => by injection hx with hx; omega), up_own HR.out.grown g6 (fun x hx => by injection hx with hx; omega), ⟨nA2.mono (by omega), nD.mono (by omega)⟩, fun c1 h => ?_⟩
      rw [hfin] at h
      split at h
      · cases h
      · exact Option.some.inj h
    | cons t q =>
      have hCt := HC.out.grown hr.grown
      have hst : ∀ a, so = some a → a.block < wr.heap.size ∧ a.block ≠ B := fun a ha => by subst ha; obtain ⟨h1, h2, _⟩ := own_at hr.stand a.block rfl; exact ⟨h2, by omega⟩
      have cF := field_any u (k : Int) so scap st B n (t :: q) wr hr.rd hr.small (by have := hr.few; omega) hsr hst hCt
      obtain ⟨M, hM⟩ : ∃ M, M = (t :: q).length := ⟨_, rfl⟩
      have tM : decide (0 < M) = true := by rw [hM]; simp
      have tM2 : 0 < M := by rw [hM]; simp
      rw [← hM] at d0 e2
      have HM := Lib.hid hM
      rw [← hr.kind] at cF
      rcases hF : rdFd c.kind st (t :: q) with ⟨_ | f, q2⟩
      · have hA2 := rdLoop_none (List.cons_ne_nil t q) hF
        rw [hgo] at hA2
        rw [hF] at cF
        rw [hr.kind] at cF
        unfold RSays at cF
        dsimp only [Option.isSome] at cF
        have CF := Lib.hid cF
        have HA2 := Lib.hid hA2
        have hz := hr.zero
        clear cF hA2 hgo hr hM e1 e4 e5 hst hCt hsr hsn hF
        go_upto_region 8 with (first
          | (go_at_call 67; (with_reducible refine CF.out.mono ?_); rintro e w5 ⟨x, v, ⟨rfl, r5, g5⟩, hv, _⟩; have R5 := Lib.hid r5; have G5 := Lib.hid g5; have hz5 := hz.grown g5 (by omega); clear r5 g5)
          | fail)
        rcases hv with rfl | ⟨T, y, rfl⟩
        all_goals
          go_simp
          go_wp2_with (first
            | (refine st_zero rfl (.tmp 2) (.tmp 42) rfl w.heap.size rfl rfl (hz5.alloc _) ?_)
            | fail)
          rw [HA2.out]
          exact bodyPost_ret (v := .tuple #[.agg zArr, .bool false]) (res_cmd2 Tryz.results40 _ _ w.heap.size 27 _ _ rfl rfl (hz5.alloc _) rfl) rfl ⟨zCo 0, .slice none 0 0, .slice none 0 0, rfl, Row.nil _, Row.nil _, R5.out.below (below_one _), kp_alloc (grown_trans HR.out.grown G5.out) _, ⟨New.nil _, New.nil _⟩, fun c1 h => by cases h⟩
      · have hA2 := rdLoop_some hF
        rw [hgo] at hA2
        have hlen := (rdFd_suffix c.kind st (t :: q)).2 f q2 hF
        have hsuf := (rdFd_suffix c.kind st (t :: q)).1
        rw [hF] at cF hsuf
        rw [hr.kind] at cF
        obtain ⟨x, v⟩ := f
        obtain ⟨T, y, hy⟩ := vl_cases v
        have cF2 : Calls Tryz.prog 67 #[.pointer (some ⟨B, 0, none⟩), .int .i64 k, .slice so st.length scap] wr
            fun e w' => e = .returned (.tuple #[.agg #[.string x, .iface T y], .bool true]) ∧ RdAt w' B q2 n ∧ wr.grownBy w' (some B) := by
          refine cF.mono ?_
          rintro e w' ⟨x2, v2, ⟨h1, h2, h3⟩, _, h4⟩
          obtain ⟨h5, h6⟩ := h4 _ rfl
          exact ⟨by rw [h1, h5, h6]; show Ending.returned (.tuple #[.agg #[.string x, vlV v], .bool true]) = _; rw [hy], h2, h3⟩
        have cL := fun (w7 : World) (h : COwn w7 (C + 1) C c va vd) (hT : Tb w7) => lay_any (C + 1) C c va vd (x, v) w7 h hT (by have := hr.alts; have := hr.few; omega) (by have := hr.after; have := hr.few; omega)
        unfold fdV LaySays at cL
        dsimp only at cL
        rw [hy] at cL
        have CF := Lib.hid cF2
        have CL := Lib.hid cL
        have HA2 := Lib.hid hA2
        have HY := Lib.hid hy
        have HLEN := Lib.hid hlen
        have HSUF := Lib.hid hsuf
        obtain ⟨i0, hi, hz0, hz1, hz2⟩ := info_parts info_fd
        have HI := Lib.hid hi
        have HZ0 := Lib.hid hz0
        have HZ1 := Lib.hid hz1
        have HZ2 := Lib.hid hz2
        clear hi hz0 hz1 hz2
        clear cF cF2 cL hA2 hgo hr hM e1 e4 e5 hst hCt hsr hsn hF hlen hsuf hy
        go_upto_region 10 with (first
          | (go_at_call 67; (with_reducible refine CF.out.mono ?_); rintro e w5 ⟨rfl, r5, g5⟩; have R5 := Lib.hid r5; have G5 := Lib.hid g5; clear r5 g5)
          | fail)
        have hB5 : Below w5.heap.size w5 ((w5.alloc (.cells #[.string x, .iface T y] 57)).alloc (.cells #[.string x, .iface T y] 57)) := below_two _ _
        have HX1 := Lib.hid ((HR.out.stand.kept G5.out (fun k hk => by injection hk with hk; omega)).below hB5)
        have HX2 := Lib.hid ((HR.out.own.other G5.out (by omega) (by omega)).below hB5)
        have HX3 := Lib.hid ((HR.out.zero.grown G5.out (by omega)).below hB5)
        have HX4 := Lib.hid (R5.out.below hB5)
        have HX5 := Lib.hid (kp_below (grown_trans HR.out.grown G5.out) hB5)
        have HBX : Hid (∀ x, (Value.slice so st.length scap).ownBlock = some x → C + 1 ≤ x ∧ x < w5.heap.size) := Lib.hid (fun x hx => by obtain ⟨h1, h2, _⟩ := own_at HR.out.stand x hx; exact ⟨h1, Nat.lt_of_lt_of_le h2 G5.out.size⟩)
        have HNEW : Hid (ReadsS 2 fdC ((w5.alloc (.cells #[.string x, .iface T y] 57)).alloc (.cells #[.string x, .iface T y] 57)) (some ⟨w5.heap.size + 1, 0, none⟩) [(x, v)]) := Lib.hid (readsS_one (f := fdC) (k := 2) (by simp) (x, v) #[.string x, .iface T y] (by simp [fdC, HY.out]) rfl _)
        have HFEW : Hid (st.length + 1 ≤ 501) := Lib.hid (by have := HR.out.few; omega)
        have HF0 := Lib.hid (cell_below (show (w5.alloc (.cells #[.string x, .iface T y] 57)).cell? ⟨w5.heap.size, 0, none⟩ = some (.string x) by rw [World.cell?_alloc_at _ _ _ _ rfl]; rfl) (below_one (.cells #[.string x, .iface T y] 57)))
        have HF1 := Lib.hid (cell_below (show (w5.alloc (.cells #[.string x, .iface T y] 57)).cell? ⟨w5.heap.size, 1, none⟩ = some (.iface T y) by rw [World.cell?_alloc_at _ _ _ _ rfl]; rfl) (below_one (.cells #[.string x, .iface T y] 57)))
        have HNE : Hid ((Value.slice so st.length scap).ownBlock ≠ some w5.heap.size) := Lib.hid (fun h => by have := (HBX.out _ h).2; omega)
        clear hB5
        go_wp2_with (first
          | (at_builtin; refine wpList_append_grown rfl (.tmp 43) (.tmp 45) 52 rfl fdC_length (by decide) i0 _ 32 Tryz.underlying52 HI.out HZ0.out HZ1.out HZ2.out rfl fdC_one rfl HX1.out ⟨w5.heap.size + 1, 0, none⟩ 1 (x, v) rfl HNEW.out (by have := HFEW.out; omega) (by have := HFEW.out; unfold maxLen; omega) ?_; intro v7 w7 o7 g7; have y0 := cell_own HF0.out g7 HNE.out; have y1 := cell_own HF1.out g7 HNE.out; have O7 := Lib.hid o7; have G7 : Hid (World.grownBy _ w7 (Value.slice so st.length scap).ownBlock) := Lib.hid g7; clear o7 g7)
          | (go_at_call 68; go_loud ((with_reducible refine (CL.out _ (HX2.out.beside HX1.out G7.out) (HC.out.grown (up_own HX5.out G7.out (fun x hx => by have := (HBX.out x hx).1; omega))).now).mono ?_); rintro e w8 ⟨rfl, ⟨va2, vd2, o8⟩, k8⟩; have O8 := Lib.hid o8; have K8 := Lib.hid k8; clear o8 k8))
          | fail)
        have hgt : ∀ x, (Value.slice so st.length scap).ownBlock = some x → C + 1 ≤ x := fun x hx => (HBX.out x hx).1
        have R7 := HX4.out.other G7.out (fun x hx => by have := hgt x hx; omega)
        have Z7 := HX3.out.other G7.out (fun x hx => by have := hgt x hx; omega)
        have U7 := up_own HX5.out G7.out (fun x hx => by have := hgt x hx; omega)
        have hlen := HLEN.out
        rw [List.length_cons] at hlen
        have hfew := HR.out.few
        rw [List.length_cons] at hfew
        obtain ⟨bo, bcap, rfl, _, _, _, _⟩ := O7.out.value fdC_length
        refine ⟨⟨layC c (x, v), st ++ [(x, v)], q2, va2, vd2, ⟨R7.lay K8.out (by omega) (Nat.lt_succ_self _), O8.out, OwnS.lay O7.out K8.out (Nat.lt_succ_self _), Z7.lay K8.out (by omega) (Nat.lt_succ_self _), up_lay U7 K8.out (by omega) (Nat.lt_succ_self _), (layC_kind c (x, v)).trans HR.out.kind, by simp; omega, ?_, ?_, fun z hz => HR.out.small z (HSUF.out.mem hz), HA2.out.symm⟩⟩, ?_⟩
        · have := layC_alts c (x, v); have := HR.out.alts; simp; omega
        · have := layC_after c (x, v); have := HR.out.after; simp; omega
        · simp [sliceN]; omega
end Go.Proofs.YtdkngidangfkiaaGreatDoor.Cmd
