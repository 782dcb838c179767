/-
  Joined out of: The walks of the document's own answer for layer 8: how a command is written (written by gen_rshow2.py).
-/
import Derived.Test.YtdkngidangfkiaaGreatDoorJb39
import Derived.Test.YtdkngidangfkiaaGreatDoorJb46
import Derived.Test.YtdkngidangfkiaaGreatDoorJb01
import Derived.Maps.RangeWalk
namespace Go.Proofs.YtdkngidangfkiaaGreatDoor.Cmd
open Go.RowKit
open Base Runes Lex
open Shape (frB frB_iff sameL sameB chkB goodB altOk sizeB sizeB_iff wallB altC_length altC alt_cells)
set_option linter.unusedVariables false
set_option linter.unusedSimpArgs false
set_option maxRecDepth 100000 in
set_option maxHeartbeats 16000000 in
theorem rshow_sub (c : Co) (va vd : Value) (w : World) (h1 : Row w va c.alts) (h2 : Row w vd c.after) (hm : mayC c = true) (hk : c.kind = 1) :
    Calls Tryz.prog 10 #[cmdV c va vd] w fun e w' => e = .returned (.tuple #[.string (showC c).1, .int .i64 (showC c).2]) ∧ Below w.heap.size w w' := by
  obtain ⟨z3, z4, z5⟩ := may_small hm
  have hck : chkC c = 0 := by unfold chkC; rw [if_pos hm]
  have c0 := fun w2 (hb : Below w.heap.size w w2) => rcheck8_any c va vd w2 (h1.below hb) (h2.below hb) (by omega) (by omega) (by omega)
  simp only [hck] at c0
  have s := sub_ok hm hk
  have hline := line_sub hm hk
  have cS := fun w2 (hb : Below w.heap.size w w2) => rshape_may c s.shape va w2 (h1.below hb)
  have hsl := shp_len c s.shape
  have cV := fun w => rverb_any 1 (by omega) w
  have cW := fun w => rword_any c.name (by omega) w
  have cQ := fun w => rquote_any c.name (by omega) w
  have qP : 0 ≤ c.prio ∧ c.prio ≤ 100 := by
    cases hP : c.hasPrio with
    | true => exact (frB_iff _ _ _).1 ((prioB_iff s.prio).1 hP)
    | false => have := (prioB_iff s.prio).2 hP; omega
  have hd : ∀ d ∈ c.after, (1 ≤ d.1 ∧ d.1 ≤ 3) ∧ 1 ≤ d.2 ∧ d.2 ≤ 99999 := fun d hd => (depOk_iff d).1 (((depsB_iff _).1 s.after).2.1 d hd)
  have hl4 := ((depsB_iff _).1 s.after).1
  have hdl := deps_len c.after s.after
  have hnl := name_len c.name s.name
  have hvl := verb_len 1
  have cP := fun w => rdig_any c.prio (by omega) (by omega) w
  have lP := num_short c.prio (by unfold fitI; omega)
  obtain ⟨P, e_P⟩ : ∃ x : ByteArray, x = ⟨(numT c.prio).toArray⟩ := ⟨_, rfl⟩
  simp only [← e_P] at cP
  have zP : P.size ≤ 30 := by rw [e_P, Lib.size_eq]; show (numT c.prio).length ≤ 30; omega
  obtain ⟨V, hV⟩ : ∃ x : ByteArray, x = verb 1 := ⟨_, rfl⟩
  obtain ⟨N, hN⟩ : ∃ x : ByteArray, x = ⟨(nameT c.name).toArray⟩ := ⟨_, rfl⟩
  obtain ⟨S, hS⟩ : ∃ x : ByteArray, x = ⟨(shpT c).toArray⟩ := ⟨_, rfl⟩
  obtain ⟨D, hD⟩ : ∃ x : ByteArray, x = ⟨(fldT (c.after.map depF)).toArray⟩ := ⟨_, rfl⟩
  have hN2 : (wordB c.name = true ∧ c.name = N) ∨ (wordB c.name = false ∧ qtS c.name = N) := by
    have h0 := (name_ok s.name).2
    unfold nameTk at h0
    cases hW : wordB c.name with
    | true =>
      rw [hW] at h0
      exact .inl ⟨rfl, by rw [hN]; apply ByteArray.ext; apply Array.toList_inj.1; exact h0⟩
    | false =>
      rw [hW] at h0
      exact .inr ⟨rfl, by rw [hN]; apply ByteArray.ext; apply Array.toList_inj.1; exact h0⟩
  simp only [← hV] at cV
  simp only [← hS] at cS
  have zV : V.size ≤ 20 := by rw [hV]; exact hvl
  have zN : N.size ≤ 200 := by rw [hN, Lib.size_eq]; show (nameT c.name).length ≤ 200; omega
  have zS : S.size ≤ 20000 := by rw [hS, Lib.size_eq]; exact hsl
  obtain ⟨O1, hO1⟩ : ∃ x : ByteArray, x = V ++ (⟨#[32]⟩ : ByteArray) ++ N ++ (⟨#[32, 117, 115, 101, 114, 61]⟩ : ByteArray) ++ c.user ++ (⟨#[32, 97, 99, 99, 111, 117, 110, 116, 61]⟩ : ByteArray) ++ c.account := ⟨_, rfl⟩
  obtain ⟨O0, hO0⟩ : ∃ x : ByteArray, x = if c.hasPrio = true then O1 ++ (⟨#[32, 112, 114, 105, 111, 61]⟩ : ByteArray) ++ P else O1 := ⟨_, rfl⟩
  have hfin : lineB c = O0 ++ D ++ S := by
    unfold lineB; rw [hline, hO0, hO1, hV, hN, hS, hD]
    apply ByteArray.ext; apply Array.toList_inj.1
    cases hP : c.hasPrio <;> simp [ByteArray.data_append, fdT, valT, kUser, kAccount, kPrio, priT, hP, onF_yes, onF_no, fldT_one, fldT_nil, e_P]
  have hsz : O0.size ≤ 1000 := by
    have : O1.size ≤ 600 := by
      rw [hO1]; simp only [ByteArray.size_append, show (⟨#[32]⟩ : ByteArray).size = 1 from rfl, show (⟨#[32, 117, 115, 101, 114, 61]⟩ : ByteArray).size = 6 from rfl, show (⟨#[32, 97, 99, 99, 111, 117, 110, 116, 61]⟩ : ByteArray).size = 9 from rfl]; omega
    rw [hO0]; split
    · simp only [ByteArray.size_append, show (⟨#[32, 112, 114, 105, 111, 61]⟩ : ByteArray).size = 6 from rfl]; omega
    · omega
  have hDz : D.size ≤ 12000 := by rw [hD, Lib.size_eq]; have := hdl c.after.length; rw [List.take_length] at this; exact this
  obtain ⟨R, E, hRE⟩ : ∃ (R : ByteArray) (E : Int), (R, E) = showC c := ⟨_, _, rfl⟩
  have e1 : (showC c).1 = R := by rw [← hRE]
  have e2 : (showC c).2 = E := by rw [← hRE]
  rw [e1, e2]
  obtain ⟨LB, hLB⟩ : ∃ x, x = lineB c := ⟨_, rfl⟩
  have hshow : showC c = if 400 < (lineB c).size then (nil_, 3) else (lineB c, 0) := by unfold showC; rw [if_pos hm, line_size]
  rw [hshow, ← hLB] at hRE
  have hbig : 400 < LB.size → (⟨#[]⟩ : ByteArray) = R ∧ (3 : Int) = E := by
    intro h; rw [if_pos h] at hRE; injection hRE with a b; exact ⟨a.symm, b.symm⟩
  have hfit : ¬ 400 < LB.size → LB = R ∧ (0 : Int) = E := by
    intro h; rw [if_neg h] at hRE; injection hRE with a b; exact ⟨a.symm, b.symm⟩
  clear hRE e1 e2 hshow
  rw [← hLB] at hfin
  clear hline hck hLB
  obtain ⟨a1, a2, a3, a4, a5, a6, a7, a8, a9, a10, a11, a12, a13, a14, a15, a16, a17, a18⟩ := c
  dsimp only at *
  subst hk
  have ht14 := s.time.2
  dsimp only at ht14
  subst ht14
  obtain ⟨pa, qa, rfl, l1, m1, r1, n1⟩ := h1
  obtain ⟨pd, qd, rfl, l2, m2, r2, n2⟩ := h2
  unfold cmdV at c0 ⊢
  dsimp only at *
  obtain ⟨BX, hBX⟩ : ∃ W, W = w.alloc (.cells #[.int .i64 1, .int .i64 a2, .string a3, .string a4, .string a5, .int .i64 a6, .slice pa a7.length qa, .int .i64 a8, .int .i64 a9, .int .i64 a10, .int .i64 a11, .bool a12, .int .i64 a13, .bool false, .slice pd a15.length qd, .int .i64 a16, .int .i64 a17, .int .i64 a18] 27) := ⟨_, rfl⟩
  have hbx : ∀ w2, Below BX.heap.size BX w2 → w2.heap[w.heap.size]? = some (.cells #[.int .i64 1, .int .i64 a2, .string a3, .string a4, .string a5, .int .i64 a6, .slice pa a7.length qa, .int .i64 a8, .int .i64 a9, .int .i64 a10, .int .i64 a11, .bool a12, .int .i64 a13, .bool false, .slice pd a15.length qd, .int .i64 a16, .int .i64 a17, .int .i64 a18] 27) := by rw [hBX]; exact fun w2 hb => box_cmd hb
  have hb0 : Below w.heap.size w BX := by rw [hBX]; exact below_one _
  have t17 : ¬ (0 : Int) < a17 := by have := s.nodes; dsimp only at this; omega
  have t2 : ¬ (0 : Int) < a2 := by have := s.job; dsimp only at this; omega
  have gd0 : ¬ 9223372036854775807 < V.size + 1 := by omega
  have gd1 : ¬ 9223372036854775807 < V.size + 1 + N.size := by omega
  have gd2 : ¬ 9223372036854775807 < V.size + 1 + N.size + 6 := by omega
  have gd3 : ¬ 9223372036854775807 < V.size + 1 + N.size + 6 + a4.size := by omega
  have gd4 : ¬ 9223372036854775807 < V.size + 1 + N.size + 6 + a4.size + 9 := by omega
  have gd5 : ¬ 9223372036854775807 < V.size + 1 + N.size + 6 + a4.size + 9 + a5.size := by omega
  have gd6 : ¬ 9223372036854775807 < V.size + 1 + N.size + 6 + a4.size + 9 + a5.size + 6 := by omega
  have gd7 : ¬ 9223372036854775807 < V.size + 1 + N.size + 6 + a4.size + 9 + a5.size + 6 + P.size := by omega
  have H_c0 := Lib.hid c0
  have H_cS := Lib.hid cS
  have H_cV := Lib.hid cV
  have H_cP := Lib.hid cP
  have H_hbig := Lib.hid hbig
  have H_hfit := Lib.hid hfit
  have H_hfin := Lib.hid hfin
  have H_hsz := Lib.hid hsz
  have H_hDz := Lib.hid hDz
  have H_hD := Lib.hid hD
  have H_hd := Lib.hid hd
  have H_hdl := Lib.hid hdl
  have H_hBX := Lib.hid hBX
  have H_r2 := Lib.hid r2
  have HC := Lib.hid hbx
  have HB0 := Lib.hid hb0
  clear c0 cS cV cP hbig hfit hfin hsz hDz hD hd hdl hBX r2 hbx hb0
  clear l1 m1 r1 n1 n2 hV hS e_P hN hvl hsl hnl s qP lP
  rcases hN2 with ⟨hW, hN⟩ | ⟨hW, hN⟩
  all_goals subst hN
  all_goals cases a12
  all_goals
    simp only [hW] at cW
    have H_cW := Lib.hid cW
    have H_cQ := Lib.hid cQ
    (first | rw [if_pos rfl, hO1] at hO0 | rw [if_neg (by decide), hO1] at hO0)
    have H_hO0 := Lib.hid hO0
    clear cW cQ hO0 hO1 hW
    go_enter Tryz.func10, Tryz.ntmps10
    go_wp2_with (first
      | (refine ld_cmd rfl (.tmp 1) rfl w.heap.size _ _ rfl (heap_alloc_new w _) rfl ?_)
      | (go_at_call 12; (with_reducible refine (H_c0.out _ (H_hBX.out ▸ HB0.out)).mono ?_); rintro e w1 ⟨rfl, p⟩; rw [← H_hBX.out] at p; have PL := Lib.hid p; clear p; obtain ⟨x0, x1, x2, x3, x4, x5, x6, x7, x8, x9, x10, x11, x12, x13, x14, x15, x16, x17⟩ := all18 (HC.out _ PL.out))
      | (go_at_call 23; (with_reducible refine (H_cV.out _).mono ?_); rintro e w1 ⟨rfl, p⟩; have PN := Lib.hid (PL.out.trans (p.mono PL.out.size)); clear PL; have PL := PN; clear PN p; (try clear x0 x1 x2 x3 x4 x5 x6 x7 x8 x9 x10 x11 x12 x13 x14 x15 x16 x17); obtain ⟨x0, x1, x2, x3, x4, x5, x6, x7, x8, x9, x10, x11, x12, x13, x14, x15, x16, x17⟩ := all18 (HC.out _ PL.out))
      | (go_at_call 24; (with_reducible refine (H_cW.out _).mono ?_); rintro e w1 ⟨rfl, p⟩; have PN := Lib.hid (PL.out.trans (p.mono PL.out.size)); clear PL; have PL := PN; clear PN p; (try clear x0 x1 x2 x3 x4 x5 x6 x7 x8 x9 x10 x11 x12 x13 x14 x15 x16 x17); obtain ⟨x0, x1, x2, x3, x4, x5, x6, x7, x8, x9, x10, x11, x12, x13, x14, x15, x16, x17⟩ := all18 (HC.out _ PL.out))
      | (go_at_call 25; (with_reducible refine (H_cQ.out _).mono ?_); rintro e w1 ⟨rfl, p⟩; have PN := Lib.hid (PL.out.trans (p.mono PL.out.size)); clear PL; have PL := PN; clear PN p; (try clear x0 x1 x2 x3 x4 x5 x6 x7 x8 x9 x10 x11 x12 x13 x14 x15 x16 x17); obtain ⟨x0, x1, x2, x3, x4, x5, x6, x7, x8, x9, x10, x11, x12, x13, x14, x15, x16, x17⟩ := all18 (HC.out _ PL.out))
      | (go_at_call 26; (with_reducible refine (H_cP.out _).mono ?_); rintro e w1 ⟨rfl, p⟩; have PN := Lib.hid (PL.out.trans (p.mono PL.out.size)); clear PL; have PL := PN; clear PN p; (try clear x0 x1 x2 x3 x4 x5 x6 x7 x8 x9 x10 x11 x12 x13 x14 x15 x16 x17); obtain ⟨x0, x1, x2, x3, x4, x5, x6, x7, x8, x9, x10, x11, x12, x13, x14, x15, x16, x17⟩ := all18 (HC.out _ PL.out))
      | fail)
    clear gd0 gd1 gd2 gd3 gd4 gd5 gd6 gd7
    go_loopw [6, 4] (fun i o wr => ∃ k : Nat, i = .int .i64 (k : Int) ∧ o = .string (O0 ++ (⟨(fldT ((a15.take k).map depF)).toArray⟩ : ByteArray)) ∧ k ≤ a15.length ∧ Below BX.heap.size BX wr) (fun i _ _ => a15.length - (intOf i).toNat)
    case atStart => exact ⟨0, rfl, by rw [app_none, H_hO0.out], Nat.zero_le _, PL.out⟩
    case round =>
      obtain ⟨k, rfl, rfl, hk, hpl⟩ := hrel
      obtain ⟨x0, x1, x2, x3, x4, x5, x6, x7, x8, x9, x10, x11, x12, x13, x14, x15, x16, x17⟩ := all18 (HC.out _ hpl)
      have PL2 := Lib.hid hpl
      clear PL
      by_cases hp : k < a15.length
      · have hrd := H_r2.out.below altC_length (HB0.out.trans (hpl.mono HB0.out.size))
        obtain ⟨bb, bo, rfl, y0, y1⟩ := alt_cells hrd hp
        have hdd := H_hd.out _ (List.getElem_mem hp)
        have htm := app_one O0 a15 k hp
        obtain ⟨⟨h, j⟩, hx⟩ : ∃ x : Int × Int, x = a15[k] := ⟨_, rfl⟩
        rw [← hx] at y0 y1 htm hdd
        dsimp only at y0 y1 htm hdd
        obtain ⟨⟨q1, q2⟩, q3, q4⟩ := hdd
        have c1 := fun w => rdig_any j (by omega) (by omega) w
        have s1 := num_short j (by unfold fitI; omega)
        have hqw : (howW h).size ≤ 10 := by rcases how3 ⟨q1, q2⟩ with ⟨_, e⟩ | ⟨_, e⟩ | ⟨_, e⟩ <;> (rw [e]; decide)
        have hkl := H_hdl.out k
        obtain ⟨A, hA⟩ : ∃ x : ByteArray, x = ⟨(numT j).toArray⟩ := ⟨_, rfl⟩
        obtain ⟨U, hU⟩ : ∃ x : ByteArray, x = O0 ++ (⟨(fldT ((a15.take k).map depF)).toArray⟩ : ByteArray) := ⟨_, rfl⟩
        obtain ⟨Q, hQ⟩ : ∃ x : ByteArray, x = howW h := ⟨_, rfl⟩
        obtain ⟨hn, rfl⟩ := Int.eq_ofNat_of_zero_le (show 0 ≤ h by omega)
        have hQ4 : (#[.string ⟨#[]⟩, .string ⟨#[97, 110, 121]⟩, .string ⟨#[103, 111, 111, 100]⟩, .string ⟨#[98, 97, 100]⟩] : Array Value)[hn]? = some (.string Q) := by
          have hh : hn = 1 ∨ hn = 2 ∨ hn = 3 := by omega
          rw [hQ]
          rcases hh with rfl | rfl | rfl <;> rfl
        have zA : A.size ≤ 30 := by rw [hA, Lib.size_eq]; show (numT j).length ≤ 30; omega
        have zU : U.size ≤ 13000 := by
          rw [hU, ByteArray.size_append, Lib.size_eq ⟨(fldT ((a15.take k).map depF)).toArray⟩]
          have := H_hsz.out
          show O0.size + (fldT ((a15.take k).map depF)).length ≤ 13000
          omega
        have zQ : Q.size ≤ 10 := by rw [hQ]; exact hqw
        rw [← hU, ← hQ, ← hA] at htm
        rw [← hU]
        simp only [← hA] at c1
        have HTM := Lib.hid htm
        have C1 := Lib.hid c1
        have Y0 := Lib.hid y0
        have Y1 := Lib.hid y1
        have HQ4 := Lib.hid hQ4
        have hlo2 : (0 : Int) ≤ (hn : Int) := by omega
        have hup2 : (hn : Int) < 4 := by omega
        have g1 : ¬ 9223372036854775807 < U.size + 1 := by omega
        have g2 : ¬ 9223372036854775807 < U.size + 1 + Q.size := by omega
        have g3 : ¬ 9223372036854775807 < U.size + 1 + Q.size + 1 := by omega
        have g4 : ¬ 9223372036854775807 < U.size + 1 + Q.size + 1 + A.size := by omega
        have hlow : (0 : Int) ≤ (k : Int) := by omega
        have hup : (k : Int) < ((a15.length : Nat) : Int) := by omega
        clear htm c1 y0 y1 hQ4 hA hU hQ s1 hqw hkl zA zU zQ q1 q2 q3 q4 hx hrd hpl x0 x1 x2 x3 x4 x5 x6 x7 x8 x9 x10 x11 x12 x13 x15 x16 x17
        go_upto_region 19 with fail
        have hW1 : Below wr.heap.size wr (wr.alloc (.cells #[.string ⟨#[]⟩, .string ⟨#[97, 110, 121]⟩, .string ⟨#[103, 111, 111, 100]⟩, .string ⟨#[98, 97, 100]⟩] 9)) := below_one _
        have hA0 := heap_alloc_new wr (.cells #[.string ⟨#[]⟩, .string ⟨#[97, 110, 121]⟩, .string ⟨#[103, 111, 111, 100]⟩, .string ⟨#[98, 97, 100]⟩] 9)
        obtain ⟨W0, hW0⟩ : ∃ W, W = wr.alloc (.cells #[.string ⟨#[]⟩, .string ⟨#[97, 110, 121]⟩, .string ⟨#[103, 111, 111, 100]⟩, .string ⟨#[98, 97, 100]⟩] 9) := ⟨_, rfl⟩
        rw [← hW0] at hW1 hA0 ⊢
        clear hW0
        have fq : W0.cell? ⟨wr.heap.size, hn, none⟩ = some (.string Q) := by
          rw [← HQ4.out]; simp [World.cell?, hA0]
        have hq0 := PL2.out.trans (hW1.mono PL2.out.size)
        obtain ⟨_, _, _, _, _, _, _, _, _, _, _, _, _, _, f14, _, _, _⟩ := all18 (HC.out _ hq0)
        have F14 := Lib.hid f14
        have FQ := Lib.hid fq
        have FY0 := Lib.hid (cell_below Y0.out hW1)
        have FY1 := Lib.hid (cell_below Y1.out hW1)
        have HQ0 := Lib.hid hq0
        have hb1 : Below W0.heap.size W0 W0.drew := (Below.refl _ _).drew
        clear hq0 f14 fq hW1 hA0 x14
        refine wp_region_held_drew (S := fun W => Below W0.heap.size W0 W) (by kernel_rfl) (hb1) (fun hHeld => ?_)
        refine takeL (i := 0) (v := ?_) rfl (by kernel_rfl) (by kernel_rfl) (by kernel_rfl) (by first | exact fun c a w h => hP c a _ _ w h | exact fun _ _ _ h => h) (Or.inl ⟨by rfl, ?_⟩) (by assumption) ?_
        rotate_left
        · intro W hS; go_simp; (try with_reducible rfl)
        go_frame
        refine takeL (i := 1) (v := ?_) rfl (by kernel_rfl) (by kernel_rfl) (by kernel_rfl) (by first | exact fun c a w h => hP c a _ _ w h | exact fun _ _ _ h => h) (Or.inl ⟨by rfl, ?_⟩) (by assumption) ?_
        rotate_left
        · intro W hS; go_simp; (try with_reducible rfl)
        go_frame
        refine takeL (i := 2) (v := ?_) rfl (by kernel_rfl) (by kernel_rfl) (by kernel_rfl) (by first | exact fun c a w h => hP c a _ _ w h | exact fun _ _ _ h => h) (Or.inl ⟨by rfl, ?_⟩) (by assumption) ?_
        rotate_left
        · intro W hS; go_simp; (try with_reducible rfl)
        go_frame
        refine takeL (i := 3) (v := ?_) rfl (by kernel_rfl) (by kernel_rfl) (by kernel_rfl) (by first | exact fun c a w h => hP c a _ _ w h | exact fun _ _ _ h => h) (Or.inl ⟨by rfl, ?_⟩) (by assumption) ?_
        rotate_left
        · intro W hS; go_simp; (try with_reducible rfl)
        go_frame
        refine takeL (i := 4) (v := ?_) rfl (by kernel_rfl) (by kernel_rfl) (by kernel_rfl) (by first | exact fun c a w h => hP c a _ _ w h | exact fun _ _ _ h => h) (Or.inl ⟨by rfl, ?_⟩) (by assumption) ?_
        rotate_left
        · intro W hS; have := cell_below F14.out hS; go_simp; (try with_reducible rfl)
        go_frame
        refine takeL (i := 5) (v := ?_) rfl (by kernel_rfl) (by kernel_rfl) (by kernel_rfl) (by first | exact fun c a w h => hP c a _ _ w h | exact fun _ _ _ h => h) (Or.inl ⟨by rfl, ?_⟩) (by assumption) ?_
        rotate_left
        · intro W hS; go_simp; (try with_reducible rfl)
        go_frame
        refine takeL (i := 6) (v := ?_) rfl (by kernel_rfl) (by kernel_rfl) (by kernel_rfl) (by first | exact fun c a w h => hP c a _ _ w h | exact fun _ _ _ h => h) (Or.inl ⟨by rfl, ?_⟩) (by assumption) ?_
        rotate_left
        · intro W hS; go_simp; (try with_reducible rfl)
        go_frame
        refine takeL (i := 7) (v := ?_) rfl (by kernel_rfl) (by kernel_rfl) (by kernel_rfl) (by first | exact fun c a w h => hP c a _ _ w h | exact fun _ _ _ h => h) (Or.inl ⟨by rfl, ?_⟩) (by assumption) ?_
        rotate_left
        · intro W hS; go_simp; (try with_reducible rfl)
        go_frame
        refine takeL (i := 8) (v := ?_) rfl (by kernel_rfl) (by kernel_rfl) (by kernel_rfl) (by first | exact fun c a w h => hP c a _ _ w h | exact fun _ _ _ h => h) (Or.inl ⟨by rfl, ?_⟩) (by assumption) ?_
        rotate_left
        · intro W hS; have := cell_below FY0.out hS; go_simp; (try with_reducible rfl)
        go_frame
        refine takeL (i := 9) (v := ?_) rfl (by kernel_rfl) (by kernel_rfl) (by kernel_rfl) (by first | exact fun c a w h => hP c a _ _ w h | exact fun _ _ _ h => h) (Or.inl ⟨by rfl, ?_⟩) (by assumption) ?_
        rotate_left
        · intro W hS; go_simp; (try with_reducible rfl)
        go_frame
        refine takeL (i := 10) (v := ?_) rfl (by kernel_rfl) (by kernel_rfl) (by kernel_rfl) (by first | exact fun c a w h => hP c a _ _ w h | exact fun _ _ _ h => h) (Or.inl ⟨by rfl, ?_⟩) (by assumption) ?_
        rotate_left
        · intro W hS; have := cell_below FQ.out hS; go_simp; (try with_reducible rfl)
        go_frame
        refine takeL (i := 11) (v := ?_) rfl (by kernel_rfl) (by kernel_rfl) (by kernel_rfl) (by first | exact fun c a w h => hP c a _ _ w h | exact fun _ _ _ h => h) (Or.inl ⟨by rfl, ?_⟩) (by assumption) ?_
        rotate_left
        · intro W hS; go_simp; (try with_reducible rfl)
        go_frame
        refine takeL (i := 12) (v := ?_) rfl (by kernel_rfl) (by kernel_rfl) (by kernel_rfl) (by first | exact fun c a w h => hP c a _ _ w h | exact fun _ _ _ h => h) (Or.inl ⟨by rfl, ?_⟩) (by assumption) ?_
        rotate_left
        · intro W hS; go_simp; (try with_reducible rfl)
        go_frame
        refine takeL (i := 13) (v := ?_) rfl (by kernel_rfl) (by kernel_rfl) (by kernel_rfl) (by first | exact fun c a w h => hP c a _ _ w h | exact fun _ _ _ h => h) (Or.inl ⟨by rfl, ?_⟩) (by assumption) ?_
        rotate_left
        · intro W hS; go_simp; (try with_reducible rfl)
        go_frame
        refine takeL (i := 14) (v := ?_) rfl (by kernel_rfl) (by kernel_rfl) (by kernel_rfl) (by first | exact fun c a w h => hP c a _ _ w h | exact fun _ _ _ h => h) (Or.inl ⟨by rfl, ?_⟩) (by assumption) ?_
        rotate_left
        · intro W hS; have := cell_below F14.out hS; go_simp; (try with_reducible rfl)
        go_frame
        refine takeL (i := 15) (v := ?_) rfl (by kernel_rfl) (by kernel_rfl) (by kernel_rfl) (by first | exact fun c a w h => hP c a _ _ w h | exact fun _ _ _ h => h) (Or.inl ⟨by rfl, ?_⟩) (by assumption) ?_
        rotate_left
        · intro W hS; go_simp; (try with_reducible rfl)
        go_frame
        refine takeL (i := 16) (v := ?_) rfl (by kernel_rfl) (by kernel_rfl) (by kernel_rfl) (by first | exact fun c a w h => hP c a _ _ w h | exact fun _ _ _ h => h) (Or.inl ⟨by rfl, ?_⟩) (by assumption) ?_
        rotate_left
        · intro W hS; go_simp; (try with_reducible rfl)
        go_frame
        refine takeL (i := 17) (v := ?_) rfl (by kernel_rfl) (by kernel_rfl) (by kernel_rfl) (by first | exact fun c a w h => hP c a _ _ w h | exact fun _ _ _ h => h) (Or.inl ⟨by rfl, ?_⟩) (by assumption) ?_
        rotate_left
        · intro W hS; go_simp; (try with_reducible rfl)
        go_frame
        refine takeL (i := 18) (v := ?_) rfl (by kernel_rfl) (by kernel_rfl) (by kernel_rfl) (by first | exact fun c a w h => hP c a _ _ w h | exact fun _ _ _ h => h) (Or.inl ⟨by rfl, ?_⟩) (by assumption) ?_
        rotate_left
        · intro W hS; have := cell_below FY1.out hS; go_simp; (try with_reducible rfl)
        go_frame
        refine wpAnyH_ready (rs := [19]) (by kernel_rfl) (by simp) ?_
        refine readyL rfl ?_ ?_
        rotate_left
        · exact AllReadyH.nil
        intro K hK
        go_simp
        go_wp2_with (first
          | (go_at_call 26; go_loud ((with_reducible refine (C1.out _).mono ?_); rintro e w1 ⟨rfl, p1⟩))
          | fail)
        have k1 : Below W0.heap.size W0 w1 := hb1.trans (p1.mono hb1.size)
        refine hK.out _ _ (k1) (fun hNew => ?_)
        clear hK K
        replace hHeld := hNew
        clear hNew
        refine takeL (i := 20) (v := ?_) rfl (by kernel_rfl) (by kernel_rfl) (by kernel_rfl) (by first | exact fun c a w h => hP c a _ _ w h | exact fun _ _ _ h => h) (Or.inl ⟨by rfl, ?_⟩) (by assumption) ?_
        rotate_left
        · intro W hS; go_simp; (try with_reducible rfl)
        go_frame
        refine takeL (i := 21) (v := ?_) rfl (by kernel_rfl) (by kernel_rfl) (by kernel_rfl) (by first | exact fun c a w h => hP c a _ _ w h | exact fun _ _ _ h => h) (Or.inl ⟨by rfl, ?_⟩) (by assumption) ?_
        rotate_left
        · intro W hS; go_simp; (try with_reducible rfl)
        go_frame
        refine wpAnyH_done (by kernel_rfl) ?_ _
        go_wp2
        refine ⟨⟨k + 1, by go_num, by rw [HTM.out], by omega, HQ0.out.trans (k1.mono HQ0.out.size)⟩, ?_⟩
        simp [intOf]; omega
      · obtain rfl : k = a15.length := by omega
        have hlow : ¬ ((a15.length : Nat) : Int) < ((a15.length : Nat) : Int) := by omega
        have hRO := (show O0 ++ (⟨(fldT ((a15.take a15.length).map depF)).toArray⟩ : ByteArray) = O0 ++ D from by rw [H_hD.out, List.take_length])
        have hx := H_hfin.out
        have hs1 := H_hsz.out
        have hs2 := H_hDz.out
        rw [← hRO] at hx
        have zO : (O0 ++ D).size ≤ 13000 := by rw [ByteArray.size_append]; omega
        rw [← hRO] at zO
        obtain ⟨O, hO⟩ : ∃ x : ByteArray, x = O0 ++ (⟨(fldT ((a15.take a15.length).map depF)).toArray⟩ : ByteArray) := ⟨_, rfl⟩
        rw [← hO] at hx zO ⊢
        have HX := Lib.hid hx
        have g0 : ¬ 9223372036854775807 < O.size + S.size := by omega
        clear hO hRO hpl hx hs1 hs2
        have PL := PL2
        go_wp2_with (first
          | (go_at_call 27; (with_reducible refine (H_cS.out _ (HB0.out.trans (PL.out.mono HB0.out.size))).mono ?_); rintro e w1 ⟨rfl, p⟩; have PN := Lib.hid (PL.out.trans (p.mono PL.out.size)); clear PL; have PL := PN; clear PN p; (try clear x0 x1 x2 x3 x4 x5 x6 x7 x8 x9 x10 x11 x12 x13 x14 x15 x16 x17); obtain ⟨x0, x1, x2, x3, x4, x5, x6, x7, x8, x9, x10, x11, x12, x13, x14, x15, x16, x17⟩ := all18 (HC.out _ PL.out))
          | fail)
        all_goals first
          | (go_ret2; refine ⟨ret_si (H_hbig.out (by rw [HX.out]; simp only [ByteArray.size_append]; omega)).1 (H_hbig.out (by rw [HX.out]; simp only [ByteArray.size_append]; omega)).2, HB0.out.trans (PL.out.mono HB0.out.size)⟩; done)
          | (go_ret2; refine ⟨ret_si (HX.out.symm.trans (H_hfit.out (by rw [HX.out]; simp only [ByteArray.size_append]; omega)).1) (H_hfit.out (by rw [HX.out]; simp only [ByteArray.size_append]; omega)).2, HB0.out.trans (PL.out.mono HB0.out.size)⟩; done)
end Go.Proofs.YtdkngidangfkiaaGreatDoor.Cmd
