/-
  Joined out of: The walk of the statement CmdSame. What the row lists of the library's variables is what the walks ask of the world. What the row lists of the library's variables is what the walks ask of the world. What the row lists of the library's variables, and of the program's own, is what the walks of layer 8 ask of the world. Layer 8, plain: the place of what is wrong lies within the line; runes of a line of any length are counted.
-/
import Derived.Test.YtdkngidangfkiaaGreatDoorJa44
import Derived.Test.YtdkngidangfkiaaGreatDoorJa47
import Derived.Test.YtdkngidangfkiaaGreatDoorJa05
import Derived.PinnedBridge
import Derived.Lib.LaidU8
import Derived.Lib.LaidTab
import Derived.LaidLaws
import Derived.Test.YtdkngidangfkiaaGreatDoorJa10
import Derived.Test.YtdkngidangfkiaaGreatDoorJa13
import Derived.ChangeArms
import Derived.Test.YtdkngidangfkiaaGreatDoorJa11
namespace Go.Proofs.YtdkngidangfkiaaGreatDoor.Cmd
open Go.RowKit
open Base Runes Lex
open Shape (altC_length altC)
set_option linter.unusedVariables false
set_option linter.unusedSimpArgs false
set_option maxRecDepth 100000 in
set_option maxHeartbeats 4000000 in
theorem cmdSame_any (a b : Co) (va vd ua ud : Value) (w : World) (h1 : Row w va a.alts) (h2 : Row w vd a.after) (h3 : Row w ua b.alts) (h4 : Row w ud b.after) (hT : Tb w) :
    Calls Tryz.prog 4 #[cmdV a va vd, cmdV b ua ud] w fun e w' => e = .returned (.bool true) ∧ Below w.heap.size w w' := by
  have cA := fun w2 (hb : Below w.heap.size w w2) => few8_any a va vd w2 (h1.below hb) (h2.below hb)
  have cB := fun w2 (hb : Below w.heap.size w w2) => few8_any b ua ud w2 (h3.below hb) (h4.below hb)
  have cS := fun w2 (hb : Below w.heap.size w w2) => same_any a b va vd ua ud w2 (h1.below hb) (h2.below hb) (h3.below hb) (h4.below hb)
  have cR := fun w2 (hb : Below w.heap.size w w2) => rsame8_any a b va vd ua ud w2 (h1.below hb) (h2.below hb) (h3.below hb) (h4.below hb)
  have cW := fun w2 (hb : Below w.heap.size w w2) => awake8_any w2 (hT.later hb)
  obtain ⟨FA, hFA⟩ : ∃ x, x = fewC a := ⟨_, rfl⟩
  obtain ⟨FB, hFB⟩ : ∃ x, x = fewC b := ⟨_, rfl⟩
  obtain ⟨S, hS⟩ : ∃ x, x = sameC a b := ⟨_, rfl⟩
  rw [← hFA] at cA
  rw [← hFB] at cB
  rw [← hS] at cS cR
  clear hFA hFB hS
  obtain ⟨a1, a2, a3, a4, a5, a6, a7, a8, a9, a10, a11, a12, a13, a14, a15, a16, a17, a18⟩ := a
  obtain ⟨b1, b2, b3, b4, b5, b6, b7, b8, b9, b10, b11, b12, b13, b14, b15, b16, b17, b18⟩ := b
  obtain ⟨o1, q1, rfl, l1, m1, r1, n1⟩ := h1
  obtain ⟨o2, q2, rfl, l2, m2, r2, n2⟩ := h2
  obtain ⟨o3, q3, rfl, l3, m3, r3, n3⟩ := h3
  obtain ⟨o4, q4, rfl, l4, m4, r4, n4⟩ := h4
  unfold cmdV at cA cB cS cR ⊢
  dsimp only at *
  have hbx : ∀ W, Below ((w.alloc (.cells #[.int .i64 a1, .int .i64 a2, .string a3, .string a4, .string a5, .int .i64 a6, .slice o1 a7.length q1, .int .i64 a8, .int .i64 a9, .int .i64 a10, .int .i64 a11, .bool a12, .int .i64 a13, .bool a14, .slice o2 a15.length q2, .int .i64 a16, .int .i64 a17, .int .i64 a18] 27)).alloc (.cells #[.int .i64 b1, .int .i64 b2, .string b3, .string b4, .string b5, .int .i64 b6, .slice o3 b7.length q3, .int .i64 b8, .int .i64 b9, .int .i64 b10, .int .i64 b11, .bool b12, .int .i64 b13, .bool b14, .slice o4 b15.length q4, .int .i64 b16, .int .i64 b17, .int .i64 b18] 27)).heap.size ((w.alloc (.cells #[.int .i64 a1, .int .i64 a2, .string a3, .string a4, .string a5, .int .i64 a6, .slice o1 a7.length q1, .int .i64 a8, .int .i64 a9, .int .i64 a10, .int .i64 a11, .bool a12, .int .i64 a13, .bool a14, .slice o2 a15.length q2, .int .i64 a16, .int .i64 a17, .int .i64 a18] 27)).alloc (.cells #[.int .i64 b1, .int .i64 b2, .string b3, .string b4, .string b5, .int .i64 b6, .slice o3 b7.length q3, .int .i64 b8, .int .i64 b9, .int .i64 b10, .int .i64 b11, .bool b12, .int .i64 b13, .bool b14, .slice o4 b15.length q4, .int .i64 b16, .int .i64 b17, .int .i64 b18] 27)) W → W.heap[w.heap.size]? = some (.cells #[.int .i64 a1, .int .i64 a2, .string a3, .string a4, .string a5, .int .i64 a6, .slice o1 a7.length q1, .int .i64 a8, .int .i64 a9, .int .i64 a10, .int .i64 a11, .bool a12, .int .i64 a13, .bool a14, .slice o2 a15.length q2, .int .i64 a16, .int .i64 a17, .int .i64 a18] 27) ∧ W.heap[w.heap.size + 1]? = some (.cells #[.int .i64 b1, .int .i64 b2, .string b3, .string b4, .string b5, .int .i64 b6, .slice o3 b7.length q3, .int .i64 b8, .int .i64 b9, .int .i64 b10, .int .i64 b11, .bool b12, .int .i64 b13, .bool b14, .slice o4 b15.length q4, .int .i64 b16, .int .i64 b17, .int .i64 b18] 27) := fun W hb => two_boxes hb
  have hb0 : Below w.heap.size w ((w.alloc (.cells #[.int .i64 a1, .int .i64 a2, .string a3, .string a4, .string a5, .int .i64 a6, .slice o1 a7.length q1, .int .i64 a8, .int .i64 a9, .int .i64 a10, .int .i64 a11, .bool a12, .int .i64 a13, .bool a14, .slice o2 a15.length q2, .int .i64 a16, .int .i64 a17, .int .i64 a18] 27)).alloc (.cells #[.int .i64 b1, .int .i64 b2, .string b3, .string b4, .string b5, .int .i64 b6, .slice o3 b7.length q3, .int .i64 b8, .int .i64 b9, .int .i64 b10, .int .i64 b11, .bool b12, .int .i64 b13, .bool b14, .slice o4 b15.length q4, .int .i64 b16, .int .i64 b17, .int .i64 b18] 27)) := by (focus repeat (first | exact Below.refl _ _ | assumption | (exact Hid.out (by assumption)) | (with_reducible refine Below.drew ?_) | (with_reducible refine Base.below_drewN ?_ _) | (refine Below.from (below_one _) ?_) | (refine Below.from (below_conv _ _ _) ?_) | (refine Below.setCell ?_ (by simp <;> omega) _) | (refine Below.from (by assumption) ?_)))
  have CA := Lib.hid cA
  have CB := Lib.hid cB
  have CS := Lib.hid cS
  have CR := Lib.hid cR
  have CW := Lib.hid cW
  have HBX := Lib.hid hbx
  have HB0 := Lib.hid hb0
  clear cA cB cS cR cW r1 r2 r3 r4 n1 n2 n3 n4 l1 l2 l3 l4 m1 m2 m3 m4 hT hbx hb0
  cases FA with
  | false =>
    go_enter Tryz.func4, Tryz.ntmps4
    go_wp2_with (first
      | (refine ld_cmd rfl (.tmp 2) rfl w.heap.size _ _ rfl (HBX.out _ (Below.refl _ _)).1 rfl ?_)
      | (go_at_call 7; go_loud ((with_reducible refine (CA.out _ HB0.out).mono ?_); rintro e w1 ⟨rfl, p1⟩; have Q1 := Lib.hid (HB0.out.trans (p1.mono HB0.out.size))))
      | (go_at_call 8; go_loud ((with_reducible refine (CW.out _ Q1.out).mono ?_); rintro e w2 ⟨rfl, p2⟩))
      | fail)
    go_ret
    exact ⟨rfl, Q1.out.trans (p2.mono Q1.out.size)⟩
  | true =>
    cases FB with
    | false =>
      go_enter Tryz.func4, Tryz.ntmps4
      go_wp2_with (first
        | (refine ld_cmd rfl (.tmp 2) rfl w.heap.size _ _ rfl (HBX.out _ (Below.refl _ _)).1 rfl ?_)
        | (go_at_call 7; go_loud ((with_reducible refine (CA.out _ HB0.out).mono ?_); rintro e w1 ⟨rfl, p1⟩; have P1 := Lib.hid p1; have Q1 := Lib.hid (HB0.out.trans (p1.mono HB0.out.size))))
        | (refine ld_cmdG ?_ (.tmp 3) rfl (w.heap.size + 1) _ _ rfl (HBX.out _ P1.out).2 rfl ?_; focus (simp [Region.wanted, yielded]; done))
        | (go_at_call 7; go_loud ((with_reducible refine (CB.out _ Q1.out).mono ?_); rintro e w2 ⟨rfl, p2⟩; have Q2 := Lib.hid (Q1.out.trans (p2.mono Q1.out.size))))
        | (go_at_call 8; go_loud ((with_reducible refine (CW.out _ Q2.out).mono ?_); rintro e w3 ⟨rfl, p3⟩))
        | fail)
      go_ret
      exact ⟨rfl, Q2.out.trans (p3.mono Q2.out.size)⟩
    | true =>
      go_enter Tryz.func4, Tryz.ntmps4
      go_upto_region 3 with (first
        | (refine ld_cmd rfl (.tmp 2) rfl w.heap.size _ _ rfl (HBX.out _ (Below.refl _ _)).1 rfl ?_)
        | (go_at_call 7; go_loud ((with_reducible refine (CA.out _ HB0.out).mono ?_); rintro e w1 ⟨rfl, p1⟩; have P1 := Lib.hid p1; have Q1 := Lib.hid (HB0.out.trans (p1.mono HB0.out.size))))
        | (refine ld_cmdG ?_ (.tmp 3) rfl (w.heap.size + 1) _ _ rfl (HBX.out _ P1.out).2 rfl ?_; focus (simp [Region.wanted, yielded]; done))
        | (go_at_call 7; go_loud ((with_reducible refine (CB.out _ Q1.out).mono ?_); rintro e w2 ⟨rfl, p2⟩; have P2 := Lib.hid (P1.out.trans (p2.mono P1.out.size))))
        | fail)
      obtain ⟨W0, hW0⟩ : ∃ W, W = ((w.alloc (.cells #[.int .i64 a1, .int .i64 a2, .string a3, .string a4, .string a5, .int .i64 a6, .slice o1 a7.length q1, .int .i64 a8, .int .i64 a9, .int .i64 a10, .int .i64 a11, .bool a12, .int .i64 a13, .bool a14, .slice o2 a15.length q2, .int .i64 a16, .int .i64 a17, .int .i64 a18] 27)).alloc (.cells #[.int .i64 b1, .int .i64 b2, .string b3, .string b4, .string b5, .int .i64 b6, .slice o3 b7.length q3, .int .i64 b8, .int .i64 b9, .int .i64 b10, .int .i64 b11, .bool b12, .int .i64 b13, .bool b14, .slice o4 b15.length q4, .int .i64 b16, .int .i64 b17, .int .i64 b18] 27)) := ⟨_, rfl⟩
      rw [← hW0] at HBX HB0 P2
      have hb1 : Below W0.heap.size W0 w2.drew := P2.out.drew
      clear hW0 p2 P1 Q1
      refine wp_region_held_drew (S := fun W => Below W0.heap.size W0 W) (by kernel_rfl) (hb1) (fun hHeld => ?_)
      refine takeL (i := 0) rfl (by kernel_rfl) (by kernel_rfl) (by kernel_rfl) (by first | exact fun c a w h => hP c a _ _ w h | exact fun _ _ _ h => h) (yif_cmd (S := fun W => Below W0.heap.size W0 W) (by rfl) _ rfl (w.heap.size) rfl _ (fun W h => ⟨_, (HBX.out W h).1⟩) rfl) (by assumption) ?_
      simp only [Act.put, List.setIfInBounds_toArray, List.set_cons_zero, List.set_cons_succ]
      refine takeL (i := 1) rfl (by kernel_rfl) (by kernel_rfl) (by kernel_rfl) (by first | exact fun c a w h => hP c a _ _ w h | exact fun _ _ _ h => h) (yif_cmd (S := fun W => Below W0.heap.size W0 W) (by rfl) _ rfl ((w.heap.size + 1)) rfl _ (fun W h => ⟨_, (HBX.out W h).2⟩) rfl) (by assumption) ?_
      simp only [Act.put, List.setIfInBounds_toArray, List.set_cons_zero, List.set_cons_succ]
      refine takeL (i := 3) rfl (by kernel_rfl) (by kernel_rfl) (by kernel_rfl) (by first | exact fun c a w h => hP c a _ _ w h | exact fun _ _ _ h => h) (yif_cmd (S := fun W => Below W0.heap.size W0 W) (by rfl) _ rfl (w.heap.size) rfl _ (fun W h => ⟨_, (HBX.out W h).1⟩) rfl) (by assumption) ?_
      simp only [Act.put, List.setIfInBounds_toArray, List.set_cons_zero, List.set_cons_succ]
      refine takeL (i := 4) rfl (by kernel_rfl) (by kernel_rfl) (by kernel_rfl) (by first | exact fun c a w h => hP c a _ _ w h | exact fun _ _ _ h => h) (yif_cmd (S := fun W => Below W0.heap.size W0 W) (by rfl) _ rfl ((w.heap.size + 1)) rfl _ (fun W h => ⟨_, (HBX.out W h).2⟩) rfl) (by assumption) ?_
      simp only [Act.put, List.setIfInBounds_toArray, List.set_cons_zero, List.set_cons_succ]
      refine wpAnyH_ready (rs := [2]) (by kernel_rfl) (by simp) ?_
      refine readyL rfl ?_ ?_
      rotate_left
      · exact AllReadyH.nil
      intro K hK
      go_simp
      go_wp2_with (first
        | (go_at_call 13; go_loud ((with_reducible refine (CS.out _ (HB0.out.trans (hb1.mono HB0.out.size))).mono ?_); rintro e w3 ⟨rfl, p3⟩))
        | fail)
      have k3 : Below W0.heap.size W0 w3 := hb1.trans (p3.mono hb1.size)
      refine hK.out _ _ (k3) (fun hNew => ?_)
      clear hK K
      replace hHeld := hNew
      clear hNew
      refine wpAnyH_ready (rs := [5]) (by kernel_rfl) (by simp) ?_
      refine readyL rfl ?_ ?_
      rotate_left
      · exact AllReadyH.nil
      intro K hK
      go_simp
      go_wp2_with (first
        | (go_at_call 14; go_loud ((with_reducible refine (CR.out _ (HB0.out.trans (k3.mono HB0.out.size))).mono ?_); rintro e w4 ⟨rfl, p4⟩))
        | fail)
      have k4 : Below W0.heap.size W0 w4 := k3.trans (p4.mono k3.size)
      refine hK.out _ _ (k4) (fun hNew => ?_)
      clear hK K
      replace hHeld := hNew
      clear hNew
      refine takeL (i := 6) (v := ?_) rfl (by kernel_rfl) (by kernel_rfl) (by kernel_rfl) (by first | exact fun c a w h => hP c a _ _ w h | exact fun _ _ _ h => h) (Or.inl ⟨by rfl, ?_⟩) (by assumption) ?_
      rotate_left
      · intro W hS; go_simp; (try with_reducible rfl)
      simp only [Act.put, List.setIfInBounds_toArray, List.set_cons_zero, List.set_cons_succ]
      refine takeL (i := 7) (v := ?_) rfl (by kernel_rfl) (by kernel_rfl) (by kernel_rfl) (by first | exact fun c a w h => hP c a _ _ w h | exact fun _ _ _ h => h) (Or.inl ⟨by rfl, ?_⟩) (by assumption) ?_
      rotate_left
      · intro W hS; go_simp; (try with_reducible rfl)
      simp only [Act.put, List.setIfInBounds_toArray, List.set_cons_zero, List.set_cons_succ]
      refine wpAnyH_ready (rs := [8]) (by kernel_rfl) (by simp) ?_
      refine readyL rfl ?_ ?_
      rotate_left
      · exact AllReadyH.nil
      intro K hK
      go_simp
      go_wp2_with (first
        | (go_at_call 8; go_loud ((with_reducible refine (CW.out _ (HB0.out.trans (k4.mono HB0.out.size))).mono ?_); rintro e w5 ⟨rfl, p5⟩))
        | fail)
      have k5 : Below W0.heap.size W0 w5 := k4.trans (p5.mono k4.size)
      refine hK.out _ _ (k5) (fun hNew => ?_)
      clear hK K
      replace hHeld := hNew
      clear hNew
      refine takeL (i := 9) (v := ?_) rfl (by kernel_rfl) (by kernel_rfl) (by kernel_rfl) (by first | exact fun c a w h => hP c a _ _ w h | exact fun _ _ _ h => h) (Or.inl ⟨by rfl, ?_⟩) (by assumption) ?_
      rotate_left
      · intro W hS; go_simp; (try with_reducible rfl)
      simp only [Act.put, List.setIfInBounds_toArray, List.set_cons_zero, List.set_cons_succ]
      refine takeL (i := 10) (v := ?_) rfl (by kernel_rfl) (by kernel_rfl) (by kernel_rfl) (by first | exact fun c a w h => hP c a _ _ w h | exact fun _ _ _ h => h) (Or.inl ⟨by rfl, ?_⟩) (by assumption) ?_
      rotate_left
      · intro W hS; go_simp; (try with_reducible rfl)
      simp only [Act.put, List.setIfInBounds_toArray, List.set_cons_zero, List.set_cons_succ]
      refine wpAnyH_done (by kernel_rfl) ?_ _
      go_wp2
      go_ret
      exact ⟨rfl, HB0.out.trans (k5.mono HB0.out.size)⟩
end Go.Proofs.YtdkngidangfkiaaGreatDoor.Cmd
namespace Go.Proofs.YtdkngidangfkiaaGreatDoor.LexLib
open Go.Shelf Go.RowKit
open Base
set_option linter.unusedVariables false
def Laid : List (String × DataW Unit) := [("math/bits.deBruijn32tab", Rows.laid_math_bits_deBruijn32tab), ("math/bits.deBruijn64tab", Rows.laid_math_bits_deBruijn64tab), ("internal/strconv.uint64pow10", Rows.laid_internal_strconv_uint64pow10), ("unicode/utf8.acceptRanges", Rows.laid_unicode_utf8_acceptRanges), ("strconv.ErrRange", Rows.laid_strconv_ErrRange), ("strconv.ErrSyntax", Rows.laid_strconv_ErrSyntax), ("unicode/utf8.first", Rows.laid_unicode_utf8_first)]
theorem xU8 : U8Extra Tryz.prog ren := ⟨by kernel_rfl, by kernel_rfl, by kernel_rfl, by kernel_rfl, by kernel_rfl, by kernel_rfl, by kernel_rfl⟩
theorem e_first : Rows.laid_unicode_utf8_first = Lib.firstData := Pinned.utf8First_eq
set_option maxRecDepth 100000 in
theorem e_accept : (Rows.laid_unicode_utf8_acceptRanges : DataW Unit) = Lib.acceptData := by kernel_rfl
set_option maxRecDepth 100000 in
theorem e_pow : (Rows.laid_internal_strconv_uint64pow10 : DataW Unit) = Lib.tabData .u64 Lib.pow10Tab := by kernel_rfl
theorem tab_of_reads {P : Program} {w : World} {name : String} {k : IntKind} {zs : List Int} {g : Nat} {t e : TypeId} {n : Nat}
    (hg : P.globalNamed name = some g) (hty : (P.globals[g]?).map (·.type) = some t) (ht : P.underlying t = some (.array n e)) (he : P.underlying e = some (.int k)) (hce : P.cellsOf e = 1) (hct : P.cellsOf t = n)
    (h : Lib.VarReads P w name (Lib.tabData k zs)) : Lib.TabIs P w name k zs := by
  obtain ⟨g', t', cs, fuel, p, hg', ht', hvar, hd⟩ := h
  obtain rfl := Option.some.inj (hg.symm.trans hg')
  obtain rfl := Option.some.inj (hty.symm.trans ht')
  unfold Lib.TabIs
  rw [hvar, ← Lib.cells_of_tab ht he hce hct hd]
theorem err_of_reads {P : Program} {w : World} {name nm : String} {d : DataW Unit} {g : Nat} {t : TypeId} {ms : Array (String × TypeId)}
    (hg : P.globalNamed name = some g) (hty : (P.globals[g]?).map (·.type) = some t) (ht : P.underlying t = some (.interface ms))
    (h : Lib.VarReads P w name (.iface nm d)) : ErrAt g w := by
  obtain ⟨g', t', cs, fuel, p, hg', ht', hvar, hd⟩ := h
  obtain rfl := Option.some.inj (hg.symm.trans hg')
  obtain rfl := Option.some.inj (hty.symm.trans ht')
  obtain ⟨f1, u, v, hcs, _, _⟩ := iface_of_trod ht hd
  refine ⟨.iface u v, ?_, .inr ⟨u, v, rfl⟩⟩
  rw [World.var?_cell hg hvar 0, ← Array.getElem?_toList, hcs]
  rfl
theorem g_syn : Tryz.prog.globalNamed "strconv.ErrSyntax" = some 5 := by kernel_rfl
theorem g_rng : Tryz.prog.globalNamed "strconv.ErrRange" = some 6 := by kernel_rfl
theorem t_pow : (Tryz.prog.globals[(4 : Nat)]?).map (·.type) = some 191 := by kernel_rfl
theorem t_syn : (Tryz.prog.globals[(5 : Nat)]?).map (·.type) = some 48 := by kernel_rfl
theorem t_rng : (Tryz.prog.globals[(6 : Nat)]?).map (·.type) = some 48 := by kernel_rfl
theorem tb_of_laid {W : World} (h : laidMet Tryz.prog Laid W) : Tb W := by
  refine ⟨?_, ?_, ?_, ?_⟩
  · refine utf8Tabs_of_reads lays260 xU8 ?_ ?_
    · rw [← e_first]; exact Lib.laidMet.reads h (by simp [Laid])
    · rw [← e_accept]; exact Lib.laidMet.reads h (by simp [Laid])
  · refine tab_of_reads g_pow t_pow Tryz.underlying191 Tryz.underlying168 (by kernel_rfl) (by kernel_rfl) ?_
    rw [← e_pow]; exact Lib.laidMet.reads h (by simp [Laid])
  · exact err_of_reads g_syn t_syn Tryz.underlying48 (Lib.laidMet.reads h (n := "strconv.ErrSyntax") (d := Rows.laid_strconv_ErrSyntax) (by simp [Laid]))
  · exact err_of_reads g_rng t_rng Tryz.underlying48 (Lib.laidMet.reads h (n := "strconv.ErrRange") (d := Rows.laid_strconv_ErrRange) (by simp [Laid]))
end Go.Proofs.YtdkngidangfkiaaGreatDoor.LexLib
namespace Go.Proofs.YtdkngidangfkiaaGreatDoor.HoursLib
open Go.Shelf Go.RowKit
open Base
set_option linter.unusedVariables false
def Laid : List (String × DataW Unit) := [("math/bits.deBruijn32tab", Rows.laid_math_bits_deBruijn32tab), ("math/bits.deBruijn64tab", Rows.laid_math_bits_deBruijn64tab), ("internal/strconv.uint64pow10", Rows.laid_internal_strconv_uint64pow10), ("unicode/utf8.acceptRanges", Rows.laid_unicode_utf8_acceptRanges), ("strconv.ErrRange", Rows.laid_strconv_ErrRange), ("strconv.ErrSyntax", Rows.laid_strconv_ErrSyntax), ("muster/hours.units", Rows.laid_muster_hours_units), ("unicode/utf8.first", Rows.laid_unicode_utf8_first)]
set_option maxRecDepth 100000 in
theorem e_pow : (Rows.laid_internal_strconv_uint64pow10 : DataW Unit) = Lib.tabData .u64 Lib.pow10Tab := by kernel_rfl
theorem tab_of_reads {P : Program} {w : World} {name : String} {k : IntKind} {zs : List Int} {g : Nat} {t e : TypeId} {n : Nat}
    (hg : P.globalNamed name = some g) (hty : (P.globals[g]?).map (·.type) = some t) (ht : P.underlying t = some (.array n e)) (he : P.underlying e = some (.int k)) (hce : P.cellsOf e = 1) (hct : P.cellsOf t = n)
    (h : Lib.VarReads P w name (Lib.tabData k zs)) : Lib.TabIs P w name k zs := by
  obtain ⟨g', t', cs, fuel, p, hg', ht', hvar, hd⟩ := h
  obtain rfl := Option.some.inj (hg.symm.trans hg')
  obtain rfl := Option.some.inj (hty.symm.trans ht')
  unfold Lib.TabIs
  rw [hvar, ← Lib.cells_of_tab ht he hce hct hd]
theorem err_of_reads {P : Program} {w : World} {name nm : String} {d : DataW Unit} {g : Nat} {t : TypeId} {ms : Array (String × TypeId)}
    (hg : P.globalNamed name = some g) (hty : (P.globals[g]?).map (·.type) = some t) (ht : P.underlying t = some (.interface ms))
    (h : Lib.VarReads P w name (.iface nm d)) : ErrAt g w := by
  obtain ⟨g', t', cs, fuel, p, hg', ht', hvar, hd⟩ := h
  obtain rfl := Option.some.inj (hg.symm.trans hg')
  obtain rfl := Option.some.inj (hty.symm.trans ht')
  obtain ⟨f1, u, v, hcs, _, _⟩ := iface_of_trod ht hd
  refine ⟨.iface u v, ?_, .inr ⟨u, v, rfl⟩⟩
  rw [World.var?_cell hg hvar 0, ← Array.getElem?_toList, hcs]
  rfl
theorem g_syn : Tryz.prog.globalNamed "strconv.ErrSyntax" = some 5 := by kernel_rfl
theorem t_pow : (Tryz.prog.globals[(4 : Nat)]?).map (·.type) = some 191 := by kernel_rfl
theorem t_syn : (Tryz.prog.globals[(5 : Nat)]?).map (·.type) = some 48 := by kernel_rfl
theorem g_units : Tryz.prog.globalNamed "muster/hours.units" = some 7 := by kernel_rfl
theorem t_units : (Tryz.prog.globals[(7 : Nat)]?).map (·.type) = some 214 := by kernel_rfl
theorem pair_of_struct {P : Program} {w : World} {base : Nat} {sp : Nat → Bool} {held : Bool} {fuel : Nat} {ty : TypeId} {fs : Array Field} {j k : IntKind} {cs : List Value} {a b : Int} {p : List MemPlace} (ht : P.underlying ty = some (.struct fs))
    (hs : fs.size = 2)
    (hf0 : ∀ f, fs[0]? = some f → P.underlying f.type = some (.int j) ∧ f.offset = 0 ∧ P.cellsOf f.type = 1)
    (hf1 : ∀ f, fs[1]? = some f → P.underlying f.type = some (.int k) ∧ f.offset = 1 ∧ P.cellsOf f.type = 1)
    (h : DataW.trod (fun _ => ()) P w base sp held fuel ty cs = some (.agg [.lit (.int j a), .lit (.int k b)], p)) : cs[0]? = some (.int j a) ∧ cs[1]? = some (.int k b) := by
  obtain ⟨xs, n, rfl, hx, hl, hxl, hall⟩ := DataW.trod_struct ht h
  have hxs : xs.map (·.1) = [.lit (.int j a), .lit (.int k b)] := by
    have := congrArg Prod.fst hx
    simpa using this.symm
  have h0 := hall 0 fs[0] (by simp [hs])
  have h1 := hall 1 fs[1] (by simp [hs])
  obtain ⟨u0, o0, c0⟩ := hf0 fs[0] (by simp [hs])
  obtain ⟨u1, o1, c1⟩ := hf1 fs[1] (by simp [hs])
  rw [o0, c0] at h0
  rw [o1, c1] at h1
  obtain ⟨x, y, rfl⟩ : ∃ x y, xs = [x, y] := by
    match xs, (show xs.length = 2 from by rw [hxl, hs]) with
    | [x, y], _ => exact ⟨x, y, rfl⟩
  simp only [List.map_cons, List.map_nil, List.cons.injEq, and_true] at hxs
  obtain ⟨rx, ry⟩ := hxs
  have h0 : DataW.trod (fun _ => ()) P w base sp held n fs[0].type ((cs.drop 0).take 1) = some x := h0
  have h1 : DataW.trod (fun _ => ()) P w base sp held n fs[1].type ((cs.drop 1).take 1) = some y := h1
  obtain ⟨z, hz, rfl, _⟩ := DataW.trod_int u0 h0
  obtain ⟨z', hz', rfl, _⟩ := DataW.trod_int u1 h1
  simp at rx ry
  subst rx ry
  have e0 := congrArg (·[0]?) hz
  have e1 := congrArg (·[0]?) hz'
  simp only [List.getElem?_take, List.getElem?_drop] at e0 e1
  exact ⟨by simpa using e0, by simpa using e1⟩
theorem unit_of_struct {w : World} {base : Nat} {sp : Nat → Bool} {held : Bool} {fuel : Nat} {cs : List Value} {a b : Int} {p : List MemPlace}
    (h : DataW.trod (fun _ => ()) Tryz.prog w base sp held fuel 213 cs = some (.agg [.lit (.int .u8 a), .lit (.int .i64 b)], p)) : cs[0]? = some (.int .u8 a) ∧ cs[1]? = some (.int .i64 b) :=
  pair_of_struct Tryz.underlying213 rfl (fun f hf => by simp at hf; subst hf; exact ⟨Tryz.underlying5, rfl, by kernel_rfl⟩) (fun f hf => by simp at hf; subst hf; exact ⟨Tryz.underlying3, rfl, by kernel_rfl⟩) h
theorem units_of_reads {w : World} (h : Lib.VarReads Tryz.prog w "muster/hours.units" Rows.laid_muster_hours_units) : UnitsAt w := by
  obtain ⟨g', t', cs, fuel, p, hg', ht', hvar, hd⟩ := h
  obtain rfl := Option.some.inj (g_units.symm.trans hg')
  obtain rfl := Option.some.inj (t_units.symm.trans ht')
  unfold Rows.laid_muster_hours_units at hd
  have ce : Tryz.prog.cellsOf 213 = 2 := by kernel_rfl
  have H : ∀ (i : Nat) (hi : i < 4) (a b : Int), ([DataW.agg [.lit (.int .u8 100), .lit (.int .i64 86400)], .agg [.lit (.int .u8 104), .lit (.int .i64 3600)], .agg [.lit (.int .u8 109), .lit (.int .i64 60)], .agg [.lit (.int .u8 115), .lit (.int .i64 1)]] : List (DataW Unit))[i]? = some (.agg [.lit (.int .u8 a), .lit (.int .i64 b)]) →
      w.cell? ⟨7, 2 * i, none⟩ = some (.int .u8 a) ∧ w.cell? ⟨7, 2 * i + 1, none⟩ = some (.int .i64 b) := by
    intro i hi a b hab
    obtain ⟨fuel', d, q, hdi, he⟩ := Lib.array_elem Tryz.underlying214 hd i hi
    rw [hab, Option.some.injEq] at hdi
    subst hdi
    rw [ce] at he
    obtain ⟨e0, e1⟩ := unit_of_struct he
    simp only [List.getElem?_take, List.getElem?_drop] at e0 e1
    constructor
    · rw [World.var?_cell hg' hvar (2 * i), ← Array.getElem?_toList]
      simpa [Nat.mul_comm] using e0
    · rw [World.var?_cell hg' hvar (2 * i + 1), ← Array.getElem?_toList]
      simpa [Nat.mul_comm] using e1
  have a0 := H 0 (by decide) 100 86400 rfl
  have a1 := H 1 (by decide) 104 3600 rfl
  have a2 := H 2 (by decide) 109 60 rfl
  have a3 := H 3 (by decide) 115 1 rfl
  exact ⟨a0.1, a0.2, a1.1, a1.2, a2.1, a2.2, a3.1, a3.2⟩
theorem tb_of_laid {W : World} (h : laidMet Tryz.prog Laid W) : Tb W := by
  refine ⟨?_, ?_, ?_⟩
  · refine tab_of_reads g_pow t_pow Tryz.underlying191 Tryz.underlying168 (by kernel_rfl) (by kernel_rfl) ?_
    rw [← e_pow]; exact Lib.laidMet.reads h (by simp [Laid])
  · exact err_of_reads g_syn t_syn Tryz.underlying48 (Lib.laidMet.reads h (n := "strconv.ErrSyntax") (d := Rows.laid_strconv_ErrSyntax) (by simp [Laid]))
  · exact units_of_reads (Lib.laidMet.reads h (n := "muster/hours.units") (d := Rows.laid_muster_hours_units) (by simp [Laid]))
end Go.Proofs.YtdkngidangfkiaaGreatDoor.HoursLib
namespace Go.Proofs.YtdkngidangfkiaaGreatDoor.CmdLib
open Go.Shelf Go.RowKit
open Base
set_option linter.unusedVariables false
set_option linter.unusedSimpArgs false
def Laid : List (String × DataW Unit) := [("math/bits.deBruijn32tab", Rows.laid_math_bits_deBruijn32tab), ("math/bits.deBruijn64tab", Rows.laid_math_bits_deBruijn64tab), ("internal/strconv.uint64pow10", Rows.laid_internal_strconv_uint64pow10), ("unicode/utf8.acceptRanges", Rows.laid_unicode_utf8_acceptRanges), ("strconv.ErrRange", Rows.laid_strconv_ErrRange), ("strconv.ErrSyntax", Rows.laid_strconv_ErrSyntax), ("muster/hours.units", Rows.laid_muster_hours_units), ("muster/cmd.words", Rows.laid_muster_cmd_words), ("muster/cmd.hows", Rows.laid_muster_cmd_hows), ("unicode/utf8.first", Rows.laid_unicode_utf8_first)]
abbrev Tb := Cmd.Tb
theorem g_words : Tryz.prog.globalNamed "muster/cmd.words" = some 0 := by kernel_rfl
theorem t_words : (Tryz.prog.globals[(0 : Nat)]?).map (·.type) = some 80 := by kernel_rfl
theorem g_hows : Tryz.prog.globalNamed "muster/cmd.hows" = some 1 := by kernel_rfl
theorem t_hows : (Tryz.prog.globals[(1 : Nat)]?).map (·.type) = some 85 := by kernel_rfl
theorem words_of_reads {w : World} {name : String} {l : List ByteArray} {g : Nat} {t : TypeId} {d : DataW Unit} (hg : Tryz.prog.globalNamed name = some g) (hty : (Tryz.prog.globals[g]?).map (·.type) = some t) (ht : Tryz.prog.underlying t = some (.array l.length 9))
    (hd : d = .agg (l.map fun s => .lit (.string s.data.toList))) (h : Lib.VarReads Tryz.prog w name d) : Cmd.WordsAt w g l := by
  obtain ⟨g', t', cs, fuel, p, hg', ht', hvar, hx⟩ := h
  obtain rfl := Option.some.inj (hg.symm.trans hg')
  obtain rfl := Option.some.inj (hty.symm.trans ht')
  subst hd
  have ce : Tryz.prog.cellsOf 9 = 1 := by kernel_rfl
  intro i hi
  obtain ⟨fuel', d, q, hdi, he⟩ := Lib.array_elem ht hx i hi
  rw [ce] at he
  obtain ⟨s, hs, hx2, _⟩ := DataW.trod_string Tryz.underlying9 he
  rw [List.getElem?_map, List.getElem?_eq_getElem hi] at hdi
  have hdi : DataW.lit (.string l[i].data.toList) = d := by simpa using hdi
  have e2 : d = .lit (.string s.data.toList) := by injection hx2
  rw [e2] at hdi
  have e3 : l[i].data.toList = s.data.toList := congrArg (fun x : DataW Unit => match x with | .lit (.string y) => y | _ => []) hdi
  have e4 : l[i] = s := by apply ByteArray.ext; exact Array.toList_inj.1 e3
  rw [World.var?_cell hg hvar i, ← Array.getElem?_toList]
  have e0 := congrArg (·[0]?) hs
  simp only [List.getElem?_take, List.getElem?_drop] at e0
  rw [List.getD_eq_getElem?_getD, List.getElem?_eq_getElem hi, e4]
  simpa using e0
theorem tb_of_laid {W : World} (h : laidMet Tryz.prog Laid W) : Tb W := by
  refine ⟨⟨?_, ?_, ?_, ?_⟩, ⟨?_, ?_, ?_⟩, ?_, ?_⟩
  · refine utf8Tabs_of_reads LexLib.lays260 LexLib.xU8 ?_ ?_
    · rw [← LexLib.e_first]; exact Lib.laidMet.reads h (by simp [Laid])
    · rw [← LexLib.e_accept]; exact Lib.laidMet.reads h (by simp [Laid])
  · refine LexLib.tab_of_reads LexLib.g_pow LexLib.t_pow Tryz.underlying191 Tryz.underlying168 (by kernel_rfl) (by kernel_rfl) ?_
    rw [← LexLib.e_pow]; exact Lib.laidMet.reads h (by simp [Laid])
  · exact LexLib.err_of_reads LexLib.g_syn LexLib.t_syn Tryz.underlying48 (Lib.laidMet.reads h (n := "strconv.ErrSyntax") (d := Rows.laid_strconv_ErrSyntax) (by simp [Laid]))
  · exact LexLib.err_of_reads LexLib.g_rng LexLib.t_rng Tryz.underlying48 (Lib.laidMet.reads h (n := "strconv.ErrRange") (d := Rows.laid_strconv_ErrRange) (by simp [Laid]))
  · refine HoursLib.tab_of_reads HoursLib.g_pow HoursLib.t_pow Tryz.underlying191 Tryz.underlying168 (by kernel_rfl) (by kernel_rfl) ?_
    rw [← HoursLib.e_pow]; exact Lib.laidMet.reads h (by simp [Laid])
  · exact HoursLib.err_of_reads HoursLib.g_syn HoursLib.t_syn Tryz.underlying48 (Lib.laidMet.reads h (n := "strconv.ErrSyntax") (d := Rows.laid_strconv_ErrSyntax) (by simp [Laid]))
  · exact HoursLib.units_of_reads (Lib.laidMet.reads h (n := "muster/hours.units") (d := Rows.laid_muster_hours_units) (by simp [Laid]))
  · exact words_of_reads g_words t_words Tryz.underlying80 (by kernel_rfl) (Lib.laidMet.reads h (n := "muster/cmd.words") (d := Rows.laid_muster_cmd_words) (by simp [Laid]))
  · exact words_of_reads g_hows t_hows Tryz.underlying85 (by kernel_rfl) (Lib.laidMet.reads h (n := "muster/cmd.hows") (d := Rows.laid_muster_cmd_hows) (by simp [Laid]))
end Go.Proofs.YtdkngidangfkiaaGreatDoor.CmdLib
namespace Go.Proofs.YtdkngidangfkiaaGreatDoor.Cmd
open Go.RowKit
open Base Runes Lex
set_option linter.unusedVariables false
set_option linter.unusedSimpArgs false
theorem scn_bd : ∀ l : List Nat, (scn l).2 ≤ l.length
  | [] => by simp [scn]
  | [r] => by rw [scn]; repeat' split
              all_goals simp
  | r :: c :: t => by
    have h1 := scn_bd t
    have h2 := scn_bd (c :: t)
    rw [scn]
    repeat' split
    all_goals (try simp only [List.length_cons] at *)
    all_goals (try omega)
theorem textR_place (R : List Nat) (i : Nat) (hi : i < R.length) (h : (textR R i).2.2.2 ≠ 0) : (textR R i).2.2.1 ≤ R.length := by
  have := scn_bd (R.drop (i + 1))
  rw [List.length_drop] at this
  unfold textR at h ⊢
  split
  · dsimp only; omega
  · rename_i h1
    rw [if_neg h1] at h
    split
    · rename_i h2
      rw [if_pos h2] at h
      split
      · rename_i h3; rw [if_pos h3] at h; exact absurd rfl h
      · dsimp only; omega
    · dsimp only; omega
theorem oneR_place (R : List Nat) (i : Nat) (hi : i < R.length) (h : (oneR R i).2.2.2 ≠ 0) : (oneR R i).2.2.1 ≤ R.length := by
  have ht := textR_place R i hi
  unfold oneR at h ⊢
  repeat' split
  all_goals first | (dsimp only; omega) | skip
  all_goals (rename_i h1 h2 h3 h4; rw [if_neg h1, if_neg h2, if_neg h3, if_pos h4] at h; exact ht h)
theorem toksR_place (R : List Nat) : ∀ (f i : Nat) (acc : List Tok), R.length ≤ i + f → i ≤ R.length → (toksR f R i acc).2.1 ≤ R.length
  | 0, i, acc, hf, hi => Nat.le_refl _
  | f + 1, i, acc, hf, hi => by
    rw [toksR]
    by_cases hp : i < R.length
    · rw [if_pos hp]
      by_cases h1 : cls (R.getD i 0 : Nat) = 1
      · rw [if_pos h1]; exact toksR_place R f (i + 1) acc (by omega) (by omega)
      · rw [if_neg h1]
        by_cases he : (oneR R i).2.2.2 = 0
        · rw [if_pos he]
          obtain ⟨w1, w2⟩ := oneR_to R i hp he
          exact toksR_place R f (oneR R i).2.1 (acc ++ [(oneR R i).1]) (by omega) w2
        · rw [if_neg he]; exact oneR_place R i hp he
    · rw [if_neg hp]; exact Nat.le_refl _
theorem tkA_place (s : ByteArray) : (tkA s).2.1 ≤ cn s := by
  unfold tkA
  split
  · exact Nat.zero_le _
  · rw [← rn_length]; exact toksR_place (rn s) (rn s).length 0 [] (by omega) (Nat.zero_le _)
theorem parse_bad {s : ByteArray} (h : (parseC s).2.2 ≠ 0) : (parseC s).1 = zCo 0 ∧ 0 ≤ (parseC s).2.1 ∧ (parseC s).2.1 ≤ (cn s : Int) := by
  have hp := tkA_place s
  unfold parseC at h ⊢
  split
  · exact ⟨rfl, by dsimp only; omega, by dsimp only; omega⟩
  · rename_i h0
    have h0 : (tkA s).2.2 = 0 := by simpa using h0
    have hl := (line_places h0).1
    rw [if_neg (by simpa using h0)] at h
    have hs := rdCmd_suffix (tkA s).1
    rcases hc : rdCmd (tkA s).1 with ⟨_ | d, r⟩
    · rw [hc] at hs
      refine ⟨rfl, ?_⟩
      dsimp only at hs ⊢
      cases r with
      | nil => rw [placeR]; omega
      | cons t r =>
        rw [placeR]
        have := hl t (hs.subset (by simp))
        omega
    · rw [hc] at h
      dsimp only at h ⊢
      split
      · rename_i h2; rw [if_pos h2] at h; exact absurd rfl h
      · exact ⟨rfl, by dsimp only; omega, by dsimp only; omega⟩
theorem may_small {c : Co} (h : mayC c = true) : c.name.size ≤ 64 ∧ c.user.size ≤ 64 ∧ c.account.size ≤ 64 := by
  by_cases hk : c.kind = 1
  · have s := sub_ok h hk
    exact ⟨(name_bytes s.name).2, (name_bytes s.user.1).2, (name_bytes s.account.1).2⟩
  · obtain ⟨f1, _⟩ := alone_facts ((mayC_iff c).1 h).2
    obtain ⟨g1, g2, g3, _⟩ := f1 hk
    rw [g1, g2, g3]
    exact ⟨Nat.zero_le _, Nat.zero_le _, Nat.zero_le _⟩
set_option maxHeartbeats 1000000 in
theorem count_big (s : ByteArray) (hs : s.size ≤ maxLen) (w : World) :
    Calls Tryz.prog 16 #[.string s] w fun e w' => e = .returned (.int .i64 (cn s : Nat)) ∧ Below w.heap.size w w' := by
  unfold maxLen at hs
  go_enter Tryz.func16, Tryz.ntmps16
  go_wp2
  go_loopw [3] (fun n wr => ∃ pos k : Nat, wr = w.iter s pos ∧ n = .int .i64 (k : Int) ∧ k + (ps s pos).length = cn s ∧ k ≤ pos ∧ pos ≤ s.size) (fun _ wr => s.size - wr.iterPos w.heap.size)
  case atStart => exact ⟨0, 0, rfl, rfl, Nat.zero_add _, Nat.le_refl _, Nat.zero_le _⟩
  case round =>
    obtain ⟨pos, k, rfl, rfl, hc, hk, hp0⟩ := hrel
    by_cases hp : pos < s.size
    · have hnx : ∀ ty, (Instr.next (.pointer (some ⟨w.heap.size, 0, none⟩)) true ty).run Tryz.prog (w.iter s pos) = _ := fun ty => run_next_any w s pos ty hp
      have hwd := ps_width s pos hp
      rw [ps_step s pos hp, List.length_cons] at hc
      have HC := Lib.hid hc
      clear hc
      go_wp2
      refine ⟨⟨_, k + 1, rfl, by go_num, by have := HC.out; omega, by omega, by omega⟩, ?_⟩
      simp; omega
    · have hnx : ∀ ty, (Instr.next (.pointer (some ⟨w.heap.size, 0, none⟩)) true ty).run Tryz.prog (w.iter s pos) = _ := fun ty => run_next_end w s pos ty hp
      rw [ps_end s pos hp] at hc
      have HC : Hid ((k : Int) = (cn s : Nat)) := Lib.hid (by simp at hc; omega)
      clear hc
      go_wp2
      go_ret
      exact ⟨ret_int HC.out, below_iter w s _⟩
end Go.Proofs.YtdkngidangfkiaaGreatDoor.Cmd
