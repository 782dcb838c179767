/-
  Joined out of: The walks of the statements of layer 8: CmdShows (written by gen_law8s.py). What the row lists of the library's variables is what the walks ask of the world. What the row lists of the library's variables is what the walks ask of the world. What the row lists of the library's variables, and of the program's own, is what the walks of layer 8 ask of the world.
-/
import Derived.Test.YtdkngidangfkiaaGreatDoorJb34
import Derived.Test.YtdkngidangfkiaaGreatDoorJb48
import Derived.Test.YtdkngidangfkiaaGreatDoorJb46
import Derived.Maps.RangeWalk
import Derived.Test.YtdkngidangfkiaaGreatDoorJb04
import Derived.PinnedBridge
import Derived.Lib.LaidU8
import Derived.Lib.LaidTab
import Derived.LaidLaws
import Derived.Test.YtdkngidangfkiaaGreatDoorJb07
import Derived.Test.YtdkngidangfkiaaGreatDoorJb09
import Derived.ChangeArms
namespace Go.Proofs.YtdkngidangfkiaaGreatDoor.Cmd
open Go.RowKit
open Base Runes Lex
set_option linter.unusedVariables false
set_option linter.unusedSimpArgs false
set_option maxRecDepth 100000 in
set_option maxHeartbeats 8000000 in
theorem cmdShows_any (c : Co) (va vd : Value) (w : World) (h1 : Row w va c.alts) (h2 : Row w vd c.after) (hT : Tb w) :
    Calls Tryz.prog 3 #[cmdV c va vd] w fun e w' => e = .returned (.bool true) ∧ Below w.heap.size w w' := by
  have cA := fun w2 (hb : Below w.heap.size w w2) => few8_any c va vd w2 (h1.below hb) (h2.below hb)
  have cW := fun w2 (hb : Below w.heap.size w w2) => awake8_any w2 (hT.later hb)
  cases hF : fewC c with
  | false =>
    simp only [hF] at cA
    obtain ⟨a1, a2, a3, a4, a5, a6, a7, a8, a9, a10, a11, a12, a13, a14, a15, a16, a17, a18⟩ := c
    obtain ⟨pa, qa, rfl, l1, m1, r1, n1⟩ := h1
    obtain ⟨pd, qd, rfl, l2, m2, r2, n2⟩ := h2
    unfold cmdV at cA ⊢
    dsimp only at *
    have CA := Lib.hid cA
    have CW := Lib.hid cW
    have HB0 := Lib.hid (below_one (w := w) (.cells #[.int .i64 a1, .int .i64 a2, .string a3, .string a4, .string a5, .int .i64 a6, .slice pa a7.length qa, .int .i64 a8, .int .i64 a9, .int .i64 a10, .int .i64 a11, .bool a12, .int .i64 a13, .bool a14, .slice pd a15.length qd, .int .i64 a16, .int .i64 a17, .int .i64 a18] 27))
    clear cA cW hT r1 r2 n1 n2 l1 l2 m1 m2 hF
    go_enter Tryz.func3, Tryz.ntmps3
    go_wp2_with (first
      | (refine ld_cmd rfl (.tmp 1) rfl w.heap.size _ _ rfl (heap_alloc_new w _) rfl ?_)
      | (go_at_call 7; go_loud ((with_reducible refine (CA.out _ HB0.out).mono ?_); rintro e w1 ⟨rfl, p⟩; have P1 := Lib.hid p; clear p))
      | (go_at_call 8; go_loud ((with_reducible refine (CW.out _ (HB0.out.trans (P1.out.mono HB0.out.size))).mono ?_); rintro e w2 ⟨rfl, p⟩; have P2 := Lib.hid (P1.out.trans (p.mono P1.out.size)); clear p))
      | fail)
    go_ret
    exact ⟨rfl, HB0.out.trans (P2.out.mono HB0.out.size)⟩
  | true =>
    have hz : c.name.size ≤ 1000 ∧ c.user.size ≤ 1000 ∧ c.account.size ≤ 1000 := by
      unfold fewC at hF; simp only [Bool.and_eq_true, decide_eq_true_eq] at hF; omega
    obtain ⟨z1, z2, z3⟩ := hz
    simp only [hF] at cA
    have cS := fun w2 (hb : Below w.heap.size w w2) => show_any c va vd w2 (hT.later hb) (h1.below hb) (h2.below hb) (by omega) (by omega) (by omega)
    have cD := fun w2 (hb : Below w.heap.size w w2) => rshow8_any c va vd w2 (h1.below hb) (h2.below hb) (by omega) (by omega) (by omega)
    have cC := fun w2 (hb : Below w.heap.size w w2) => check_any c va vd w2 (hT.later hb) (h1.below hb) (h2.below hb) (by omega) (by omega) (by omega)
    have cE := fun w2 (hb : Below w.heap.size w w2) => rcheck8_any c va vd w2 (h1.below hb) (h2.below hb) (by omega) (by omega) (by omega)
    obtain ⟨X, hX⟩ : ∃ x, x = (showC c).1 := ⟨_, rfl⟩
    obtain ⟨Y, hY⟩ : ∃ x, x = (showC c).2 := ⟨_, rfl⟩
    obtain ⟨E, hE⟩ : ∃ x, x = chkC c := ⟨_, rfl⟩
    simp only [← hX, ← hY] at cS cD
    simp only [← hE] at cC cE
    clear hX hY hE
    obtain ⟨a1, a2, a3, a4, a5, a6, a7, a8, a9, a10, a11, a12, a13, a14, a15, a16, a17, a18⟩ := c
    obtain ⟨pa, qa, rfl, l1, m1, r1, n1⟩ := h1
    obtain ⟨pd, qd, rfl, l2, m2, r2, n2⟩ := h2
    unfold cmdV at cA cS cD cC cE ⊢
    dsimp only at *
    have CA := Lib.hid cA
    have CW := Lib.hid cW
    have CS := Lib.hid cS
    have CD := Lib.hid cD
    have CC := Lib.hid cC
    have CE := Lib.hid cE
    have HB0 := Lib.hid (below_one (w := w) (.cells #[.int .i64 a1, .int .i64 a2, .string a3, .string a4, .string a5, .int .i64 a6, .slice pa a7.length qa, .int .i64 a8, .int .i64 a9, .int .i64 a10, .int .i64 a11, .bool a12, .int .i64 a13, .bool a14, .slice pd a15.length qd, .int .i64 a16, .int .i64 a17, .int .i64 a18] 27))
    have HC : Hid (∀ w2, Below (w.alloc (.cells #[.int .i64 a1, .int .i64 a2, .string a3, .string a4, .string a5, .int .i64 a6, .slice pa a7.length qa, .int .i64 a8, .int .i64 a9, .int .i64 a10, .int .i64 a11, .bool a12, .int .i64 a13, .bool a14, .slice pd a15.length qd, .int .i64 a16, .int .i64 a17, .int .i64 a18] 27)).heap.size (w.alloc (.cells #[.int .i64 a1, .int .i64 a2, .string a3, .string a4, .string a5, .int .i64 a6, .slice pa a7.length qa, .int .i64 a8, .int .i64 a9, .int .i64 a10, .int .i64 a11, .bool a12, .int .i64 a13, .bool a14, .slice pd a15.length qd, .int .i64 a16, .int .i64 a17, .int .i64 a18] 27)) w2 → w2.heap[w.heap.size]? = some (.cells #[.int .i64 a1, .int .i64 a2, .string a3, .string a4, .string a5, .int .i64 a6, .slice pa a7.length qa, .int .i64 a8, .int .i64 a9, .int .i64 a10, .int .i64 a11, .bool a12, .int .i64 a13, .bool a14, .slice pd a15.length qd, .int .i64 a16, .int .i64 a17, .int .i64 a18] 27)) := Lib.hid (fun w2 hb => box_cmd hb)
    clear cA cW cS cD cC cE hT r1 r2 n1 n2 l1 l2 m1 m2 hF z1 z2 z3
    go_enter Tryz.func3, Tryz.ntmps3
    go_upto_region 5 with (first
      | (refine ld_cmd rfl (.tmp 1) rfl w.heap.size _ _ rfl (heap_alloc_new w _) rfl ?_)
      | (refine ld_cmd rfl (.tmp 1) rfl w.heap.size _ _ rfl (HC.out _ P1.out) rfl ?_)
      | (refine ld_cmd rfl (.tmp 1) rfl w.heap.size _ _ rfl (HC.out _ P2.out) rfl ?_)
      | (go_at_call 7; go_loud ((with_reducible refine (CA.out _ HB0.out).mono ?_); rintro e w1 ⟨rfl, p⟩; have P1 := Lib.hid p; clear p))
      | (go_at_call 9; go_loud ((with_reducible refine (CS.out _ (HB0.out.trans (P1.out.mono HB0.out.size))).mono ?_); rintro e w2 ⟨rfl, p⟩; have P2 := Lib.hid (P1.out.trans (p.mono P1.out.size)); clear p))
      | (go_at_call 10; go_loud ((with_reducible refine (CD.out _ (HB0.out.trans (P2.out.mono HB0.out.size))).mono ?_); rintro e w3 ⟨rfl, p⟩; have P3 := Lib.hid (P2.out.trans (p.mono P2.out.size)); clear p))
      | fail)
    obtain ⟨W0, hW0⟩ : ∃ W, W = (w.alloc (.cells #[.int .i64 a1, .int .i64 a2, .string a3, .string a4, .string a5, .int .i64 a6, .slice pa a7.length qa, .int .i64 a8, .int .i64 a9, .int .i64 a10, .int .i64 a11, .bool a12, .int .i64 a13, .bool a14, .slice pd a15.length qd, .int .i64 a16, .int .i64 a17, .int .i64 a18] 27)) := ⟨_, rfl⟩
    rw [← hW0] at HC HB0 P3
    have hb1 : Below W0.heap.size W0 w3.drew := P3.out.drew
    clear hW0 P1 P2
    refine wp_region_held_drew (S := fun W => Below W0.heap.size W0 W) (by kernel_rfl) (hb1) (fun hHeld => ?_)
    refine takeL (i := 0) rfl (by kernel_rfl) (by kernel_rfl) (by kernel_rfl) (by first | exact fun c a w h => hP c a _ _ w h | exact fun _ _ _ h => h) (yif_cmd (S := fun W => Below W0.heap.size W0 W) (by rfl) _ rfl (w.heap.size) rfl _ (fun W h => ⟨_, HC.out W h⟩) rfl) (by assumption) ?_
    go_frame
    refine takeL (i := 2) rfl (by kernel_rfl) (by kernel_rfl) (by kernel_rfl) (by first | exact fun c a w h => hP c a _ _ w h | exact fun _ _ _ h => h) (yif_cmd (S := fun W => Below W0.heap.size W0 W) (by rfl) _ rfl (w.heap.size) rfl _ (fun W h => ⟨_, HC.out W h⟩) rfl) (by assumption) ?_
    go_frame
    refine wpAnyH_ready (rs := [1]) (by kernel_rfl) (by simp) ?_
    refine readyL rfl ?_ ?_
    rotate_left
    · exact AllReadyH.nil
    intro K hK
    go_simp
    go_wp2_with (first
      | (go_at_call 11; go_loud ((with_reducible refine (CC.out _ (HB0.out.trans (hb1.mono HB0.out.size))).mono ?_); rintro e w4 ⟨rfl, p4⟩))
      | fail)
    have k4 : Below W0.heap.size W0 w4 := hb1.trans (p4.mono hb1.size)
    refine hK.out _ _ (k4) (fun hNew => ?_)
    clear hK K
    replace hHeld := hNew
    clear hNew
    refine wpAnyH_ready (rs := [3]) (by kernel_rfl) (by simp) ?_
    refine readyL rfl ?_ ?_
    rotate_left
    · exact AllReadyH.nil
    intro K hK
    go_simp
    go_wp2_with (first
      | (go_at_call 12; go_loud ((with_reducible refine (CE.out _ (HB0.out.trans (k4.mono HB0.out.size))).mono ?_); rintro e w5 ⟨rfl, p5⟩))
      | fail)
    have k5 : Below W0.heap.size W0 w5 := k4.trans (p5.mono k4.size)
    refine hK.out _ _ (k5) (fun hNew => ?_)
    clear hK K
    replace hHeld := hNew
    clear hNew
    refine takeL (i := 4) (v := ?_) rfl (by kernel_rfl) (by kernel_rfl) (by kernel_rfl) (by first | exact fun c a w h => hP c a _ _ w h | exact fun _ _ _ h => h) (Or.inl ⟨by rfl, ?_⟩) (by assumption) ?_
    rotate_left
    · intro W hS; go_simp; (try with_reducible rfl)
    go_frame
    refine takeL (i := 5) (v := ?_) rfl (by kernel_rfl) (by kernel_rfl) (by kernel_rfl) (by first | exact fun c a w h => hP c a _ _ w h | exact fun _ _ _ h => h) (Or.inl ⟨by rfl, ?_⟩) (by assumption) ?_
    rotate_left
    · intro W hS; go_simp; (try with_reducible rfl)
    go_frame
    refine takeL (i := 6) (v := ?_) rfl (by kernel_rfl) (by kernel_rfl) (by kernel_rfl) (by first | exact fun c a w h => hP c a _ _ w h | exact fun _ _ _ h => h) (Or.inl ⟨by rfl, ?_⟩) (by assumption) ?_
    rotate_left
    · intro W hS; go_simp; (try with_reducible rfl)
    go_frame
    refine takeL (i := 7) (v := ?_) rfl (by kernel_rfl) (by kernel_rfl) (by kernel_rfl) (by first | exact fun c a w h => hP c a _ _ w h | exact fun _ _ _ h => h) (Or.inl ⟨by rfl, ?_⟩) (by assumption) ?_
    rotate_left
    · intro W hS; go_simp; (try with_reducible rfl)
    go_frame
    refine takeL (i := 8) (v := ?_) rfl (by kernel_rfl) (by kernel_rfl) (by kernel_rfl) (by first | exact fun c a w h => hP c a _ _ w h | exact fun _ _ _ h => h) (Or.inl ⟨by rfl, ?_⟩) (by assumption) ?_
    rotate_left
    · intro W hS; go_simp; (try with_reducible rfl)
    go_frame
    refine takeL (i := 9) (v := ?_) rfl (by kernel_rfl) (by kernel_rfl) (by kernel_rfl) (by first | exact fun c a w h => hP c a _ _ w h | exact fun _ _ _ h => h) (Or.inl ⟨by rfl, ?_⟩) (by assumption) ?_
    rotate_left
    · intro W hS; go_simp; (try with_reducible rfl)
    go_frame
    refine takeL (i := 10) (v := ?_) rfl (by kernel_rfl) (by kernel_rfl) (by kernel_rfl) (by first | exact fun c a w h => hP c a _ _ w h | exact fun _ _ _ h => h) (Or.inl ⟨by rfl, ?_⟩) (by assumption) ?_
    rotate_left
    · intro W hS; go_simp; (try with_reducible rfl)
    go_frame
    refine takeL (i := 11) (v := ?_) rfl (by kernel_rfl) (by kernel_rfl) (by kernel_rfl) (by first | exact fun c a w h => hP c a _ _ w h | exact fun _ _ _ h => h) (Or.inl ⟨by rfl, ?_⟩) (by assumption) ?_
    rotate_left
    · intro W hS; go_simp; (try with_reducible rfl)
    go_frame
    refine takeL (i := 12) (v := ?_) rfl (by kernel_rfl) (by kernel_rfl) (by kernel_rfl) (by first | exact fun c a w h => hP c a _ _ w h | exact fun _ _ _ h => h) (Or.inl ⟨by rfl, ?_⟩) (by assumption) ?_
    rotate_left
    · intro W hS; go_simp; (try with_reducible rfl)
    go_frame
    refine takeL (i := 13) (v := ?_) rfl (by kernel_rfl) (by kernel_rfl) (by kernel_rfl) (by first | exact fun c a w h => hP c a _ _ w h | exact fun _ _ _ h => h) (Or.inl ⟨by rfl, ?_⟩) (by assumption) ?_
    rotate_left
    · intro W hS; go_simp; (try with_reducible rfl)
    go_frame
    refine takeL (i := 14) (v := ?_) rfl (by kernel_rfl) (by kernel_rfl) (by kernel_rfl) (by first | exact fun c a w h => hP c a _ _ w h | exact fun _ _ _ h => h) (Or.inl ⟨by rfl, ?_⟩) (by assumption) ?_
    rotate_left
    · intro W hS; go_simp; (try with_reducible rfl)
    go_frame
    refine takeL (i := 15) (v := ?_) rfl (by kernel_rfl) (by kernel_rfl) (by kernel_rfl) (by first | exact fun c a w h => hP c a _ _ w h | exact fun _ _ _ h => h) (Or.inl ⟨by rfl, ?_⟩) (by assumption) ?_
    rotate_left
    · intro W hS; go_simp; (try with_reducible rfl)
    go_frame
    refine wpAnyH_ready (rs := [16]) (by kernel_rfl) (by simp) ?_
    refine readyL rfl ?_ ?_
    rotate_left
    · exact AllReadyH.nil
    intro K hK
    go_simp
    go_wp2_with (first
      | (go_at_call 8; go_loud ((with_reducible refine (CW.out _ (HB0.out.trans (k5.mono HB0.out.size))).mono ?_); rintro e w6 ⟨rfl, p6⟩))
      | fail)
    have k6 : Below W0.heap.size W0 w6 := k5.trans (p6.mono k5.size)
    refine hK.out _ _ (k6) (fun hNew => ?_)
    clear hK K
    replace hHeld := hNew
    clear hNew
    refine takeL (i := 17) (v := ?_) rfl (by kernel_rfl) (by kernel_rfl) (by kernel_rfl) (by first | exact fun c a w h => hP c a _ _ w h | exact fun _ _ _ h => h) (Or.inl ⟨by rfl, ?_⟩) (by assumption) ?_
    rotate_left
    · intro W hS; go_simp; (try with_reducible rfl)
    go_frame
    refine takeL (i := 18) (v := ?_) rfl (by kernel_rfl) (by kernel_rfl) (by kernel_rfl) (by first | exact fun c a w h => hP c a _ _ w h | exact fun _ _ _ h => h) (Or.inl ⟨by rfl, ?_⟩) (by assumption) ?_
    rotate_left
    · intro W hS; go_simp; (try with_reducible rfl)
    go_frame
    refine wpAnyH_done (by kernel_rfl) ?_ _
    go_wp2
    go_ret
    exact ⟨rfl, HB0.out.trans (k6.mono HB0.out.size)⟩
end Go.Proofs.YtdkngidangfkiaaGreatDoor.Cmd
namespace Go.Proofs.YtdkngidangfkiaaGreatDoor.LexLib
open Go.Shelf Go.RowKit
open Base
set_option linter.unusedVariables false
def Laid : List (String × DataW Unit) := [("math/bits.deBruijn32tab", Rows.laid_math_bits_deBruijn32tab), ("math/bits.deBruijn64tab", Rows.laid_math_bits_deBruijn64tab), ("internal/strconv.uint64pow10", Rows.laid_internal_strconv_uint64pow10), ("unicode/utf8.acceptRanges", Rows.laid_unicode_utf8_acceptRanges), ("strconv.ErrRange", Rows.laid_strconv_ErrRange), ("strconv.ErrSyntax", Rows.laid_strconv_ErrSyntax), ("unicode/utf8.first", Rows.laid_unicode_utf8_first)]
theorem xU8 : U8Extra Tryz.prog ren := ⟨by kernel_rfl, by kernel_rfl, by kernel_rfl, by kernel_rfl, by kernel_rfl, by kernel_rfl, by kernel_rfl⟩
theorem e_first : Rows.laid_unicode_utf8_first = Lib.firstData := Pinned.utf8First_eq
set_option maxRecDepth 100000 in
theorem e_accept : (Rows.laid_unicode_utf8_acceptRanges : DataW Unit) = Lib.acceptData := by kernel_rfl
set_option maxRecDepth 100000 in
theorem e_pow : (Rows.laid_internal_strconv_uint64pow10 : DataW Unit) = Lib.tabData .u64 Lib.pow10Tab := by kernel_rfl
theorem tab_of_reads {P : Program} {w : World} {name : String} {k : IntKind} {zs : List Int} {g : Nat} {t e : TypeId} {n : Nat}
    (hg : P.globalNamed name = some g) (hty : (P.globals[g]?).map (·.type) = some t) (ht : P.underlying t = some (.array n e)) (he : P.underlying e = some (.int k)) (hce : P.cellsOf e = 1) (hct : P.cellsOf t = n)
    (h : Lib.VarReads P w name (Lib.tabData k zs)) : Lib.TabIs P w name k zs := by
  obtain ⟨g', t', cs, fuel, p, hg', ht', hvar, hd⟩ := h
  obtain rfl := Option.some.inj (hg.symm.trans hg')
  obtain rfl := Option.some.inj (hty.symm.trans ht')
  unfold Lib.TabIs
  rw [hvar, ← Lib.cells_of_tab ht he hce hct hd]
theorem err_of_reads {P : Program} {w : World} {name nm : String} {d : DataW Unit} {g : Nat} {t : TypeId} {ms : Array (String × TypeId)}
    (hg : P.globalNamed name = some g) (hty : (P.globals[g]?).map (·.type) = some t) (ht : P.underlying t = some (.interface ms))
    (h : Lib.VarReads P w name (.iface nm d)) : ErrAt g w := by
  obtain ⟨g', t', cs, fuel, p, hg', ht', hvar, hd⟩ := h
  obtain rfl := Option.some.inj (hg.symm.trans hg')
  obtain rfl := Option.some.inj (hty.symm.trans ht')
  obtain ⟨f1, u, v, hcs, _, _⟩ := iface_of_trod ht hd
  refine ⟨.iface u v, ?_, .inr ⟨u, v, rfl⟩⟩
  rw [World.var?_cell hg hvar 0, ← Array.getElem?_toList, hcs]
  rfl
theorem g_syn : Tryz.prog.globalNamed "strconv.ErrSyntax" = some 5 := by kernel_rfl
theorem g_rng : Tryz.prog.globalNamed "strconv.ErrRange" = some 6 := by kernel_rfl
theorem t_pow : (Tryz.prog.globals[(4 : Nat)]?).map (·.type) = some 191 := by kernel_rfl
theorem t_syn : (Tryz.prog.globals[(5 : Nat)]?).map (·.type) = some 48 := by kernel_rfl
theorem t_rng : (Tryz.prog.globals[(6 : Nat)]?).map (·.type) = some 48 := by kernel_rfl
theorem tb_of_laid {W : World} (h : laidMet Tryz.prog Laid W) : Tb W := by
  refine ⟨?_, ?_, ?_, ?_⟩
  · refine utf8Tabs_of_reads lays260 xU8 ?_ ?_
    · rw [← e_first]; exact Lib.laidMet.reads h (by simp [Laid])
    · rw [← e_accept]; exact Lib.laidMet.reads h (by simp [Laid])
  · refine tab_of_reads g_pow t_pow Tryz.underlying191 Tryz.underlying168 (by kernel_rfl) (by kernel_rfl) ?_
    rw [← e_pow]; exact Lib.laidMet.reads h (by simp [Laid])
  · exact err_of_reads g_syn t_syn Tryz.underlying48 (Lib.laidMet.reads h (n := "strconv.ErrSyntax") (d := Rows.laid_strconv_ErrSyntax) (by simp [Laid]))
  · exact err_of_reads g_rng t_rng Tryz.underlying48 (Lib.laidMet.reads h (n := "strconv.ErrRange") (d := Rows.laid_strconv_ErrRange) (by simp [Laid]))
end Go.Proofs.YtdkngidangfkiaaGreatDoor.LexLib
namespace Go.Proofs.YtdkngidangfkiaaGreatDoor.HoursLib
open Go.Shelf Go.RowKit
open Base
set_option linter.unusedVariables false
def Laid : List (String × DataW Unit) := [("math/bits.deBruijn32tab", Rows.laid_math_bits_deBruijn32tab), ("math/bits.deBruijn64tab", Rows.laid_math_bits_deBruijn64tab), ("internal/strconv.uint64pow10", Rows.laid_internal_strconv_uint64pow10), ("unicode/utf8.acceptRanges", Rows.laid_unicode_utf8_acceptRanges), ("strconv.ErrRange", Rows.laid_strconv_ErrRange), ("strconv.ErrSyntax", Rows.laid_strconv_ErrSyntax), ("muster/hours.units", Rows.laid_muster_hours_units), ("unicode/utf8.first", Rows.laid_unicode_utf8_first)]
set_option maxRecDepth 100000 in
theorem e_pow : (Rows.laid_internal_strconv_uint64pow10 : DataW Unit) = Lib.tabData .u64 Lib.pow10Tab := by kernel_rfl
theorem tab_of_reads {P : Program} {w : World} {name : String} {k : IntKind} {zs : List Int} {g : Nat} {t e : TypeId} {n : Nat}
    (hg : P.globalNamed name = some g) (hty : (P.globals[g]?).map (·.type) = some t) (ht : P.underlying t = some (.array n e)) (he : P.underlying e = some (.int k)) (hce : P.cellsOf e = 1) (hct : P.cellsOf t = n)
    (h : Lib.VarReads P w name (Lib.tabData k zs)) : Lib.TabIs P w name k zs := by
  obtain ⟨g', t', cs, fuel, p, hg', ht', hvar, hd⟩ := h
  obtain rfl := Option.some.inj (hg.symm.trans hg')
  obtain rfl := Option.some.inj (hty.symm.trans ht')
  unfold Lib.TabIs
  rw [hvar, ← Lib.cells_of_tab ht he hce hct hd]
theorem err_of_reads {P : Program} {w : World} {name nm : String} {d : DataW Unit} {g : Nat} {t : TypeId} {ms : Array (String × TypeId)}
    (hg : P.globalNamed name = some g) (hty : (P.globals[g]?).map (·.type) = some t) (ht : P.underlying t = some (.interface ms))
    (h : Lib.VarReads P w name (.iface nm d)) : ErrAt g w := by
  obtain ⟨g', t', cs, fuel, p, hg', ht', hvar, hd⟩ := h
  obtain rfl := Option.some.inj (hg.symm.trans hg')
  obtain rfl := Option.some.inj (hty.symm.trans ht')
  obtain ⟨f1, u, v, hcs, _, _⟩ := iface_of_trod ht hd
  refine ⟨.iface u v, ?_, .inr ⟨u, v, rfl⟩⟩
  rw [World.var?_cell hg hvar 0, ← Array.getElem?_toList, hcs]
  rfl
theorem g_syn : Tryz.prog.globalNamed "strconv.ErrSyntax" = some 5 := by kernel_rfl
theorem t_pow : (Tryz.prog.globals[(4 : Nat)]?).map (·.type) = some 191 := by kernel_rfl
theorem t_syn : (Tryz.prog.globals[(5 : Nat)]?).map (·.type) = some 48 := by kernel_rfl
theorem g_units : Tryz.prog.globalNamed "muster/hours.units" = some 7 := by kernel_rfl
theorem t_units : (Tryz.prog.globals[(7 : Nat)]?).map (·.type) = some 214 := by kernel_rfl
theorem pair_of_struct {P : Program} {w : World} {base : Nat} {sp : Nat → Bool} {held : Bool} {fuel : Nat} {ty : TypeId} {fs : Array Field} {j k : IntKind} {cs : List Value} {a b : Int} {p : List MemPlace} (ht : P.underlying ty = some (.struct fs))
    (hs : fs.size = 2)
    (hf0 : ∀ f, fs[0]? = some f → P.underlying f.type = some (.int j) ∧ f.offset = 0 ∧ P.cellsOf f.type = 1)
    (hf1 : ∀ f, fs[1]? = some f → P.underlying f.type = some (.int k) ∧ f.offset = 1 ∧ P.cellsOf f.type = 1)
    (h : DataW.trod (fun _ => ()) P w base sp held fuel ty cs = some (.agg [.lit (.int j a), .lit (.int k b)], p)) : cs[0]? = some (.int j a) ∧ cs[1]? = some (.int k b) := by
  obtain ⟨xs, n, rfl, hx, hl, hxl, hall⟩ := DataW.trod_struct ht h
  have hxs : xs.map (·.1) = [.lit (.int j a), .lit (.int k b)] := by
    have := congrArg Prod.fst hx
    simpa using this.symm
  have h0 := hall 0 fs[0] (by simp [hs])
  have h1 := hall 1 fs[1] (by simp [hs])
  obtain ⟨u0, o0, c0⟩ := hf0 fs[0] (by simp [hs])
  obtain ⟨u1, o1, c1⟩ := hf1 fs[1] (by simp [hs])
  rw [o0, c0] at h0
  rw [o1, c1] at h1
  obtain ⟨x, y, rfl⟩ : ∃ x y, xs = [x, y] := by
    match xs, (show xs.length = 2 from by rw [hxl, hs]) with
    | [x, y], _ => exact ⟨x, y, rfl⟩
  simp only [List.map_cons, List.map_nil, List.cons.injEq, and_true] at hxs
  obtain ⟨rx, ry⟩ := hxs
  have h0 : DataW.trod (fun _ => ()) P w base sp held n fs[0].type ((cs.drop 0).take 1) = some x := h0
  have h1 : DataW.trod (fun _ => ()) P w base sp held n fs[1].type ((cs.drop 1).take 1) = some y := h1
  obtain ⟨z, hz, rfl, _⟩ := DataW.trod_int u0 h0
  obtain ⟨z', hz', rfl, _⟩ := DataW.trod_int u1 h1
  simp at rx ry
  subst rx ry
  have e0 := congrArg (·[0]?) hz
  have e1 := congrArg (·[0]?) hz'
  simp only [List.getElem?_take, List.getElem?_drop] at e0 e1
  exact ⟨by simpa using e0, by simpa using e1⟩
theorem unit_of_struct {w : World} {base : Nat} {sp : Nat → Bool} {held : Bool} {fuel : Nat} {cs : List Value} {a b : Int} {p : List MemPlace}
    (h : DataW.trod (fun _ => ()) Tryz.prog w base sp held fuel 213 cs = some (.agg [.lit (.int .u8 a), .lit (.int .i64 b)], p)) : cs[0]? = some (.int .u8 a) ∧ cs[1]? = some (.int .i64 b) :=
  pair_of_struct Tryz.underlying213 rfl (fun f hf => by simp at hf; subst hf; exact ⟨Tryz.underlying5, rfl, by kernel_rfl⟩) (fun f hf => by simp at hf; subst hf; exact ⟨Tryz.underlying3, rfl, by kernel_rfl⟩) h
theorem units_of_reads {w : World} (h : Lib.VarReads Tryz.prog w "muster/hours.units" Rows.laid_muster_hours_units) : UnitsAt w := by
  obtain ⟨g', t', cs, fuel, p, hg', ht', hvar, hd⟩ := h
  obtain rfl := Option.some.inj (g_units.symm.trans hg')
  obtain rfl := Option.some.inj (t_units.symm.trans ht')
  unfold Rows.laid_muster_hours_units at hd
  have ce : Tryz.prog.cellsOf 213 = 2 := by kernel_rfl
  have H : ∀ (i : Nat) (hi : i < 4) (a b : Int), ([DataW.agg [.lit (.int .u8 100), .lit (.int .i64 86400)], .agg [.lit (.int .u8 104), .lit (.int .i64 3600)], .agg [.lit (.int .u8 109), .lit (.int .i64 60)], .agg [.lit (.int .u8 115), .lit (.int .i64 1)]] : List (DataW Unit))[i]? = some (.agg [.lit (.int .u8 a), .lit (.int .i64 b)]) →
      w.cell? ⟨7, 2 * i, none⟩ = some (.int .u8 a) ∧ w.cell? ⟨7, 2 * i + 1, none⟩ = some (.int .i64 b) := by
    intro i hi a b hab
    obtain ⟨fuel', d, q, hdi, he⟩ := Lib.array_elem Tryz.underlying214 hd i hi
    rw [hab, Option.some.injEq] at hdi
    subst hdi
    rw [ce] at he
    obtain ⟨e0, e1⟩ := unit_of_struct he
    simp only [List.getElem?_take, List.getElem?_drop] at e0 e1
    constructor
    · rw [World.var?_cell hg' hvar (2 * i), ← Array.getElem?_toList]
      simpa [Nat.mul_comm] using e0
    · rw [World.var?_cell hg' hvar (2 * i + 1), ← Array.getElem?_toList]
      simpa [Nat.mul_comm] using e1
  have a0 := H 0 (by decide) 100 86400 rfl
  have a1 := H 1 (by decide) 104 3600 rfl
  have a2 := H 2 (by decide) 109 60 rfl
  have a3 := H 3 (by decide) 115 1 rfl
  exact ⟨a0.1, a0.2, a1.1, a1.2, a2.1, a2.2, a3.1, a3.2⟩
theorem tb_of_laid {W : World} (h : laidMet Tryz.prog Laid W) : Tb W := by
  refine ⟨?_, ?_, ?_⟩
  · refine tab_of_reads g_pow t_pow Tryz.underlying191 Tryz.underlying168 (by kernel_rfl) (by kernel_rfl) ?_
    rw [← e_pow]; exact Lib.laidMet.reads h (by simp [Laid])
  · exact err_of_reads g_syn t_syn Tryz.underlying48 (Lib.laidMet.reads h (n := "strconv.ErrSyntax") (d := Rows.laid_strconv_ErrSyntax) (by simp [Laid]))
  · exact units_of_reads (Lib.laidMet.reads h (n := "muster/hours.units") (d := Rows.laid_muster_hours_units) (by simp [Laid]))
end Go.Proofs.YtdkngidangfkiaaGreatDoor.HoursLib
namespace Go.Proofs.YtdkngidangfkiaaGreatDoor.CmdLib
open Go.Shelf Go.RowKit
open Base
set_option linter.unusedVariables false
set_option linter.unusedSimpArgs false
def Laid : List (String × DataW Unit) := [("math/bits.deBruijn32tab", Rows.laid_math_bits_deBruijn32tab), ("math/bits.deBruijn64tab", Rows.laid_math_bits_deBruijn64tab), ("internal/strconv.uint64pow10", Rows.laid_internal_strconv_uint64pow10), ("unicode/utf8.acceptRanges", Rows.laid_unicode_utf8_acceptRanges), ("strconv.ErrRange", Rows.laid_strconv_ErrRange), ("strconv.ErrSyntax", Rows.laid_strconv_ErrSyntax), ("muster/hours.units", Rows.laid_muster_hours_units), ("muster/cmd.words", Rows.laid_muster_cmd_words), ("muster/cmd.hows", Rows.laid_muster_cmd_hows), ("unicode/utf8.first", Rows.laid_unicode_utf8_first)]
abbrev Tb := Cmd.Tb
theorem g_words : Tryz.prog.globalNamed "muster/cmd.words" = some 0 := by kernel_rfl
theorem t_words : (Tryz.prog.globals[(0 : Nat)]?).map (·.type) = some 80 := by kernel_rfl
theorem g_hows : Tryz.prog.globalNamed "muster/cmd.hows" = some 1 := by kernel_rfl
theorem t_hows : (Tryz.prog.globals[(1 : Nat)]?).map (·.type) = some 85 := by kernel_rfl
theorem words_of_reads {w : World} {name : String} {l : List ByteArray} {g : Nat} {t : TypeId} {d : DataW Unit} (hg : Tryz.prog.globalNamed name = some g) (hty : (Tryz.prog.globals[g]?).map (·.type) = some t) (ht : Tryz.prog.underlying t = some (.array l.length 9))
    (hd : d = .agg (l.map fun s => .lit (.string s.data.toList))) (h : Lib.VarReads Tryz.prog w name d) : Cmd.WordsAt w g l := by
  obtain ⟨g', t', cs, fuel, p, hg', ht', hvar, hx⟩ := h
  obtain rfl := Option.some.inj (hg.symm.trans hg')
  obtain rfl := Option.some.inj (hty.symm.trans ht')
  subst hd
  have ce : Tryz.prog.cellsOf 9 = 1 := by kernel_rfl
  intro i hi
  obtain ⟨fuel', d, q, hdi, he⟩ := Lib.array_elem ht hx i hi
  rw [ce] at he
  obtain ⟨s, hs, hx2, _⟩ := DataW.trod_string Tryz.underlying9 he
  rw [List.getElem?_map, List.getElem?_eq_getElem hi] at hdi
  have hdi : DataW.lit (.string l[i].data.toList) = d := by simpa using hdi
  have e2 : d = .lit (.string s.data.toList) := by injection hx2
  rw [e2] at hdi
  have e3 : l[i].data.toList = s.data.toList := congrArg (fun x : DataW Unit => match x with | .lit (.string y) => y | _ => []) hdi
  have e4 : l[i] = s := by apply ByteArray.ext; exact Array.toList_inj.1 e3
  rw [World.var?_cell hg hvar i, ← Array.getElem?_toList]
  have e0 := congrArg (·[0]?) hs
  simp only [List.getElem?_take, List.getElem?_drop] at e0
  rw [List.getD_eq_getElem?_getD, List.getElem?_eq_getElem hi, e4]
  simpa using e0
theorem tb_of_laid {W : World} (h : laidMet Tryz.prog Laid W) : Tb W := by
  refine ⟨⟨?_, ?_, ?_, ?_⟩, ⟨?_, ?_, ?_⟩, ?_, ?_⟩
  · refine utf8Tabs_of_reads LexLib.lays260 LexLib.xU8 ?_ ?_
    · rw [← LexLib.e_first]; exact Lib.laidMet.reads h (by simp [Laid])
    · rw [← LexLib.e_accept]; exact Lib.laidMet.reads h (by simp [Laid])
  · refine LexLib.tab_of_reads LexLib.g_pow LexLib.t_pow Tryz.underlying191 Tryz.underlying168 (by kernel_rfl) (by kernel_rfl) ?_
    rw [← LexLib.e_pow]; exact Lib.laidMet.reads h (by simp [Laid])
  · exact LexLib.err_of_reads LexLib.g_syn LexLib.t_syn Tryz.underlying48 (Lib.laidMet.reads h (n := "strconv.ErrSyntax") (d := Rows.laid_strconv_ErrSyntax) (by simp [Laid]))
  · exact LexLib.err_of_reads LexLib.g_rng LexLib.t_rng Tryz.underlying48 (Lib.laidMet.reads h (n := "strconv.ErrRange") (d := Rows.laid_strconv_ErrRange) (by simp [Laid]))
  · refine HoursLib.tab_of_reads HoursLib.g_pow HoursLib.t_pow Tryz.underlying191 Tryz.underlying168 (by kernel_rfl) (by kernel_rfl) ?_
    rw [← HoursLib.e_pow]; exact Lib.laidMet.reads h (by simp [Laid])
  · exact HoursLib.err_of_reads HoursLib.g_syn HoursLib.t_syn Tryz.underlying48 (Lib.laidMet.reads h (n := "strconv.ErrSyntax") (d := Rows.laid_strconv_ErrSyntax) (by simp [Laid]))
  · exact HoursLib.units_of_reads (Lib.laidMet.reads h (n := "muster/hours.units") (d := Rows.laid_muster_hours_units) (by simp [Laid]))
  · exact words_of_reads g_words t_words Tryz.underlying80 (by kernel_rfl) (Lib.laidMet.reads h (n := "muster/cmd.words") (d := Rows.laid_muster_cmd_words) (by simp [Laid]))
  · exact words_of_reads g_hows t_hows Tryz.underlying85 (by kernel_rfl) (Lib.laidMet.reads h (n := "muster/cmd.hows") (d := Rows.laid_muster_cmd_hows) (by simp [Laid]))
end Go.Proofs.YtdkngidangfkiaaGreatDoor.CmdLib
