/-
  Joined out of: The end of what takes a command: its shape gathered, told whether it lacks something: one region that draws its order, walked by itself. The walks of what writes a value; of what adds a field to a row. A strings.Builder that the call itself makes, beside other calls: written, measured, told. The round of what writes a command: one field written. The walks of what a command's line begins with.
-/
import Derived.Test.YtdkngidangfkiaaGreatDoorJb18
import Derived.Test.YtdkngidangfkiaaGreatDoorJb20
import Derived.Deep.RegionHeld3
import Derived.Maps.RangeWalk
import Derived.Test.YtdkngidangfkiaaGreatDoorJb16
import Derived.Test.YtdkngidangfkiaaGreatDoorJb08
import Derived.BigQuiet
import Derived.BigRegion
import Derived.Deep.Cut
import Derived.Lib.ItoaLen
import Derived.Test.YtdkngidangfkiaaGreatDoorJb01
import Derived.Shelf.Strings.Builder1
import Derived.Shelf.Strings.Builder2
import Derived.Shelf.Strings.BuilderF
namespace Go.Proofs.YtdkngidangfkiaaGreatDoor.Cmd
open Go.RowKit
open Base
open Lex (Tok tkC tkC_length tokV zT)
open Shape (altC altC_length)
set_option linter.unusedVariables false
set_option linter.unusedSimpArgs false
def codeAt (n : Nat) : Code → Option Code
  | .region i ops d => if i = n then some (.region i ops d) else none
  | .seq a b => match codeAt n a with
    | some c => some c
    | none => codeAt n b
  | .cond _ a b => match codeAt n a with
    | some c => some c
    | none => codeAt n b
  | .block _ c => codeAt n c
  | .loop c => codeAt n c
  | .scope c => codeAt n c
  | _ => none
theorem at_drop {l tl : List Oper} {i : Nat} {o : Oper} (ho : l.drop i = o :: tl) : l.toArray[i]? = some o := by
  rw [List.getElem?_toArray, ← List.head?_drop, ho]; rfl
theorem readyL {P : Program} {md : Region.Mode} {l tl : List Oper} {Q : Exit → Act → World → Prop} {S : World → Prop} {fuel : Nat} {listed : Array Bool} {a : Act} {w : World} {i : Nat} {o : Oper} {rs : List Nat} (ho : l.drop i = o :: tl)
    (h : ∀ K' : Act → World → Prop, Shut (∀ a w, S w → (S w → wpAnyH P md l.toArray Q S fuel (listed.setIfInBounds i true) a w) → K' a w) → if Region.wanted o (yielded l.toArray a.tmps) = true then Oper.wp P o a w K' Q else K' (a.put o.dst undef) w)
    (hs : AllReadyH P md l.toArray Q S fuel listed a w rs) : AllReadyH P md l.toArray Q S fuel listed a w (i :: rs) := AllReadyH.cons (at_drop ho) h hs
theorem takeL {P : Program} {md : Region.Mode} {l tl : List Oper} {Q : Exit → Act → World → Prop} {S : World → Prop} {i : Nat} {oi : Oper} {v : Value} {fuel : Nat} {listed : Array Bool} {a : Act} {w : World} (ho : l.drop i = oi :: tl)
    (hs : Region.noSelect l.toArray = true) (hf : Region.free md l.toArray listed i = true) (hr : (Region.ready md l.toArray listed).contains i = true)
    (hQ : ∀ c a w, Q (.panic c) (a.put oi.dst v) w → Q (.panic c) a w) (hy : YieldsIf P l.toArray S oi v a) (hS : S w)
    (h : wpAnyH P md l.toArray Q S fuel (listed.setIfInBounds i true) (a.put oi.dst v) w) : wpAnyH P md l.toArray Q S (fuel + 1) listed a w :=
  wpAnyH_take (at_drop ho) hs hf hr hQ hy hS h
theorem yif_cmd {ops : Array Oper} {S : World → Prop} {op : Oper} {a : Act} (hw : Region.wanted op (yielded ops a.tmps) = true) (x : Operand) (ho : op.op = .load 27 x)
    (g : Nat) (hx : a.eval x = .pointer (some ⟨g, 0, none⟩)) (cs : Array Value) (hS : ∀ w, S w → ∃ T, w.heap[g]? = some (.cells cs T)) (hs : cs.size = 18) : YieldsIf Tryz.prog ops S op (.agg cs) a :=
  .inl ⟨hw, fun w hw' => by
    obtain ⟨T, hg⟩ := hS w hw'
    unfold execOp
    simp only [ho, hx, Instr.loadAt, Instr.sureAddr, Sem.run_bind, Sem.run_pure, Result.andThen_ok, run_loadVar_row w g T 27 cs (0, 0) _ hg Tryz.underlying27 rfl (by rw [hs]; exact info_cmd)]⟩
noncomputable def retCode : Code := ((Tryz.f40.body.bind (codeAt 12)).getD .skip)
set_option maxRecDepth 100000 in
set_option maxHeartbeats 2000000 in
theorem ret_region (R C : Nat) (c : Co) (va vd : Value) (k : Int) (hk : c.kind = k) (st : List Fd) (so : Option Addr) (scap : Nat) (wr : World)
    (hblk : wr.heap[C]? = some (.cells (cmdArr c va vd) 27)) (hz : ZAt wr R) (hCR : C ≠ R) (h1 : Row wr va c.alts) (h2 : Row wr vd c.after) (hl : st.length ≤ 100000) (hs : ReadsS 2 fdC wr so st)
    (t0 t1 t3 t4 t5 t8 t9 t10 t11 t12 t13 t14 t15 t16 t17 t18 t19 t20 t21 t22 t23 t24 t25 t26 t27 t28 t29 t30 t31 t32 t33 t34 t35 t36 t37 t38 t39 t40 t41 t42 t43 t44 t45 t46 t47 t48 t49 t50 t51 t52 t53 t54 t55 : Value)
    (Q : Exit → Act → World → Prop) (hP : ∀ c a (d : Tmp) v w, Q (.panic c) (Act.put a (some d) v) w → Q (.panic c) a w)
    (hQ : ∀ (va2 : Value) (w6 : World) (u49 u50 u51 u52 u53 u54 u55 : Value), Row w6 va2 (gatherC c).alts → Below wr.heap.size wr w6 → (va2 = va ∨ New wr.heap.size va2) →
      Q .normal ⟨#[t0, t1, .pointer (some ⟨R, 0, none⟩), .bool (!lacksB k st), t4, t5, .pointer (some ⟨C, 0, none⟩), .slice so st.length scap, t8, t9, t10, t11, t12, t13, t14, t15, t16, t17, t18, t19, t20, t21, t22, t23, t24, t25, t26, t27, t28, t29, t30, t31, t32, t33, t34, t35, t36, t37, t38, t39, t40, t41, t42, t43, t44, t45, t46, t47, t48, u49, u50, u51, u52, u53, u54, u55], []⟩ (w6.setRow R (cmdArr (gatherC c) va2 vd))) :
    Code.wp Tryz.prog retCode Q ⟨#[t0, t1, .pointer (some ⟨R, 0, none⟩), t3, t4, t5, .pointer (some ⟨C, 0, none⟩), .slice so st.length scap, t8, t9, t10, t11, t12, t13, t14, t15, t16, t17, t18, t19, t20, t21, t22, t23, t24, t25, t26, t27, t28, t29, t30, t31, t32, t33, t34, t35, t36, t37, t38, t39, t40, t41, t42, t43, t44, t45, t46, t47, t48, t49, t50, t51, t52, t53, t54, t55], []⟩ wr := by
  obtain ⟨pd, qd, rfl, _, _, _, _⟩ := h2
  have cG := fun w2 (hb : Below wr.heap.size wr w2) => gather_any c va pd c.after.length qd w2 (h1.below hb)
  have cL := fun w2 (hb : Below wr.heap.size wr w2) => lacks_any k so scap st w2 hl (hs.below fdC_length hb)
  have hClt : C < wr.heap.size := (Array.getElem?_eq_some_iff.1 hblk).1
  have hRlt : R < wr.heap.size := (Array.getElem?_eq_some_iff.1 hz).1
  have hzb : ∀ w2, Below wr.heap.size wr w2 → ZAt w2 R := fun w2 hb => hz.below hb
  obtain ⟨G, hG⟩ : ∃ G, G = gatherC c := ⟨_, rfl⟩
  rw [← hG] at cG hQ
  obtain ⟨L, hL⟩ : ∃ L, L = lacksB k st := ⟨_, rfl⟩
  rw [← hL] at cL hQ
  unfold CoSays cmdV at cG
  have hdk : wr.cell? ⟨C, 0, none⟩ = some (.int .i64 k) := by rw [← hk]; simp [World.cell?, hblk, cmdArr]
  have YC : ∀ W, wr.grownBy W (some R) → ∃ T, W.heap[C]? = some (.cells (cmdArr c va (.slice pd c.after.length qd)) T) := fun W h => ⟨_, (h.block C hClt (fun e => hCR (Option.some.inj e))).trans hblk⟩
  have YK : ∀ W, wr.grownBy W (some R) → W.cell? ⟨C, 0, none⟩ = some (.int .i64 k) := fun W h => by rw [← hdk]; exact World.cell?_of_block (h.block C hClt (fun e => hCR (Option.some.inj e)))
  have hb1 : Below wr.heap.size wr wr.drew := (Below.refl wr.heap.size wr).drew
  have CG := Lib.hid cG
  have CL := Lib.hid cL
  have HZB := Lib.hid hzb
  have HYC := Lib.hid YC
  have HYK := Lib.hid YK
  have HQ := Lib.hid hQ
  clear cG cL hzb YC YK hQ hblk hz hs h1 hdk hG hL hk
  unfold cmdArr at HYC
  conv => arg 2; whnf
  refine wp_region_held_drew (S := fun W => wr.grownBy W (some R)) (by kernel_rfl) (grown_of_below hb1 _) (fun hHeld => ?_)
  refine takeL (i := 0) rfl (by kernel_rfl) (by kernel_rfl) (by kernel_rfl) (by first | exact fun c a w h => hP c a _ _ w h | exact fun _ _ _ h => h) (yif_cmd (S := fun W => wr.grownBy W (some R)) (by rfl) _ rfl (C) rfl _ (HYC.out) rfl) (by assumption) ?_
  go_frame
  refine takeL (i := 2) (v := ?_) rfl (by kernel_rfl) (by kernel_rfl) (by kernel_rfl) (by first | exact fun c a w h => hP c a _ _ w h | exact fun _ _ _ h => h) (Or.inl ⟨by rfl, ?_⟩) (by assumption) ?_
  rotate_left
  · intro W hS; go_simp; (try with_reducible rfl)
  go_frame
  refine takeL (i := 3) (v := ?_) rfl (by kernel_rfl) (by kernel_rfl) (by kernel_rfl) (by first | exact fun c a w h => hP c a _ _ w h | exact fun _ _ _ h => h) (Or.inl ⟨by rfl, ?_⟩) (by assumption) ?_
  rotate_left
  · intro W hS; have := HYK.out W hS; go_simp; (try with_reducible rfl)
  go_frame
  refine takeL (i := 4) (v := ?_) rfl (by kernel_rfl) (by kernel_rfl) (by kernel_rfl) (by first | exact fun c a w h => hP c a _ _ w h | exact fun _ _ _ h => h) (Or.inl ⟨by rfl, ?_⟩) (by assumption) ?_
  rotate_left
  · intro W hS; go_simp; (try with_reducible rfl)
  go_frame
  refine wpAnyH_ready (rs := [1]) (by kernel_rfl) (by simp) ?_
  refine readyL rfl ?_ ?_
  rotate_left
  · exact AllReadyH.nil
  intro K hK
  go_simp
  go_wp2_with (first
    | (go_at_call 69; go_loud ((with_reducible refine (CG.out wr.drew hb1).mono ?_); rintro e w5 ⟨va2, rfl, r5, p5, n5⟩))
    | fail)
  have q5 : Below wr.heap.size wr w5 := hb1.trans p5
  refine hK.out _ _ (grown_of_below q5 _) (fun hNew => ?_)
  clear hK K
  replace hHeld := hNew
  clear hNew
  refine wpAnyH_ready (rs := [5]) (by kernel_rfl) (by simp) ?_
  refine readyL rfl ?_ ?_
  rotate_left
  · exact AllReadyH.nil
  intro K hK
  go_simp
  go_wp2_with (first
    | (go_at_call 70; go_loud ((with_reducible refine (CL.out w5 q5).mono ?_); rintro e w6 ⟨rfl, p6⟩))
    | fail)
  have q6 : Below wr.heap.size wr w6 := q5.trans (p6.mono q5.size)
  refine hK.out _ _ (grown_of_below q6 _) (fun hNew => ?_)
  clear hK K
  replace hHeld := hNew
  clear hNew
  refine takeL (i := 6) (v := ?_) rfl (by kernel_rfl) (by kernel_rfl) (by kernel_rfl) (by first | exact fun c a w h => hP c a _ _ w h | exact fun _ _ _ h => h) (Or.inl ⟨by rfl, ?_⟩) (by assumption) ?_
  rotate_left
  · intro W hS; go_simp; (try with_reducible rfl)
  go_frame
  refine wpAnyH_ready (rs := [7]) (by kernel_rfl) (by simp) ?_
  refine readyL rfl ?_ ?_
  rotate_left
  · exact AllReadyH.nil
  intro K hK
  rw [if_pos (by rfl)]
  obtain ⟨pa5, qa5, hva, _, _, _, _⟩ := id r5
  refine wp_store_row 27 (.tmp 2) (.tmp 50) rfl R _ rfl rfl 27 _ (HZB.out w6 q6) (by exact info_cmd) rfl (by rw [hva]; kernel_rfl) ?_
  refine hK.out _ _ (grown_trans (grown_of_below q6 _) (grown_setRow w6 R _)) (fun hNew => ?_)
  clear hK K
  replace hHeld := hNew
  clear hNew
  go_frame
  refine takeL (i := 8) (v := ?_) rfl (by kernel_rfl) (by kernel_rfl) (by kernel_rfl) (by first | exact fun c a w h => hP c a _ _ w h | exact fun _ _ _ h => h) (Or.inl ⟨by rfl, ?_⟩) (by assumption) ?_
  rotate_left
  · intro W hS; go_simp; (try with_reducible rfl)
  go_frame
  refine wpAnyH_done (by kernel_rfl) ?_ _
  exact HQ.out va2 w6 _ _ _ _ _ _ _ (r5.below p6) q6 n5
end Go.Proofs.YtdkngidangfkiaaGreatDoor.Cmd
namespace Go.Proofs.YtdkngidangfkiaaGreatDoor.Cmd
open Go.RowKit
open Base
open Shape (altC altC_length)
set_option linter.unusedVariables false
set_option linter.unusedSimpArgs false
def vlB (v : Vl) : ByteArray := ⟨(valT v).toArray⟩
def fitI (n : Int) : Prop := -9223372036854775808 ≤ n ∧ n ≤ 9223372036854775807
def vlFit : Vl → Prop
  | .word _ => True
  | .num n => fitI n
  | .id n => fitI n
  | .tk n => True
  | .opt a _ => fitI a
  | .span a b => fitI a ∧ fitI b
theorem cat_vl {a b : List UInt8} {x : ByteArray} (c : UInt8) (h : x = ⟨a.toArray⟩ ++ ⟨#[c]⟩ ++ ⟨b.toArray⟩) : x = ⟨(a ++ c :: b).toArray⟩ := by
  rw [h]
  apply ByteArray.ext; apply Array.toList_inj.1
  simp [ByteArray.data_append]
theorem ret_str {a b : ByteArray} (h : a = b) : Ending.returned (.string a) = .returned (.string b) := by rw [h]
set_option maxRecDepth 100000 in
set_option maxHeartbeats 1000000 in
theorem text_word (s : ByteArray) (w : World) : Calls Tryz.prog 237 #[.string s] w fun e w' => e = .returned (.string s) ∧ Below w.heap.size w w' := by
  go_enter Tryz.func237, Tryz.ntmps237
  go_wp2
  go_ret
  exact ⟨rfl, Base.bel_⟩
set_option maxRecDepth 100000 in
set_option maxHeartbeats 1000000 in
theorem text_num (n : Int) (h : fitI n) (w : World) (hT : Tb w) : Calls Tryz.prog 238 #[.int .i64 n] w fun e w' => e = .returned (.string ⟨(numT n).toArray⟩) ∧ Below w.heap.size w w' := by
  have c1 := Lib.hid (HoursLib.itoa_any n h.1 h.2 w hT.hours)
  unfold numT
  clear h
  go_enter Tryz.func238, Tryz.ntmps238
  go_wp2_with (first
    | (go_at_call 44; (with_reducible refine c1.out.mono ?_); rintro e w1 ⟨rfl, p1⟩)
    | fail)
  go_ret
  exact ⟨rfl, Base.bel_⟩
set_option maxRecDepth 100000 in
set_option maxHeartbeats 1000000 in
theorem text_id (n : Int) (h : fitI n) (w : World) (hT : Tb w) : Calls Tryz.prog 239 #[.int .i64 n] w fun e w' => e = .returned (.string ⟨(numT n).toArray⟩) ∧ Below w.heap.size w w' := by
  have c1 := Lib.hid (HoursLib.itoa_any n h.1 h.2 w hT.hours)
  unfold numT
  clear h
  go_enter Tryz.func239, Tryz.ntmps239
  go_wp2_with (first
    | (go_at_call 44; (with_reducible refine c1.out.mono ?_); rintro e w1 ⟨rfl, p1⟩)
    | fail)
  go_ret
  exact ⟨rfl, Base.bel_⟩
set_option maxRecDepth 100000 in
set_option maxHeartbeats 1000000 in
theorem text_tk (n : Int) (w : World) (hT : Tb w) : Calls Tryz.prog 241 #[.int .i64 n] w fun e w' => e = .returned (.string (Hours.shB n)) ∧ Below w.heap.size w w' := by
  have c1 := Lib.hid (Hours.show_any n w hT.hours)
  go_enter Tryz.func241, Tryz.ntmps241
  go_wp2_with (first
    | (go_at_call 242; (with_reducible refine c1.out.mono ?_); rintro e w1 ⟨rfl, p1⟩)
    | fail)
  go_ret
  exact ⟨rfl, Base.bel_⟩
theorem two_cells {w w2 : World} {x y : Value} {T : TypeId} (hb : Below (w.alloc (.cells #[x, y] T)).heap.size (w.alloc (.cells #[x, y] T)) w2) : w2.cell? ⟨w.heap.size, 0, none⟩ = some x ∧ w2.cell? ⟨w.heap.size, 1, none⟩ = some y :=
  ⟨cell_below (by rw [World.cell?_alloc_at _ _ _ _ rfl]; rfl) hb, cell_below (by rw [World.cell?_alloc_at _ _ _ _ rfl]; rfl) hb⟩
theorem num_short (n : Int) (h : fitI n) : (numT n).length ≤ 21 := Lib.itoa_length_le n h.1 h.2
theorem tim_short (n : Int) : (timT n).length ≤ 32 := by
  unfold timT Hours.shB
  split
  · rename_i h
    have := (Hours.cl_time n).1 h
    exact Hours.show_length n this.1 this.2
  · exact Nat.zero_le _
set_option maxRecDepth 100000 in
set_option maxHeartbeats 2000000 in
theorem text_span (a b : Int) (ha : fitI a) (hb : fitI b) (w : World) (hT : Tb w) : Calls Tryz.prog 243 #[.agg #[.int .i64 a, .int .i64 b]] w fun e w' => e = .returned (.string (vlB (.span a b))) ∧ Below w.heap.size w w' := by
  have c1 := fun (w2 : World) (h : Below w.heap.size w w2) => HoursLib.itoa_any a ha.1 ha.2 w2 (hT.hours.later h)
  have c2 := fun (w2 : World) (h : Below w.heap.size w w2) => HoursLib.itoa_any b hb.1 hb.2 w2 (hT.hours.later h)
  have hl1 := num_short a ha
  have hl2 := num_short b hb
  unfold vlB valT
  dsimp only
  obtain ⟨L1, hL1⟩ : ∃ L, L = numT a := ⟨_, rfl⟩
  obtain ⟨L2, hL2⟩ : ∃ L, L = numT b := ⟨_, rfl⟩
  rw [show Lib.itoa a = numT a from rfl, ← hL1] at c1
  rw [show Lib.itoa b = numT b from rfl, ← hL2] at c2
  rw [← hL1] at hl1 ⊢
  rw [← hL2] at hl2 ⊢
  have n1 : ¬ 9223372036854775807 < L1.length + 1 := by omega
  have n2 : ¬ 9223372036854775807 < L1.length + 1 + L2.length := by omega
  have hcc := fun (w2 : World) (h : Below (w.alloc (.cells #[.int .i64 a, .int .i64 b] 91)).heap.size (w.alloc (.cells #[.int .i64 a, .int .i64 b] 91)) w2) => two_cells h
  have hb0 : Below w.heap.size w (w.alloc (.cells #[.int .i64 a, .int .i64 b] 91)) := below_one _
  obtain ⟨W0, hW0⟩ : ∃ W0, W0 = w.alloc (.cells #[.int .i64 a, .int .i64 b] 91) := ⟨_, rfl⟩
  rw [← hW0] at hcc hb0
  have C1 := Lib.hid c1
  have C2 := Lib.hid c2
  have HCC := Lib.hid hcc
  have HB0 := Lib.hid hb0
  have hb1 : Below W0.heap.size W0 W0.drew := (Below.refl _ _).drew
  clear c1 c2 hcc hb0 hL1 hL2 hl1 hl2 ha hb hT
  go_enter Tryz.func243, Tryz.ntmps243
  go_upto_region 1 with fail
  rw [← hW0]
  clear hW0
  refine wp_region_held_drew (S := fun W => Below W0.heap.size W0 W) (by kernel_rfl) (hb1) (fun hHeld => ?_)
  refine takeL (i := 0) (v := ?_) rfl (by kernel_rfl) (by kernel_rfl) (by kernel_rfl) (by first | exact fun c a w h => hP c a _ _ w h | exact fun _ _ _ h => h) (Or.inl ⟨by rfl, ?_⟩) (by assumption) ?_
  rotate_left
  · intro W hS; go_simp; (try with_reducible rfl)
  go_frame
  refine takeL (i := 1) (v := ?_) rfl (by kernel_rfl) (by kernel_rfl) (by kernel_rfl) (by first | exact fun c a w h => hP c a _ _ w h | exact fun _ _ _ h => h) (Or.inl ⟨by rfl, ?_⟩) (by assumption) ?_
  rotate_left
  · intro W hS; have := (HCC.out W hS).1; go_simp; (try with_reducible rfl)
  go_frame
  refine takeL (i := 4) (v := ?_) rfl (by kernel_rfl) (by kernel_rfl) (by kernel_rfl) (by first | exact fun c a w h => hP c a _ _ w h | exact fun _ _ _ h => h) (Or.inl ⟨by rfl, ?_⟩) (by assumption) ?_
  rotate_left
  · intro W hS; go_simp; (try with_reducible rfl)
  go_frame
  refine takeL (i := 5) (v := ?_) rfl (by kernel_rfl) (by kernel_rfl) (by kernel_rfl) (by first | exact fun c a w h => hP c a _ _ w h | exact fun _ _ _ h => h) (Or.inl ⟨by rfl, ?_⟩) (by assumption) ?_
  rotate_left
  · intro W hS; have := (HCC.out W hS).2; go_simp; (try with_reducible rfl)
  go_frame
  refine wpAnyH_ready (rs := [2]) (by kernel_rfl) (by simp) ?_
  refine readyL rfl ?_ ?_
  rotate_left
  · exact AllReadyH.nil
  intro K hK
  go_simp
  go_wp2_with (first
    | (go_at_call 44; go_loud ((with_reducible refine (C1.out _ (HB0.out.trans (hb1.mono HB0.out.size))).mono ?_); rintro e w1 ⟨rfl, p1⟩))
    | fail)
  have q1 : Below W0.heap.size W0 w1 := hb1.trans p1
  refine hK.out _ _ (q1) (fun hNew => ?_)
  clear hK K
  replace hHeld := hNew
  clear hNew
  refine takeL (i := 3) (v := ?_) rfl (by kernel_rfl) (by kernel_rfl) (by kernel_rfl) (by first | exact fun c a w h => hP c a _ _ w h | exact fun _ _ _ h => h) (Or.inl ⟨by rfl, ?_⟩) (by assumption) ?_
  rotate_left
  · intro W hS; go_simp; (try with_reducible rfl)
  go_frame
  refine wpAnyH_ready (rs := [6]) (by kernel_rfl) (by simp) ?_
  refine readyL rfl ?_ ?_
  rotate_left
  · exact AllReadyH.nil
  intro K hK
  go_simp
  go_wp2_with (first
    | (go_at_call 44; go_loud ((with_reducible refine (C2.out _ (HB0.out.trans (q1.mono HB0.out.size))).mono ?_); rintro e w2 ⟨rfl, p2⟩))
    | fail)
  have q2 : Below W0.heap.size W0 w2 := q1.trans (p2.mono q1.size)
  refine hK.out _ _ (q2) (fun hNew => ?_)
  clear hK K
  replace hHeld := hNew
  clear hNew
  refine takeL (i := 7) (v := ?_) rfl (by kernel_rfl) (by kernel_rfl) (by kernel_rfl) (by first | exact fun c a w h => hP c a _ _ w h | exact fun _ _ _ h => h) (Or.inl ⟨by rfl, ?_⟩) (by assumption) ?_
  rotate_left
  · intro W hS; go_simp; (try with_reducible rfl)
  go_frame
  refine takeL (i := 8) (v := ?_) rfl (by kernel_rfl) (by kernel_rfl) (by kernel_rfl) (by first | exact fun c a w h => hP c a _ _ w h | exact fun _ _ _ h => h) (Or.inl ⟨by rfl, ?_⟩) (by assumption) ?_
  rotate_left
  · intro W hS; go_simp; (try with_reducible rfl)
  go_frame
  refine wpAnyH_done (by kernel_rfl) ?_ _
  go_wp2
  go_ret
  exact ⟨ret_str (cat_vl 45 rfl), HB0.out.trans (q2.mono HB0.out.size)⟩
set_option maxRecDepth 100000 in
set_option maxHeartbeats 2000000 in
theorem text_opt (a b : Int) (ha : fitI a) (w : World) (hT : Tb w) : Calls Tryz.prog 240 #[.agg #[.int .i64 a, .int .i64 b]] w fun e w' => e = .returned (.string (vlB (.opt a b))) ∧ Below w.heap.size w w' := by
  have c1 := fun (w2 : World) (h : Below w.heap.size w w2) => HoursLib.itoa_any a ha.1 ha.2 w2 (hT.hours.later h)
  have c2 := fun (w2 : World) (h : Below w.heap.size w w2) => text_tk b w2 (hT.later h)
  have hl1 := num_short a ha
  have hl2 := tim_short b
  unfold vlB valT
  dsimp only
  obtain ⟨L1, hL1⟩ : ∃ L, L = numT a := ⟨_, rfl⟩
  obtain ⟨L2, hL2⟩ : ∃ L, L = timT b := ⟨_, rfl⟩
  rw [show Lib.itoa a = numT a from rfl, ← hL1] at c1
  rw [show Hours.shB b = ⟨(timT b).toArray⟩ from rfl, ← hL2] at c2
  rw [← hL1] at hl1 ⊢
  rw [← hL2] at hl2 ⊢
  have n1 : ¬ 9223372036854775807 < L1.length + 1 := by omega
  have n2 : ¬ 9223372036854775807 < L1.length + 1 + L2.length := by omega
  have hcc := fun (w2 : World) (h : Below (w.alloc (.cells #[.int .i64 a, .int .i64 b] 89)).heap.size (w.alloc (.cells #[.int .i64 a, .int .i64 b] 89)) w2) => two_cells h
  have hb0 : Below w.heap.size w (w.alloc (.cells #[.int .i64 a, .int .i64 b] 89)) := below_one _
  obtain ⟨W0, hW0⟩ : ∃ W0, W0 = w.alloc (.cells #[.int .i64 a, .int .i64 b] 89) := ⟨_, rfl⟩
  rw [← hW0] at hcc hb0
  have C1 := Lib.hid c1
  have C2 := Lib.hid c2
  have HCC := Lib.hid hcc
  have HB0 := Lib.hid hb0
  have hb1 : Below W0.heap.size W0 W0.drew := (Below.refl _ _).drew
  clear c1 c2 hcc hb0 hL1 hL2 hl1 hl2 ha hT
  go_enter Tryz.func240, Tryz.ntmps240
  go_upto_region 1 with fail
  rw [← hW0]
  clear hW0
  refine wp_region_held_drew (S := fun W => Below W0.heap.size W0 W) (by kernel_rfl) (hb1) (fun hHeld => ?_)
  refine takeL (i := 0) (v := ?_) rfl (by kernel_rfl) (by kernel_rfl) (by kernel_rfl) (by first | exact fun c a w h => hP c a _ _ w h | exact fun _ _ _ h => h) (Or.inl ⟨by rfl, ?_⟩) (by assumption) ?_
  rotate_left
  · intro W hS; go_simp; (try with_reducible rfl)
  go_frame
  refine takeL (i := 1) (v := ?_) rfl (by kernel_rfl) (by kernel_rfl) (by kernel_rfl) (by first | exact fun c a w h => hP c a _ _ w h | exact fun _ _ _ h => h) (Or.inl ⟨by rfl, ?_⟩) (by assumption) ?_
  rotate_left
  · intro W hS; have := (HCC.out W hS).1; go_simp; (try with_reducible rfl)
  go_frame
  refine takeL (i := 4) (v := ?_) rfl (by kernel_rfl) (by kernel_rfl) (by kernel_rfl) (by first | exact fun c a w h => hP c a _ _ w h | exact fun _ _ _ h => h) (Or.inl ⟨by rfl, ?_⟩) (by assumption) ?_
  rotate_left
  · intro W hS; go_simp; (try with_reducible rfl)
  go_frame
  refine takeL (i := 5) (v := ?_) rfl (by kernel_rfl) (by kernel_rfl) (by kernel_rfl) (by first | exact fun c a w h => hP c a _ _ w h | exact fun _ _ _ h => h) (Or.inl ⟨by rfl, ?_⟩) (by assumption) ?_
  rotate_left
  · intro W hS; have := (HCC.out W hS).2; go_simp; (try with_reducible rfl)
  go_frame
  refine wpAnyH_ready (rs := [2]) (by kernel_rfl) (by simp) ?_
  refine readyL rfl ?_ ?_
  rotate_left
  · exact AllReadyH.nil
  intro K hK
  go_simp
  go_wp2_with (first
    | (go_at_call 44; go_loud ((with_reducible refine (C1.out _ (HB0.out.trans (hb1.mono HB0.out.size))).mono ?_); rintro e w1 ⟨rfl, p1⟩))
    | fail)
  have q1 : Below W0.heap.size W0 w1 := hb1.trans p1
  refine hK.out _ _ (q1) (fun hNew => ?_)
  clear hK K
  replace hHeld := hNew
  clear hNew
  refine takeL (i := 3) (v := ?_) rfl (by kernel_rfl) (by kernel_rfl) (by kernel_rfl) (by first | exact fun c a w h => hP c a _ _ w h | exact fun _ _ _ h => h) (Or.inl ⟨by rfl, ?_⟩) (by assumption) ?_
  rotate_left
  · intro W hS; go_simp; (try with_reducible rfl)
  go_frame
  refine wpAnyH_ready (rs := [6]) (by kernel_rfl) (by simp) ?_
  refine readyL rfl ?_ ?_
  rotate_left
  · exact AllReadyH.nil
  intro K hK
  go_simp
  go_wp2_with (first
    | (go_at_call 241; go_loud ((with_reducible refine (C2.out _ (HB0.out.trans (q1.mono HB0.out.size))).mono ?_); rintro e w2 ⟨rfl, p2⟩))
    | fail)
  have q2 : Below W0.heap.size W0 w2 := q1.trans (p2.mono q1.size)
  refine hK.out _ _ (q2) (fun hNew => ?_)
  clear hK K
  replace hHeld := hNew
  clear hNew
  refine takeL (i := 7) (v := ?_) rfl (by kernel_rfl) (by kernel_rfl) (by kernel_rfl) (by first | exact fun c a w h => hP c a _ _ w h | exact fun _ _ _ h => h) (Or.inl ⟨by rfl, ?_⟩) (by assumption) ?_
  rotate_left
  · intro W hS; go_simp; (try with_reducible rfl)
  go_frame
  refine takeL (i := 8) (v := ?_) rfl (by kernel_rfl) (by kernel_rfl) (by kernel_rfl) (by first | exact fun c a w h => hP c a _ _ w h | exact fun _ _ _ h => h) (Or.inl ⟨by rfl, ?_⟩) (by assumption) ?_
  rotate_left
  · intro W hS; go_simp; (try with_reducible rfl)
  go_frame
  refine wpAnyH_done (by kernel_rfl) ?_ _
  go_wp2
  go_ret
  exact ⟨ret_str (cat_vl 58 rfl), HB0.out.trans (q2.mono HB0.out.size)⟩
end Go.Proofs.YtdkngidangfkiaaGreatDoor.Cmd
namespace Go.Proofs.YtdkngidangfkiaaGreatDoor.LexBld
open Go.Shelf Go.RowKit
open Base
set_option linter.unusedVariables false
def ren : Go.Shelf.Ren := ⟨fun | 166 => 18 | 167 => 172 | 169 => 22 | 170 => 21 | 240 => 42 | 276 => 71 | n => n, fun | 0 => 0 | 3 => 3 | 4 => 4 | 5 => 5 | 9 => 9 | 20 => 20 | 37 => 44 | 70 => 43 | 72 => 46 | 75 => 48 | 80 => 58 | 127 => 93 | 164 => 114 | n => n, fun  | n => n⟩
theorem lays166 : Go.Proofs.Lays.n166 Tryz.prog ren := {
  mixed := by kernel_rfl
  f166 := Tryz.func18.trans (congrArg some (by kernel_rfl))
  f240 := Tryz.func42.trans (congrArg some (by kernel_rfl))
  f276 := Tryz.func71.trans (congrArg some (by kernel_rfl))
  t0 := Tryz.underlying0
  a0 := Tryz.isAgg0
  z0 := Tryz.sizeOf0
  v0 := Tryz.zeroValue0
  t3 := Tryz.underlying3
  a3 := Tryz.isAgg3
  z3 := Tryz.sizeOf3
  v3 := Tryz.zeroValue3
  t4 := Tryz.underlying4
  a4 := Tryz.isAgg4
  z4 := Tryz.sizeOf4
  v4 := Tryz.zeroValue4
  t9 := Tryz.underlying9
  a9 := Tryz.isAgg9
  z9 := Tryz.sizeOf9
  v9 := Tryz.zeroValue9
  t20 := Tryz.underlying20
  a20 := Tryz.isAgg20
  z20 := Tryz.sizeOf20
  v20 := Tryz.zeroValue20
  t37 := Tryz.underlying44
  a37 := Tryz.isAgg44
  z37 := Tryz.sizeOf44
  v37 := Tryz.zeroValue44
  t70 := Tryz.underlying43
  a70 := Tryz.isAgg43
  z70 := Tryz.sizeOf43
  v70 := Tryz.zeroValue43
  t72 := Tryz.underlying46
  a72 := Tryz.isAgg46
  z72 := Tryz.sizeOf46
  v72 := Tryz.zeroValue46
  t75 := Tryz.underlying48
  a75 := Tryz.isAgg48
  z75 := Tryz.sizeOf48
  v75 := Tryz.zeroValue48
  t164 := Tryz.underlying114
  a164 := Tryz.isAgg114
  z164 := Tryz.sizeOf114
  v164 := Tryz.zeroValue114 }
theorem lays167 : Go.Proofs.Lays.n167 Tryz.prog ren := {
  mixed := by kernel_rfl
  f167 := Tryz.func172.trans (congrArg some (by kernel_rfl))
  f240 := Tryz.func42.trans (congrArg some (by kernel_rfl))
  f276 := Tryz.func71.trans (congrArg some (by kernel_rfl))
  t0 := Tryz.underlying0
  a0 := Tryz.isAgg0
  z0 := Tryz.sizeOf0
  v0 := Tryz.zeroValue0
  t4 := Tryz.underlying4
  a4 := Tryz.isAgg4
  z4 := Tryz.sizeOf4
  v4 := Tryz.zeroValue4
  t5 := Tryz.underlying5
  a5 := Tryz.isAgg5
  z5 := Tryz.sizeOf5
  v5 := Tryz.zeroValue5
  t9 := Tryz.underlying9
  a9 := Tryz.isAgg9
  z9 := Tryz.sizeOf9
  v9 := Tryz.zeroValue9
  t20 := Tryz.underlying20
  a20 := Tryz.isAgg20
  z20 := Tryz.sizeOf20
  v20 := Tryz.zeroValue20
  t37 := Tryz.underlying44
  a37 := Tryz.isAgg44
  z37 := Tryz.sizeOf44
  v37 := Tryz.zeroValue44
  t70 := Tryz.underlying43
  a70 := Tryz.isAgg43
  z70 := Tryz.sizeOf43
  v70 := Tryz.zeroValue43
  t72 := Tryz.underlying46
  a72 := Tryz.isAgg46
  z72 := Tryz.sizeOf46
  v72 := Tryz.zeroValue46
  t75 := Tryz.underlying48
  a75 := Tryz.isAgg48
  z75 := Tryz.sizeOf48
  v75 := Tryz.zeroValue48
  t164 := Tryz.underlying114
  a164 := Tryz.isAgg114
  z164 := Tryz.sizeOf114
  v164 := Tryz.zeroValue114 }
theorem lays169 : Go.Proofs.Lays.n169 Tryz.prog ren := {
  mixed := by kernel_rfl
  f169 := Tryz.func22.trans (congrArg some (by kernel_rfl))
  t0 := Tryz.underlying0
  a0 := Tryz.isAgg0
  z0 := Tryz.sizeOf0
  v0 := Tryz.zeroValue0
  t3 := Tryz.underlying3
  a3 := Tryz.isAgg3
  z3 := Tryz.sizeOf3
  v3 := Tryz.zeroValue3
  t9 := Tryz.underlying9
  a9 := Tryz.isAgg9
  z9 := Tryz.sizeOf9
  v9 := Tryz.zeroValue9
  t37 := Tryz.underlying44
  a37 := Tryz.isAgg44
  z37 := Tryz.sizeOf44
  v37 := Tryz.zeroValue44
  t70 := Tryz.underlying43
  a70 := Tryz.isAgg43
  z70 := Tryz.sizeOf43
  v70 := Tryz.zeroValue43
  t72 := Tryz.underlying46
  a72 := Tryz.isAgg46
  z72 := Tryz.sizeOf46
  v72 := Tryz.zeroValue46
  t127 := Tryz.underlying93
  a127 := Tryz.isAgg93
  z127 := Tryz.sizeOf93
  v127 := Tryz.zeroValue93 }
theorem lays170 : Go.Proofs.Lays.n170 Tryz.prog ren := {
  mixed := by kernel_rfl
  f170 := Tryz.func21.trans (congrArg some (by kernel_rfl))
  t0 := Tryz.underlying0
  a0 := Tryz.isAgg0
  z0 := Tryz.sizeOf0
  v0 := Tryz.zeroValue0
  t3 := Tryz.underlying3
  a3 := Tryz.isAgg3
  z3 := Tryz.sizeOf3
  v3 := Tryz.zeroValue3
  t37 := Tryz.underlying44
  a37 := Tryz.isAgg44
  z37 := Tryz.sizeOf44
  v37 := Tryz.zeroValue44
  t70 := Tryz.underlying43
  a70 := Tryz.isAgg43
  z70 := Tryz.sizeOf43
  v70 := Tryz.zeroValue43
  t72 := Tryz.underlying46
  a72 := Tryz.isAgg46
  z72 := Tryz.sizeOf46
  v72 := Tryz.zeroValue46 }
theorem extra : Builder.Extra Tryz.prog ren := {
  sizeBuilder := by kernel_rfl
  liesBuilder := by kernel_rfl
  t5 := Tryz.underlying5
  a5 := Tryz.isAgg5
  z5 := Tryz.sizeOf5
  v5 := Tryz.zeroValue5
  infoByte := by kernel_rfl
  cellsByte := by kernel_rfl
  sizeByte := by kernel_rfl
  neB5 := by decide }
def Bld (w : World) (B b : Nat) (l : List UInt8) (w' : World) : Prop := Lib.IsBuilder 46 5 B b (Lib.byteCells l) w' ∧ Below B w w' ∧ B ≤ w'.heap.size
theorem at_below {T e : TypeId} {B b : Nat} {p : Value} {bs : List Value} {w w' : World} (h : Lib.BuilderAt T e B b p bs w) (hb : Below w.heap.size w w') : Lib.BuilderAt T e B b p bs w' := by
  obtain ⟨hB, v, hbk, hown, hne⟩ := h
  refine ⟨hB, v, ?_, hown.kept (grown_of_below hb none) ?_, hne⟩
  · rw [hb.block _ (Array.getElem?_eq_some_iff.1 hbk).1]; exact hbk
  · cases hv : v.ownBlock with
    | none => exact .inl rfl
    | some k => exact .inr (fun h => by cases h)
theorem Bld.below {w w1 w2 : World} {B b : Nat} {l : List UInt8} (h : Bld w B b l w1) (hb : Below w1.heap.size w1 w2) : Bld w B b l w2 :=
  ⟨h.1.elim (fun x => .inl (at_below x hb)) (fun x => .inr (at_below x hb)), h.2.1.trans (hb.mono h.2.2), Nat.le_trans h.2.2 hb.size⟩
end Go.Proofs.YtdkngidangfkiaaGreatDoor.LexBld
namespace Go.Proofs.YtdkngidangfkiaaGreatDoor.Cmd
open Go.RowKit
open Base
open HoursLib (BldR Kept)
set_option linter.unusedVariables false
set_option linter.unusedSimpArgs false
theorem len_r (w w1 : World) (B b : Nat) (l : List UInt8) (h : BldR w B b l w1) :
    Calls Tryz.prog 21 #[.pointer (some ⟨b, 0, none⟩)] w1 fun e w' => e = .returned (.int .i64 (l.length : Int)) ∧ w' = w1 := by
  refine (Any.Builder_Len_f LexBld.lays170 B b _ w1 h.1).mono ?_
  rintro e w' ⟨rfl, h2⟩
  exact ⟨by rw [Lib.byteCells_length], h2⟩
theorem kept_below {w w' : World} (b : Nat) (h : Below w.heap.size w w') : Kept b w w' := fun k o hk _ _ => (h.block k (Array.getElem?_eq_some_iff.1 hk).1).trans hk
theorem val_short (v : Vl) (hf : vlFit v) (hw : ∀ s, v = .word s → s.size ≤ 1000) : (valT v).length ≤ 1000 := by
  cases v with
  | word s => have := hw s rfl; simp only [valT]; rw [← Lib.size_eq]; omega
  | num n => have := num_short n hf; simp only [valT]; omega
  | id n => have := num_short n hf; simp only [valT]; omega
  | tk n => have := tim_short n; simp only [valT]; omega
  | opt a b => have := num_short a hf; have := tim_short b; simp only [valT, List.length_append, List.length_cons]; omega
  | span a b => have := num_short a hf.1; have := num_short b hf.2; simp only [valT, List.length_append, List.length_cons]; omega
theorem pair_cells0 {W : World} {B : Nat} {x y : Value} {T : TypeId} (h : W.heap[B]? = some (.cells #[x, y] T)) : W.cell? ⟨B, 0, none⟩ = some x ∧ W.cell? ⟨B, 1, none⟩ = some y := by simp [World.cell?, h]
noncomputable def show9C : Code := ((Tryz.f9.body.bind (codeAt 9)).getD .skip)
set_option maxRecDepth 100000 in
set_option maxHeartbeats 2000000 in
theorem show_r9 (u : World) (B b f : Nat) (l : List UInt8) (s : ByteArray) (v : Vl) (wr : World) (hB : BldR u B b l wr) (hf : wr.heap[f]? = some (.cells #[.string s, vlV v] 57)) (hbf : f ≠ b) (hT : Tb wr)
    (hs : s.size ≤ 1000) (hv : vlFit v) (hw : ∀ x, v = .word x → x.size ≤ 1000) (hl : l.length ≤ 1000000)
    (t0 t1 t2 t3 t4 t6 t8 t9 t10 t11 t12 t13 t14 t15 t16 t17 t18 t19 t20 t21 t22 t23 t24 t25 t26 t27 t28 t29 t30 t31 t32 t33 t34 t35 : Value) (Q : Exit → Act → World → Prop) (hP : ∀ c a (d : Tmp) v w, Q (.panic c) (Act.put a (some d) v) w → Q (.panic c) a w)
    (hQ : ∀ (W' : World) (u23 u24 u25 u26 u27 u28 u29 u30 u31 : Value), BldR u B b (l ++ fdT (s, v)) W' → Kept b wr W' → Q .normal ⟨#[t0, t1, t2, t3, t4, .pointer (some ⟨b, 0, none⟩), t6, .pointer (some ⟨f, 0, none⟩), t8, t9, t10, t11, t12, t13, t14, t15, t16, t17, t18, t19, t20, t21, t22, u23, u24, u25, u26, u27, u28, u29, u30, u31, t32, t33, t34, t35], []⟩ W') :
    Code.wp Tryz.prog show9C Q ⟨#[t0, t1, t2, t3, t4, .pointer (some ⟨b, 0, none⟩), t6, .pointer (some ⟨f, 0, none⟩), t8, t9, t10, t11, t12, t13, t14, t15, t16, t17, t18, t19, t20, t21, t22, t23, t24, t25, t26, t27, t28, t29, t30, t31, t32, t33, t34, t35], []⟩ wr := by
  have hvs := val_short v hv hw
  obtain ⟨L, hL⟩ : ∃ L, L = valT v := ⟨_, rfl⟩
  have hfd : fdT (s, v) = (⟨#[32]⟩ ++ s ++ ⟨#[61]⟩ ++ (⟨L.toArray⟩ : ByteArray)).data.toList := by
    unfold fdT; rw [hL]; simp [ByteArray.data_append]
  rw [hfd] at hQ
  rw [← hL] at hvs
  have g1 : ¬ 9223372036854775807 < 1 + s.size := by omega
  have g2 : ¬ 9223372036854775807 < 1 + s.size + 1 := by omega
  have g3 : ¬ 9223372036854775807 < 1 + s.size + 1 + L.length := by omega
  have hsz : (⟨#[32]⟩ ++ s ++ ⟨#[61]⟩ ++ (⟨L.toArray⟩ : ByteArray)).size ≤ 10000 := by
    simp only [ByteArray.size_append]
    have h1 : (⟨#[32]⟩ : ByteArray).size = 1 := rfl
    have h2 : (⟨#[61]⟩ : ByteArray).size = 1 := rfl
    have h3 : (⟨L.toArray⟩ : ByteArray).size = L.length := by rw [Lib.size_eq]
    omega
  obtain ⟨X, hX⟩ : ∃ X : ByteArray, X = ⟨#[32]⟩ ++ s ++ ⟨#[61]⟩ ++ (⟨L.toArray⟩ : ByteArray) := ⟨_, rfl⟩
  rw [← hX] at hQ hsz
  have hb1 : Below wr.heap.size wr wr.drew := (Below.refl wr.heap.size wr).drew
  have hflt : f < wr.heap.size := (Array.getElem?_eq_some_iff.1 hf).1
  have HQ := Lib.hid hQ
  have HX := Lib.hid hX
  have HB := Lib.hid hB
  have HF := Lib.hid hf
  have HT := Lib.hid hT
  have HW := Lib.hid hw
  have HL := Lib.hid hL
  have HSZ := Lib.hid hsz
  have HV := Lib.hid hv
  clear hQ hX hB hT hw hsz hfd hf hv hL
  cases v with
  | word x =>
    have hm : ∀ W, (method 352 83 (.string x) "muster/cmd.text").run Tryz.prog W = .ok (237, .string x) W := fun W => by kernel_rfl
    have c1 := Lib.hid (fun w (hT : Tb w) => text_word x w)
    have e1 : Hid ((⟨L.toArray⟩ : ByteArray) = x) := Lib.hid (by rw [HL.out]; rfl)
    unfold vlV at HF
    conv => arg 2; whnf
    refine wp_region_held_drew (S := fun W => W.heap[f]? = some (.cells #[.string s, .iface 83 (.string x)] 57)) (by kernel_rfl) (HF.out) (fun hHeld => ?_)
    refine takeL (i := 0) (v := ?_) rfl (by kernel_rfl) (by kernel_rfl) (by kernel_rfl) (by first | exact fun c a w h => hP c a _ _ w h | exact fun _ _ _ h => h) (Or.inl ⟨by rfl, ?_⟩) (by assumption) ?_
    rotate_left
    · intro W hS; go_simp; (try with_reducible rfl)
    go_frame
    refine takeL (i := 1) (v := ?_) rfl (by kernel_rfl) (by kernel_rfl) (by kernel_rfl) (by first | exact fun c a w h => hP c a _ _ w h | exact fun _ _ _ h => h) (Or.inl ⟨by rfl, ?_⟩) (by assumption) ?_
    rotate_left
    · intro W hS; have := (pair_cells0 hS).1; go_simp; (try with_reducible rfl)
    go_frame
    refine takeL (i := 2) (v := ?_) rfl (by kernel_rfl) (by kernel_rfl) (by kernel_rfl) (by first | exact fun c a w h => hP c a _ _ w h | exact fun _ _ _ h => h) (Or.inl ⟨by rfl, ?_⟩) (by assumption) ?_
    rotate_left
    · intro W hS; go_simp; (try with_reducible rfl)
    go_frame
    refine takeL (i := 3) (v := ?_) rfl (by kernel_rfl) (by kernel_rfl) (by kernel_rfl) (by first | exact fun c a w h => hP c a _ _ w h | exact fun _ _ _ h => h) (Or.inl ⟨by rfl, ?_⟩) (by assumption) ?_
    rotate_left
    · intro W hS; go_simp; (try with_reducible rfl)
    go_frame
    refine takeL (i := 4) (v := ?_) rfl (by kernel_rfl) (by kernel_rfl) (by kernel_rfl) (by first | exact fun c a w h => hP c a _ _ w h | exact fun _ _ _ h => h) (Or.inl ⟨by rfl, ?_⟩) (by assumption) ?_
    rotate_left
    · intro W hS; go_simp; (try with_reducible rfl)
    go_frame
    refine takeL (i := 5) (v := ?_) rfl (by kernel_rfl) (by kernel_rfl) (by kernel_rfl) (by first | exact fun c a w h => hP c a _ _ w h | exact fun _ _ _ h => h) (Or.inl ⟨by rfl, ?_⟩) (by assumption) ?_
    rotate_left
    · intro W hS; have := (pair_cells0 hS).2; go_simp; (try with_reducible rfl)
    go_frame
    refine wpAnyH_ready (rs := [6]) (by kernel_rfl) (by simp) ?_
    refine readyL rfl ?_ ?_
    rotate_left
    · exact AllReadyH.nil
    intro K hK
    go_simp
    go_wp2_with (first
      | (go_at_call 237; go_loud ((with_reducible refine (c1.out _ (HT.out.later hb1)).mono ?_); rw [← e1.out]; rintro e w1 ⟨rfl, p1⟩))
      | fail)
    have q1 : Below wr.heap.size wr w1 := hb1.trans p1
    refine hK.out _ _ ((q1.block f hflt).trans HF.out) (fun hNew => ?_)
    clear hK K
    replace hHeld := hNew
    clear hNew
    refine takeL (i := 7) (v := ?_) rfl (by kernel_rfl) (by kernel_rfl) (by kernel_rfl) (by first | exact fun c a w h => hP c a _ _ w h | exact fun _ _ _ h => h) (Or.inl ⟨by rfl, ?_⟩) (by assumption) ?_
    rotate_left
    · intro W hS; go_simp; (try with_reducible rfl)
    go_frame
    refine wpAnyH_ready (rs := [8]) (by kernel_rfl) (by simp) ?_
    refine readyL rfl ?_ ?_
    rotate_left
    · exact AllReadyH.nil
    intro K hK
    go_simp
    rw [← HX.out]
    go_wp2_with (first
      | (go_at_call 18; go_loud ((with_reducible refine (HoursLib.writeString_r u w1 B b l X (HB.out.below q1) (by have := HSZ.out; omega)).mono ?_); rintro e w2 ⟨rfl, r2, k2⟩))
      | fail)
    refine hK.out _ _ (k2 f _ ((q1.block f hflt).trans HF.out) (by intro e; injection e with e; exact hbf e) (by intro c fz e; injection e with _ e; revert e; decide)) (fun hNew => ?_)
    clear hK K
    replace hHeld := hNew
    clear hNew
    refine wpAnyH_done (by kernel_rfl) ?_ _
    exact HQ.out _ _ _ _ _ _ _ _ _ _ r2 ((kept_below b q1).trans k2)
  | num n =>
    have hm : ∀ W, (method 352 84 (.int .i64 n) "muster/cmd.text").run Tryz.prog W = .ok (238, .int .i64 n) W := fun W => by kernel_rfl
    have c1 := Lib.hid (fun w (hT : Tb w) => text_num n HV.out w hT)
    have e1 : Hid ((⟨L.toArray⟩ : ByteArray) = ⟨(numT n).toArray⟩) := Lib.hid (by rw [HL.out]; rfl)
    unfold vlV at HF
    conv => arg 2; whnf
    refine wp_region_held_drew (S := fun W => W.heap[f]? = some (.cells #[.string s, .iface 84 (.int .i64 n)] 57)) (by kernel_rfl) (HF.out) (fun hHeld => ?_)
    refine takeL (i := 0) (v := ?_) rfl (by kernel_rfl) (by kernel_rfl) (by kernel_rfl) (by first | exact fun c a w h => hP c a _ _ w h | exact fun _ _ _ h => h) (Or.inl ⟨by rfl, ?_⟩) (by assumption) ?_
    rotate_left
    · intro W hS; go_simp; (try with_reducible rfl)
    go_frame
    refine takeL (i := 1) (v := ?_) rfl (by kernel_rfl) (by kernel_rfl) (by kernel_rfl) (by first | exact fun c a w h => hP c a _ _ w h | exact fun _ _ _ h => h) (Or.inl ⟨by rfl, ?_⟩) (by assumption) ?_
    rotate_left
    · intro W hS; have := (pair_cells0 hS).1; go_simp; (try with_reducible rfl)
    go_frame
    refine takeL (i := 2) (v := ?_) rfl (by kernel_rfl) (by kernel_rfl) (by kernel_rfl) (by first | exact fun c a w h => hP c a _ _ w h | exact fun _ _ _ h => h) (Or.inl ⟨by rfl, ?_⟩) (by assumption) ?_
    rotate_left
    · intro W hS; go_simp; (try with_reducible rfl)
    go_frame
    refine takeL (i := 3) (v := ?_) rfl (by kernel_rfl) (by kernel_rfl) (by kernel_rfl) (by first | exact fun c a w h => hP c a _ _ w h | exact fun _ _ _ h => h) (Or.inl ⟨by rfl, ?_⟩) (by assumption) ?_
    rotate_left
    · intro W hS; go_simp; (try with_reducible rfl)
    go_frame
    refine takeL (i := 4) (v := ?_) rfl (by kernel_rfl) (by kernel_rfl) (by kernel_rfl) (by first | exact fun c a w h => hP c a _ _ w h | exact fun _ _ _ h => h) (Or.inl ⟨by rfl, ?_⟩) (by assumption) ?_
    rotate_left
    · intro W hS; go_simp; (try with_reducible rfl)
    go_frame
    refine takeL (i := 5) (v := ?_) rfl (by kernel_rfl) (by kernel_rfl) (by kernel_rfl) (by first | exact fun c a w h => hP c a _ _ w h | exact fun _ _ _ h => h) (Or.inl ⟨by rfl, ?_⟩) (by assumption) ?_
    rotate_left
    · intro W hS; have := (pair_cells0 hS).2; go_simp; (try with_reducible rfl)
    go_frame
    refine wpAnyH_ready (rs := [6]) (by kernel_rfl) (by simp) ?_
    refine readyL rfl ?_ ?_
    rotate_left
    · exact AllReadyH.nil
    intro K hK
    go_simp
    go_wp2_with (first
      | (go_at_call 238; go_loud ((with_reducible refine (c1.out _ (HT.out.later hb1)).mono ?_); rw [← e1.out]; rintro e w1 ⟨rfl, p1⟩))
      | fail)
    have q1 : Below wr.heap.size wr w1 := hb1.trans p1
    refine hK.out _ _ ((q1.block f hflt).trans HF.out) (fun hNew => ?_)
    clear hK K
    replace hHeld := hNew
    clear hNew
    refine takeL (i := 7) (v := ?_) rfl (by kernel_rfl) (by kernel_rfl) (by kernel_rfl) (by first | exact fun c a w h => hP c a _ _ w h | exact fun _ _ _ h => h) (Or.inl ⟨by rfl, ?_⟩) (by assumption) ?_
    rotate_left
    · intro W hS; go_simp; (try with_reducible rfl)
    go_frame
    refine wpAnyH_ready (rs := [8]) (by kernel_rfl) (by simp) ?_
    refine readyL rfl ?_ ?_
    rotate_left
    · exact AllReadyH.nil
    intro K hK
    go_simp
    rw [← HX.out]
    go_wp2_with (first
      | (go_at_call 18; go_loud ((with_reducible refine (HoursLib.writeString_r u w1 B b l X (HB.out.below q1) (by have := HSZ.out; omega)).mono ?_); rintro e w2 ⟨rfl, r2, k2⟩))
      | fail)
    refine hK.out _ _ (k2 f _ ((q1.block f hflt).trans HF.out) (by intro e; injection e with e; exact hbf e) (by intro c fz e; injection e with _ e; revert e; decide)) (fun hNew => ?_)
    clear hK K
    replace hHeld := hNew
    clear hNew
    refine wpAnyH_done (by kernel_rfl) ?_ _
    exact HQ.out _ _ _ _ _ _ _ _ _ _ r2 ((kept_below b q1).trans k2)
  | id n =>
    have hm : ∀ W, (method 352 86 (.int .i64 n) "muster/cmd.text").run Tryz.prog W = .ok (239, .int .i64 n) W := fun W => by kernel_rfl
    have c1 := Lib.hid (fun w (hT : Tb w) => text_id n HV.out w hT)
    have e1 : Hid ((⟨L.toArray⟩ : ByteArray) = ⟨(numT n).toArray⟩) := Lib.hid (by rw [HL.out]; rfl)
    unfold vlV at HF
    conv => arg 2; whnf
    refine wp_region_held_drew (S := fun W => W.heap[f]? = some (.cells #[.string s, .iface 86 (.int .i64 n)] 57)) (by kernel_rfl) (HF.out) (fun hHeld => ?_)
    refine takeL (i := 0) (v := ?_) rfl (by kernel_rfl) (by kernel_rfl) (by kernel_rfl) (by first | exact fun c a w h => hP c a _ _ w h | exact fun _ _ _ h => h) (Or.inl ⟨by rfl, ?_⟩) (by assumption) ?_
    rotate_left
    · intro W hS; go_simp; (try with_reducible rfl)
    go_frame
    refine takeL (i := 1) (v := ?_) rfl (by kernel_rfl) (by kernel_rfl) (by kernel_rfl) (by first | exact fun c a w h => hP c a _ _ w h | exact fun _ _ _ h => h) (Or.inl ⟨by rfl, ?_⟩) (by assumption) ?_
    rotate_left
    · intro W hS; have := (pair_cells0 hS).1; go_simp; (try with_reducible rfl)
    go_frame
    refine takeL (i := 2) (v := ?_) rfl (by kernel_rfl) (by kernel_rfl) (by kernel_rfl) (by first | exact fun c a w h => hP c a _ _ w h | exact fun _ _ _ h => h) (Or.inl ⟨by rfl, ?_⟩) (by assumption) ?_
    rotate_left
    · intro W hS; go_simp; (try with_reducible rfl)
    go_frame
    refine takeL (i := 3) (v := ?_) rfl (by kernel_rfl) (by kernel_rfl) (by kernel_rfl) (by first | exact fun c a w h => hP c a _ _ w h | exact fun _ _ _ h => h) (Or.inl ⟨by rfl, ?_⟩) (by assumption) ?_
    rotate_left
    · intro W hS; go_simp; (try with_reducible rfl)
    go_frame
    refine takeL (i := 4) (v := ?_) rfl (by kernel_rfl) (by kernel_rfl) (by kernel_rfl) (by first | exact fun c a w h => hP c a _ _ w h | exact fun _ _ _ h => h) (Or.inl ⟨by rfl, ?_⟩) (by assumption) ?_
    rotate_left
    · intro W hS; go_simp; (try with_reducible rfl)
    go_frame
    refine takeL (i := 5) (v := ?_) rfl (by kernel_rfl) (by kernel_rfl) (by kernel_rfl) (by first | exact fun c a w h => hP c a _ _ w h | exact fun _ _ _ h => h) (Or.inl ⟨by rfl, ?_⟩) (by assumption) ?_
    rotate_left
    · intro W hS; have := (pair_cells0 hS).2; go_simp; (try with_reducible rfl)
    go_frame
    refine wpAnyH_ready (rs := [6]) (by kernel_rfl) (by simp) ?_
    refine readyL rfl ?_ ?_
    rotate_left
    · exact AllReadyH.nil
    intro K hK
    go_simp
    go_wp2_with (first
      | (go_at_call 239; go_loud ((with_reducible refine (c1.out _ (HT.out.later hb1)).mono ?_); rw [← e1.out]; rintro e w1 ⟨rfl, p1⟩))
      | fail)
    have q1 : Below wr.heap.size wr w1 := hb1.trans p1
    refine hK.out _ _ ((q1.block f hflt).trans HF.out) (fun hNew => ?_)
    clear hK K
    replace hHeld := hNew
    clear hNew
    refine takeL (i := 7) (v := ?_) rfl (by kernel_rfl) (by kernel_rfl) (by kernel_rfl) (by first | exact fun c a w h => hP c a _ _ w h | exact fun _ _ _ h => h) (Or.inl ⟨by rfl, ?_⟩) (by assumption) ?_
    rotate_left
    · intro W hS; go_simp; (try with_reducible rfl)
    go_frame
    refine wpAnyH_ready (rs := [8]) (by kernel_rfl) (by simp) ?_
    refine readyL rfl ?_ ?_
    rotate_left
    · exact AllReadyH.nil
    intro K hK
    go_simp
    rw [← HX.out]
    go_wp2_with (first
      | (go_at_call 18; go_loud ((with_reducible refine (HoursLib.writeString_r u w1 B b l X (HB.out.below q1) (by have := HSZ.out; omega)).mono ?_); rintro e w2 ⟨rfl, r2, k2⟩))
      | fail)
    refine hK.out _ _ (k2 f _ ((q1.block f hflt).trans HF.out) (by intro e; injection e with e; exact hbf e) (by intro c fz e; injection e with _ e; revert e; decide)) (fun hNew => ?_)
    clear hK K
    replace hHeld := hNew
    clear hNew
    refine wpAnyH_done (by kernel_rfl) ?_ _
    exact HQ.out _ _ _ _ _ _ _ _ _ _ r2 ((kept_below b q1).trans k2)
  | tk n =>
    have hm : ∀ W, (method 352 92 (.int .i64 n) "muster/cmd.text").run Tryz.prog W = .ok (241, .int .i64 n) W := fun W => by kernel_rfl
    have c1 := Lib.hid (fun w (hT : Tb w) => text_tk n w hT)
    have e1 : Hid ((⟨L.toArray⟩ : ByteArray) = Hours.shB n) := Lib.hid (by rw [HL.out]; rfl)
    unfold vlV at HF
    conv => arg 2; whnf
    refine wp_region_held_drew (S := fun W => W.heap[f]? = some (.cells #[.string s, .iface 92 (.int .i64 n)] 57)) (by kernel_rfl) (HF.out) (fun hHeld => ?_)
    refine takeL (i := 0) (v := ?_) rfl (by kernel_rfl) (by kernel_rfl) (by kernel_rfl) (by first | exact fun c a w h => hP c a _ _ w h | exact fun _ _ _ h => h) (Or.inl ⟨by rfl, ?_⟩) (by assumption) ?_
    rotate_left
    · intro W hS; go_simp; (try with_reducible rfl)
    go_frame
    refine takeL (i := 1) (v := ?_) rfl (by kernel_rfl) (by kernel_rfl) (by kernel_rfl) (by first | exact fun c a w h => hP c a _ _ w h | exact fun _ _ _ h => h) (Or.inl ⟨by rfl, ?_⟩) (by assumption) ?_
    rotate_left
    · intro W hS; have := (pair_cells0 hS).1; go_simp; (try with_reducible rfl)
    go_frame
    refine takeL (i := 2) (v := ?_) rfl (by kernel_rfl) (by kernel_rfl) (by kernel_rfl) (by first | exact fun c a w h => hP c a _ _ w h | exact fun _ _ _ h => h) (Or.inl ⟨by rfl, ?_⟩) (by assumption) ?_
    rotate_left
    · intro W hS; go_simp; (try with_reducible rfl)
    go_frame
    refine takeL (i := 3) (v := ?_) rfl (by kernel_rfl) (by kernel_rfl) (by kernel_rfl) (by first | exact fun c a w h => hP c a _ _ w h | exact fun _ _ _ h => h) (Or.inl ⟨by rfl, ?_⟩) (by assumption) ?_
    rotate_left
    · intro W hS; go_simp; (try with_reducible rfl)
    go_frame
    refine takeL (i := 4) (v := ?_) rfl (by kernel_rfl) (by kernel_rfl) (by kernel_rfl) (by first | exact fun c a w h => hP c a _ _ w h | exact fun _ _ _ h => h) (Or.inl ⟨by rfl, ?_⟩) (by assumption) ?_
    rotate_left
    · intro W hS; go_simp; (try with_reducible rfl)
    go_frame
    refine takeL (i := 5) (v := ?_) rfl (by kernel_rfl) (by kernel_rfl) (by kernel_rfl) (by first | exact fun c a w h => hP c a _ _ w h | exact fun _ _ _ h => h) (Or.inl ⟨by rfl, ?_⟩) (by assumption) ?_
    rotate_left
    · intro W hS; have := (pair_cells0 hS).2; go_simp; (try with_reducible rfl)
    go_frame
    refine wpAnyH_ready (rs := [6]) (by kernel_rfl) (by simp) ?_
    refine readyL rfl ?_ ?_
    rotate_left
    · exact AllReadyH.nil
    intro K hK
    go_simp
    go_wp2_with (first
      | (go_at_call 241; go_loud ((with_reducible refine (c1.out _ (HT.out.later hb1)).mono ?_); rw [← e1.out]; rintro e w1 ⟨rfl, p1⟩))
      | fail)
    have q1 : Below wr.heap.size wr w1 := hb1.trans p1
    refine hK.out _ _ ((q1.block f hflt).trans HF.out) (fun hNew => ?_)
    clear hK K
    replace hHeld := hNew
    clear hNew
    refine takeL (i := 7) (v := ?_) rfl (by kernel_rfl) (by kernel_rfl) (by kernel_rfl) (by first | exact fun c a w h => hP c a _ _ w h | exact fun _ _ _ h => h) (Or.inl ⟨by rfl, ?_⟩) (by assumption) ?_
    rotate_left
    · intro W hS; go_simp; (try with_reducible rfl)
    go_frame
    refine wpAnyH_ready (rs := [8]) (by kernel_rfl) (by simp) ?_
    refine readyL rfl ?_ ?_
    rotate_left
    · exact AllReadyH.nil
    intro K hK
    go_simp
    rw [← HX.out]
    go_wp2_with (first
      | (go_at_call 18; go_loud ((with_reducible refine (HoursLib.writeString_r u w1 B b l X (HB.out.below q1) (by have := HSZ.out; omega)).mono ?_); rintro e w2 ⟨rfl, r2, k2⟩))
      | fail)
    refine hK.out _ _ (k2 f _ ((q1.block f hflt).trans HF.out) (by intro e; injection e with e; exact hbf e) (by intro c fz e; injection e with _ e; revert e; decide)) (fun hNew => ?_)
    clear hK K
    replace hHeld := hNew
    clear hNew
    refine wpAnyH_done (by kernel_rfl) ?_ _
    exact HQ.out _ _ _ _ _ _ _ _ _ _ r2 ((kept_below b q1).trans k2)
  | opt p q =>
    have hm : ∀ W, (method 352 89 (.agg #[.int .i64 p, .int .i64 q]) "muster/cmd.text").run Tryz.prog W = .ok (240, .agg #[.int .i64 p, .int .i64 q]) W := fun W => by kernel_rfl
    have c1 := Lib.hid (fun w (hT : Tb w) => text_opt p q HV.out w hT)
    have e1 : Hid ((⟨L.toArray⟩ : ByteArray) = vlB (.opt p q)) := Lib.hid (by rw [HL.out]; rfl)
    unfold vlV at HF
    conv => arg 2; whnf
    refine wp_region_held_drew (S := fun W => W.heap[f]? = some (.cells #[.string s, .iface 89 (.agg #[.int .i64 p, .int .i64 q])] 57)) (by kernel_rfl) (HF.out) (fun hHeld => ?_)
    refine takeL (i := 0) (v := ?_) rfl (by kernel_rfl) (by kernel_rfl) (by kernel_rfl) (by first | exact fun c a w h => hP c a _ _ w h | exact fun _ _ _ h => h) (Or.inl ⟨by rfl, ?_⟩) (by assumption) ?_
    rotate_left
    · intro W hS; go_simp; (try with_reducible rfl)
    go_frame
    refine takeL (i := 1) (v := ?_) rfl (by kernel_rfl) (by kernel_rfl) (by kernel_rfl) (by first | exact fun c a w h => hP c a _ _ w h | exact fun _ _ _ h => h) (Or.inl ⟨by rfl, ?_⟩) (by assumption) ?_
    rotate_left
    · intro W hS; have := (pair_cells0 hS).1; go_simp; (try with_reducible rfl)
    go_frame
    refine takeL (i := 2) (v := ?_) rfl (by kernel_rfl) (by kernel_rfl) (by kernel_rfl) (by first | exact fun c a w h => hP c a _ _ w h | exact fun _ _ _ h => h) (Or.inl ⟨by rfl, ?_⟩) (by assumption) ?_
    rotate_left
    · intro W hS; go_simp; (try with_reducible rfl)
    go_frame
    refine takeL (i := 3) (v := ?_) rfl (by kernel_rfl) (by kernel_rfl) (by kernel_rfl) (by first | exact fun c a w h => hP c a _ _ w h | exact fun _ _ _ h => h) (Or.inl ⟨by rfl, ?_⟩) (by assumption) ?_
    rotate_left
    · intro W hS; go_simp; (try with_reducible rfl)
    go_frame
    refine takeL (i := 4) (v := ?_) rfl (by kernel_rfl) (by kernel_rfl) (by kernel_rfl) (by first | exact fun c a w h => hP c a _ _ w h | exact fun _ _ _ h => h) (Or.inl ⟨by rfl, ?_⟩) (by assumption) ?_
    rotate_left
    · intro W hS; go_simp; (try with_reducible rfl)
    go_frame
    refine takeL (i := 5) (v := ?_) rfl (by kernel_rfl) (by kernel_rfl) (by kernel_rfl) (by first | exact fun c a w h => hP c a _ _ w h | exact fun _ _ _ h => h) (Or.inl ⟨by rfl, ?_⟩) (by assumption) ?_
    rotate_left
    · intro W hS; have := (pair_cells0 hS).2; go_simp; (try with_reducible rfl)
    go_frame
    refine wpAnyH_ready (rs := [6]) (by kernel_rfl) (by simp) ?_
    refine readyL rfl ?_ ?_
    rotate_left
    · exact AllReadyH.nil
    intro K hK
    go_simp
    go_wp2_with (first
      | (go_at_call 240; go_loud ((with_reducible refine (c1.out _ (HT.out.later hb1)).mono ?_); rw [← e1.out]; rintro e w1 ⟨rfl, p1⟩))
      | fail)
    have q1 : Below wr.heap.size wr w1 := hb1.trans p1
    refine hK.out _ _ ((q1.block f hflt).trans HF.out) (fun hNew => ?_)
    clear hK K
    replace hHeld := hNew
    clear hNew
    refine takeL (i := 7) (v := ?_) rfl (by kernel_rfl) (by kernel_rfl) (by kernel_rfl) (by first | exact fun c a w h => hP c a _ _ w h | exact fun _ _ _ h => h) (Or.inl ⟨by rfl, ?_⟩) (by assumption) ?_
    rotate_left
    · intro W hS; go_simp; (try with_reducible rfl)
    go_frame
    refine wpAnyH_ready (rs := [8]) (by kernel_rfl) (by simp) ?_
    refine readyL rfl ?_ ?_
    rotate_left
    · exact AllReadyH.nil
    intro K hK
    go_simp
    rw [← HX.out]
    go_wp2_with (first
      | (go_at_call 18; go_loud ((with_reducible refine (HoursLib.writeString_r u w1 B b l X (HB.out.below q1) (by have := HSZ.out; omega)).mono ?_); rintro e w2 ⟨rfl, r2, k2⟩))
      | fail)
    refine hK.out _ _ (k2 f _ ((q1.block f hflt).trans HF.out) (by intro e; injection e with e; exact hbf e) (by intro c fz e; injection e with _ e; revert e; decide)) (fun hNew => ?_)
    clear hK K
    replace hHeld := hNew
    clear hNew
    refine wpAnyH_done (by kernel_rfl) ?_ _
    exact HQ.out _ _ _ _ _ _ _ _ _ _ r2 ((kept_below b q1).trans k2)
  | span p q =>
    have hm : ∀ W, (method 352 91 (.agg #[.int .i64 p, .int .i64 q]) "muster/cmd.text").run Tryz.prog W = .ok (243, .agg #[.int .i64 p, .int .i64 q]) W := fun W => by kernel_rfl
    have c1 := Lib.hid (fun w (hT : Tb w) => text_span p q HV.out.1 HV.out.2 w hT)
    have e1 : Hid ((⟨L.toArray⟩ : ByteArray) = vlB (.span p q)) := Lib.hid (by rw [HL.out]; rfl)
    unfold vlV at HF
    conv => arg 2; whnf
    refine wp_region_held_drew (S := fun W => W.heap[f]? = some (.cells #[.string s, .iface 91 (.agg #[.int .i64 p, .int .i64 q])] 57)) (by kernel_rfl) (HF.out) (fun hHeld => ?_)
    refine takeL (i := 0) (v := ?_) rfl (by kernel_rfl) (by kernel_rfl) (by kernel_rfl) (by first | exact fun c a w h => hP c a _ _ w h | exact fun _ _ _ h => h) (Or.inl ⟨by rfl, ?_⟩) (by assumption) ?_
    rotate_left
    · intro W hS; go_simp; (try with_reducible rfl)
    go_frame
    refine takeL (i := 1) (v := ?_) rfl (by kernel_rfl) (by kernel_rfl) (by kernel_rfl) (by first | exact fun c a w h => hP c a _ _ w h | exact fun _ _ _ h => h) (Or.inl ⟨by rfl, ?_⟩) (by assumption) ?_
    rotate_left
    · intro W hS; have := (pair_cells0 hS).1; go_simp; (try with_reducible rfl)
    go_frame
    refine takeL (i := 2) (v := ?_) rfl (by kernel_rfl) (by kernel_rfl) (by kernel_rfl) (by first | exact fun c a w h => hP c a _ _ w h | exact fun _ _ _ h => h) (Or.inl ⟨by rfl, ?_⟩) (by assumption) ?_
    rotate_left
    · intro W hS; go_simp; (try with_reducible rfl)
    go_frame
    refine takeL (i := 3) (v := ?_) rfl (by kernel_rfl) (by kernel_rfl) (by kernel_rfl) (by first | exact fun c a w h => hP c a _ _ w h | exact fun _ _ _ h => h) (Or.inl ⟨by rfl, ?_⟩) (by assumption) ?_
    rotate_left
    · intro W hS; go_simp; (try with_reducible rfl)
    go_frame
    refine takeL (i := 4) (v := ?_) rfl (by kernel_rfl) (by kernel_rfl) (by kernel_rfl) (by first | exact fun c a w h => hP c a _ _ w h | exact fun _ _ _ h => h) (Or.inl ⟨by rfl, ?_⟩) (by assumption) ?_
    rotate_left
    · intro W hS; go_simp; (try with_reducible rfl)
    go_frame
    refine takeL (i := 5) (v := ?_) rfl (by kernel_rfl) (by kernel_rfl) (by kernel_rfl) (by first | exact fun c a w h => hP c a _ _ w h | exact fun _ _ _ h => h) (Or.inl ⟨by rfl, ?_⟩) (by assumption) ?_
    rotate_left
    · intro W hS; have := (pair_cells0 hS).2; go_simp; (try with_reducible rfl)
    go_frame
    refine wpAnyH_ready (rs := [6]) (by kernel_rfl) (by simp) ?_
    refine readyL rfl ?_ ?_
    rotate_left
    · exact AllReadyH.nil
    intro K hK
    go_simp
    go_wp2_with (first
      | (go_at_call 243; go_loud ((with_reducible refine (c1.out _ (HT.out.later hb1)).mono ?_); rw [← e1.out]; rintro e w1 ⟨rfl, p1⟩))
      | fail)
    have q1 : Below wr.heap.size wr w1 := hb1.trans p1
    refine hK.out _ _ ((q1.block f hflt).trans HF.out) (fun hNew => ?_)
    clear hK K
    replace hHeld := hNew
    clear hNew
    refine takeL (i := 7) (v := ?_) rfl (by kernel_rfl) (by kernel_rfl) (by kernel_rfl) (by first | exact fun c a w h => hP c a _ _ w h | exact fun _ _ _ h => h) (Or.inl ⟨by rfl, ?_⟩) (by assumption) ?_
    rotate_left
    · intro W hS; go_simp; (try with_reducible rfl)
    go_frame
    refine wpAnyH_ready (rs := [8]) (by kernel_rfl) (by simp) ?_
    refine readyL rfl ?_ ?_
    rotate_left
    · exact AllReadyH.nil
    intro K hK
    go_simp
    rw [← HX.out]
    go_wp2_with (first
      | (go_at_call 18; go_loud ((with_reducible refine (HoursLib.writeString_r u w1 B b l X (HB.out.below q1) (by have := HSZ.out; omega)).mono ?_); rintro e w2 ⟨rfl, r2, k2⟩))
      | fail)
    refine hK.out _ _ (k2 f _ ((q1.block f hflt).trans HF.out) (by intro e; injection e with e; exact hbf e) (by intro c fz e; injection e with _ e; revert e; decide)) (fun hNew => ?_)
    clear hK K
    replace hHeld := hNew
    clear hNew
    refine wpAnyH_done (by kernel_rfl) ?_ _
    exact HQ.out _ _ _ _ _ _ _ _ _ _ r2 ((kept_below b q1).trans k2)
end Go.Proofs.YtdkngidangfkiaaGreatDoor.Cmd
set_option linter.unusedVariables false
set_option linter.unusedSimpArgs false
namespace Go.Proofs.YtdkngidangfkiaaGreatDoor.Cmd
open Go.RowKit
open Base
open Lex (Tok tkC tkC_length tokV zT txS chE)
open Shape (altC altC_length)
def nameB2 (s : ByteArray) : ByteArray := ⟨(nameT s).toArray⟩
theorem nameT_short (s : ByteArray) (hs : s.size ≤ 1000000) : (nameB2 s).size ≤ 3000000 := by
  have hn : nameB2 s = txS (if wordB s = true then 1 else 4, s, 0, 0) := rfl
  rw [hn]
  generalize (if wordB s = true then (1 : Int) else 4) = k
  unfold txS
  split
  · have h := Lex.wrB_size (k, s, (0 : Int), (0 : Int))
    have h2 : (k, s, (0 : Int), (0 : Int)).2.1.size = s.size := rfl
    omega
  · exact Nat.zero_le _
theorem verb_short : ∀ n : Fin 13, (verb (n.val : Int)).size ≤ 9 := by decide +kernel
set_option maxRecDepth 100000 in
set_option maxHeartbeats 2000000 in
theorem nameText_any (s : ByteArray) (hs : s.size ≤ 1000000) (w : World) (hT : Tb w) :
    Calls Tryz.prog 43 #[.string s] w fun e w' => e = .returned (.string (nameB2 s)) ∧ Below w.heap.size w w' := by
  have c1 := fun w hT => isWord_any s (by unfold maxLen; omega) w hT
  have c2 := fun k w (hT : LexLib.Tb w) => Lex.ltext_any k s 0 0 (by unfold maxLen; omega) (by decide) (by decide) w hT
  unfold tokV at c2
  dsimp only at c2
  have hn : nameB2 s = txS (if wordB s = true then 1 else 4, s, 0, 0) := rfl
  rw [hn]
  obtain ⟨X1, h1⟩ : ∃ X, X = txS ((1 : Int), s, (0 : Int), (0 : Int)) := ⟨_, rfl⟩
  obtain ⟨X4, h4⟩ : ∃ X, X = txS ((4 : Int), s, (0 : Int), (0 : Int)) := ⟨_, rfl⟩
  have c21 := c2 1
  have c24 := c2 4
  rw [← h1] at c21
  rw [← h4] at c24
  obtain ⟨B, hB⟩ : ∃ B, B = wordB s := ⟨_, rfl⟩
  rw [← hB] at c1 ⊢
  have C1 := Lib.hid c1
  have C21 := Lib.hid c21
  have C24 := Lib.hid c24
  have HT := Lib.hid hT
  cases B with
  | true =>
    rw [if_pos rfl, ← h1]
    clear c1 c2 c21 c24 hn h1 h4 hB hT hs
    go_enter Tryz.func43, Tryz.ntmps43
    go_wp2_with (first
      | (go_at_call 72; go_loud ((with_reducible refine (C1.out _ HT.out).mono ?_); rintro e w1 ⟨rfl, p1⟩))
      | (go_at_call 73; go_loud ((with_reducible refine (C21.out _ (HT.out.later (Base.bel_)).lex).mono ?_); rintro e w2 ⟨rfl, p2⟩))
      | fail)
    go_ret
    exact ⟨rfl, Base.bel_⟩
  | false =>
    rw [if_neg (by decide), ← h4]
    clear c1 c2 c21 c24 hn h1 h4 hB hT hs
    go_enter Tryz.func43, Tryz.ntmps43
    go_wp2_with (first
      | (go_at_call 72; go_loud ((with_reducible refine (C1.out _ HT.out).mono ?_); rintro e w1 ⟨rfl, p1⟩))
      | (go_at_call 73; go_loud ((with_reducible refine (C24.out _ (HT.out.later (Base.bel_)).lex).mono ?_); rintro e w2 ⟨rfl, p2⟩))
      | fail)
    go_ret
    exact ⟨rfl, Base.bel_⟩
def headB (c : Co) : ByteArray := ⟨(headT c).toArray⟩
set_option maxRecDepth 100000 in
set_option maxHeartbeats 4000000 in
theorem head_any (c : Co) (va vd : Value) (w : World) (hT : Tb w) (h1 : Row w va c.alts) (h2 : Row w vd c.after) (hk : 0 ≤ c.kind ∧ c.kind ≤ 12) (hn : c.name.size ≤ 1000000) (hnd : fitI c.node) (hj : fitI c.job) :
    Calls Tryz.prog 19 #[cmdV c va vd] w fun e w' => e = .returned (.string (headB c)) ∧ Below w.heap.size w w' := by
  obtain ⟨pd, qd, rfl, l2, m2, r2, n2⟩ := h2
  obtain ⟨pa, qa, rfl, l1, m1, r1, n1⟩ := h1
  have c1 := fun w hT => nameText_any c.name hn w hT
  have c2 := fun w (hT : HoursLib.Tb w) => HoursLib.itoa_any c.node hnd.1 hnd.2 w hT
  have c3 := fun w (hT : HoursLib.Tb w) => HoursLib.itoa_any c.job hj.1 hj.2 w hT
  have hv : w.cell? ⟨0, c.kind.toNat, none⟩ = some (.string (verb c.kind)) := hT.words c.kind.toNat (by show c.kind.toNat < 13; omega)
  have hlt0 := lt_of_cell hv
  have hvs : (verb c.kind).size ≤ 9 := by
    obtain ⟨n, hn2⟩ := Int.eq_ofNat_of_zero_le hk.1
    have := verb_short ⟨n, by omega⟩
    rw [hn2]; exact this
  have hns := nameT_short c.name hn
  have hl2 := num_short c.node hnd
  have hl3 := num_short c.job hj
  unfold cmdV
  have hd0 := hk.1
  have hd1 : c.kind < 13 := by omega
  obtain ⟨V, hV⟩ : ∃ V, V = verb c.kind := ⟨_, rfl⟩
  obtain ⟨N, hN⟩ : ∃ N, N = nameB2 c.name := ⟨_, rfl⟩
  obtain ⟨L2, hL2⟩ : ∃ L, L = numT c.node := ⟨_, rfl⟩
  obtain ⟨L3, hL3⟩ : ∃ L, L = numT c.job := ⟨_, rfl⟩
  rw [← hV] at hv hvs
  rw [← hN] at c1 hns
  rw [show Lib.itoa c.node = numT c.node from rfl, ← hL2] at c2
  rw [show Lib.itoa c.job = numT c.job from rfl, ← hL3] at c3
  rw [← hL2] at hl2
  rw [← hL3] at hl3
  have g1 : ¬ 9223372036854775807 < V.size + 1 := by omega
  have g2 : ¬ 9223372036854775807 < V.size + 1 + N.size := by omega
  have g3 : ¬ 9223372036854775807 < V.size + 1 + L2.length := by omega
  have g4 : ¬ 9223372036854775807 < V.size + 1 + L3.length := by omega
  have C1 := Lib.hid c1
  have C2 := Lib.hid c2
  have C3 := Lib.hid c3
  have HT := Lib.hid hT
  by_cases k1 : c.kind = 1
  · have t1 : (c.kind == 1) = true := by simpa using k1
    have hres : headB c = V ++ ⟨#[32]⟩ ++ N := by
      unfold headB headT; rw [if_pos k1, hV, hN]
      apply ByteArray.ext; apply Array.toList_inj.1
      simp [ByteArray.data_append, nameB2]
    rw [hres]
    clear c1 c2 c3 hT hres hV hN hL2 hL3 r1 r2 n1 n2 hn hnd hj hk hns hl2 hl3 hvs l1 l2 m1 m2 k1
    go_enter Tryz.func19, Tryz.ntmps19
    go_wp2_with (first
      | (go_at_call 43; go_loud ((with_reducible refine (C1.out _ (HT.out.later (Base.bel_))).mono ?_); rintro e w1 ⟨rfl, p1⟩))
      | fail)
    go_ret
    exact ⟨rfl, Base.bel_⟩
  have t1 : (c.kind == 1) = false := by simpa using k1
  by_cases k7 : c.kind = 7 ∨ c.kind = 8 ∨ c.kind = 9
  · have hres : headB c = V ++ ⟨#[32]⟩ ++ ⟨L2.toArray⟩ := by
      unfold headB headT; rw [if_neg k1, if_pos k7, hV, hL2]
      apply ByteArray.ext; apply Array.toList_inj.1
      simp [ByteArray.data_append]
    rw [hres]
    have tt : ((c.kind == 7) = true) ∨ ((c.kind == 7) = false ∧ (c.kind == 8) = true) ∨ ((c.kind == 7) = false ∧ (c.kind == 8) = false ∧ (c.kind == 9) = true) := by
      rcases k7 with k | k | k <;> simp [k]
    clear c1 c2 c3 hT hres hV hN hL2 hL3 r1 r2 n1 n2 hn hnd hj hk hns hl2 hl3 hvs l1 l2 m1 m2 k1 k7
    rcases tt with t7 | ⟨t7, t8⟩ | ⟨t7, t8, t9⟩
    all_goals
      go_enter Tryz.func19, Tryz.ntmps19
      go_wp2_with (first
        | (go_at_call 44; go_loud ((with_reducible refine (C2.out _ (HT.out.later (Base.bel_)).hours).mono ?_); rintro e w1 ⟨rfl, p1⟩))
        | fail)
      go_ret
      exact ⟨rfl, Base.bel_⟩
  have t7 : (c.kind == 7) = false := by simp; omega
  have t8 : (c.kind == 8) = false := by simp; omega
  have t9 : (c.kind == 9) = false := by simp; omega
  by_cases kj : c.job = 0
  · have hres : headB c = V := by
      unfold headB headT; rw [if_neg k1, if_neg k7, if_neg (by rw [kj]; simp), hV]
      apply ByteArray.ext; apply Array.toList_inj.1
      simp
    rw [hres]
    have tj : (c.job != 0) = false := by simp [kj]
    clear c1 c2 c3 hT hres hV hN hL2 hL3 r1 r2 n1 n2 hn hnd hj hk hns hl2 hl3 hvs l1 l2 m1 m2 k1 k7 kj
    go_enter Tryz.func19, Tryz.ntmps19
    go_wp2_with (first
      | fail)
    go_ret
    exact ⟨rfl, Base.bel_⟩
  · have hres : headB c = V ++ ⟨#[32]⟩ ++ ⟨L3.toArray⟩ := by
      unfold headB headT; rw [if_neg k1, if_neg k7, if_pos kj, hV, hL3]
      apply ByteArray.ext; apply Array.toList_inj.1
      simp [ByteArray.data_append]
    rw [hres]
    have tj : (c.job != 0) = true := by simp [kj]
    clear c1 c2 c3 hT hres hV hN hL2 hL3 r1 r2 n1 n2 hn hnd hj hk hns hl2 hl3 hvs l1 l2 m1 m2 k1 k7 kj
    go_enter Tryz.func19, Tryz.ntmps19
    go_wp2_with (first
      | (go_at_call 44; go_loud ((with_reducible refine (C3.out _ (HT.out.later (Base.bel_)).hours).mono ?_); rintro e w1 ⟨rfl, p1⟩))
      | fail)
    go_ret
    exact ⟨rfl, Base.bel_⟩
end Go.Proofs.YtdkngidangfkiaaGreatDoor.Cmd
