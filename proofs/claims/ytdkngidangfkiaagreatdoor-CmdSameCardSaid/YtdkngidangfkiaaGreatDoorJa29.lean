/-
  Joined out of: The round of what writes a command: one field written.
-/
import Derived.Test.YtdkngidangfkiaaGreatDoorJa28
import Derived.Test.YtdkngidangfkiaaGreatDoorJa27
import Derived.Shelf.Strings.BuilderF
namespace Go.Proofs.YtdkngidangfkiaaGreatDoor.Cmd
open Go.RowKit
open Base
open HoursLib (BldR Kept)
set_option linter.unusedVariables false
set_option linter.unusedSimpArgs false
theorem len_r (w w1 : World) (B b : Nat) (l : List UInt8) (h : BldR w B b l w1) :
    Calls Tryz.prog 21 #[.pointer (some ⟨b, 0, none⟩)] w1 fun e w' => e = .returned (.int .i64 (l.length : Int)) ∧ w' = w1 := by
  refine (Any.Builder_Len_f LexBld.lays170 B b _ w1 h.1).mono ?_
  rintro e w' ⟨rfl, h2⟩
  exact ⟨by rw [Lib.byteCells_length], h2⟩
theorem kept_below {w w' : World} (b : Nat) (h : Below w.heap.size w w') : Kept b w w' := fun k o hk _ _ => (h.block k (Array.getElem?_eq_some_iff.1 hk).1).trans hk
theorem val_short (v : Vl) (hf : vlFit v) (hw : ∀ s, v = .word s → s.size ≤ 1000) : (valT v).length ≤ 1000 := by
  cases v with
  | word s => have := hw s rfl; simp only [valT]; rw [← Lib.size_eq]; omega
  | num n => have := num_short n hf; simp only [valT]; omega
  | id n => have := num_short n hf; simp only [valT]; omega
  | tk n => have := tim_short n; simp only [valT]; omega
  | opt a b => have := num_short a hf; have := tim_short b; simp only [valT, List.length_append, List.length_cons]; omega
  | span a b => have := num_short a hf.1; have := num_short b hf.2; simp only [valT, List.length_append, List.length_cons]; omega
theorem pair_cells0 {W : World} {B : Nat} {x y : Value} {T : TypeId} (h : W.heap[B]? = some (.cells #[x, y] T)) : W.cell? ⟨B, 0, none⟩ = some x ∧ W.cell? ⟨B, 1, none⟩ = some y := by simp [World.cell?, h]
noncomputable def show9C : Code := ((Tryz.f9.body.bind (codeAt 9)).getD .skip)
set_option maxRecDepth 100000 in
set_option maxHeartbeats 2000000 in
theorem show_r9 (u : World) (B b f : Nat) (l : List UInt8) (s : ByteArray) (v : Vl) (wr : World) (hB : BldR u B b l wr) (hf : wr.heap[f]? = some (.cells #[.string s, vlV v] 57)) (hbf : f ≠ b) (hT : Tb wr)
    (hs : s.size ≤ 1000) (hv : vlFit v) (hw : ∀ x, v = .word x → x.size ≤ 1000) (hl : l.length ≤ 1000000)
    (t0 t1 t2 t3 t4 t6 t8 t9 t10 t11 t12 t13 t14 t15 t16 t17 t18 t19 t20 t21 t22 t23 t24 t25 t26 t27 t28 t29 t30 t31 t32 t33 t34 t35 : Value) (Q : Exit → Act → World → Prop) (hP : ∀ c a (d : Tmp) v w, Q (.panic c) (Act.put a (some d) v) w → Q (.panic c) a w)
    (hQ : ∀ (W' : World) (u23 u24 u25 u26 u27 u28 u29 u30 u31 : Value), BldR u B b (l ++ fdT (s, v)) W' → Kept b wr W' → Q .normal ⟨#[t0, t1, t2, t3, t4, .pointer (some ⟨b, 0, none⟩), t6, .pointer (some ⟨f, 0, none⟩), t8, t9, t10, t11, t12, t13, t14, t15, t16, t17, t18, t19, t20, t21, t22, u23, u24, u25, u26, u27, u28, u29, u30, u31, t32, t33, t34, t35], []⟩ W') :
    Code.wp Tryz.prog show9C Q ⟨#[t0, t1, t2, t3, t4, .pointer (some ⟨b, 0, none⟩), t6, .pointer (some ⟨f, 0, none⟩), t8, t9, t10, t11, t12, t13, t14, t15, t16, t17, t18, t19, t20, t21, t22, t23, t24, t25, t26, t27, t28, t29, t30, t31, t32, t33, t34, t35], []⟩ wr := by
  have hvs := val_short v hv hw
  obtain ⟨L, hL⟩ : ∃ L, L = valT v := ⟨_, rfl⟩
  have hfd : fdT (s, v) = (⟨#[32]⟩ ++ s ++ ⟨#[61]⟩ ++ (⟨L.toArray⟩ : ByteArray)).data.toList := by
    unfold fdT; rw [hL]; simp [ByteArray.data_append]
  rw [hfd] at hQ
  rw [← hL] at hvs
  have g1 : ¬ 9223372036854775807 < 1 + s.size := by omega
  have g2 : ¬ 9223372036854775807 < 1 + s.size + 1 := by omega
  have g3 : ¬ 9223372036854775807 < 1 + s.size + 1 + L.length := by omega
  have hsz : (⟨#[32]⟩ ++ s ++ ⟨#[61]⟩ ++ (⟨L.toArray⟩ : ByteArray)).size ≤ 10000 := by
    simp only [ByteArray.size_append]
    have h1 : (⟨#[32]⟩ : ByteArray).size = 1 := rfl
    have h2 : (⟨#[61]⟩ : ByteArray).size = 1 := rfl
    have h3 : (⟨L.toArray⟩ : ByteArray).size = L.length := by rw [Lib.size_eq]
    omega
  obtain ⟨X, hX⟩ : ∃ X : ByteArray, X = ⟨#[32]⟩ ++ s ++ ⟨#[61]⟩ ++ (⟨L.toArray⟩ : ByteArray) := ⟨_, rfl⟩
  rw [← hX] at hQ hsz
  have hb1 : Below wr.heap.size wr wr.drew := (Below.refl wr.heap.size wr).drew
  have hflt : f < wr.heap.size := (Array.getElem?_eq_some_iff.1 hf).1
  have HQ := Lib.hid hQ
  have HX := Lib.hid hX
  have HB := Lib.hid hB
  have HF := Lib.hid hf
  have HT := Lib.hid hT
  have HW := Lib.hid hw
  have HL := Lib.hid hL
  have HSZ := Lib.hid hsz
  have HV := Lib.hid hv
  clear hQ hX hB hT hw hsz hfd hf hv hL
  cases v with
  | word x =>
    have hm : ∀ W, (method 352 83 (.string x) "muster/cmd.text").run Tryz.prog W = .ok (237, .string x) W := fun W => by kernel_rfl
    have c1 := Lib.hid (fun w (hT : Tb w) => text_word x w)
    have e1 : Hid ((⟨L.toArray⟩ : ByteArray) = x) := Lib.hid (by rw [HL.out]; rfl)
    unfold vlV at HF
    conv => arg 2; whnf
    refine wp_region_held_drew (S := fun W => W.heap[f]? = some (.cells #[.string s, .iface 83 (.string x)] 57)) (by kernel_rfl) (HF.out) (fun hHeld => ?_)
    refine takeL (i := 0) (v := ?_) rfl (by kernel_rfl) (by kernel_rfl) (by kernel_rfl) (by first | exact fun c a w h => hP c a _ _ w h | exact fun _ _ _ h => h) (Or.inl ⟨by rfl, ?_⟩) (by assumption) ?_
    rotate_left
    · intro W hS; go_simp; (try with_reducible rfl)
    simp only [Act.put, List.setIfInBounds_toArray, List.set_cons_zero, List.set_cons_succ]
    refine takeL (i := 1) (v := ?_) rfl (by kernel_rfl) (by kernel_rfl) (by kernel_rfl) (by first | exact fun c a w h => hP c a _ _ w h | exact fun _ _ _ h => h) (Or.inl ⟨by rfl, ?_⟩) (by assumption) ?_
    rotate_left
    · intro W hS; have := (pair_cells0 hS).1; go_simp; (try with_reducible rfl)
    simp only [Act.put, List.setIfInBounds_toArray, List.set_cons_zero, List.set_cons_succ]
    refine takeL (i := 2) (v := ?_) rfl (by kernel_rfl) (by kernel_rfl) (by kernel_rfl) (by first | exact fun c a w h => hP c a _ _ w h | exact fun _ _ _ h => h) (Or.inl ⟨by rfl, ?_⟩) (by assumption) ?_
    rotate_left
    · intro W hS; go_simp; (try with_reducible rfl)
    simp only [Act.put, List.setIfInBounds_toArray, List.set_cons_zero, List.set_cons_succ]
    refine takeL (i := 3) (v := ?_) rfl (by kernel_rfl) (by kernel_rfl) (by kernel_rfl) (by first | exact fun c a w h => hP c a _ _ w h | exact fun _ _ _ h => h) (Or.inl ⟨by rfl, ?_⟩) (by assumption) ?_
    rotate_left
    · intro W hS; go_simp; (try with_reducible rfl)
    simp only [Act.put, List.setIfInBounds_toArray, List.set_cons_zero, List.set_cons_succ]
    refine takeL (i := 4) (v := ?_) rfl (by kernel_rfl) (by kernel_rfl) (by kernel_rfl) (by first | exact fun c a w h => hP c a _ _ w h | exact fun _ _ _ h => h) (Or.inl ⟨by rfl, ?_⟩) (by assumption) ?_
    rotate_left
    · intro W hS; go_simp; (try with_reducible rfl)
    simp only [Act.put, List.setIfInBounds_toArray, List.set_cons_zero, List.set_cons_succ]
    refine takeL (i := 5) (v := ?_) rfl (by kernel_rfl) (by kernel_rfl) (by kernel_rfl) (by first | exact fun c a w h => hP c a _ _ w h | exact fun _ _ _ h => h) (Or.inl ⟨by rfl, ?_⟩) (by assumption) ?_
    rotate_left
    · intro W hS; have := (pair_cells0 hS).2; go_simp; (try with_reducible rfl)
    simp only [Act.put, List.setIfInBounds_toArray, List.set_cons_zero, List.set_cons_succ]
    refine wpAnyH_ready (rs := [6]) (by kernel_rfl) (by simp) ?_
    refine readyL rfl ?_ ?_
    rotate_left
    · exact AllReadyH.nil
    intro K hK
    go_simp
    go_wp2_with (first
      | (go_at_call 237; go_loud ((with_reducible refine (c1.out _ (HT.out.later hb1)).mono ?_); rw [← e1.out]; rintro e w1 ⟨rfl, p1⟩))
      | fail)
    have q1 : Below wr.heap.size wr w1 := hb1.trans p1
    refine hK.out _ _ ((q1.block f hflt).trans HF.out) (fun hNew => ?_)
    clear hK K
    replace hHeld := hNew
    clear hNew
    refine takeL (i := 7) (v := ?_) rfl (by kernel_rfl) (by kernel_rfl) (by kernel_rfl) (by first | exact fun c a w h => hP c a _ _ w h | exact fun _ _ _ h => h) (Or.inl ⟨by rfl, ?_⟩) (by assumption) ?_
    rotate_left
    · intro W hS; go_simp; (try with_reducible rfl)
    simp only [Act.put, List.setIfInBounds_toArray, List.set_cons_zero, List.set_cons_succ]
    refine wpAnyH_ready (rs := [8]) (by kernel_rfl) (by simp) ?_
    refine readyL rfl ?_ ?_
    rotate_left
    · exact AllReadyH.nil
    intro K hK
    go_simp
    rw [← HX.out]
    go_wp2_with (first
      | (go_at_call 18; go_loud ((with_reducible refine (HoursLib.writeString_r u w1 B b l X (HB.out.below q1) (by have := HSZ.out; omega)).mono ?_); rintro e w2 ⟨rfl, r2, k2⟩))
      | fail)
    refine hK.out _ _ (k2 f _ ((q1.block f hflt).trans HF.out) (by intro e; injection e with e; exact hbf e) (by intro c fz e; injection e with _ e; revert e; decide)) (fun hNew => ?_)
    clear hK K
    replace hHeld := hNew
    clear hNew
    refine wpAnyH_done (by kernel_rfl) ?_ _
    exact HQ.out _ _ _ _ _ _ _ _ _ _ r2 ((kept_below b q1).trans k2)
  | num n =>
    have hm : ∀ W, (method 352 84 (.int .i64 n) "muster/cmd.text").run Tryz.prog W = .ok (238, .int .i64 n) W := fun W => by kernel_rfl
    have c1 := Lib.hid (fun w (hT : Tb w) => text_num n HV.out w hT)
    have e1 : Hid ((⟨L.toArray⟩ : ByteArray) = ⟨(numT n).toArray⟩) := Lib.hid (by rw [HL.out]; rfl)
    unfold vlV at HF
    conv => arg 2; whnf
    refine wp_region_held_drew (S := fun W => W.heap[f]? = some (.cells #[.string s, .iface 84 (.int .i64 n)] 57)) (by kernel_rfl) (HF.out) (fun hHeld => ?_)
    refine takeL (i := 0) (v := ?_) rfl (by kernel_rfl) (by kernel_rfl) (by kernel_rfl) (by first | exact fun c a w h => hP c a _ _ w h | exact fun _ _ _ h => h) (Or.inl ⟨by rfl, ?_⟩) (by assumption) ?_
    rotate_left
    · intro W hS; go_simp; (try with_reducible rfl)
    simp only [Act.put, List.setIfInBounds_toArray, List.set_cons_zero, List.set_cons_succ]
    refine takeL (i := 1) (v := ?_) rfl (by kernel_rfl) (by kernel_rfl) (by kernel_rfl) (by first | exact fun c a w h => hP c a _ _ w h | exact fun _ _ _ h => h) (Or.inl ⟨by rfl, ?_⟩) (by assumption) ?_
    rotate_left
    · intro W hS; have := (pair_cells0 hS).1; go_simp; (try with_reducible rfl)
    simp only [Act.put, List.setIfInBounds_toArray, List.set_cons_zero, List.set_cons_succ]
    refine takeL (i := 2) (v := ?_) rfl (by kernel_rfl) (by kernel_rfl) (by kernel_rfl) (by first | exact fun c a w h => hP c a _ _ w h | exact fun _ _ _ h => h) (Or.inl ⟨by rfl, ?_⟩) (by assumption) ?_
    rotate_left
    · intro W hS; go_simp; (try with_reducible rfl)
    simp only [Act.put, List.setIfInBounds_toArray, List.set_cons_zero, List.set_cons_succ]
    refine takeL (i := 3) (v := ?_) rfl (by kernel_rfl) (by kernel_rfl) (by kernel_rfl) (by first | exact fun c a w h => hP c a _ _ w h | exact fun _ _ _ h => h) (Or.inl ⟨by rfl, ?_⟩) (by assumption) ?_
    rotate_left
    · intro W hS; go_simp; (try with_reducible rfl)
    simp only [Act.put, List.setIfInBounds_toArray, List.set_cons_zero, List.set_cons_succ]
    refine takeL (i := 4) (v := ?_) rfl (by kernel_rfl) (by kernel_rfl) (by kernel_rfl) (by first | exact fun c a w h => hP c a _ _ w h | exact fun _ _ _ h => h) (Or.inl ⟨by rfl, ?_⟩) (by assumption) ?_
    rotate_left
    · intro W hS; go_simp; (try with_reducible rfl)
    simp only [Act.put, List.setIfInBounds_toArray, List.set_cons_zero, List.set_cons_succ]
    refine takeL (i := 5) (v := ?_) rfl (by kernel_rfl) (by kernel_rfl) (by kernel_rfl) (by first | exact fun c a w h => hP c a _ _ w h | exact fun _ _ _ h => h) (Or.inl ⟨by rfl, ?_⟩) (by assumption) ?_
    rotate_left
    · intro W hS; have := (pair_cells0 hS).2; go_simp; (try with_reducible rfl)
    simp only [Act.put, List.setIfInBounds_toArray, List.set_cons_zero, List.set_cons_succ]
    refine wpAnyH_ready (rs := [6]) (by kernel_rfl) (by simp) ?_
    refine readyL rfl ?_ ?_
    rotate_left
    · exact AllReadyH.nil
    intro K hK
    go_simp
    go_wp2_with (first
      | (go_at_call 238; go_loud ((with_reducible refine (c1.out _ (HT.out.later hb1)).mono ?_); rw [← e1.out]; rintro e w1 ⟨rfl, p1⟩))
      | fail)
    have q1 : Below wr.heap.size wr w1 := hb1.trans p1
    refine hK.out _ _ ((q1.block f hflt).trans HF.out) (fun hNew => ?_)
    clear hK K
    replace hHeld := hNew
    clear hNew
    refine takeL (i := 7) (v := ?_) rfl (by kernel_rfl) (by kernel_rfl) (by kernel_rfl) (by first | exact fun c a w h => hP c a _ _ w h | exact fun _ _ _ h => h) (Or.inl ⟨by rfl, ?_⟩) (by assumption) ?_
    rotate_left
    · intro W hS; go_simp; (try with_reducible rfl)
    simp only [Act.put, List.setIfInBounds_toArray, List.set_cons_zero, List.set_cons_succ]
    refine wpAnyH_ready (rs := [8]) (by kernel_rfl) (by simp) ?_
    refine readyL rfl ?_ ?_
    rotate_left
    · exact AllReadyH.nil
    intro K hK
    go_simp
    rw [← HX.out]
    go_wp2_with (first
      | (go_at_call 18; go_loud ((with_reducible refine (HoursLib.writeString_r u w1 B b l X (HB.out.below q1) (by have := HSZ.out; omega)).mono ?_); rintro e w2 ⟨rfl, r2, k2⟩))
      | fail)
    refine hK.out _ _ (k2 f _ ((q1.block f hflt).trans HF.out) (by intro e; injection e with e; exact hbf e) (by intro c fz e; injection e with _ e; revert e; decide)) (fun hNew => ?_)
    clear hK K
    replace hHeld := hNew
    clear hNew
    refine wpAnyH_done (by kernel_rfl) ?_ _
    exact HQ.out _ _ _ _ _ _ _ _ _ _ r2 ((kept_below b q1).trans k2)
  | id n =>
    have hm : ∀ W, (method 352 86 (.int .i64 n) "muster/cmd.text").run Tryz.prog W = .ok (239, .int .i64 n) W := fun W => by kernel_rfl
    have c1 := Lib.hid (fun w (hT : Tb w) => text_id n HV.out w hT)
    have e1 : Hid ((⟨L.toArray⟩ : ByteArray) = ⟨(numT n).toArray⟩) := Lib.hid (by rw [HL.out]; rfl)
    unfold vlV at HF
    conv => arg 2; whnf
    refine wp_region_held_drew (S := fun W => W.heap[f]? = some (.cells #[.string s, .iface 86 (.int .i64 n)] 57)) (by kernel_rfl) (HF.out) (fun hHeld => ?_)
    refine takeL (i := 0) (v := ?_) rfl (by kernel_rfl) (by kernel_rfl) (by kernel_rfl) (by first | exact fun c a w h => hP c a _ _ w h | exact fun _ _ _ h => h) (Or.inl ⟨by rfl, ?_⟩) (by assumption) ?_
    rotate_left
    · intro W hS; go_simp; (try with_reducible rfl)
    simp only [Act.put, List.setIfInBounds_toArray, List.set_cons_zero, List.set_cons_succ]
    refine takeL (i := 1) (v := ?_) rfl (by kernel_rfl) (by kernel_rfl) (by kernel_rfl) (by first | exact fun c a w h => hP c a _ _ w h | exact fun _ _ _ h => h) (Or.inl ⟨by rfl, ?_⟩) (by assumption) ?_
    rotate_left
    · intro W hS; have := (pair_cells0 hS).1; go_simp; (try with_reducible rfl)
    simp only [Act.put, List.setIfInBounds_toArray, List.set_cons_zero, List.set_cons_succ]
    refine takeL (i := 2) (v := ?_) rfl (by kernel_rfl) (by kernel_rfl) (by kernel_rfl) (by first | exact fun c a w h => hP c a _ _ w h | exact fun _ _ _ h => h) (Or.inl ⟨by rfl, ?_⟩) (by assumption) ?_
    rotate_left
    · intro W hS; go_simp; (try with_reducible rfl)
    simp only [Act.put, List.setIfInBounds_toArray, List.set_cons_zero, List.set_cons_succ]
    refine takeL (i := 3) (v := ?_) rfl (by kernel_rfl) (by kernel_rfl) (by kernel_rfl) (by first | exact fun c a w h => hP c a _ _ w h | exact fun _ _ _ h => h) (Or.inl ⟨by rfl, ?_⟩) (by assumption) ?_
    rotate_left
    · intro W hS; go_simp; (try with_reducible rfl)
    simp only [Act.put, List.setIfInBounds_toArray, List.set_cons_zero, List.set_cons_succ]
    refine takeL (i := 4) (v := ?_) rfl (by kernel_rfl) (by kernel_rfl) (by kernel_rfl) (by first | exact fun c a w h => hP c a _ _ w h | exact fun _ _ _ h => h) (Or.inl ⟨by rfl, ?_⟩) (by assumption) ?_
    rotate_left
    · intro W hS; go_simp; (try with_reducible rfl)
    simp only [Act.put, List.setIfInBounds_toArray, List.set_cons_zero, List.set_cons_succ]
    refine takeL (i := 5) (v := ?_) rfl (by kernel_rfl) (by kernel_rfl) (by kernel_rfl) (by first | exact fun c a w h => hP c a _ _ w h | exact fun _ _ _ h => h) (Or.inl ⟨by rfl, ?_⟩) (by assumption) ?_
    rotate_left
    · intro W hS; have := (pair_cells0 hS).2; go_simp; (try with_reducible rfl)
    simp only [Act.put, List.setIfInBounds_toArray, List.set_cons_zero, List.set_cons_succ]
    refine wpAnyH_ready (rs := [6]) (by kernel_rfl) (by simp) ?_
    refine readyL rfl ?_ ?_
    rotate_left
    · exact AllReadyH.nil
    intro K hK
    go_simp
    go_wp2_with (first
      | (go_at_call 239; go_loud ((with_reducible refine (c1.out _ (HT.out.later hb1)).mono ?_); rw [← e1.out]; rintro e w1 ⟨rfl, p1⟩))
      | fail)
    have q1 : Below wr.heap.size wr w1 := hb1.trans p1
    refine hK.out _ _ ((q1.block f hflt).trans HF.out) (fun hNew => ?_)
    clear hK K
    replace hHeld := hNew
    clear hNew
    refine takeL (i := 7) (v := ?_) rfl (by kernel_rfl) (by kernel_rfl) (by kernel_rfl) (by first | exact fun c a w h => hP c a _ _ w h | exact fun _ _ _ h => h) (Or.inl ⟨by rfl, ?_⟩) (by assumption) ?_
    rotate_left
    · intro W hS; go_simp; (try with_reducible rfl)
    simp only [Act.put, List.setIfInBounds_toArray, List.set_cons_zero, List.set_cons_succ]
    refine wpAnyH_ready (rs := [8]) (by kernel_rfl) (by simp) ?_
    refine readyL rfl ?_ ?_
    rotate_left
    · exact AllReadyH.nil
    intro K hK
    go_simp
    rw [← HX.out]
    go_wp2_with (first
      | (go_at_call 18; go_loud ((with_reducible refine (HoursLib.writeString_r u w1 B b l X (HB.out.below q1) (by have := HSZ.out; omega)).mono ?_); rintro e w2 ⟨rfl, r2, k2⟩))
      | fail)
    refine hK.out _ _ (k2 f _ ((q1.block f hflt).trans HF.out) (by intro e; injection e with e; exact hbf e) (by intro c fz e; injection e with _ e; revert e; decide)) (fun hNew => ?_)
    clear hK K
    replace hHeld := hNew
    clear hNew
    refine wpAnyH_done (by kernel_rfl) ?_ _
    exact HQ.out _ _ _ _ _ _ _ _ _ _ r2 ((kept_below b q1).trans k2)
  | tk n =>
    have hm : ∀ W, (method 352 92 (.int .i64 n) "muster/cmd.text").run Tryz.prog W = .ok (241, .int .i64 n) W := fun W => by kernel_rfl
    have c1 := Lib.hid (fun w (hT : Tb w) => text_tk n w hT)
    have e1 : Hid ((⟨L.toArray⟩ : ByteArray) = Hours.shB n) := Lib.hid (by rw [HL.out]; rfl)
    unfold vlV at HF
    conv => arg 2; whnf
    refine wp_region_held_drew (S := fun W => W.heap[f]? = some (.cells #[.string s, .iface 92 (.int .i64 n)] 57)) (by kernel_rfl) (HF.out) (fun hHeld => ?_)
    refine takeL (i := 0) (v := ?_) rfl (by kernel_rfl) (by kernel_rfl) (by kernel_rfl) (by first | exact fun c a w h => hP c a _ _ w h | exact fun _ _ _ h => h) (Or.inl ⟨by rfl, ?_⟩) (by assumption) ?_
    rotate_left
    · intro W hS; go_simp; (try with_reducible rfl)
    simp only [Act.put, List.setIfInBounds_toArray, List.set_cons_zero, List.set_cons_succ]
    refine takeL (i := 1) (v := ?_) rfl (by kernel_rfl) (by kernel_rfl) (by kernel_rfl) (by first | exact fun c a w h => hP c a _ _ w h | exact fun _ _ _ h => h) (Or.inl ⟨by rfl, ?_⟩) (by assumption) ?_
    rotate_left
    · intro W hS; have := (pair_cells0 hS).1; go_simp; (try with_reducible rfl)
    simp only [Act.put, List.setIfInBounds_toArray, List.set_cons_zero, List.set_cons_succ]
    refine takeL (i := 2) (v := ?_) rfl (by kernel_rfl) (by kernel_rfl) (by kernel_rfl) (by first | exact fun c a w h => hP c a _ _ w h | exact fun _ _ _ h => h) (Or.inl ⟨by rfl, ?_⟩) (by assumption) ?_
    rotate_left
    · intro W hS; go_simp; (try with_reducible rfl)
    simp only [Act.put, List.setIfInBounds_toArray, List.set_cons_zero, List.set_cons_succ]
    refine takeL (i := 3) (v := ?_) rfl (by kernel_rfl) (by kernel_rfl) (by kernel_rfl) (by first | exact fun c a w h => hP c a _ _ w h | exact fun _ _ _ h => h) (Or.inl ⟨by rfl, ?_⟩) (by assumption) ?_
    rotate_left
    · intro W hS; go_simp; (try with_reducible rfl)
    simp only [Act.put, List.setIfInBounds_toArray, List.set_cons_zero, List.set_cons_succ]
    refine takeL (i := 4) (v := ?_) rfl (by kernel_rfl) (by kernel_rfl) (by kernel_rfl) (by first | exact fun c a w h => hP c a _ _ w h | exact fun _ _ _ h => h) (Or.inl ⟨by rfl, ?_⟩) (by assumption) ?_
    rotate_left
    · intro W hS; go_simp; (try with_reducible rfl)
    simp only [Act.put, List.setIfInBounds_toArray, List.set_cons_zero, List.set_cons_succ]
    refine takeL (i := 5) (v := ?_) rfl (by kernel_rfl) (by kernel_rfl) (by kernel_rfl) (by first | exact fun c a w h => hP c a _ _ w h | exact fun _ _ _ h => h) (Or.inl ⟨by rfl, ?_⟩) (by assumption) ?_
    rotate_left
    · intro W hS; have := (pair_cells0 hS).2; go_simp; (try with_reducible rfl)
    simp only [Act.put, List.setIfInBounds_toArray, List.set_cons_zero, List.set_cons_succ]
    refine wpAnyH_ready (rs := [6]) (by kernel_rfl) (by simp) ?_
    refine readyL rfl ?_ ?_
    rotate_left
    · exact AllReadyH.nil
    intro K hK
    go_simp
    go_wp2_with (first
      | (go_at_call 241; go_loud ((with_reducible refine (c1.out _ (HT.out.later hb1)).mono ?_); rw [← e1.out]; rintro e w1 ⟨rfl, p1⟩))
      | fail)
    have q1 : Below wr.heap.size wr w1 := hb1.trans p1
    refine hK.out _ _ ((q1.block f hflt).trans HF.out) (fun hNew => ?_)
    clear hK K
    replace hHeld := hNew
    clear hNew
    refine takeL (i := 7) (v := ?_) rfl (by kernel_rfl) (by kernel_rfl) (by kernel_rfl) (by first | exact fun c a w h => hP c a _ _ w h | exact fun _ _ _ h => h) (Or.inl ⟨by rfl, ?_⟩) (by assumption) ?_
    rotate_left
    · intro W hS; go_simp; (try with_reducible rfl)
    simp only [Act.put, List.setIfInBounds_toArray, List.set_cons_zero, List.set_cons_succ]
    refine wpAnyH_ready (rs := [8]) (by kernel_rfl) (by simp) ?_
    refine readyL rfl ?_ ?_
    rotate_left
    · exact AllReadyH.nil
    intro K hK
    go_simp
    rw [← HX.out]
    go_wp2_with (first
      | (go_at_call 18; go_loud ((with_reducible refine (HoursLib.writeString_r u w1 B b l X (HB.out.below q1) (by have := HSZ.out; omega)).mono ?_); rintro e w2 ⟨rfl, r2, k2⟩))
      | fail)
    refine hK.out _ _ (k2 f _ ((q1.block f hflt).trans HF.out) (by intro e; injection e with e; exact hbf e) (by intro c fz e; injection e with _ e; revert e; decide)) (fun hNew => ?_)
    clear hK K
    replace hHeld := hNew
    clear hNew
    refine wpAnyH_done (by kernel_rfl) ?_ _
    exact HQ.out _ _ _ _ _ _ _ _ _ _ r2 ((kept_below b q1).trans k2)
  | opt p q =>
    have hm : ∀ W, (method 352 89 (.agg #[.int .i64 p, .int .i64 q]) "muster/cmd.text").run Tryz.prog W = .ok (240, .agg #[.int .i64 p, .int .i64 q]) W := fun W => by kernel_rfl
    have c1 := Lib.hid (fun w (hT : Tb w) => text_opt p q HV.out w hT)
    have e1 : Hid ((⟨L.toArray⟩ : ByteArray) = vlB (.opt p q)) := Lib.hid (by rw [HL.out]; rfl)
    unfold vlV at HF
    conv => arg 2; whnf
    refine wp_region_held_drew (S := fun W => W.heap[f]? = some (.cells #[.string s, .iface 89 (.agg #[.int .i64 p, .int .i64 q])] 57)) (by kernel_rfl) (HF.out) (fun hHeld => ?_)
    refine takeL (i := 0) (v := ?_) rfl (by kernel_rfl) (by kernel_rfl) (by kernel_rfl) (by first | exact fun c a w h => hP c a _ _ w h | exact fun _ _ _ h => h) (Or.inl ⟨by rfl, ?_⟩) (by assumption) ?_
    rotate_left
    · intro W hS; go_simp; (try with_reducible rfl)
    simp only [Act.put, List.setIfInBounds_toArray, List.set_cons_zero, List.set_cons_succ]
    refine takeL (i := 1) (v := ?_) rfl (by kernel_rfl) (by kernel_rfl) (by kernel_rfl) (by first | exact fun c a w h => hP c a _ _ w h | exact fun _ _ _ h => h) (Or.inl ⟨by rfl, ?_⟩) (by assumption) ?_
    rotate_left
    · intro W hS; have := (pair_cells0 hS).1; go_simp; (try with_reducible rfl)
    simp only [Act.put, List.setIfInBounds_toArray, List.set_cons_zero, List.set_cons_succ]
    refine takeL (i := 2) (v := ?_) rfl (by kernel_rfl) (by kernel_rfl) (by kernel_rfl) (by first | exact fun c a w h => hP c a _ _ w h | exact fun _ _ _ h => h) (Or.inl ⟨by rfl, ?_⟩) (by assumption) ?_
    rotate_left
    · intro W hS; go_simp; (try with_reducible rfl)
    simp only [Act.put, List.setIfInBounds_toArray, List.set_cons_zero, List.set_cons_succ]
    refine takeL (i := 3) (v := ?_) rfl (by kernel_rfl) (by kernel_rfl) (by kernel_rfl) (by first | exact fun c a w h => hP c a _ _ w h | exact fun _ _ _ h => h) (Or.inl ⟨by rfl, ?_⟩) (by assumption) ?_
    rotate_left
    · intro W hS; go_simp; (try with_reducible rfl)
    simp only [Act.put, List.setIfInBounds_toArray, List.set_cons_zero, List.set_cons_succ]
    refine takeL (i := 4) (v := ?_) rfl (by kernel_rfl) (by kernel_rfl) (by kernel_rfl) (by first | exact fun c a w h => hP c a _ _ w h | exact fun _ _ _ h => h) (Or.inl ⟨by rfl, ?_⟩) (by assumption) ?_
    rotate_left
    · intro W hS; go_simp; (try with_reducible rfl)
    simp only [Act.put, List.setIfInBounds_toArray, List.set_cons_zero, List.set_cons_succ]
    refine takeL (i := 5) (v := ?_) rfl (by kernel_rfl) (by kernel_rfl) (by kernel_rfl) (by first | exact fun c a w h => hP c a _ _ w h | exact fun _ _ _ h => h) (Or.inl ⟨by rfl, ?_⟩) (by assumption) ?_
    rotate_left
    · intro W hS; have := (pair_cells0 hS).2; go_simp; (try with_reducible rfl)
    simp only [Act.put, List.setIfInBounds_toArray, List.set_cons_zero, List.set_cons_succ]
    refine wpAnyH_ready (rs := [6]) (by kernel_rfl) (by simp) ?_
    refine readyL rfl ?_ ?_
    rotate_left
    · exact AllReadyH.nil
    intro K hK
    go_simp
    go_wp2_with (first
      | (go_at_call 240; go_loud ((with_reducible refine (c1.out _ (HT.out.later hb1)).mono ?_); rw [← e1.out]; rintro e w1 ⟨rfl, p1⟩))
      | fail)
    have q1 : Below wr.heap.size wr w1 := hb1.trans p1
    refine hK.out _ _ ((q1.block f hflt).trans HF.out) (fun hNew => ?_)
    clear hK K
    replace hHeld := hNew
    clear hNew
    refine takeL (i := 7) (v := ?_) rfl (by kernel_rfl) (by kernel_rfl) (by kernel_rfl) (by first | exact fun c a w h => hP c a _ _ w h | exact fun _ _ _ h => h) (Or.inl ⟨by rfl, ?_⟩) (by assumption) ?_
    rotate_left
    · intro W hS; go_simp; (try with_reducible rfl)
    simp only [Act.put, List.setIfInBounds_toArray, List.set_cons_zero, List.set_cons_succ]
    refine wpAnyH_ready (rs := [8]) (by kernel_rfl) (by simp) ?_
    refine readyL rfl ?_ ?_
    rotate_left
    · exact AllReadyH.nil
    intro K hK
    go_simp
    rw [← HX.out]
    go_wp2_with (first
      | (go_at_call 18; go_loud ((with_reducible refine (HoursLib.writeString_r u w1 B b l X (HB.out.below q1) (by have := HSZ.out; omega)).mono ?_); rintro e w2 ⟨rfl, r2, k2⟩))
      | fail)
    refine hK.out _ _ (k2 f _ ((q1.block f hflt).trans HF.out) (by intro e; injection e with e; exact hbf e) (by intro c fz e; injection e with _ e; revert e; decide)) (fun hNew => ?_)
    clear hK K
    replace hHeld := hNew
    clear hNew
    refine wpAnyH_done (by kernel_rfl) ?_ _
    exact HQ.out _ _ _ _ _ _ _ _ _ _ r2 ((kept_below b q1).trans k2)
  | span p q =>
    have hm : ∀ W, (method 352 91 (.agg #[.int .i64 p, .int .i64 q]) "muster/cmd.text").run Tryz.prog W = .ok (243, .agg #[.int .i64 p, .int .i64 q]) W := fun W => by kernel_rfl
    have c1 := Lib.hid (fun w (hT : Tb w) => text_span p q HV.out.1 HV.out.2 w hT)
    have e1 : Hid ((⟨L.toArray⟩ : ByteArray) = vlB (.span p q)) := Lib.hid (by rw [HL.out]; rfl)
    unfold vlV at HF
    conv => arg 2; whnf
    refine wp_region_held_drew (S := fun W => W.heap[f]? = some (.cells #[.string s, .iface 91 (.agg #[.int .i64 p, .int .i64 q])] 57)) (by kernel_rfl) (HF.out) (fun hHeld => ?_)
    refine takeL (i := 0) (v := ?_) rfl (by kernel_rfl) (by kernel_rfl) (by kernel_rfl) (by first | exact fun c a w h => hP c a _ _ w h | exact fun _ _ _ h => h) (Or.inl ⟨by rfl, ?_⟩) (by assumption) ?_
    rotate_left
    · intro W hS; go_simp; (try with_reducible rfl)
    simp only [Act.put, List.setIfInBounds_toArray, List.set_cons_zero, List.set_cons_succ]
    refine takeL (i := 1) (v := ?_) rfl (by kernel_rfl) (by kernel_rfl) (by kernel_rfl) (by first | exact fun c a w h => hP c a _ _ w h | exact fun _ _ _ h => h) (Or.inl ⟨by rfl, ?_⟩) (by assumption) ?_
    rotate_left
    · intro W hS; have := (pair_cells0 hS).1; go_simp; (try with_reducible rfl)
    simp only [Act.put, List.setIfInBounds_toArray, List.set_cons_zero, List.set_cons_succ]
    refine takeL (i := 2) (v := ?_) rfl (by kernel_rfl) (by kernel_rfl) (by kernel_rfl) (by first | exact fun c a w h => hP c a _ _ w h | exact fun _ _ _ h => h) (Or.inl ⟨by rfl, ?_⟩) (by assumption) ?_
    rotate_left
    · intro W hS; go_simp; (try with_reducible rfl)
    simp only [Act.put, List.setIfInBounds_toArray, List.set_cons_zero, List.set_cons_succ]
    refine takeL (i := 3) (v := ?_) rfl (by kernel_rfl) (by kernel_rfl) (by kernel_rfl) (by first | exact fun c a w h => hP c a _ _ w h | exact fun _ _ _ h => h) (Or.inl ⟨by rfl, ?_⟩) (by assumption) ?_
    rotate_left
    · intro W hS; go_simp; (try with_reducible rfl)
    simp only [Act.put, List.setIfInBounds_toArray, List.set_cons_zero, List.set_cons_succ]
    refine takeL (i := 4) (v := ?_) rfl (by kernel_rfl) (by kernel_rfl) (by kernel_rfl) (by first | exact fun c a w h => hP c a _ _ w h | exact fun _ _ _ h => h) (Or.inl ⟨by rfl, ?_⟩) (by assumption) ?_
    rotate_left
    · intro W hS; go_simp; (try with_reducible rfl)
    simp only [Act.put, List.setIfInBounds_toArray, List.set_cons_zero, List.set_cons_succ]
    refine takeL (i := 5) (v := ?_) rfl (by kernel_rfl) (by kernel_rfl) (by kernel_rfl) (by first | exact fun c a w h => hP c a _ _ w h | exact fun _ _ _ h => h) (Or.inl ⟨by rfl, ?_⟩) (by assumption) ?_
    rotate_left
    · intro W hS; have := (pair_cells0 hS).2; go_simp; (try with_reducible rfl)
    simp only [Act.put, List.setIfInBounds_toArray, List.set_cons_zero, List.set_cons_succ]
    refine wpAnyH_ready (rs := [6]) (by kernel_rfl) (by simp) ?_
    refine readyL rfl ?_ ?_
    rotate_left
    · exact AllReadyH.nil
    intro K hK
    go_simp
    go_wp2_with (first
      | (go_at_call 243; go_loud ((with_reducible refine (c1.out _ (HT.out.later hb1)).mono ?_); rw [← e1.out]; rintro e w1 ⟨rfl, p1⟩))
      | fail)
    have q1 : Below wr.heap.size wr w1 := hb1.trans p1
    refine hK.out _ _ ((q1.block f hflt).trans HF.out) (fun hNew => ?_)
    clear hK K
    replace hHeld := hNew
    clear hNew
    refine takeL (i := 7) (v := ?_) rfl (by kernel_rfl) (by kernel_rfl) (by kernel_rfl) (by first | exact fun c a w h => hP c a _ _ w h | exact fun _ _ _ h => h) (Or.inl ⟨by rfl, ?_⟩) (by assumption) ?_
    rotate_left
    · intro W hS; go_simp; (try with_reducible rfl)
    simp only [Act.put, List.setIfInBounds_toArray, List.set_cons_zero, List.set_cons_succ]
    refine wpAnyH_ready (rs := [8]) (by kernel_rfl) (by simp) ?_
    refine readyL rfl ?_ ?_
    rotate_left
    · exact AllReadyH.nil
    intro K hK
    go_simp
    rw [← HX.out]
    go_wp2_with (first
      | (go_at_call 18; go_loud ((with_reducible refine (HoursLib.writeString_r u w1 B b l X (HB.out.below q1) (by have := HSZ.out; omega)).mono ?_); rintro e w2 ⟨rfl, r2, k2⟩))
      | fail)
    refine hK.out _ _ (k2 f _ ((q1.block f hflt).trans HF.out) (by intro e; injection e with e; exact hbf e) (by intro c fz e; injection e with _ e; revert e; decide)) (fun hNew => ?_)
    clear hK K
    replace hHeld := hNew
    clear hNew
    refine wpAnyH_done (by kernel_rfl) ?_ _
    exact HQ.out _ _ _ _ _ _ _ _ _ _ r2 ((kept_below b q1).trans k2)
end Go.Proofs.YtdkngidangfkiaaGreatDoor.Cmd
