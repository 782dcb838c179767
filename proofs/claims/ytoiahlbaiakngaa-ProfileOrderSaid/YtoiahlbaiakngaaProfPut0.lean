/-
  The walk of the document's own put, of nothing; and of whatever row.
-/
import Derived.Test.YtoiahlbaiakngaaProfPut
namespace Go.Proofs.Ytoiahlbaiakngaa.Prof
open Go.RowKit
open Base
set_option linter.unusedVariables false
set_option linter.unusedSimpArgs false

set_option maxRecDepth 100000 in
set_option maxHeartbeats 4000000 in
theorem put_region0 (n : Int) (w : World)
    (t2 t3 t4 t6 t7 t8 t9 t10 t11 t12 t13 t14 t15 t16 t17 t18 t19 t20 t21 t22 t23 t24 t25 t26 t27 t28 t29 t30 t31 t32 t33 t34 t35 t36 t37 t38 t39 t40 t41 t42 t43 t44 : Value)
    (Q : Exit → Act → World → Prop) (hP : ∀ c a (d : Tmp) v w, Q (.panic c) (Act.put a (some d) v) w → Q (.panic c) a w)
    (hQ : ∀ (v : Value) (w' : World) (u33 u34 u35 u36 u37 u38 u39 u40 u41 u42 u43 u44 : Value), Own iV w.heap.size 3 v [n] w' → Below w.heap.size w w' → Q .normal ⟨#[.slice none 0 0, .int .i64 n, t2, t3, v, .int .i64 0, t6, t7, t8, t9, t10, t11, t12, t13, t14, t15, t16, t17, t18, t19, t20, t21, t22, t23, t24, t25, t26, t27, t28, t29, t30, t31, t32, u33, u34, u35, u36, u37, u38, u39, u40, u41, u42, u43, u44], []⟩ w') :
    Code.wp Try.prog putCode Q ⟨#[.slice none 0 0, .int .i64 n, t2, t3, t4, .int .i64 0, t6, t7, t8, t9, t10, t11, t12, t13, t14, t15, t16, t17, t18, t19, t20, t21, t22, t23, t24, t25, t26, t27, t28, t29, t30, t31, t32, t33, t34, t35, t36, t37, t38, t39, t40, t41, t42, t43, t44], []⟩ w := by
  obtain ⟨i0, hi, hz0, hz1, hz2⟩ := info_parts2 info_int
  have HI := Lib.hid hi
  have HZ0 := Lib.hid hz0
  have HZ1 := Lib.hid hz1
  have HZ2 := Lib.hid hz2
  have HQ := Lib.hid hQ
  have hb1 : Below w.heap.size w w.drew := (Below.refl w.heap.size w).drew
  clear hi hz0 hz1 hz2 hQ
  conv => arg 2; whnf
  refine wp_region_held_drew (S := fun W => Below w.heap.size w W) (by kernel_rfl) (hb1) (fun hHeld => ?_)
  refine takeL (i := 1) (v := ?_) rfl (by kernel_rfl) (by kernel_rfl) (by kernel_rfl) (by first | exact fun c a w h => hP c a _ _ w h | exact fun _ _ _ h => h) (Or.inl ⟨by rfl, ?_⟩) (by assumption) ?_
  rotate_left
  · intro W hS; go_simp; (try with_reducible rfl)
  simp only [Act.put, List.setIfInBounds_toArray, List.set_cons_zero, List.set_cons_succ]
  refine takeL (i := 2) (v := ?_) rfl (by kernel_rfl) (by kernel_rfl) (by kernel_rfl) (by first | exact fun c a w h => hP c a _ _ w h | exact fun _ _ _ h => h) (Or.inl ⟨by rfl, ?_⟩) (by assumption) ?_
  rotate_left
  · intro W hS; go_simp; (try with_reducible rfl)
  simp only [Act.put, List.setIfInBounds_toArray, List.set_cons_zero, List.set_cons_succ]
  refine takeL (i := 3) (v := ?_) rfl (by kernel_rfl) (by kernel_rfl) (by kernel_rfl) (by first | exact fun c a w h => hP c a _ _ w h | exact fun _ _ _ h => h) (Or.inl ⟨by rfl, ?_⟩) (by assumption) ?_
  rotate_left
  · intro W hS; go_simp; (try with_reducible rfl)
  simp only [Act.put, List.setIfInBounds_toArray, List.set_cons_zero, List.set_cons_succ]
  refine takeL (i := 5) (v := ?_) rfl (by kernel_rfl) (by kernel_rfl) (by kernel_rfl) (by first | exact fun c a w h => hP c a _ _ w h | exact fun _ _ _ h => h) (Or.inl ⟨by rfl, ?_⟩) (by assumption) ?_
  rotate_left
  · intro W hS; go_simp; (try with_reducible rfl)
  simp only [Act.put, List.setIfInBounds_toArray, List.set_cons_zero, List.set_cons_succ]
  refine takeL (i := 8) (v := ?_) rfl (by kernel_rfl) (by kernel_rfl) (by kernel_rfl) (by first | exact fun c a w h => hP c a _ _ w h | exact fun _ _ _ h => h) (Or.inl ⟨by rfl, ?_⟩) (by assumption) ?_
  rotate_left
  · intro W hS; go_simp; (try with_reducible rfl)
  simp only [Act.put, List.setIfInBounds_toArray, List.set_cons_zero, List.set_cons_succ]
  refine takeL (i := 9) (v := ?_) rfl (by kernel_rfl) (by kernel_rfl) (by kernel_rfl) (by first | exact fun c a w h => hP c a _ _ w h | exact fun _ _ _ h => h) (Or.inl ⟨by rfl, ?_⟩) (by assumption) ?_
  rotate_left
  · intro W hS; go_simp; (try with_reducible rfl)
  simp only [Act.put, List.setIfInBounds_toArray, List.set_cons_zero, List.set_cons_succ]
  refine takeL (i := 10) (v := ?_) rfl (by kernel_rfl) (by kernel_rfl) (by kernel_rfl) (by first | exact fun c a w h => hP c a _ _ w h | exact fun _ _ _ h => h) (Or.inl ⟨by rfl, ?_⟩) (by assumption) ?_
  rotate_left
  · intro W hS; go_simp; (try with_reducible rfl)
  simp only [Act.put, List.setIfInBounds_toArray, List.set_cons_zero, List.set_cons_succ]
  refine wpAnyH_ready (rs := [0, 6]) (by kernel_rfl) (by simp) ?_
  refine readyL rfl ?_ (readyL rfl ?_ AllReadyH.nil)
  · intro K hK
    go_simp
    have oE : Own iV w.heap.size 3 (.slice (some ⟨w.heap.size, 0, none⟩) 0 0) [] (w.alloc (.cells #[] 3)).drew := own_empty (w := w) (Nat.le_refl _) rfl
    have bE : Below w.heap.size w (w.alloc (.cells #[] 3)).drew := (below_one _).drew
    have sE : w.heap.size < (w.alloc (.cells #[] 3)).drew.heap.size := by show w.heap.size < (w.alloc _).heap.size; simp
    generalize (w.alloc (.cells #[] 3)).drew = WE at oE bE sE ⊢
    refine hK.out _ _ (bE) (fun hNew => ?_)
    clear hK K
    replace hHeld := hNew
    clear hNew
    refine wpAnyH_ready (rs := [4, 6]) (by kernel_rfl) (by simp) ?_
    refine readyL rfl ?_ (readyL rfl ?_ AllReadyH.nil)
    · intro K hK
      rw [if_pos (by rfl)]
      refine wp_append_src (f := iV) (v := (.slice (some ⟨w.heap.size, 0, none⟩) 0 0)) (.tmp 33) (.tmp 36) 51 rfl i0 _ 8 Try.underlying51 HI.out HZ0.out HZ1.out HZ2.out rfl (fun _ => rfl) rfl oE none 0 0 ([] : List Int) rfl rfl (.inl rfl) (fun _ => rfl) (by simp) (by simp) ?_
      intro v7 w7 o7 b7 g7
      have e7 : ([] : List Int) ++ [] = [] := rfl
      rw [e7] at o7
      have b7' : Below w.heap.size w w7 := bE.trans b7
      refine hK.out _ _ (b7') (fun hNew => ?_)
      clear hK K
      replace hHeld := hNew
      clear hNew
      refine wpAnyH_ready (rs := [6]) (by kernel_rfl) (by simp) ?_
      refine readyL rfl ?_ AllReadyH.nil
      intro K hK
      go_simp
      have o7' := Own.alloc o7 (.cells #[.int .i64 n] 3)
      have rN : Reads iV (w7.alloc (.cells #[.int .i64 n] 3)) (some ⟨w7.heap.size, 0, none⟩) [n] := reads_one rfl n _
      have bN : Below w.heap.size w (w7.alloc (.cells #[.int .i64 n] 3)) := b7'.alloc b7'.size _
      refine hK.out _ _ (bN) (fun hNew => ?_)
      clear hK K
      replace hHeld := hNew
      clear hNew
      refine wpAnyH_ready (rs := [7]) (by kernel_rfl) (by simp) ?_
      refine readyL rfl ?_ AllReadyH.nil
      intro K hK
      rw [if_pos (by rfl)]
      refine wp_append_src (f := iV) (.tmp 37) (.tmp 39) 51 rfl i0 _ 8 Try.underlying51 HI.out HZ0.out HZ1.out HZ2.out rfl (fun _ => rfl) rfl o7' (some ⟨w7.heap.size, 0, none⟩) 1 1 [n] rfl rfl rN (fun h => by cases h) (by simp) (by simp; unfold maxLen; omega) ?_
      intro v8 w8 o8 b8 g8
      have b8' : Below w.heap.size w w8 := bN.trans b8
      refine hK.out _ _ (b8') (fun hNew => ?_)
      clear hK K
      replace hHeld := hNew
      clear hNew
      refine wpAnyH_ready (rs := [11]) (by kernel_rfl) (by simp) ?_
      refine readyL rfl ?_ AllReadyH.nil
      intro K hK
      rw [if_pos (by rfl)]
      refine wp_append_src (f := iV) (.tmp 40) (.tmp 43) 51 rfl i0 _ 8 Try.underlying51 HI.out HZ0.out HZ1.out HZ2.out rfl (fun _ => rfl) rfl o8 none 0 0 ([] : List Int) rfl rfl (.inl rfl) (fun _ => rfl) (by simp) (by simp; unfold maxLen; omega) ?_
      intro v9 w9 o9 b9 g9
      have b9' : Below w.heap.size w w9 := b8'.trans b9
      refine hK.out _ _ (b9') (fun hNew => ?_)
      clear hK K
      replace hHeld := hNew
      clear hNew
      simp only [Act.put, List.setIfInBounds_toArray, List.set_cons_zero, List.set_cons_succ]
      refine takeL (i := 12) (v := ?_) rfl (by kernel_rfl) (by kernel_rfl) (by kernel_rfl) (by first | exact fun c a w h => hP c a _ _ w h | exact fun _ _ _ h => h) (Or.inl ⟨by rfl, ?_⟩) (by assumption) ?_
      rotate_left
      · intro W hS; go_simp; (try with_reducible rfl)
      simp only [Act.put, List.setIfInBounds_toArray, List.set_cons_zero, List.set_cons_succ]
      refine wpAnyH_done (by kernel_rfl) ?_ _
      exact HQ.out v9 w9 _ _ _ _ _ _ _ _ _ _ _ _ (by simpa using o9) b9'
    · intro K hK
      go_simp
      have oE' := Own.alloc oE (.cells #[.int .i64 n] 3)
      have rN : Reads iV (WE.alloc (.cells #[.int .i64 n] 3)) (some ⟨WE.heap.size, 0, none⟩) [n] := reads_one rfl n _
      have bN : Below w.heap.size w (WE.alloc (.cells #[.int .i64 n] 3)) := bE.alloc bE.size _
      refine hK.out _ _ (bN) (fun hNew => ?_)
      clear hK K
      replace hHeld := hNew
      clear hNew
      refine wpAnyH_ready (rs := [4]) (by kernel_rfl) (by simp) ?_
      refine readyL rfl ?_ AllReadyH.nil
      intro K hK
      rw [if_pos (by rfl)]
      refine wp_append_src (f := iV) (v := (.slice (some ⟨w.heap.size, 0, none⟩) 0 0)) (.tmp 33) (.tmp 36) 51 rfl i0 _ 8 Try.underlying51 HI.out HZ0.out HZ1.out HZ2.out rfl (fun _ => rfl) rfl oE' none 0 0 ([] : List Int) rfl rfl (.inl rfl) (fun _ => rfl) (by simp) (by simp) ?_
      intro v7 w7 o7 b7 g7
      have e7 : ([] : List Int) ++ [] = [] := rfl
      rw [e7] at o7
      have b7' : Below w.heap.size w w7 := bN.trans b7
      have rN7 := reads_grown rN g7 (by simp) (by intro h; simp [Value.ownBlock] at h; omega)
      refine hK.out _ _ (b7') (fun hNew => ?_)
      clear hK K
      replace hHeld := hNew
      clear hNew
      refine wpAnyH_ready (rs := [7]) (by kernel_rfl) (by simp) ?_
      refine readyL rfl ?_ AllReadyH.nil
      intro K hK
      rw [if_pos (by rfl)]
      refine wp_append_src (f := iV) (.tmp 37) (.tmp 39) 51 rfl i0 _ 8 Try.underlying51 HI.out HZ0.out HZ1.out HZ2.out rfl (fun _ => rfl) rfl o7 (some ⟨WE.heap.size, 0, none⟩) 1 1 [n] rfl rfl rN7 (fun h => by cases h) (by simp) (by simp; unfold maxLen; omega) ?_
      intro v8 w8 o8 b8 g8
      have b8' : Below w.heap.size w w8 := b7'.trans b8
      refine hK.out _ _ (b8') (fun hNew => ?_)
      clear hK K
      replace hHeld := hNew
      clear hNew
      refine wpAnyH_ready (rs := [11]) (by kernel_rfl) (by simp) ?_
      refine readyL rfl ?_ AllReadyH.nil
      intro K hK
      rw [if_pos (by rfl)]
      refine wp_append_src (f := iV) (.tmp 40) (.tmp 43) 51 rfl i0 _ 8 Try.underlying51 HI.out HZ0.out HZ1.out HZ2.out rfl (fun _ => rfl) rfl o8 none 0 0 ([] : List Int) rfl rfl (.inl rfl) (fun _ => rfl) (by simp) (by simp; unfold maxLen; omega) ?_
      intro v9 w9 o9 b9 g9
      have b9' : Below w.heap.size w w9 := b8'.trans b9
      refine hK.out _ _ (b9') (fun hNew => ?_)
      clear hK K
      replace hHeld := hNew
      clear hNew
      simp only [Act.put, List.setIfInBounds_toArray, List.set_cons_zero, List.set_cons_succ]
      refine takeL (i := 12) (v := ?_) rfl (by kernel_rfl) (by kernel_rfl) (by kernel_rfl) (by first | exact fun c a w h => hP c a _ _ w h | exact fun _ _ _ h => h) (Or.inl ⟨by rfl, ?_⟩) (by assumption) ?_
      rotate_left
      · intro W hS; go_simp; (try with_reducible rfl)
      simp only [Act.put, List.setIfInBounds_toArray, List.set_cons_zero, List.set_cons_succ]
      refine wpAnyH_done (by kernel_rfl) ?_ _
      exact HQ.out v9 w9 _ _ _ _ _ _ _ _ _ _ _ _ (by simpa using o9) b9'
  · intro K hK
    go_simp
    have rN : Reads iV (w.alloc (.cells #[.int .i64 n] 3)).drew (some ⟨w.heap.size, 0, none⟩) [n] := reads_one (w := w) rfl n 3
    have bN : Below w.heap.size w (w.alloc (.cells #[.int .i64 n] 3)).drew := (below_one _).drew
    have sN : w.heap.size < (w.alloc (.cells #[.int .i64 n] 3)).drew.heap.size := by show w.heap.size < (w.alloc _).heap.size; simp
    generalize (w.alloc (.cells #[.int .i64 n] 3)).drew = WN at rN bN sN ⊢
    refine hK.out _ _ (bN) (fun hNew => ?_)
    clear hK K
    replace hHeld := hNew
    clear hNew
    refine wpAnyH_ready (rs := [0]) (by kernel_rfl) (by simp) ?_
    refine readyL rfl ?_ AllReadyH.nil
    intro K hK
    go_simp
    have oE : Own iV w.heap.size 3 (.slice (some ⟨WN.heap.size, 0, none⟩) 0 0) [] (WN.alloc (.cells #[] 3)) := own_empty bN.size rfl
    have rN' := Reads.alloc rN (.cells #[] 3)
    have bE : Below w.heap.size w (WN.alloc (.cells #[] 3)) := bN.alloc bN.size _
    refine hK.out _ _ (bE) (fun hNew => ?_)
    clear hK K
    replace hHeld := hNew
    clear hNew
    refine wpAnyH_ready (rs := [4]) (by kernel_rfl) (by simp) ?_
    refine readyL rfl ?_ AllReadyH.nil
    intro K hK
    rw [if_pos (by rfl)]
    refine wp_append_src (f := iV) (v := (.slice (some ⟨WN.heap.size, 0, none⟩) 0 0)) (.tmp 33) (.tmp 36) 51 rfl i0 _ 8 Try.underlying51 HI.out HZ0.out HZ1.out HZ2.out rfl (fun _ => rfl) rfl oE none 0 0 ([] : List Int) rfl rfl (.inl rfl) (fun _ => rfl) (by simp) (by simp) ?_
    intro v7 w7 o7 b7 g7
    have e7 : ([] : List Int) ++ [] = [] := rfl
    rw [e7] at o7
    have b7' : Below w.heap.size w w7 := bE.trans b7
    have rN7 := reads_grown rN' g7 (by simp; omega) (by intro h; simp [Value.ownBlock] at h; omega)
    refine hK.out _ _ (b7') (fun hNew => ?_)
    clear hK K
    replace hHeld := hNew
    clear hNew
    refine wpAnyH_ready (rs := [7]) (by kernel_rfl) (by simp) ?_
    refine readyL rfl ?_ AllReadyH.nil
    intro K hK
    rw [if_pos (by rfl)]
    refine wp_append_src (f := iV) (.tmp 37) (.tmp 39) 51 rfl i0 _ 8 Try.underlying51 HI.out HZ0.out HZ1.out HZ2.out rfl (fun _ => rfl) rfl o7 (some ⟨w.heap.size, 0, none⟩) 1 1 [n] rfl rfl rN7 (fun h => by cases h) (by simp) (by simp; unfold maxLen; omega) ?_
    intro v8 w8 o8 b8 g8
    have b8' : Below w.heap.size w w8 := b7'.trans b8
    refine hK.out _ _ (b8') (fun hNew => ?_)
    clear hK K
    replace hHeld := hNew
    clear hNew
    refine wpAnyH_ready (rs := [11]) (by kernel_rfl) (by simp) ?_
    refine readyL rfl ?_ AllReadyH.nil
    intro K hK
    rw [if_pos (by rfl)]
    refine wp_append_src (f := iV) (.tmp 40) (.tmp 43) 51 rfl i0 _ 8 Try.underlying51 HI.out HZ0.out HZ1.out HZ2.out rfl (fun _ => rfl) rfl o8 none 0 0 ([] : List Int) rfl rfl (.inl rfl) (fun _ => rfl) (by simp) (by simp; unfold maxLen; omega) ?_
    intro v9 w9 o9 b9 g9
    have b9' : Below w.heap.size w w9 := b8'.trans b9
    refine hK.out _ _ (b9') (fun hNew => ?_)
    clear hK K
    replace hHeld := hNew
    clear hNew
    simp only [Act.put, List.setIfInBounds_toArray, List.set_cons_zero, List.set_cons_succ]
    refine takeL (i := 12) (v := ?_) rfl (by kernel_rfl) (by kernel_rfl) (by kernel_rfl) (by first | exact fun c a w h => hP c a _ _ w h | exact fun _ _ _ h => h) (Or.inl ⟨by rfl, ?_⟩) (by assumption) ?_
    rotate_left
    · intro W hS; go_simp; (try with_reducible rfl)
    simp only [Act.put, List.setIfInBounds_toArray, List.set_cons_zero, List.set_cons_succ]
    refine wpAnyH_done (by kernel_rfl) ?_ _
    exact HQ.out v9 w9 _ _ _ _ _ _ _ _ _ _ _ _ (by simpa using o9) b9'

set_option maxRecDepth 100000 in
set_option maxHeartbeats 4000000 in
theorem put_none (n : Int) (w : World) :
    Calls Try.prog 35 #[.slice none 0 0, .int .i64 n] w fun e w' => RowSays w [n] e w' := by
  go_enter Try.func35, Try.ntmps35
  go_wp2
  go_loopw [5] (fun i wr => i = .int .i64 0 ∧ wr = w) (fun i _ => 0)
  case atStart => exact ⟨rfl, rfl⟩
  case round =>
    obtain ⟨rfl, rfl⟩ := hrel
    go_upto_region 6 with fail
    refine put_region0 n wr _ _ _ _ _ _ _ _ _ _ _ _ _ _ _ _ _ _ _ _ _ _ _ _ _ _ _ _ _ _ _ _ _ _ _ _ _ _ _ _ _ _ _ (fun _ _ _ _ _ h => h) (fun v w' u33 u34 u35 u36 u37 u38 u39 u40 u41 u42 u43 u44 o9 b9 => ?_)
    obtain ⟨ao9, c9, rfl, r9, n9, l9, m9⟩ := o9.value
    have R9 := Lib.hid r9
    have L9 := Lib.hid l9
    clear r9 l9 o9
    go_wp2
    go_ret
    exact ⟨ao9, c9, rfl, R9.out, n9, L9.out, m9, b9⟩

theorem putL_ne (n : Int) (l : List Int) : putL l n ≠ [] := by
  intro h
  have := (mem_putL n n l).2 (.inl rfl)
  rw [h] at this
  simp at this

/-- **put**: of a row, nil or not. -/
theorem put_any (ao : Option Addr) (cap : Nat) (l : List Int) (n : Int) (w : World) (hl : l.length ≤ 5000) (hlc : l.length ≤ cap) (hcap : cap ≤ maxLen) (hr : Reads iV w ao l) (h0 : l = [] → ao = none) (hn : ao = none → cap = 0) :
    Calls Try.prog 35 #[.slice ao l.length cap, .int .i64 n] w fun e w' => RowSays w (putL l n) e w' := by
  rcases hr with h | ⟨b, off, h, hc⟩
  · subst h
    obtain rfl := h0 rfl
    obtain rfl := hn rfl
    exact put_none n w
  · subst h
    exact put_some b off cap l n w hl hlc hcap (.inr ⟨b, off, rfl, hc⟩)

end Go.Proofs.Ytoiahlbaiakngaa.Prof
