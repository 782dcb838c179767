/-
  The walk of the document's own put: a number in its place.
-/
import Derived.Test.YtoiahlbaiakngaaProfBits
import Derived.Test.YtoiahlbaiakngaaProfTickM
namespace Go.Proofs.Ytoiahlbaiakngaa.Prof
open Go.RowKit
open Base
set_option linter.unusedVariables false
set_option linter.unusedSimpArgs false

/-- A region of a function's code, by its number. -/
def codeAt (n : Nat) : Code → Option Code
  | .region i ops d => if i = n then some (.region i ops d) else none
  | .seq a b => match codeAt n a with
    | some c => some c
    | none => codeAt n b
  | .cond _ a b => match codeAt n a with
    | some c => some c
    | none => codeAt n b
  | .block _ c => codeAt n c
  | .loop c => codeAt n c
  | .scope c => codeAt n c
  | _ => none

def iV (n : Int) : Value := .int .i64 n
theorem info_int : (Try.prog.info? 3).map (fun i => (i.zero, i.size, i.bytes)) = some (some (.int .i64 0), 1, 8) := by kernel_rfl
theorem info_parts2 {o : Option TypeInfo} {z : Option Value} {s b : Nat} (h : o.map (fun i => (i.zero, i.size, i.bytes)) = some (z, s, b)) : ∃ i, o = some i ∧ i.zero = z ∧ i.size = s ∧ i.bytes = b := by
  cases o with
  | none => simp at h
  | some i => simp only [Option.map_some, Option.some.injEq, Prod.mk.injEq] at h; exact ⟨i, rfl, h.1, h.2.1, h.2.2⟩

section
variable {α : Type} {f : α → Value} {w : World} {B : Nat} {e : TypeId} {v : Value} {zs : List α}
/-- 'append(own, src...)', at the operation. -/
theorem wp_append_src {P : Program} {o : Oper} {a : Act} {K : Act → World → Prop} {Q : Exit → Act → World → Prop} (s x : Operand) (t : TypeId)
    (ho : o.op = .call { callee := .builtin .append, args := #[s, x], argTypes := #[t, t] })
    (i : TypeInfo) (z : Value) (by8 : Nat) (ht : P.underlying t = some (.slice e)) (hi : P.info? e = some i) (hz : i.zero = some z) (hsize : i.size = 1) (hby : i.bytes = by8) (hzs : z.cells.size = 1)
    (hone : ∀ y, (f y).oneCell' = true) (hs : a.eval s = v) (hown : Own f B e v zs w)
    (ao : Option Addr) (m c : Nat) (news : List α) (hx : a.eval x = .slice ao m c) (hm : news.length = m) (hr : Reads f w ao news) (hnil : ao = none → c = 0)
    (hsmall : (zs.length + m) * by8 ≤ 140737488355328) (hmax : zs.length + m ≤ maxLen)
    (h : ∀ v' w', Own f B e v' (zs ++ news) w' → Below B w w' → w.grownBy w' v.ownBlock → K (a.put o.dst v') w') : o.wp P a w K Q := by
  subst hm
  have hlen : (zs ++ news).length = zs.length + news.length := List.length_append
  cases ao with
  | none =>
    obtain rfl : c = 0 := hnil rfl
    have hn : news = [] := by
      rcases hr with h | ⟨b, off, h, _⟩
      · exact h
      · cases h
    subst hn
    have hrun := run_append_owned_none (P := P) (w := w) B t o.type e i 1 ht hi v zs.length (zs.map f) hown.1
    unfold Oper.wp
    simp [execOp, ho, resolve, invoke, builtin, hs, hx, hrun, Result.andThen]
    exact h v w (by simpa using hown) (Below.refl _ _) (grown_refl _ _)
  | some ad =>
    refine wp_append_own w s x t ho B e i z 1 by8 ht hi hz hsize hby hzs (by decide) v zs.length (zs.map f) hs hown.1 ad news.length c (news.map f) hx (by simp) ?_ ?_ hmax hsmall hown.2 ?_
    · intro j u hu
      rcases hr with h | ⟨b, off, h, hc⟩
      · subst h; simp at hu
      · obtain rfl : ad = ⟨b, off, none⟩ := by simpa using h
        rw [List.getElem?_map] at hu
        obtain ⟨n, hn, rfl⟩ := Option.map_eq_some_iff.1 hu
        obtain ⟨hj, rfl⟩ := List.getElem?_eq_some_iff.1 hn
        rw [Go.WideShapes.add_plain]
        exact hc j hj
    · intro u hu
      obtain ⟨y, _, rfl⟩ := List.mem_map.1 hu
      exact hone y
    · intro v' w' ho' hg' _
      refine h v' w' ⟨?_, Nat.le_trans hown.2 hg'.size⟩ (below_grown hg' hown.2 fun k hk => (hown.1.lt k hk).1) hg'
      rw [hlen, List.map_append]
      exact ho'

/-- An empty slice that is none of nil. -/
theorem own_empty {n : Nat} (hB : B ≤ w.heap.size) (hn : n = w.heap.size) : Own f B e (.slice (some ⟨n, 0, none⟩) 0 0) [] (w.alloc (.cells #[] e)) := by
  subst hn
  exact ⟨⟨rfl, .inr ⟨w.heap.size, 0, #[], rfl, hB, heap_alloc_new w _, Nat.le_refl _, Nat.zero_le _, rfl, rfl⟩⟩, by simp; omega⟩
end

theorem reads_take {w : World} {ao : Option Addr} {l : List Int} (h : Reads iV w ao l) (k : Nat) : Reads iV w ao (l.take k) := by
  rcases h with h | ⟨b, off, rfl, hc⟩
  · exact .inl (by rw [h]; simp)
  · exact .inr ⟨b, off, rfl, fun j hj => by rw [List.length_take] at hj; rw [hc j (by omega), List.getElem_take]⟩
theorem reads_dropI {w : World} {b off : Nat} {l : List Int} (h : Reads iV w (some ⟨b, off, none⟩) l) (k : Nat) : Reads iV w (some ⟨b, off + k, none⟩) (l.drop k) := by
  rcases h with h | ⟨b2, off2, h1, hc⟩
  · exact .inl (by rw [h]; simp)
  · obtain ⟨rfl, rfl⟩ : b = b2 ∧ off = off2 := by simpa using h1
    exact .inr ⟨b, off + k, rfl, fun j hj => by rw [List.length_drop] at hj; rw [Nat.add_assoc, hc (k + j) (by omega), List.getElem_drop]⟩

theorem reads_grown {w w' : World} {g o : Nat} {zs : List Int} {r : Option Nat} (h : Reads iV w (some ⟨g, o, none⟩) zs) (hg : w.grownBy w' r) (hlt : g < w.heap.size) (hr : r ≠ some g) : Reads iV w' (some ⟨g, o, none⟩) zs := by
  rcases h with h | ⟨b, off, h1, hc⟩
  · exact .inl h
  · obtain ⟨rfl, rfl⟩ : g = b ∧ o = off := by simpa using h1
    exact .inr ⟨g, o, rfl, fun j hj => by rw [← hc j hj]; exact World.cell?_of_block (hg.block g hlt (fun e => hr e.symm))⟩

noncomputable def putCode : Code := ((Try.f35.body.bind (codeAt 6)).getD .skip)

set_option maxRecDepth 100000 in
set_option maxHeartbeats 4000000 in
theorem put_region (b off L cap k : Nat) (l : List Int) (n : Int) (w : World) (hL : l.length = L) (hl : L ≤ 5000) (hlc : L ≤ cap) (hk : k ≤ L) (hcap : cap ≤ 9223372036854775807) (hr : Reads iV w (some ⟨b, off, none⟩) l)
    (t2 t3 t4 t6 t7 t8 t9 t10 t11 t12 t13 t14 t15 t16 t17 t18 t19 t20 t21 t22 t23 t24 t25 t26 t27 t28 t29 t30 t31 t32 t33 t34 t35 t36 t37 t38 t39 t40 t41 t42 t43 t44 : Value)
    (Q : Exit → Act → World → Prop) (hP : ∀ c a (d : Tmp) v w, Q (.panic c) (Act.put a (some d) v) w → Q (.panic c) a w)
    (hQ : ∀ (v : Value) (w' : World) (u33 u34 u35 u36 u37 u38 u39 u40 u41 u42 u43 u44 : Value), Own iV w.heap.size 3 v (l.take k ++ n :: l.drop k) w' → Below w.heap.size w w' → Q .normal ⟨#[.slice (some ⟨b, off, none⟩) L cap, .int .i64 n, t2, t3, v, .int .i64 (k : Int), t6, t7, t8, t9, t10, t11, t12, t13, t14, t15, t16, t17, t18, t19, t20, t21, t22, t23, t24, t25, t26, t27, t28, t29, t30, t31, t32, u33, u34, u35, u36, u37, u38, u39, u40, u41, u42, u43, u44], []⟩ w') :
    Code.wp Try.prog putCode Q ⟨#[.slice (some ⟨b, off, none⟩) L cap, .int .i64 n, t2, t3, t4, .int .i64 (k : Int), t6, t7, t8, t9, t10, t11, t12, t13, t14, t15, t16, t17, t18, t19, t20, t21, t22, t23, t24, t25, t26, t27, t28, t29, t30, t31, t32, t33, t34, t35, t36, t37, t38, t39, t40, t41, t42, t43, t44], []⟩ w := by
  obtain ⟨i0, hi, hz0, hz1, hz2⟩ := info_parts2 info_int
  have HI := Lib.hid hi
  have HZ0 := Lib.hid hz0
  have HZ1 := Lib.hid hz1
  have HZ2 := Lib.hid hz2
  have HR := Lib.hid hr
  have HQ := Lib.hid hQ
  have HL := Lib.hid hL
  have hb1 : Below w.heap.size w w.drew := (Below.refl w.heap.size w).drew
  have g1 : (0 : Int) ≤ (k : Int) := by omega
  have g2 : (k : Int) ≤ (L : Int) := by omega
  have g3 : (L : Int) ≤ (cap : Int) := by omega
  have g4 : (k : Int) ≤ (cap : Int) := by omega
  have G := Lib.hid (And.intro g1 (And.intro g2 (And.intro g3 g4)))
  clear hi hz0 hz1 hz2 hr hQ hL g1 g2 g3 g4
  conv => arg 2; whnf
  refine wp_region_held_drew (S := fun W => Below w.heap.size w W) (by kernel_rfl) (hb1) (fun hHeld => ?_)
  refine takeL (i := 1) (v := ?_) rfl (by kernel_rfl) (by kernel_rfl) (by kernel_rfl) (by first | exact fun c a w h => hP c a _ _ w h | exact fun _ _ _ h => h) (Or.inl ⟨by rfl, ?_⟩) (by assumption) ?_
  rotate_left
  · intro W hS; go_simp; (try with_reducible rfl)
  simp only [Act.put, List.setIfInBounds_toArray, List.set_cons_zero, List.set_cons_succ]
  refine takeL (i := 2) (v := ?_) rfl (by kernel_rfl) (by kernel_rfl) (by kernel_rfl) (by first | exact fun c a w h => hP c a _ _ w h | exact fun _ _ _ h => h) (Or.inl ⟨by rfl, ?_⟩) (by assumption) ?_
  rotate_left
  · intro W hS; go_simp; (try with_reducible rfl)
  simp only [Act.put, List.setIfInBounds_toArray, List.set_cons_zero, List.set_cons_succ]
  refine takeL (i := 3) (v := ?_) rfl (by kernel_rfl) (by kernel_rfl) (by kernel_rfl) (by first | exact fun c a w h => hP c a _ _ w h | exact fun _ _ _ h => h) (Or.inl ⟨by rfl, ?_⟩) (by assumption) ?_
  rotate_left
  · intro W hS; have := G.out; go_simp; (try with_reducible rfl)
  simp only [Act.put, List.setIfInBounds_toArray, List.set_cons_zero, List.set_cons_succ]
  refine takeL (i := 5) (v := ?_) rfl (by kernel_rfl) (by kernel_rfl) (by kernel_rfl) (by first | exact fun c a w h => hP c a _ _ w h | exact fun _ _ _ h => h) (Or.inl ⟨by rfl, ?_⟩) (by assumption) ?_
  rotate_left
  · intro W hS; go_simp; (try with_reducible rfl)
  simp only [Act.put, List.setIfInBounds_toArray, List.set_cons_zero, List.set_cons_succ]
  refine takeL (i := 8) (v := ?_) rfl (by kernel_rfl) (by kernel_rfl) (by kernel_rfl) (by first | exact fun c a w h => hP c a _ _ w h | exact fun _ _ _ h => h) (Or.inl ⟨by rfl, ?_⟩) (by assumption) ?_
  rotate_left
  · intro W hS; go_simp; (try with_reducible rfl)
  simp only [Act.put, List.setIfInBounds_toArray, List.set_cons_zero, List.set_cons_succ]
  refine takeL (i := 9) (v := ?_) rfl (by kernel_rfl) (by kernel_rfl) (by kernel_rfl) (by first | exact fun c a w h => hP c a _ _ w h | exact fun _ _ _ h => h) (Or.inl ⟨by rfl, ?_⟩) (by assumption) ?_
  rotate_left
  · intro W hS; go_simp; (try with_reducible rfl)
  simp only [Act.put, List.setIfInBounds_toArray, List.set_cons_zero, List.set_cons_succ]
  refine takeL (i := 10) (v := ?_) rfl (by kernel_rfl) (by kernel_rfl) (by kernel_rfl) (by first | exact fun c a w h => hP c a _ _ w h | exact fun _ _ _ h => h) (Or.inl ⟨by rfl, ?_⟩) (by assumption) ?_
  rotate_left
  · intro W hS; have := G.out; go_simp; (try with_reducible rfl)
  simp only [Act.put, List.setIfInBounds_toArray, List.set_cons_zero, List.set_cons_succ]
  have hrd : ∀ W, Below w.heap.size w W → Reads iV W (if cap = k then some ⟨b, off, none⟩ else some ⟨b, off + k, none⟩) (l.drop k) := by
    intro W hb
    split
    · rename_i hck
      exact .inl (List.drop_eq_nil_of_le (by rw [HL.out]; omega))
    · exact reads_dropI (HR.out.below hb) k
  have HRD := Lib.hid hrd
  have HT : Hid ((l.take k).length = k) := Lib.hid (by rw [List.length_take, HL.out]; omega)
  clear hrd
  refine wpAnyH_ready (rs := [0, 6]) (by kernel_rfl) (by simp) ?_
  refine readyL rfl ?_ (readyL rfl ?_ AllReadyH.nil)
  · intro K hK
    go_simp
    have oE : Own iV w.heap.size 3 (.slice (some ⟨w.heap.size, 0, none⟩) 0 0) [] (w.alloc (.cells #[] 3)).drew := own_empty (w := w) (Nat.le_refl _) rfl
    have bE : Below w.heap.size w (w.alloc (.cells #[] 3)).drew := (below_one _).drew
    have sE : w.heap.size < (w.alloc (.cells #[] 3)).drew.heap.size := by show w.heap.size < (w.alloc _).heap.size; simp
    generalize (w.alloc (.cells #[] 3)).drew = WE at oE bE sE ⊢
    refine hK.out _ _ (bE) (fun hNew => ?_)
    clear hK K
    replace hHeld := hNew
    clear hNew
    refine wpAnyH_ready (rs := [4, 6]) (by kernel_rfl) (by simp) ?_
    refine readyL rfl ?_ (readyL rfl ?_ AllReadyH.nil)
    · intro K hK
      rw [if_pos (by rfl)]
      refine wp_append_src (f := iV) (v := (.slice (some ⟨w.heap.size, 0, none⟩) 0 0)) (.tmp 33) (.tmp 36) 51 rfl i0 _ 8 Try.underlying51 HI.out HZ0.out HZ1.out HZ2.out rfl (fun _ => rfl) rfl oE (some ⟨b, off, none⟩) k cap (l.take k) rfl (by rw [List.length_take, HL.out]; omega) ((reads_take HR.out k).below bE) (fun h => by cases h) (by simp; omega) (by simp; unfold maxLen; omega) ?_
      intro v7 w7 o7 b7 g7
      rw [List.nil_append] at o7
      have b7' : Below w.heap.size w w7 := bE.trans b7
      refine hK.out _ _ (b7') (fun hNew => ?_)
      clear hK K
      replace hHeld := hNew
      clear hNew
      refine wpAnyH_ready (rs := [6]) (by kernel_rfl) (by simp) ?_
      refine readyL rfl ?_ AllReadyH.nil
      intro K hK
      go_simp
      have o7' := Own.alloc o7 (.cells #[.int .i64 n] 3)
      have rN : Reads iV (w7.alloc (.cells #[.int .i64 n] 3)) (some ⟨w7.heap.size, 0, none⟩) [n] := reads_one rfl n _
      have bN : Below w.heap.size w (w7.alloc (.cells #[.int .i64 n] 3)) := b7'.alloc b7'.size _
      refine hK.out _ _ (bN) (fun hNew => ?_)
      clear hK K
      replace hHeld := hNew
      clear hNew
      refine wpAnyH_ready (rs := [7]) (by kernel_rfl) (by simp) ?_
      refine readyL rfl ?_ AllReadyH.nil
      intro K hK
      rw [if_pos (by rfl)]
      refine wp_append_src (f := iV) (.tmp 37) (.tmp 39) 51 rfl i0 _ 8 Try.underlying51 HI.out HZ0.out HZ1.out HZ2.out rfl (fun _ => rfl) rfl o7' (some ⟨w7.heap.size, 0, none⟩) 1 1 [n] rfl rfl rN (fun h => by cases h) (by rw [HT.out]; omega) (by rw [HT.out]; unfold maxLen; omega) ?_
      intro v8 w8 o8 b8 g8
      have b8' : Below w.heap.size w w8 := bN.trans b8
      refine hK.out _ _ (b8') (fun hNew => ?_)
      clear hK K
      replace hHeld := hNew
      clear hNew
      refine wpAnyH_ready (rs := [11]) (by kernel_rfl) (by simp) ?_
      refine readyL rfl ?_ AllReadyH.nil
      intro K hK
      rw [if_pos (by rfl)]
      refine wp_append_src (f := iV) (.tmp 40) (.tmp 43) 51 rfl i0 _ 8 Try.underlying51 HI.out HZ0.out HZ1.out HZ2.out rfl (fun _ => rfl) rfl o8 (if cap = k then some ⟨b, off, none⟩ else some ⟨b, off + k, none⟩) (L - k) (cap - k) (l.drop k) rfl (by rw [List.length_drop, HL.out]) ((HRD.out _ b8')) (fun h => by split at h <;> cases h) (by rw [List.length_append, HT.out]; simp; omega) (by rw [List.length_append, HT.out]; unfold maxLen; simp; omega) ?_
      intro v9 w9 o9 b9 g9
      have b9' : Below w.heap.size w w9 := b8'.trans b9
      refine hK.out _ _ (b9') (fun hNew => ?_)
      clear hK K
      replace hHeld := hNew
      clear hNew
      simp only [Act.put, List.setIfInBounds_toArray, List.set_cons_zero, List.set_cons_succ]
      refine takeL (i := 12) (v := ?_) rfl (by kernel_rfl) (by kernel_rfl) (by kernel_rfl) (by first | exact fun c a w h => hP c a _ _ w h | exact fun _ _ _ h => h) (Or.inl ⟨by rfl, ?_⟩) (by assumption) ?_
      rotate_left
      · intro W hS; go_simp; (try with_reducible rfl)
      simp only [Act.put, List.setIfInBounds_toArray, List.set_cons_zero, List.set_cons_succ]
      refine wpAnyH_done (by kernel_rfl) ?_ _
      exact HQ.out v9 w9 _ _ _ _ _ _ _ _ _ _ _ _ (by have := o9; rwa [List.append_assoc] at this) b9'
    · intro K hK
      go_simp
      have oE' := Own.alloc oE (.cells #[.int .i64 n] 3)
      have rN : Reads iV (WE.alloc (.cells #[.int .i64 n] 3)) (some ⟨WE.heap.size, 0, none⟩) [n] := reads_one rfl n _
      have bN : Below w.heap.size w (WE.alloc (.cells #[.int .i64 n] 3)) := bE.alloc bE.size _
      refine hK.out _ _ (bN) (fun hNew => ?_)
      clear hK K
      replace hHeld := hNew
      clear hNew
      refine wpAnyH_ready (rs := [4]) (by kernel_rfl) (by simp) ?_
      refine readyL rfl ?_ AllReadyH.nil
      intro K hK
      rw [if_pos (by rfl)]
      refine wp_append_src (f := iV) (v := (.slice (some ⟨w.heap.size, 0, none⟩) 0 0)) (.tmp 33) (.tmp 36) 51 rfl i0 _ 8 Try.underlying51 HI.out HZ0.out HZ1.out HZ2.out rfl (fun _ => rfl) rfl oE' (some ⟨b, off, none⟩) k cap (l.take k) rfl (by rw [List.length_take, HL.out]; omega) ((reads_take HR.out k).below bN) (fun h => by cases h) (by simp; omega) (by simp; unfold maxLen; omega) ?_
      intro v7 w7 o7 b7 g7
      rw [List.nil_append] at o7
      have b7' : Below w.heap.size w w7 := bN.trans b7
      have rN7 := reads_grown rN g7 (by simp) (by intro h; simp [Value.ownBlock] at h; omega)
      refine hK.out _ _ (b7') (fun hNew => ?_)
      clear hK K
      replace hHeld := hNew
      clear hNew
      refine wpAnyH_ready (rs := [7]) (by kernel_rfl) (by simp) ?_
      refine readyL rfl ?_ AllReadyH.nil
      intro K hK
      rw [if_pos (by rfl)]
      refine wp_append_src (f := iV) (.tmp 37) (.tmp 39) 51 rfl i0 _ 8 Try.underlying51 HI.out HZ0.out HZ1.out HZ2.out rfl (fun _ => rfl) rfl o7 (some ⟨WE.heap.size, 0, none⟩) 1 1 [n] rfl rfl rN7 (fun h => by cases h) (by rw [HT.out]; omega) (by rw [HT.out]; unfold maxLen; omega) ?_
      intro v8 w8 o8 b8 g8
      have b8' : Below w.heap.size w w8 := b7'.trans b8
      refine hK.out _ _ (b8') (fun hNew => ?_)
      clear hK K
      replace hHeld := hNew
      clear hNew
      refine wpAnyH_ready (rs := [11]) (by kernel_rfl) (by simp) ?_
      refine readyL rfl ?_ AllReadyH.nil
      intro K hK
      rw [if_pos (by rfl)]
      refine wp_append_src (f := iV) (.tmp 40) (.tmp 43) 51 rfl i0 _ 8 Try.underlying51 HI.out HZ0.out HZ1.out HZ2.out rfl (fun _ => rfl) rfl o8 (if cap = k then some ⟨b, off, none⟩ else some ⟨b, off + k, none⟩) (L - k) (cap - k) (l.drop k) rfl (by rw [List.length_drop, HL.out]) ((HRD.out _ b8')) (fun h => by split at h <;> cases h) (by rw [List.length_append, HT.out]; simp; omega) (by rw [List.length_append, HT.out]; unfold maxLen; simp; omega) ?_
      intro v9 w9 o9 b9 g9
      have b9' : Below w.heap.size w w9 := b8'.trans b9
      refine hK.out _ _ (b9') (fun hNew => ?_)
      clear hK K
      replace hHeld := hNew
      clear hNew
      simp only [Act.put, List.setIfInBounds_toArray, List.set_cons_zero, List.set_cons_succ]
      refine takeL (i := 12) (v := ?_) rfl (by kernel_rfl) (by kernel_rfl) (by kernel_rfl) (by first | exact fun c a w h => hP c a _ _ w h | exact fun _ _ _ h => h) (Or.inl ⟨by rfl, ?_⟩) (by assumption) ?_
      rotate_left
      · intro W hS; go_simp; (try with_reducible rfl)
      simp only [Act.put, List.setIfInBounds_toArray, List.set_cons_zero, List.set_cons_succ]
      refine wpAnyH_done (by kernel_rfl) ?_ _
      exact HQ.out v9 w9 _ _ _ _ _ _ _ _ _ _ _ _ (by have := o9; rwa [List.append_assoc] at this) b9'
  · intro K hK
    go_simp
    have rN : Reads iV (w.alloc (.cells #[.int .i64 n] 3)).drew (some ⟨w.heap.size, 0, none⟩) [n] := reads_one (w := w) rfl n 3
    have bN : Below w.heap.size w (w.alloc (.cells #[.int .i64 n] 3)).drew := (below_one _).drew
    have sN : w.heap.size < (w.alloc (.cells #[.int .i64 n] 3)).drew.heap.size := by show w.heap.size < (w.alloc _).heap.size; simp
    generalize (w.alloc (.cells #[.int .i64 n] 3)).drew = WN at rN bN sN ⊢
    refine hK.out _ _ (bN) (fun hNew => ?_)
    clear hK K
    replace hHeld := hNew
    clear hNew
    refine wpAnyH_ready (rs := [0]) (by kernel_rfl) (by simp) ?_
    refine readyL rfl ?_ AllReadyH.nil
    intro K hK
    go_simp
    have oE : Own iV w.heap.size 3 (.slice (some ⟨WN.heap.size, 0, none⟩) 0 0) [] (WN.alloc (.cells #[] 3)) := own_empty bN.size rfl
    have rN' := Reads.alloc rN (.cells #[] 3)
    have bE : Below w.heap.size w (WN.alloc (.cells #[] 3)) := bN.alloc bN.size _
    refine hK.out _ _ (bE) (fun hNew => ?_)
    clear hK K
    replace hHeld := hNew
    clear hNew
    refine wpAnyH_ready (rs := [4]) (by kernel_rfl) (by simp) ?_
    refine readyL rfl ?_ AllReadyH.nil
    intro K hK
    rw [if_pos (by rfl)]
    refine wp_append_src (f := iV) (v := (.slice (some ⟨WN.heap.size, 0, none⟩) 0 0)) (.tmp 33) (.tmp 36) 51 rfl i0 _ 8 Try.underlying51 HI.out HZ0.out HZ1.out HZ2.out rfl (fun _ => rfl) rfl oE (some ⟨b, off, none⟩) k cap (l.take k) rfl (by rw [List.length_take, HL.out]; omega) ((reads_take HR.out k).below bE) (fun h => by cases h) (by simp; omega) (by simp; unfold maxLen; omega) ?_
    intro v7 w7 o7 b7 g7
    rw [List.nil_append] at o7
    have b7' : Below w.heap.size w w7 := bE.trans b7
    have rN7 := reads_grown rN' g7 (by simp; omega) (by intro h; simp [Value.ownBlock] at h; omega)
    refine hK.out _ _ (b7') (fun hNew => ?_)
    clear hK K
    replace hHeld := hNew
    clear hNew
    refine wpAnyH_ready (rs := [7]) (by kernel_rfl) (by simp) ?_
    refine readyL rfl ?_ AllReadyH.nil
    intro K hK
    rw [if_pos (by rfl)]
    refine wp_append_src (f := iV) (.tmp 37) (.tmp 39) 51 rfl i0 _ 8 Try.underlying51 HI.out HZ0.out HZ1.out HZ2.out rfl (fun _ => rfl) rfl o7 (some ⟨w.heap.size, 0, none⟩) 1 1 [n] rfl rfl rN7 (fun h => by cases h) (by rw [HT.out]; omega) (by rw [HT.out]; unfold maxLen; omega) ?_
    intro v8 w8 o8 b8 g8
    have b8' : Below w.heap.size w w8 := b7'.trans b8
    refine hK.out _ _ (b8') (fun hNew => ?_)
    clear hK K
    replace hHeld := hNew
    clear hNew
    refine wpAnyH_ready (rs := [11]) (by kernel_rfl) (by simp) ?_
    refine readyL rfl ?_ AllReadyH.nil
    intro K hK
    rw [if_pos (by rfl)]
    refine wp_append_src (f := iV) (.tmp 40) (.tmp 43) 51 rfl i0 _ 8 Try.underlying51 HI.out HZ0.out HZ1.out HZ2.out rfl (fun _ => rfl) rfl o8 (if cap = k then some ⟨b, off, none⟩ else some ⟨b, off + k, none⟩) (L - k) (cap - k) (l.drop k) rfl (by rw [List.length_drop, HL.out]) ((HRD.out _ b8')) (fun h => by split at h <;> cases h) (by rw [List.length_append, HT.out]; simp; omega) (by rw [List.length_append, HT.out]; unfold maxLen; simp; omega) ?_
    intro v9 w9 o9 b9 g9
    have b9' : Below w.heap.size w w9 := b8'.trans b9
    refine hK.out _ _ (b9') (fun hNew => ?_)
    clear hK K
    replace hHeld := hNew
    clear hNew
    simp only [Act.put, List.setIfInBounds_toArray, List.set_cons_zero, List.set_cons_succ]
    refine takeL (i := 12) (v := ?_) rfl (by kernel_rfl) (by kernel_rfl) (by kernel_rfl) (by first | exact fun c a w h => hP c a _ _ w h | exact fun _ _ _ h => h) (Or.inl ⟨by rfl, ?_⟩) (by assumption) ?_
    rotate_left
    · intro W hS; go_simp; (try with_reducible rfl)
    simp only [Act.put, List.setIfInBounds_toArray, List.set_cons_zero, List.set_cons_succ]
    refine wpAnyH_done (by kernel_rfl) ?_ _
    exact HQ.out v9 w9 _ _ _ _ _ _ _ _ _ _ _ _ (by have := o9; rwa [List.append_assoc] at this) b9'

def RowSays (w : World) (l : List Int) (e : Ending) (w' : World) : Prop :=
  ∃ ao cap, e = .returned (.slice ao l.length cap) ∧ Reads iV w' ao l ∧ (ao = none → cap = 0) ∧ l.length ≤ cap ∧ cap ≤ maxLen ∧ Below w.heap.size w w'

set_option maxRecDepth 100000 in
set_option maxHeartbeats 4000000 in
theorem put_some (b off cap : Nat) (l : List Int) (n : Int) (w : World) (hl : l.length ≤ 5000) (hlc : l.length ≤ cap) (hcap : cap ≤ maxLen) (hr : Reads iV w (some ⟨b, off, none⟩) l) :
    Calls Try.prog 35 #[.slice (some ⟨b, off, none⟩) l.length cap, .int .i64 n] w fun e w' => RowSays w (putL l n) e w' := by
  obtain ⟨i0, hi, hz0, hz1, hz2⟩ := info_parts2 info_int
  have HI := Lib.hid hi
  have HZ0 := Lib.hid hz0
  have HZ1 := Lib.hid hz1
  have HZ2 := Lib.hid hz2
  have HR := Lib.hid hr
  clear hi hz0 hz1 hz2 hr
  unfold maxLen at hcap
  obtain ⟨Q, hQ⟩ : ∃ Q, Q = putL l n := ⟨_, rfl⟩
  rw [← hQ]
  have HQ := Lib.hid hQ
  clear hQ
  go_enter Try.func35, Try.ntmps35
  go_wp2
  go_loopw [5] (fun i wr => ∃ k : Nat, i = .int .i64 (k : Int) ∧ k ≤ l.length ∧ (∀ j, j < k → l.getD j 0 < n) ∧ wr = w) (fun i _ => l.length - (intOf i).toNat)
  case atStart => exact ⟨0, rfl, Nat.zero_le _, fun _ h => absurd h (Nat.not_lt_zero _), rfl⟩
  case round =>
    obtain ⟨k, rfl, hk, hs, rfl⟩ := hrel
    have HS := Lib.hid hs
    clear hs
    have hlow : (0 : Int) ≤ (k : Int) := by omega
    by_cases hp : k < l.length
    · have t1 : decide ((k : Int) < (l.length : Int)) = true := decide_eq_true (by omega)
      obtain ⟨bb, bo, hao, b0⟩ := HR.out.at_ hp
      obtain ⟨rfl, rfl⟩ : b = bb ∧ off = bo := by simpa using hao
      have hgd : l.getD k 0 = l[k] := by rw [List.getD_eq_getElem?_getD, List.getElem?_eq_getElem hp]; rfl
      obtain ⟨x, hx⟩ : ∃ x, x = l[k] := ⟨_, rfl⟩
      rw [← hx] at b0 hgd
      unfold iV at b0
      have HGD := Lib.hid hgd
      have hup : (k : Int) < ((l.length : Nat) : Int) := by omega
      clear hx hao hgd
      by_cases c1 : x < n
      · have t2 : decide (x < n) = true := decide_eq_true c1
        have HN : Hid (∀ j, j < k + 1 → l.getD j 0 < n) := Lib.hid (fun j hj => by
          by_cases he : j = k
          · subst he; rw [HGD.out]; exact c1
          · exact HS.out j (by omega))
        clear c1
        go_wp2
        refine ⟨⟨k + 1, by go_num, by omega, HN.out, trivial⟩, ?_⟩
        simp [intOf]; omega
      · have t2 : decide (x < n) = false := decide_eq_false c1
        by_cases c2 : x = n
        · have t3 : (x == n) = true := by rw [beq_iff_eq]; exact c2
          have HN : Hid (l = Q) := Lib.hid (by rw [HQ.out, putL_old n l k hp HS.out (by rw [HGD.out]; exact c2)])
          clear c1 c2
          go_wp2
          go_ret
          exact ⟨some ⟨b, off, none⟩, cap, by rw [← HN.out]; rfl, by rw [← HN.out]; exact HR.out, (fun h => by cases h), by rw [← HN.out]; exact hlc, hcap, Below.refl _ _⟩
        · have t3 : (x == n) = false := by rw [beq_eq_false_iff_ne]; exact c2
          have HN : Hid (l.take k ++ n :: l.drop k = Q) := Lib.hid (by rw [HQ.out, putL_new n l k (by omega) HS.out (fun _ => by rw [HGD.out]; omega)])
          clear c1 c2
          go_upto_region 6 with fail
          refine put_region b off l.length cap k l n wr rfl hl hlc (by omega) hcap HR.out _ _ _ _ _ _ _ _ _ _ _ _ _ _ _ _ _ _ _ _ _ _ _ _ _ _ _ _ _ _ _ _ _ _ _ _ _ _ _ _ _ _ _ (fun _ _ _ _ _ h => h) (fun v w' u33 u34 u35 u36 u37 u38 u39 u40 u41 u42 u43 u44 o9 b9 => ?_)
          obtain ⟨ao9, c9, rfl, r9, n9, l9, m9⟩ := o9.value
          rw [HN.out] at r9 l9 ⊢
          have R9 := Lib.hid r9
          have L9 := Lib.hid l9
          clear r9 l9 o9
          go_wp2
          go_ret
          exact ⟨ao9, c9, rfl, R9.out, n9, L9.out, m9, b9⟩
    · have t1 : decide ((k : Int) < (l.length : Int)) = false := decide_eq_false (by omega)
      have HN : Hid (l.take k ++ n :: l.drop k = Q) := Lib.hid (by rw [HQ.out, putL_new n l k (by omega) HS.out (fun h => absurd h hp)])
      go_upto_region 6 with fail
      refine put_region b off l.length cap k l n wr rfl hl hlc (by omega) hcap HR.out _ _ _ _ _ _ _ _ _ _ _ _ _ _ _ _ _ _ _ _ _ _ _ _ _ _ _ _ _ _ _ _ _ _ _ _ _ _ _ _ _ _ _ (fun _ _ _ _ _ h => h) (fun v w' u33 u34 u35 u36 u37 u38 u39 u40 u41 u42 u43 u44 o9 b9 => ?_)
      obtain ⟨ao9, c9, rfl, r9, n9, l9, m9⟩ := o9.value
      rw [HN.out] at r9 l9 ⊢
      have R9 := Lib.hid r9
      have L9 := Lib.hid l9
      clear r9 l9 o9
      go_wp2
      go_ret
      exact ⟨ao9, c9, rfl, R9.out, n9, L9.out, m9, b9⟩

end Go.Proofs.Ytoiahlbaiakngaa.Prof
