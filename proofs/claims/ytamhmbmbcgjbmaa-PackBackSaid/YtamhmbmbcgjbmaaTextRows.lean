/-
  A slice of bytes that begins as '[]byte(s)' of a text and grows by 'append(b, t...)' of texts.
-/
import Derived.Test.YtamhmbmbcgjbmaaOwnRows
namespace Go.Proofs.Ytamhmbmbcgjbmaa.Base
open Go.RowKit
set_option linter.unusedVariables false

theorem store_marked (P : Program) (g : Nat) (t : TypeId) (fz : Nat × Nat) (o : Nat) (vs : List Value) : ∀ (i : Nat) (cur : Array Value) (w : World), w.heap[g]? = some (.cells cur t fz) → fz = (0, 0) ∨ cur.size ≤ fz.1 → o + i + vs.length ≤ cur.size → (∀ v ∈ vs, v.oneCell' = true) →
    (storeCells ⟨g, o, none⟩ vs i).run P w = .ok () (w.setRow g (cur.toList.take (o + i) ++ vs ++ cur.toList.drop (o + i + vs.length)).toArray) := by
  induction vs with
  | nil =>
    intro i cur w hg _ _ _
    simp only [storeCells, List.append_nil, List.length_nil, Nat.add_zero, List.take_append_drop, Array.toArray_toList]
    rw [setRow_self w g cur t fz hg]; rfl
  | cons v rest ih =>
    intro i cur w hg hf hl h1
    rw [List.length_cons] at hl
    have hlt : o + i < cur.size := by omega
    have ea : (⟨g, o, none⟩ : Addr).add i = ⟨g, o + i, none⟩ := Go.WideShapes.add_plain _ _ _
    have hc : w.cell? ⟨g, o + i, none⟩ = some cur[o + i] := by simp [World.cell?, hg, hlt]
    have hz : w.frozen? ⟨g, o + i, none⟩ = false := by
      rcases hf with rfl | hf
      · simp [World.frozen?, hg]
      · simp only [World.frozen?, hg, Bool.and_eq_false_iff, decide_eq_false_iff_not]; left; omega
    have hs : (store ((⟨g, o, none⟩ : Addr).add i) v).run P w = .ok () (w.setRow g (cur.setIfInBounds (o + i) v)) := by
      rw [ea, run_store P w _ v _ (h1 v (by simp)), hc]
      simp [hz, setCell_eq_setRow w g (o + i) cur t fz v hg]
    have hn := ih (i + 1) (cur.setIfInBounds (o + i) v) (w.setRow g (cur.setIfInBounds (o + i) v)) (setRow_heap w g cur _ t _ hg) (by simpa using hf) (by simp; omega) (fun x hx => h1 x (by simp [hx]))
    simp only [storeCells, Sem.run_bind, hs, Result.andThen_ok, hn, setRow_setRow]
    congr 3
    simpa [Array.toList_setIfInBounds, Nat.add_assoc] using list_seg_step cur.toList (o + i) v rest (by simp; omega)

/-- A slice v of the call's own, in a block from B on, holds these bytes. -/
def Txt (B : Nat) (e : TypeId) (v : Value) (zs : List UInt8) (w : World) : Prop :=
  B ≤ w.heap.size ∧ ∃ g cap cur fz, v = .slice (some ⟨g, 0, none⟩) zs.length cap ∧ B ≤ g ∧ w.heap[g]? = some (.cells cur e fz) ∧ (fz = (0, 0) ∨ cur.size ≤ fz.1) ∧ zs.length ≤ cap ∧ cap ≤ maxLen ∧ cur.size = cap ∧ cur.toList.take zs.length = Lib.byteCells zs

theorem Txt.conv {P : Program} (B : Nat) (w : World) (hB : B ≤ w.heap.size) (src dst e : TypeId) (s : ByteArray) (hsz : s.size ≤ maxLen) {u : TypeDesc} (hs : P.underlying src = some u) (hd : P.underlying dst = some (.slice e)) (he : P.underlying e = some (.int .u8)) :
    ∃ v W, (convert src dst (.string s)).run P w = .ok v W ∧ Txt B e v s.data.toList W ∧ Below w.heap.size w W := by
  refine ⟨_, _, Lib.run_convert_string_bytes w src dst e s hs hd he, ⟨by rw [Lib.bytesWorld_size]; omega, w.heap.size, grownCap w s.size 0 e, Lib.bytesCells w e s, _, ?_, hB, Lib.bytesWorld_at_new w e s, .inr (Nat.le_refl _), ?_, grownCap_le_maxLen w _ _ e hsz, ?_, ?_⟩, below_conv w e s⟩
  · rw [← Lib.size_eq]
  · rw [← Lib.size_eq]; exact grownCap_ge w _ _ e
  · have := grownCap_ge w s.size 0 e
    have h1 : s.data.size = s.size := rfl
    simp only [Lib.bytesCells, Array.size_append, Array.size_map, Array.size_replicate, h1]; omega
  · have h1 : s.data.toList.length = s.data.size := by simp
    simp only [Lib.bytesCells, Array.toList_append, Array.toList_map, Lib.byteCells]
    rw [List.take_append_of_le_length (by simp), List.take_of_length_le (by simp)]

theorem Txt.kept {B : Nat} {e : TypeId} {v : Value} {zs : List UInt8} {w w' : World} (h : Txt B e v zs w) (hb : Below w.heap.size w w') : Txt B e v zs w' := by
  obtain ⟨h0, g, cap, cur, fz, hv, hg, hgg, rest⟩ := h
  exact ⟨Nat.le_trans h0 hb.size, g, cap, cur, fz, hv, hg, by rw [hb.block g (Array.getElem?_eq_some_iff.1 hgg).1]; exact hgg, rest⟩

theorem Txt.byteRow {B : Nat} {e : TypeId} {v : Value} {zs : List UInt8} {w : World} (h : Txt B e v zs w) : ∃ g cap, v = .slice (some ⟨g, 0, none⟩) zs.length cap ∧ ByteRow w g zs := by
  obtain ⟨h0, g, cap, cur, fz, hv, hg, hgg, hf, hn, hc, hs, ht⟩ := h
  refine ⟨g, cap, hv, fun i hi => ⟨?_, ?_⟩⟩
  · have hlt : i < cur.size := by omega
    have h1 : (cur.toList.take zs.length)[i]? = some cur[i] := by rw [List.getElem?_take, if_pos hi]; simp [hlt]
    rw [ht, Lib.byteCells, List.getElem?_map, List.getElem?_eq_getElem hi] at h1
    simp only [World.cell?, hgg]
    simpa [hlt] using h1.symm
  · rcases hf with rfl | hf
    · simp [World.frozen?, hgg]
    · simp only [World.frozen?, hgg, Bool.and_eq_false_iff, decide_eq_false_iff_not]; left; omega

/-- 'append(b, t...)'. -/
theorem wpList_append_onto {P : Program} {w : World} {B : Nat} {e : TypeId} {v : Value} {zs : List UInt8} {ops : Array Oper} {rest : List Oper} {o : Oper} {a : Act} {Q : Exit → Act → World → Prop} (hgd : o.guard = none) (sl x : Operand) (t u : TypeId)
    (ho : o.op = .call { callee := .builtin .append, args := #[sl, x], argTypes := #[t, u] })
    (i : TypeInfo) (ht : P.underlying t = some (.slice e)) (hu : P.underlying u = some .string) (hi : P.info? e = some i) (hz : i.zero = some (.int .u8 0)) (hsize : i.size = 1) (hby : i.bytes = 1)
    (hs : a.eval sl = v) (hown : Txt B e v zs w) (s : ByteArray) (hx : a.eval x = .string s) (hsmall : zs.length + s.size ≤ 140737488355328)
    (h : ∀ v' w', Txt B e v' (zs ++ s.data.toList) w' → Below B w w' → wpList P ops Q rest (a.put o.dst v') w') : wpList P ops Q (o :: rest) a w := by
  obtain ⟨h0, g, cap, cur, fz, rfl, hg, hgg, hf, hn, hc, hcs, htk⟩ := hown
  have hlen : (zs ++ s.data.toList).length = zs.length + s.size := by rw [List.length_append, ← Lib.size_eq]
  refine wpList_plain hgd fun K hK => ?_
  have main : ∃ v' w', (Builtin.append_ #[t, u] o.type #[.slice (some ⟨g, 0, none⟩) zs.length cap, .string s]).run P w = .ok v' w' ∧ Txt B e v' (zs ++ s.data.toList) w' ∧ Below B w w' := by
    by_cases hroom : zs.length + s.size ≤ cap
    · have hf1 := Lib.run_firstCells_string (P := P) w 1 s
      have hst := store_marked P g e fz zs.length (Lib.strCells s) 0 cur w hgg hf (by rw [Lib.strCells_length]; omega) (Lib.strCells_oneCell s)
      simp only [Nat.add_zero, Lib.strCells_length] at hst
      have hr : (Builtin.append_ #[t, u] o.type #[.slice (some ⟨g, 0, none⟩) zs.length cap, .string s]).run P w = .ok (.slice (some ⟨g, 0, none⟩) (zs.length + s.size) cap) (w.setRow g (cur.toList.take zs.length ++ Lib.strCells s ++ cur.toList.drop (zs.length + s.size)).toArray) := by
        simp [Builtin.append_, run_underlying ht, run_underlying hu, sizeOf, typeInfo, hi, hsize, Builtin.lenOf, hroom, hf1, Addr.add_lit, hst]
      have hnew : (cur.toList.take zs.length ++ Lib.strCells s ++ cur.toList.drop (zs.length + s.size)).toArray.size = cap := by
        simp only [List.size_toArray, List.length_append, List.length_take, List.length_drop, Array.length_toList, Lib.strCells_length]; omega
      refine ⟨_, _, hr, ⟨by simp [World.setRow]; exact h0, g, cap, _, fz, by rw [hlen], hg, setRow_heap w g cur _ e _ hgg, ?_, by rw [hlen]; exact hroom, hc, hnew, ?_⟩, ?_⟩
      · rcases hf with hf | hf
        · exact .inl hf
        · right; rw [hnew]; omega
      · rw [htk, Lib.byteCells_append, hlen]
        have e1 : (Lib.byteCells zs ++ Lib.byteCells s.data.toList).length = zs.length + s.size := by rw [List.length_append, Lib.byteCells_length, Lib.byteCells_length, ← Lib.size_eq]
        rw [← e1]
        exact List.take_left
      · exact ⟨rfl, rfl, rfl, by simp [World.setRow], fun k hk => setRow_other w g k _ (by omega)⟩
    · have holds : ∀ j y, (Lib.byteCells zs)[j]? = some y → w.cell? ((⟨g, 0, none⟩ : Addr).add j) = some y := fun j y hj => by
        obtain ⟨hj1, hj2⟩ := List.getElem?_eq_some_iff.1 hj
        rw [Lib.byteCells_length] at hj1
        rw [Go.WideShapes.add_plain, Nat.zero_add]
        have hlt : j < cur.size := by omega
        have h1 : (cur.toList.take zs.length)[j]? = some cur[j] := by rw [List.getElem?_take, if_pos hj1]; simp [hlt]
        rw [htk, hj] at h1
        simp only [World.cell?, hgg]
        simpa [hlt] using h1.symm
      have hr := Lib.run_append_grow_string (P := P) w t u o.type e i (.int .u8 0) ht hu hi hz ⟨g, 0, none⟩ zs.length cap (Lib.byteCells zs) (by rw [Lib.byteCells_length, hsize, Nat.mul_one]) holds s (by omega) (by omega) (by rw [hby]; exact growslice_fits (by omega) (by omega))
      refine ⟨_, _, hr, ⟨by simp; omega, w.heap.size, _, _, (0, 0), by rw [hlen], h0, heap_alloc_new w.drew _, .inl rfl, by rw [hlen]; exact grownCap_ge w _ cap e, grownCap_le_maxLen w _ cap e (by unfold maxLen; omega), ?_, ?_⟩, ?_⟩
      · have hz1 : (Value.int IntKind.u8 0).cells.size = 1 := rfl
        have := grownCap_ge w (zs.length + s.size) cap e
        simp only [Array.size_append, List.size_toArray, size_zeroCells, hz1, Lib.byteCells_length, Lib.strCells_length]; omega
      · have e1 : (Lib.byteCells zs ++ Lib.byteCells s.data.toList).length = zs.length + s.size := by rw [List.length_append, Lib.byteCells_length, Lib.byteCells_length, ← Lib.size_eq]
        simp only [Array.toList_append]
        rw [Lib.byteCells_append, hlen, Lib.strCells_eq, ← e1]
        exact List.take_left
      · exact ((Below.refl B w).drew).alloc (by simpa using h0) _
  obtain ⟨v', w', hr, h2, h3⟩ := main
  unfold Oper.wp execOp
  simp only [ho, resolve, invoke, builtin, Sem.run_bind, Sem.run_pure, Result.andThen_ok, List.map_toArray, List.map_cons, List.map_nil, hs, hx, hr]
  exact hK _ _ (h v' w' h2 h3)

end Go.Proofs.Ytamhmbmbcgjbmaa.Base
