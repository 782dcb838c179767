/-
  Joined out of: The walk of what tells a command with nothing but what it has by its kind: what is altered, reserved.
-/
import Derived.Test.YtdkngidangfkiaaGreatDoorJa35
namespace Go.Proofs.YtdkngidangfkiaaGreatDoor.Cmd
open Go.RowKit
open Base
open Shape (altC altC_length)
set_option linter.unusedVariables false
set_option linter.unusedSimpArgs false
set_option maxRecDepth 100000 in
set_option maxHeartbeats 1000000 in
theorem alone5 (c : Co) (va vd : Value) (w : World) (h1 : Row w va c.alts) (h2 : Row w vd c.after) (hk : c.kind = 5) :
    Calls Tryz.prog 30 #[cmdV c va vd] w fun e w' => Co2Says (aloneC c) w e w' := by
  obtain ⟨K, a2, a3, a4, a5, a6, a7, a8, a9, a10, a11, a12, a13, a14, a15, a16, a17, a18⟩ := c
  have HA := Lib.hid (fun w' (hb : Below w.heap.size w w') => h1.below hb)
  have HD := Lib.hid (fun w' (hb : Below w.heap.size w w') => h2.below hb)
  obtain ⟨pa, qa, rfl, l1, m1, r1, n1⟩ := h1
  obtain ⟨pd, qd, rfl, l2, m2, r2, n2⟩ := h2
  unfold aloneC Co2Says cmdV zCo
  dsimp only at *
  have t1 : (K == 1) = false := by rw [hk]; rfl
  have t5 : (K == 5) = true := by simpa using hk
  have t6 : (K == 6) = false := by rw [hk]; rfl
  have t7 : (K == 7) = false := by rw [hk]; rfl
  have t8 : (K == 8) = false := by rw [hk]; rfl
  have t9 : (K == 9) = false := by rw [hk]; rfl
  have t10 : (K == 10) = false := by rw [hk]; rfl
  rw [if_neg (by omega), if_pos hk]
  clear r1 n1 r2 n2 l1 l2 m1 m2 hk
  go_enter Tryz.func30, Tryz.ntmps30
  go_upto_region 2 with (first
    | (refine st_cmd rfl (.tmp 3) (.tmp 6) rfl (w.heap.size + 1 + 1) _ _ _ rfl rfl (three_heap w _ _ _).2.2 rfl rfl (by kernel_rfl) ?_)
    | fail)
  obtain ⟨W1, hW⟩ : ∃ W1, W1 = (((w.alloc (.cells #[.int .i64 K, .int .i64 a2, .string a3, .string a4, .string a5, .int .i64 a6, .slice pa a7.length qa, .int .i64 a8, .int .i64 a9, .int .i64 a10, .int .i64 a11, .bool a12, .int .i64 a13, .bool a14, .slice pd a15.length qd, .int .i64 a16, .int .i64 a17, .int .i64 a18] 27)).alloc (.cells #[.int .i64 0, .int .i64 0, .string ⟨#[]⟩, .string ⟨#[]⟩, .string ⟨#[]⟩, .int .i64 0, .slice none 0 0, .int .i64 0, .int .i64 0, .int .i64 0, .int .i64 0, .bool false, .int .i64 0, .bool false, .slice none 0 0, .int .i64 0, .int .i64 0, .int .i64 0] 27)).alloc (.cells #[.int .i64 0, .int .i64 0, .string ⟨#[]⟩, .string ⟨#[]⟩, .string ⟨#[]⟩, .int .i64 0, .slice none 0 0, .int .i64 0, .int .i64 0, .int .i64 0, .int .i64 0, .bool false, .int .i64 0, .bool false, .slice none 0 0, .int .i64 0, .int .i64 0, .int .i64 0] 27)).setRow (w.heap.size + 1 + 1) #[.int .i64 K, .int .i64 0, .string ⟨#[]⟩, .string ⟨#[]⟩, .string ⟨#[]⟩, .int .i64 0, .slice none 0 0, .int .i64 0, .int .i64 0, .int .i64 0, .int .i64 0, .bool false, .int .i64 0, .bool false, .slice none 0 0, .int .i64 0, .int .i64 0, .int .i64 0] := ⟨_, rfl⟩
  have hA1 : W1.heap[w.heap.size]? = some (.cells #[.int .i64 K, .int .i64 a2, .string a3, .string a4, .string a5, .int .i64 a6, .slice pa a7.length qa, .int .i64 a8, .int .i64 a9, .int .i64 a10, .int .i64 a11, .bool a12, .int .i64 a13, .bool a14, .slice pd a15.length qd, .int .i64 a16, .int .i64 a17, .int .i64 a18] 27) := by rw [hW, setRow_other _ _ _ _ (by omega)]; exact (three_heap w _ _ _).1
  have hR1 : W1.heap[w.heap.size + 1]? = some (.cells #[.int .i64 0, .int .i64 0, .string ⟨#[]⟩, .string ⟨#[]⟩, .string ⟨#[]⟩, .int .i64 0, .slice none 0 0, .int .i64 0, .int .i64 0, .int .i64 0, .int .i64 0, .bool false, .int .i64 0, .bool false, .slice none 0 0, .int .i64 0, .int .i64 0, .int .i64 0] 27) := by rw [hW, setRow_other _ _ _ _ (by omega)]; exact (three_heap w _ _ _).2.1
  have hN1 : W1.heap[w.heap.size + 1 + 1]? = some (.cells #[.int .i64 K, .int .i64 0, .string ⟨#[]⟩, .string ⟨#[]⟩, .string ⟨#[]⟩, .int .i64 0, .slice none 0 0, .int .i64 0, .int .i64 0, .int .i64 0, .int .i64 0, .bool false, .int .i64 0, .bool false, .slice none 0 0, .int .i64 0, .int .i64 0, .int .i64 0] 27) := by rw [hW]; exact setRow_heap _ _ _ _ _ _ (three_heap w _ _ _).2.2
  have hB1 : Below w.heap.size w W1 := by rw [hW]; exact below_setRow (below_three _ _ _) _ _ (by omega)
  have hf : ∀ i, W1.frozen? ⟨w.heap.size + 1 + 1, i, none⟩ = false := fun i => by simp [World.frozen?, hN1]
  have hne : ∀ (X : World) (v : Value) (i j : Nat), (X.setCell ⟨w.heap.size + 1 + 1, i, none⟩ v).cell? ⟨w.heap.size, j, none⟩ = X.cell? ⟨w.heap.size, j, none⟩ := fun X v i j => World.cell?_setCell_other _ _ _ _ (fun h => by injection h; omega)
  obtain ⟨x0, x1, x2, x3, x4, x5, x6, x7, x8, x9, x10, x11, x12, x13, x14, x15, x16, x17⟩ := all18 hA1
  obtain ⟨y0, y1, y2, y3, y4, y5, y6, y7, y8, y9, y10, y11, y12, y13, y14, y15, y16, y17⟩ := all18 hN1
  clear x2 x3 x4 x5 x6 x7 x8 x9 x14 x15 x16 x17 y2 y3 y4 y5 y6 y7 y8 y9 y14 y15 y16 y17
  rw [← hW]
  have HR1 := Lib.hid hR1
  have HN1 := Lib.hid hN1
  have HB1 := Lib.hid hB1
  clear hW hA1 hR1 hN1 hB1
  go_upto_region 8 with fail
  go_region
  all_goals
    go_upto_region 17 with fail
    refine wp_region_list ?_
    refine ld_cmd rfl (.tmp 3) rfl (w.heap.size + 1 + 1) _ _ rfl (heap_set_same (heap_set_same (heap_set_same (heap_set_same (heap_set_same HN1.out (.int .i64 a2)) (.int .i64 a11)) (.bool a12)) (.int .i64 a13)) (.bool a14)) rfl ?_
    refine st_cmd rfl (.tmp 2) (.tmp 81) rfl (w.heap.size + 1) _ _ _ rfl rfl (by (try simp only [drew_heap]); (repeat rw [heap_set_other _ _ (by show w.heap.size + 1 + 1 ≠ w.heap.size + 1; omega)]); exact HR1.out) rfl rfl (by kernel_rfl) ?_
    go_wp2
    exact bodyPost_ret (v := .agg #[.int .i64 K, .int .i64 a2, .string ⟨#[]⟩, .string ⟨#[]⟩, .string ⟨#[]⟩, .int .i64 0, .slice none 0 0, .int .i64 0, .int .i64 0, .int .i64 0, .int .i64 a11, .bool a12, .int .i64 a13, .bool a14, .slice none 0 0, .int .i64 0, .int .i64 0, .int .i64 0]) (res_cmd Tryz.results30 _ _ (w.heap.size + 1) 27 _ rfl (setRow_heap _ _ _ _ _ _ (by (try simp only [drew_heap]); (repeat rw [heap_set_other _ _ (by show w.heap.size + 1 + 1 ≠ w.heap.size + 1; omega)]); exact HR1.out)) rfl) rfl ⟨_, _, rfl, Row.nil _, Row.nil _, (below_setRow (((((HB1.out.setCell (by show w.heap.size ≤ w.heap.size + 1 + 1; omega) _).setCell (by show w.heap.size ≤ w.heap.size + 1 + 1; omega) _).setCell (by show w.heap.size ≤ w.heap.size + 1 + 1; omega) _).setCell (by show w.heap.size ≤ w.heap.size + 1 + 1; omega) _).setCell (by show w.heap.size ≤ w.heap.size + 1 + 1; omega) _).drew _ _ (Nat.le_succ _))⟩
set_option maxRecDepth 100000 in
set_option maxHeartbeats 1000000 in
theorem alone10 (c : Co) (va vd : Value) (w : World) (h1 : Row w va c.alts) (h2 : Row w vd c.after) (hk : c.kind = 10) :
    Calls Tryz.prog 30 #[cmdV c va vd] w fun e w' => Co2Says (aloneC c) w e w' := by
  obtain ⟨K, a2, a3, a4, a5, a6, a7, a8, a9, a10, a11, a12, a13, a14, a15, a16, a17, a18⟩ := c
  have HA := Lib.hid (fun w' (hb : Below w.heap.size w w') => h1.below hb)
  have HD := Lib.hid (fun w' (hb : Below w.heap.size w w') => h2.below hb)
  obtain ⟨pa, qa, rfl, l1, m1, r1, n1⟩ := h1
  obtain ⟨pd, qd, rfl, l2, m2, r2, n2⟩ := h2
  unfold aloneC Co2Says cmdV zCo
  dsimp only at *
  have t1 : (K == 1) = false := by rw [hk]; rfl
  have t5 : (K == 5) = false := by rw [hk]; rfl
  have t6 : (K == 6) = false := by rw [hk]; rfl
  have t7 : (K == 7) = false := by rw [hk]; rfl
  have t8 : (K == 8) = false := by rw [hk]; rfl
  have t9 : (K == 9) = false := by rw [hk]; rfl
  have t10 : (K == 10) = true := by simpa using hk
  rw [if_neg (by omega), if_neg (by omega), if_neg (by omega), if_neg (by omega), if_pos hk]
  clear r1 n1 r2 n2 l1 l2 m1 m2 hk
  go_enter Tryz.func30, Tryz.ntmps30
  go_upto_region 2 with (first
    | (refine st_cmd rfl (.tmp 3) (.tmp 6) rfl (w.heap.size + 1 + 1) _ _ _ rfl rfl (three_heap w _ _ _).2.2 rfl rfl (by kernel_rfl) ?_)
    | fail)
  obtain ⟨W1, hW⟩ : ∃ W1, W1 = (((w.alloc (.cells #[.int .i64 K, .int .i64 a2, .string a3, .string a4, .string a5, .int .i64 a6, .slice pa a7.length qa, .int .i64 a8, .int .i64 a9, .int .i64 a10, .int .i64 a11, .bool a12, .int .i64 a13, .bool a14, .slice pd a15.length qd, .int .i64 a16, .int .i64 a17, .int .i64 a18] 27)).alloc (.cells #[.int .i64 0, .int .i64 0, .string ⟨#[]⟩, .string ⟨#[]⟩, .string ⟨#[]⟩, .int .i64 0, .slice none 0 0, .int .i64 0, .int .i64 0, .int .i64 0, .int .i64 0, .bool false, .int .i64 0, .bool false, .slice none 0 0, .int .i64 0, .int .i64 0, .int .i64 0] 27)).alloc (.cells #[.int .i64 0, .int .i64 0, .string ⟨#[]⟩, .string ⟨#[]⟩, .string ⟨#[]⟩, .int .i64 0, .slice none 0 0, .int .i64 0, .int .i64 0, .int .i64 0, .int .i64 0, .bool false, .int .i64 0, .bool false, .slice none 0 0, .int .i64 0, .int .i64 0, .int .i64 0] 27)).setRow (w.heap.size + 1 + 1) #[.int .i64 K, .int .i64 0, .string ⟨#[]⟩, .string ⟨#[]⟩, .string ⟨#[]⟩, .int .i64 0, .slice none 0 0, .int .i64 0, .int .i64 0, .int .i64 0, .int .i64 0, .bool false, .int .i64 0, .bool false, .slice none 0 0, .int .i64 0, .int .i64 0, .int .i64 0] := ⟨_, rfl⟩
  have hA1 : W1.heap[w.heap.size]? = some (.cells #[.int .i64 K, .int .i64 a2, .string a3, .string a4, .string a5, .int .i64 a6, .slice pa a7.length qa, .int .i64 a8, .int .i64 a9, .int .i64 a10, .int .i64 a11, .bool a12, .int .i64 a13, .bool a14, .slice pd a15.length qd, .int .i64 a16, .int .i64 a17, .int .i64 a18] 27) := by rw [hW, setRow_other _ _ _ _ (by omega)]; exact (three_heap w _ _ _).1
  have hR1 : W1.heap[w.heap.size + 1]? = some (.cells #[.int .i64 0, .int .i64 0, .string ⟨#[]⟩, .string ⟨#[]⟩, .string ⟨#[]⟩, .int .i64 0, .slice none 0 0, .int .i64 0, .int .i64 0, .int .i64 0, .int .i64 0, .bool false, .int .i64 0, .bool false, .slice none 0 0, .int .i64 0, .int .i64 0, .int .i64 0] 27) := by rw [hW, setRow_other _ _ _ _ (by omega)]; exact (three_heap w _ _ _).2.1
  have hN1 : W1.heap[w.heap.size + 1 + 1]? = some (.cells #[.int .i64 K, .int .i64 0, .string ⟨#[]⟩, .string ⟨#[]⟩, .string ⟨#[]⟩, .int .i64 0, .slice none 0 0, .int .i64 0, .int .i64 0, .int .i64 0, .int .i64 0, .bool false, .int .i64 0, .bool false, .slice none 0 0, .int .i64 0, .int .i64 0, .int .i64 0] 27) := by rw [hW]; exact setRow_heap _ _ _ _ _ _ (three_heap w _ _ _).2.2
  have hB1 : Below w.heap.size w W1 := by rw [hW]; exact below_setRow (below_three _ _ _) _ _ (by omega)
  have hf : ∀ i, W1.frozen? ⟨w.heap.size + 1 + 1, i, none⟩ = false := fun i => by simp [World.frozen?, hN1]
  have hne : ∀ (X : World) (v : Value) (i j : Nat), (X.setCell ⟨w.heap.size + 1 + 1, i, none⟩ v).cell? ⟨w.heap.size, j, none⟩ = X.cell? ⟨w.heap.size, j, none⟩ := fun X v i j => World.cell?_setCell_other _ _ _ _ (fun h => by injection h; omega)
  obtain ⟨x0, x1, x2, x3, x4, x5, x6, x7, x8, x9, x10, x11, x12, x13, x14, x15, x16, x17⟩ := all18 hA1
  obtain ⟨y0, y1, y2, y3, y4, y5, y6, y7, y8, y9, y10, y11, y12, y13, y14, y15, y16, y17⟩ := all18 hN1
  clear x1 x2 x3 x4 x5 x6 x7 x8 x9 x10 x11 x14 x15 y1 y2 y3 y4 y5 y6 y7 y8 y9 y10 y11 y14 y15
  rw [← hW]
  have HR1 := Lib.hid hR1
  have HN1 := Lib.hid hN1
  have HB1 := Lib.hid hB1
  clear hW hA1 hR1 hN1 hB1
  go_upto_region 16 with fail
  go_region
  all_goals
    go_upto_region 17 with fail
    refine wp_region_list ?_
    refine ld_cmd rfl (.tmp 3) rfl (w.heap.size + 1 + 1) _ _ rfl (heap_set_same (heap_set_same (heap_set_same (heap_set_same HN1.out (.int .i64 a18)) (.int .i64 a13)) (.bool a14)) (.int .i64 a17)) rfl ?_
    refine st_cmd rfl (.tmp 2) (.tmp 81) rfl (w.heap.size + 1) _ _ _ rfl rfl (by (try simp only [drew_heap]); (repeat rw [heap_set_other _ _ (by show w.heap.size + 1 + 1 ≠ w.heap.size + 1; omega)]); exact HR1.out) rfl rfl (by kernel_rfl) ?_
    go_wp2
    exact bodyPost_ret (v := .agg #[.int .i64 K, .int .i64 0, .string ⟨#[]⟩, .string ⟨#[]⟩, .string ⟨#[]⟩, .int .i64 0, .slice none 0 0, .int .i64 0, .int .i64 0, .int .i64 0, .int .i64 0, .bool false, .int .i64 a13, .bool a14, .slice none 0 0, .int .i64 0, .int .i64 a17, .int .i64 a18]) (res_cmd Tryz.results30 _ _ (w.heap.size + 1) 27 _ rfl (setRow_heap _ _ _ _ _ _ (by (try simp only [drew_heap]); (repeat rw [heap_set_other _ _ (by show w.heap.size + 1 + 1 ≠ w.heap.size + 1; omega)]); exact HR1.out)) rfl) rfl ⟨_, _, rfl, Row.nil _, Row.nil _, (below_setRow ((((HB1.out.setCell (by show w.heap.size ≤ w.heap.size + 1 + 1; omega) _).setCell (by show w.heap.size ≤ w.heap.size + 1 + 1; omega) _).setCell (by show w.heap.size ≤ w.heap.size + 1 + 1; omega) _).setCell (by show w.heap.size ≤ w.heap.size + 1 + 1; omega) _).drew _ _ (Nat.le_succ _))⟩
end Go.Proofs.YtdkngidangfkiaaGreatDoor.Cmd
