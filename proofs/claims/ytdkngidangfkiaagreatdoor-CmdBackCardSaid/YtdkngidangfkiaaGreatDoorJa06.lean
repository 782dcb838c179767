/-
  Joined out of: The walk of the program's pieces of a line.
-/
import Derived.Test.YtdkngidangfkiaaGreatDoorJa05
namespace Go.Proofs.YtdkngidangfkiaaGreatDoor.Lex
open Go.RowKit
open Base Runes
set_option linter.unusedVariables false
set_option linter.unusedSimpArgs false
def cut (s : ByteArray) (a b : Nat) : List UInt8 := (s.data.toList.take b).drop a
theorem cut_length (s : ByteArray) (a b : Nat) (hb : b ≤ s.size) : (cut s a b).length = b - a := by
  unfold cut; rw [List.length_drop, List.length_take, ← Lib.size_eq]; omega
theorem toB_cut (s : ByteArray) (a b : Nat) : toB (cut s a b) = s.extract a b := by
  apply ByteArray.ext; apply Array.toList_inj.1
  rw [Lib.extract_data, toB_data]
  unfold cut
  rw [List.drop_take]
theorem cut_more (s : ByteArray) (a p k : Nat) (ha : a ≤ p) (hp : p ≤ s.size) : cut s a p ++ (s.data.toList.drop p).take k = cut s a (p + k) := by
  unfold cut
  rw [List.take_add, List.drop_append_of_le_length (by rw [List.length_take, ← Lib.size_eq]; omega)]
theorem cut_one (s : ByteArray) (p k : Nat) : (s.data.toList.drop p).take k = cut s p (p + k) := by
  unfold cut; rw [List.drop_take, Nat.add_sub_cancel_left]
theorem cut_nil (s : ByteArray) (a p : Nat) (ha : a ≤ p) (hp : p ≤ s.size) : cut s a p = [] ↔ a = p := by
  rw [List.eq_nil_iff_length_eq_zero, cut_length s a p hp]; omega
theorem grp_on {s : ByteArray} {pos a : Nat} {m : Mo} (hp : pos < s.size) (ha : a ≤ pos) (h : m.q (Utf8.decode s pos).1 = true) :
    grp m (cut s a pos) (ps s pos) = grp (m.nx (Utf8.decode s pos).1) (cut s a (pos + (Utf8.decode s pos).2)) (ps s (pos + (Utf8.decode s pos).2)) := by
  rw [ps_step s pos hp, grp, if_pos h, cut_more s a pos _ ha (by omega)]
theorem grp_off {s : ByteArray} {pos a : Nat} {m : Mo} (hp : pos < s.size) (ha : a ≤ pos) (h : m.q (Utf8.decode s pos).1 = false) :
    (grp m (cut s a pos) (ps s pos)).map toB = (if a = pos then [] else [s.extract a pos]) ++ (grp (beg (Utf8.decode s pos).1) (cut s pos (pos + (Utf8.decode s pos).2)) (ps s (pos + (Utf8.decode s pos).2))).map toB := by
  rw [ps_step s pos hp, grp, if_neg (by rw [h]; simp), cut_one, List.map_append]
  congr 1
  by_cases he : a = pos
  · rw [if_pos he, if_pos ((cut_nil s a pos ha (by omega)).2 he)]; rfl
  · rw [if_neg he, if_neg (fun x => he ((cut_nil s a pos ha (by omega)).1 x)), List.map_cons, toB_cut]; rfl
theorem grp_last {s : ByteArray} {pos a : Nat} {m : Mo} (hp : ¬ pos < s.size) (ha : a ≤ pos) (hs : pos ≤ s.size) :
    (grp m (cut s a pos) (ps s pos)).map toB = if a = s.size then [] else [s.extract a s.size] := by
  obtain rfl : pos = s.size := by omega
  rw [ps_end s s.size hp, grp]
  by_cases he : a = s.size
  · rw [if_pos he, if_pos ((cut_nil s a s.size ha (by omega)).2 he)]; rfl
  · rw [if_neg he, if_neg (fun x => he ((cut_nil s a s.size ha (by omega)).1 x)), List.map_cons, toB_cut]; rfl
theorem info_str : (Tryz.prog.info? 9).map (fun i => (i.zero, i.size, i.bytes)) = some (some (.string ⟨#[]⟩), 1, 16) := by kernel_rfl
abbrev strV : ByteArray → Value := Value.string
theorem TextAt.heap {b : Nat} {m e : Bool} {w w' : World} (h : TextAt b m e w) (h0 : w'.heap[b]? = w.heap[b]?) (h1 : w'.heap[b + 1]? = w.heap[b + 1]?) : TextAt b m e w' := by
  obtain ⟨a1, a2, a3, a4⟩ := h
  simp only [TextAt, World.cell?, World.frozen?, h0, h1] at a1 a2 a3 a4 ⊢
  exact ⟨a1, a2, a3, a4⟩
theorem TextAt.set {b : Nat} {m e : Bool} {w : World} (h : TextAt b m e w) (m' e' : Bool) : TextAt b m' e' ((w.setCell ⟨b + 1, 0, none⟩ (.bool e')).setCell ⟨b, 0, none⟩ (.bool m')) := by
  obtain ⟨h1, h2, h3, h4⟩ := h
  have n1 : (⟨b + 1, 0, none⟩ : Addr) ≠ ⟨b, 0, none⟩ := fun h => by injection h; omega
  have n2 : (⟨b, 0, none⟩ : Addr) ≠ ⟨b + 1, 0, none⟩ := fun h => by injection h; omega
  refine ⟨World.cell?_setCell_same _ _ _ (u := .bool m) ?_, ?_, ?_, ?_⟩
  · rw [World.cell?_setCell_other _ _ _ _ n1]; exact h1
  · rw [World.frozen?_setCell, World.frozen?_setCell]; exact h2
  · rw [World.cell?_setCell_other _ _ _ _ n2]; exact World.cell?_setCell_same _ _ _ h3
  · rw [World.frozen?_setCell, World.frozen?_setCell]; exact h4
theorem TextAt.lt {b : Nat} {m e : Bool} {w : World} (h : TextAt b m e w) : b + 1 < w.heap.size := lt_of_cell h.2.2.1
theorem own_kept2 {B : Nat} {t : TypeId} {v : Value} {zs : List ByteArray} {w w' : World} {k : Nat} (h : Own strV B t v zs w) (hg : w.grownBy w' (some k)) (hk : ∀ j, v.ownBlock = some j → j < k) : Own strV B t v zs w' := by
  refine ⟨h.1.kept hg ?_, Nat.le_trans h.2 hg.size⟩
  cases hv : v.ownBlock with
  | none => exact .inl rfl
  | some j =>
    refine .inr fun he => ?_
    have := hk j hv
    cases he; omega
theorem own_lt {B : Nat} {t : TypeId} {v : Value} {zs : List ByteArray} {w : World} (h : Own strV B t v zs w) : ∀ j, v.ownBlock = some j → j < w.heap.size := fun j hj => (h.1.lt j hj).2
set_option maxRecDepth 100000 in
set_option maxHeartbeats 4000000 in
theorem pieces_any (s : ByteArray) (hs : s.size ≤ 1000000) (w : World) :
    Calls Tryz.prog 61 #[.string s] w fun e w' => ∃ ao cap, e = .returned (.slice ao (pcs s).length cap) ∧ Reads strV w' ao (pcs s) ∧ (ao = none → cap = 0) ∧ (pcs s).length ≤ cap ∧ cap ≤ maxLen ∧ Below w.heap.size w w' := by
  obtain ⟨i0, hi, hz0, hz1, hz2⟩ := info_parts info_str
  have HI := Lib.hid hi
  have HZ0 := Lib.hid hz0
  have HZ1 := Lib.hid hz1
  have HZ2 := Lib.hid hz2
  clear hi hz0 hz1 hz2
  have c0 := belongs_any 32 w
  have hb32 : beg 32 = .no := beg_no (by decide) (by decide) (by decide)
  have c0 : Calls Tryz.prog 86 #[.int .i32 32] w fun e w' => e = .returned (moV w.heap.size (beg 32)) ∧ MoAt w.heap.size (beg 32) w' ∧ Below w.heap.size w w' := belongs_any 32 w
  rw [hb32] at c0
  have C0 := Lib.hid c0
  clear c0
  obtain ⟨Z, hZ⟩ : ∃ Z, Z = pcs s := ⟨_, rfl⟩
  rw [← hZ]
  have HZ := Lib.hid hZ
  clear hZ
  go_enter Tryz.func61, Tryz.ntmps61
  go_wp2_with (first | (go_at_call 86; (with_reducible refine (C0.out).mono ?_); rintro e w1 ⟨rfl, _, p1⟩) | fail)
  have hH := p1.size
  have P1 := Lib.hid p1
  clear p1
  go_loopw [3, 4, 5] (fun l fr mo wr => ∃ (pos a b : Nat) (m : Mo) (zs : List ByteArray), fr = .int .i64 (a : Int) ∧ mo = moV b m ∧ wr.heap[w1.heap.size]? = some (.stringIter s pos) ∧ Own strV (w1.heap.size + 1) 9 l zs wr ∧ (∀ j, l.ownBlock = some j → j < b) ∧ w1.heap.size + 1 ≤ b ∧ MoAt b m wr ∧ Below w.heap.size w wr ∧ zs ++ (grp m (cut s a pos) (ps s pos)).map toB = Z ∧ a ≤ pos ∧ pos ≤ s.size ∧ zs.length ≤ pos) (fun _ _ _ wr => s.size - wr.iterPos w1.heap.size)
  case atStart =>
    refine ⟨0, 0, w1.heap.size + 1, .no, [], rfl, rfl, World.iter_heap w1 s 0, Own.nil (by unfold World.iter; simp), ?_, Nat.le_refl _, trivial, (below_iter w1 s 0).from P1.out, ?_, Nat.le_refl _, Nat.zero_le _, Nat.le_refl _⟩
    · intro j hj; simp [Value.ownBlock] at hj
    · rw [HZ.out]; rfl
  case round =>
    obtain ⟨pos, a, b, m, zs, rfl, rfl, hit, ho, hsep, hbH, hma, hb, hc, hap, hp0, hzl⟩ := hrel
    by_cases hp : pos < s.size
    · have hnx : ∀ ty, (Instr.next (.pointer (some ⟨w1.heap.size, 0, none⟩)) true ty).run Tryz.prog wr = _ := fun ty => Lib.run_next_any_at wr w1.heap.size s pos ty hit hp
      have hwd := ps_width s pos hp
      have hm0 : wr.iterPos w1.heap.size = pos := by simp [World.iterPos, hit]
      have ho2 := ho.kept (grown_iterAt wr w1.heap.size s (pos + (Utf8.decode s pos).2)) (fun k hk => by cases hk; omega)
      have hit2 := Lib.iterAt_heap wr w1.heap.size s pos (pos + (Utf8.decode s pos).2) hit
      have hb2 := Lib.below_iterAt hb hH s (pos + (Utf8.decode s pos).2)
      have hm2 : (wr.iterAt w1.heap.size s (pos + (Utf8.decode s pos).2)).iterPos w1.heap.size = pos + (Utf8.decode s pos).2 := by simp [World.iterPos, hit2]
      have HO := Lib.hid ho2
      have HT := Lib.hid hit2
      have HB := Lib.hid hb2
      have HM2 := Lib.hid hm2
      have HSEP := Lib.hid hsep
      clear ho ho2 hit2 hb2 hb hm2 hsep
      cases m with
      | no =>
        rw [grp_off hp hap rfl, ← List.append_assoc] at hc
        unfold moV
        by_cases hfe : a = pos
        · have HC : Hid (zs ++ (grp (beg (Utf8.decode s pos).1) (cut s pos (pos + (Utf8.decode s pos).2)) (ps s (pos + (Utf8.decode s pos).2))).map toB = Z) := Lib.hid (by rw [if_pos hfe, List.append_nil] at hc; exact hc)
          clear hc
          go_wp2_with (first
            | (go_at_call 127; (with_reducible refine (bel3_any _ _).mono ?_); rintro e w' ⟨rfl, rfl⟩)
            | (go_at_call 86; (with_reducible refine (belongs_any _ _).mono ?_); rintro e w4 ⟨rfl, hm4, p4⟩)
            | fail)
          have it4 : w4.heap[w1.heap.size]? = some (.stringIter s (pos + (Utf8.decode s pos).2)) := by rw [p4.block _ (lt_of_heap HT.out)]; exact HT.out
          refine ⟨⟨pos + (Utf8.decode s pos).2, pos, _, _, zs, rfl, rfl, it4, HO.out.below p4, own_lt HO.out, lt_of_heap HT.out, hm4, p4.from HB.out, HC.out, by omega, by omega, by omega⟩, ?_⟩
          rw [hm0]; simp only [World.iterPos, it4]; omega
        · have hfl : a < pos := by omega
          have HC : Hid ((zs ++ [s.extract a pos]) ++ (grp (beg (Utf8.decode s pos).1) (cut s pos (pos + (Utf8.decode s pos).2)) (ps s (pos + (Utf8.decode s pos).2))).map toB = Z) := Lib.hid (by rw [if_neg hfe] at hc; exact hc)
          clear hc hfe
          go_wp2_with (first
            | (go_at_call 127; (with_reducible refine (bel3_any _ _).mono ?_); rintro e w' ⟨rfl, rfl⟩)
            | (at_builtin; refine wpList_append_src rfl (.tmp 21) (.tmp 26) 62 rfl i0 _ 16 Tryz.underlying62 HI.out HZ0.out HZ1.out HZ2.out rfl (fun _ => rfl) rfl (HO.out.alloc _) _ 1 1 [s.extract a pos] rfl rfl (reads_one rfl _ _) (by intro h; cases h) (by omega) (by unfold maxLen; omega) ?_; intro v3 w3 o3 b3)
            | (go_at_call 86; (with_reducible refine (belongs_any _ _).mono ?_); rintro e w4 ⟨rfl, hm4, p4⟩)
            | fail)
          have it3 : w3.heap[w1.heap.size]? = some (.stringIter s (pos + (Utf8.decode s pos).2)) := by
            rw [b3.block _ (Nat.lt_succ_self _), Lib.alloc_old _ _ _ (lt_of_heap HT.out)]; exact HT.out
          have it4 : w4.heap[w1.heap.size]? = some (.stringIter s (pos + (Utf8.decode s pos).2)) := by rw [p4.block _ (lt_of_heap it3)]; exact it3
          refine ⟨⟨pos + (Utf8.decode s pos).2, pos, _, _, zs ++ [s.extract a pos], rfl, rfl, it4, o3.below p4, own_lt o3, lt_of_heap it3, hm4, p4.from ((HB.out.alloc HB.out.size _).trans (b3.mono (by omega))), HC.out, by omega, by omega, by simp; omega⟩, ?_⟩
          rw [hm0]; simp only [World.iterPos, it4]; omega
      | word =>
        have c1 := fun w => bel1_any (Utf8.decode s pos).1 w
        cases hq : wordR (Utf8.decode s pos).1 with
        | true =>
          rw [grp_on hp hap (m := .word) hq] at hc
          simp only [hq] at c1
          have C1 := Lib.hid c1
          clear c1 hq
          unfold moV
          have HC := Lib.hid hc
          clear hc
          go_wp2_with (first
            | (go_at_call 123; (with_reducible refine (C1.out _).mono ?_); rintro e w' ⟨rfl, rfl⟩)
            | fail)
          refine ⟨⟨pos + (Utf8.decode s pos).2, a, b, .word, zs, rfl, rfl, HT.out, HO.out, HSEP.out, hbH, trivial, HB.out, HC.out, by omega, by omega, by omega⟩, ?_⟩
          rw [hm0, HM2.out]; omega
        | false =>
          rw [grp_off hp hap (m := .word) hq, ← List.append_assoc] at hc
          simp only [hq] at c1
          have C1 := Lib.hid c1
          clear c1 hq
          unfold moV
          by_cases hfe : a = pos
          · have HC : Hid (zs ++ (grp (beg (Utf8.decode s pos).1) (cut s pos (pos + (Utf8.decode s pos).2)) (ps s (pos + (Utf8.decode s pos).2))).map toB = Z) := Lib.hid (by rw [if_pos hfe, List.append_nil] at hc; exact hc)
            clear hc
            go_wp2_with (first
              | (go_at_call 123; (with_reducible refine (C1.out _).mono ?_); rintro e w' ⟨rfl, rfl⟩)
              | (go_at_call 86; (with_reducible refine (belongs_any _ _).mono ?_); rintro e w4 ⟨rfl, hm4, p4⟩)
              | fail)
            have it4 : w4.heap[w1.heap.size]? = some (.stringIter s (pos + (Utf8.decode s pos).2)) := by rw [p4.block _ (lt_of_heap HT.out)]; exact HT.out
            refine ⟨⟨pos + (Utf8.decode s pos).2, pos, _, _, zs, rfl, rfl, it4, HO.out.below p4, own_lt HO.out, lt_of_heap HT.out, hm4, p4.from HB.out, HC.out, by omega, by omega, by omega⟩, ?_⟩
            rw [hm0]; simp only [World.iterPos, it4]; omega
          · have hfl : a < pos := by omega
            have HC : Hid ((zs ++ [s.extract a pos]) ++ (grp (beg (Utf8.decode s pos).1) (cut s pos (pos + (Utf8.decode s pos).2)) (ps s (pos + (Utf8.decode s pos).2))).map toB = Z) := Lib.hid (by rw [if_neg hfe] at hc; exact hc)
            clear hc hfe
            go_wp2_with (first
              | (go_at_call 123; (with_reducible refine (C1.out _).mono ?_); rintro e w' ⟨rfl, rfl⟩)
              | (at_builtin; refine wpList_append_src rfl (.tmp 21) (.tmp 26) 62 rfl i0 _ 16 Tryz.underlying62 HI.out HZ0.out HZ1.out HZ2.out rfl (fun _ => rfl) rfl (HO.out.alloc _) _ 1 1 [s.extract a pos] rfl rfl (reads_one rfl _ _) (by intro h; cases h) (by omega) (by unfold maxLen; omega) ?_; intro v3 w3 o3 b3)
              | (go_at_call 86; (with_reducible refine (belongs_any _ _).mono ?_); rintro e w4 ⟨rfl, hm4, p4⟩)
              | fail)
            have it3 : w3.heap[w1.heap.size]? = some (.stringIter s (pos + (Utf8.decode s pos).2)) := by
              rw [b3.block _ (Nat.lt_succ_self _), Lib.alloc_old _ _ _ (lt_of_heap HT.out)]; exact HT.out
            have it4 : w4.heap[w1.heap.size]? = some (.stringIter s (pos + (Utf8.decode s pos).2)) := by rw [p4.block _ (lt_of_heap it3)]; exact it3
            refine ⟨⟨pos + (Utf8.decode s pos).2, pos, _, _, zs ++ [s.extract a pos], rfl, rfl, it4, o3.below p4, own_lt o3, lt_of_heap it3, hm4, p4.from ((HB.out.alloc HB.out.size _).trans (b3.mono (by omega))), HC.out, by omega, by omega, by simp; omega⟩, ?_⟩
            rw [hm0]; simp only [World.iterPos, it4]; omega
      | time =>
        have c1 := fun w => bel2_any (Utf8.decode s pos).1 w
        cases hq : smallR (Utf8.decode s pos).1 with
        | true =>
          rw [grp_on hp hap (m := .time) hq] at hc
          simp only [hq] at c1
          have C1 := Lib.hid c1
          clear c1 hq
          unfold moV
          have HC := Lib.hid hc
          clear hc
          go_wp2_with (first
            | (go_at_call 125; (with_reducible refine (C1.out _).mono ?_); rintro e w' ⟨rfl, rfl⟩)
            | fail)
          refine ⟨⟨pos + (Utf8.decode s pos).2, a, b, .time, zs, rfl, rfl, HT.out, HO.out, HSEP.out, hbH, trivial, HB.out, HC.out, by omega, by omega, by omega⟩, ?_⟩
          rw [hm0, HM2.out]; omega
        | false =>
          rw [grp_off hp hap (m := .time) hq, ← List.append_assoc] at hc
          simp only [hq] at c1
          have C1 := Lib.hid c1
          clear c1 hq
          unfold moV
          by_cases hfe : a = pos
          · have HC : Hid (zs ++ (grp (beg (Utf8.decode s pos).1) (cut s pos (pos + (Utf8.decode s pos).2)) (ps s (pos + (Utf8.decode s pos).2))).map toB = Z) := Lib.hid (by rw [if_pos hfe, List.append_nil] at hc; exact hc)
            clear hc
            go_wp2_with (first
              | (go_at_call 125; (with_reducible refine (C1.out _).mono ?_); rintro e w' ⟨rfl, rfl⟩)
              | (go_at_call 86; (with_reducible refine (belongs_any _ _).mono ?_); rintro e w4 ⟨rfl, hm4, p4⟩)
              | fail)
            have it4 : w4.heap[w1.heap.size]? = some (.stringIter s (pos + (Utf8.decode s pos).2)) := by rw [p4.block _ (lt_of_heap HT.out)]; exact HT.out
            refine ⟨⟨pos + (Utf8.decode s pos).2, pos, _, _, zs, rfl, rfl, it4, HO.out.below p4, own_lt HO.out, lt_of_heap HT.out, hm4, p4.from HB.out, HC.out, by omega, by omega, by omega⟩, ?_⟩
            rw [hm0]; simp only [World.iterPos, it4]; omega
          · have hfl : a < pos := by omega
            have HC : Hid ((zs ++ [s.extract a pos]) ++ (grp (beg (Utf8.decode s pos).1) (cut s pos (pos + (Utf8.decode s pos).2)) (ps s (pos + (Utf8.decode s pos).2))).map toB = Z) := Lib.hid (by rw [if_neg hfe] at hc; exact hc)
            clear hc hfe
            go_wp2_with (first
              | (go_at_call 125; (with_reducible refine (C1.out _).mono ?_); rintro e w' ⟨rfl, rfl⟩)
              | (at_builtin; refine wpList_append_src rfl (.tmp 21) (.tmp 26) 62 rfl i0 _ 16 Tryz.underlying62 HI.out HZ0.out HZ1.out HZ2.out rfl (fun _ => rfl) rfl (HO.out.alloc _) _ 1 1 [s.extract a pos] rfl rfl (reads_one rfl _ _) (by intro h; cases h) (by omega) (by unfold maxLen; omega) ?_; intro v3 w3 o3 b3)
              | (go_at_call 86; (with_reducible refine (belongs_any _ _).mono ?_); rintro e w4 ⟨rfl, hm4, p4⟩)
              | fail)
            have it3 : w3.heap[w1.heap.size]? = some (.stringIter s (pos + (Utf8.decode s pos).2)) := by
              rw [b3.block _ (Nat.lt_succ_self _), Lib.alloc_old _ _ _ (lt_of_heap HT.out)]; exact HT.out
            have it4 : w4.heap[w1.heap.size]? = some (.stringIter s (pos + (Utf8.decode s pos).2)) := by rw [p4.block _ (lt_of_heap it3)]; exact it3
            refine ⟨⟨pos + (Utf8.decode s pos).2, pos, _, _, zs ++ [s.extract a pos], rfl, rfl, it4, o3.below p4, own_lt o3, lt_of_heap it3, hm4, p4.from ((HB.out.alloc HB.out.size _).trans (b3.mono (by omega))), HC.out, by omega, by omega, by simp; omega⟩, ?_⟩
            rw [hm0]; simp only [World.iterPos, it4]; omega
      | text mk en =>
        have htx : TextAt b mk en wr := hma
        have hbl := htx.lt
        have htx2 : TextAt b mk en (wr.iterAt w1.heap.size s (pos + (Utf8.decode s pos).2)) := htx.heap (Lib.iterAt_other wr w1.heap.size b s _ (by omega)) (Lib.iterAt_other wr w1.heap.size (b + 1) s _ (by omega))
        have c1 := belT_any (Utf8.decode s pos).1 b mk en _ htx2
        cases en with
        | true =>
          rw [grp_off hp hap (m := .text mk true) rfl, ← List.append_assoc] at hc
          simp only [if_true, Bool.not_true] at c1
          have C1 := Lib.hid c1
          clear c1 htx htx2 hma hbl
          unfold moV
          by_cases hfe : a = pos
          · have HC : Hid (zs ++ (grp (beg (Utf8.decode s pos).1) (cut s pos (pos + (Utf8.decode s pos).2)) (ps s (pos + (Utf8.decode s pos).2))).map toB = Z) := Lib.hid (by rw [if_pos hfe, List.append_nil] at hc; exact hc)
            clear hc
            go_wp2_with (first
              | (go_at_call 160; (with_reducible refine (C1.out).mono ?_); rintro e w' ⟨rfl, rfl⟩)
              | (go_at_call 86; (with_reducible refine (belongs_any _ _).mono ?_); rintro e w4 ⟨rfl, hm4, p4⟩)
              | fail)
            have it4 : w4.heap[w1.heap.size]? = some (.stringIter s (pos + (Utf8.decode s pos).2)) := by rw [p4.block _ (lt_of_heap HT.out)]; exact HT.out
            refine ⟨⟨pos + (Utf8.decode s pos).2, pos, _, _, zs, rfl, rfl, it4, HO.out.below p4, own_lt HO.out, lt_of_heap HT.out, hm4, p4.from HB.out, HC.out, by omega, by omega, by omega⟩, ?_⟩
            rw [hm0]; simp only [World.iterPos, it4]; omega
          · have hfl : a < pos := by omega
            have HC : Hid ((zs ++ [s.extract a pos]) ++ (grp (beg (Utf8.decode s pos).1) (cut s pos (pos + (Utf8.decode s pos).2)) (ps s (pos + (Utf8.decode s pos).2))).map toB = Z) := Lib.hid (by rw [if_neg hfe] at hc; exact hc)
            clear hc hfe
            go_wp2_with (first
              | (go_at_call 160; (with_reducible refine (C1.out).mono ?_); rintro e w' ⟨rfl, rfl⟩)
              | (at_builtin; refine wpList_append_src rfl (.tmp 21) (.tmp 26) 62 rfl i0 _ 16 Tryz.underlying62 HI.out HZ0.out HZ1.out HZ2.out rfl (fun _ => rfl) rfl (HO.out.alloc _) _ 1 1 [s.extract a pos] rfl rfl (reads_one rfl _ _) (by intro h; cases h) (by omega) (by unfold maxLen; omega) ?_; intro v3 w3 o3 b3)
              | (go_at_call 86; (with_reducible refine (belongs_any _ _).mono ?_); rintro e w4 ⟨rfl, hm4, p4⟩)
              | fail)
            have it3 : w3.heap[w1.heap.size]? = some (.stringIter s (pos + (Utf8.decode s pos).2)) := by
              rw [b3.block _ (Nat.lt_succ_self _), Lib.alloc_old _ _ _ (lt_of_heap HT.out)]; exact HT.out
            have it4 : w4.heap[w1.heap.size]? = some (.stringIter s (pos + (Utf8.decode s pos).2)) := by rw [p4.block _ (lt_of_heap it3)]; exact it3
            refine ⟨⟨pos + (Utf8.decode s pos).2, pos, _, _, zs ++ [s.extract a pos], rfl, rfl, it4, o3.below p4, own_lt o3, lt_of_heap it3, hm4, p4.from ((HB.out.alloc HB.out.size _).trans (b3.mono (by omega))), HC.out, by omega, by omega, by simp; omega⟩, ?_⟩
            rw [hm0]; simp only [World.iterPos, it4]; omega
        | false =>
          rw [grp_on hp hap (m := .text mk false) rfl] at hc
          simp only [Bool.false_eq_true, if_false, Bool.not_false] at c1
          have HTX := Lib.hid (htx2.set ((Utf8.decode s pos).1 == 92 && !mk) ((Utf8.decode s pos).1 == 34 && !mk))
          have hon : Own strV (w1.heap.size + 1) 9 _ zs (((wr.iterAt w1.heap.size s (pos + (Utf8.decode s pos).2)).setCell ⟨b + 1, 0, none⟩ (.bool ((Utf8.decode s pos).1 == 34 && !mk))).setCell ⟨b, 0, none⟩ (.bool ((Utf8.decode s pos).1 == 92 && !mk))) :=
            own_kept2 (own_kept2 HO.out (grown_set _ ⟨b + 1, 0, none⟩ _) (fun j hj => by have := HSEP.out j hj; dsimp only; omega)) (grown_set _ ⟨b, 0, none⟩ _) (fun j hj => HSEP.out j hj)
          have hitn : ((((wr.iterAt w1.heap.size s (pos + (Utf8.decode s pos).2)).setCell ⟨b + 1, 0, none⟩ (.bool ((Utf8.decode s pos).1 == 34 && !mk))).setCell ⟨b, 0, none⟩ (.bool ((Utf8.decode s pos).1 == 92 && !mk)))).heap[w1.heap.size]? = some (.stringIter s (pos + (Utf8.decode s pos).2)) := by
            rw [Below.heap_setCell _ _ _ _ (by simp; omega), Below.heap_setCell _ _ _ _ (by simp; omega)]; exact HT.out
          have HON := Lib.hid hon
          have HITN := Lib.hid hitn
          have HBN := Lib.hid ((HB.out.setCell (p := ⟨b + 1, 0, none⟩) (by simp; omega) (.bool ((Utf8.decode s pos).1 == 34 && !mk))).setCell (p := ⟨b, 0, none⟩) (by simp; omega) (.bool ((Utf8.decode s pos).1 == 92 && !mk)))
          have HC := Lib.hid hc
          have C1 := Lib.hid c1
          clear hc c1 htx htx2 hma hbl hon hitn
          unfold moV
          go_wp2_with (first
            | (go_at_call 160; (with_reducible refine (C1.out).mono ?_); rintro e w' ⟨rfl, rfl⟩)
            | fail)
          refine ⟨⟨pos + (Utf8.decode s pos).2, a, b, .text _ _, zs, rfl, rfl, HITN.out, HON.out, HSEP.out, hbH, HTX.out, HBN.out, HC.out, by omega, by omega, by omega⟩, ?_⟩
          rw [hm0]; simp only [World.iterPos, HITN.out]; omega
    · have hnx : ∀ ty, (Instr.next (.pointer (some ⟨w1.heap.size, 0, none⟩)) true ty).run Tryz.prog wr = _ := fun ty => Lib.run_next_end_at wr w1.heap.size s pos ty hit hp
      rw [grp_last hp hap hp0] at hc
      have HO := Lib.hid ho
      have HB := Lib.hid hb
      clear ho hb hma hsep
      have hlt := lt_of_heap hit
      by_cases hfe : a = s.size
      · rw [if_pos hfe, List.append_nil] at hc
        subst hc
        obtain ⟨ao, cap, rfl, hr, hn, hc1, hc2⟩ := HO.out.value
        have HR := Lib.hid hr
        clear hr
        go_wp2
        go_ret
        exact ⟨ao, cap, rfl, HR.out, hn, hc1, hc2, HB.out⟩
      · have hfl : a < s.size := by omega
        rw [if_neg hfe] at hc
        have HC := Lib.hid hc
        clear hc hfe
        go_wp2_with (first
          | (at_builtin; refine wpList_append_src rfl (.tmp 35) (.tmp 39) 62 rfl i0 _ 16 Tryz.underlying62 HI.out HZ0.out HZ1.out HZ2.out rfl (fun _ => rfl) rfl (HO.out.alloc _) _ 1 1 [s.extract a s.size] rfl rfl (reads_one rfl _ _) (by intro h; cases h) (by omega) (by unfold maxLen; omega) ?_; intro v4 w4 o4 b4)
          | fail)
        go_ret
        obtain ⟨ao, cap, rfl, hr, hn, hc1, hc2⟩ := o4.value
        rw [HC.out] at hr hc1 ⊢
        exact ⟨ao, cap, rfl, hr, hn, hc1, hc2, (HB.out.alloc (by omega) _).trans (b4.mono (by omega))⟩
end Go.Proofs.YtdkngidangfkiaaGreatDoor.Lex
