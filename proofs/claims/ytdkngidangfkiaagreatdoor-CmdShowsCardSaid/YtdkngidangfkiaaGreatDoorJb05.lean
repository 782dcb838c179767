/-
  Joined out of: The walks of what is asked of the next rune: package lex's small questions and closures. The walk of the program's pieces of a line. The walk of the program's number of digits; a run searched for a letter.
-/
import Derived.Test.YtdkngidangfkiaaGreatDoorJb04
namespace Go.Proofs.YtdkngidangfkiaaGreatDoor.Lex
open Go.RowKit
open Base Runes
set_option linter.unusedVariables false
set_option linter.unusedSimpArgs false
theorem isDigit_any (r : Int) (w : World) :
    Calls Tryz.prog 124 #[.int .i32 r] w fun e w' => e = .returned (.bool (cls r == 3)) ∧ w = w' := by
  go_enter Tryz.func124, Tryz.ntmps124
  go_wp2_with (first | (go_at_call 89; (with_reducible refine (class_any _ _).mono ?_); rintro e w' ⟨rfl, rfl⟩) | fail)
  go_ret
  exact ⟨rfl, rfl⟩
theorem isSmall_any (r : Int) (w : World) :
    Calls Tryz.prog 92 #[.int .i32 r] w fun e w' => e = .returned (.bool (decide (97 ≤ r ∧ r ≤ 122))) ∧ w = w' := by
  go_enter Tryz.func92, Tryz.ntmps92
  go_wp2
  all_goals
    go_ret
    refine ⟨ret_bool ?_, rfl⟩
    rw [Bool.eq_iff_iff]
    first | (simp [*]; done) | (simp [*]; omega)
theorem isSign_any (r : Int) (w : World) :
    Calls Tryz.prog 96 #[.int .i32 r] w fun e w' => e = .returned (.bool (decide (r = 61 ∨ r = 58 ∨ r = 44 ∨ r = 45))) ∧ w = w' := by
  go_enter Tryz.func96, Tryz.ntmps96
  go_wp2
  all_goals
    go_ret
    refine ⟨ret_bool ?_, rfl⟩
    rw [Bool.eq_iff_iff]
    first | (simp [*]; done) | (simp [*]; omega)
theorem word_is (r : Nat) : wordR r = true ↔ (cls (r : Int) = 2 ∨ cls (r : Int) = 3 ∨ (r : Int) = 45 ∨ (r : Int) = 95) := by
  unfold wordR; rw [decide_eq_true_iff]; omega
theorem small_is (r : Nat) : smallR r = true ↔ (cls (r : Int) = 3 ∨ (97 ≤ (r : Int) ∧ (r : Int) ≤ 122)) := by
  have h3 : cls (r : Int) = 3 ↔ (48 ≤ (r : Int) ∧ (r : Int) ≤ 57) := by
    constructor
    · intro h
      have := cls_small h
      unfold cls at h
      split at h
      · simp at h
      · split at h
        · simp at h
        · split at h
          · assumption
          · split at h <;> simp at h
    · intro h
      unfold cls
      rw [if_neg (by omega), if_neg (by omega), if_pos h]
  rw [h3]; unfold smallR; rw [decide_eq_true_iff]; omega
set_option maxHeartbeats 1000000 in
theorem bel1_any (r : Nat) (w : World) :
    Calls Tryz.prog 123 #[.int .i32 (r : Int)] w fun e w' => e = .returned (.bool (wordR r)) ∧ w = w' := by
  obtain ⟨b, hb⟩ : ∃ b, b = wordR r := ⟨_, rfl⟩
  have hw := word_is r
  rw [← hb] at hw ⊢
  have HW := Lib.hid hw
  clear hb hw
  go_enter Tryz.func123, Tryz.ntmps123
  go_wp2_with (first
    | (go_at_call 89; (with_reducible refine (class_any _ _).mono ?_); rintro e w' ⟨rfl, rfl⟩)
    | (go_at_call 124; (with_reducible refine (isDigit_any _ _).mono ?_); rintro e w' ⟨rfl, rfl⟩)
    | fail)
  all_goals
    go_ret
    refine ⟨ret_bool ?_, rfl⟩
    rw [Bool.eq_iff_iff, HW.out]
    try simp only [beq_iff_eq, beq_eq_false_iff_ne, ne_eq] at *
    first | (simp [*]; done) | (simp [*]; omega)
set_option maxHeartbeats 1000000 in
theorem bel2_any (r : Nat) (w : World) :
    Calls Tryz.prog 125 #[.int .i32 (r : Int)] w fun e w' => e = .returned (.bool (smallR r)) ∧ w = w' := by
  obtain ⟨b, hb⟩ : ∃ b, b = smallR r := ⟨_, rfl⟩
  have hw := small_is r
  rw [← hb] at hw ⊢
  have HW := Lib.hid hw
  clear hb hw
  go_enter Tryz.func125, Tryz.ntmps125
  go_wp2_with (first
    | (go_at_call 124; (with_reducible refine (isDigit_any _ _).mono ?_); rintro e w' ⟨rfl, rfl⟩)
    | (go_at_call 92; (with_reducible refine (isSmall_any _ _).mono ?_); rintro e w' ⟨rfl, rfl⟩)
    | fail)
  all_goals
    go_ret
    refine ⟨ret_bool ?_, rfl⟩
    rw [Bool.eq_iff_iff, HW.out]
    try simp only [beq_iff_eq, beq_eq_false_iff_ne, ne_eq] at *
    first | (simp [*]; done) | (simp [*]; omega)
theorem bel3_any (r : Nat) (w : World) :
    Calls Tryz.prog 127 #[.int .i32 (r : Int)] w fun e w' => e = .returned (.bool false) ∧ w = w' := by
  go_enter Tryz.func127, Tryz.ntmps127
  go_wp2
  go_ret
  exact ⟨rfl, rfl⟩
def TextAt (b : Nat) (m e : Bool) (w : World) : Prop := w.cell? ⟨b, 0, none⟩ = some (.bool m) ∧ w.frozen? ⟨b, 0, none⟩ = false ∧ w.cell? ⟨b + 1, 0, none⟩ = some (.bool e) ∧ w.frozen? ⟨b + 1, 0, none⟩ = false
set_option maxHeartbeats 1000000 in
theorem belT_any (r b : Nat) (m e : Bool) (w : World) (h : TextAt b m e w) :
    Calls Tryz.prog 160 #[.int .i32 (r : Int), .pointer (some ⟨b + 1, 0, none⟩), .pointer (some ⟨b, 0, none⟩)] w fun x w' => x = .returned (.bool (!e)) ∧
      w' = if e = true then w else (w.setCell ⟨b + 1, 0, none⟩ (.bool (r == 34 && !m))).setCell ⟨b, 0, none⟩ (.bool (r == 92 && !m)) := by
  obtain ⟨h1, h2, h3, h4⟩ := h
  cases e with
  | true =>
    go_enter Tryz.func160, Tryz.ntmps160
    go_wp2
    go_ret
    exact ⟨rfl, rfl⟩
  | false =>
    obtain ⟨x, hx⟩ : ∃ x, x = (r == 34 && !m) := ⟨_, rfl⟩
    obtain ⟨y, hy⟩ : ∃ y, y = (r == 92 && !m) := ⟨_, rfl⟩
    rw [← hx, ← hy]
    by_cases h34 : r = 34
    · have t34 : ((r : Int) == 34) = true := by rw [beq_iff_eq]; omega
      have t92 : ((r : Int) == 92) = false := by rw [beq_eq_false_iff_ne]; omega
      have HX : Hid ((!m) = x) := Lib.hid (by rw [hx, h34]; rfl)
      have HY : Hid (false = y) := Lib.hid (by rw [hy, h34]; rfl)
      clear hx hy
      go_enter Tryz.func160, Tryz.ntmps160
      go_wp2
      go_ret
      exact ⟨rfl, by rw [← HX.out, ← HY.out]⟩
    · have t34 : ((r : Int) == 34) = false := by rw [beq_eq_false_iff_ne]; omega
      have HX : Hid (false = x) := Lib.hid (by rw [hx, show (r == 34) = false by rw [beq_eq_false_iff_ne]; exact h34]; rfl)
      by_cases h92 : r = 92
      · have t92 : ((r : Int) == 92) = true := by rw [beq_iff_eq]; omega
        have HY : Hid ((!m) = y) := Lib.hid (by rw [hy, h92]; rfl)
        clear hx hy
        go_enter Tryz.func160, Tryz.ntmps160
        go_wp2
        go_ret
        exact ⟨rfl, by rw [← HX.out, ← HY.out]⟩
      · have t92 : ((r : Int) == 92) = false := by rw [beq_eq_false_iff_ne]; omega
        have HY : Hid (false = y) := Lib.hid (by rw [hy, show (r == 92) = false by rw [beq_eq_false_iff_ne]; exact h92]; rfl)
        clear hx hy
        go_enter Tryz.func160, Tryz.ntmps160
        go_wp2
        go_ret
        exact ⟨rfl, by rw [← HX.out, ← HY.out]⟩
def moV (b : Nat) : Mo → Value
  | .no => .func (.func 127) #[] #[]
  | .word => .func (.func 123) #[] #[]
  | .time => .func (.func 125) #[] #[]
  | .text _ _ => .func (.func 160) #[] #[.pointer (some ⟨b + 1, 0, none⟩), .pointer (some ⟨b, 0, none⟩)]
def MoAt (b : Nat) : Mo → World → Prop
  | .text m e, w => TextAt b m e w
  | _, _ => True
set_option maxHeartbeats 1000000 in
theorem belongsToText_any (w : World) :
    Calls Tryz.prog 126 #[] w fun e w' => e = .returned (moV w.heap.size (.text false false)) ∧ TextAt w.heap.size false false w' ∧ Below w.heap.size w w' ∧ w.heap.size + 1 < w'.heap.size := by
  unfold moV TextAt
  go_enter Tryz.func126, Tryz.ntmps126
  go_wp2
  go_ret
  refine ⟨rfl, ⟨?_, ?_, ?_, ?_⟩, below_two _ _, by simp⟩
  all_goals simp
set_option maxHeartbeats 1000000 in
theorem belongs_any (r : Nat) (w : World) :
    Calls Tryz.prog 86 #[.int .i32 (r : Int)] w fun e w' => e = .returned (moV w.heap.size (beg r)) ∧ MoAt w.heap.size (beg r) w' ∧ Below w.heap.size w w' := by
  obtain ⟨B, hB⟩ : ∃ B, B = beg r := ⟨_, rfl⟩
  rw [← hB]
  unfold beg at hB
  by_cases h2 : cls (r : Int) = 2
  · rw [if_pos h2] at hB
    have t2 : (cls (r : Int) == 2) = true := by rw [beq_iff_eq]; exact h2
    subst hB
    unfold moV MoAt
    clear h2
    go_enter Tryz.func86, Tryz.ntmps86
    go_wp2_with (first | (go_at_call 89; (with_reducible refine (class_any _ _).mono ?_); rintro e w' ⟨rfl, rfl⟩) | fail)
    go_ret
    exact ⟨rfl, trivial, Below.refl _ _⟩
  · rw [if_neg h2] at hB
    have t2 : (cls (r : Int) == 2) = false := by rw [beq_eq_false_iff_ne]; exact h2
    by_cases h3 : cls (r : Int) = 3
    · rw [if_pos h3] at hB
      have t3 : (cls (r : Int) == 3) = true := by rw [beq_iff_eq]; exact h3
      subst hB
      unfold moV MoAt
      clear h2 h3
      go_enter Tryz.func86, Tryz.ntmps86
      go_wp2_with (first
        | (go_at_call 89; (with_reducible refine (class_any _ _).mono ?_); rintro e w' ⟨rfl, rfl⟩)
        | (go_at_call 124; (with_reducible refine (isDigit_any _ _).mono ?_); rintro e w' ⟨rfl, rfl⟩)
        | fail)
      go_ret
      exact ⟨rfl, trivial, Below.refl _ _⟩
    · rw [if_neg h3] at hB
      have t3 : (cls (r : Int) == 3) = false := by rw [beq_eq_false_iff_ne]; exact h3
      by_cases h34 : r = 34
      · rw [if_pos h34] at hB
        have t34 : ((r : Int) == 34) = true := by rw [beq_iff_eq]; omega
        subst hB
        have c1 := belongsToText_any w
        unfold moV at c1 ⊢
        have C1 := Lib.hid c1
        clear h2 h3 c1 h34
        go_enter Tryz.func86, Tryz.ntmps86
        go_wp2_with (first
          | (go_at_call 89; (with_reducible refine (class_any _ _).mono ?_); rintro e w' ⟨rfl, rfl⟩)
          | (go_at_call 124; (with_reducible refine (isDigit_any _ _).mono ?_); rintro e w' ⟨rfl, rfl⟩)
          | (go_at_call 126; (with_reducible refine (C1.out).mono ?_); rintro e w1 ⟨rfl, h1, p1, _⟩)
          | fail)
        go_ret
        exact ⟨rfl, h1, p1⟩
      · rw [if_neg h34] at hB
        have t34 : ((r : Int) == 34) = false := by rw [beq_eq_false_iff_ne]; omega
        subst hB
        unfold moV MoAt
        clear h2 h3 h34
        go_enter Tryz.func86, Tryz.ntmps86
        go_wp2_with (first
          | (go_at_call 89; (with_reducible refine (class_any _ _).mono ?_); rintro e w' ⟨rfl, rfl⟩)
          | (go_at_call 124; (with_reducible refine (isDigit_any _ _).mono ?_); rintro e w' ⟨rfl, rfl⟩)
          | fail)
        go_ret
        exact ⟨rfl, trivial, Below.refl _ _⟩
end Go.Proofs.YtdkngidangfkiaaGreatDoor.Lex
namespace Go.Proofs.YtdkngidangfkiaaGreatDoor.Lex
open Go.RowKit
open Base Runes
set_option linter.unusedVariables false
set_option linter.unusedSimpArgs false
def cut (s : ByteArray) (a b : Nat) : List UInt8 := (s.data.toList.take b).drop a
theorem cut_length (s : ByteArray) (a b : Nat) (hb : b ≤ s.size) : (cut s a b).length = b - a := by
  unfold cut; rw [List.length_drop, List.length_take, ← Lib.size_eq]; omega
theorem toB_cut (s : ByteArray) (a b : Nat) : toB (cut s a b) = s.extract a b := by
  apply ByteArray.ext; apply Array.toList_inj.1
  rw [Lib.extract_data, toB_data]
  unfold cut
  rw [List.drop_take]
theorem cut_more (s : ByteArray) (a p k : Nat) (ha : a ≤ p) (hp : p ≤ s.size) : cut s a p ++ (s.data.toList.drop p).take k = cut s a (p + k) := by
  unfold cut
  rw [List.take_add, List.drop_append_of_le_length (by rw [List.length_take, ← Lib.size_eq]; omega)]
theorem cut_one (s : ByteArray) (p k : Nat) : (s.data.toList.drop p).take k = cut s p (p + k) := by
  unfold cut; rw [List.drop_take, Nat.add_sub_cancel_left]
theorem cut_nil (s : ByteArray) (a p : Nat) (ha : a ≤ p) (hp : p ≤ s.size) : cut s a p = [] ↔ a = p := by
  rw [List.eq_nil_iff_length_eq_zero, cut_length s a p hp]; omega
theorem grp_on {s : ByteArray} {pos a : Nat} {m : Mo} (hp : pos < s.size) (ha : a ≤ pos) (h : m.q (Utf8.decode s pos).1 = true) :
    grp m (cut s a pos) (ps s pos) = grp (m.nx (Utf8.decode s pos).1) (cut s a (pos + (Utf8.decode s pos).2)) (ps s (pos + (Utf8.decode s pos).2)) := by
  rw [ps_step s pos hp, grp, if_pos h, cut_more s a pos _ ha (by omega)]
theorem grp_off {s : ByteArray} {pos a : Nat} {m : Mo} (hp : pos < s.size) (ha : a ≤ pos) (h : m.q (Utf8.decode s pos).1 = false) :
    (grp m (cut s a pos) (ps s pos)).map toB = (if a = pos then [] else [s.extract a pos]) ++ (grp (beg (Utf8.decode s pos).1) (cut s pos (pos + (Utf8.decode s pos).2)) (ps s (pos + (Utf8.decode s pos).2))).map toB := by
  rw [ps_step s pos hp, grp, if_neg (by rw [h]; simp), cut_one, List.map_append]
  congr 1
  by_cases he : a = pos
  · rw [if_pos he, if_pos ((cut_nil s a pos ha (by omega)).2 he)]; rfl
  · rw [if_neg he, if_neg (fun x => he ((cut_nil s a pos ha (by omega)).1 x)), List.map_cons, toB_cut]; rfl
theorem grp_last {s : ByteArray} {pos a : Nat} {m : Mo} (hp : ¬ pos < s.size) (ha : a ≤ pos) (hs : pos ≤ s.size) :
    (grp m (cut s a pos) (ps s pos)).map toB = if a = s.size then [] else [s.extract a s.size] := by
  obtain rfl : pos = s.size := by omega
  rw [ps_end s s.size hp, grp]
  by_cases he : a = s.size
  · rw [if_pos he, if_pos ((cut_nil s a s.size ha (by omega)).2 he)]; rfl
  · rw [if_neg he, if_neg (fun x => he ((cut_nil s a s.size ha (by omega)).1 x)), List.map_cons, toB_cut]; rfl
theorem info_str : (Tryz.prog.info? 9).map (fun i => (i.zero, i.size, i.bytes)) = some (some (.string ⟨#[]⟩), 1, 16) := by kernel_rfl
abbrev strV : ByteArray → Value := Value.string
theorem TextAt.heap {b : Nat} {m e : Bool} {w w' : World} (h : TextAt b m e w) (h0 : w'.heap[b]? = w.heap[b]?) (h1 : w'.heap[b + 1]? = w.heap[b + 1]?) : TextAt b m e w' := by
  obtain ⟨a1, a2, a3, a4⟩ := h
  simp only [TextAt, World.cell?, World.frozen?, h0, h1] at a1 a2 a3 a4 ⊢
  exact ⟨a1, a2, a3, a4⟩
theorem TextAt.set {b : Nat} {m e : Bool} {w : World} (h : TextAt b m e w) (m' e' : Bool) : TextAt b m' e' ((w.setCell ⟨b + 1, 0, none⟩ (.bool e')).setCell ⟨b, 0, none⟩ (.bool m')) := by
  obtain ⟨h1, h2, h3, h4⟩ := h
  have n1 : (⟨b + 1, 0, none⟩ : Addr) ≠ ⟨b, 0, none⟩ := fun h => by injection h; omega
  have n2 : (⟨b, 0, none⟩ : Addr) ≠ ⟨b + 1, 0, none⟩ := fun h => by injection h; omega
  refine ⟨World.cell?_setCell_same _ _ _ (u := .bool m) ?_, ?_, ?_, ?_⟩
  · rw [World.cell?_setCell_other _ _ _ _ n1]; exact h1
  · rw [World.frozen?_setCell, World.frozen?_setCell]; exact h2
  · rw [World.cell?_setCell_other _ _ _ _ n2]; exact World.cell?_setCell_same _ _ _ h3
  · rw [World.frozen?_setCell, World.frozen?_setCell]; exact h4
theorem TextAt.lt {b : Nat} {m e : Bool} {w : World} (h : TextAt b m e w) : b + 1 < w.heap.size := lt_of_cell h.2.2.1
theorem own_kept2 {B : Nat} {t : TypeId} {v : Value} {zs : List ByteArray} {w w' : World} {k : Nat} (h : Own strV B t v zs w) (hg : w.grownBy w' (some k)) (hk : ∀ j, v.ownBlock = some j → j < k) : Own strV B t v zs w' := by
  refine ⟨h.1.kept hg ?_, Nat.le_trans h.2 hg.size⟩
  cases hv : v.ownBlock with
  | none => exact .inl rfl
  | some j =>
    refine .inr fun he => ?_
    have := hk j hv
    cases he; omega
theorem own_lt {B : Nat} {t : TypeId} {v : Value} {zs : List ByteArray} {w : World} (h : Own strV B t v zs w) : ∀ j, v.ownBlock = some j → j < w.heap.size := fun j hj => (h.1.lt j hj).2
set_option maxRecDepth 100000 in
set_option maxHeartbeats 4000000 in
theorem pieces_any (s : ByteArray) (hs : s.size ≤ 1000000) (w : World) :
    Calls Tryz.prog 61 #[.string s] w fun e w' => ∃ ao cap, e = .returned (.slice ao (pcs s).length cap) ∧ Reads strV w' ao (pcs s) ∧ (ao = none → cap = 0) ∧ (pcs s).length ≤ cap ∧ cap ≤ maxLen ∧ Below w.heap.size w w' := by
  obtain ⟨i0, hi, hz0, hz1, hz2⟩ := info_parts info_str
  have HI := Lib.hid hi
  have HZ0 := Lib.hid hz0
  have HZ1 := Lib.hid hz1
  have HZ2 := Lib.hid hz2
  clear hi hz0 hz1 hz2
  have c0 := belongs_any 32 w
  have hb32 : beg 32 = .no := beg_no (by decide) (by decide) (by decide)
  have c0 : Calls Tryz.prog 86 #[.int .i32 32] w fun e w' => e = .returned (moV w.heap.size (beg 32)) ∧ MoAt w.heap.size (beg 32) w' ∧ Below w.heap.size w w' := belongs_any 32 w
  rw [hb32] at c0
  have C0 := Lib.hid c0
  clear c0
  obtain ⟨Z, hZ⟩ : ∃ Z, Z = pcs s := ⟨_, rfl⟩
  rw [← hZ]
  have HZ := Lib.hid hZ
  clear hZ
  go_enter Tryz.func61, Tryz.ntmps61
  go_wp2_with (first | (go_at_call 86; (with_reducible refine (C0.out).mono ?_); rintro e w1 ⟨rfl, _, p1⟩) | fail)
  have hH := p1.size
  have P1 := Lib.hid p1
  clear p1
  go_loopw [3, 4, 5] (fun l fr mo wr => ∃ (pos a b : Nat) (m : Mo) (zs : List ByteArray), fr = .int .i64 (a : Int) ∧ mo = moV b m ∧ wr.heap[w1.heap.size]? = some (.stringIter s pos) ∧ Own strV (w1.heap.size + 1) 9 l zs wr ∧ (∀ j, l.ownBlock = some j → j < b) ∧ w1.heap.size + 1 ≤ b ∧ MoAt b m wr ∧ Below w.heap.size w wr ∧ zs ++ (grp m (cut s a pos) (ps s pos)).map toB = Z ∧ a ≤ pos ∧ pos ≤ s.size ∧ zs.length ≤ pos) (fun _ _ _ wr => s.size - wr.iterPos w1.heap.size)
  case atStart =>
    refine ⟨0, 0, w1.heap.size + 1, .no, [], rfl, rfl, World.iter_heap w1 s 0, Own.nil (by unfold World.iter; simp), ?_, Nat.le_refl _, trivial, (below_iter w1 s 0).from P1.out, ?_, Nat.le_refl _, Nat.zero_le _, Nat.le_refl _⟩
    · intro j hj; simp [Value.ownBlock] at hj
    · rw [HZ.out]; rfl
  case round =>
    obtain ⟨pos, a, b, m, zs, rfl, rfl, hit, ho, hsep, hbH, hma, hb, hc, hap, hp0, hzl⟩ := hrel
    by_cases hp : pos < s.size
    · have hnx : ∀ ty, (Instr.next (.pointer (some ⟨w1.heap.size, 0, none⟩)) true ty).run Tryz.prog wr = _ := fun ty => Lib.run_next_any_at wr w1.heap.size s pos ty hit hp
      have hwd := ps_width s pos hp
      have hm0 : wr.iterPos w1.heap.size = pos := by simp [World.iterPos, hit]
      have ho2 := ho.kept (grown_iterAt wr w1.heap.size s (pos + (Utf8.decode s pos).2)) (fun k hk => by cases hk; omega)
      have hit2 := Lib.iterAt_heap wr w1.heap.size s pos (pos + (Utf8.decode s pos).2) hit
      have hb2 := Lib.below_iterAt hb hH s (pos + (Utf8.decode s pos).2)
      have hm2 : (wr.iterAt w1.heap.size s (pos + (Utf8.decode s pos).2)).iterPos w1.heap.size = pos + (Utf8.decode s pos).2 := by simp [World.iterPos, hit2]
      have HO := Lib.hid ho2
      have HT := Lib.hid hit2
      have HB := Lib.hid hb2
      have HM2 := Lib.hid hm2
      have HSEP := Lib.hid hsep
      clear ho ho2 hit2 hb2 hb hm2 hsep
      cases m with
      | no =>
        rw [grp_off hp hap rfl, ← List.append_assoc] at hc
        unfold moV
        by_cases hfe : a = pos
        · have HC : Hid (zs ++ (grp (beg (Utf8.decode s pos).1) (cut s pos (pos + (Utf8.decode s pos).2)) (ps s (pos + (Utf8.decode s pos).2))).map toB = Z) := Lib.hid (by rw [if_pos hfe, List.append_nil] at hc; exact hc)
          clear hc
          go_wp2_with (first
            | (go_at_call 127; (with_reducible refine (bel3_any _ _).mono ?_); rintro e w' ⟨rfl, rfl⟩)
            | (go_at_call 86; (with_reducible refine (belongs_any _ _).mono ?_); rintro e w4 ⟨rfl, hm4, p4⟩)
            | fail)
          have it4 : w4.heap[w1.heap.size]? = some (.stringIter s (pos + (Utf8.decode s pos).2)) := by rw [p4.block _ (lt_of_heap HT.out)]; exact HT.out
          refine ⟨⟨pos + (Utf8.decode s pos).2, pos, _, _, zs, rfl, rfl, it4, HO.out.below p4, own_lt HO.out, lt_of_heap HT.out, hm4, p4.from HB.out, HC.out, by omega, by omega, by omega⟩, ?_⟩
          rw [hm0]; simp only [World.iterPos, it4]; omega
        · have hfl : a < pos := by omega
          have HC : Hid ((zs ++ [s.extract a pos]) ++ (grp (beg (Utf8.decode s pos).1) (cut s pos (pos + (Utf8.decode s pos).2)) (ps s (pos + (Utf8.decode s pos).2))).map toB = Z) := Lib.hid (by rw [if_neg hfe] at hc; exact hc)
          clear hc hfe
          go_wp2_with (first
            | (go_at_call 127; (with_reducible refine (bel3_any _ _).mono ?_); rintro e w' ⟨rfl, rfl⟩)
            | (at_builtin; refine wpList_append_src rfl (.tmp 21) (.tmp 26) 62 rfl i0 _ 16 Tryz.underlying62 HI.out HZ0.out HZ1.out HZ2.out rfl (fun _ => rfl) rfl (HO.out.alloc _) _ 1 1 [s.extract a pos] rfl rfl (reads_one rfl _ _) (by intro h; cases h) (by omega) (by unfold maxLen; omega) ?_; intro v3 w3 o3 b3)
            | (go_at_call 86; (with_reducible refine (belongs_any _ _).mono ?_); rintro e w4 ⟨rfl, hm4, p4⟩)
            | fail)
          have it3 : w3.heap[w1.heap.size]? = some (.stringIter s (pos + (Utf8.decode s pos).2)) := by
            rw [b3.block _ (Nat.lt_succ_self _), Lib.alloc_old _ _ _ (lt_of_heap HT.out)]; exact HT.out
          have it4 : w4.heap[w1.heap.size]? = some (.stringIter s (pos + (Utf8.decode s pos).2)) := by rw [p4.block _ (lt_of_heap it3)]; exact it3
          refine ⟨⟨pos + (Utf8.decode s pos).2, pos, _, _, zs ++ [s.extract a pos], rfl, rfl, it4, o3.below p4, own_lt o3, lt_of_heap it3, hm4, p4.from ((HB.out.alloc HB.out.size _).trans (b3.mono (by omega))), HC.out, by omega, by omega, by simp; omega⟩, ?_⟩
          rw [hm0]; simp only [World.iterPos, it4]; omega
      | word =>
        have c1 := fun w => bel1_any (Utf8.decode s pos).1 w
        cases hq : wordR (Utf8.decode s pos).1 with
        | true =>
          rw [grp_on hp hap (m := .word) hq] at hc
          simp only [hq] at c1
          have C1 := Lib.hid c1
          clear c1 hq
          unfold moV
          have HC := Lib.hid hc
          clear hc
          go_wp2_with (first
            | (go_at_call 123; (with_reducible refine (C1.out _).mono ?_); rintro e w' ⟨rfl, rfl⟩)
            | fail)
          refine ⟨⟨pos + (Utf8.decode s pos).2, a, b, .word, zs, rfl, rfl, HT.out, HO.out, HSEP.out, hbH, trivial, HB.out, HC.out, by omega, by omega, by omega⟩, ?_⟩
          rw [hm0, HM2.out]; omega
        | false =>
          rw [grp_off hp hap (m := .word) hq, ← List.append_assoc] at hc
          simp only [hq] at c1
          have C1 := Lib.hid c1
          clear c1 hq
          unfold moV
          by_cases hfe : a = pos
          · have HC : Hid (zs ++ (grp (beg (Utf8.decode s pos).1) (cut s pos (pos + (Utf8.decode s pos).2)) (ps s (pos + (Utf8.decode s pos).2))).map toB = Z) := Lib.hid (by rw [if_pos hfe, List.append_nil] at hc; exact hc)
            clear hc
            go_wp2_with (first
              | (go_at_call 123; (with_reducible refine (C1.out _).mono ?_); rintro e w' ⟨rfl, rfl⟩)
              | (go_at_call 86; (with_reducible refine (belongs_any _ _).mono ?_); rintro e w4 ⟨rfl, hm4, p4⟩)
              | fail)
            have it4 : w4.heap[w1.heap.size]? = some (.stringIter s (pos + (Utf8.decode s pos).2)) := by rw [p4.block _ (lt_of_heap HT.out)]; exact HT.out
            refine ⟨⟨pos + (Utf8.decode s pos).2, pos, _, _, zs, rfl, rfl, it4, HO.out.below p4, own_lt HO.out, lt_of_heap HT.out, hm4, p4.from HB.out, HC.out, by omega, by omega, by omega⟩, ?_⟩
            rw [hm0]; simp only [World.iterPos, it4]; omega
          · have hfl : a < pos := by omega
            have HC : Hid ((zs ++ [s.extract a pos]) ++ (grp (beg (Utf8.decode s pos).1) (cut s pos (pos + (Utf8.decode s pos).2)) (ps s (pos + (Utf8.decode s pos).2))).map toB = Z) := Lib.hid (by rw [if_neg hfe] at hc; exact hc)
            clear hc hfe
            go_wp2_with (first
              | (go_at_call 123; (with_reducible refine (C1.out _).mono ?_); rintro e w' ⟨rfl, rfl⟩)
              | (at_builtin; refine wpList_append_src rfl (.tmp 21) (.tmp 26) 62 rfl i0 _ 16 Tryz.underlying62 HI.out HZ0.out HZ1.out HZ2.out rfl (fun _ => rfl) rfl (HO.out.alloc _) _ 1 1 [s.extract a pos] rfl rfl (reads_one rfl _ _) (by intro h; cases h) (by omega) (by unfold maxLen; omega) ?_; intro v3 w3 o3 b3)
              | (go_at_call 86; (with_reducible refine (belongs_any _ _).mono ?_); rintro e w4 ⟨rfl, hm4, p4⟩)
              | fail)
            have it3 : w3.heap[w1.heap.size]? = some (.stringIter s (pos + (Utf8.decode s pos).2)) := by
              rw [b3.block _ (Nat.lt_succ_self _), Lib.alloc_old _ _ _ (lt_of_heap HT.out)]; exact HT.out
            have it4 : w4.heap[w1.heap.size]? = some (.stringIter s (pos + (Utf8.decode s pos).2)) := by rw [p4.block _ (lt_of_heap it3)]; exact it3
            refine ⟨⟨pos + (Utf8.decode s pos).2, pos, _, _, zs ++ [s.extract a pos], rfl, rfl, it4, o3.below p4, own_lt o3, lt_of_heap it3, hm4, p4.from ((HB.out.alloc HB.out.size _).trans (b3.mono (by omega))), HC.out, by omega, by omega, by simp; omega⟩, ?_⟩
            rw [hm0]; simp only [World.iterPos, it4]; omega
      | time =>
        have c1 := fun w => bel2_any (Utf8.decode s pos).1 w
        cases hq : smallR (Utf8.decode s pos).1 with
        | true =>
          rw [grp_on hp hap (m := .time) hq] at hc
          simp only [hq] at c1
          have C1 := Lib.hid c1
          clear c1 hq
          unfold moV
          have HC := Lib.hid hc
          clear hc
          go_wp2_with (first
            | (go_at_call 125; (with_reducible refine (C1.out _).mono ?_); rintro e w' ⟨rfl, rfl⟩)
            | fail)
          refine ⟨⟨pos + (Utf8.decode s pos).2, a, b, .time, zs, rfl, rfl, HT.out, HO.out, HSEP.out, hbH, trivial, HB.out, HC.out, by omega, by omega, by omega⟩, ?_⟩
          rw [hm0, HM2.out]; omega
        | false =>
          rw [grp_off hp hap (m := .time) hq, ← List.append_assoc] at hc
          simp only [hq] at c1
          have C1 := Lib.hid c1
          clear c1 hq
          unfold moV
          by_cases hfe : a = pos
          · have HC : Hid (zs ++ (grp (beg (Utf8.decode s pos).1) (cut s pos (pos + (Utf8.decode s pos).2)) (ps s (pos + (Utf8.decode s pos).2))).map toB = Z) := Lib.hid (by rw [if_pos hfe, List.append_nil] at hc; exact hc)
            clear hc
            go_wp2_with (first
              | (go_at_call 125; (with_reducible refine (C1.out _).mono ?_); rintro e w' ⟨rfl, rfl⟩)
              | (go_at_call 86; (with_reducible refine (belongs_any _ _).mono ?_); rintro e w4 ⟨rfl, hm4, p4⟩)
              | fail)
            have it4 : w4.heap[w1.heap.size]? = some (.stringIter s (pos + (Utf8.decode s pos).2)) := by rw [p4.block _ (lt_of_heap HT.out)]; exact HT.out
            refine ⟨⟨pos + (Utf8.decode s pos).2, pos, _, _, zs, rfl, rfl, it4, HO.out.below p4, own_lt HO.out, lt_of_heap HT.out, hm4, p4.from HB.out, HC.out, by omega, by omega, by omega⟩, ?_⟩
            rw [hm0]; simp only [World.iterPos, it4]; omega
          · have hfl : a < pos := by omega
            have HC : Hid ((zs ++ [s.extract a pos]) ++ (grp (beg (Utf8.decode s pos).1) (cut s pos (pos + (Utf8.decode s pos).2)) (ps s (pos + (Utf8.decode s pos).2))).map toB = Z) := Lib.hid (by rw [if_neg hfe] at hc; exact hc)
            clear hc hfe
            go_wp2_with (first
              | (go_at_call 125; (with_reducible refine (C1.out _).mono ?_); rintro e w' ⟨rfl, rfl⟩)
              | (at_builtin; refine wpList_append_src rfl (.tmp 21) (.tmp 26) 62 rfl i0 _ 16 Tryz.underlying62 HI.out HZ0.out HZ1.out HZ2.out rfl (fun _ => rfl) rfl (HO.out.alloc _) _ 1 1 [s.extract a pos] rfl rfl (reads_one rfl _ _) (by intro h; cases h) (by omega) (by unfold maxLen; omega) ?_; intro v3 w3 o3 b3)
              | (go_at_call 86; (with_reducible refine (belongs_any _ _).mono ?_); rintro e w4 ⟨rfl, hm4, p4⟩)
              | fail)
            have it3 : w3.heap[w1.heap.size]? = some (.stringIter s (pos + (Utf8.decode s pos).2)) := by
              rw [b3.block _ (Nat.lt_succ_self _), Lib.alloc_old _ _ _ (lt_of_heap HT.out)]; exact HT.out
            have it4 : w4.heap[w1.heap.size]? = some (.stringIter s (pos + (Utf8.decode s pos).2)) := by rw [p4.block _ (lt_of_heap it3)]; exact it3
            refine ⟨⟨pos + (Utf8.decode s pos).2, pos, _, _, zs ++ [s.extract a pos], rfl, rfl, it4, o3.below p4, own_lt o3, lt_of_heap it3, hm4, p4.from ((HB.out.alloc HB.out.size _).trans (b3.mono (by omega))), HC.out, by omega, by omega, by simp; omega⟩, ?_⟩
            rw [hm0]; simp only [World.iterPos, it4]; omega
      | text mk en =>
        have htx : TextAt b mk en wr := hma
        have hbl := htx.lt
        have htx2 : TextAt b mk en (wr.iterAt w1.heap.size s (pos + (Utf8.decode s pos).2)) := htx.heap (Lib.iterAt_other wr w1.heap.size b s _ (by omega)) (Lib.iterAt_other wr w1.heap.size (b + 1) s _ (by omega))
        have c1 := belT_any (Utf8.decode s pos).1 b mk en _ htx2
        cases en with
        | true =>
          rw [grp_off hp hap (m := .text mk true) rfl, ← List.append_assoc] at hc
          simp only [if_true, Bool.not_true] at c1
          have C1 := Lib.hid c1
          clear c1 htx htx2 hma hbl
          unfold moV
          by_cases hfe : a = pos
          · have HC : Hid (zs ++ (grp (beg (Utf8.decode s pos).1) (cut s pos (pos + (Utf8.decode s pos).2)) (ps s (pos + (Utf8.decode s pos).2))).map toB = Z) := Lib.hid (by rw [if_pos hfe, List.append_nil] at hc; exact hc)
            clear hc
            go_wp2_with (first
              | (go_at_call 160; (with_reducible refine (C1.out).mono ?_); rintro e w' ⟨rfl, rfl⟩)
              | (go_at_call 86; (with_reducible refine (belongs_any _ _).mono ?_); rintro e w4 ⟨rfl, hm4, p4⟩)
              | fail)
            have it4 : w4.heap[w1.heap.size]? = some (.stringIter s (pos + (Utf8.decode s pos).2)) := by rw [p4.block _ (lt_of_heap HT.out)]; exact HT.out
            refine ⟨⟨pos + (Utf8.decode s pos).2, pos, _, _, zs, rfl, rfl, it4, HO.out.below p4, own_lt HO.out, lt_of_heap HT.out, hm4, p4.from HB.out, HC.out, by omega, by omega, by omega⟩, ?_⟩
            rw [hm0]; simp only [World.iterPos, it4]; omega
          · have hfl : a < pos := by omega
            have HC : Hid ((zs ++ [s.extract a pos]) ++ (grp (beg (Utf8.decode s pos).1) (cut s pos (pos + (Utf8.decode s pos).2)) (ps s (pos + (Utf8.decode s pos).2))).map toB = Z) := Lib.hid (by rw [if_neg hfe] at hc; exact hc)
            clear hc hfe
            go_wp2_with (first
              | (go_at_call 160; (with_reducible refine (C1.out).mono ?_); rintro e w' ⟨rfl, rfl⟩)
              | (at_builtin; refine wpList_append_src rfl (.tmp 21) (.tmp 26) 62 rfl i0 _ 16 Tryz.underlying62 HI.out HZ0.out HZ1.out HZ2.out rfl (fun _ => rfl) rfl (HO.out.alloc _) _ 1 1 [s.extract a pos] rfl rfl (reads_one rfl _ _) (by intro h; cases h) (by omega) (by unfold maxLen; omega) ?_; intro v3 w3 o3 b3)
              | (go_at_call 86; (with_reducible refine (belongs_any _ _).mono ?_); rintro e w4 ⟨rfl, hm4, p4⟩)
              | fail)
            have it3 : w3.heap[w1.heap.size]? = some (.stringIter s (pos + (Utf8.decode s pos).2)) := by
              rw [b3.block _ (Nat.lt_succ_self _), Lib.alloc_old _ _ _ (lt_of_heap HT.out)]; exact HT.out
            have it4 : w4.heap[w1.heap.size]? = some (.stringIter s (pos + (Utf8.decode s pos).2)) := by rw [p4.block _ (lt_of_heap it3)]; exact it3
            refine ⟨⟨pos + (Utf8.decode s pos).2, pos, _, _, zs ++ [s.extract a pos], rfl, rfl, it4, o3.below p4, own_lt o3, lt_of_heap it3, hm4, p4.from ((HB.out.alloc HB.out.size _).trans (b3.mono (by omega))), HC.out, by omega, by omega, by simp; omega⟩, ?_⟩
            rw [hm0]; simp only [World.iterPos, it4]; omega
        | false =>
          rw [grp_on hp hap (m := .text mk false) rfl] at hc
          simp only [Bool.false_eq_true, if_false, Bool.not_false] at c1
          have HTX := Lib.hid (htx2.set ((Utf8.decode s pos).1 == 92 && !mk) ((Utf8.decode s pos).1 == 34 && !mk))
          have hon : Own strV (w1.heap.size + 1) 9 _ zs (((wr.iterAt w1.heap.size s (pos + (Utf8.decode s pos).2)).setCell ⟨b + 1, 0, none⟩ (.bool ((Utf8.decode s pos).1 == 34 && !mk))).setCell ⟨b, 0, none⟩ (.bool ((Utf8.decode s pos).1 == 92 && !mk))) :=
            own_kept2 (own_kept2 HO.out (grown_set _ ⟨b + 1, 0, none⟩ _) (fun j hj => by have := HSEP.out j hj; dsimp only; omega)) (grown_set _ ⟨b, 0, none⟩ _) (fun j hj => HSEP.out j hj)
          have hitn : ((((wr.iterAt w1.heap.size s (pos + (Utf8.decode s pos).2)).setCell ⟨b + 1, 0, none⟩ (.bool ((Utf8.decode s pos).1 == 34 && !mk))).setCell ⟨b, 0, none⟩ (.bool ((Utf8.decode s pos).1 == 92 && !mk)))).heap[w1.heap.size]? = some (.stringIter s (pos + (Utf8.decode s pos).2)) := by
            rw [Below.heap_setCell _ _ _ _ (by simp; omega), Below.heap_setCell _ _ _ _ (by simp; omega)]; exact HT.out
          have HON := Lib.hid hon
          have HITN := Lib.hid hitn
          have HBN := Lib.hid ((HB.out.setCell (p := ⟨b + 1, 0, none⟩) (by simp; omega) (.bool ((Utf8.decode s pos).1 == 34 && !mk))).setCell (p := ⟨b, 0, none⟩) (by simp; omega) (.bool ((Utf8.decode s pos).1 == 92 && !mk)))
          have HC := Lib.hid hc
          have C1 := Lib.hid c1
          clear hc c1 htx htx2 hma hbl hon hitn
          unfold moV
          go_wp2_with (first
            | (go_at_call 160; (with_reducible refine (C1.out).mono ?_); rintro e w' ⟨rfl, rfl⟩)
            | fail)
          refine ⟨⟨pos + (Utf8.decode s pos).2, a, b, .text _ _, zs, rfl, rfl, HITN.out, HON.out, HSEP.out, hbH, HTX.out, HBN.out, HC.out, by omega, by omega, by omega⟩, ?_⟩
          rw [hm0]; simp only [World.iterPos, HITN.out]; omega
    · have hnx : ∀ ty, (Instr.next (.pointer (some ⟨w1.heap.size, 0, none⟩)) true ty).run Tryz.prog wr = _ := fun ty => Lib.run_next_end_at wr w1.heap.size s pos ty hit hp
      rw [grp_last hp hap hp0] at hc
      have HO := Lib.hid ho
      have HB := Lib.hid hb
      clear ho hb hma hsep
      have hlt := lt_of_heap hit
      by_cases hfe : a = s.size
      · rw [if_pos hfe, List.append_nil] at hc
        subst hc
        obtain ⟨ao, cap, rfl, hr, hn, hc1, hc2⟩ := HO.out.value
        have HR := Lib.hid hr
        clear hr
        go_wp2
        go_ret
        exact ⟨ao, cap, rfl, HR.out, hn, hc1, hc2, HB.out⟩
      · have hfl : a < s.size := by omega
        rw [if_neg hfe] at hc
        have HC := Lib.hid hc
        clear hc hfe
        go_wp2_with (first
          | (at_builtin; refine wpList_append_src rfl (.tmp 35) (.tmp 39) 62 rfl i0 _ 16 Tryz.underlying62 HI.out HZ0.out HZ1.out HZ2.out rfl (fun _ => rfl) rfl (HO.out.alloc _) _ 1 1 [s.extract a s.size] rfl rfl (reads_one rfl _ _) (by intro h; cases h) (by omega) (by unfold maxLen; omega) ?_; intro v4 w4 o4 b4)
          | fail)
        go_ret
        obtain ⟨ao, cap, rfl, hr, hn, hc1, hc2⟩ := o4.value
        rw [HC.out] at hr hc1 ⊢
        exact ⟨ao, cap, rfl, hr, hn, hc1, hc2, (HB.out.alloc (by omega) _).trans (b4.mono (by omega))⟩
end Go.Proofs.YtdkngidangfkiaaGreatDoor.Lex
namespace Go.Proofs.YtdkngidangfkiaaGreatDoor.Lex
open Go.RowKit
open Base Runes LexLib
set_option linter.unusedVariables false
set_option linter.unusedSimpArgs false
theorem dig_byte {r : Nat} (h : 48 ≤ r ∧ r ≤ 57) : (UInt8.ofNat r).toNat = r := by rw [UInt8.toNat_ofNat']; omega
theorem parse_dig (T : List Nat) : ∀ acc : Nat, DigR T → (acc + 1) * 10 ^ T.length ≤ 1000000000000000000 → Lib.parseUint10 acc (T.map UInt8.ofNat) = .ok (vN acc T) ∧ vN acc T < 1000000000000000000 := by
  induction T with
  | nil => intro acc _ h; exact ⟨rfl, by simp at h; show acc < _; omega⟩
  | cons r t ih =>
    intro acc hd hb
    have hr := hd r (by simp)
    have hp : 1 ≤ 10 ^ t.length := Nat.pow_pos (by decide)
    have e : (acc + 1) * 10 ^ (r :: t).length = (acc * 10 + 10) * 10 ^ t.length := by
      rw [List.length_cons, Nat.pow_succ, Nat.mul_comm (10 ^ t.length) 10, ← Nat.mul_assoc, Nat.add_mul, Nat.one_mul]
    rw [e] at hb
    have hb2 : (acc * 10 + (r - 48) + 1) * 10 ^ t.length ≤ (acc * 10 + 10) * 10 ^ t.length := Nat.mul_le_mul_right _ (by omega)
    have hb3 : (acc * 10 + 10) * 1 ≤ (acc * 10 + 10) * 10 ^ t.length := Nat.mul_le_mul_left _ hp
    obtain ⟨i1, i2⟩ := ih (acc * 10 + (r - 48)) (fun x hx => hd x (by simp [hx])) (by omega)
    have ev : vN acc (r :: t) = vN (acc * 10 + (r - 48)) t := by
      unfold vN; rw [List.foldl_cons, Nat.mul_comm]
    rw [List.map_cons, Lib.parseUint10, dig_byte hr, if_pos hr, if_neg (by omega), if_neg (by omega), ev]
    exact ⟨i1, i2⟩
theorem parse_any (T : List Nat) : ∀ acc : Nat, DigR T → (∃ u, Lib.parseUint10 acc (T.map UInt8.ofNat) = .ok u) ∨ Lib.parseUint10 acc (T.map UInt8.ofNat) = .range := by
  induction T with
  | nil => intro acc _; exact .inl ⟨acc, rfl⟩
  | cons r t ih =>
    intro acc hd
    have hr := hd r (by simp)
    rw [List.map_cons, Lib.parseUint10, dig_byte hr, if_pos hr]
    split
    · exact .inr rfl
    · split
      · exact .inr rfl
      · exact ih _ (fun x hx => hd x (by simp [hx]))
theorem atoi_dig {T : List Nat} (hd : DigR T) (hne : T ≠ []) :
    (T.length ≤ 9 → Lib.atoiAll (T.map UInt8.ofNat) = .ok (vN 0 T : Int)) ∧ ((∃ v, Lib.atoiAll (T.map UInt8.ofNat) = .ok v) ∨ Lib.atoiAll (T.map UInt8.ofNat) = .range) := by
  cases T with
  | nil => exact absurd rfl hne
  | cons r t =>
    have hr := hd r (by simp)
    have e : Lib.atoiAll ((r :: t).map UInt8.ofNat) = Lib.signless (Lib.parseMag ((r :: t).map UInt8.ofNat)) := by
      rw [List.map_cons]
      exact Lib.atoiAll_plain _ _ (by rw [dig_byte hr]; omega) (by rw [dig_byte hr]; omega)
    have e2 : Lib.parseMag ((r :: t).map UInt8.ofNat) = Lib.parseUint10 0 ((r :: t).map UInt8.ofNat) := by
      unfold Lib.parseMag; rw [if_neg (by simp)]
    rw [e, e2]
    refine ⟨fun h => ?_, ?_⟩
    · have hp : (10 : Nat) ^ (r :: t).length ≤ 10 ^ 9 := Nat.pow_le_pow_right (by decide) h
      obtain ⟨h1, h2⟩ := parse_dig (r :: t) 0 hd (by rw [Nat.zero_add, Nat.one_mul]; exact Nat.le_trans hp (by decide))
      rw [h1]
      unfold Lib.signless
      simp only
      rw [if_neg (by omega)]
    · rcases parse_any (r :: t) 0 hd with ⟨u, h1⟩ | h1
      · rw [h1]
        unfold Lib.signless
        simp only
        split
        · exact .inr rfl
        · exact .inl ⟨_, rfl⟩
      · rw [h1]
        exact .inr rfl
def nI (T : List Nat) : Int := if numR T < 0 then 0 else numR T
def nE (T : List Nat) : Int := if numR T < 0 then 50 else 0
theorem num_bad {T : List Nat} (h : 9 < T.length ∨ (1 < T.length ∧ T.getD 0 0 = 48)) : (0 : Int) = nI T ∧ (50 : Int) = nE T := by
  have : numR T = -1 := by unfold numR; rw [if_pos (.inr h)]
  unfold nI nE; rw [this]; exact ⟨rfl, rfl⟩
theorem num_good {T : List Nat} (hd : DigR T) (hne : T ≠ []) (h : ¬ (9 < T.length ∨ (1 < T.length ∧ T.getD 0 0 = 48))) : (vN 0 T : Int) = nI T ∧ (0 : Int) = nE T := by
  have hl : T.length ≠ 0 := by have := List.length_pos_iff.2 hne; omega
  have e : numR T = (vN 0 T : Int) := by
    unfold numR
    rw [if_neg (by rintro (h1 | h1); exact hl h1; exact h h1)]
    exact numF_v T 0 hd
  unfold nI nE
  rw [e, if_neg (by omega), if_neg (by omega)]
  exact ⟨rfl, rfl⟩
theorem ret_ii {a a' e e' : Int} (h : a = a') (h1 : e = e') : Ending.returned (.tuple #[.int .i64 a, .int .i64 e]) = .returned (.tuple #[.int .i64 a', .int .i64 e']) := by rw [h, h1]
set_option maxRecDepth 100000 in
set_option maxHeartbeats 1000000 in
theorem number_any (T : List Nat) (hd : DigR T) (hne : T ≠ []) (hs : (encB T).size ≤ 1000000) (w : World) (hT : Tb w) :
    Calls Tryz.prog 94 #[.string (encB T)] w fun e w' => e = .returned (.tuple #[.int .i64 (nI T), .int .i64 (nE T)]) ∧ Below w.heap.size w w' := by
  obtain ⟨hat, hor⟩ := atoi_dig hd hne
  have hdat : (encB T).data.toList = T.map UInt8.ofNat := encL_dig T hd
  have hlen : T.length = (encB T).size := by rw [Lib.size_eq, hdat, List.length_map]
  have hpos := List.length_pos_iff.2 hne
  rw [← hdat] at hat hor
  have hx : ∃ h : 0 < (encB T).size, ((encB T)[0]'h).toNat = T.getD 0 0 := by
    refine ⟨by omega, ?_⟩
    have e : (encB T)[0]'(by omega) = (encB T).data.toList[0]'(by rw [← Lib.size_eq]; omega) := rfl
    rw [e]
    simp only [hdat]
    rw [List.getElem_map, dig_byte (hd _ (List.getElem_mem _))]
    simp [List.getD, List.getElem?_eq_getElem hpos]
  have hbad := num_bad (T := T)
  have hgood := num_good hd hne
  obtain ⟨h0, hh0⟩ : ∃ h0, h0 = T.getD 0 0 := ⟨_, rfl⟩
  obtain ⟨V, hV⟩ : ∃ V : Int, V = (vN 0 T : Int) := ⟨_, rfl⟩
  obtain ⟨a, ha⟩ : ∃ a, a = nI T := ⟨_, rfl⟩
  obtain ⟨x, hxe⟩ : ∃ x, x = nE T := ⟨_, rfl⟩
  rw [← hh0, ← ha, ← hxe, hlen] at hbad
  rw [← hh0, ← ha, ← hxe, ← hV, hlen] at hgood
  rw [← hh0] at hx
  rw [hlen, ← hV] at hat
  clear hpos
  rw [← ha, ← hxe]
  clear hdat hlen hh0 hV ha hxe hd hne
  generalize encB T = z at *
  obtain ⟨hpos, hx⟩ := hx
  have HB := Lib.hid hbad
  have HG := Lib.hid hgood
  have HT := Lib.hid hT
  clear hbad hgood hT
  by_cases h9 : 9 < z.size
  · have HA := Lib.hid (HB.out (.inl h9))
    have t9 : decide ((z.size : Int) > 9) = true := by rw [decide_eq_true_iff]; omega
    rcases hor with ⟨v, hv⟩ | hv
    · have C1 := Lib.hid (fun w => atoi_ok z hs v hv w)
      clear hv hat hx
      go_enter Tryz.func94, Tryz.ntmps94
      go_wp2_with (first | (go_at_call 133; (with_reducible refine (C1.out _).mono ?_); rintro e w1 ⟨rfl, p1⟩) | fail)
      go_ret2
      exact ⟨ret_ii HA.out.1 HA.out.2, p1⟩
    · have C1 := Lib.hid (atoi_range z hs hv w HT.out)
      clear hv hat hx
      go_enter Tryz.func94, Tryz.ntmps94
      go_wp2_with (first | (go_at_call 133; (with_reducible refine (C1.out).mono ?_); rintro e w1 ⟨v, N, rfl, p1⟩) | fail)
      go_ret2
      exact ⟨ret_ii HA.out.1 HA.out.2, p1⟩
  · have C1 := Lib.hid (fun w => atoi_ok z hs V (hat (by omega)) w)
    have t9 : decide ((z.size : Int) > 9) = false := by rw [decide_eq_false_iff_not]; omega
    clear hat hor
    by_cases h1 : 1 < z.size
    · have t1 : decide ((z.size : Int) > 1) = true := by rw [decide_eq_true_iff]; omega
      by_cases h48 : h0 = 48
      · have HA := Lib.hid (HB.out (.inr ⟨h1, h48⟩))
        have t48 : (((z[0]'hpos).toNat : Int) == 48) = true := by rw [beq_iff_eq]; omega
        clear hx
        go_enter Tryz.func94, Tryz.ntmps94
        go_wp2_with (first | (go_at_call 133; (with_reducible refine (C1.out _).mono ?_); rintro e w1 ⟨rfl, p1⟩) | fail)
        go_ret2
        exact ⟨ret_ii HA.out.1 HA.out.2, p1⟩
      · have HA := Lib.hid (HG.out (by rintro (h | h); exact h9 h; exact h48 h.2))
        have t48 : (((z[0]'hpos).toNat : Int) == 48) = false := by rw [beq_eq_false_iff_ne]; omega
        clear hx
        go_enter Tryz.func94, Tryz.ntmps94
        go_wp2_with (first | (go_at_call 133; (with_reducible refine (C1.out _).mono ?_); rintro e w1 ⟨rfl, p1⟩) | fail)
        go_ret2
        exact ⟨ret_ii HA.out.1 HA.out.2, p1⟩
    · have HA := Lib.hid (HG.out (by rintro (h | h); exact h9 h; exact h1 h.1))
      have t1 : decide ((z.size : Int) > 1) = false := by rw [decide_eq_false_iff_not]; omega
      by_cases h48 : h0 = 48
      · have t48 : (((z[0]'hpos).toNat : Int) == 48) = true := by rw [beq_iff_eq]; omega
        clear hx
        go_enter Tryz.func94, Tryz.ntmps94
        go_wp2_with (first | (go_at_call 133; (with_reducible refine (C1.out _).mono ?_); rintro e w1 ⟨rfl, p1⟩) | fail)
        go_ret2
        exact ⟨ret_ii HA.out.1 HA.out.2, p1⟩
      · have t48 : (((z[0]'hpos).toNat : Int) == 48) = false := by rw [beq_eq_false_iff_ne]; omega
        clear hx
        go_enter Tryz.func94, Tryz.ntmps94
        go_wp2_with (first | (go_at_call 133; (with_reducible refine (C1.out _).mono ?_); rintro e w1 ⟨rfl, p1⟩) | fail)
        go_ret2
        exact ⟨ret_ii HA.out.1 HA.out.2, p1⟩
end Go.Proofs.YtdkngidangfkiaaGreatDoor.Lex
