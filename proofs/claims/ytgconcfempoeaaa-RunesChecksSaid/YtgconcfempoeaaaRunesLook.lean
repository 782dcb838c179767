/-
  The walks of layer 4's checking, counting and cutting.
-/
import Derived.Test.YtgconcfempoeaaaRunesClass
import Derived.Test.YtgconcfempoeaaaOwnRows
import Derived.Test.YtgconcfempoeaaaRunesBld
import Derived.Laws.RangeAny
namespace Go.Proofs.Ytgconcfempoeaaa.Runes
open Go.RowKit
open Base Bld
set_option linter.unusedVariables false

theorem lt_of_heap {w : World} {k : Nat} {o : Obj} (h : w.heap[k]? = some o) : k < w.heap.size := (Array.getElem?_eq_some_iff.1 h).1
theorem below_iter (w : World) (s : ByteArray) (pos : Nat) : Below w.heap.size w (w.iter s pos) := below_one _

def ckN (s : ByteArray) : Nat := (chk 0 (ps s 0)).1
def ckE (s : ByteArray) : Int := if (chk 0 (ps s 0)).2 = true then 40 else 0
theorem ck_of {s : ByteArray} {n : Nat} {b : Bool} (h : chk 0 (ps s 0) = (n, b)) : n = ckN s ∧ (if b = true then 40 else 0) = ckE s := by
  unfold ckN ckE; rw [h]; exact ⟨rfl, rfl⟩
theorem ret_ni {n n' : Nat} {e e' : Int} (h : n = n') (h' : e = e') : Ending.returned (.tuple #[.int .i64 (n : Int), .int .i64 e]) = .returned (.tuple #[.int .i64 (n' : Int), .int .i64 e']) := by rw [h, h']

set_option maxHeartbeats 1000000 in
theorem check_any (s : ByteArray) (hs : s.size ≤ 1000000) (w : World) :
    Calls Try.prog 11 #[.string s] w fun e w' => e = .returned (.tuple #[.int .i64 (ckN s : Nat), .int .i64 (ckE s)]) ∧ Below w.heap.size w w' := by
  go_enter Try.func11, Try.ntmps11
  go_wp2
  go_loopw [4] (fun n wr => ∃ pos k : Nat, wr = w.iter s pos ∧ n = .int .i64 (k : Int) ∧ chk k (ps s pos) = chk 0 (ps s 0) ∧ k ≤ pos ∧ pos ≤ s.size) (fun _ wr => s.size - wr.iterPos w.heap.size)
  case atStart => exact ⟨0, 0, rfl, rfl, rfl, Nat.le_refl _, Nat.zero_le _⟩
  case round =>
    obtain ⟨pos, k, rfl, rfl, hc, hk, hp0⟩ := hrel
    by_cases hp : pos < s.size
    · have hnx : ∀ ty, (Instr.next (.pointer (some ⟨w.heap.size, 0, none⟩)) true ty).run Try.prog (w.iter s pos) = _ := fun ty => run_next_any w s pos ty hp
      have hwd := ps_width s pos hp
      rw [ps_step s pos hp] at hc
      simp only [chk] at hc
      by_cases hb : cls ((Utf8.decode s pos).1 : Int) = 0
      · rw [if_pos hb] at hc
        have HC := Lib.hid (ck_of hc.symm)
        clear hc
        go_wp2_with (first | (go_at_call 8; (with_reducible refine (class_any _ _).mono ?_); rintro e w' ⟨rfl, rfl⟩) | fail)
        go_ret2
        exact ⟨ret_ni HC.out.1 HC.out.2, below_iter w s _⟩
      · rw [if_neg hb] at hc
        have HC := Lib.hid hc
        clear hc
        go_wp2_with (first | (go_at_call 8; (with_reducible refine (class_any _ _).mono ?_); rintro e w' ⟨rfl, rfl⟩) | fail)
        refine ⟨⟨_, k + 1, rfl, by go_num, HC.out, by omega, by omega⟩, ?_⟩
        simp; omega
    · have hnx : ∀ ty, (Instr.next (.pointer (some ⟨w.heap.size, 0, none⟩)) true ty).run Try.prog (w.iter s pos) = _ := fun ty => run_next_end w s pos ty hp
      rw [ps_end s pos hp] at hc
      simp only [chk] at hc
      have HC := Lib.hid (ck_of hc.symm)
      clear hc
      go_wp2
      go_ret2
      exact ⟨ret_ni HC.out.1 HC.out.2, below_iter w s _⟩

set_option maxHeartbeats 1000000 in
theorem rcheck_any (s : ByteArray) (hs : s.size ≤ 1000000) (w : World) :
    Calls Try.prog 12 #[.string s] w fun e w' => e = .returned (.tuple #[.int .i64 (ckN s : Nat), .int .i64 (ckE s)]) ∧ Below w.heap.size w w' := by
  go_enter Try.func12, Try.ntmps12
  go_wp2
  go_loopw [4] (fun n wr => ∃ pos k : Nat, wr = w.iter s pos ∧ n = .int .i64 (k : Int) ∧ chk k (ps s pos) = chk 0 (ps s 0) ∧ k ≤ pos ∧ pos ≤ s.size) (fun _ wr => s.size - wr.iterPos w.heap.size)
  case atStart => exact ⟨0, 0, rfl, rfl, rfl, Nat.le_refl _, Nat.zero_le _⟩
  case round =>
    obtain ⟨pos, k, rfl, rfl, hc, hk, hp0⟩ := hrel
    by_cases hp : pos < s.size
    · have hnx : ∀ ty, (Instr.next (.pointer (some ⟨w.heap.size, 0, none⟩)) true ty).run Try.prog (w.iter s pos) = _ := fun ty => run_next_any w s pos ty hp
      have hwd := ps_width s pos hp
      rw [ps_step s pos hp] at hc
      simp only [chk] at hc
      by_cases hb : cls ((Utf8.decode s pos).1 : Int) = 0
      · rw [if_pos hb] at hc
        have HC := Lib.hid (ck_of hc.symm)
        clear hc
        go_wp2_with (first | (go_at_call 9; (with_reducible refine (rclass_any _ _).mono ?_); rintro e w' ⟨rfl, rfl⟩) | fail)
        go_ret2
        exact ⟨ret_ni HC.out.1 HC.out.2, below_iter w s _⟩
      · rw [if_neg hb] at hc
        have HC := Lib.hid hc
        clear hc
        go_wp2_with (first | (go_at_call 9; (with_reducible refine (rclass_any _ _).mono ?_); rintro e w' ⟨rfl, rfl⟩) | fail)
        refine ⟨⟨_, k + 1, rfl, by go_num, HC.out, by omega, by omega⟩, ?_⟩
        simp; omega
    · have hnx : ∀ ty, (Instr.next (.pointer (some ⟨w.heap.size, 0, none⟩)) true ty).run Try.prog (w.iter s pos) = _ := fun ty => run_next_end w s pos ty hp
      rw [ps_end s pos hp] at hc
      simp only [chk] at hc
      have HC := Lib.hid (ck_of hc.symm)
      clear hc
      go_wp2
      go_ret2
      exact ⟨ret_ni HC.out.1 HC.out.2, below_iter w s _⟩


def cn (s : ByteArray) : Nat := (ps s 0).length
theorem cn_le (s : ByteArray) : cn s ≤ s.size := by
  unfold cn; rw [ps_zero, Lib.size_eq]; exact pc_length _

set_option maxHeartbeats 1000000 in
theorem count_any (s : ByteArray) (hs : s.size ≤ 1000000) (w : World) :
    Calls Try.prog 15 #[.string s] w fun e w' => e = .returned (.int .i64 (cn s : Nat)) ∧ Below w.heap.size w w' := by
  go_enter Try.func15, Try.ntmps15
  go_wp2
  go_loopw [3] (fun n wr => ∃ pos k : Nat, wr = w.iter s pos ∧ n = .int .i64 (k : Int) ∧ k + (ps s pos).length = cn s ∧ k ≤ pos ∧ pos ≤ s.size) (fun _ wr => s.size - wr.iterPos w.heap.size)
  case atStart => exact ⟨0, 0, rfl, rfl, Nat.zero_add _, Nat.le_refl _, Nat.zero_le _⟩
  case round =>
    obtain ⟨pos, k, rfl, rfl, hc, hk, hp0⟩ := hrel
    by_cases hp : pos < s.size
    · have hnx : ∀ ty, (Instr.next (.pointer (some ⟨w.heap.size, 0, none⟩)) true ty).run Try.prog (w.iter s pos) = _ := fun ty => run_next_any w s pos ty hp
      have hwd := ps_width s pos hp
      rw [ps_step s pos hp, List.length_cons] at hc
      have HC := Lib.hid hc
      clear hc
      go_wp2
      refine ⟨⟨_, k + 1, rfl, by go_num, by have := HC.out; omega, by omega, by omega⟩, ?_⟩
      simp; omega
    · have hnx : ∀ ty, (Instr.next (.pointer (some ⟨w.heap.size, 0, none⟩)) true ty).run Try.prog (w.iter s pos) = _ := fun ty => run_next_end w s pos ty hp
      rw [ps_end s pos hp] at hc
      have HC : Hid ((k : Int) = (cn s : Nat)) := Lib.hid (by simp at hc; omega)
      clear hc
      go_wp2
      go_ret
      exact ⟨ret_int HC.out, below_iter w s _⟩

theorem strClone_any (s : ByteArray) (hs : s.size ≤ 1000000) (w : World) :
    Calls Try.prog 25 #[.string s] w fun e w' => e = .returned (.string s) ∧ Below w.heap.size w w' := by
  go_enter Try.func25, Try.ntmps25
  go_wp2_with (first | (go_at_call 34; (with_reducible refine (clone_at _ _ (by omega)).mono ?_); rintro e w' ⟨rfl, p1⟩) | fail)
  go_ret
  exact ⟨rfl, p1⟩

/-! The document's own starts. -/

def iN (n : Nat) : Value := .int .i64 (n : Int)
theorem info_int : (Try.prog.info? 3).map (fun i => (i.zero, i.size, i.bytes)) = some (some (.int .i64 0), 1, 8) := by kernel_rfl
def strt (s : ByteArray) : List Nat := sts 0 (ps s 0) ++ [s.size]
theorem strt_length (s : ByteArray) : (strt s).length = cn s + 1 := by unfold strt cn; rw [List.length_append, sts_length]; rfl

theorem grown_iterAt (w : World) (k : Nat) (s : ByteArray) (pos : Nat) : w.grownBy (w.iterAt k s pos) (some k) :=
  ⟨rfl, rfl, rfl, by rw [Lib.iterAt_size]; exact Nat.le_refl _, fun i hi hn => Lib.iterAt_other w k i s pos (fun h => hn (by rw [h]))⟩

set_option maxRecDepth 100000 in
set_option maxHeartbeats 1000000 in
theorem starts_any (s : ByteArray) (hs : s.size ≤ 1000000) (w : World) :
    Calls Try.prog 26 #[.string s] w fun e w' => ∃ ao cap, e = .returned (.slice ao (cn s + 1) cap) ∧ Reads iN w' ao (strt s) ∧ (ao = none → cap = 0) ∧ cn s + 1 ≤ cap ∧ cap ≤ maxLen ∧ Below w.heap.size w w' := by
  obtain ⟨i0, hi, hz0, hz1, hz2⟩ := info_parts info_int
  have HI := Lib.hid hi
  have HZ0 := Lib.hid hz0
  have HZ1 := Lib.hid hz1
  have HZ2 := Lib.hid hz2
  clear hi hz0 hz1 hz2
  go_enter Try.func26, Try.ntmps26
  go_wp2
  go_loopw [3] (fun v wr => ∃ (pos : Nat) (zs : List Nat), wr.heap[w.heap.size]? = some (.stringIter s pos) ∧ Own iN (w.heap.size + 1) 3 v zs wr ∧ Below w.heap.size w wr ∧ zs ++ sts pos (ps s pos) = sts 0 (ps s 0) ∧ pos ≤ s.size ∧ zs.length ≤ pos) (fun _ wr => s.size - wr.iterPos w.heap.size)
  case atStart => exact ⟨0, [], World.iter_heap w s 0, Own.nil (by unfold World.iter; simp), below_iter w s 0, rfl, Nat.zero_le _, Nat.le_refl _⟩
  case round =>
    obtain ⟨pos, zs, hit, ho, hb, hc, hp0, hzl⟩ := hrel
    by_cases hp : pos < s.size
    · have hnx : ∀ ty, (Instr.next (.pointer (some ⟨w.heap.size, 0, none⟩)) true ty).run Try.prog wr = _ := fun ty => Lib.run_next_any_at wr w.heap.size s pos ty hit hp
      have hwd := ps_width s pos hp
      have hm0 : wr.iterPos w.heap.size = pos := by simp [World.iterPos, hit]
      have ho2 := ho.kept (grown_iterAt wr w.heap.size s (pos + (Utf8.decode s pos).2)) (fun k hk => by cases hk; omega)
      have hit2 := Lib.iterAt_heap wr w.heap.size s pos (pos + (Utf8.decode s pos).2) hit
      have hb2 := Lib.below_iterAt hb (Nat.le_refl _) s (pos + (Utf8.decode s pos).2)
      have hlt := lt_of_heap hit2
      rw [ps_step s pos hp, sts, hwd.2.2] at hc
      have HC : Hid ((zs ++ [pos]) ++ sts (pos + (Utf8.decode s pos).2) (ps s (pos + (Utf8.decode s pos).2)) = sts 0 (ps s 0)) := Lib.hid (by rw [← hc]; simp)
      have HO := Lib.hid ho2
      have HT := Lib.hid hit2
      have HB := Lib.hid hb2
      clear hc ho ho2 hit2 hb2 hb
      go_wp2_with (first
        | (at_builtin; refine wpList_append_src rfl (.tmp 10) (.tmp 12) 41 rfl i0 _ 8 Try.underlying41 HI.out HZ0.out HZ1.out HZ2.out rfl (fun _ => rfl) rfl (HO.out.alloc _) _ 1 1 [pos] rfl rfl (reads_one rfl _ _) (by intro h; cases h) (by omega) (by unfold maxLen; omega) ?_; intro v4 w4 o4 b4)
        | fail)
      have ht4 : w4.heap[w.heap.size]? = some (.stringIter s (pos + (Utf8.decode s pos).2)) := by
        rw [b4.block _ (Nat.lt_succ_self _), Lib.alloc_old _ _ _ hlt]; exact HT.out
      refine ⟨⟨_, zs ++ [pos], ht4, o4, (HB.out.alloc (by omega) _).trans (b4.mono (by omega)), HC.out, hwd.2.1, by simp; omega⟩, ?_⟩
      have hm4 : w4.iterPos w.heap.size = pos + (Utf8.decode s pos).2 := by simp [World.iterPos, ht4]
      rw [hm0, hm4]; omega
    · have hnx : ∀ ty, (Instr.next (.pointer (some ⟨w.heap.size, 0, none⟩)) true ty).run Try.prog wr = _ := fun ty => Lib.run_next_end_at wr w.heap.size s pos ty hit hp
      rw [ps_end s pos hp, sts, List.append_nil] at hc
      have hlt := lt_of_heap hit
      have HO := Lib.hid ho
      have HB := Lib.hid hb
      have HC := Lib.hid hc
      clear ho hb hc
      go_wp2_with (first
        | (at_builtin; refine wpList_append_src rfl (.tmp 14) (.tmp 17) 41 rfl i0 _ 8 Try.underlying41 HI.out HZ0.out HZ1.out HZ2.out rfl (fun _ => rfl) rfl (HO.out.alloc _) _ 1 1 [s.size] rfl rfl (reads_one rfl _ _) (by intro h; cases h) (by omega) (by unfold maxLen; omega) ?_; intro v4 w4 o4 b4)
        | fail)
      go_ret
      have hl : (zs ++ [s.size]).length = cn s + 1 := by rw [HC.out]; exact strt_length s
      obtain ⟨ao, cap, rfl, hr, hn, hc1, hc2⟩ := o4.value
      rw [hl] at hc1 ⊢
      refine ⟨ao, cap, rfl, ?_, hn, hc1, hc2, (HB.out.alloc (by omega) _).trans (b4.mono (by omega))⟩
      unfold strt; rw [← HC.out]; exact hr

theorem rcount_any (s : ByteArray) (hs : s.size ≤ 1000000) (w : World) :
    Calls Try.prog 16 #[.string s] w fun e w' => e = .returned (.int .i64 (cn s : Nat)) ∧ Below w.heap.size w w' := by
  have hn := cn_le s
  go_enter Try.func16, Try.ntmps16
  go_wp2_with (first | (go_at_call 26; (with_reducible refine (starts_any s hs _).mono ?_); rintro e w1 ⟨ao, cap, rfl, hr, hz, hc1, hc2, p1⟩) | fail)
  go_ret
  exact ⟨ret_int (by omega), p1⟩

end Go.Proofs.Ytgconcfempoeaaa.Runes
