/-
  The walks of layer 4's checking, counting and cutting.
-/
import Derived.Test.YtejppikbdplamaaDoorRunesClass
import Derived.Test.YtejppikbdplamaaDoorOwnRows
import Derived.Test.YtejppikbdplamaaDoorRunesBld
import Derived.Laws.RangeAny
namespace Go.Proofs.YtejppikbdplamaaDoor.Runes
open Go.RowKit
open Base Bld
set_option linter.unusedVariables false

theorem lt_of_heap {w : World} {k : Nat} {o : Obj} (h : w.heap[k]? = some o) : k < w.heap.size := (Array.getElem?_eq_some_iff.1 h).1
theorem below_iter (w : World) (s : ByteArray) (pos : Nat) : Below w.heap.size w (w.iter s pos) := below_one _

def ckN (s : ByteArray) : Nat := (chk 0 (ps s 0)).1
def ckE (s : ByteArray) : Int := if (chk 0 (ps s 0)).2 = true then 40 else 0
theorem ck_of {s : ByteArray} {n : Nat} {b : Bool} (h : chk 0 (ps s 0) = (n, b)) : n = ckN s ∧ (if b = true then 40 else 0) = ckE s := by
  unfold ckN ckE; rw [h]; exact ⟨rfl, rfl⟩
theorem ret_ni {n n' : Nat} {e e' : Int} (h : n = n') (h' : e = e') : Ending.returned (.tuple #[.int .i64 (n : Int), .int .i64 e]) = .returned (.tuple #[.int .i64 (n' : Int), .int .i64 e']) := by rw [h, h']

set_option maxHeartbeats 1000000 in
theorem check_any (s : ByteArray) (hs : s.size ≤ 1000000) (w : World) :
    Calls Tryd.prog 27 #[.string s] w fun e w' => e = .returned (.tuple #[.int .i64 (ckN s : Nat), .int .i64 (ckE s)]) ∧ Below w.heap.size w w' := by
  go_enter Tryd.func27, Tryd.ntmps27
  go_wp2
  go_loopw [4] (fun n wr => ∃ pos k : Nat, wr = w.iter s pos ∧ n = .int .i64 (k : Int) ∧ chk k (ps s pos) = chk 0 (ps s 0) ∧ k ≤ pos ∧ pos ≤ s.size) (fun _ wr => s.size - wr.iterPos w.heap.size)
  case atStart => exact ⟨0, 0, rfl, rfl, rfl, Nat.le_refl _, Nat.zero_le _⟩
  case round =>
    obtain ⟨pos, k, rfl, rfl, hc, hk, hp0⟩ := hrel
    by_cases hp : pos < s.size
    · have hnx : ∀ ty, (Instr.next (.pointer (some ⟨w.heap.size, 0, none⟩)) true ty).run Tryd.prog (w.iter s pos) = _ := fun ty => run_next_any w s pos ty hp
      have hwd := ps_width s pos hp
      rw [ps_step s pos hp] at hc
      simp only [chk] at hc
      by_cases hb : cls ((Utf8.decode s pos).1 : Int) = 0
      · rw [if_pos hb] at hc
        have HC := Lib.hid (ck_of hc.symm)
        clear hc
        go_wp2_with (first | (go_at_call 29; (with_reducible refine (class_any _ _).mono ?_); rintro e w' ⟨rfl, rfl⟩) | fail)
        go_ret2
        exact ⟨ret_ni HC.out.1 HC.out.2, below_iter w s _⟩
      · rw [if_neg hb] at hc
        have HC := Lib.hid hc
        clear hc
        go_wp2_with (first | (go_at_call 29; (with_reducible refine (class_any _ _).mono ?_); rintro e w' ⟨rfl, rfl⟩) | fail)
        refine ⟨⟨_, k + 1, rfl, by go_num, HC.out, by omega, by omega⟩, ?_⟩
        simp; omega
    · have hnx : ∀ ty, (Instr.next (.pointer (some ⟨w.heap.size, 0, none⟩)) true ty).run Tryd.prog (w.iter s pos) = _ := fun ty => run_next_end w s pos ty hp
      rw [ps_end s pos hp] at hc
      simp only [chk] at hc
      have HC := Lib.hid (ck_of hc.symm)
      clear hc
      go_wp2
      go_ret2
      exact ⟨ret_ni HC.out.1 HC.out.2, below_iter w s _⟩

set_option maxHeartbeats 1000000 in
theorem rcheck_any (s : ByteArray) (hs : s.size ≤ 1000000) (w : World) :
    Calls Tryd.prog 70 #[.string s] w fun e w' => e = .returned (.tuple #[.int .i64 (ckN s : Nat), .int .i64 (ckE s)]) ∧ Below w.heap.size w w' := by
  go_enter Tryd.func70, Tryd.ntmps70
  go_wp2
  go_loopw [4] (fun n wr => ∃ pos k : Nat, wr = w.iter s pos ∧ n = .int .i64 (k : Int) ∧ chk k (ps s pos) = chk 0 (ps s 0) ∧ k ≤ pos ∧ pos ≤ s.size) (fun _ wr => s.size - wr.iterPos w.heap.size)
  case atStart => exact ⟨0, 0, rfl, rfl, rfl, Nat.le_refl _, Nat.zero_le _⟩
  case round =>
    obtain ⟨pos, k, rfl, rfl, hc, hk, hp0⟩ := hrel
    by_cases hp : pos < s.size
    · have hnx : ∀ ty, (Instr.next (.pointer (some ⟨w.heap.size, 0, none⟩)) true ty).run Tryd.prog (w.iter s pos) = _ := fun ty => run_next_any w s pos ty hp
      have hwd := ps_width s pos hp
      rw [ps_step s pos hp] at hc
      simp only [chk] at hc
      by_cases hb : cls ((Utf8.decode s pos).1 : Int) = 0
      · rw [if_pos hb] at hc
        have HC := Lib.hid (ck_of hc.symm)
        clear hc
        go_wp2_with (first | (go_at_call 17; (with_reducible refine (rclass_any _ _).mono ?_); rintro e w' ⟨rfl, rfl⟩) | fail)
        go_ret2
        exact ⟨ret_ni HC.out.1 HC.out.2, below_iter w s _⟩
      · rw [if_neg hb] at hc
        have HC := Lib.hid hc
        clear hc
        go_wp2_with (first | (go_at_call 17; (with_reducible refine (rclass_any _ _).mono ?_); rintro e w' ⟨rfl, rfl⟩) | fail)
        refine ⟨⟨_, k + 1, rfl, by go_num, HC.out, by omega, by omega⟩, ?_⟩
        simp; omega
    · have hnx : ∀ ty, (Instr.next (.pointer (some ⟨w.heap.size, 0, none⟩)) true ty).run Tryd.prog (w.iter s pos) = _ := fun ty => run_next_end w s pos ty hp
      rw [ps_end s pos hp] at hc
      simp only [chk] at hc
      have HC := Lib.hid (ck_of hc.symm)
      clear hc
      go_wp2
      go_ret2
      exact ⟨ret_ni HC.out.1 HC.out.2, below_iter w s _⟩


def cn (s : ByteArray) : Nat := (ps s 0).length
theorem cn_le (s : ByteArray) : cn s ≤ s.size := by
  unfold cn; rw [ps_zero, Lib.size_eq]; exact pc_length _

set_option maxHeartbeats 1000000 in
theorem count_any (s : ByteArray) (hs : s.size ≤ 1000000) (w : World) :
    Calls Tryd.prog 12 #[.string s] w fun e w' => e = .returned (.int .i64 (cn s : Nat)) ∧ Below w.heap.size w w' := by
  go_enter Tryd.func12, Tryd.ntmps12
  go_wp2
  go_loopw [3] (fun n wr => ∃ pos k : Nat, wr = w.iter s pos ∧ n = .int .i64 (k : Int) ∧ k + (ps s pos).length = cn s ∧ k ≤ pos ∧ pos ≤ s.size) (fun _ wr => s.size - wr.iterPos w.heap.size)
  case atStart => exact ⟨0, 0, rfl, rfl, Nat.zero_add _, Nat.le_refl _, Nat.zero_le _⟩
  case round =>
    obtain ⟨pos, k, rfl, rfl, hc, hk, hp0⟩ := hrel
    by_cases hp : pos < s.size
    · have hnx : ∀ ty, (Instr.next (.pointer (some ⟨w.heap.size, 0, none⟩)) true ty).run Tryd.prog (w.iter s pos) = _ := fun ty => run_next_any w s pos ty hp
      have hwd := ps_width s pos hp
      rw [ps_step s pos hp, List.length_cons] at hc
      have HC := Lib.hid hc
      clear hc
      go_wp2
      refine ⟨⟨_, k + 1, rfl, by go_num, by have := HC.out; omega, by omega, by omega⟩, ?_⟩
      simp; omega
    · have hnx : ∀ ty, (Instr.next (.pointer (some ⟨w.heap.size, 0, none⟩)) true ty).run Tryd.prog (w.iter s pos) = _ := fun ty => run_next_end w s pos ty hp
      rw [ps_end s pos hp] at hc
      have HC : Hid ((k : Int) = (cn s : Nat)) := Lib.hid (by simp at hc; omega)
      clear hc
      go_wp2
      go_ret
      exact ⟨ret_int HC.out, below_iter w s _⟩

theorem strClone_any (s : ByteArray) (hs : s.size ≤ 1000000) (w : World) :
    Calls Tryd.prog 25 #[.string s] w fun e w' => e = .returned (.string s) ∧ Below w.heap.size w w' := by
  go_enter Tryd.func25, Tryd.ntmps25
  go_wp2_with (first | (go_at_call 43; (with_reducible refine (clone_at _ _ (by omega)).mono ?_); rintro e w' ⟨rfl, p1⟩) | fail)
  go_ret
  exact ⟨rfl, p1⟩

/-! The document's own starts. -/

def iN (n : Nat) : Value := .int .i64 (n : Int)
theorem info_int : (Tryd.prog.info? 3).map (fun i => (i.zero, i.size, i.bytes)) = some (some (.int .i64 0), 1, 8) := by kernel_rfl
def strt (s : ByteArray) : List Nat := sts 0 (ps s 0) ++ [s.size]
theorem strt_length (s : ByteArray) : (strt s).length = cn s + 1 := by unfold strt cn; rw [List.length_append, sts_length]; rfl

theorem grown_iterAt (w : World) (k : Nat) (s : ByteArray) (pos : Nat) : w.grownBy (w.iterAt k s pos) (some k) :=
  ⟨rfl, rfl, rfl, by rw [Lib.iterAt_size]; exact Nat.le_refl _, fun i hi hn => Lib.iterAt_other w k i s pos (fun h => hn (by rw [h]))⟩

end Go.Proofs.YtejppikbdplamaaDoor.Runes
