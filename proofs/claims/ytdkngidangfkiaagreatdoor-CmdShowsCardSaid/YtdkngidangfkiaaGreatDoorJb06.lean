/-
  Joined out of: The walks of layer 4's quoting. The walks of layer 4's unquoting. The walk of the program's token of a piece. The walk of the program's tokens of a line. The program's written tokens, whether they may be: plain, and walked. Plain mathematics of package sat: numbers held between 0 and an end, and their sums; nothing of the program. Plain: the text of a time, as it is gone through and as it is written; nothing of the program. Layer 8, plain: tokens that stand side by side, with no blank between, and what they are again. Shapes, plain: what may be, the options, the least and the greatest size, other times. The walks of the program's small questions of a shape.
-/
import Derived.Test.YtdkngidangfkiaaGreatDoorJb02
import Derived.Test.YtdkngidangfkiaaGreatDoorJb05
import Derived.Lib.ItoaLen
import Derived.Lib.SlTrimSet
import Derived.Lib.AtoiAllCases
import Derived.Lib.ItoaNum
import Derived.Lib.Hide
import Derived.Lib.Strings
import Derived.Test.YtdkngidangfkiaaGreatDoorJb01
import Derived.BigQuiet
import Derived.Deep.RegionWith
namespace Go.Proofs.YtdkngidangfkiaaGreatDoor.Runes
open Go.RowKit
open Base Bld
set_option linter.unusedVariables false
theorem bldR_eq {w w1 : World} {B b : Nat} {l l' : List UInt8} (h : BldR w B b l w1) (hl : l = l') : BldR w B b l' w1 := by rw [← hl]; exact h
theorem _root_.Go.Proofs.YtdkngidangfkiaaGreatDoor.Bld.BldR.lt {w w1 : World} {B b : Nat} {l : List UInt8} (h : BldR w B b l w1) : b < w1.heap.size := by
  rcases h.1 with ⟨_, v, hb, _⟩ | ⟨_, v, hb, _⟩
  · exact lt_of_heap hb
  · exact lt_of_heap hb
theorem encodeRune_le (r : Int) : (Lib.encodeRune r).length ≤ 4 := by have := (Lib.runeCells_le r).2; rw [Lib.runeCells_length] at this; exact this
theorem mkR_dec (r : Nat) : decide ((r : Int) = 34 ∨ (r : Int) = 92) = mkR r := by
  rw [Bool.eq_iff_iff, decide_eq_true_iff]; simp only [mkR, Bool.or_eq_true, beq_iff_eq]; omega
set_option maxRecDepth 100000 in
set_option maxHeartbeats 2000000 in
theorem quote_any (s : ByteArray) (hs : s.size ≤ 1000000) (w : World) :
    Calls Tryz.prog 146 #[.string s] w fun e w' => e = .returned (.tuple #[.string (qtS s), .int .i64 (ckE s)]) ∧ Below w.heap.size w w' := by
  have c1 := fun w => check_any s hs w
  rcases ckE_or s with hE | hE
  · have hqr : qr (ps s 0) = mk s.data.toList := qr_good _ ((ckE_good s).1 hE)
    have HQ : Hid ((⟨(34 :: qr (ps s 0) ++ [34]).toArray⟩ : ByteArray) = qtS s) := Lib.hid (by unfold qtS qt; rw [if_pos hE, hqr]; rfl)
    simp only [hE] at c1 ⊢
    have C1 := Lib.hid c1
    clear c1 hqr
    go_enter Tryz.func146, Tryz.ntmps146
    go_wp2_with (first
      | (go_at_call 87; (with_reducible refine (C1.out _).mono ?_); rintro e w1 ⟨rfl, p1⟩)
      | (go_at_call 172; (with_reducible refine (writeByte_r w _ w.heap.size _ [] 34 34 rfl (bldR_new w w1 p1 _ rfl) (by decide)).mono ?_); rintro e w2 ⟨rfl, h2, k2⟩)
      | fail)
    have hbk : w1.heap.size < w2.heap.size := h2.lt
    go_loopw [] (fun wr => ∃ (pos : Nat) (acc : List UInt8), wr.heap[w2.heap.size]? = some (.stringIter s pos) ∧ BldR w w.heap.size w1.heap.size acc wr ∧ acc ++ qr (ps s pos) = 34 :: qr (ps s 0) ∧ pos ≤ s.size ∧ acc.length ≤ 5 * pos + 1) (fun wr => s.size - wr.iterPos w2.heap.size)
    case atStart => exact ⟨0, [34], World.iter_heap w2 s 0, h2.alloc _, rfl, Nat.zero_le _, Nat.le_refl _⟩
    case round =>
      obtain ⟨pos, acc, hit, hI, hc, hp0, hal⟩ := hrel
      by_cases hp : pos < s.size
      · have hnx : ∀ ty, (Instr.next (.pointer (some ⟨w2.heap.size, 0, none⟩)) true ty).run Tryz.prog wr = _ := fun ty => Lib.run_next_any_at wr w2.heap.size s pos ty hit hp
        have hwd := ps_width s pos hp
        have hd1 := decode_le s pos
        have hm0 : wr.iterPos w2.heap.size = pos := by simp [World.iterPos, hit]
        have hI2 := hI.iterAt hit (by have := h2.2.2; omega) (pos + (Utf8.decode s pos).2)
        have hit2 := Lib.iterAt_heap wr w2.heap.size s pos (pos + (Utf8.decode s pos).2) hit
        have he4 := encodeRune_le ((Utf8.decode s pos).1 : Int)
        rw [ps_step s pos hp, qr] at hc
        have HI := Lib.hid hI2
        have HT := Lib.hid hit2
        have HE4 := Lib.hid he4
        clear hI hI2 hit2 he4
        cases hmk : mkR (Utf8.decode s pos).1 with
        | true =>
          have hdm : decide (((Utf8.decode s pos).1 : Int) = 34 ∨ ((Utf8.decode s pos).1 : Int) = 92) = true := by rw [mkR_dec, hmk]
          rw [hmk, if_pos rfl] at hc
          have HC : Hid ((acc ++ [92] ++ Lib.encodeRune ((Utf8.decode s pos).1 : Int)) ++ qr (ps s (pos + (Utf8.decode s pos).2)) = 34 :: qr (ps s 0)) := Lib.hid (by rw [← hc]; simp)
          clear hc hmk
          go_wp2_with (first
            | (go_at_call 166; (with_reducible refine (isMark_any _ _).mono ?_); rintro e w' ⟨rfl, rfl⟩)
            | (go_at_call 172; (with_reducible refine (writeByte_r _ _ _ _ acc 92 92 rfl HI.out (by omega)).mono ?_); rintro e w3 ⟨rfl, h3, k3⟩)
            | (go_at_call 167; (with_reducible refine (writeRune_r _ _ _ _ (acc ++ [92]) _ (by omega) (by omega) h3 (by simp only [List.length_append, List.length_singleton]; omega)).mono ?_); rintro e w4 ⟨rfl, h4, k4⟩)
            | fail)
          have ht4 := k4.iter (k3.iter HT.out (by omega)) (by omega)
          refine ⟨⟨_, _, ht4, h4, HC.out, hwd.2.1, by have := HE4.out; simp only [List.length_append, List.length_singleton]; omega⟩, ?_⟩
          rw [hm0]; simp only [World.iterPos, ht4]; omega
        | false =>
          have hdm : decide (((Utf8.decode s pos).1 : Int) = 34 ∨ ((Utf8.decode s pos).1 : Int) = 92) = false := by rw [mkR_dec, hmk]
          rw [hmk, if_neg (by simp)] at hc
          have HC : Hid ((acc ++ Lib.encodeRune ((Utf8.decode s pos).1 : Int)) ++ qr (ps s (pos + (Utf8.decode s pos).2)) = 34 :: qr (ps s 0)) := Lib.hid (by rw [← hc]; simp)
          clear hc hmk
          go_wp2_with (first
            | (go_at_call 166; (with_reducible refine (isMark_any _ _).mono ?_); rintro e w' ⟨rfl, rfl⟩)
            | (go_at_call 167; (with_reducible refine (writeRune_r _ _ _ _ acc _ (by omega) (by omega) HI.out (by omega)).mono ?_); rintro e w4 ⟨rfl, h4, k4⟩)
            | fail)
          have ht4 := k4.iter HT.out (by omega)
          refine ⟨⟨_, _, ht4, h4, HC.out, hwd.2.1, by have := HE4.out; simp only [List.length_append]; omega⟩, ?_⟩
          rw [hm0]; simp only [World.iterPos, ht4]; omega
      · have hnx : ∀ ty, (Instr.next (.pointer (some ⟨w2.heap.size, 0, none⟩)) true ty).run Tryz.prog wr = _ := fun ty => Lib.run_next_end_at wr w2.heap.size s pos ty hit hp
        rw [ps_end s pos hp, qr, List.append_nil] at hc
        obtain ⟨z, hz⟩ : ∃ z, acc ++ [34] = z := ⟨_, rfl⟩
        have HZ := Lib.hid hz
        have HA : Hid ((⟨z.toArray⟩ : ByteArray) = qtS s) := Lib.hid (by rw [← hz, hc]; exact HQ.out)
        have HI := Lib.hid hI
        clear hz hc hI
        go_wp2_with (first
          | (go_at_call 172; (with_reducible refine (writeByte_r _ _ _ _ acc 34 34 rfl HI.out (by omega)).mono ?_); rintro e w3 ⟨rfl, h3, k3⟩)
          | (go_at_call 22; (with_reducible refine (string_r _ _ _ _ z (bldR_eq h3 HZ.out)).mono ?_); rintro e w4 ⟨rfl, p4⟩)
          | fail)
        go_ret2
        exact ⟨ret_si HA.out rfl, p4⟩
  · have HA : Hid ((⟨#[]⟩ : ByteArray) = qtS s) := Lib.hid (by unfold qtS; rw [if_neg (by omega)])
    simp only [hE] at c1 ⊢
    have C1 := Lib.hid c1
    clear c1
    go_enter Tryz.func146, Tryz.ntmps146
    go_wp2_with (first | (go_at_call 87; (with_reducible refine (C1.out _).mono ?_); rintro e w1 ⟨rfl, p1⟩) | fail)
    go_ret2
    exact ⟨ret_si HA.out rfl, p1⟩
end Go.Proofs.YtdkngidangfkiaaGreatDoor.Runes
namespace Go.Proofs.YtdkngidangfkiaaGreatDoor.Runes
open Go.RowKit
open Base Bld
set_option linter.unusedVariables false
def umS (s : ByteArray) : ByteArray := ⟨((unR (ps s 0) false).getD []).toArray⟩
def umE (s : ByteArray) : Int := if (unR (ps s 0) false).isSome = true then 0 else 50
theorem um_no {s : ByteArray} (h : unR (ps s 0) false = none) : ⟨#[]⟩ = umS s ∧ 50 = umE s := by unfold umS umE; rw [h]; exact ⟨rfl, rfl⟩
theorem um_yes {s : ByteArray} {u : List UInt8} (h : unR (ps s 0) false = some u) : ⟨u.toArray⟩ = umS s ∧ 0 = umE s := by unfold umS umE; rw [h]; exact ⟨rfl, rfl⟩
set_option maxRecDepth 100000 in
set_option maxHeartbeats 2000000 in
theorem unmark_any (s : ByteArray) (hs : s.size ≤ 1000000) (w : World) :
    Calls Tryz.prog 136 #[.string s] w fun e w' => e = .returned (.tuple #[.string (umS s), .int .i64 (umE s)]) ∧ Below w.heap.size w w' := by
  go_enter Tryz.func136, Tryz.ntmps136
  go_wp2
  go_loopw [5] (fun m wr => ∃ (pos : Nat) (acc : List UInt8) (mb : Bool), m = .bool mb ∧ wr.heap[w.heap.size + 1]? = some (.stringIter s pos) ∧ BldR w w.heap.size w.heap.size acc wr ∧ (unR (ps s pos) mb).map (acc ++ ·) = unR (ps s 0) false ∧ pos ≤ s.size ∧ acc.length ≤ 4 * pos) (fun _ wr => s.size - wr.iterPos (w.heap.size + 1))
  case atStart =>
    refine ⟨0, [], false, rfl, ?_, (bldR_new w w (Below.refl _ _) _ rfl).alloc _, by simp, Nat.zero_le _, Nat.le_refl _⟩
    have := World.iter_heap (w.alloc (.cells #[.pointer none, .slice none 0 0] 46)) s 0
    simpa using this
  case round =>
    obtain ⟨pos, acc, mb, rfl, hit, hI, hc, hp0, hal⟩ := hrel
    by_cases hp : pos < s.size
    · have hnx : ∀ ty, (Instr.next (.pointer (some ⟨w.heap.size + 1, 0, none⟩)) true ty).run Tryz.prog wr = _ := fun ty => Lib.run_next_any_at wr (w.heap.size + 1) s pos ty hit hp
      have hwd := ps_width s pos hp
      have hd1 := decode_le s pos
      have hm0 : wr.iterPos (w.heap.size + 1) = pos := by simp [World.iterPos, hit]
      have hI2 := hI.iterAt hit (by omega) (pos + (Utf8.decode s pos).2)
      have hit2 := Lib.iterAt_heap wr (w.heap.size + 1) s pos (pos + (Utf8.decode s pos).2) hit
      have he4 := encodeRune_le ((Utf8.decode s pos).1 : Int)
      have hdm := mkR_dec (Utf8.decode s pos).1
      rw [ps_step s pos hp, unR] at hc
      have HI := Lib.hid hI2
      have HT := Lib.hid hit2
      have HE4 := Lib.hid he4
      have HB : Hid (Below w.heap.size w (wr.iterAt (w.heap.size + 1) s (pos + (Utf8.decode s pos).2))) := Lib.hid hI2.2.1
      have hm2 : (wr.iterAt (w.heap.size + 1) s (pos + (Utf8.decode s pos).2)).iterPos (w.heap.size + 1) = pos + (Utf8.decode s pos).2 := by simp [World.iterPos, hit2]
      have HM2 := Lib.hid hm2
      clear hI hI2 hit2 he4 hm2
      cases mb with
      | false =>
        by_cases h92 : (Utf8.decode s pos).1 = 92
        · rw [if_pos ⟨h92, rfl⟩] at hc
          have HC := Lib.hid hc
          have hb1 : (((Utf8.decode s pos).1 : Int) == 92) = true := by rw [beq_iff_eq]; omega
          clear hc hdm
          go_wp2
          refine ⟨⟨_, acc, true, rfl, HT.out, HI.out, HC.out, hwd.2.1, by omega⟩, ?_⟩
          rw [hm0, HM2.out]; omega
        · have hb1 : (((Utf8.decode s pos).1 : Int) == 92) = false := by rw [beq_eq_false_iff_ne]; omega
          rw [if_neg (fun x => h92 x.1)] at hc
          cases hmk : mkR (Utf8.decode s pos).1 with
          | true =>
            rw [hmk, if_pos (by simp)] at hc
            rw [hmk] at hdm
            have HA := Lib.hid (um_no hc.symm)
            clear hc hmk
            go_wp2_with (first
              | (go_at_call 166; (with_reducible refine (isMark_any _ _).mono ?_); rintro e w' ⟨rfl, rfl⟩)
              | fail)
            go_ret2
            exact ⟨ret_si HA.out.1 HA.out.2, HB.out⟩
          | false =>
            rw [hmk, if_neg (by simp)] at hc
            rw [hmk] at hdm
            have HC : Hid ((unR (ps s (pos + (Utf8.decode s pos).2)) false).map ((acc ++ Lib.encodeRune ((Utf8.decode s pos).1 : Int)) ++ ·) = unR (ps s 0) false) := Lib.hid (by rw [← hc, Option.map_map]; congr 1; funext x; simp)
            clear hc hmk
            go_wp2_with (first
              | (go_at_call 166; (with_reducible refine (isMark_any _ _).mono ?_); rintro e w' ⟨rfl, rfl⟩)
              | (go_at_call 167; (with_reducible refine (writeRune_r _ _ _ _ acc _ (by omega) (by omega) HI.out (by omega)).mono ?_); rintro e w4 ⟨rfl, h4, k4⟩)
              | fail)
            have ht4 := k4.iter HT.out (by omega)
            refine ⟨⟨_, _, false, rfl, ht4, h4, HC.out, hwd.2.1, by have := HE4.out; simp only [List.length_append]; omega⟩, ?_⟩
            rw [hm0]; simp only [World.iterPos, ht4]; omega
      | true =>
        rw [if_neg (by simp)] at hc
        cases hmk : mkR (Utf8.decode s pos).1 with
        | false =>
          have hb1 : (((Utf8.decode s pos).1 : Int) == 92) = false := by rw [beq_eq_false_iff_ne]; intro h; simp only [mkR, Bool.or_eq_false_iff, beq_eq_false_iff_ne] at hmk; omega
          rw [hmk, if_pos (by simp)] at hc
          rw [hmk] at hdm
          have HA := Lib.hid (um_no hc.symm)
          clear hc hmk
          go_wp2_with (first
            | (go_at_call 166; (with_reducible refine (isMark_any _ _).mono ?_); rintro e w' ⟨rfl, rfl⟩)
            | fail)
          go_ret2
          exact ⟨ret_si HA.out.1 HA.out.2, HB.out⟩
        | true =>
          rw [hmk, if_neg (by simp)] at hc
          rw [hmk] at hdm
          have HC : Hid ((unR (ps s (pos + (Utf8.decode s pos).2)) false).map ((acc ++ Lib.encodeRune ((Utf8.decode s pos).1 : Int)) ++ ·) = unR (ps s 0) false) := Lib.hid (by rw [← hc, Option.map_map]; congr 1; funext x; simp)
          clear hc hmk
          by_cases h92 : (Utf8.decode s pos).1 = 92
          · have hb1 : (((Utf8.decode s pos).1 : Int) == 92) = true := by rw [beq_iff_eq]; omega
            have hr : ((Utf8.decode s pos).1 : Int) = 92 := by omega
            rw [hr] at HC HE4
            clear hdm
            go_wp2_with (first
              | (go_at_call 166; (with_reducible refine (isMark_any _ _).mono ?_); rintro e w' ⟨rfl, rfl⟩)
              | (go_at_call 167; (with_reducible refine (writeRune_r _ _ _ _ acc 92 (by omega) (by omega) HI.out (by omega)).mono ?_); rintro e w4 ⟨rfl, h4, k4⟩)
              | fail)
            have ht4 := k4.iter HT.out (by omega)
            refine ⟨⟨_, _, false, rfl, ht4, h4, HC.out, hwd.2.1, by have := HE4.out; simp only [List.length_append]; omega⟩, ?_⟩
            rw [hm0]; simp only [World.iterPos, ht4]; omega
          · have hb1 : (((Utf8.decode s pos).1 : Int) == 92) = false := by rw [beq_eq_false_iff_ne]; omega
            go_wp2_with (first
              | (go_at_call 166; (with_reducible refine (isMark_any _ _).mono ?_); rintro e w' ⟨rfl, rfl⟩)
              | (go_at_call 167; (with_reducible refine (writeRune_r _ _ _ _ acc _ (by omega) (by omega) HI.out (by omega)).mono ?_); rintro e w4 ⟨rfl, h4, k4⟩)
              | fail)
            have ht4 := k4.iter HT.out (by omega)
            refine ⟨⟨_, _, false, rfl, ht4, h4, HC.out, hwd.2.1, by have := HE4.out; simp only [List.length_append]; omega⟩, ?_⟩
            rw [hm0]; simp only [World.iterPos, ht4]; omega
    · have hnx : ∀ ty, (Instr.next (.pointer (some ⟨w.heap.size + 1, 0, none⟩)) true ty).run Tryz.prog wr = _ := fun ty => Lib.run_next_end_at wr (w.heap.size + 1) s pos ty hit hp
      rw [ps_end s pos hp, unR] at hc
      have HI := Lib.hid hI
      clear hI
      cases mb with
      | true =>
        have HA := Lib.hid (um_no (s := s) (by rw [← hc]; rfl))
        clear hc
        go_wp2
        go_ret2
        exact ⟨ret_si HA.out.1 HA.out.2, HI.out.2.1⟩
      | false =>
        have HA := Lib.hid (um_yes (s := s) (u := acc) (by rw [← hc]; simp))
        clear hc
        go_wp2_with (first
          | (go_at_call 22; (with_reducible refine (string_r _ _ _ _ acc HI.out).mono ?_); rintro e w4 ⟨rfl, p4⟩)
          | fail)
        go_ret2
        exact ⟨ret_si HA.out.1 HA.out.2, p4⟩
theorem hasPrefix_one (l : List UInt8) : Lib.hasPrefix l [34] = (l.head? == some 34) := by
  cases l with
  | nil => rfl
  | cons b t =>
    unfold Lib.hasPrefix
    simp only [List.isPrefixOf, Bool.and_true, List.head?_cons]
    rw [Bool.eq_iff_iff, beq_iff_eq, beq_iff_eq, Option.some.injEq]
    exact eq_comm
theorem hasSuffix_one (l : List UInt8) : Lib.hasSuffix l [34] = (l.getLast? == some 34) := by
  rw [List.getLast?_eq_head?_reverse, ← hasPrefix_one]
  rfl
theorem cut_first {l : List UInt8} (h : (l.head? == some 34) = true) : Lib.trimPrefix l [34] = l.tail := by
  unfold Lib.trimPrefix; rw [hasPrefix_one, if_pos h]; exact List.drop_one
theorem cut_last {l : List UInt8} (h : (l.getLast? == some 34) = true) : Lib.trimSuffix l [34] = l.dropLast := by
  unfold Lib.trimSuffix; rw [hasSuffix_one, if_pos h, List.dropLast_eq_take]; rfl
theorem um_uq {s : ByteArray} (hE : ckE s = 0) (hs : shut s.data.toList = true) : umS ⟨(inner s.data.toList).toArray⟩ = uqS s ∧ umE ⟨(inner s.data.toList).toArray⟩ = uqE s := by
  have hg := good_inner hs ((ckE_good s).1 hE)
  have e : unR (ps ⟨(inner s.data.toList).toArray⟩ 0) false = uq s.data.toList := by
    unfold uq
    rw [if_pos hs, ps_zero, ofList_data, un_good _ hg]
  unfold umS umE uqS uqE
  rw [e, if_pos hE, if_pos hE]
  exact ⟨rfl, rfl⟩
theorem uq_unshut {s : ByteArray} (hE : ckE s = 0) (hs : shut s.data.toList = false) : ⟨#[]⟩ = uqS s ∧ 50 = uqE s :=
  uq_no hE (by unfold uq; rw [hs]; rfl)
abbrev x34 : ByteArray := ⟨#[34]⟩
theorem cutPrefix_one (s : ByteArray) (w : World) :
    Calls Tryz.prog 134 #[.string s, .string x34] w fun e w' => e = .returned (.tuple #[.string ⟨(Lib.trimPrefix s.data.toList [34]).toArray⟩, .bool (s.data.toList.head? == some 34)]) ∧ w' = w := by
  rw [← hasPrefix_one]; exact cutPrefix_at s ⟨#[34]⟩ w
theorem cutSuffix_one (s : ByteArray) (w : World) (h : s.size ≤ 9223372036854775807) :
    Calls Tryz.prog 135 #[.string s, .string x34] w fun e w' => e = .returned (.tuple #[.string ⟨(Lib.trimSuffix s.data.toList [34]).toArray⟩, .bool (s.data.toList.getLast? == some 34)]) ∧ w' = w := by
  rw [← hasSuffix_one]; exact cutSuffix_at s ⟨#[34]⟩ w h
set_option maxRecDepth 100000 in
set_option maxHeartbeats 2000000 in
theorem unquote_any (s : ByteArray) (hs : s.size ≤ 1000000) (w : World) :
    Calls Tryz.prog 95 #[.string s] w fun e w' => e = .returned (.tuple #[.string (uqS s), .int .i64 (uqE s)]) ∧ Below w.heap.size w w' := by
  have c1 := fun w => check_any s hs w
  rcases ckE_or s with hE | hE
  · simp only [hE] at c1
    have C1 := Lib.hid c1
    clear c1
    have c2 := fun w => cutPrefix_one s w
    obtain ⟨t, ht⟩ : ∃ t : ByteArray, t = ⟨(Lib.trimPrefix s.data.toList [34]).toArray⟩ := ⟨_, rfl⟩
    have hts : t.size ≤ s.size := by
      rw [ht, Lib.size_eq, Lib.size_eq, ofList_data]; unfold Lib.trimPrefix; split
      · rw [List.length_drop]; omega
      · exact Nat.le_refl _
    have c3 := fun w => cutSuffix_one t w (by omega)
    obtain ⟨z, hz⟩ : ∃ z : ByteArray, z = ⟨(Lib.trimSuffix t.data.toList [34]).toArray⟩ := ⟨_, rfl⟩
    have hzs : z.size ≤ t.size := by
      rw [hz, Lib.size_eq, Lib.size_eq, ofList_data]; unfold Lib.trimSuffix; split
      · rw [List.length_take]; omega
      · exact Nat.le_refl _
    simp only [← ht] at c2
    simp only [← hz] at c3
    have hsh : shut s.data.toList = (s.data.toList.head? == some 34 && s.data.toList.tail.getLast? == some 34) := rfl
    cases ho : (s.data.toList.head? == some 34) with
    | false =>
      rw [ho, Bool.false_and] at hsh
      have HA := Lib.hid (uq_unshut hE hsh)
      simp only [ho] at c2
      have C2 := Lib.hid c2
      obtain ⟨b, hb⟩ : ∃ b, b = (t.data.toList.getLast? == some 34) := ⟨_, rfl⟩
      simp only [← hb] at c3
      have C3 := Lib.hid c3
      clear c2 c3 ht hts hz hzs ho hsh hE hb
      go_enter Tryz.func95, Tryz.ntmps95
      go_wp2_with (first
        | (go_at_call 87; (with_reducible refine (C1.out _).mono ?_); rintro e w1 ⟨rfl, p1⟩)
        | (go_at_call 134; (with_reducible refine (C2.out _).mono ?_); rintro e w2 ⟨rfl, rfl⟩)
        | (go_at_call 135; (with_reducible refine (C3.out _).mono ?_); rintro e w3 ⟨rfl, rfl⟩)
        | fail)
      go_ret2
      exact ⟨ret_si HA.out.1 HA.out.2, p1⟩
    | true =>
      rw [ho, Bool.true_and] at hsh
      have hta : t.data.toList = s.data.toList.tail := by rw [ht, ofList_data, cut_first ho]
      simp only [ho] at c2
      have C2 := Lib.hid c2
      rw [← hta] at hsh
      cases hc : (t.data.toList.getLast? == some 34) with
      | false =>
        rw [hc] at hsh
        have HA := Lib.hid (uq_unshut hE hsh)
        simp only [hc] at c3
        have C3 := Lib.hid c3
        clear c2 c3 ht hts hz hzs ho hsh hE hc hta
        go_enter Tryz.func95, Tryz.ntmps95
        go_wp2_with (first
          | (go_at_call 87; (with_reducible refine (C1.out _).mono ?_); rintro e w1 ⟨rfl, p1⟩)
          | (go_at_call 134; (with_reducible refine (C2.out _).mono ?_); rintro e w2 ⟨rfl, rfl⟩)
          | (go_at_call 135; (with_reducible refine (C3.out _).mono ?_); rintro e w3 ⟨rfl, rfl⟩)
          | fail)
        go_ret2
        exact ⟨ret_si HA.out.1 HA.out.2, p1⟩
      | true =>
        have hzi : z = ⟨(inner s.data.toList).toArray⟩ := by
          rw [hz, cut_last hc, hta]; rfl
        rw [hc] at hsh
        have hum := um_uq hE hsh
        rw [← hzi] at hum
        have c4 := fun w => unmark_any z (by omega) w
        simp only [hum.1, hum.2] at c4
        have C4 := Lib.hid c4
        simp only [hc] at c3
        have C3 := Lib.hid c3
        clear c2 c3 c4 ht hts hz hzs ho hsh hE hc hta hzi hum
        go_enter Tryz.func95, Tryz.ntmps95
        go_wp2_with (first
          | (go_at_call 87; (with_reducible refine (C1.out _).mono ?_); rintro e w1 ⟨rfl, p1⟩)
          | (go_at_call 134; (with_reducible refine (C2.out _).mono ?_); rintro e w2 ⟨rfl, rfl⟩)
          | (go_at_call 135; (with_reducible refine (C3.out _).mono ?_); rintro e w3 ⟨rfl, rfl⟩)
          | (go_at_call 136; (with_reducible refine (C4.out _).mono ?_); rintro e w4 ⟨rfl, p4⟩)
          | fail)
        go_ret2
        exact ⟨rfl, p4.from p1⟩
  · have HA := Lib.hid (uq_bad hE)
    simp only [hE] at c1
    have C1 := Lib.hid c1
    clear c1 hE
    go_enter Tryz.func95, Tryz.ntmps95
    go_wp2_with (first | (go_at_call 87; (with_reducible refine (C1.out _).mono ?_); rintro e w1 ⟨rfl, p1⟩) | fail)
    go_ret2
    exact ⟨ret_si HA.out.1 HA.out.2, p1⟩
end Go.Proofs.YtdkngidangfkiaaGreatDoor.Runes
namespace Go.Proofs.YtdkngidangfkiaaGreatDoor.Lex
open Go.RowKit
open Base Runes LexLib
set_option linter.unusedVariables false
set_option linter.unusedSimpArgs false
theorem first_rn (z : ByteArray) (h : 0 < z.size) : (Utf8.decode z 0).1 = (rn z).getD 0 0 := by
  unfold rn; rw [ps_step z 0 h]; rfl
theorem rn_pos {z : ByteArray} (h : rn z ≠ []) : 0 < z.size := by
  rcases Nat.eq_zero_or_pos z.size with h0 | h0
  · exfalso; apply h; unfold rn; rw [ps_end z 0 (by omega)]; rfl
  · exact h0
theorem idx_any (p : Nat → Bool) (s : ByteArray) : ∀ (f pos : Nat), s.size ≤ pos + f → (decide (0 ≤ Go.Lib.idxFuncFrom p true s f pos)) = ((ps s pos).map (·.1)).any p
  | f, pos, hf => by
    by_cases hp : pos < s.size
    · obtain ⟨g, rfl⟩ : ∃ g, f = g + 1 := ⟨f - 1, by omega⟩
      have hwd := ps_width s pos hp
      rw [ps_step s pos hp, List.map_cons, List.any_cons, Go.Lib.idxFuncFrom, if_pos hp]
      cases hq : p (Utf8.decode s pos).1 with
      | true => rw [if_pos rfl, Bool.true_or, decide_eq_true_iff]; omega
      | false => rw [if_neg (by simp), Bool.false_or]; exact idx_any p s g _ (by omega)
    · rw [ps_end s pos hp, Go.Lib.idxFuncFrom_end p true s f pos hp]; rfl
theorem hasSmall_any (z : ByteArray) (w : World) :
    Calls Tryz.prog 91 #[.string z, .func (.func 92) #[] #[]] w fun e w' => e = .returned (.bool (anyS (rn z))) ∧ Below w.heap.size w w' := by
  have h := containsFunc_any 92 (enters_of Tryz.func92 (by kernel_rfl) rfl) (fun r => decide (97 ≤ r ∧ r ≤ 122)) z w (fun W x hx hb => by
    refine (isSmall_any (x : Int) W).mono ?_
    rintro e w' ⟨rfl, rfl⟩
    refine ⟨ret_bool ?_, Below.refl _ _⟩
    rw [decide_eq_decide]; omega)
  rw [show decide (0 ≤ Go.Lib.idxFunc (fun r => decide (97 ≤ r ∧ r ≤ 122)) true z) = anyS (rn z) from idx_any _ z z.size 0 (by omega)] at h
  exact h
def pieV (r : Tok × Nat × Int) : Value := .tuple #[tokV r.1, .int .i64 (r.2.1 : Int), .int .i64 r.2.2]
set_option maxRecDepth 100000 in
set_option maxHeartbeats 4000000 in
theorem token_any (z : ByteArray) (hk : PieceOk z) (hs : z.size ≤ 1000000) (w : World) (hT : Tb w) :
    Calls Tryz.prog 62 #[.string z] w fun e w' => e = .returned (pieV (tokI z)) ∧ Below w.heap.size w w' := by
  obtain ⟨hne, h3s⟩ := hk
  have hpos := rn_pos hne
  have c1 := fun w => check_any z hs w
  have c2 := fun w hT => decode_any z hpos w hT
  simp only [first_rn z hpos] at c2
  obtain ⟨T, hTk⟩ : ∃ T, T = tokI z := ⟨_, rfl⟩
  rw [← hTk]
  unfold tokI at hTk
  obtain ⟨F, hF⟩ : ∃ F, F = (rn z).getD 0 0 := ⟨_, rfl⟩
  rw [← hF] at hTk h3s
  simp only [← hF] at c2
  have C2 := Lib.hid c2
  have HT := Lib.hid hT
  obtain ⟨K, hK⟩ : ∃ K, K = ckN z := ⟨_, rfl⟩
  obtain ⟨E, hE⟩ : ∃ E, E = ckE z := ⟨_, rfl⟩
  rw [← hK, ← hE] at hTk
  simp only [← hK, ← hE] at c1
  have C1 := Lib.hid c1
  clear c1 c2 hT hK hF
  by_cases hE0 : E = 0
  · have tE : (E != 0) = false := by rw [bne_eq_false_iff_eq]; exact hE0
    rw [if_neg (by omega)] at hTk
    have HS3 := Lib.hid h3s
    have HNE := Lib.hid hne
    have HE := Lib.hid (hE ▸ hE0 : ckE z = 0)
    clear h3s hne hE0 hE
    by_cases h1 : cls (F : Int) = 1
    · have t1 : (cls (F : Int) == 1) = true := by rw [beq_iff_eq]; exact h1
      rw [if_pos h1] at hTk
      have HK := Lib.hid hTk
      clear hTk
      go_enter Tryz.func62, Tryz.ntmps62
      go_wp2_with (first
        | (go_at_call 87; (with_reducible refine (C1.out _).mono ?_); rintro e w1 ⟨rfl, p1⟩)
        | (go_at_call 88; (with_reducible refine (C2.out _ ((HT.out.later (below_one _)).later p1)).mono ?_); rintro e w2 ⟨rfl, p2⟩; obtain ⟨⟨r0, r1, r2, r3⟩, f0, f1, f2, f3⟩ := tok_block rfl (p2.from p1))
        | (go_at_call 89; (with_reducible refine (class_any _ _).mono ?_); rintro e w' ⟨rfl, rfl⟩)
        | fail)
      obtain ⟨s0, s1, s2, s3⟩ := tok_set (.int .i64 0) (.string ⟨#[]⟩) (.int .i64 0) (.int .i64 0) r0 r1 r2 r3
      refine bodyPost_ret (v := pieV ((0, ⟨#[]⟩, 0, 0), 0, 0)) (by simp [results, Tryz.results62, go_sem, s0, s1, s2, s3, pieV, tokV]) rfl ⟨by rw [HK.out]; try first | rfl | simp [zT], ?_⟩
      exact below_set4 (Below.from (p2.from p1) (below_one _)) (Nat.le_refl _) _ _ _ _
    · have t1 : (cls (F : Int) == 1) = false := by rw [beq_eq_false_iff_ne]; exact h1
      rw [if_neg h1] at hTk
      by_cases h2 : cls (F : Int) = 2
      · have t2 : (cls (F : Int) == 2) = true := by rw [beq_iff_eq]; exact h2
        rw [if_pos h2] at hTk
        have HK := Lib.hid hTk
        clear hTk
        go_enter Tryz.func62, Tryz.ntmps62
        go_wp2_with (first
          | (go_at_call 87; (with_reducible refine (C1.out _).mono ?_); rintro e w1 ⟨rfl, p1⟩)
          | (go_at_call 88; (with_reducible refine (C2.out _ ((HT.out.later (below_one _)).later p1)).mono ?_); rintro e w2 ⟨rfl, p2⟩)
          | (go_at_call 89; (with_reducible refine (class_any _ _).mono ?_); rintro e w' ⟨rfl, rfl⟩)
          | (go_at_call 90; (with_reducible refine (lower_any z hs _).mono ?_); rintro e w3 ⟨rfl, p3⟩; obtain ⟨⟨r0, r1, r2, r3⟩, f0, f1, f2, f3⟩ := tok_block rfl (p3.from (p2.from p1)))
          | fail)
        obtain ⟨s0, s1, s2, s3⟩ := tok_set (.int .i64 1) (.string (lowS z)) (.int .i64 0) (.int .i64 0) r0 r1 r2 r3
        refine bodyPost_ret (v := pieV ((1, (lowS z), 0, 0), 0, 0)) (by simp [results, Tryz.results62, go_sem, s0, s1, s2, s3, pieV, tokV]) rfl ⟨by rw [HK.out]; try first | rfl | simp [zT], ?_⟩
        exact below_set4 (Below.from (p3.from (p2.from p1)) (below_one _)) (Nat.le_refl _) _ _ _ _
      · have t2 : (cls (F : Int) == 2) = false := by rw [beq_eq_false_iff_ne]; exact h2
        rw [if_neg h2] at hTk
        by_cases h3 : cls (F : Int) = 3
        · have t3 : (cls (F : Int) == 3) = true := by rw [beq_iff_eq]; exact h3
          rw [if_pos h3] at hTk
          have c3 := fun w => hasSmall_any z w
          cases hA : anyS (rn z) with
          | true =>
            rw [if_pos hA] at hTk
            simp only [hA] at c3
            have C3 := Lib.hid c3
            clear c3 hA
            have HK := Lib.hid hTk
            clear hTk
            go_enter Tryz.func62, Tryz.ntmps62
            go_wp2_with (first
              | (go_at_call 87; (with_reducible refine (C1.out _).mono ?_); rintro e w1 ⟨rfl, p1⟩)
              | (go_at_call 88; (with_reducible refine (C2.out _ ((HT.out.later (below_one _)).later p1)).mono ?_); rintro e w2 ⟨rfl, p2⟩)
              | (go_at_call 89; (with_reducible refine (class_any _ _).mono ?_); rintro e w' ⟨rfl, rfl⟩)
              | (go_at_call 91; (with_reducible refine (C3.out _).mono ?_); rintro e w3 ⟨rfl, p3⟩)
              | (go_at_call 93; (with_reducible refine (strClone_any z hs _).mono ?_); rintro e w4 ⟨rfl, p4⟩; obtain ⟨⟨r0, r1, r2, r3⟩, f0, f1, f2, f3⟩ := tok_block rfl (p4.from (p3.from (p2.from p1))))
              | fail)
            obtain ⟨s0, s1, s2, s3⟩ := tok_set (.int .i64 3) (.string z) (.int .i64 0) (.int .i64 0) r0 r1 r2 r3
            refine bodyPost_ret (v := pieV ((3, z, 0, 0), 0, 0)) (by simp [results, Tryz.results62, go_sem, s0, s1, s2, s3, pieV, tokV]) rfl ⟨by rw [HK.out]; try first | rfl | simp [zT], ?_⟩
            exact below_set4 (Below.from (p4.from (p3.from (p2.from p1))) (below_one _)) (Nat.le_refl _) _ _ _ _
          | false =>
            rw [if_neg (by rw [hA]; simp)] at hTk
            have hd : DigR (rn z) := fun r hr => by
              have h5 := HS3.out h3 r hr
              unfold anyS at hA
              rw [List.any_eq_false] at hA
              have h6 := hA r hr
              rw [decide_eq_true_iff] at h6
              unfold smallR at h5
              rw [decide_eq_true_iff] at h5
              omega
            have hz : encB (rn z) = z := encB_rn (digR_good hd)
            have c4 := fun w hT => number_any (rn z) hd HNE.out (by rw [hz]; exact hs) w hT
            simp only [hz] at c4
            have hTk2 : T = ((2, ⟨#[]⟩, nI (rn z), 0), 0, nE (rn z)) := by
              rw [hTk]; unfold nI nE; split <;> rfl
            obtain ⟨a, ha⟩ : ∃ a, a = nI (rn z) := ⟨_, rfl⟩
            obtain ⟨x, hx⟩ : ∃ x, x = nE (rn z) := ⟨_, rfl⟩
            rw [← ha, ← hx] at hTk2
            simp only [← ha, ← hx] at c4
            simp only [hA] at c3
            have C3 := Lib.hid c3
            have C4 := Lib.hid c4
            clear c3 c4 hA ha hx hz hd hTk
            have hTk := hTk2
            clear hTk2
            have HK := Lib.hid hTk
            clear hTk
            go_enter Tryz.func62, Tryz.ntmps62
            go_wp2_with (first
              | (go_at_call 87; (with_reducible refine (C1.out _).mono ?_); rintro e w1 ⟨rfl, p1⟩)
              | (go_at_call 88; (with_reducible refine (C2.out _ ((HT.out.later (below_one _)).later p1)).mono ?_); rintro e w2 ⟨rfl, p2⟩)
              | (go_at_call 89; (with_reducible refine (class_any _ _).mono ?_); rintro e w' ⟨rfl, rfl⟩)
              | (go_at_call 91; (with_reducible refine (C3.out _).mono ?_); rintro e w3 ⟨rfl, p3⟩)
              | (go_at_call 94; (with_reducible refine (C4.out _ ((((HT.out.later (below_one _)).later p1).later p2).later p3)).mono ?_); rintro e w4 ⟨rfl, p4⟩; obtain ⟨⟨r0, r1, r2, r3⟩, f0, f1, f2, f3⟩ := tok_block rfl (p4.from (p3.from (p2.from p1))))
              | fail)
            obtain ⟨s0, s1, s2, s3⟩ := tok_set (.int .i64 2) (.string ⟨#[]⟩) (.int .i64 a) (.int .i64 0) r0 r1 r2 r3
            refine bodyPost_ret (v := pieV ((2, ⟨#[]⟩, a, 0), 0, x)) (by simp [results, Tryz.results62, go_sem, s0, s1, s2, s3, pieV, tokV]) rfl ⟨by rw [HK.out]; try first | rfl | simp [zT], ?_⟩
            exact below_set4 (Below.from (p4.from (p3.from (p2.from p1))) (below_one _)) (Nat.le_refl _) _ _ _ _
        · have t3 : (cls (F : Int) == 3) = false := by rw [beq_eq_false_iff_ne]; exact h3
          rw [if_neg h3] at hTk
          by_cases h34 : F = 34
          · have t34 : ((F : Int) == 34) = true := by rw [beq_iff_eq]; omega
            rw [if_pos h34] at hTk
            have c5 := fun w => unquote_any z hs w
            obtain ⟨us, hus⟩ : ∃ x, x = uqS z := ⟨_, rfl⟩
            obtain ⟨ue, hue⟩ : ∃ x, x = uqE z := ⟨_, rfl⟩
            rw [← hus, ← hue] at hTk
            simp only [← hus, ← hue] at c5
            have C5 := Lib.hid c5
            clear c5 hus hue
            have HK := Lib.hid hTk
            clear hTk
            go_enter Tryz.func62, Tryz.ntmps62
            go_wp2_with (first
              | (go_at_call 87; (with_reducible refine (C1.out _).mono ?_); rintro e w1 ⟨rfl, p1⟩)
              | (go_at_call 88; (with_reducible refine (C2.out _ ((HT.out.later (below_one _)).later p1)).mono ?_); rintro e w2 ⟨rfl, p2⟩)
              | (go_at_call 89; (with_reducible refine (class_any _ _).mono ?_); rintro e w' ⟨rfl, rfl⟩)
              | (go_at_call 95; (with_reducible refine (C5.out _).mono ?_); rintro e w3 ⟨rfl, p3⟩; obtain ⟨⟨r0, r1, r2, r3⟩, f0, f1, f2, f3⟩ := tok_block rfl (p3.from (p2.from p1)))
              | fail)
            obtain ⟨s0, s1, s2, s3⟩ := tok_set (.int .i64 4) (.string us) (.int .i64 0) (.int .i64 0) r0 r1 r2 r3
            refine bodyPost_ret (v := pieV ((4, us, 0, 0), 0, ue)) (by simp [results, Tryz.results62, go_sem, s0, s1, s2, s3, pieV, tokV]) rfl ⟨by rw [HK.out]; try first | rfl | simp [zT], ?_⟩
            exact below_set4 (Below.from (p3.from (p2.from p1)) (below_one _)) (Nat.le_refl _) _ _ _ _
          · have t34 : ((F : Int) == 34) = false := by rw [beq_eq_false_iff_ne]; omega
            rw [if_neg h34] at hTk
            by_cases hsg : F = 61 ∨ F = 58 ∨ F = 44 ∨ F = 45
            · have ts : decide ((F : Int) = 61 ∨ (F : Int) = 58 ∨ (F : Int) = 44 ∨ (F : Int) = 45) = true := by rw [decide_eq_true_iff]; omega
              rw [if_pos hsg] at hTk
              have HK := Lib.hid hTk
              clear hTk
              go_enter Tryz.func62, Tryz.ntmps62
              go_wp2_with (first
                | (go_at_call 87; (with_reducible refine (C1.out _).mono ?_); rintro e w1 ⟨rfl, p1⟩)
                | (go_at_call 88; (with_reducible refine (C2.out _ ((HT.out.later (below_one _)).later p1)).mono ?_); rintro e w2 ⟨rfl, p2⟩)
                | (go_at_call 89; (with_reducible refine (class_any _ _).mono ?_); rintro e w' ⟨rfl, rfl⟩)
                | (go_at_call 96; (with_reducible refine (isSign_any _ _).mono ?_); rintro e w' ⟨rfl, rfl⟩)
                | (go_at_call 93; (with_reducible refine (strClone_any z hs _).mono ?_); rintro e w4 ⟨rfl, p4⟩; obtain ⟨⟨r0, r1, r2, r3⟩, f0, f1, f2, f3⟩ := tok_block rfl (p4.from (p2.from p1)))
                | fail)
              obtain ⟨s0, s1, s2, s3⟩ := tok_set (.int .i64 5) (.string z) (.int .i64 0) (.int .i64 0) r0 r1 r2 r3
              refine bodyPost_ret (v := pieV ((5, z, 0, 0), 0, 0)) (by simp [results, Tryz.results62, go_sem, s0, s1, s2, s3, pieV, tokV]) rfl ⟨by rw [HK.out]; try first | rfl | simp [zT], ?_⟩
              exact below_set4 (Below.from (p4.from (p2.from p1)) (below_one _)) (Nat.le_refl _) _ _ _ _
            · have ts : decide ((F : Int) = 61 ∨ (F : Int) = 58 ∨ (F : Int) = 44 ∨ (F : Int) = 45) = false := by rw [decide_eq_false_iff_not]; omega
              rw [if_neg hsg] at hTk
              have HK := Lib.hid hTk
              clear hTk
              go_enter Tryz.func62, Tryz.ntmps62
              go_wp2_with (first
                | (go_at_call 87; (with_reducible refine (C1.out _).mono ?_); rintro e w1 ⟨rfl, p1⟩)
                | (go_at_call 88; (with_reducible refine (C2.out _ ((HT.out.later (below_one _)).later p1)).mono ?_); rintro e w2 ⟨rfl, p2⟩; obtain ⟨⟨r0, r1, r2, r3⟩, f0, f1, f2, f3⟩ := tok_block rfl (p2.from p1))
                | (go_at_call 89; (with_reducible refine (class_any _ _).mono ?_); rintro e w' ⟨rfl, rfl⟩)
                | (go_at_call 96; (with_reducible refine (isSign_any _ _).mono ?_); rintro e w' ⟨rfl, rfl⟩)
                | fail)
              obtain ⟨s0, s1, s2, s3⟩ := tok_set (.int .i64 0) (.string ⟨#[]⟩) (.int .i64 0) (.int .i64 0) r0 r1 r2 r3
              refine bodyPost_ret (v := pieV ((0, ⟨#[]⟩, 0, 0), 0, 50)) (by simp [results, Tryz.results62, go_sem, s0, s1, s2, s3, pieV, tokV]) rfl ⟨by rw [HK.out]; try first | rfl | simp [zT], ?_⟩
              exact below_set4 (Below.from (p2.from p1) (below_one _)) (Nat.le_refl _) _ _ _ _
  · have tE : (E != 0) = true := by rw [bne_iff_ne]; exact hE0
    rw [if_pos hE0] at hTk
    clear hE hE0
    have HK := Lib.hid hTk
    clear hTk
    go_enter Tryz.func62, Tryz.ntmps62
    go_wp2_with (first
      | (go_at_call 87; (with_reducible refine (C1.out _).mono ?_); rintro e w1 ⟨rfl, p1⟩; obtain ⟨⟨r0, r1, r2, r3⟩, f0, f1, f2, f3⟩ := tok_block rfl (p1))
      | fail)
    obtain ⟨s0, s1, s2, s3⟩ := tok_set (.int .i64 0) (.string ⟨#[]⟩) (.int .i64 0) (.int .i64 0) r0 r1 r2 r3
    refine bodyPost_ret (v := pieV ((0, ⟨#[]⟩, 0, 0), K, E)) (by simp [results, Tryz.results62, go_sem, s0, s1, s2, s3, pieV, tokV]) rfl ⟨by rw [HK.out]; try first | rfl | simp [zT], ?_⟩
    exact below_set4 (Below.from (p1) (below_one _)) (Nat.le_refl _) _ _ _ _
end Go.Proofs.YtdkngidangfkiaaGreatDoor.Lex
namespace Go.Proofs.YtdkngidangfkiaaGreatDoor.Lex
open Go.RowKit
open Base Runes LexLib
set_option linter.unusedVariables false
set_option linter.unusedSimpArgs false
theorem tokI_place (z : ByteArray) : (tokI z).2.1 ≤ z.size := by
  have h : ckN z ≤ z.size := by
    have h1 := chk_good 0 (ps z 0)
    have h2 := cn_le z
    unfold cn at h2
    unfold ckN
    rcases h1 with ⟨_, h1, _⟩ | ⟨_, _, h1, _⟩ <;> omega
  unfold tokI
  repeat' split
  all_goals first | exact h | exact Nat.zero_le _
def LineNew (w w' : World) (e : Ending) (A : List Tok × Nat × Int) : Prop :=
  ∃ ao cap, e = .returned (.tuple #[.slice ao A.1.length cap, .int .i64 (A.2.1 : Int), .int .i64 A.2.2]) ∧ ReadsS 4 tkC w' ao A.1 ∧ (ao = none → cap = 0) ∧ A.1.length ≤ cap ∧ cap ≤ maxLen ∧ Below w.heap.size w w' ∧ ∀ b off, ao = some ⟨b, off, none⟩ → w.heap.size ≤ b
set_option maxRecDepth 100000 in
set_option maxHeartbeats 4000000 in
theorem tokens_new (s : ByteArray) (hs : s.size ≤ maxLen) (w : World) (hT : Tb w) :
    Calls Tryz.prog 39 #[.string s] w fun e w' => LineNew w w' e (tkA s) := by
  unfold maxLen at hs
  by_cases hbig : 400 < s.size
  · have hTk : tkA s = ([], 0, 3) := by unfold tkA; rw [if_pos hbig]
    rw [hTk]
    go_enter Tryz.func39, Tryz.ntmps39
    go_wp2
    go_ret3
    exact ⟨none, 0, rfl, .inl rfl, fun _ => rfl, Nat.le_refl _, Nat.zero_le _, Below.refl _ _, fun _ _ h => by cases h⟩
  · obtain ⟨i0, hi, hz0, hz1, hz2⟩ := info_parts info_tok
    have HI := Lib.hid hi
    have HZ0 := Lib.hid hz0
    have HZ1 := Lib.hid hz1
    have HZ2 := Lib.hid hz2
    clear hi hz0 hz1 hz2
    have c1 := pieces_any s (by omega) w
    have hok := pcs_ok s
    have hfew := pcs_few s
    obtain ⟨A, hA⟩ : ∃ A, A = tkA s := ⟨_, rfl⟩
    rw [← hA]
    rw [← pcs_tkA hbig] at hA
    obtain ⟨Z, hZ⟩ : ∃ Z, Z = pcs s := ⟨_, rfl⟩
    rw [← hZ] at hA c1 hok hfew
    have hZl : Z.length ≤ 400 := by omega
    have C1 := Lib.hid c1
    have HA := Lib.hid hA
    have HOK := Lib.hid hok
    have HT := Lib.hid hT
    clear c1 hA hZ hok hT hfew
    go_enter Tryz.func39, Tryz.ntmps39
    go_wp2_with (first | (go_at_call 61; (with_reducible refine (C1.out).mono ?_); rintro e w1 ⟨ro, rcap, rfl, hr, hrn, hrc, hrm, p1⟩) | fail)
    have HR := Lib.hid hr
    have P1 := Lib.hid p1
    have HT1 := Lib.hid (HT.out.later p1)
    clear hr p1
    go_loopw [5, 6, 18] (fun v nn i wr => ∃ (k n : Nat) (acc : List Tok), nn = .int .i64 (n : Int) ∧ i = .int .i64 (k : Int) ∧ k ≤ Z.length ∧ n ≤ 400 * k ∧ OwnS 4 tkC w1.heap.size 96 v acc wr ∧ tkF (Z.drop k) n acc = A ∧ acc.length ≤ k ∧ Below w1.heap.size w1 wr) (fun _ _ i _ => Z.length - (intOf i).toNat)
    case atStart => exact ⟨0, 0, [], rfl, rfl, Nat.zero_le _, Nat.zero_le _, OwnS.nil (Nat.le_refl _), HA.out.symm, Nat.le_refl _, Below.refl _ _⟩
    case round =>
      obtain ⟨k, n, acc, rfl, rfl, hk, hnk, ho, hc, hal, hb⟩ := hrel
      have HO := Lib.hid ho
      have HB := Lib.hid hb
      obtain ⟨ao, cap, rfl, hrd, hnil, hcap, hcm⟩ := ho.value tkC_length
      have HRD := Lib.hid hrd
      have HTB := Lib.hid (HT1.out.later hb)
      clear ho hb hrd
      by_cases hp : k < Z.length
      · rw [List.drop_eq_getElem_cons hp, tkF] at hc
        have hrw := HR.out.below HB.out
        obtain ⟨b0, off0, rfl, hcx⟩ := hrw.at_ hp
        have hzk := HOK.out Z[k] (List.getElem_mem hp)
        obtain ⟨z, hz⟩ : ∃ z, z = Z[k] := ⟨_, rfl⟩
        rw [← hz] at hcx hc hzk
        have hzs : z.size ≤ 400 := by omega
        have hpl := tokI_place z
        have hcn := cn_le z
        have c2 := token_any z hzk.1 (by omega) wr HTB.out
        have c3 := fun w => count_any z (by omega) w
        obtain ⟨⟨⟨k', s', n', a'⟩, q, e'⟩, hQ⟩ : ∃ Q, Q = tokI z := ⟨_, rfl⟩
        rw [← hQ] at hc c2 hpl
        simp only [pieV, tokV] at c2
        dsimp only at hc hpl
        obtain ⟨c, hcz⟩ : ∃ c, c = cn z := ⟨_, rfl⟩
        rw [← hcz] at hc hcn
        simp only [← hcz] at c3
        have C2 := Lib.hid c2
        have C3 := Lib.hid c3
        clear c2 c3 hz hzk hQ hcz hrw
        by_cases he : e' = 0
        · subst he
          rw [if_neg (by simp)] at hc
          by_cases h0 : k' = 0
          · subst h0
            rw [if_neg (by simp)] at hc
            have HC := Lib.hid hc
            clear hc
            go_wp2_with (first
              | (go_at_call 62; (with_reducible refine (C2.out).mono ?_); rintro e w2 ⟨rfl, p2⟩)
              | (go_at_call 16; (with_reducible refine (C3.out _).mono ?_); rintro e w3 ⟨rfl, p3⟩)
              | fail)
            have hw3 := p3.from (Below.from (below_one _) p2)
            refine ⟨⟨k + 1, n + c, acc, by go_num, by go_num, by omega, by omega, HO.out.below hw3, HC.out, by omega, HB.out.trans (hw3.mono HB.out.size)⟩, ?_⟩
            simp [intOf]; omega
          · rw [if_pos h0] at hc
            have t0 : (k' != 0) = true := by rw [bne_iff_ne]; exact h0
            have HC := Lib.hid hc
            clear hc h0
            go_wp2_with (first
              | (go_at_call 62; (with_reducible refine (C2.out).mono ?_); rintro e w2 ⟨rfl, p2⟩)
              | (go_at_call 16; (with_reducible refine (C3.out _).mono ?_); rintro e w5 ⟨rfl, p5⟩)
              | (at_builtin; refine wpList_append_srcS rfl (.tmp 39) (.tmp 41) 73 rfl tkC_length (by decide) i0 _ 40 Tryz.underlying73 HI.out HZ0.out HZ1.out HZ2.out rfl tkC_one rfl (((HO.out.below p2).alloc _).alloc _) _ 1 1 [((k', s', n', (n : Int)) : Tok)] rfl rfl (readsT_one (by simp) (k', s', n', (n : Int)) _) (by intro h; cases h) (by omega) (by unfold maxLen; omega) ?_; intro v4 w4 o4 b4)
              | fail)
            have hw2 : Below w1.heap.size w1 ((w2.alloc (.cells #[.int .i64 k', .string s', .int .i64 n', .int .i64 (n : Int)] 96)).alloc (.cells #[.int .i64 k', .string s', .int .i64 n', .int .i64 (n : Int)] 96)) := by
              have h1 := HB.out.trans (p2.mono HB.out.size)
              exact (h1.alloc h1.size _).alloc (by have := h1.size; simp; omega) _
            have hw4 := hw2.trans b4
            refine ⟨⟨k + 1, n + c, acc ++ [(k', s', n', (n : Int))], by go_num, by go_num, by omega, by omega, o4.below p5, HC.out, by simp; omega, hw4.trans (p5.mono hw4.size)⟩, ?_⟩
            simp [intOf]; omega
        · rw [if_pos he] at hc
          have HC := Lib.hid hc
          have te : (e' != 0) = true := by rw [bne_iff_ne]; exact he
          clear hc he
          go_wp2_with (first
            | (go_at_call 62; (with_reducible refine (C2.out).mono ?_); rintro e w2 ⟨rfl, p2⟩)
            | fail)
          go_ret3
          have hw2 : Below w.heap.size w (w2.alloc (.cells #[.int .i64 k', .string s', .int .i64 n', .int .i64 a'] 96)) := by
            have h1 := (p2.from (HB.out.from P1.out))
            exact h1.alloc h1.size _
          rw [← HC.out]
          exact ⟨none, 0, by simp, .inl rfl, fun _ => rfl, Nat.le_refl _, Nat.zero_le _, hw2, fun _ _ h => by cases h⟩
      · have hkk : k = Z.length := by omega
        rw [List.drop_eq_nil_of_le (by omega), tkF] at hc
        have HF := Lib.hid hc
        clear hc
        go_wp2
        go_ret3
        rw [← HF.out]
        exact ⟨ao, cap, rfl, HRD.out, hnil, hcap, hcm, HB.out.from P1.out, fun b off h => by subst h; have h1 := (HO.out.1.lt b rfl).1; have h2 := P1.out.size; omega⟩
theorem tokens_any (s : ByteArray) (hs : s.size ≤ maxLen) (w : World) (hT : Tb w) :
    Calls Tryz.prog 39 #[.string s] w fun e w' => LineSays w w' e (tkA s) :=
  (tokens_new s hs w hT).mono fun e w' ⟨ao, cap, h1, h2, h3, h4, h5, h6, _⟩ => ⟨ao, cap, h1, h2, h3, h4, h5, h6⟩
end Go.Proofs.YtdkngidangfkiaaGreatDoor.Lex
namespace Go.Proofs.YtdkngidangfkiaaGreatDoor.Lex
open Go.RowKit
open Base Runes LexLib
set_option linter.unusedVariables false
set_option linter.unusedSimpArgs false
theorem dec_dig : ∀ (f u : Nat), u < 10 ^ f → 1 ≤ f → digF f u = Go.Lib.decDigits u
  | 0, _, _, h => absurd h (by decide)
  | f + 1, u, hu, _ => by
    rw [digF, Go.Lib.decDigits]
    by_cases h : u < 10
    · rw [if_pos h, dif_pos h]
    · rw [if_neg h, dif_neg h]
      have hf : 1 ≤ f := by
        rcases Nat.eq_zero_or_pos f with h0 | h0
        · subst h0; simp at hu; omega
        · exact h0
      rw [dec_dig f (u / 10) (by have := Nat.pow_succ 10 f; omega) hf]
def itB (n : Int) : ByteArray := ⟨(Go.Lib.itoa n).toArray⟩
theorem itB_nat {n : Int} (h : ¬ n < 0) (h1 : n ≤ 9223372036854775807) : itB n = digB n := by
  unfold itB digB Go.Lib.itoa
  rw [if_neg h, if_neg h, dec_dig 20 n.toNat (by omega) (by decide)]
theorem itB_neg {n : Int} (h : n < 0) : ∃ t, (itB n).data.toList = 45 :: t := by
  unfold itB Go.Lib.itoa
  rw [if_pos h]
  exact ⟨_, rfl⟩
def wrI (t : Tok) : ByteArray := if t.1 = 2 then itB t.2.2.1 else if t.1 = 4 then qtS t.2.1 else t.2.1
theorem wrB_at (t : Tok) (b : Nat) : wrB (atT t b) = wrB t := rfl
theorem wrB_eq {x t : Tok} (h1 : x.1 = t.1) (h2 : x.2.1 = t.2.1) (h3 : x.2.2.1 = t.2.2.1) : wrB x = wrB t := by unfold wrB; rw [h1, h2, h3]
theorem toks_size {X : List Nat} {b : Nat} {l : List Tok} (h : Toks X b l) : ∀ t ∈ l, (wrB t).size ≤ (encB X).size := by
  induction h with
  | nil b => intro t ht; simp at ht
  | @blank r X b l h1 _ ih =>
    intro t ht
    have := ih t ht
    have h2 := encB_size_append [r] X
    rw [List.singleton_append] at h2
    omega
  | @tok X b l hne h1 he _ ih =>
    intro t ht
    have hap := encB_size_append (X.take (oneR X 0).2.1) (X.drop (oneR X 0).2.1)
    rw [List.take_append_drop] at hap
    rcases List.mem_cons.1 ht with rfl | ht
    · obtain ⟨hg, hc⟩ := one_is hne he b
      rcases hc with ⟨h2, e⟩ | e
      · have : (wrB (atT (oneR X 0).1 b)).size = (encB (X.take (oneR X 0).2.1)).size := by
          rw [wrB_at, e]
          show (lowS _).size = _
          rw [Lib.size_eq, Lib.size_eq]; unfold lowS; rw [ofList_data, List.length_map]
        omega
      · rw [e]; omega
    · have := ih t ht; omega
theorem encB_one (r : Nat) : 1 ≤ (encB [r]).size := by
  rw [Lib.size_eq, encB_data]
  unfold encL
  rw [List.flatMap_cons, List.flatMap_nil, List.append_nil]
  unfold Go.Lib.encodeRune
  rw [List.length_map]
  have : 1 ≤ (Go.Lib.encodeRuneZ (r : Int)).length := by
    unfold Go.Lib.encodeRuneZ
    repeat' split
    all_goals simp
  exact this
theorem chE_place {t x : Tok} (h : chE t = 0) (he : (tkA (wrB t)).1 = [x]) : x.1 = t.1 ∧ x.2.1 = t.2.1 ∧ x.2.2.1 = t.2.2.1 ∧ x.2.2.2 = 0 := by
  unfold chE at h
  split at h
  · rename_i hE
    rw [he] at h
    simp only at h
    split at h
    · rename_i hx
      obtain ⟨_, h2, _⟩ := tkA_toks hE
      rw [he] at h2
      have hgd := toks_good h2
      refine ⟨hx.1, hx.2.1, hx.2.2, ?_⟩
      generalize hX : rn (wrB t) = X at h2 hgd
      cases h2 with
      | @blank r X' _ _ h1 h3 =>
        exfalso
        have s1 := toks_size h3 x (by simp)
        rw [wrB_eq hx.1 hx.2.1 hx.2.2] at s1
        have s2 := encB_size_append [r] X'
        rw [List.singleton_append, ← hX, encB_rn (by rw [hX]; exact hgd)] at s2
        have := encB_one r
        omega
      | tok _ _ _ _ => rfl
    · simp at h
  · simp at h
theorem chE_neg {t : Tok} (h1 : t.1 = 2) (h2 : t.2.2.1 < 0) : chE t = 50 := by
  have e : wrB t = ⟨#[]⟩ := by unfold wrB digB; rw [if_pos h1, if_pos h2]
  have e2 : tkA ⟨#[]⟩ = ([], 0, 0) := by decide +kernel
  unfold chE
  rw [e, e2]; rfl
theorem minus_kind {W : ByteArray} {t : List UInt8} {x : Tok} (hW : W.data.toList = 45 :: t) (he : (tkA W).2.2 = 0) (hx : (tkA W).1 = [x]) : x.1 = 5 := by
  obtain ⟨_, h2, _⟩ := tkA_toks he
  rw [hx] at h2
  have hX : rn W = 45 :: (pc t).map (·.1) := by
    unfold rn
    rw [ps_zero, hW, pc_ascii 45 t (by decide)]; rfl
  rw [hX] at h2
  have hc : cls ((45 : Nat) : Int) = 4 := by decide
  cases h2 with
  | blank h1 _ => rw [hc] at h1; simp at h1
  | tok _ _ _ _ =>
    have g0 : (45 :: (pc t).map (·.1)).getD 0 0 = 45 := rfl
    unfold atT oneR
    rw [g0, if_neg (by rw [hc]; decide), if_neg (by rw [hc]; decide), if_neg (by rw [hc]; decide), if_neg (by decide), if_pos (by decide)]
theorem chI (k : Int) (s : ByteArray) (n a : Int) (hn : n ≤ 9223372036854775807) :
    (chE (k, s, n, a) = 0 → wrI (k, s, n, a) = wrB (k, s, n, a) ∧ (tkA (wrI (k, s, n, a))).2.2 = 0 ∧ (tkA (wrI (k, s, n, a))).1 = [(k, s, n, 0)]) ∧
    (chE (k, s, n, a) = 50 → ¬ ((tkA (wrI (k, s, n, a))).2.2 = 0 ∧ (tkA (wrI (k, s, n, a))).1 = [(k, s, n, 0)])) := by
  by_cases hneg : k = 2 ∧ n < 0
  · have h50 := chE_neg (t := (k, s, n, a)) hneg.1 hneg.2
    refine ⟨fun h => by rw [h50] at h; simp at h, fun _ ⟨h1, h2⟩ => ?_⟩
    obtain ⟨t, ht⟩ := itB_neg hneg.2
    have e : wrI (k, s, n, a) = itB n := by unfold wrI; rw [if_pos hneg.1]
    rw [e] at h1 h2
    have := minus_kind ht h1 h2
    dsimp only at this
    omega
  · have e : wrI (k, s, n, a) = wrB (k, s, n, a) := by
      unfold wrI wrB
      dsimp only
      by_cases h2 : k = 2
      · rw [if_pos h2, if_pos h2]; exact itB_nat (fun h => hneg ⟨h2, h⟩) hn
      · rw [if_neg h2, if_neg h2]
    rw [e]
    refine ⟨fun h => ⟨rfl, ?_⟩, fun h => ?_⟩
    · have h0 := h
      unfold chE at h
      split at h
      · rename_i hE
        split at h
        · rename_i x hx
          obtain ⟨a1, a2, a3, a4⟩ := chE_place h0 hx
          refine ⟨hE, ?_⟩
          rw [hx]
          obtain ⟨x1, x2, x3, x4⟩ := x
          dsimp only at a1 a2 a3 a4
          rw [a1, a2, a3, a4]
        · simp at h
      · simp at h
    · rintro ⟨h1, h2⟩
      unfold chE at h
      rw [if_pos h1, h2] at h
      simp at h
theorem chE_long {t : Tok} (h : 400 < t.2.1.size) : chE t = 50 := by
  rcases chE_or t with h0 | h0
  · exfalso
    have h1 := h0
    unfold chE at h1
    split at h1
    · rename_i hE
      split at h1
      · rename_i x hx
        obtain ⟨_, a2, _⟩ := chE_place h0 hx
        have hs := (line_small hE).2.2 x (by rw [hx]; simp)
        rw [a2] at hs
        omega
      · simp at h1
    · simp at h1
  · exact h0
theorem wrI_size (t : Tok) (h0 : -9223372036854775808 ≤ t.2.2.1) (h1 : t.2.2.1 ≤ 9223372036854775807) : (wrI t).size ≤ 2 * t.2.1.size + 21 := by
  unfold wrI
  split
  · have := Go.Lib.itoa_length_le t.2.2.1 h0 h1
    unfold itB
    rw [Lib.size_eq, ofList_data]; omega
  · split
    · have := qtS_size2 t.2.1; omega
    · omega
end Go.Proofs.YtdkngidangfkiaaGreatDoor.Lex
namespace Go.Proofs.YtdkngidangfkiaaGreatDoor.Sat
def cl (n m : Int) : Int := if n < 0 then 0 else if n > m then m else n
theorem cl_bd (n m : Int) (h : 0 ≤ m) : 0 ≤ cl n m ∧ cl n m ≤ m := by unfold cl; split <;> (try split) <;> omega
theorem cl_id (n m : Int) (h0 : 0 ≤ n) (h1 : n ≤ m) : cl n m = n := by unfold cl; split <;> (try split) <;> omega
theorem cl_neg (n m : Int) (h0 : n < 0) : cl n m = 0 := by unfold cl; rw [if_pos h0]
def tot (m : Int) : List Int → Int
  | [] => 0
  | n :: l => cl n m + tot m l
theorem tot_nonneg (m : Int) (h : 0 ≤ m) : ∀ l, 0 ≤ tot m l
  | [] => by simp [tot]
  | n :: l => by have := tot_nonneg m h l; have := cl_bd n m h; simp [tot]; omega
theorem tot_append (m : Int) : ∀ a b, tot m (a ++ b) = tot m a + tot m b
  | [], b => by simp [tot]
  | n :: l, b => by simp [tot, tot_append m l b]; omega
theorem tot_one (m n : Int) : tot m [n] = cl n m := by simp [tot]
theorem tot_take_succ (m : Int) (l : List Int) (k : Nat) (h : k < l.length) : tot m (l.take (k + 1)) = tot m (l.take k) + cl l[k] m := by
  rw [List.take_succ_eq_append_getElem h, tot_append, tot_one]
theorem tot_take_le (m : Int) (h : 0 ≤ m) (l : List Int) (k : Nat) : tot m (l.take k) ≤ tot m l := by
  have e : tot m l = tot m (l.take k) + tot m (l.drop k) := by rw [← tot_append, List.take_append_drop]
  have := tot_nonneg m h (l.drop k)
  omega
def add (m : Int) (l : List Int) : Int := if tot m l > m then m else tot m l
def over (m : Int) (l : List Int) : Bool := decide (tot m l > m)
theorem add_bd (m : Int) (h : 0 ≤ m) (l : List Int) : 0 ≤ add m l ∧ add m l ≤ m := by
  have := tot_nonneg m h l
  unfold add; split <;> omega
def mulc (m a b : Int) : Int := if cl a m * cl b m > m then m else cl a m * cl b m
theorem quo_gt (m a b : Int) (hb : 0 < b) : (m / b < a) ↔ (m < a * b) := Int.ediv_lt_iff_lt_mul hb
end Go.Proofs.YtdkngidangfkiaaGreatDoor.Sat
namespace Go.Proofs.YtdkngidangfkiaaGreatDoor.Hours
open Sat
set_option linter.unusedVariables false
set_option linter.unusedSimpArgs false
def D (b : UInt8) : Bool := [48, 49, 50, 51, 52, 53, 54, 55, 56, 57].contains b
theorem D_nat (b : UInt8) (h : D b = true) : 48 ≤ b.toNat ∧ b.toNat ≤ 57 := by
  unfold D at h
  simp at h
  rcases h with h | h | h | h | h | h | h | h | h | h <;> subst h <;> decide
theorem D_dig (d : Nat) (h : d < 10) : D (UInt8.ofNat (48 + d)) = true := by
  rcases d with _ | _ | _ | _ | _ | _ | _ | _ | _ | _ | d <;> first | rfl | omega
theorem ofNat_dig (d : Nat) (h : d < 10) : (UInt8.ofNat (48 + d)).toNat = 48 + d := by
  rw [UInt8.toNat_ofNat']; omega
def rst (l : List UInt8) : List UInt8 := Go.Lib.trimLeftS l [48, 49, 50, 51, 52, 53, 54, 55, 56, 57]
theorem rst_eq (l : List UInt8) : rst l = l.dropWhile D := rfl
def dgs (l : List UInt8) : List UInt8 := l.take (l.length - (rst l).length)
theorem rst_le (l : List UInt8) : (rst l).length ≤ l.length := by
  have h := congrArg List.length (List.takeWhile_append_dropWhile (p := D) (l := l))
  rw [List.length_append] at h
  rw [rst_eq]; omega
theorem dgs_eq (l : List UInt8) : dgs l = l.takeWhile D := by
  have h := List.takeWhile_append_dropWhile (p := D) (l := l)
  have h2 := congrArg List.length h
  rw [List.length_append] at h2
  unfold dgs
  rw [rst_eq, show l.length - (l.dropWhile D).length = (l.takeWhile D).length from by omega]
  have e : l.take (l.takeWhile D).length = (l.takeWhile D ++ l.dropWhile D).take (l.takeWhile D).length := by rw [h]
  rw [e, List.take_left' rfl]
theorem dgs_all (l : List UInt8) : ∀ b ∈ dgs l, D b = true := by
  rw [dgs_eq]
  intro b hb
  induction l with
  | nil => simp at hb
  | cons c r ih =>
    rw [List.takeWhile_cons] at hb
    by_cases hc : D c = true
    · rw [if_pos hc] at hb
      rcases List.mem_cons.1 hb with rfl | hb
      · exact hc
      · exact ih hb
    · rw [if_neg hc] at hb; simp at hb
def vl (a : Nat) (l : List UInt8) : Nat := l.foldl (fun a c => a * 10 + (c.toNat - 48)) a
theorem vl_cons (a : Nat) (c : UInt8) (r : List UInt8) : vl a (c :: r) = vl (a * 10 + (c.toNat - 48)) r := by unfold vl; rw [List.foldl_cons]
theorem vl_nil (a : Nat) : vl a [] = a := by unfold vl; rw [List.foldl_nil]
theorem vl_snoc (c : UInt8) : ∀ (l : List UInt8) (a : Nat), vl a (l ++ [c]) = vl a l * 10 + (c.toNat - 48)
  | [], a => by rw [List.nil_append, vl_cons, vl_nil, vl_nil]
  | b :: r, a => by rw [List.cons_append, vl_cons, vl_cons, vl_snoc c r]
theorem vl_spells (l : List UInt8) : ∀ (a k : Nat), a < 10 ^ k → k + l.length ≤ 15 → (∀ b ∈ l, D b = true) → Go.Lib.parseUint10 a l = .ok (vl a l) ∧ vl a l < 10 ^ (k + l.length) := by
  induction l with
  | nil => intro a k ha _ _; rw [vl_nil]; exact ⟨rfl, ha⟩
  | cons c r ih =>
    intro a k ha hl hd
    have hc := D_nat c (hd c (by simp))
    rw [List.length_cons] at hl
    have hp : (10 : Nat) ^ k ≤ 10 ^ 14 := Nat.pow_le_pow_right (by decide) (by omega)
    have hp14 : (10 : Nat) ^ 14 = 100000000000000 := by decide
    have hs := Nat.pow_succ 10 k
    rw [hp14] at hp
    obtain ⟨K, hK⟩ : ∃ K, K = (10 : Nat) ^ k := ⟨_, rfl⟩
    rw [← hK] at hp ha hs
    obtain ⟨h1, h2⟩ := ih (a * 10 + (c.toNat - 48)) (k + 1) (by rw [Nat.succ_eq_add_one] at hs; omega) (by omega) (fun b hb => hd b (by simp [hb]))
    refine ⟨?_, ?_⟩
    · rw [Go.Lib.parseUint10, if_pos ⟨hc.1, hc.2⟩, if_neg (by omega), if_neg (by omega), h1, vl_cons]
    · rw [vl_cons, List.length_cons, show k + (r.length + 1) = k + 1 + r.length from by omega]; exact h2
theorem atoi_dgs (d : List UInt8) (hd : ∀ b ∈ d, D b = true) (hn : d ≠ []) (hl : d.length ≤ 7) : Go.Lib.atoiAll d = .ok (vl 0 d : Int) ∧ vl 0 d < 10000000 := by
  obtain ⟨h1, h2⟩ := vl_spells d 0 0 (by decide) (by omega) hd
  have hp : (10 : Nat) ^ (0 + d.length) ≤ 10 ^ 7 := Nat.pow_le_pow_right (by decide) (by omega)
  have hp7 : (10 : Nat) ^ 7 = 10000000 := by decide
  cases d with
  | nil => exact absurd rfl hn
  | cons c r =>
    have hc := D_nat c (hd c (by simp))
    refine ⟨?_, by omega⟩
    rw [Go.Lib.atoiAll_plain c r (by omega) (by omega)]
    unfold Go.Lib.parseMag
    rw [if_neg (by simp), h1]
    unfold Go.Lib.signless
    simp only
    rw [if_neg (by omega)]
def cutOk (l : List UInt8) : Bool := decide ((dgs l).length ≤ 7 ∧ dgs l ≠ [] ∧ ¬ (1 < (dgs l).length ∧ (dgs l).getD 0 0 = 48))
def cutN (l : List UInt8) : Int := (vl 0 (dgs l) : Int)
theorem cutN_bd {l : List UInt8} (h : cutOk l = true) : 0 ≤ cutN l ∧ cutN l < 10000000 := by
  unfold cutOk at h
  rw [decide_eq_true_eq] at h
  have := (atoi_dgs (dgs l) (dgs_all l) h.2.1 h.1).2
  unfold cutN; omega
theorem dec_facts : ∀ (k u : Nat), u < 10 ^ k → 1 ≤ k → (∀ b ∈ Go.Lib.decDigits u, D b = true) ∧ vl 0 (Go.Lib.decDigits u) = u ∧ (Go.Lib.decDigits u).length ≤ k ∧ Go.Lib.decDigits u ≠ [] ∧ (1 ≤ u → (Go.Lib.decDigits u).getD 0 0 ≠ 48)
  | 0, _, _, h => absurd h (by decide)
  | k + 1, u, hu, _ => by
    rw [Go.Lib.decDigits]
    by_cases h : u < 10
    · rw [dif_pos h]
      refine ⟨?_, ?_, by simp, by simp, ?_⟩
      · intro b hb
        rw [List.mem_singleton] at hb
        rw [hb]; exact D_dig u h
      · rw [vl_cons, vl_nil, ofNat_dig u h]; omega
      · intro h1 he
        have e : UInt8.ofNat (48 + u) = 48 := he
        have := congrArg UInt8.toNat e
        rw [ofNat_dig u h] at this
        have h48 : (48 : UInt8).toNat = 48 := by decide
        omega
    · rw [dif_neg h]
      have hk : 1 ≤ k := by
        rcases Nat.eq_zero_or_pos k with h0 | h0
        · subst h0; simp at hu; omega
        · exact h0
      have hs := Nat.pow_succ 10 k
      obtain ⟨h1, h2, h3, h4, h5⟩ := dec_facts k (u / 10) (by omega) hk
      have hm : u % 10 < 10 := Nat.mod_lt _ (by decide)
      refine ⟨?_, ?_, ?_, by simp, ?_⟩
      · intro b hb
        rcases List.mem_append.1 hb with hb | hb
        · exact h1 b hb
        · rw [List.mem_singleton] at hb
          rw [hb]; exact D_dig _ hm
      · rw [vl_snoc, h2, ofNat_dig _ hm]; omega
      · rw [List.length_append, List.length_singleton]; omega
      · intro _
        cases hd : Go.Lib.decDigits (u / 10) with
        | nil => exact absurd hd h4
        | cons c r =>
          have := h5 (by omega)
          rw [hd] at this
          simpa using this
def tk : Nat → Int
  | 0 => 86400
  | 1 => 3600
  | 2 => 60
  | _ => 1
def sg : Nat → UInt8
  | 0 => 100
  | 1 => 104
  | 2 => 109
  | _ => 115
def ix (c : UInt8) : Nat := if c = 100 then 0 else if c = 104 then 1 else if c = 109 then 2 else if c = 115 then 3 else 4
theorem ix_sg (c : UInt8) (i : Nat) (h : i < 4) : ix c = i ↔ c = sg i := by
  unfold ix
  match i, h with
  | 0, _ | 1, _ | 2, _ | 3, _ =>
    by_cases h0 : c = 100
    · subst h0; decide
    by_cases h1 : c = 104
    · subst h1; decide
    by_cases h2 : c = 109
    · subst h2; decide
    by_cases h3 : c = 115
    · subst h3; decide
    simp [h0, h1, h2, h3, sg]
theorem tk_bd (i : Nat) : 1 ≤ tk i ∧ tk i ≤ 86400 := by
  match i with
  | 0 | 1 | 2 => decide
  | n + 3 => exact ⟨Int.le_refl _, by show (1 : Int) ≤ 86400; decide⟩
def run : Nat → List UInt8 → Int → Nat → Int × Int
  | 0, _, _, _ => (0, 60)
  | f + 1, l, t, k =>
    if l = [] then (if cl t 1000000 = t then (t, 0) else (0, 153))
    else if cutOk l = true ∧ rst l ≠ [] then
      (if k ≤ ix ((rst l).getD 0 0) ∧ ix ((rst l).getD 0 0) < 4 then run f ((rst l).drop 1) (add 1000000000000 [t, mulc 1000000000000 (cutN l) (tk (ix ((rst l).getD 0 0)))]) (ix ((rst l).getD 0 0) + 1) else (0, 60))
    else (0, 60)
def parse (l : List UInt8) : Int × Int := if l = [] then (0, 60) else run (l.length + 1) l 0 0
def pc (i : Nat) (n : Int) : List UInt8 := if tk i ≤ n then Go.Lib.itoa (n / tk i) ++ [sg i] else []
def rm : Nat → Int → Int
  | 0, n => n
  | i + 1, n => rm i n % tk i
def tx : Nat → Int → List UInt8
  | 0, _ => []
  | i + 1, n => tx i n ++ pc i (rm i n)
def showL (n : Int) : List UInt8 := if n = 0 then [48, 115] else tx 4 n
theorem itoa_nat (n : Int) (h : 0 ≤ n) : Go.Lib.itoa n = Go.Lib.decDigits n.toNat := by unfold Go.Lib.itoa; rw [if_neg (by omega)]
theorem rm_bd (n : Int) (h0 : 0 ≤ n) (h1 : n ≤ 1000000) : ∀ i, 0 ≤ rm i n ∧ rm i n ≤ 1000000
  | 0 => ⟨h0, h1⟩
  | i + 1 => by
    have := rm_bd n h0 h1 i
    have ht := tk_bd i
    have a := Int.emod_nonneg (rm i n) (b := tk i) (by omega)
    have b := Int.emod_lt_of_pos (rm i n) (b := tk i) (by omega)
    rw [rm]; omega
theorem pc_length (i : Nat) (n : Int) (h0 : 0 ≤ n) (h1 : n ≤ 1000000) : (pc i n).length ≤ 8 := by
  unfold pc
  split
  · have ht := tk_bd i
    have hq0 : 0 ≤ n / tk i := Int.ediv_nonneg h0 (by omega)
    have hq1 : n / tk i ≤ n := Int.ediv_le_self _ h0
    rw [itoa_nat _ hq0, List.length_append, List.length_singleton]
    have := (dec_facts 7 (n / tk i).toNat (by omega) (by decide)).2.2.1
    omega
  · simp
theorem tx_length (n : Int) (h0 : 0 ≤ n) (h1 : n ≤ 1000000) : ∀ i, (tx i n).length ≤ 8 * i
  | 0 => by simp [tx]
  | i + 1 => by
    have := tx_length n h0 h1 i
    have hr := rm_bd n h0 h1 i
    have hp := pc_length i (rm i n) hr.1 hr.2
    rw [tx, List.length_append]; omega
theorem show_length (n : Int) (h0 : 0 ≤ n) (h1 : n ≤ 1000000) : (showL n).length ≤ 32 := by
  unfold showL
  split
  · simp
  · exact tx_length n h0 h1 4
end Go.Proofs.YtdkngidangfkiaaGreatDoor.Hours
namespace Go.Proofs.YtdkngidangfkiaaGreatDoor.Cmd
open Go.RowKit
open Base Runes Lex
set_option linter.unusedVariables false
set_option linter.unusedSimpArgs false
structure One (T : List Nat) (t : Tok) : Prop where
  ne : T ≠ []
  c1 : cls (T.getD 0 0 : Nat) ≠ 1
  ok : (oneR T 0).2.2.2 = 0
  len : (oneR T 0).2.1 = T.length
  eq : ∀ b, atT (oneR T 0).1 b = (t.1, t.2.1, t.2.2.1, (b : Int))
  good : GoodR T
  wr : wrB t = encB T
theorem one_of {t : Tok} (h : chE t = 0) : One (rn (wrB t)) t := by
  have h0 := h
  unfold chE at h
  split at h
  · rename_i hE
    split at h
    · rename_i x hx
      obtain ⟨a1, a2, a3, a4⟩ := chE_place h0 hx
      obtain ⟨_, h2, _⟩ := tkA_toks hE
      rw [hx] at h2
      have hgd := toks_good h2
      have hwr : wrB t = encB (rn (wrB t)) := (encB_rn hgd).symm
      generalize hX : rn (wrB t) = X at h2 hgd hwr ⊢
      cases h2 with
      | @blank r X' _ _ h1 h3 =>
        exfalso
        have := (toks_places h3).1 x (by simp)
        omega
      | @tok _ _ l hne h1 he h3 =>
        obtain ⟨w1, w2⟩ := one_width hne he
        have hsz : (wrB t).size = (encB (X.take (oneR X 0).2.1)).size := by
          rw [← wrB_eq a1 a2 a3]
          rcases (one_is hne he 0).2 with ⟨h2, e⟩ | e
          · rw [wrB_at, e]
            show (lowS _).size = _
            rw [Lib.size_eq, Lib.size_eq]; unfold lowS; rw [ofList_data, List.length_map]
          · rw [e]
        have hap := encB_size_append (X.take (oneR X 0).2.1) (X.drop (oneR X 0).2.1)
        rw [List.take_append_drop, ← hwr] at hap
        have hl : (oneR X 0).2.1 = X.length := by
          cases hd : X.drop (oneR X 0).2.1 with
          | nil => rw [List.drop_eq_nil_iff] at hd; omega
          | cons r u =>
            rw [hd] at hap
            have h5 := encB_size_append [r] u
            rw [List.singleton_append] at h5
            have := encB_one r
            omega
        refine ⟨hne, h1, he, hl, fun b => ?_, hgd, hwr⟩
        have b1 : (oneR X 0).1.1 = t.1 := a1
        have b2 : (oneR X 0).1.2.1 = t.2.1 := a2
        have b3 : (oneR X 0).1.2.2.1 = t.2.2.1 := a3
        unfold atT
        rw [b1, b2, b3]
    · simp at h
  · simp at h
def wrd (s : ByteArray) : Tok := (1, s, 0, 0)
def txt (s : ByteArray) : Tok := (4, s, 0, 0)
theorem chE_is (t : Tok) (T : List Nat) (hw : wrB t = encB T) (hg : GoodR T) (hs : (encB T).size ≤ 400) (hne : T ≠ []) (h1 : cls (T.getD 0 0 : Nat) ≠ 1) (r : Tok × Nat × Nat × Int) (ho : oneR T 0 = r) (he : r.2.2.2 = 0) (hl : r.2.1 = T.length)
    (e1 : r.1.1 = t.1) (e2 : r.1.2.1 = t.2.1) (e3 : r.1.2.2.1 = t.2.2.1) : chE t = 0 := by
  subst ho
  exact chE_of t T hw hg hs hne h1 he hl e1 e2 e3
theorem rm_bd (n : Int) (h0 : 0 ≤ n) (h1 : n ≤ 1000000) : ∀ i, 0 ≤ Hours.rm i n ∧ Hours.rm i n ≤ 1000000
  | 0 => ⟨h0, h1⟩
  | i + 1 => by
    have ih := rm_bd n h0 h1 i
    have htk := Hours.tk_bd i
    unfold Hours.rm
    have a := Int.emod_nonneg (Hours.rm i n) (show Hours.tk i ≠ 0 by omega)
    have b := Int.emod_lt_of_pos (Hours.rm i n) (show 0 < Hours.tk i by omega)
    omega
def mkN (l : List Nat) : List Nat := l.flatMap fun r => if mkR r then [92, r] else [r]
theorem mkN_cons (r : Nat) (t : List Nat) : mkN (r :: t) = (if mkR r then [92, r] else [r]) ++ mkN t := by simp [mkN, List.flatMap_cons]
theorem mkN_enc (l : List Nat) (h : GoodR l) : encL (mkN l) = mk (encL l) ∧ GoodR (mkN l) ∧ ∀ z, scn (mkN l ++ 34 :: z) = (0, (mkN l).length) := by
  induction l with
  | nil => exact ⟨rfl, GoodR.nil, fun z => scn_end z⟩
  | cons r t ih =>
    obtain ⟨hr, ht⟩ := goodR_cons.1 h
    obtain ⟨e, g, s⟩ := ih ht
    have hcat : encL (r :: t) = encL [r] ++ encL t := by rw [← encL_append]; rfl
    have h1 : encL [r] = Go.Lib.encodeRune (r : Int) := by simp [encL]
    rw [mkN_cons, hcat, mk_append, ← e, h1]
    rcases (decode_encode r [] hr).2.1 with ⟨hlt, ee⟩ | ⟨hge, hh⟩
    · have hb : (UInt8.ofNat r).toNat = r := by rw [UInt8.toNat_ofNat']; omega
      have hmk : mkB (UInt8.ofNat r) = mkR r := by rw [mkB_nat, hb]
      rw [ee, mk_cons, mk_nil, List.append_nil, hmk]
      cases hm : mkR r with
      | true =>
        rw [if_pos rfl, if_pos rfl, encL_append]
        refine ⟨?_, goodR_append.2 ⟨goodR_cons.2 ⟨by decide, goodR_cons.2 ⟨hr, GoodR.nil⟩⟩, g⟩, fun z => ?_⟩
        · have : encL [92, r] = Go.Lib.encodeRune ((92 : Nat) : Int) ++ Go.Lib.encodeRune (r : Int) := by simp [encL]
          rw [this, ee]
          rfl
        · show scn (92 :: r :: (mkN t ++ 34 :: z)) = _
          rw [scn_bs _ hr, s z]
          simp
      | false =>
        rw [if_neg (by simp), if_neg (by simp), encL_append, h1, ee]
        refine ⟨rfl, goodR_append.2 ⟨goodR_cons.2 ⟨hr, GoodR.nil⟩, g⟩, fun z => ?_⟩
        have h34 : r ≠ 34 := by rintro rfl; exact absurd hm (by decide)
        have h92 : r ≠ 92 := by rintro rfl; exact absurd hm (by decide)
        show scn (r :: (mkN t ++ 34 :: z)) = _
        obtain ⟨c1, c2⟩ := scn_on (mkN t ++ 34 :: z) h34 hr h92
        rw [s z] at c1 c2
        exact Prod.ext c1 ((c2 (by simp)).trans (by simp))
    · have hm : mkR r = false := by simp [mkR]; omega
      have hhi : ∀ b ∈ Go.Lib.encodeRune (r : Int), mkB b = false := fun b hb => high_mark (hh b hb)
      rw [mk_high _ hhi, hm, if_neg (by simp), encL_append, h1]
      refine ⟨rfl, goodR_append.2 ⟨goodR_cons.2 ⟨hr, GoodR.nil⟩, g⟩, fun z => ?_⟩
      show scn (r :: (mkN t ++ 34 :: z)) = _
      obtain ⟨c1, c2⟩ := scn_on (mkN t ++ 34 :: z) (by omega) hr (by omega)
      rw [s z] at c1 c2
      exact Prod.ext c1 ((c2 (by simp)).trans (by simp))
theorem goodR_of_ck {s : ByteArray} (h : ckE s = 0) : GoodR (rn s) := by
  have hg := (ckE_good s).1 h
  intro r hr
  unfold rn at hr
  rw [ps_zero] at hr
  obtain ⟨q, hq, rfl⟩ := List.mem_map.1 hr
  exact hg q hq
theorem uq_yes' {s : ByteArray} (h : ckE s = 0) : uqS (qtS s) = s ∧ uqE (qtS s) = 0 := by
  have hd : (qtS s).data.toList = qt s.data.toList := by rw [qt_yes h]
  have hg : ckE (qtS s) = 0 := by rw [ckE_good, hd, good_qt, ← ckE_good]; exact h
  have hu : uq (qtS s).data.toList = some s.data.toList := by rw [hd, uq_qt]
  obtain ⟨h1, h2⟩ := uq_yes hg hu
  exact ⟨h1.symm, h2.symm⟩
theorem chE_txt (s : ByteArray) (h : ckE s = 0) (hs : s.size ≤ 190) : chE (txt s) = 0 := by
  have hg := goodR_of_ck h
  obtain ⟨e, g, sc⟩ := mkN_enc (rn s) hg
  have hes : encL (rn s) = s.data.toList := by have := congrArg (fun z : ByteArray => z.data.toList) (encB_rn hg); exact this
  rw [hes] at e
  obtain ⟨T, hT⟩ : ∃ T, T = 34 :: (mkN (rn s) ++ [34]) := ⟨_, rfl⟩
  have hTe : encB T = qtS s := by
    apply ByteArray.ext; apply Array.toList_inj.1
    rw [qt_yes h, encB_data, hT, show (34 :: (mkN (rn s) ++ [34])) = [34] ++ (mkN (rn s) ++ [34]) from rfl, encL_append, encL_append, e]
    rfl
  have hTg : GoodR T := by rw [hT]; exact goodR_cons.2 ⟨by decide, goodR_append.2 ⟨g, goodR_cons.2 ⟨by decide, GoodR.nil⟩⟩⟩
  have hsz : (encB T).size ≤ 400 := by rw [hTe]; have := qtS_size2 s; omega
  have hne : T ≠ [] := by rw [hT]; simp
  have h0 : T.getD 0 0 = 34 := by rw [hT]; rfl
  have hlen : T.length = (mkN (rn s)).length + 2 := by rw [hT]; simp
  obtain ⟨u1, u2⟩ := uq_yes' h
  have hdr : T.drop (0 + 1) = mkN (rn s) ++ 34 :: [] := by rw [hT]; rfl
  have hcl : cls ((34 : Nat) : Int) = 4 := by decide
  refine chE_is (txt s) T (by rw [hTe]; rfl) hTg hsz hne (by rw [h0]; decide) ((4, s, 0, 0), T.length, 0, 0) ?_ rfl rfl rfl rfl rfl
  unfold oneR
  rw [h0, if_neg (by rw [hcl]; decide), if_neg (by rw [hcl]; decide), if_neg (by rw [hcl]; decide), if_pos rfl]
  unfold textR
  rw [hdr, sc []]
  dsimp only
  rw [if_neg (by decide), if_pos rfl, show 0 + (mkN (rn s)).length + 2 = T.length by omega, cutR_zero, List.take_length, hTe, u2, u1, if_pos rfl]
  rfl
end Go.Proofs.YtdkngidangfkiaaGreatDoor.Cmd
namespace Go.Proofs.YtdkngidangfkiaaGreatDoor.Shape
set_option linter.unusedVariables false
set_option linter.unusedSimpArgs false
abbrev Alt := Int × Int
def frB (n lo hi : Int) : Bool := decide (lo ≤ n) && decide (n ≤ hi)
def sizeB (n : Int) : Bool := frB n 1 48
def wallB (n : Int) : Bool := frB n 1 100000
theorem frB_iff (n lo hi : Int) : frB n lo hi = true ↔ lo ≤ n ∧ n ≤ hi := by simp [frB]
theorem frB_not (n lo hi : Int) : frB n lo hi = false ↔ ¬ (lo ≤ n ∧ n ≤ hi) := by rw [← frB_iff]; simp
theorem sizeB_iff (n : Int) : sizeB n = true ↔ 1 ≤ n ∧ n ≤ 48 := frB_iff _ _ _
theorem wallB_iff (n : Int) : wallB n = true ↔ 1 ≤ n ∧ n ≤ 100000 := frB_iff _ _ _
def altOk (a : Alt) : Bool := sizeB a.1 && wallB a.2
def hasN (zs : List Alt) (x : Int) : Bool := zs.any fun b => b.1 == x
def goodB (zs : List Alt) : Bool := zs.all altOk && decide (zs.map Prod.fst).Nodup
def mayB (zs : List Alt) (most : Int) : Bool := frB zs.length 1 most && goodB zs
def spanB (mn mx wl : Int) : Bool := decide (mn ≠ 0) || decide (mx ≠ 0) || decide (wl ≠ 0)
theorem goodB_iff (zs : List Alt) : goodB zs = true ↔ (∀ i (h : i < zs.length), altOk zs[i] = true) ∧ ∀ i j (hi : i < zs.length) (hj : j < zs.length), i < j → zs[i].1 ≠ zs[j].1 := by
  unfold goodB
  rw [Bool.and_eq_true, List.all_eq_true, decide_eq_true_iff]
  unfold List.Nodup
  rw [List.pairwise_iff_getElem]
  constructor
  · rintro ⟨h1, h2⟩
    refine ⟨fun i h => h1 _ (List.getElem_mem h), fun i j hi hj hij => ?_⟩
    have := h2 i j (by simpa using hi) (by simpa using hj) hij
    simpa using this
  · rintro ⟨h1, h2⟩
    refine ⟨fun x hx => ?_, fun i j hi hj hij => ?_⟩
    · obtain ⟨i, hi, rfl⟩ := List.getElem_of_mem hx
      exact h1 i hi
    · simp only [List.length_map] at hi hj
      simpa using h2 i j hi hj hij
theorem hasN_take (zs : List Alt) (k : Nat) (x : Int) : hasN (zs.take k) x = false ↔ ∀ i (h : i < zs.length), i < k → zs[i].1 ≠ x := by
  unfold hasN
  rw [List.any_eq_false]
  constructor
  · intro h i hi hk
    have := h zs[i] (List.mem_take_iff_getElem.2 ⟨i, by omega, rfl⟩)
    simpa using this
  · intro h a ha
    obtain ⟨i, hi, rfl⟩ := List.mem_take_iff_getElem.1 ha
    have := h i (by omega) (by omega)
    simpa using this
theorem goodB_steps (zs : List Alt) : goodB zs = true ↔ ∀ k (h : k < zs.length), altOk zs[k] = true ∧ hasN (zs.take k) zs[k].1 = false := by
  rw [goodB_iff]
  constructor
  · rintro ⟨h1, h2⟩ k hk
    exact ⟨h1 k hk, (hasN_take _ _ _).2 fun i hi hik => h2 i k hi hk hik⟩
  · intro h
    exact ⟨fun i hi => (h i hi).1, fun i j hi hj hij => (hasN_take _ _ _).1 (h j hj).2 i hi hij⟩
theorem goodB_no (zs : List Alt) (k : Nat) (h : k < zs.length) (hn : altOk zs[k] = false ∨ hasN (zs.take k) zs[k].1 = true) : goodB zs = false := by
  cases hg : goodB zs with
  | false => rfl
  | true =>
    have := (goodB_steps zs).1 hg k h
    rcases hn with hn | hn
    · rw [hn] at this; exact absurd this.1 (by simp)
    · rw [hn] at this; exact absurd this.2 (by simp)
def chkB (k : Int) (zs : List Alt) (mn mx wl : Int) : Bool :=
  if k = 1 then mayB zs 1 && !spanB mn mx wl
  else if k = 2 then mayB zs 6 && !spanB mn mx wl
  else if k = 3 then sizeB mn && sizeB mx && decide (mn ≤ mx) && wallB wl && decide ((zs.length : Int) = 0)
  else false
def chkE (k : Int) (zs : List Alt) (mn mx wl : Int) : Int := if chkB k zs mn mx wl then 0 else 70
theorem spanB_no (mn mx wl : Int) : (!spanB mn mx wl) = true ↔ mn = 0 ∧ mx = 0 ∧ wl = 0 := by
  unfold spanB; simp [and_assoc]
theorem altOk_iff (a : Alt) : altOk a = true ↔ (1 ≤ a.1 ∧ a.1 ≤ 48) ∧ 1 ≤ a.2 ∧ a.2 ≤ 100000 := by
  unfold altOk; rw [Bool.and_eq_true, sizeB_iff, wallB_iff]
end Go.Proofs.YtdkngidangfkiaaGreatDoor.Shape
namespace Go.Proofs.YtdkngidangfkiaaGreatDoor.Shape
open Go.RowKit
open Base
set_option linter.unusedVariables false
set_option linter.unusedSimpArgs false
def altC (a : Alt) : List Value := [.int .i64 a.1, .int .i64 a.2]
theorem altC_length (a : Alt) : (altC a).length = 2 := rfl
theorem alt_cells {w : World} {a : Option Addr} {zs : List Alt} (h : ReadsS 2 altC w a zs) {j : Nat} (hj : j < zs.length) :
    ∃ b off, a = some ⟨b, off, none⟩ ∧ w.cell? ⟨b, off + j * 2, none⟩ = some (.int .i64 zs[j].1) ∧ w.cell? ⟨b, off + j * 2 + 1, none⟩ = some (.int .i64 zs[j].2) := by
  obtain ⟨b, off, ha, hc⟩ := h.at_ hj
  exact ⟨b, off, ha, hc 0 (by decide), hc 1 (by decide)⟩
set_option maxHeartbeats 1000000 in
theorem isFrom_any (n lo hi : Int) (w : World) :
    Calls Tryz.prog 156 #[.int .i64 n, .int .i64 lo, .int .i64 hi] w fun e w' => e = .returned (.bool (frB n lo hi)) ∧ w = w' := by
  have HX : Hid (frB n lo hi = (decide (lo ≤ n) && decide (n ≤ hi))) := Lib.hid rfl
  cases h1 : decide (lo ≤ n) with
  | true =>
    go_enter Tryz.func156, Tryz.ntmps156
    go_wp2
    go_ret
    exact ⟨ret_bool (by rw [HX.out, h1]; rfl), rfl⟩
  | false =>
    go_enter Tryz.func156, Tryz.ntmps156
    go_wp2
    go_ret
    exact ⟨ret_bool (by rw [HX.out, h1]; rfl), rfl⟩
set_option maxHeartbeats 1000000 in
theorem isSize_any (n : Int) (w : World) :
    Calls Tryz.prog 119 #[.int .i64 n] w fun e w' => e = .returned (.bool (sizeB n)) ∧ w = w' := by
  go_enter Tryz.func119, Tryz.ntmps119
  go_wp2_with (first
    | (go_at_call 156; (with_reducible refine (isFrom_any _ _ _ _).mono ?_); rintro e w' ⟨rfl, rfl⟩)
    | fail)
  go_ret
  exact ⟨rfl, rfl⟩
set_option maxHeartbeats 1000000 in
theorem isWall_any (n : Int) (w : World) :
    Calls Tryz.prog 120 #[.int .i64 n] w fun e w' => e = .returned (.bool (wallB n)) ∧ w = w' := by
  go_enter Tryz.func120, Tryz.ntmps120
  go_wp2_with (first
    | (go_at_call 156; (with_reducible refine (isFrom_any _ _ _ _).mono ?_); rintro e w' ⟨rfl, rfl⟩)
    | fail)
  go_ret
  exact ⟨rfl, rfl⟩
set_option maxHeartbeats 1000000 in
theorem hasSpan_any (k : Int) (ao : Option Addr) (len cap : Nat) (mn mx wl : Int) (w : World) :
    Calls Tryz.prog 118 #[.agg #[.int .i64 k, .slice ao len cap, .int .i64 mn, .int .i64 mx, .int .i64 wl]] w fun e w' => e = .returned (.bool (spanB mn mx wl)) ∧ Below w.heap.size w w' := by
  have HX : Hid (spanB mn mx wl = (decide (mn ≠ 0) || decide (mx ≠ 0) || decide (wl ≠ 0))) := Lib.hid rfl
  cases h1 : (mn != 0) with
  | true =>
    have h1' : mn ≠ 0 := by simpa using h1
    have HX : Hid (true = spanB mn mx wl) := Lib.hid (by rw [HX.out, decide_eq_true h1']; rfl)
    clear h1'
    go_enter Tryz.func118, Tryz.ntmps118
    go_wp2
    go_ret
    exact ⟨ret_bool HX.out, Base.bel_⟩
  | false =>
    have h1' : mn = 0 := by simpa using h1
    cases h2 : (mx != 0) with
    | true =>
      have h2' : mx ≠ 0 := by simpa using h2
      have HX : Hid (true = spanB mn mx wl) := Lib.hid (by rw [HX.out, decide_eq_true h2']; simp)
      clear h1' h2'
      go_enter Tryz.func118, Tryz.ntmps118
      go_wp2
      go_ret
      exact ⟨ret_bool HX.out, Base.bel_⟩
    | false =>
      have h2' : mx = 0 := by simpa using h2
      have HX : Hid ((wl != 0) = spanB mn mx wl) := Lib.hid (by rw [HX.out, h1', h2']; rw [Bool.eq_iff_iff]; simp)
      clear h1' h2'
      go_enter Tryz.func118, Tryz.ntmps118
      go_wp2
      go_ret
      exact ⟨ret_bool HX.out, Base.bel_⟩
theorem asLarge_any (B : Nat) (x : Int) (n wl : Int) (w : World) (hB : w.cell? ⟨B, 0, none⟩ = some (.int .i64 x)) :
    Calls Tryz.prog 157 #[.agg #[.int .i64 n, .int .i64 wl], .pointer (some ⟨B, 0, none⟩)] w fun e w' => e = .returned (.bool (n == x)) ∧ Below w.heap.size w w' := by
  have h2 := cell_below hB (below_one (.cells #[.int .i64 n, .int .i64 wl] 88))
  go_enter Tryz.func157, Tryz.ntmps157
  go_wp2
  go_ret
  exact ⟨rfl, Base.bel_⟩
end Go.Proofs.YtdkngidangfkiaaGreatDoor.Shape
