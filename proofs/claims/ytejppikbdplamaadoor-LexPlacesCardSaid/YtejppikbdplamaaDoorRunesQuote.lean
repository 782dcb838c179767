/-
  The walks of layer 4's quoting.
-/
import Derived.Test.YtejppikbdplamaaDoorRunesRef2
namespace Go.Proofs.YtejppikbdplamaaDoor.Runes
open Go.RowKit
open Base Bld
set_option linter.unusedVariables false

theorem bldR_eq {w w1 : World} {B b : Nat} {l l' : List UInt8} (h : BldR w B b l w1) (hl : l = l') : BldR w B b l' w1 := by rw [← hl]; exact h
theorem _root_.Go.Proofs.YtejppikbdplamaaDoor.Bld.BldR.lt {w w1 : World} {B b : Nat} {l : List UInt8} (h : BldR w B b l w1) : b < w1.heap.size := by
  rcases h.1 with ⟨_, v, hb, _⟩ | ⟨_, v, hb, _⟩
  · exact lt_of_heap hb
  · exact lt_of_heap hb
theorem encodeRune_le (r : Int) : (Lib.encodeRune r).length ≤ 4 := by have := (Lib.runeCells_le r).2; rw [Lib.runeCells_length] at this; exact this
theorem mkR_dec (r : Nat) : decide ((r : Int) = 34 ∨ (r : Int) = 92) = mkR r := by
  rw [Bool.eq_iff_iff, decide_eq_true_iff]; simp only [mkR, Bool.or_eq_true, beq_iff_eq]; omega

set_option maxRecDepth 100000 in
set_option maxHeartbeats 2000000 in
theorem quote_any (s : ByteArray) (hs : s.size ≤ 1000000) (w : World) :
    Calls Tryd.prog 60 #[.string s] w fun e w' => e = .returned (.tuple #[.string (qtS s), .int .i64 (ckE s)]) ∧ Below w.heap.size w w' := by
  have c1 := fun w => check_any s hs w
  rcases ckE_or s with hE | hE
  · have hqr : qr (ps s 0) = mk s.data.toList := qr_good _ ((ckE_good s).1 hE)
    have HQ : Hid ((⟨(34 :: qr (ps s 0) ++ [34]).toArray⟩ : ByteArray) = qtS s) := Lib.hid (by unfold qtS qt; rw [if_pos hE, hqr]; rfl)
    simp only [hE] at c1 ⊢
    have C1 := Lib.hid c1
    clear c1 hqr
    go_enter Tryd.func60, Tryd.ntmps60
    go_wp2_with (first
      | (go_at_call 27; (with_reducible refine (C1.out _).mono ?_); rintro e w1 ⟨rfl, p1⟩)
      | (go_at_call 22; (with_reducible refine (writeByte_r w _ w.heap.size _ [] 34 34 rfl (bldR_new w w1 p1 _ rfl) (by decide)).mono ?_); rintro e w2 ⟨rfl, h2, k2⟩)
      | fail)
    have hbk : w1.heap.size < w2.heap.size := h2.lt
    go_loopw [] (fun wr => ∃ (pos : Nat) (acc : List UInt8), wr.heap[w2.heap.size]? = some (.stringIter s pos) ∧ BldR w w.heap.size w1.heap.size acc wr ∧ acc ++ qr (ps s pos) = 34 :: qr (ps s 0) ∧ pos ≤ s.size ∧ acc.length ≤ 5 * pos + 1) (fun wr => s.size - wr.iterPos w2.heap.size)
    case atStart => exact ⟨0, [34], World.iter_heap w2 s 0, h2.alloc _, rfl, Nat.zero_le _, Nat.le_refl _⟩
    case round =>
      obtain ⟨pos, acc, hit, hI, hc, hp0, hal⟩ := hrel
      by_cases hp : pos < s.size
      · have hnx : ∀ ty, (Instr.next (.pointer (some ⟨w2.heap.size, 0, none⟩)) true ty).run Tryd.prog wr = _ := fun ty => Lib.run_next_any_at wr w2.heap.size s pos ty hit hp
        have hwd := ps_width s pos hp
        have hd1 := decode_le s pos
        have hm0 : wr.iterPos w2.heap.size = pos := by simp [World.iterPos, hit]
        have hI2 := hI.iterAt hit (by have := h2.2.2; omega) (pos + (Utf8.decode s pos).2)
        have hit2 := Lib.iterAt_heap wr w2.heap.size s pos (pos + (Utf8.decode s pos).2) hit
        have he4 := encodeRune_le ((Utf8.decode s pos).1 : Int)
        rw [ps_step s pos hp, qr] at hc
        have HI := Lib.hid hI2
        have HT := Lib.hid hit2
        have HE4 := Lib.hid he4
        clear hI hI2 hit2 he4
        cases hmk : mkR (Utf8.decode s pos).1 with
        | true =>
          have hdm : decide (((Utf8.decode s pos).1 : Int) = 34 ∨ ((Utf8.decode s pos).1 : Int) = 92) = true := by rw [mkR_dec, hmk]
          rw [hmk, if_pos rfl] at hc
          have HC : Hid ((acc ++ [92] ++ Lib.encodeRune ((Utf8.decode s pos).1 : Int)) ++ qr (ps s (pos + (Utf8.decode s pos).2)) = 34 :: qr (ps s 0)) := Lib.hid (by rw [← hc]; simp)
          clear hc hmk
          go_wp2_with (first
            | (go_at_call 68; (with_reducible refine (isMark_any _ _).mono ?_); rintro e w' ⟨rfl, rfl⟩)
            | (go_at_call 22; (with_reducible refine (writeByte_r _ _ _ _ acc 92 92 rfl HI.out (by omega)).mono ?_); rintro e w3 ⟨rfl, h3, k3⟩)
            | (go_at_call 69; (with_reducible refine (writeRune_r _ _ _ _ (acc ++ [92]) _ (by omega) (by omega) h3 (by simp only [List.length_append, List.length_singleton]; omega)).mono ?_); rintro e w4 ⟨rfl, h4, k4⟩)
            | fail)
          have ht4 := k4.iter (k3.iter HT.out (by omega)) (by omega)
          refine ⟨⟨_, _, ht4, h4, HC.out, hwd.2.1, by have := HE4.out; simp only [List.length_append, List.length_singleton]; omega⟩, ?_⟩
          rw [hm0]; simp only [World.iterPos, ht4]; omega
        | false =>
          have hdm : decide (((Utf8.decode s pos).1 : Int) = 34 ∨ ((Utf8.decode s pos).1 : Int) = 92) = false := by rw [mkR_dec, hmk]
          rw [hmk, if_neg (by simp)] at hc
          have HC : Hid ((acc ++ Lib.encodeRune ((Utf8.decode s pos).1 : Int)) ++ qr (ps s (pos + (Utf8.decode s pos).2)) = 34 :: qr (ps s 0)) := Lib.hid (by rw [← hc]; simp)
          clear hc hmk
          go_wp2_with (first
            | (go_at_call 68; (with_reducible refine (isMark_any _ _).mono ?_); rintro e w' ⟨rfl, rfl⟩)
            | (go_at_call 69; (with_reducible refine (writeRune_r _ _ _ _ acc _ (by omega) (by omega) HI.out (by omega)).mono ?_); rintro e w4 ⟨rfl, h4, k4⟩)
            | fail)
          have ht4 := k4.iter HT.out (by omega)
          refine ⟨⟨_, _, ht4, h4, HC.out, hwd.2.1, by have := HE4.out; simp only [List.length_append]; omega⟩, ?_⟩
          rw [hm0]; simp only [World.iterPos, ht4]; omega
      · have hnx : ∀ ty, (Instr.next (.pointer (some ⟨w2.heap.size, 0, none⟩)) true ty).run Tryd.prog wr = _ := fun ty => Lib.run_next_end_at wr w2.heap.size s pos ty hit hp
        rw [ps_end s pos hp, qr, List.append_nil] at hc
        obtain ⟨z, hz⟩ : ∃ z, acc ++ [34] = z := ⟨_, rfl⟩
        have HZ := Lib.hid hz
        have HA : Hid ((⟨z.toArray⟩ : ByteArray) = qtS s) := Lib.hid (by rw [← hz, hc]; exact HQ.out)
        have HI := Lib.hid hI
        clear hz hc hI
        go_wp2_with (first
          | (go_at_call 22; (with_reducible refine (writeByte_r _ _ _ _ acc 34 34 rfl HI.out (by omega)).mono ?_); rintro e w3 ⟨rfl, h3, k3⟩)
          | (go_at_call 24; (with_reducible refine (string_r _ _ _ _ z (bldR_eq h3 HZ.out)).mono ?_); rintro e w4 ⟨rfl, p4⟩)
          | fail)
        go_ret2
        exact ⟨ret_si HA.out rfl, p4⟩
  · have HA : Hid ((⟨#[]⟩ : ByteArray) = qtS s) := Lib.hid (by unfold qtS; rw [if_neg (by omega)])
    simp only [hE] at c1 ⊢
    have C1 := Lib.hid c1
    clear c1
    go_enter Tryd.func60, Tryd.ntmps60
    go_wp2_with (first | (go_at_call 27; (with_reducible refine (C1.out _).mono ?_); rintro e w1 ⟨rfl, p1⟩) | fail)
    go_ret2
    exact ⟨ret_si HA.out rfl, p1⟩

end Go.Proofs.YtejppikbdplamaaDoor.Runes
