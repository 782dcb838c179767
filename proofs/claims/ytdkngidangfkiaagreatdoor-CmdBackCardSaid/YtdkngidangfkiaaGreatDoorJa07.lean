/-
  Joined out of: The walk of the program's number of digits; a run searched for a letter. The walks of layer 4's quoting. The walks of layer 4's unquoting. The walk of the program's token of a piece.
-/
import Derived.Test.YtdkngidangfkiaaGreatDoorJa06
import Derived.Test.YtdkngidangfkiaaGreatDoorJa02
namespace Go.Proofs.YtdkngidangfkiaaGreatDoor.Lex
open Go.RowKit
open Base Runes LexLib
set_option linter.unusedVariables false
set_option linter.unusedSimpArgs false
theorem dig_byte {r : Nat} (h : 48 ≤ r ∧ r ≤ 57) : (UInt8.ofNat r).toNat = r := by rw [UInt8.toNat_ofNat']; omega
theorem parse_dig (T : List Nat) : ∀ acc : Nat, DigR T → (acc + 1) * 10 ^ T.length ≤ 1000000000000000000 → Lib.parseUint10 acc (T.map UInt8.ofNat) = .ok (vN acc T) ∧ vN acc T < 1000000000000000000 := by
  induction T with
  | nil => intro acc _ h; exact ⟨rfl, by simp at h; show acc < _; omega⟩
  | cons r t ih =>
    intro acc hd hb
    have hr := hd r (by simp)
    have hp : 1 ≤ 10 ^ t.length := Nat.pow_pos (by decide)
    have e : (acc + 1) * 10 ^ (r :: t).length = (acc * 10 + 10) * 10 ^ t.length := by
      rw [List.length_cons, Nat.pow_succ, Nat.mul_comm (10 ^ t.length) 10, ← Nat.mul_assoc, Nat.add_mul, Nat.one_mul]
    rw [e] at hb
    have hb2 : (acc * 10 + (r - 48) + 1) * 10 ^ t.length ≤ (acc * 10 + 10) * 10 ^ t.length := Nat.mul_le_mul_right _ (by omega)
    have hb3 : (acc * 10 + 10) * 1 ≤ (acc * 10 + 10) * 10 ^ t.length := Nat.mul_le_mul_left _ hp
    obtain ⟨i1, i2⟩ := ih (acc * 10 + (r - 48)) (fun x hx => hd x (by simp [hx])) (by omega)
    have ev : vN acc (r :: t) = vN (acc * 10 + (r - 48)) t := by
      unfold vN; rw [List.foldl_cons, Nat.mul_comm]
    rw [List.map_cons, Lib.parseUint10, dig_byte hr, if_pos hr, if_neg (by omega), if_neg (by omega), ev]
    exact ⟨i1, i2⟩
theorem parse_any (T : List Nat) : ∀ acc : Nat, DigR T → (∃ u, Lib.parseUint10 acc (T.map UInt8.ofNat) = .ok u) ∨ Lib.parseUint10 acc (T.map UInt8.ofNat) = .range := by
  induction T with
  | nil => intro acc _; exact .inl ⟨acc, rfl⟩
  | cons r t ih =>
    intro acc hd
    have hr := hd r (by simp)
    rw [List.map_cons, Lib.parseUint10, dig_byte hr, if_pos hr]
    split
    · exact .inr rfl
    · split
      · exact .inr rfl
      · exact ih _ (fun x hx => hd x (by simp [hx]))
theorem atoi_dig {T : List Nat} (hd : DigR T) (hne : T ≠ []) :
    (T.length ≤ 9 → Lib.atoiAll (T.map UInt8.ofNat) = .ok (vN 0 T : Int)) ∧ ((∃ v, Lib.atoiAll (T.map UInt8.ofNat) = .ok v) ∨ Lib.atoiAll (T.map UInt8.ofNat) = .range) := by
  cases T with
  | nil => exact absurd rfl hne
  | cons r t =>
    have hr := hd r (by simp)
    have e : Lib.atoiAll ((r :: t).map UInt8.ofNat) = Lib.signless (Lib.parseMag ((r :: t).map UInt8.ofNat)) := by
      rw [List.map_cons]
      exact Lib.atoiAll_plain _ _ (by rw [dig_byte hr]; omega) (by rw [dig_byte hr]; omega)
    have e2 : Lib.parseMag ((r :: t).map UInt8.ofNat) = Lib.parseUint10 0 ((r :: t).map UInt8.ofNat) := by
      unfold Lib.parseMag; rw [if_neg (by simp)]
    rw [e, e2]
    refine ⟨fun h => ?_, ?_⟩
    · have hp : (10 : Nat) ^ (r :: t).length ≤ 10 ^ 9 := Nat.pow_le_pow_right (by decide) h
      obtain ⟨h1, h2⟩ := parse_dig (r :: t) 0 hd (by rw [Nat.zero_add, Nat.one_mul]; exact Nat.le_trans hp (by decide))
      rw [h1]
      unfold Lib.signless
      simp only
      rw [if_neg (by omega)]
    · rcases parse_any (r :: t) 0 hd with ⟨u, h1⟩ | h1
      · rw [h1]
        unfold Lib.signless
        simp only
        split
        · exact .inr rfl
        · exact .inl ⟨_, rfl⟩
      · rw [h1]
        exact .inr rfl
def nI (T : List Nat) : Int := if numR T < 0 then 0 else numR T
def nE (T : List Nat) : Int := if numR T < 0 then 50 else 0
theorem num_bad {T : List Nat} (h : 9 < T.length ∨ (1 < T.length ∧ T.getD 0 0 = 48)) : (0 : Int) = nI T ∧ (50 : Int) = nE T := by
  have : numR T = -1 := by unfold numR; rw [if_pos (.inr h)]
  unfold nI nE; rw [this]; exact ⟨rfl, rfl⟩
theorem num_good {T : List Nat} (hd : DigR T) (hne : T ≠ []) (h : ¬ (9 < T.length ∨ (1 < T.length ∧ T.getD 0 0 = 48))) : (vN 0 T : Int) = nI T ∧ (0 : Int) = nE T := by
  have hl : T.length ≠ 0 := by have := List.length_pos_iff.2 hne; omega
  have e : numR T = (vN 0 T : Int) := by
    unfold numR
    rw [if_neg (by rintro (h1 | h1); exact hl h1; exact h h1)]
    exact numF_v T 0 hd
  unfold nI nE
  rw [e, if_neg (by omega), if_neg (by omega)]
  exact ⟨rfl, rfl⟩
theorem ret_ii {a a' e e' : Int} (h : a = a') (h1 : e = e') : Ending.returned (.tuple #[.int .i64 a, .int .i64 e]) = .returned (.tuple #[.int .i64 a', .int .i64 e']) := by rw [h, h1]
set_option maxRecDepth 100000 in
set_option maxHeartbeats 1000000 in
theorem number_any (T : List Nat) (hd : DigR T) (hne : T ≠ []) (hs : (encB T).size ≤ 1000000) (w : World) (hT : Tb w) :
    Calls Tryz.prog 94 #[.string (encB T)] w fun e w' => e = .returned (.tuple #[.int .i64 (nI T), .int .i64 (nE T)]) ∧ Below w.heap.size w w' := by
  obtain ⟨hat, hor⟩ := atoi_dig hd hne
  have hdat : (encB T).data.toList = T.map UInt8.ofNat := encL_dig T hd
  have hlen : T.length = (encB T).size := by rw [Lib.size_eq, hdat, List.length_map]
  have hpos := List.length_pos_iff.2 hne
  rw [← hdat] at hat hor
  have hx : ∃ h : 0 < (encB T).size, ((encB T)[0]'h).toNat = T.getD 0 0 := by
    refine ⟨by omega, ?_⟩
    have e : (encB T)[0]'(by omega) = (encB T).data.toList[0]'(by rw [← Lib.size_eq]; omega) := rfl
    rw [e]
    simp only [hdat]
    rw [List.getElem_map, dig_byte (hd _ (List.getElem_mem _))]
    simp [List.getD, List.getElem?_eq_getElem hpos]
  have hbad := num_bad (T := T)
  have hgood := num_good hd hne
  obtain ⟨h0, hh0⟩ : ∃ h0, h0 = T.getD 0 0 := ⟨_, rfl⟩
  obtain ⟨V, hV⟩ : ∃ V : Int, V = (vN 0 T : Int) := ⟨_, rfl⟩
  obtain ⟨a, ha⟩ : ∃ a, a = nI T := ⟨_, rfl⟩
  obtain ⟨x, hxe⟩ : ∃ x, x = nE T := ⟨_, rfl⟩
  rw [← hh0, ← ha, ← hxe, hlen] at hbad
  rw [← hh0, ← ha, ← hxe, ← hV, hlen] at hgood
  rw [← hh0] at hx
  rw [hlen, ← hV] at hat
  clear hpos
  rw [← ha, ← hxe]
  clear hdat hlen hh0 hV ha hxe hd hne
  generalize encB T = z at *
  obtain ⟨hpos, hx⟩ := hx
  have HB := Lib.hid hbad
  have HG := Lib.hid hgood
  have HT := Lib.hid hT
  clear hbad hgood hT
  by_cases h9 : 9 < z.size
  · have HA := Lib.hid (HB.out (.inl h9))
    have t9 : decide ((z.size : Int) > 9) = true := by rw [decide_eq_true_iff]; omega
    rcases hor with ⟨v, hv⟩ | hv
    · have C1 := Lib.hid (fun w => atoi_ok z hs v hv w)
      clear hv hat hx
      go_enter Tryz.func94, Tryz.ntmps94
      go_wp2_with (first | (go_at_call 133; (with_reducible refine (C1.out _).mono ?_); rintro e w1 ⟨rfl, p1⟩) | fail)
      go_ret2
      exact ⟨ret_ii HA.out.1 HA.out.2, p1⟩
    · have C1 := Lib.hid (atoi_range z hs hv w HT.out)
      clear hv hat hx
      go_enter Tryz.func94, Tryz.ntmps94
      go_wp2_with (first | (go_at_call 133; (with_reducible refine (C1.out).mono ?_); rintro e w1 ⟨v, N, rfl, p1⟩) | fail)
      go_ret2
      exact ⟨ret_ii HA.out.1 HA.out.2, p1⟩
  · have C1 := Lib.hid (fun w => atoi_ok z hs V (hat (by omega)) w)
    have t9 : decide ((z.size : Int) > 9) = false := by rw [decide_eq_false_iff_not]; omega
    clear hat hor
    by_cases h1 : 1 < z.size
    · have t1 : decide ((z.size : Int) > 1) = true := by rw [decide_eq_true_iff]; omega
      by_cases h48 : h0 = 48
      · have HA := Lib.hid (HB.out (.inr ⟨h1, h48⟩))
        have t48 : (((z[0]'hpos).toNat : Int) == 48) = true := by rw [beq_iff_eq]; omega
        clear hx
        go_enter Tryz.func94, Tryz.ntmps94
        go_wp2_with (first | (go_at_call 133; (with_reducible refine (C1.out _).mono ?_); rintro e w1 ⟨rfl, p1⟩) | fail)
        go_ret2
        exact ⟨ret_ii HA.out.1 HA.out.2, p1⟩
      · have HA := Lib.hid (HG.out (by rintro (h | h); exact h9 h; exact h48 h.2))
        have t48 : (((z[0]'hpos).toNat : Int) == 48) = false := by rw [beq_eq_false_iff_ne]; omega
        clear hx
        go_enter Tryz.func94, Tryz.ntmps94
        go_wp2_with (first | (go_at_call 133; (with_reducible refine (C1.out _).mono ?_); rintro e w1 ⟨rfl, p1⟩) | fail)
        go_ret2
        exact ⟨ret_ii HA.out.1 HA.out.2, p1⟩
    · have HA := Lib.hid (HG.out (by rintro (h | h); exact h9 h; exact h1 h.1))
      have t1 : decide ((z.size : Int) > 1) = false := by rw [decide_eq_false_iff_not]; omega
      by_cases h48 : h0 = 48
      · have t48 : (((z[0]'hpos).toNat : Int) == 48) = true := by rw [beq_iff_eq]; omega
        clear hx
        go_enter Tryz.func94, Tryz.ntmps94
        go_wp2_with (first | (go_at_call 133; (with_reducible refine (C1.out _).mono ?_); rintro e w1 ⟨rfl, p1⟩) | fail)
        go_ret2
        exact ⟨ret_ii HA.out.1 HA.out.2, p1⟩
      · have t48 : (((z[0]'hpos).toNat : Int) == 48) = false := by rw [beq_eq_false_iff_ne]; omega
        clear hx
        go_enter Tryz.func94, Tryz.ntmps94
        go_wp2_with (first | (go_at_call 133; (with_reducible refine (C1.out _).mono ?_); rintro e w1 ⟨rfl, p1⟩) | fail)
        go_ret2
        exact ⟨ret_ii HA.out.1 HA.out.2, p1⟩
end Go.Proofs.YtdkngidangfkiaaGreatDoor.Lex
namespace Go.Proofs.YtdkngidangfkiaaGreatDoor.Runes
open Go.RowKit
open Base Bld
set_option linter.unusedVariables false
theorem bldR_eq {w w1 : World} {B b : Nat} {l l' : List UInt8} (h : BldR w B b l w1) (hl : l = l') : BldR w B b l' w1 := by rw [← hl]; exact h
theorem _root_.Go.Proofs.YtdkngidangfkiaaGreatDoor.Bld.BldR.lt {w w1 : World} {B b : Nat} {l : List UInt8} (h : BldR w B b l w1) : b < w1.heap.size := by
  rcases h.1 with ⟨_, v, hb, _⟩ | ⟨_, v, hb, _⟩
  · exact lt_of_heap hb
  · exact lt_of_heap hb
theorem encodeRune_le (r : Int) : (Lib.encodeRune r).length ≤ 4 := by have := (Lib.runeCells_le r).2; rw [Lib.runeCells_length] at this; exact this
theorem mkR_dec (r : Nat) : decide ((r : Int) = 34 ∨ (r : Int) = 92) = mkR r := by
  rw [Bool.eq_iff_iff, decide_eq_true_iff]; simp only [mkR, Bool.or_eq_true, beq_iff_eq]; omega
set_option maxRecDepth 100000 in
set_option maxHeartbeats 2000000 in
theorem quote_any (s : ByteArray) (hs : s.size ≤ 1000000) (w : World) :
    Calls Tryz.prog 146 #[.string s] w fun e w' => e = .returned (.tuple #[.string (qtS s), .int .i64 (ckE s)]) ∧ Below w.heap.size w w' := by
  have c1 := fun w => check_any s hs w
  rcases ckE_or s with hE | hE
  · have hqr : qr (ps s 0) = mk s.data.toList := qr_good _ ((ckE_good s).1 hE)
    have HQ : Hid ((⟨(34 :: qr (ps s 0) ++ [34]).toArray⟩ : ByteArray) = qtS s) := Lib.hid (by unfold qtS qt; rw [if_pos hE, hqr]; rfl)
    simp only [hE] at c1 ⊢
    have C1 := Lib.hid c1
    clear c1 hqr
    go_enter Tryz.func146, Tryz.ntmps146
    go_wp2_with (first
      | (go_at_call 87; (with_reducible refine (C1.out _).mono ?_); rintro e w1 ⟨rfl, p1⟩)
      | (go_at_call 172; (with_reducible refine (writeByte_r w _ w.heap.size _ [] 34 34 rfl (bldR_new w w1 p1 _ rfl) (by decide)).mono ?_); rintro e w2 ⟨rfl, h2, k2⟩)
      | fail)
    have hbk : w1.heap.size < w2.heap.size := h2.lt
    go_loopw [] (fun wr => ∃ (pos : Nat) (acc : List UInt8), wr.heap[w2.heap.size]? = some (.stringIter s pos) ∧ BldR w w.heap.size w1.heap.size acc wr ∧ acc ++ qr (ps s pos) = 34 :: qr (ps s 0) ∧ pos ≤ s.size ∧ acc.length ≤ 5 * pos + 1) (fun wr => s.size - wr.iterPos w2.heap.size)
    case atStart => exact ⟨0, [34], World.iter_heap w2 s 0, h2.alloc _, rfl, Nat.zero_le _, Nat.le_refl _⟩
    case round =>
      obtain ⟨pos, acc, hit, hI, hc, hp0, hal⟩ := hrel
      by_cases hp : pos < s.size
      · have hnx : ∀ ty, (Instr.next (.pointer (some ⟨w2.heap.size, 0, none⟩)) true ty).run Tryz.prog wr = _ := fun ty => Lib.run_next_any_at wr w2.heap.size s pos ty hit hp
        have hwd := ps_width s pos hp
        have hd1 := decode_le s pos
        have hm0 : wr.iterPos w2.heap.size = pos := by simp [World.iterPos, hit]
        have hI2 := hI.iterAt hit (by have := h2.2.2; omega) (pos + (Utf8.decode s pos).2)
        have hit2 := Lib.iterAt_heap wr w2.heap.size s pos (pos + (Utf8.decode s pos).2) hit
        have he4 := encodeRune_le ((Utf8.decode s pos).1 : Int)
        rw [ps_step s pos hp, qr] at hc
        have HI := Lib.hid hI2
        have HT := Lib.hid hit2
        have HE4 := Lib.hid he4
        clear hI hI2 hit2 he4
        cases hmk : mkR (Utf8.decode s pos).1 with
        | true =>
          have hdm : decide (((Utf8.decode s pos).1 : Int) = 34 ∨ ((Utf8.decode s pos).1 : Int) = 92) = true := by rw [mkR_dec, hmk]
          rw [hmk, if_pos rfl] at hc
          have HC : Hid ((acc ++ [92] ++ Lib.encodeRune ((Utf8.decode s pos).1 : Int)) ++ qr (ps s (pos + (Utf8.decode s pos).2)) = 34 :: qr (ps s 0)) := Lib.hid (by rw [← hc]; simp)
          clear hc hmk
          go_wp2_with (first
            | (go_at_call 166; (with_reducible refine (isMark_any _ _).mono ?_); rintro e w' ⟨rfl, rfl⟩)
            | (go_at_call 172; (with_reducible refine (writeByte_r _ _ _ _ acc 92 92 rfl HI.out (by omega)).mono ?_); rintro e w3 ⟨rfl, h3, k3⟩)
            | (go_at_call 167; (with_reducible refine (writeRune_r _ _ _ _ (acc ++ [92]) _ (by omega) (by omega) h3 (by simp only [List.length_append, List.length_singleton]; omega)).mono ?_); rintro e w4 ⟨rfl, h4, k4⟩)
            | fail)
          have ht4 := k4.iter (k3.iter HT.out (by omega)) (by omega)
          refine ⟨⟨_, _, ht4, h4, HC.out, hwd.2.1, by have := HE4.out; simp only [List.length_append, List.length_singleton]; omega⟩, ?_⟩
          rw [hm0]; simp only [World.iterPos, ht4]; omega
        | false =>
          have hdm : decide (((Utf8.decode s pos).1 : Int) = 34 ∨ ((Utf8.decode s pos).1 : Int) = 92) = false := by rw [mkR_dec, hmk]
          rw [hmk, if_neg (by simp)] at hc
          have HC : Hid ((acc ++ Lib.encodeRune ((Utf8.decode s pos).1 : Int)) ++ qr (ps s (pos + (Utf8.decode s pos).2)) = 34 :: qr (ps s 0)) := Lib.hid (by rw [← hc]; simp)
          clear hc hmk
          go_wp2_with (first
            | (go_at_call 166; (with_reducible refine (isMark_any _ _).mono ?_); rintro e w' ⟨rfl, rfl⟩)
            | (go_at_call 167; (with_reducible refine (writeRune_r _ _ _ _ acc _ (by omega) (by omega) HI.out (by omega)).mono ?_); rintro e w4 ⟨rfl, h4, k4⟩)
            | fail)
          have ht4 := k4.iter HT.out (by omega)
          refine ⟨⟨_, _, ht4, h4, HC.out, hwd.2.1, by have := HE4.out; simp only [List.length_append]; omega⟩, ?_⟩
          rw [hm0]; simp only [World.iterPos, ht4]; omega
      · have hnx : ∀ ty, (Instr.next (.pointer (some ⟨w2.heap.size, 0, none⟩)) true ty).run Tryz.prog wr = _ := fun ty => Lib.run_next_end_at wr w2.heap.size s pos ty hit hp
        rw [ps_end s pos hp, qr, List.append_nil] at hc
        obtain ⟨z, hz⟩ : ∃ z, acc ++ [34] = z := ⟨_, rfl⟩
        have HZ := Lib.hid hz
        have HA : Hid ((⟨z.toArray⟩ : ByteArray) = qtS s) := Lib.hid (by rw [← hz, hc]; exact HQ.out)
        have HI := Lib.hid hI
        clear hz hc hI
        go_wp2_with (first
          | (go_at_call 172; (with_reducible refine (writeByte_r _ _ _ _ acc 34 34 rfl HI.out (by omega)).mono ?_); rintro e w3 ⟨rfl, h3, k3⟩)
          | (go_at_call 22; (with_reducible refine (string_r _ _ _ _ z (bldR_eq h3 HZ.out)).mono ?_); rintro e w4 ⟨rfl, p4⟩)
          | fail)
        go_ret2
        exact ⟨ret_si HA.out rfl, p4⟩
  · have HA : Hid ((⟨#[]⟩ : ByteArray) = qtS s) := Lib.hid (by unfold qtS; rw [if_neg (by omega)])
    simp only [hE] at c1 ⊢
    have C1 := Lib.hid c1
    clear c1
    go_enter Tryz.func146, Tryz.ntmps146
    go_wp2_with (first | (go_at_call 87; (with_reducible refine (C1.out _).mono ?_); rintro e w1 ⟨rfl, p1⟩) | fail)
    go_ret2
    exact ⟨ret_si HA.out rfl, p1⟩
end Go.Proofs.YtdkngidangfkiaaGreatDoor.Runes
namespace Go.Proofs.YtdkngidangfkiaaGreatDoor.Runes
open Go.RowKit
open Base Bld
set_option linter.unusedVariables false
def umS (s : ByteArray) : ByteArray := ⟨((unR (ps s 0) false).getD []).toArray⟩
def umE (s : ByteArray) : Int := if (unR (ps s 0) false).isSome = true then 0 else 50
theorem um_no {s : ByteArray} (h : unR (ps s 0) false = none) : ⟨#[]⟩ = umS s ∧ 50 = umE s := by unfold umS umE; rw [h]; exact ⟨rfl, rfl⟩
theorem um_yes {s : ByteArray} {u : List UInt8} (h : unR (ps s 0) false = some u) : ⟨u.toArray⟩ = umS s ∧ 0 = umE s := by unfold umS umE; rw [h]; exact ⟨rfl, rfl⟩
set_option maxRecDepth 100000 in
set_option maxHeartbeats 2000000 in
theorem unmark_any (s : ByteArray) (hs : s.size ≤ 1000000) (w : World) :
    Calls Tryz.prog 136 #[.string s] w fun e w' => e = .returned (.tuple #[.string (umS s), .int .i64 (umE s)]) ∧ Below w.heap.size w w' := by
  go_enter Tryz.func136, Tryz.ntmps136
  go_wp2
  go_loopw [5] (fun m wr => ∃ (pos : Nat) (acc : List UInt8) (mb : Bool), m = .bool mb ∧ wr.heap[w.heap.size + 1]? = some (.stringIter s pos) ∧ BldR w w.heap.size w.heap.size acc wr ∧ (unR (ps s pos) mb).map (acc ++ ·) = unR (ps s 0) false ∧ pos ≤ s.size ∧ acc.length ≤ 4 * pos) (fun _ wr => s.size - wr.iterPos (w.heap.size + 1))
  case atStart =>
    refine ⟨0, [], false, rfl, ?_, (bldR_new w w (Below.refl _ _) _ rfl).alloc _, by simp, Nat.zero_le _, Nat.le_refl _⟩
    have := World.iter_heap (w.alloc (.cells #[.pointer none, .slice none 0 0] 46)) s 0
    simpa using this
  case round =>
    obtain ⟨pos, acc, mb, rfl, hit, hI, hc, hp0, hal⟩ := hrel
    by_cases hp : pos < s.size
    · have hnx : ∀ ty, (Instr.next (.pointer (some ⟨w.heap.size + 1, 0, none⟩)) true ty).run Tryz.prog wr = _ := fun ty => Lib.run_next_any_at wr (w.heap.size + 1) s pos ty hit hp
      have hwd := ps_width s pos hp
      have hd1 := decode_le s pos
      have hm0 : wr.iterPos (w.heap.size + 1) = pos := by simp [World.iterPos, hit]
      have hI2 := hI.iterAt hit (by omega) (pos + (Utf8.decode s pos).2)
      have hit2 := Lib.iterAt_heap wr (w.heap.size + 1) s pos (pos + (Utf8.decode s pos).2) hit
      have he4 := encodeRune_le ((Utf8.decode s pos).1 : Int)
      have hdm := mkR_dec (Utf8.decode s pos).1
      rw [ps_step s pos hp, unR] at hc
      have HI := Lib.hid hI2
      have HT := Lib.hid hit2
      have HE4 := Lib.hid he4
      have HB : Hid (Below w.heap.size w (wr.iterAt (w.heap.size + 1) s (pos + (Utf8.decode s pos).2))) := Lib.hid hI2.2.1
      have hm2 : (wr.iterAt (w.heap.size + 1) s (pos + (Utf8.decode s pos).2)).iterPos (w.heap.size + 1) = pos + (Utf8.decode s pos).2 := by simp [World.iterPos, hit2]
      have HM2 := Lib.hid hm2
      clear hI hI2 hit2 he4 hm2
      cases mb with
      | false =>
        by_cases h92 : (Utf8.decode s pos).1 = 92
        · rw [if_pos ⟨h92, rfl⟩] at hc
          have HC := Lib.hid hc
          have hb1 : (((Utf8.decode s pos).1 : Int) == 92) = true := by rw [beq_iff_eq]; omega
          clear hc hdm
          go_wp2
          refine ⟨⟨_, acc, true, rfl, HT.out, HI.out, HC.out, hwd.2.1, by omega⟩, ?_⟩
          rw [hm0, HM2.out]; omega
        · have hb1 : (((Utf8.decode s pos).1 : Int) == 92) = false := by rw [beq_eq_false_iff_ne]; omega
          rw [if_neg (fun x => h92 x.1)] at hc
          cases hmk : mkR (Utf8.decode s pos).1 with
          | true =>
            rw [hmk, if_pos (by simp)] at hc
            rw [hmk] at hdm
            have HA := Lib.hid (um_no hc.symm)
            clear hc hmk
            go_wp2_with (first
              | (go_at_call 166; (with_reducible refine (isMark_any _ _).mono ?_); rintro e w' ⟨rfl, rfl⟩)
              | fail)
            go_ret2
            exact ⟨ret_si HA.out.1 HA.out.2, HB.out⟩
          | false =>
            rw [hmk, if_neg (by simp)] at hc
            rw [hmk] at hdm
            have HC : Hid ((unR (ps s (pos + (Utf8.decode s pos).2)) false).map ((acc ++ Lib.encodeRune ((Utf8.decode s pos).1 : Int)) ++ ·) = unR (ps s 0) false) := Lib.hid (by rw [← hc, Option.map_map]; congr 1; funext x; simp)
            clear hc hmk
            go_wp2_with (first
              | (go_at_call 166; (with_reducible refine (isMark_any _ _).mono ?_); rintro e w' ⟨rfl, rfl⟩)
              | (go_at_call 167; (with_reducible refine (writeRune_r _ _ _ _ acc _ (by omega) (by omega) HI.out (by omega)).mono ?_); rintro e w4 ⟨rfl, h4, k4⟩)
              | fail)
            have ht4 := k4.iter HT.out (by omega)
            refine ⟨⟨_, _, false, rfl, ht4, h4, HC.out, hwd.2.1, by have := HE4.out; simp only [List.length_append]; omega⟩, ?_⟩
            rw [hm0]; simp only [World.iterPos, ht4]; omega
      | true =>
        rw [if_neg (by simp)] at hc
        cases hmk : mkR (Utf8.decode s pos).1 with
        | false =>
          have hb1 : (((Utf8.decode s pos).1 : Int) == 92) = false := by rw [beq_eq_false_iff_ne]; intro h; simp only [mkR, Bool.or_eq_false_iff, beq_eq_false_iff_ne] at hmk; omega
          rw [hmk, if_pos (by simp)] at hc
          rw [hmk] at hdm
          have HA := Lib.hid (um_no hc.symm)
          clear hc hmk
          go_wp2_with (first
            | (go_at_call 166; (with_reducible refine (isMark_any _ _).mono ?_); rintro e w' ⟨rfl, rfl⟩)
            | fail)
          go_ret2
          exact ⟨ret_si HA.out.1 HA.out.2, HB.out⟩
        | true =>
          rw [hmk, if_neg (by simp)] at hc
          rw [hmk] at hdm
          have HC : Hid ((unR (ps s (pos + (Utf8.decode s pos).2)) false).map ((acc ++ Lib.encodeRune ((Utf8.decode s pos).1 : Int)) ++ ·) = unR (ps s 0) false) := Lib.hid (by rw [← hc, Option.map_map]; congr 1; funext x; simp)
          clear hc hmk
          by_cases h92 : (Utf8.decode s pos).1 = 92
          · have hb1 : (((Utf8.decode s pos).1 : Int) == 92) = true := by rw [beq_iff_eq]; omega
            have hr : ((Utf8.decode s pos).1 : Int) = 92 := by omega
            rw [hr] at HC HE4
            clear hdm
            go_wp2_with (first
              | (go_at_call 166; (with_reducible refine (isMark_any _ _).mono ?_); rintro e w' ⟨rfl, rfl⟩)
              | (go_at_call 167; (with_reducible refine (writeRune_r _ _ _ _ acc 92 (by omega) (by omega) HI.out (by omega)).mono ?_); rintro e w4 ⟨rfl, h4, k4⟩)
              | fail)
            have ht4 := k4.iter HT.out (by omega)
            refine ⟨⟨_, _, false, rfl, ht4, h4, HC.out, hwd.2.1, by have := HE4.out; simp only [List.length_append]; omega⟩, ?_⟩
            rw [hm0]; simp only [World.iterPos, ht4]; omega
          · have hb1 : (((Utf8.decode s pos).1 : Int) == 92) = false := by rw [beq_eq_false_iff_ne]; omega
            go_wp2_with (first
              | (go_at_call 166; (with_reducible refine (isMark_any _ _).mono ?_); rintro e w' ⟨rfl, rfl⟩)
              | (go_at_call 167; (with_reducible refine (writeRune_r _ _ _ _ acc _ (by omega) (by omega) HI.out (by omega)).mono ?_); rintro e w4 ⟨rfl, h4, k4⟩)
              | fail)
            have ht4 := k4.iter HT.out (by omega)
            refine ⟨⟨_, _, false, rfl, ht4, h4, HC.out, hwd.2.1, by have := HE4.out; simp only [List.length_append]; omega⟩, ?_⟩
            rw [hm0]; simp only [World.iterPos, ht4]; omega
    · have hnx : ∀ ty, (Instr.next (.pointer (some ⟨w.heap.size + 1, 0, none⟩)) true ty).run Tryz.prog wr = _ := fun ty => Lib.run_next_end_at wr (w.heap.size + 1) s pos ty hit hp
      rw [ps_end s pos hp, unR] at hc
      have HI := Lib.hid hI
      clear hI
      cases mb with
      | true =>
        have HA := Lib.hid (um_no (s := s) (by rw [← hc]; rfl))
        clear hc
        go_wp2
        go_ret2
        exact ⟨ret_si HA.out.1 HA.out.2, HI.out.2.1⟩
      | false =>
        have HA := Lib.hid (um_yes (s := s) (u := acc) (by rw [← hc]; simp))
        clear hc
        go_wp2_with (first
          | (go_at_call 22; (with_reducible refine (string_r _ _ _ _ acc HI.out).mono ?_); rintro e w4 ⟨rfl, p4⟩)
          | fail)
        go_ret2
        exact ⟨ret_si HA.out.1 HA.out.2, p4⟩
theorem hasPrefix_one (l : List UInt8) : Lib.hasPrefix l [34] = (l.head? == some 34) := by
  cases l with
  | nil => rfl
  | cons b t =>
    unfold Lib.hasPrefix
    simp only [List.isPrefixOf, Bool.and_true, List.head?_cons]
    rw [Bool.eq_iff_iff, beq_iff_eq, beq_iff_eq, Option.some.injEq]
    exact eq_comm
theorem hasSuffix_one (l : List UInt8) : Lib.hasSuffix l [34] = (l.getLast? == some 34) := by
  rw [List.getLast?_eq_head?_reverse, ← hasPrefix_one]
  rfl
theorem cut_first {l : List UInt8} (h : (l.head? == some 34) = true) : Lib.trimPrefix l [34] = l.tail := by
  unfold Lib.trimPrefix; rw [hasPrefix_one, if_pos h]; exact List.drop_one
theorem cut_last {l : List UInt8} (h : (l.getLast? == some 34) = true) : Lib.trimSuffix l [34] = l.dropLast := by
  unfold Lib.trimSuffix; rw [hasSuffix_one, if_pos h, List.dropLast_eq_take]; rfl
theorem um_uq {s : ByteArray} (hE : ckE s = 0) (hs : shut s.data.toList = true) : umS ⟨(inner s.data.toList).toArray⟩ = uqS s ∧ umE ⟨(inner s.data.toList).toArray⟩ = uqE s := by
  have hg := good_inner hs ((ckE_good s).1 hE)
  have e : unR (ps ⟨(inner s.data.toList).toArray⟩ 0) false = uq s.data.toList := by
    unfold uq
    rw [if_pos hs, ps_zero, ofList_data, un_good _ hg]
  unfold umS umE uqS uqE
  rw [e, if_pos hE, if_pos hE]
  exact ⟨rfl, rfl⟩
theorem uq_unshut {s : ByteArray} (hE : ckE s = 0) (hs : shut s.data.toList = false) : ⟨#[]⟩ = uqS s ∧ 50 = uqE s :=
  uq_no hE (by unfold uq; rw [hs]; rfl)
abbrev x34 : ByteArray := ⟨#[34]⟩
theorem cutPrefix_one (s : ByteArray) (w : World) :
    Calls Tryz.prog 134 #[.string s, .string x34] w fun e w' => e = .returned (.tuple #[.string ⟨(Lib.trimPrefix s.data.toList [34]).toArray⟩, .bool (s.data.toList.head? == some 34)]) ∧ w' = w := by
  rw [← hasPrefix_one]; exact cutPrefix_at s ⟨#[34]⟩ w
theorem cutSuffix_one (s : ByteArray) (w : World) (h : s.size ≤ 9223372036854775807) :
    Calls Tryz.prog 135 #[.string s, .string x34] w fun e w' => e = .returned (.tuple #[.string ⟨(Lib.trimSuffix s.data.toList [34]).toArray⟩, .bool (s.data.toList.getLast? == some 34)]) ∧ w' = w := by
  rw [← hasSuffix_one]; exact cutSuffix_at s ⟨#[34]⟩ w h
set_option maxRecDepth 100000 in
set_option maxHeartbeats 2000000 in
theorem unquote_any (s : ByteArray) (hs : s.size ≤ 1000000) (w : World) :
    Calls Tryz.prog 95 #[.string s] w fun e w' => e = .returned (.tuple #[.string (uqS s), .int .i64 (uqE s)]) ∧ Below w.heap.size w w' := by
  have c1 := fun w => check_any s hs w
  rcases ckE_or s with hE | hE
  · simp only [hE] at c1
    have C1 := Lib.hid c1
    clear c1
    have c2 := fun w => cutPrefix_one s w
    obtain ⟨t, ht⟩ : ∃ t : ByteArray, t = ⟨(Lib.trimPrefix s.data.toList [34]).toArray⟩ := ⟨_, rfl⟩
    have hts : t.size ≤ s.size := by
      rw [ht, Lib.size_eq, Lib.size_eq, ofList_data]; unfold Lib.trimPrefix; split
      · rw [List.length_drop]; omega
      · exact Nat.le_refl _
    have c3 := fun w => cutSuffix_one t w (by omega)
    obtain ⟨z, hz⟩ : ∃ z : ByteArray, z = ⟨(Lib.trimSuffix t.data.toList [34]).toArray⟩ := ⟨_, rfl⟩
    have hzs : z.size ≤ t.size := by
      rw [hz, Lib.size_eq, Lib.size_eq, ofList_data]; unfold Lib.trimSuffix; split
      · rw [List.length_take]; omega
      · exact Nat.le_refl _
    simp only [← ht] at c2
    simp only [← hz] at c3
    have hsh : shut s.data.toList = (s.data.toList.head? == some 34 && s.data.toList.tail.getLast? == some 34) := rfl
    cases ho : (s.data.toList.head? == some 34) with
    | false =>
      rw [ho, Bool.false_and] at hsh
      have HA := Lib.hid (uq_unshut hE hsh)
      simp only [ho] at c2
      have C2 := Lib.hid c2
      obtain ⟨b, hb⟩ : ∃ b, b = (t.data.toList.getLast? == some 34) := ⟨_, rfl⟩
      simp only [← hb] at c3
      have C3 := Lib.hid c3
      clear c2 c3 ht hts hz hzs ho hsh hE hb
      go_enter Tryz.func95, Tryz.ntmps95
      go_wp2_with (first
        | (go_at_call 87; (with_reducible refine (C1.out _).mono ?_); rintro e w1 ⟨rfl, p1⟩)
        | (go_at_call 134; (with_reducible refine (C2.out _).mono ?_); rintro e w2 ⟨rfl, rfl⟩)
        | (go_at_call 135; (with_reducible refine (C3.out _).mono ?_); rintro e w3 ⟨rfl, rfl⟩)
        | fail)
      go_ret2
      exact ⟨ret_si HA.out.1 HA.out.2, p1⟩
    | true =>
      rw [ho, Bool.true_and] at hsh
      have hta : t.data.toList = s.data.toList.tail := by rw [ht, ofList_data, cut_first ho]
      simp only [ho] at c2
      have C2 := Lib.hid c2
      rw [← hta] at hsh
      cases hc : (t.data.toList.getLast? == some 34) with
      | false =>
        rw [hc] at hsh
        have HA := Lib.hid (uq_unshut hE hsh)
        simp only [hc] at c3
        have C3 := Lib.hid c3
        clear c2 c3 ht hts hz hzs ho hsh hE hc hta
        go_enter Tryz.func95, Tryz.ntmps95
        go_wp2_with (first
          | (go_at_call 87; (with_reducible refine (C1.out _).mono ?_); rintro e w1 ⟨rfl, p1⟩)
          | (go_at_call 134; (with_reducible refine (C2.out _).mono ?_); rintro e w2 ⟨rfl, rfl⟩)
          | (go_at_call 135; (with_reducible refine (C3.out _).mono ?_); rintro e w3 ⟨rfl, rfl⟩)
          | fail)
        go_ret2
        exact ⟨ret_si HA.out.1 HA.out.2, p1⟩
      | true =>
        have hzi : z = ⟨(inner s.data.toList).toArray⟩ := by
          rw [hz, cut_last hc, hta]; rfl
        rw [hc] at hsh
        have hum := um_uq hE hsh
        rw [← hzi] at hum
        have c4 := fun w => unmark_any z (by omega) w
        simp only [hum.1, hum.2] at c4
        have C4 := Lib.hid c4
        simp only [hc] at c3
        have C3 := Lib.hid c3
        clear c2 c3 c4 ht hts hz hzs ho hsh hE hc hta hzi hum
        go_enter Tryz.func95, Tryz.ntmps95
        go_wp2_with (first
          | (go_at_call 87; (with_reducible refine (C1.out _).mono ?_); rintro e w1 ⟨rfl, p1⟩)
          | (go_at_call 134; (with_reducible refine (C2.out _).mono ?_); rintro e w2 ⟨rfl, rfl⟩)
          | (go_at_call 135; (with_reducible refine (C3.out _).mono ?_); rintro e w3 ⟨rfl, rfl⟩)
          | (go_at_call 136; (with_reducible refine (C4.out _).mono ?_); rintro e w4 ⟨rfl, p4⟩)
          | fail)
        go_ret2
        exact ⟨rfl, p4.from p1⟩
  · have HA := Lib.hid (uq_bad hE)
    simp only [hE] at c1
    have C1 := Lib.hid c1
    clear c1 hE
    go_enter Tryz.func95, Tryz.ntmps95
    go_wp2_with (first | (go_at_call 87; (with_reducible refine (C1.out _).mono ?_); rintro e w1 ⟨rfl, p1⟩) | fail)
    go_ret2
    exact ⟨ret_si HA.out.1 HA.out.2, p1⟩
end Go.Proofs.YtdkngidangfkiaaGreatDoor.Runes
namespace Go.Proofs.YtdkngidangfkiaaGreatDoor.Lex
open Go.RowKit
open Base Runes LexLib
set_option linter.unusedVariables false
set_option linter.unusedSimpArgs false
theorem first_rn (z : ByteArray) (h : 0 < z.size) : (Utf8.decode z 0).1 = (rn z).getD 0 0 := by
  unfold rn; rw [ps_step z 0 h]; rfl
theorem rn_pos {z : ByteArray} (h : rn z ≠ []) : 0 < z.size := by
  rcases Nat.eq_zero_or_pos z.size with h0 | h0
  · exfalso; apply h; unfold rn; rw [ps_end z 0 (by omega)]; rfl
  · exact h0
theorem idx_any (p : Nat → Bool) (s : ByteArray) : ∀ (f pos : Nat), s.size ≤ pos + f → (decide (0 ≤ Go.Lib.idxFuncFrom p true s f pos)) = ((ps s pos).map (·.1)).any p
  | f, pos, hf => by
    by_cases hp : pos < s.size
    · obtain ⟨g, rfl⟩ : ∃ g, f = g + 1 := ⟨f - 1, by omega⟩
      have hwd := ps_width s pos hp
      rw [ps_step s pos hp, List.map_cons, List.any_cons, Go.Lib.idxFuncFrom, if_pos hp]
      cases hq : p (Utf8.decode s pos).1 with
      | true => rw [if_pos rfl, Bool.true_or, decide_eq_true_iff]; omega
      | false => rw [if_neg (by simp), Bool.false_or]; exact idx_any p s g _ (by omega)
    · rw [ps_end s pos hp, Go.Lib.idxFuncFrom_end p true s f pos hp]; rfl
theorem hasSmall_any (z : ByteArray) (w : World) :
    Calls Tryz.prog 91 #[.string z, .func (.func 92) #[] #[]] w fun e w' => e = .returned (.bool (anyS (rn z))) ∧ Below w.heap.size w w' := by
  have h := containsFunc_any 92 (enters_of Tryz.func92 (by kernel_rfl) rfl) (fun r => decide (97 ≤ r ∧ r ≤ 122)) z w (fun W x hx hb => by
    refine (isSmall_any (x : Int) W).mono ?_
    rintro e w' ⟨rfl, rfl⟩
    refine ⟨ret_bool ?_, Below.refl _ _⟩
    rw [decide_eq_decide]; omega)
  rw [show decide (0 ≤ Go.Lib.idxFunc (fun r => decide (97 ≤ r ∧ r ≤ 122)) true z) = anyS (rn z) from idx_any _ z z.size 0 (by omega)] at h
  exact h
def pieV (r : Tok × Nat × Int) : Value := .tuple #[tokV r.1, .int .i64 (r.2.1 : Int), .int .i64 r.2.2]
set_option maxRecDepth 100000 in
set_option maxHeartbeats 4000000 in
theorem token_any (z : ByteArray) (hk : PieceOk z) (hs : z.size ≤ 1000000) (w : World) (hT : Tb w) :
    Calls Tryz.prog 62 #[.string z] w fun e w' => e = .returned (pieV (tokI z)) ∧ Below w.heap.size w w' := by
  obtain ⟨hne, h3s⟩ := hk
  have hpos := rn_pos hne
  have c1 := fun w => check_any z hs w
  have c2 := fun w hT => decode_any z hpos w hT
  simp only [first_rn z hpos] at c2
  obtain ⟨T, hTk⟩ : ∃ T, T = tokI z := ⟨_, rfl⟩
  rw [← hTk]
  unfold tokI at hTk
  obtain ⟨F, hF⟩ : ∃ F, F = (rn z).getD 0 0 := ⟨_, rfl⟩
  rw [← hF] at hTk h3s
  simp only [← hF] at c2
  have C2 := Lib.hid c2
  have HT := Lib.hid hT
  obtain ⟨K, hK⟩ : ∃ K, K = ckN z := ⟨_, rfl⟩
  obtain ⟨E, hE⟩ : ∃ E, E = ckE z := ⟨_, rfl⟩
  rw [← hK, ← hE] at hTk
  simp only [← hK, ← hE] at c1
  have C1 := Lib.hid c1
  clear c1 c2 hT hK hF
  by_cases hE0 : E = 0
  · have tE : (E != 0) = false := by rw [bne_eq_false_iff_eq]; exact hE0
    rw [if_neg (by omega)] at hTk
    have HS3 := Lib.hid h3s
    have HNE := Lib.hid hne
    have HE := Lib.hid (hE ▸ hE0 : ckE z = 0)
    clear h3s hne hE0 hE
    by_cases h1 : cls (F : Int) = 1
    · have t1 : (cls (F : Int) == 1) = true := by rw [beq_iff_eq]; exact h1
      rw [if_pos h1] at hTk
      have HK := Lib.hid hTk
      clear hTk
      go_enter Tryz.func62, Tryz.ntmps62
      go_wp2_with (first
        | (go_at_call 87; (with_reducible refine (C1.out _).mono ?_); rintro e w1 ⟨rfl, p1⟩)
        | (go_at_call 88; (with_reducible refine (C2.out _ ((HT.out.later (below_one _)).later p1)).mono ?_); rintro e w2 ⟨rfl, p2⟩; obtain ⟨⟨r0, r1, r2, r3⟩, f0, f1, f2, f3⟩ := tok_block rfl (p2.from p1))
        | (go_at_call 89; (with_reducible refine (class_any _ _).mono ?_); rintro e w' ⟨rfl, rfl⟩)
        | fail)
      obtain ⟨s0, s1, s2, s3⟩ := tok_set (.int .i64 0) (.string ⟨#[]⟩) (.int .i64 0) (.int .i64 0) r0 r1 r2 r3
      refine bodyPost_ret (v := pieV ((0, ⟨#[]⟩, 0, 0), 0, 0)) (by simp [results, Tryz.results62, go_sem, s0, s1, s2, s3, pieV, tokV]) rfl ⟨by rw [HK.out]; try first | rfl | simp [zT], ?_⟩
      exact below_set4 (Below.from (p2.from p1) (below_one _)) (Nat.le_refl _) _ _ _ _
    · have t1 : (cls (F : Int) == 1) = false := by rw [beq_eq_false_iff_ne]; exact h1
      rw [if_neg h1] at hTk
      by_cases h2 : cls (F : Int) = 2
      · have t2 : (cls (F : Int) == 2) = true := by rw [beq_iff_eq]; exact h2
        rw [if_pos h2] at hTk
        have HK := Lib.hid hTk
        clear hTk
        go_enter Tryz.func62, Tryz.ntmps62
        go_wp2_with (first
          | (go_at_call 87; (with_reducible refine (C1.out _).mono ?_); rintro e w1 ⟨rfl, p1⟩)
          | (go_at_call 88; (with_reducible refine (C2.out _ ((HT.out.later (below_one _)).later p1)).mono ?_); rintro e w2 ⟨rfl, p2⟩)
          | (go_at_call 89; (with_reducible refine (class_any _ _).mono ?_); rintro e w' ⟨rfl, rfl⟩)
          | (go_at_call 90; (with_reducible refine (lower_any z hs _).mono ?_); rintro e w3 ⟨rfl, p3⟩; obtain ⟨⟨r0, r1, r2, r3⟩, f0, f1, f2, f3⟩ := tok_block rfl (p3.from (p2.from p1)))
          | fail)
        obtain ⟨s0, s1, s2, s3⟩ := tok_set (.int .i64 1) (.string (lowS z)) (.int .i64 0) (.int .i64 0) r0 r1 r2 r3
        refine bodyPost_ret (v := pieV ((1, (lowS z), 0, 0), 0, 0)) (by simp [results, Tryz.results62, go_sem, s0, s1, s2, s3, pieV, tokV]) rfl ⟨by rw [HK.out]; try first | rfl | simp [zT], ?_⟩
        exact below_set4 (Below.from (p3.from (p2.from p1)) (below_one _)) (Nat.le_refl _) _ _ _ _
      · have t2 : (cls (F : Int) == 2) = false := by rw [beq_eq_false_iff_ne]; exact h2
        rw [if_neg h2] at hTk
        by_cases h3 : cls (F : Int) = 3
        · have t3 : (cls (F : Int) == 3) = true := by rw [beq_iff_eq]; exact h3
          rw [if_pos h3] at hTk
          have c3 := fun w => hasSmall_any z w
          cases hA : anyS (rn z) with
          | true =>
            rw [if_pos hA] at hTk
            simp only [hA] at c3
            have C3 := Lib.hid c3
            clear c3 hA
            have HK := Lib.hid hTk
            clear hTk
            go_enter Tryz.func62, Tryz.ntmps62
            go_wp2_with (first
              | (go_at_call 87; (with_reducible refine (C1.out _).mono ?_); rintro e w1 ⟨rfl, p1⟩)
              | (go_at_call 88; (with_reducible refine (C2.out _ ((HT.out.later (below_one _)).later p1)).mono ?_); rintro e w2 ⟨rfl, p2⟩)
              | (go_at_call 89; (with_reducible refine (class_any _ _).mono ?_); rintro e w' ⟨rfl, rfl⟩)
              | (go_at_call 91; (with_reducible refine (C3.out _).mono ?_); rintro e w3 ⟨rfl, p3⟩)
              | (go_at_call 93; (with_reducible refine (strClone_any z hs _).mono ?_); rintro e w4 ⟨rfl, p4⟩; obtain ⟨⟨r0, r1, r2, r3⟩, f0, f1, f2, f3⟩ := tok_block rfl (p4.from (p3.from (p2.from p1))))
              | fail)
            obtain ⟨s0, s1, s2, s3⟩ := tok_set (.int .i64 3) (.string z) (.int .i64 0) (.int .i64 0) r0 r1 r2 r3
            refine bodyPost_ret (v := pieV ((3, z, 0, 0), 0, 0)) (by simp [results, Tryz.results62, go_sem, s0, s1, s2, s3, pieV, tokV]) rfl ⟨by rw [HK.out]; try first | rfl | simp [zT], ?_⟩
            exact below_set4 (Below.from (p4.from (p3.from (p2.from p1))) (below_one _)) (Nat.le_refl _) _ _ _ _
          | false =>
            rw [if_neg (by rw [hA]; simp)] at hTk
            have hd : DigR (rn z) := fun r hr => by
              have h5 := HS3.out h3 r hr
              unfold anyS at hA
              rw [List.any_eq_false] at hA
              have h6 := hA r hr
              rw [decide_eq_true_iff] at h6
              unfold smallR at h5
              rw [decide_eq_true_iff] at h5
              omega
            have hz : encB (rn z) = z := encB_rn (digR_good hd)
            have c4 := fun w hT => number_any (rn z) hd HNE.out (by rw [hz]; exact hs) w hT
            simp only [hz] at c4
            have hTk2 : T = ((2, ⟨#[]⟩, nI (rn z), 0), 0, nE (rn z)) := by
              rw [hTk]; unfold nI nE; split <;> rfl
            obtain ⟨a, ha⟩ : ∃ a, a = nI (rn z) := ⟨_, rfl⟩
            obtain ⟨x, hx⟩ : ∃ x, x = nE (rn z) := ⟨_, rfl⟩
            rw [← ha, ← hx] at hTk2
            simp only [← ha, ← hx] at c4
            simp only [hA] at c3
            have C3 := Lib.hid c3
            have C4 := Lib.hid c4
            clear c3 c4 hA ha hx hz hd hTk
            have hTk := hTk2
            clear hTk2
            have HK := Lib.hid hTk
            clear hTk
            go_enter Tryz.func62, Tryz.ntmps62
            go_wp2_with (first
              | (go_at_call 87; (with_reducible refine (C1.out _).mono ?_); rintro e w1 ⟨rfl, p1⟩)
              | (go_at_call 88; (with_reducible refine (C2.out _ ((HT.out.later (below_one _)).later p1)).mono ?_); rintro e w2 ⟨rfl, p2⟩)
              | (go_at_call 89; (with_reducible refine (class_any _ _).mono ?_); rintro e w' ⟨rfl, rfl⟩)
              | (go_at_call 91; (with_reducible refine (C3.out _).mono ?_); rintro e w3 ⟨rfl, p3⟩)
              | (go_at_call 94; (with_reducible refine (C4.out _ ((((HT.out.later (below_one _)).later p1).later p2).later p3)).mono ?_); rintro e w4 ⟨rfl, p4⟩; obtain ⟨⟨r0, r1, r2, r3⟩, f0, f1, f2, f3⟩ := tok_block rfl (p4.from (p3.from (p2.from p1))))
              | fail)
            obtain ⟨s0, s1, s2, s3⟩ := tok_set (.int .i64 2) (.string ⟨#[]⟩) (.int .i64 a) (.int .i64 0) r0 r1 r2 r3
            refine bodyPost_ret (v := pieV ((2, ⟨#[]⟩, a, 0), 0, x)) (by simp [results, Tryz.results62, go_sem, s0, s1, s2, s3, pieV, tokV]) rfl ⟨by rw [HK.out]; try first | rfl | simp [zT], ?_⟩
            exact below_set4 (Below.from (p4.from (p3.from (p2.from p1))) (below_one _)) (Nat.le_refl _) _ _ _ _
        · have t3 : (cls (F : Int) == 3) = false := by rw [beq_eq_false_iff_ne]; exact h3
          rw [if_neg h3] at hTk
          by_cases h34 : F = 34
          · have t34 : ((F : Int) == 34) = true := by rw [beq_iff_eq]; omega
            rw [if_pos h34] at hTk
            have c5 := fun w => unquote_any z hs w
            obtain ⟨us, hus⟩ : ∃ x, x = uqS z := ⟨_, rfl⟩
            obtain ⟨ue, hue⟩ : ∃ x, x = uqE z := ⟨_, rfl⟩
            rw [← hus, ← hue] at hTk
            simp only [← hus, ← hue] at c5
            have C5 := Lib.hid c5
            clear c5 hus hue
            have HK := Lib.hid hTk
            clear hTk
            go_enter Tryz.func62, Tryz.ntmps62
            go_wp2_with (first
              | (go_at_call 87; (with_reducible refine (C1.out _).mono ?_); rintro e w1 ⟨rfl, p1⟩)
              | (go_at_call 88; (with_reducible refine (C2.out _ ((HT.out.later (below_one _)).later p1)).mono ?_); rintro e w2 ⟨rfl, p2⟩)
              | (go_at_call 89; (with_reducible refine (class_any _ _).mono ?_); rintro e w' ⟨rfl, rfl⟩)
              | (go_at_call 95; (with_reducible refine (C5.out _).mono ?_); rintro e w3 ⟨rfl, p3⟩; obtain ⟨⟨r0, r1, r2, r3⟩, f0, f1, f2, f3⟩ := tok_block rfl (p3.from (p2.from p1)))
              | fail)
            obtain ⟨s0, s1, s2, s3⟩ := tok_set (.int .i64 4) (.string us) (.int .i64 0) (.int .i64 0) r0 r1 r2 r3
            refine bodyPost_ret (v := pieV ((4, us, 0, 0), 0, ue)) (by simp [results, Tryz.results62, go_sem, s0, s1, s2, s3, pieV, tokV]) rfl ⟨by rw [HK.out]; try first | rfl | simp [zT], ?_⟩
            exact below_set4 (Below.from (p3.from (p2.from p1)) (below_one _)) (Nat.le_refl _) _ _ _ _
          · have t34 : ((F : Int) == 34) = false := by rw [beq_eq_false_iff_ne]; omega
            rw [if_neg h34] at hTk
            by_cases hsg : F = 61 ∨ F = 58 ∨ F = 44 ∨ F = 45
            · have ts : decide ((F : Int) = 61 ∨ (F : Int) = 58 ∨ (F : Int) = 44 ∨ (F : Int) = 45) = true := by rw [decide_eq_true_iff]; omega
              rw [if_pos hsg] at hTk
              have HK := Lib.hid hTk
              clear hTk
              go_enter Tryz.func62, Tryz.ntmps62
              go_wp2_with (first
                | (go_at_call 87; (with_reducible refine (C1.out _).mono ?_); rintro e w1 ⟨rfl, p1⟩)
                | (go_at_call 88; (with_reducible refine (C2.out _ ((HT.out.later (below_one _)).later p1)).mono ?_); rintro e w2 ⟨rfl, p2⟩)
                | (go_at_call 89; (with_reducible refine (class_any _ _).mono ?_); rintro e w' ⟨rfl, rfl⟩)
                | (go_at_call 96; (with_reducible refine (isSign_any _ _).mono ?_); rintro e w' ⟨rfl, rfl⟩)
                | (go_at_call 93; (with_reducible refine (strClone_any z hs _).mono ?_); rintro e w4 ⟨rfl, p4⟩; obtain ⟨⟨r0, r1, r2, r3⟩, f0, f1, f2, f3⟩ := tok_block rfl (p4.from (p2.from p1)))
                | fail)
              obtain ⟨s0, s1, s2, s3⟩ := tok_set (.int .i64 5) (.string z) (.int .i64 0) (.int .i64 0) r0 r1 r2 r3
              refine bodyPost_ret (v := pieV ((5, z, 0, 0), 0, 0)) (by simp [results, Tryz.results62, go_sem, s0, s1, s2, s3, pieV, tokV]) rfl ⟨by rw [HK.out]; try first | rfl | simp [zT], ?_⟩
              exact below_set4 (Below.from (p4.from (p2.from p1)) (below_one _)) (Nat.le_refl _) _ _ _ _
            · have ts : decide ((F : Int) = 61 ∨ (F : Int) = 58 ∨ (F : Int) = 44 ∨ (F : Int) = 45) = false := by rw [decide_eq_false_iff_not]; omega
              rw [if_neg hsg] at hTk
              have HK := Lib.hid hTk
              clear hTk
              go_enter Tryz.func62, Tryz.ntmps62
              go_wp2_with (first
                | (go_at_call 87; (with_reducible refine (C1.out _).mono ?_); rintro e w1 ⟨rfl, p1⟩)
                | (go_at_call 88; (with_reducible refine (C2.out _ ((HT.out.later (below_one _)).later p1)).mono ?_); rintro e w2 ⟨rfl, p2⟩; obtain ⟨⟨r0, r1, r2, r3⟩, f0, f1, f2, f3⟩ := tok_block rfl (p2.from p1))
                | (go_at_call 89; (with_reducible refine (class_any _ _).mono ?_); rintro e w' ⟨rfl, rfl⟩)
                | (go_at_call 96; (with_reducible refine (isSign_any _ _).mono ?_); rintro e w' ⟨rfl, rfl⟩)
                | fail)
              obtain ⟨s0, s1, s2, s3⟩ := tok_set (.int .i64 0) (.string ⟨#[]⟩) (.int .i64 0) (.int .i64 0) r0 r1 r2 r3
              refine bodyPost_ret (v := pieV ((0, ⟨#[]⟩, 0, 0), 0, 50)) (by simp [results, Tryz.results62, go_sem, s0, s1, s2, s3, pieV, tokV]) rfl ⟨by rw [HK.out]; try first | rfl | simp [zT], ?_⟩
              exact below_set4 (Below.from (p2.from p1) (below_one _)) (Nat.le_refl _) _ _ _ _
  · have tE : (E != 0) = true := by rw [bne_iff_ne]; exact hE0
    rw [if_pos hE0] at hTk
    clear hE hE0
    have HK := Lib.hid hTk
    clear hTk
    go_enter Tryz.func62, Tryz.ntmps62
    go_wp2_with (first
      | (go_at_call 87; (with_reducible refine (C1.out _).mono ?_); rintro e w1 ⟨rfl, p1⟩; obtain ⟨⟨r0, r1, r2, r3⟩, f0, f1, f2, f3⟩ := tok_block rfl (p1))
      | fail)
    obtain ⟨s0, s1, s2, s3⟩ := tok_set (.int .i64 0) (.string ⟨#[]⟩) (.int .i64 0) (.int .i64 0) r0 r1 r2 r3
    refine bodyPost_ret (v := pieV ((0, ⟨#[]⟩, 0, 0), K, E)) (by simp [results, Tryz.results62, go_sem, s0, s1, s2, s3, pieV, tokV]) rfl ⟨by rw [HK.out]; try first | rfl | simp [zT], ?_⟩
    exact below_set4 (Below.from (p1) (below_one _)) (Nat.le_refl _) _ _ _ _
end Go.Proofs.YtdkngidangfkiaaGreatDoor.Lex
