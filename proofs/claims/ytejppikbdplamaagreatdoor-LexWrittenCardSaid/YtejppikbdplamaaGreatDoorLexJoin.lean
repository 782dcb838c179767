/-
  The walks of the document's own Check, Text and Join.
-/
import Derived.Test.YtejppikbdplamaaGreatDoorLexWrit
namespace Go.Proofs.YtejppikbdplamaaGreatDoor.Lex
open Go.RowKit
open Base Runes
set_option linter.unusedVariables false
set_option linter.unusedSimpArgs false

theorem digB_size (n : Int) : (digB n).size ≤ 20 := by
  unfold digB; split
  · exact Nat.zero_le _
  · rw [Lib.size_eq, ofList_data]; exact digF_length _ _
theorem qtS_size2 (s : ByteArray) : (qtS s).size ≤ 2 * s.size + 2 := by
  unfold qtS; split
  · rw [Lib.size_eq, ofList_data, Lib.size_eq]
    unfold qt
    have := mk_length s.data.toList
    rw [List.length_cons, List.length_append, List.length_singleton]; omega
  · exact Nat.zero_le _
theorem wrB_size (t : Tok) : (wrB t).size ≤ 2 * t.2.1.size + 20 := by
  unfold wrB; split
  · have := digB_size t.2.2.1; omega
  · split
    · have := qtS_size2 t.2.1; omega
    · omega

set_option maxRecDepth 100000 in
set_option maxHeartbeats 2000000 in
theorem rchk_any (k : Int) (s : ByteArray) (n a : Int) (hs : s.size ≤ 1000000) (hn : n ≤ 9223372036854775807) (w : World) :
    Calls Tryz.prog 11 #[tokV (k, s, n, a)] w fun e w' => e = .returned (.int .i64 (chE (k, s, n, a))) ∧ Below w.heap.size w w' := by
  have c1 := fun w => rwritten_any k s n a hs hn w
  obtain ⟨W, hW⟩ : ∃ W, W = wrB (k, s, n, a) := ⟨_, rfl⟩
  have hWs : W.size ≤ maxLen := by rw [hW]; have := wrB_size (k, s, n, a); dsimp only at this; unfold maxLen; omega
  have c2 := fun w => rtokens_any W hWs w
  obtain ⟨C, hC⟩ : ∃ C, C = chE (k, s, n, a) := ⟨_, rfl⟩
  obtain ⟨⟨L, N, E⟩, hA⟩ : ∃ A, A = tkA W := ⟨_, rfl⟩
  rw [← hC]
  unfold chE at hC
  rw [← hW, ← hA] at hC
  dsimp only at hC
  simp only [← hW] at c1
  simp only [← hA] at c2
  unfold LineSays at c2
  unfold tokV at c1 ⊢
  dsimp only at c1 c2 ⊢
  have C1 := Lib.hid c1
  have C2 := Lib.hid c2
  clear c1 c2 hA hW hWs
  by_cases hE : E = 0
  · subst hE
    rw [if_pos rfl] at hC
    by_cases hL : L.length = 1
    · obtain ⟨⟨k', s', n', a'⟩, rfl⟩ : ∃ x, L = [x] := by
        match L, hL with
        | [x], _ => exact ⟨x, rfl⟩
      dsimp only at hC
      by_cases e1 : k' = k
      · have t1 : (k' != k) = false := by rw [bne_eq_false_iff_eq]; exact e1
        by_cases e2 : s' = s
        · have t2 : (s'.toList == s.toList) = true := by rw [str_eq, decide_eq_true e2]
          by_cases e3 : n' = n
          · have t3 : (n' != n) = false := by rw [bne_eq_false_iff_eq]; exact e3
            rw [if_pos ⟨e1, e2, e3⟩] at hC
            have HC := Lib.hid hC
            clear hC e1 e2 e3 hL
            go_enter Tryz.func11, Tryz.ntmps11
            go_wp2_with (first
              | (go_at_call 18; (with_reducible refine (C1.out _).mono ?_); rintro e w1 ⟨rfl, p1⟩)
              | (go_at_call 19; (with_reducible refine (C2.out _).mono ?_); rintro e w2 ⟨ao, cap, rfl, hr, hz, hc1, hc2, p2⟩; obtain ⟨bb, bo, rfl, b0, b1, b2, b3⟩ := tok_cells (j := 0) hr (by simp); simp only [Nat.zero_mul, Nat.add_zero, List.getElem_cons_zero] at b0 b1 b2 b3; obtain ⟨⟨r0, r1, r2, r3⟩, _⟩ := tok_block rfl (p2.from p1); have q0 := cell_below r0 (below_one (.cells #[.int .i64 k', .string s', .int .i64 n', .int .i64 a'] 24)); have q1 := cell_below r1 (below_one (.cells #[.int .i64 k', .string s', .int .i64 n', .int .i64 a'] 24)); have q2 := cell_below r2 (below_one (.cells #[.int .i64 k', .string s', .int .i64 n', .int .i64 a'] 24)); clear hr r0 r1 r2 r3)
              | fail)
            go_ret
            refine ⟨ret_int HC.out.symm, ?_⟩
            (focus repeat (first | exact Below.refl _ _ | assumption | (exact Hid.out (by assumption)) | (with_reducible refine Below.drew ?_) | (with_reducible refine below_drewN ?_ _) | (refine Below.from (below_one _) ?_) | (refine Below.from (below_conv _ _ _) ?_) | (refine Below.setCell ?_ (by simp <;> omega) _) | (refine Below.from (by assumption) ?_)))
          · have t3 : (n' != n) = true := by rw [bne_iff_ne]; exact e3
            rw [if_neg (fun h => e3 h.2.2)] at hC
            have HC := Lib.hid hC
            clear hC e1 e2 e3 hL
            go_enter Tryz.func11, Tryz.ntmps11
            go_wp2_with (first
              | (go_at_call 18; (with_reducible refine (C1.out _).mono ?_); rintro e w1 ⟨rfl, p1⟩)
              | (go_at_call 19; (with_reducible refine (C2.out _).mono ?_); rintro e w2 ⟨ao, cap, rfl, hr, hz, hc1, hc2, p2⟩; obtain ⟨bb, bo, rfl, b0, b1, b2, b3⟩ := tok_cells (j := 0) hr (by simp); simp only [Nat.zero_mul, Nat.add_zero, List.getElem_cons_zero] at b0 b1 b2 b3; obtain ⟨⟨r0, r1, r2, r3⟩, _⟩ := tok_block rfl (p2.from p1); have q0 := cell_below r0 (below_one (.cells #[.int .i64 k', .string s', .int .i64 n', .int .i64 a'] 24)); have q1 := cell_below r1 (below_one (.cells #[.int .i64 k', .string s', .int .i64 n', .int .i64 a'] 24)); have q2 := cell_below r2 (below_one (.cells #[.int .i64 k', .string s', .int .i64 n', .int .i64 a'] 24)); clear hr r0 r1 r2 r3)
              | fail)
            go_ret
            refine ⟨ret_int HC.out.symm, ?_⟩
            (focus repeat (first | exact Below.refl _ _ | assumption | (exact Hid.out (by assumption)) | (with_reducible refine Below.drew ?_) | (with_reducible refine below_drewN ?_ _) | (refine Below.from (below_one _) ?_) | (refine Below.from (below_conv _ _ _) ?_) | (refine Below.setCell ?_ (by simp <;> omega) _) | (refine Below.from (by assumption) ?_)))
        · have t2 : (s'.toList == s.toList) = false := by rw [str_eq, decide_eq_false e2]
          rw [if_neg (fun h => e2 h.2.1)] at hC
          have HC := Lib.hid hC
          clear hC e1 e2 hL
          go_enter Tryz.func11, Tryz.ntmps11
          go_wp2_with (first
            | (go_at_call 18; (with_reducible refine (C1.out _).mono ?_); rintro e w1 ⟨rfl, p1⟩)
            | (go_at_call 19; (with_reducible refine (C2.out _).mono ?_); rintro e w2 ⟨ao, cap, rfl, hr, hz, hc1, hc2, p2⟩; obtain ⟨bb, bo, rfl, b0, b1, b2, b3⟩ := tok_cells (j := 0) hr (by simp); simp only [Nat.zero_mul, Nat.add_zero, List.getElem_cons_zero] at b0 b1 b2 b3; obtain ⟨⟨r0, r1, r2, r3⟩, _⟩ := tok_block rfl (p2.from p1); have q0 := cell_below r0 (below_one (.cells #[.int .i64 k', .string s', .int .i64 n', .int .i64 a'] 24)); have q1 := cell_below r1 (below_one (.cells #[.int .i64 k', .string s', .int .i64 n', .int .i64 a'] 24)); have q2 := cell_below r2 (below_one (.cells #[.int .i64 k', .string s', .int .i64 n', .int .i64 a'] 24)); clear hr r0 r1 r2 r3)
            | fail)
          go_ret
          refine ⟨ret_int HC.out.symm, ?_⟩
          (focus repeat (first | exact Below.refl _ _ | assumption | (exact Hid.out (by assumption)) | (with_reducible refine Below.drew ?_) | (with_reducible refine below_drewN ?_ _) | (refine Below.from (below_one _) ?_) | (refine Below.from (below_conv _ _ _) ?_) | (refine Below.setCell ?_ (by simp <;> omega) _) | (refine Below.from (by assumption) ?_)))
      · have t1 : (k' != k) = true := by rw [bne_iff_ne]; exact e1
        rw [if_neg (fun h => e1 h.1)] at hC
        have HC := Lib.hid hC
        clear hC e1 hL
        go_enter Tryz.func11, Tryz.ntmps11
        go_wp2_with (first
          | (go_at_call 18; (with_reducible refine (C1.out _).mono ?_); rintro e w1 ⟨rfl, p1⟩)
          | (go_at_call 19; (with_reducible refine (C2.out _).mono ?_); rintro e w2 ⟨ao, cap, rfl, hr, hz, hc1, hc2, p2⟩; obtain ⟨bb, bo, rfl, b0, b1, b2, b3⟩ := tok_cells (j := 0) hr (by simp); simp only [Nat.zero_mul, Nat.add_zero, List.getElem_cons_zero] at b0 b1 b2 b3; obtain ⟨⟨r0, r1, r2, r3⟩, _⟩ := tok_block rfl (p2.from p1); have q0 := cell_below r0 (below_one (.cells #[.int .i64 k', .string s', .int .i64 n', .int .i64 a'] 24)); have q1 := cell_below r1 (below_one (.cells #[.int .i64 k', .string s', .int .i64 n', .int .i64 a'] 24)); have q2 := cell_below r2 (below_one (.cells #[.int .i64 k', .string s', .int .i64 n', .int .i64 a'] 24)); clear hr r0 r1 r2 r3)
          | fail)
        go_ret
        refine ⟨ret_int HC.out.symm, ?_⟩
        (focus repeat (first | exact Below.refl _ _ | assumption | (exact Hid.out (by assumption)) | (with_reducible refine Below.drew ?_) | (with_reducible refine below_drewN ?_ _) | (refine Below.from (below_one _) ?_) | (refine Below.from (below_conv _ _ _) ?_) | (refine Below.setCell ?_ (by simp <;> omega) _) | (refine Below.from (by assumption) ?_)))
    · have hC2 : C = 50 := by
        rw [hC]
        match L, hL with
        | [], _ => rfl
        | x :: y :: t, _ => rfl
      have tl : ((L.length : Int) != 1) = true := by rw [bne_iff_ne]; omega
      have HC := Lib.hid hC2
      clear hC hC2 hL
      go_enter Tryz.func11, Tryz.ntmps11
      go_wp2_with (first
        | (go_at_call 18; (with_reducible refine (C1.out _).mono ?_); rintro e w1 ⟨rfl, p1⟩)
        | (go_at_call 19; (with_reducible refine (C2.out _).mono ?_); rintro e w2 ⟨ao, cap, rfl, hr, hz, hc1, hc2, p2⟩)
        | fail)
      go_ret
      refine ⟨ret_int HC.out.symm, ?_⟩
      (focus repeat (first | exact Below.refl _ _ | assumption | (exact Hid.out (by assumption)) | (with_reducible refine Below.drew ?_) | (with_reducible refine below_drewN ?_ _) | (refine Below.from (below_one _) ?_) | (refine Below.from (below_conv _ _ _) ?_) | (refine Below.setCell ?_ (by simp <;> omega) _) | (refine Below.from (by assumption) ?_)))
  · rw [if_neg hE] at hC
    have tE : (E != 0) = true := by rw [bne_iff_ne]; exact hE
    have HC := Lib.hid hC
    clear hC hE
    go_enter Tryz.func11, Tryz.ntmps11
    go_wp2_with (first
      | (go_at_call 18; (with_reducible refine (C1.out _).mono ?_); rintro e w1 ⟨rfl, p1⟩)
      | (go_at_call 19; (with_reducible refine (C2.out _).mono ?_); rintro e w2 ⟨ao, cap, rfl, hr, hz, hc1, hc2, p2⟩)
      | fail)
    go_ret
    refine ⟨ret_int HC.out.symm, ?_⟩
    (focus repeat (first | exact Below.refl _ _ | assumption | (exact Hid.out (by assumption)) | (with_reducible refine Below.drew ?_) | (with_reducible refine below_drewN ?_ _) | (refine Below.from (below_one _) ?_) | (refine Below.from (below_conv _ _ _) ?_) | (refine Below.setCell ?_ (by simp <;> omega) _) | (refine Below.from (by assumption) ?_)))

theorem txS_yes {t : Tok} (h : chE t = 0) : wrB t = txS t := by unfold txS; rw [if_pos h]
theorem txS_no {t : Tok} (h : chE t = 50) : ⟨#[]⟩ = txS t := by unfold txS; rw [if_neg (by omega)]

set_option maxRecDepth 100000 in
set_option maxHeartbeats 2000000 in
theorem rtxt_any (k : Int) (s : ByteArray) (n a : Int) (hs : s.size ≤ 1000000) (hn : n ≤ 9223372036854775807) (w : World) :
    Calls Tryz.prog 9 #[tokV (k, s, n, a)] w fun e w' => e = .returned (.tuple #[.string (txS (k, s, n, a)), .int .i64 (chE (k, s, n, a))]) ∧ Below w.heap.size w w' := by
  have c1 := fun w => rchk_any k s n a hs hn w
  have c2 := fun w => rwritten_any k s n a hs hn w
  rcases chE_or (k, s, n, a) with hC | hC
  · have HT := Lib.hid (txS_yes hC)
    simp only [hC] at c1 ⊢
    unfold tokV at c1 c2 ⊢
    dsimp only at c1 c2 ⊢
    have C1 := Lib.hid c1
    have C2 := Lib.hid c2
    clear c1 c2 hC
    go_enter Tryz.func9, Tryz.ntmps9
    go_wp2_with (first
      | (go_at_call 11; (with_reducible refine (C1.out _).mono ?_); rintro e w1 ⟨rfl, p1⟩; obtain ⟨⟨r0, r1, r2, r3⟩, _⟩ := tok_block rfl p1)
      | (go_at_call 18; (with_reducible refine (C2.out _).mono ?_); rintro e w2 ⟨rfl, p2⟩)
      | fail)
    go_ret2
    refine ⟨ret_si HT.out rfl, ?_⟩
    (focus repeat (first | exact Below.refl _ _ | assumption | (exact Hid.out (by assumption)) | (with_reducible refine Below.drew ?_) | (with_reducible refine below_drewN ?_ _) | (refine Below.from (below_one _) ?_) | (refine Below.from (below_conv _ _ _) ?_) | (refine Below.setCell ?_ (by simp <;> omega) _) | (refine Below.from (by assumption) ?_)))
  · have HT := Lib.hid (txS_no hC)
    simp only [hC] at c1 ⊢
    unfold tokV at c1 ⊢
    dsimp only at c1 ⊢
    have C1 := Lib.hid c1
    clear c1 c2 hC
    go_enter Tryz.func9, Tryz.ntmps9
    go_wp2_with (first
      | (go_at_call 11; (with_reducible refine (C1.out _).mono ?_); rintro e w1 ⟨rfl, p1⟩)
      | fail)
    go_ret2
    refine ⟨ret_si HT.out rfl, ?_⟩
    (focus repeat (first | exact Below.refl _ _ | assumption | (exact Hid.out (by assumption)) | (with_reducible refine Below.drew ?_) | (with_reducible refine below_drewN ?_ _) | (refine Below.from (below_one _) ?_) | (refine Below.from (below_conv _ _ _) ?_) | (refine Below.setCell ?_ (by simp <;> omega) _) | (refine Below.from (by assumption) ?_)))

/-! Tokens joined. -/

def jnF : List Tok → ByteArray → Bool → ByteArray × Int
  | [], out, _ => if 400 < out.size then (⟨#[]⟩, 3) else (out, 0)
  | t :: l, out, first => if chE t = 0 then jnF l ((if first = true then out else out ++ ⟨#[32]⟩) ++ wrB t) false else (⟨#[]⟩, 50)
def jn (l : List Tok) : ByteArray × Int := jnF l ⟨#[]⟩ true

set_option maxRecDepth 100000 in
set_option maxHeartbeats 4000000 in
theorem rjoin_any (ao : Option Addr) (cap : Nat) (l : List Tok) (w : World) (hl : l.length ≤ 10000) (hz : ∀ t ∈ l, t.2.1.size ≤ 100000 ∧ t.2.2.1 ≤ 9223372036854775807) (hr : ReadsS 4 tkC w ao l) :
    Calls Tryz.prog 7 #[.slice ao l.length cap] w fun e w' => e = .returned (.tuple #[.string (jn l).1, .int .i64 (jn l).2]) ∧ Below w.heap.size w w' := by
  have HR := Lib.hid hr
  have HZ := Lib.hid hz
  clear hr hz
  obtain ⟨J, hJ⟩ : ∃ J, J = jn l := ⟨_, rfl⟩
  rw [← hJ]
  have HJ := Lib.hid hJ
  clear hJ
  go_enter Tryz.func7, Tryz.ntmps7
  go_wp2
  go_loopw [4, 5] (fun v i wr => ∃ (k : Nat) (out : ByteArray), i = .int .i64 (k : Int) ∧ v = .string out ∧ k ≤ l.length ∧ out.size ≤ k * 300000 ∧ jnF (l.drop k) out (decide (k = 0)) = J ∧ Below w.heap.size w wr) (fun _ i _ => l.length - (intOf i).toNat)
  case atStart => exact ⟨0, ⟨#[]⟩, rfl, rfl, Nat.zero_le _, Nat.zero_le _, HJ.out.symm, Below.refl _ _⟩
  case round =>
    obtain ⟨k, out, rfl, rfl, hk, hos, hj, hb⟩ := hrel
    have HB := Lib.hid hb
    by_cases hp : k < l.length
    · obtain ⟨bb, bo, rfl, b0, b1, b2, b3⟩ := tok_cells (HR.out.below tkC_length hb) hp
      have hzz := HZ.out l[k] (List.getElem_mem hp)
      obtain ⟨⟨k1, s1, n1, q1⟩, hX⟩ : ∃ X : Tok, X = l[k] := ⟨_, rfl⟩
      rw [List.drop_eq_getElem_cons hp, jnF] at hj
      rw [← hX] at b0 b1 b2 b3 hj hzz
      dsimp only at b0 b1 b2 b3 hzz
      have hws := wrB_size (k1, s1, n1, q1)
      dsimp only at hws
      have c1 := fun w => rtxt_any k1 s1 n1 q1 (by omega) hzz.2 w
      have hlow : (0 : Int) ≤ (k : Int) := by omega
      have hup : (k : Int) < ((l.length : Nat) : Int) := by omega
      clear hb hX
      rcases chE_or (k1, s1, n1, q1) with hC | hC
      · rw [if_pos hC] at hj
        have ht := txS_yes hC
        obtain ⟨W, hW⟩ : ∃ W, W = wrB (k1, s1, n1, q1) := ⟨_, rfl⟩
        rw [← hW] at ht hj hws
        simp only [hC, ← ht] at c1
        unfold tokV at c1
        dsimp only at c1
        have C1 := Lib.hid c1
        clear c1 hC ht hW
        by_cases hk0 : k = 0
        · rw [if_pos (by rw [decide_eq_true hk0])] at hj
          have HJJ := Lib.hid hj
          have ht0 : decide ((0 : Int) < (k : Int)) = false := by rw [decide_eq_false_iff_not]; omega
          have HK0 := Lib.hid hk0
          clear hj hk0
          go_wp2_with (first | (go_at_call 9; (with_reducible refine (C1.out _).mono ?_); rintro e w1 ⟨rfl, p1⟩) | fail)
          all_goals first | (exfalso; have := HK0.out; omega) | skip
          refine ⟨⟨k + 1, out ++ W, by go_num, rfl, by omega, by rw [ByteArray.size_append]; omega, by rw [decide_eq_false (by omega)]; exact HJJ.out, p1.from HB.out⟩, ?_⟩
          simp [intOf]; omega
        · rw [if_neg (by rw [decide_eq_false hk0]; simp)] at hj
          have HJJ := Lib.hid hj
          have ht0 : decide ((0 : Int) < (k : Int)) = true := by rw [decide_eq_true_iff]; omega
          clear hj
          go_wp2_with (first | (go_at_call 9; (with_reducible refine (C1.out _).mono ?_); rintro e w1 ⟨rfl, p1⟩) | fail)
          have h32 : (⟨#[32]⟩ : ByteArray).size = 1 := rfl
          refine ⟨⟨k + 1, out ++ ⟨#[32]⟩ ++ W, by go_num, rfl, by omega, by rw [ByteArray.size_append, ByteArray.size_append, h32]; omega, by rw [decide_eq_false (by omega)]; exact HJJ.out, p1.from HB.out⟩, ?_⟩
          simp [intOf]; omega
      · rw [if_neg (by omega)] at hj
        have ht := txS_no hC
        simp only [hC, ← ht] at c1
        unfold tokV at c1
        dsimp only at c1
        have C1 := Lib.hid c1
        have HJJ := Lib.hid hj
        clear c1 hC ht hj
        go_wp2_with (first | (go_at_call 9; (with_reducible refine (C1.out _).mono ?_); rintro e w1 ⟨rfl, p1⟩) | fail)
        go_ret2
        rw [← HJJ.out]
        exact ⟨rfl, p1.from HB.out⟩
    · rw [List.drop_eq_nil_of_le (by omega), jnF] at hj
      by_cases hbig : 400 < out.size
      · rw [if_pos hbig] at hj
        have HJJ := Lib.hid hj
        clear hj hb
        go_wp2
        go_ret2
        rw [← HJJ.out]
        exact ⟨rfl, HB.out⟩
      · rw [if_neg hbig] at hj
        have HJJ := Lib.hid hj
        clear hj hb
        go_wp2
        go_ret2
        rw [← HJJ.out]
        exact ⟨rfl, HB.out⟩

end Go.Proofs.YtejppikbdplamaaGreatDoor.Lex
