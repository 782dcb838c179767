/-
  Joined out of: The walks of the document's own written tokens. The walks of the document's own Check, Text and Join. Layer 5, plain: runes that are not bad, their bytes, and back. Layer 5, plain: what a token depends on; tokens of what stands ahead, of lines joined. Layer 5, plain: the tokens of a row of runes as a relation; ahead of a token; joined; written again. Layer 5, plain: a line's tokens may be written, and are the same again; tokens joined are the tokens. Layer 5, plain: a line cut into pieces as the program does it, a token read off each piece; the same tokens as the document's. Layer 5, plain: the token of a piece; a line's pieces have the document's tokens. Package lex and the library: the runes of a text, numbers read and written, a text searched; what lies in the library's tables when the call begins.
-/
import Derived.Test.YtdkngidangfkiaaGreatDoorJb03
import Derived.Deep.RegionWith
import Derived.Shelf.Unicode.DecodeAny
import Derived.Shelf.Strings.FuncGrows
import Derived.Shelf.Strconv.AtoiAll
import Derived.Shelf.Strconv.Itoa3
import Derived.Lib.SmallJoins
import Derived.Lib.AppendIntMem
import Derived.Lib.AtoiAllCases
namespace Go.Proofs.YtdkngidangfkiaaGreatDoor.Lex
open Go.RowKit
open Base Runes
set_option linter.unusedVariables false
set_option linter.unusedSimpArgs false
def digF : Nat → Nat → List UInt8
  | 0, _ => []
  | f + 1, n => if n < 10 then [UInt8.ofNat (48 + n)] else digF f (n / 10) ++ [UInt8.ofNat (48 + n % 10)]
def digB (n : Int) : ByteArray := if n < 0 then ⟨#[]⟩ else ⟨(digF 20 n.toNat).toArray⟩
theorem digF_length (f n : Nat) : (digF f n).length ≤ f := by
  induction f generalizing n with
  | zero => simp [digF]
  | succ f ih =>
    rw [digF]
    split
    · simp
    · have := ih (n / 10); simp; omega
set_option maxRecDepth 100000 in
theorem one_conv {w : World} {g : Nat} {c : UInt8} (h : w.cell? ⟨g, 0, none⟩ = some (.int .u8 (c.toNat : Int))) : (convert 44 9 (.slice (some ⟨g, 0, none⟩) 1 1)).run Tryz.prog w = .ok (.string ⟨#[c]⟩) w := by
  have h1 := run_convert_bytes_arg (P := Tryz.prog) w 44 5 Tryz.underlying44 Tryz.underlying5 g 0 1 1 [(c.toNat : Int)] rfl (fun i hi => by
    have : i = 0 := by omega
    subst this; simpa using h) 9 Tryz.underlying9
  rw [h1]
  congr 2
  unfold strOfNums
  simp
set_option maxRecDepth 100000 in
set_option maxHeartbeats 2000000 in
theorem rdigits_nat (f : Nat) : f ≤ 100 → ∀ (n : Nat), n < 10 ^ f → 1 ≤ f → n ≤ 9223372036854775807 → ∀ w : World,
    Calls Tryz.prog 116 #[.int .i64 (n : Int)] w fun e w' => e = .returned (.string ⟨(digF f n).toArray⟩) ∧ Below w.heap.size w w' := by
  induction f with
  | zero => intro _ n _ h; omega
  | succ f ih =>
    intro hf100 n hn _ h63 w
    by_cases h10 : n < 10
    · have HD : Hid ((⟨#[UInt8.ofNat (48 + n)]⟩ : ByteArray) = ⟨(digF (f + 1) n).toArray⟩) := Lib.hid (by rw [digF, if_pos h10])
      obtain ⟨c, hc⟩ : ∃ c, c = UInt8.ofNat (48 + n) := ⟨_, rfl⟩
      have hcn : (c.toNat : Int) = 48 + (n : Int) := by rw [hc, UInt8.toNat_ofNat']; omega
      rw [← hc] at HD
      have hcv := fun (W : World) (g : Nat) (h : W.cell? ⟨g, 0, none⟩ = some (.int .u8 (48 + (n : Int)))) => one_conv (w := W) (g := g) (c := c) (by rw [hcn]; exact h)
      clear hc hcn
      go_enter Tryz.func116, Tryz.ntmps116
      go_wp2
      go_ret
      exact ⟨ret_str HD.out, below_one _⟩
    · obtain ⟨q, hq⟩ : ∃ q, q = n / 10 := ⟨_, rfl⟩
      obtain ⟨d, hd⟩ : ∃ d, d = n % 10 := ⟨_, rfl⟩
      have hf1 : 1 ≤ f := by
        rcases Nat.eq_zero_or_pos f with h | h
        · subst h; simp at hn; omega
        · exact h
      have hqf : q < 10 ^ f := by rw [hq]; have := Nat.pow_succ 10 f; omega
      obtain ⟨c, hc⟩ : ∃ c, c = UInt8.ofNat (48 + d) := ⟨_, rfl⟩
      obtain ⟨Z, hZ⟩ : ∃ Z : ByteArray, Z = ⟨(digF f q).toArray⟩ := ⟨_, rfl⟩
      have HD : Hid (Z ++ (⟨#[c]⟩ : ByteArray) = ⟨(digF (f + 1) n).toArray⟩) := Lib.hid (by
        rw [digF, if_neg h10, ← hq, ← hd, ← hc, hZ]
        apply ByteArray.ext; apply Array.toList_inj.1
        simp [ByteArray.data_append])
      have hcn : (c.toNat : Int) = 48 + (d : Int) := by rw [hc, UInt8.toNat_ofNat']; omega
      have hcv := fun (W : World) (g : Nat) (h : W.cell? ⟨g, 0, none⟩ = some (.int .u8 (48 + (d : Int)))) => one_conv (w := W) (g := g) (c := c) (by rw [hcn]; exact h)
      have hqz : (n : Int) / 10 = (q : Int) := by omega
      have hdz : (n : Int) % 10 = (d : Int) := by omega
      have hq1 : Int.tdiv (n : Int) 10 = (q : Int) := by rw [Int.tdiv_eq_ediv_of_nonneg (by omega)]; omega
      have hd1 : Int.tmod (n : Int) 10 = (d : Int) := by rw [Int.tmod_eq_emod_of_nonneg (by omega)]; omega
      have hd9 : d < 10 := by omega
      have hw1 : IntKind.i64.wrap (q : Int) = (q : Int) := by simp only [IntKind.wrap_i64]; omega
      have hw2 : IntKind.i64.wrap (48 + (d : Int)) = 48 + (d : Int) := by simp only [IntKind.wrap_i64]; omega
      have hw3 : IntKind.u8.wrap (48 + (d : Int)) = 48 + (d : Int) := by simp only [IntKind.wrap_u8]; omega
      have hZs : Z.size ≤ 100 := by rw [hZ, Lib.size_eq, ofList_data]; have := digF_length f q; omega
      have ihq := ih (by omega) q hqf hf1 (by omega)
      rw [← hZ] at ihq
      have IH := Lib.hid ihq
      clear ihq ih hZ hc hcn hqf hq hd
      go_enter Tryz.func116, Tryz.ntmps116
      go_wp2
      go_region_with (first
        | (go_at_call 116; (with_reducible refine (IH.out _).mono ?_); rintro e w1 ⟨rfl, p1⟩; (try have hl1 : w1.cell? ⟨w.heap.size, 0, none⟩ = some (.int .u8 (48 + (d : Int))) := cell_below (w := (w.alloc (.cells #[.int .u8 (48 + (d : Int))] 5)).drew) (show (w.alloc (.cells #[.int .u8 (48 + (d : Int))] 5)).cell? _ = _ from by rw [World.cell?_alloc_at _ _ _ _ rfl]; rfl) p1))
        | fail)
      all_goals
        go_wp2
        go_ret
        refine ⟨ret_str HD.out, ?_⟩
        (exact Base.bel_)
theorem rdigits_any (n : Int) (h : n ≤ 9223372036854775807) (w : World) :
    Calls Tryz.prog 116 #[.int .i64 n] w fun e w' => e = .returned (.string (digB n)) ∧ Below w.heap.size w w' := by
  by_cases h0 : n < 0
  · have HD : Hid (⟨#[]⟩ = digB n) := Lib.hid (by unfold digB; rw [if_pos h0])
    go_enter Tryz.func116, Tryz.ntmps116
    go_wp2
    go_ret
    exact ⟨ret_str HD.out, Below.refl _ _⟩
  · obtain ⟨m, rfl⟩ := Int.eq_ofNat_of_zero_le (show 0 ≤ n by omega)
    have e : digB (m : Int) = ⟨(digF 20 m).toArray⟩ := by unfold digB; rw [if_neg h0, Int.toNat_natCast]
    rw [e]
    exact rdigits_nat 20 (by decide) m (by omega) (by decide) (by omega) w
def wrB (t : Tok) : ByteArray := if t.1 = 2 then digB t.2.2.1 else if t.1 = 4 then qtS t.2.1 else t.2.1
def chE (t : Tok) : Int :=
  if (tkA (wrB t)).2.2 = 0 then
    match (tkA (wrB t)).1 with
    | [x] => if x.1 = t.1 ∧ x.2.1 = t.2.1 ∧ x.2.2.1 = t.2.2.1 then 0 else 50
    | _ => 50
  else 50
def txS (t : Tok) : ByteArray := if chE t = 0 then wrB t else ⟨#[]⟩
theorem chE_or (t : Tok) : chE t = 0 ∨ chE t = 50 := by
  unfold chE
  split
  · split
    · split
      · exact .inl rfl
      · exact .inr rfl
    · exact .inr rfl
  · exact .inr rfl
set_option maxRecDepth 100000 in
set_option maxHeartbeats 1000000 in
theorem rwritten_any (k : Int) (s : ByteArray) (n a : Int) (hs : s.size ≤ 1000000) (hn : n ≤ 9223372036854775807) (w : World) :
    Calls Tryz.prog 76 #[tokV (k, s, n, a)] w fun e w' => e = .returned (.string (wrB (k, s, n, a))) ∧ Below w.heap.size w w' := by
  unfold tokV
  by_cases h2 : k = 2
  · have HW : Hid (digB n = wrB (k, s, n, a)) := Lib.hid (by unfold wrB; rw [if_pos h2])
    have t2 : (k == 2) = true := by rw [beq_iff_eq]; exact h2
    clear h2
    go_enter Tryz.func76, Tryz.ntmps76
    go_wp2_with (first
      | (go_at_call 116; (with_reducible refine (rdigits_any n hn _).mono ?_); rintro e w1 ⟨rfl, p1⟩)
      | fail)
    go_ret
    refine ⟨ret_str HW.out, ?_⟩
    (exact Base.bel_)
  · have t2 : (k == 2) = false := by rw [beq_eq_false_iff_ne]; exact h2
    by_cases h4 : k = 4
    · have HW : Hid (qtS s = wrB (k, s, n, a)) := Lib.hid (by unfold wrB; rw [if_neg h2, if_pos h4])
      have t4 : (k == 4) = true := by rw [beq_iff_eq]; exact h4
      clear h2 h4
      go_enter Tryz.func76, Tryz.ntmps76
      go_wp2_with (first
        | (go_at_call 25; (with_reducible refine (rquote_any s hs _).mono ?_); rintro e w1 ⟨rfl, p1⟩)
        | fail)
      go_ret
      refine ⟨ret_str HW.out, ?_⟩
      (exact Base.bel_)
    · have HW : Hid (s = wrB (k, s, n, a)) := Lib.hid (by unfold wrB; rw [if_neg h2, if_neg h4])
      have t4 : (k == 4) = false := by rw [beq_eq_false_iff_ne]; exact h4
      clear h2 h4
      go_enter Tryz.func76, Tryz.ntmps76
      go_wp2
      go_ret
      refine ⟨ret_str HW.out, ?_⟩
      (exact Base.bel_)
end Go.Proofs.YtdkngidangfkiaaGreatDoor.Lex
namespace Go.Proofs.YtdkngidangfkiaaGreatDoor.Lex
open Go.RowKit
open Base Runes
set_option linter.unusedVariables false
set_option linter.unusedSimpArgs false
theorem digB_size (n : Int) : (digB n).size ≤ 20 := by
  unfold digB; split
  · exact Nat.zero_le _
  · rw [Lib.size_eq, ofList_data]; exact digF_length _ _
theorem qtS_size2 (s : ByteArray) : (qtS s).size ≤ 2 * s.size + 2 := by
  unfold qtS; split
  · rw [Lib.size_eq, ofList_data, Lib.size_eq]
    unfold qt
    have := mk_length s.data.toList
    rw [List.length_cons, List.length_append, List.length_singleton]; omega
  · exact Nat.zero_le _
theorem wrB_size (t : Tok) : (wrB t).size ≤ 2 * t.2.1.size + 20 := by
  unfold wrB; split
  · have := digB_size t.2.2.1; omega
  · split
    · have := qtS_size2 t.2.1; omega
    · omega
set_option maxRecDepth 100000 in
set_option maxHeartbeats 2000000 in
theorem rchk_any (k : Int) (s : ByteArray) (n a : Int) (hs : s.size ≤ 1000000) (hn : n ≤ 9223372036854775807) (w : World) :
    Calls Tryz.prog 47 #[tokV (k, s, n, a)] w fun e w' => e = .returned (.int .i64 (chE (k, s, n, a))) ∧ Below w.heap.size w w' := by
  have c1 := fun w => rwritten_any k s n a hs hn w
  obtain ⟨W, hW⟩ : ∃ W, W = wrB (k, s, n, a) := ⟨_, rfl⟩
  have hWs : W.size ≤ maxLen := by rw [hW]; have := wrB_size (k, s, n, a); dsimp only at this; unfold maxLen; omega
  have c2 := fun w => rtokens_any W hWs w
  obtain ⟨C, hC⟩ : ∃ C, C = chE (k, s, n, a) := ⟨_, rfl⟩
  obtain ⟨⟨L, N, E⟩, hA⟩ : ∃ A, A = tkA W := ⟨_, rfl⟩
  rw [← hC]
  unfold chE at hC
  rw [← hW, ← hA] at hC
  dsimp only at hC
  simp only [← hW] at c1
  simp only [← hA] at c2
  unfold LineSays at c2
  unfold tokV at c1 ⊢
  dsimp only at c1 c2 ⊢
  have C1 := Lib.hid c1
  have C2 := Lib.hid c2
  clear c1 c2 hA hW hWs
  by_cases hE : E = 0
  · subst hE
    rw [if_pos rfl] at hC
    by_cases hL : L.length = 1
    · obtain ⟨⟨k', s', n', a'⟩, rfl⟩ : ∃ x, L = [x] := by
        match L, hL with
        | [x], _ => exact ⟨x, rfl⟩
      dsimp only at hC
      by_cases e1 : k' = k
      · have t1 : (k' != k) = false := by rw [bne_eq_false_iff_eq]; exact e1
        by_cases e2 : s' = s
        · have t2 : (s'.toList == s.toList) = true := by rw [str_eq, decide_eq_true e2]
          by_cases e3 : n' = n
          · have t3 : (n' != n) = false := by rw [bne_eq_false_iff_eq]; exact e3
            rw [if_pos ⟨e1, e2, e3⟩] at hC
            have HC := Lib.hid hC
            clear hC e1 e2 e3 hL
            go_enter Tryz.func47, Tryz.ntmps47
            go_wp2_with (first
              | (go_at_call 76; (with_reducible refine (C1.out _).mono ?_); rintro e w1 ⟨rfl, p1⟩)
              | (go_at_call 75; (with_reducible refine (C2.out _).mono ?_); rintro e w2 ⟨ao, cap, rfl, hr, hz, hc1, hc2, p2⟩; obtain ⟨bb, bo, rfl, b0, b1, b2, b3⟩ := tok_cells (j := 0) hr (by simp); simp only [Nat.zero_mul, Nat.add_zero, List.getElem_cons_zero] at b0 b1 b2 b3; obtain ⟨⟨r0, r1, r2, r3⟩, _⟩ := tok_block rfl (p2.from p1); have q0 := cell_below r0 (below_one (.cells #[.int .i64 k', .string s', .int .i64 n', .int .i64 a'] 96)); have q1 := cell_below r1 (below_one (.cells #[.int .i64 k', .string s', .int .i64 n', .int .i64 a'] 96)); have q2 := cell_below r2 (below_one (.cells #[.int .i64 k', .string s', .int .i64 n', .int .i64 a'] 96)); clear hr r0 r1 r2 r3)
              | fail)
            go_ret
            refine ⟨ret_int HC.out.symm, ?_⟩
            (exact Base.bel_)
          · have t3 : (n' != n) = true := by rw [bne_iff_ne]; exact e3
            rw [if_neg (fun h => e3 h.2.2)] at hC
            have HC := Lib.hid hC
            clear hC e1 e2 e3 hL
            go_enter Tryz.func47, Tryz.ntmps47
            go_wp2_with (first
              | (go_at_call 76; (with_reducible refine (C1.out _).mono ?_); rintro e w1 ⟨rfl, p1⟩)
              | (go_at_call 75; (with_reducible refine (C2.out _).mono ?_); rintro e w2 ⟨ao, cap, rfl, hr, hz, hc1, hc2, p2⟩; obtain ⟨bb, bo, rfl, b0, b1, b2, b3⟩ := tok_cells (j := 0) hr (by simp); simp only [Nat.zero_mul, Nat.add_zero, List.getElem_cons_zero] at b0 b1 b2 b3; obtain ⟨⟨r0, r1, r2, r3⟩, _⟩ := tok_block rfl (p2.from p1); have q0 := cell_below r0 (below_one (.cells #[.int .i64 k', .string s', .int .i64 n', .int .i64 a'] 96)); have q1 := cell_below r1 (below_one (.cells #[.int .i64 k', .string s', .int .i64 n', .int .i64 a'] 96)); have q2 := cell_below r2 (below_one (.cells #[.int .i64 k', .string s', .int .i64 n', .int .i64 a'] 96)); clear hr r0 r1 r2 r3)
              | fail)
            go_ret
            refine ⟨ret_int HC.out.symm, ?_⟩
            (exact Base.bel_)
        · have t2 : (s'.toList == s.toList) = false := by rw [str_eq, decide_eq_false e2]
          rw [if_neg (fun h => e2 h.2.1)] at hC
          have HC := Lib.hid hC
          clear hC e1 e2 hL
          go_enter Tryz.func47, Tryz.ntmps47
          go_wp2_with (first
            | (go_at_call 76; (with_reducible refine (C1.out _).mono ?_); rintro e w1 ⟨rfl, p1⟩)
            | (go_at_call 75; (with_reducible refine (C2.out _).mono ?_); rintro e w2 ⟨ao, cap, rfl, hr, hz, hc1, hc2, p2⟩; obtain ⟨bb, bo, rfl, b0, b1, b2, b3⟩ := tok_cells (j := 0) hr (by simp); simp only [Nat.zero_mul, Nat.add_zero, List.getElem_cons_zero] at b0 b1 b2 b3; obtain ⟨⟨r0, r1, r2, r3⟩, _⟩ := tok_block rfl (p2.from p1); have q0 := cell_below r0 (below_one (.cells #[.int .i64 k', .string s', .int .i64 n', .int .i64 a'] 96)); have q1 := cell_below r1 (below_one (.cells #[.int .i64 k', .string s', .int .i64 n', .int .i64 a'] 96)); have q2 := cell_below r2 (below_one (.cells #[.int .i64 k', .string s', .int .i64 n', .int .i64 a'] 96)); clear hr r0 r1 r2 r3)
            | fail)
          go_ret
          refine ⟨ret_int HC.out.symm, ?_⟩
          (exact Base.bel_)
      · have t1 : (k' != k) = true := by rw [bne_iff_ne]; exact e1
        rw [if_neg (fun h => e1 h.1)] at hC
        have HC := Lib.hid hC
        clear hC e1 hL
        go_enter Tryz.func47, Tryz.ntmps47
        go_wp2_with (first
          | (go_at_call 76; (with_reducible refine (C1.out _).mono ?_); rintro e w1 ⟨rfl, p1⟩)
          | (go_at_call 75; (with_reducible refine (C2.out _).mono ?_); rintro e w2 ⟨ao, cap, rfl, hr, hz, hc1, hc2, p2⟩; obtain ⟨bb, bo, rfl, b0, b1, b2, b3⟩ := tok_cells (j := 0) hr (by simp); simp only [Nat.zero_mul, Nat.add_zero, List.getElem_cons_zero] at b0 b1 b2 b3; obtain ⟨⟨r0, r1, r2, r3⟩, _⟩ := tok_block rfl (p2.from p1); have q0 := cell_below r0 (below_one (.cells #[.int .i64 k', .string s', .int .i64 n', .int .i64 a'] 96)); have q1 := cell_below r1 (below_one (.cells #[.int .i64 k', .string s', .int .i64 n', .int .i64 a'] 96)); have q2 := cell_below r2 (below_one (.cells #[.int .i64 k', .string s', .int .i64 n', .int .i64 a'] 96)); clear hr r0 r1 r2 r3)
          | fail)
        go_ret
        refine ⟨ret_int HC.out.symm, ?_⟩
        (exact Base.bel_)
    · have hC2 : C = 50 := by
        rw [hC]
        match L, hL with
        | [], _ => rfl
        | x :: y :: t, _ => rfl
      have tl : ((L.length : Int) != 1) = true := by rw [bne_iff_ne]; omega
      have HC := Lib.hid hC2
      clear hC hC2 hL
      go_enter Tryz.func47, Tryz.ntmps47
      go_wp2_with (first
        | (go_at_call 76; (with_reducible refine (C1.out _).mono ?_); rintro e w1 ⟨rfl, p1⟩)
        | (go_at_call 75; (with_reducible refine (C2.out _).mono ?_); rintro e w2 ⟨ao, cap, rfl, hr, hz, hc1, hc2, p2⟩)
        | fail)
      go_ret
      refine ⟨ret_int HC.out.symm, ?_⟩
      (exact Base.bel_)
  · rw [if_neg hE] at hC
    have tE : (E != 0) = true := by rw [bne_iff_ne]; exact hE
    have HC := Lib.hid hC
    clear hC hE
    go_enter Tryz.func47, Tryz.ntmps47
    go_wp2_with (first
      | (go_at_call 76; (with_reducible refine (C1.out _).mono ?_); rintro e w1 ⟨rfl, p1⟩)
      | (go_at_call 75; (with_reducible refine (C2.out _).mono ?_); rintro e w2 ⟨ao, cap, rfl, hr, hz, hc1, hc2, p2⟩)
      | fail)
    go_ret
    refine ⟨ret_int HC.out.symm, ?_⟩
    (exact Base.bel_)
theorem txS_yes {t : Tok} (h : chE t = 0) : wrB t = txS t := by unfold txS; rw [if_pos h]
theorem txS_no {t : Tok} (h : chE t = 50) : ⟨#[]⟩ = txS t := by unfold txS; rw [if_neg (by omega)]
end Go.Proofs.YtdkngidangfkiaaGreatDoor.Lex
namespace Go.Proofs.YtdkngidangfkiaaGreatDoor.Lex
open Go.RowKit
open Base Runes
open Go.Lib (decodeL decodeN encodeRune decodeL_N decodeN_shape decodeN_ascii decodeL_le decodeL_width takeA takeB takeC takeD encode_decode decodeL_drop)
set_option linter.unusedVariables false
set_option linter.unusedSimpArgs false
theorem cls_ok {r : Nat} (h : cls (r : Int) ≠ 0) : r ≤ 1114111 ∧ ¬ (55296 ≤ r ∧ r ≤ 57343) ∧ 9 ≤ r ∧ ¬ (127 ≤ r ∧ r ≤ 160) ∧ ¬ (10 ≤ r ∧ r ≤ 31) := by
  unfold cls at h
  split at h
  · exact absurd rfl h
  · omega
theorem byte_nat (n : Nat) (z : Int) (hz : z = (n : Int)) (h : n < 256) : (z.toNat.toUInt8).toNat = n := by
  subst hz
  show (UInt8.ofNat n).toNat = n
  rw [UInt8.toNat_ofNat']; omega
theorem decode_encode (r : Nat) (t : List UInt8) (h : cls (r : Int) ≠ 0) :
    decodeL (encodeRune (r : Int) ++ t) = (r, (encodeRune (r : Int)).length) ∧ ((r < 128 ∧ encodeRune (r : Int) = [UInt8.ofNat r]) ∨ (128 ≤ r ∧ ∀ b ∈ encodeRune (r : Int), 128 ≤ b.toNat)) ∧ 0 < (encodeRune (r : Int)).length := by
  obtain ⟨h0, h1, _, _, _⟩ := cls_ok h
  unfold encodeRune
  by_cases c1 : r < 128
  · rw [Lib.encodeRuneZ_one (by omega) (by omega)]
    refine ⟨?_, .inl ⟨c1, rfl⟩, by simp⟩
    show decodeL (((r : Int).toNat.toUInt8) :: t) = (r, 1)
    rw [decodeL_N]
    show decodeN _ ((r : Int).toNat.toUInt8).toNat _ _ _ = _
    rw [byte_nat r _ rfl (by omega)]
    exact decodeN_ascii _ _ _ _ _ c1
  · by_cases c2 : r < 2048
    · rw [Lib.encodeRuneZ_two (by omega) (by omega)]
      obtain ⟨a, ha⟩ : ∃ a : UInt8, a = (192 + (r : Int) / 64).toNat.toUInt8 := ⟨_, rfl⟩
      obtain ⟨b, hb⟩ : ∃ b : UInt8, b = (128 + (r : Int) % 64).toNat.toUInt8 := ⟨_, rfl⟩
      have ea : a.toNat = 192 + r / 64 := by rw [ha]; exact byte_nat _ _ (by omega) (by omega)
      have eb : b.toNat = 128 + r % 64 := by rw [hb]; exact byte_nat _ _ (by omega) (by omega)
      simp only [List.map_cons, List.map_nil, ← ha, ← hb, List.cons_append, List.nil_append]
      refine ⟨?_, .inr ⟨by omega, ?_⟩, by simp⟩
      · rw [decodeL_N]
        show decodeN (t.length + 2) a.toNat b.toNat _ _ = _
        rw [dec2 _ _ _ _ _ (by omega) (by omega) (by omega) (by omega)]
        exact Prod.ext (by dsimp only; omega) rfl
      · simp only [List.mem_cons, List.not_mem_nil, or_false]
        rintro x (rfl | rfl) <;> omega
    · by_cases c3 : r < 65536
      · rw [Lib.encodeRuneZ_three (by omega)]
        obtain ⟨a, ha⟩ : ∃ a : UInt8, a = (224 + (r : Int) / 4096).toNat.toUInt8 := ⟨_, rfl⟩
        obtain ⟨b, hb⟩ : ∃ b : UInt8, b = (128 + (r : Int) / 64 % 64).toNat.toUInt8 := ⟨_, rfl⟩
        obtain ⟨c, hc⟩ : ∃ c : UInt8, c = (128 + (r : Int) % 64).toNat.toUInt8 := ⟨_, rfl⟩
        have ea : a.toNat = 224 + r / 4096 := by rw [ha]; exact byte_nat _ _ (by omega) (by omega)
        have eb : b.toNat = 128 + r / 64 % 64 := by rw [hb]; exact byte_nat _ _ (by omega) (by omega)
        have ec : c.toNat = 128 + r % 64 := by rw [hc]; exact byte_nat _ _ (by omega) (by omega)
        simp only [List.map_cons, List.map_nil, ← ha, ← hb, ← hc, List.cons_append, List.nil_append]
        refine ⟨?_, .inr ⟨by omega, ?_⟩, by simp⟩
        · rw [decodeL_N]
          show decodeN (t.length + 3) a.toNat b.toNat c.toNat _ = _
          rw [dec3 _ _ _ _ _ (by omega) (by omega) (by omega) (by omega) (by omega) (by omega)]
          exact Prod.ext (by dsimp only; omega) rfl
        · simp only [List.mem_cons, List.not_mem_nil, or_false]
          rintro x (rfl | rfl | rfl) <;> omega
      · rw [Lib.encodeRuneZ_four (by omega) (by omega)]
        obtain ⟨a, ha⟩ : ∃ a : UInt8, a = (240 + (r : Int) / 262144).toNat.toUInt8 := ⟨_, rfl⟩
        obtain ⟨b, hb⟩ : ∃ b : UInt8, b = (128 + (r : Int) / 4096 % 64).toNat.toUInt8 := ⟨_, rfl⟩
        obtain ⟨c, hc⟩ : ∃ c : UInt8, c = (128 + (r : Int) / 64 % 64).toNat.toUInt8 := ⟨_, rfl⟩
        obtain ⟨d, hd⟩ : ∃ d : UInt8, d = (128 + (r : Int) % 64).toNat.toUInt8 := ⟨_, rfl⟩
        have ea : a.toNat = 240 + r / 262144 := by rw [ha]; exact byte_nat _ _ (by omega) (by omega)
        have eb : b.toNat = 128 + r / 4096 % 64 := by rw [hb]; exact byte_nat _ _ (by omega) (by omega)
        have ec : c.toNat = 128 + r / 64 % 64 := by rw [hc]; exact byte_nat _ _ (by omega) (by omega)
        have ed : d.toNat = 128 + r % 64 := by rw [hd]; exact byte_nat _ _ (by omega) (by omega)
        simp only [List.map_cons, List.map_nil, ← ha, ← hb, ← hc, ← hd, List.cons_append, List.nil_append]
        refine ⟨?_, .inr ⟨by omega, ?_⟩, by simp⟩
        · rw [decodeL_N]
          show decodeN (t.length + 4) a.toNat b.toNat c.toNat d.toNat = _
          rw [dec4 _ _ _ _ _ (by omega) (by omega) (by omega) (by omega) (by omega) (by omega) (by omega)]
          exact Prod.ext (by dsimp only; omega) rfl
        · simp only [List.mem_cons, List.not_mem_nil, or_false]
          rintro x (rfl | rfl | rfl | rfl) <;> omega
def GoodR (l : List Nat) : Prop := ∀ r ∈ l, cls (r : Int) ≠ 0
theorem GoodR.nil : GoodR [] := by simp [GoodR]
theorem goodR_cons {r : Nat} {t : List Nat} : GoodR (r :: t) ↔ cls (r : Int) ≠ 0 ∧ GoodR t := by simp [GoodR]
theorem goodR_append {a b : List Nat} : GoodR (a ++ b) ↔ GoodR a ∧ GoodR b := by simp [GoodR, or_imp, forall_and]
theorem GoodR.take {l : List Nat} (h : GoodR l) (n : Nat) : GoodR (l.take n) := fun r hr => h r (List.mem_of_mem_take hr)
theorem GoodR.drop {l : List Nat} (h : GoodR l) (n : Nat) : GoodR (l.drop n) := fun r hr => h r (List.mem_of_mem_drop hr)
theorem pc_encL (T : List Nat) (h : GoodR T) : pc (encL T) = T.map fun r : Nat => (r, encodeRune (r : Int)) := by
  induction T with
  | nil => rfl
  | cons r t ih =>
    obtain ⟨h1, h2⟩ := goodR_cons.1 h
    obtain ⟨e1, _, e3⟩ := decode_encode r (encL t) h1
    have e : encL (r :: t) = encodeRune (r : Int) ++ encL t := rfl
    have hne : encL (r :: t) ≠ [] := by rw [e]; intro h0; rw [List.append_eq_nil_iff] at h0; rw [h0.1] at e3; simp at e3
    rw [pc_step _ hne, e, e1]
    simp only [List.take_left', List.drop_left', List.map_cons]
    rw [ih h2]
theorem encB_data (T : List Nat) : (encB T).data.toList = encL T := rfl
theorem rn_encB (T : List Nat) (h : GoodR T) : rn (encB T) = T := by
  unfold rn
  rw [ps_zero, encB_data, pc_encL T h, List.map_map]
  conv => rhs; rw [← List.map_id T]
  rfl
theorem good_encB (T : List Nat) (h : GoodR T) : ckE (encB T) = 0 := by
  rw [ckE_good, encB_data]
  unfold Runes.Good
  rw [pc_encL T h]
  intro q hq
  obtain ⟨r, hr, rfl⟩ := List.mem_map.1 hq
  exact h r hr
theorem encL_pc (l : List UInt8) : Runes.Good l → ∀ n, encL (((pc l).map (·.1)).take n) = l.take (plc n (pc l)) := by
  induction l using pc_ind with
  | h0 => intro _ n; cases n <;> rfl
  | h1 l hne ih =>
    intro hg n
    obtain ⟨g1, g2, _⟩ := good_head l hne hg
    rw [pc_step l hne]
    cases n with
    | zero => rfl
    | succ n =>
      have hle := decodeL_le l hne
      rw [List.map_cons, List.take_succ_cons, plc, List.length_take, Nat.min_eq_left hle, List.take_add, ← ih g2 n, ← g1]
      rfl
theorem plc_all (l : List UInt8) : plc (pc l).length (pc l) = l.length := by
  induction l using pc_ind with
  | h0 => rfl
  | h1 l hne ih =>
    have hle := decodeL_le l hne
    rw [pc_step l hne, List.length_cons, plc, ih, List.length_take, Nat.min_eq_left hle, List.length_drop]; omega
theorem good_rn {s : ByteArray} (h : GoodR (rn s)) : Runes.Good s.data.toList := by
  intro q hq
  exact h q.1 (List.mem_map.2 ⟨q, hq, rfl⟩)
theorem encB_rn {s : ByteArray} (h : GoodR (rn s)) : encB (rn s) = s := by
  have := encL_pc _ (good_rn h) (pc s.data.toList).length
  rw [List.take_of_length_le (by simp), plc_all, List.take_of_length_le (Nat.le_refl _)] at this
  apply ByteArray.ext; apply Array.toList_inj.1
  rw [encB_data, ← this]; rfl
end Go.Proofs.YtdkngidangfkiaaGreatDoor.Lex
namespace Go.Proofs.YtdkngidangfkiaaGreatDoor.Lex
open Go.RowKit
open Base Runes
set_option linter.unusedVariables false
set_option linter.unusedSimpArgs false
theorem cutR_zero (X : List Nat) (n : Nat) : cutR X 0 n = X.take n := by simp [cutR]
end Go.Proofs.YtdkngidangfkiaaGreatDoor.Lex
namespace Go.Proofs.YtdkngidangfkiaaGreatDoor.Lex
open Go.RowKit
open Base Runes
open Go.Lib (encodeRune)
set_option linter.unusedVariables false
set_option linter.unusedSimpArgs false
def atT (t : Tok) (b : Nat) : Tok := (t.1, t.2.1, t.2.2.1, (b : Int))
theorem oneR_shift (R : List Nat) (i : Nat) (hi : i < R.length) :
    (oneR R i).2.2.2 = (oneR (R.drop i) 0).2.2.2 ∧ ((oneR R i).2.2.2 = 0 → (oneR R i).2.1 = i + (oneR (R.drop i) 0).2.1 ∧ (oneR R i).1 = atT (oneR (R.drop i) 0).1 i) := by
  have g : (R.drop i).getD 0 0 = R.getD i 0 := by simp [List.getD, List.getElem?_drop]
  have e : endR R i = i + endR (R.drop i) 0 := by
    unfold endR
    rw [g, List.drop_drop]
    simp only [Nat.zero_add]; omega
  have c : ∀ n, cutR R i (i + n) = cutR (R.drop i) 0 n := fun n => by
    unfold cutR
    rw [Nat.add_sub_cancel_left, List.drop_zero, Nat.sub_zero]
  have d : (R.drop i).drop (0 + 1) = R.drop (i + 1) := by rw [List.drop_drop]
  have c1 := c 1
  have cs : cutR R i (i + (scn (R.drop (i + 1))).2 + 2) = cutR (R.drop i) 0 (0 + (scn (R.drop (i + 1))).2 + 2) := by
    rw [Nat.add_assoc, c, Nat.zero_add]
  unfold oneR textR atT
  rw [g, e, c, c1, d, cs]
  by_cases h0 : cls (R.getD i 0 : Nat) = 0
  · rw [if_pos h0, if_pos h0]; exact ⟨rfl, fun h => by simp at h⟩
  · rw [if_neg h0, if_neg h0]
    by_cases h2 : cls (R.getD i 0 : Nat) = 2
    · rw [if_pos h2, if_pos h2]; exact ⟨rfl, fun _ => ⟨rfl, rfl⟩⟩
    · rw [if_neg h2, if_neg h2]
      by_cases h3 : cls (R.getD i 0 : Nat) = 3
      · rw [if_pos h3, if_pos h3]
        by_cases ha : anyL (cutR (R.drop i) 0 (endR (R.drop i) 0)) = true
        · rw [if_pos ha, if_pos ha]; exact ⟨rfl, fun _ => ⟨rfl, rfl⟩⟩
        · rw [if_neg ha, if_neg ha]
          by_cases hn : numR (cutR (R.drop i) 0 (endR (R.drop i) 0)) < 0
          · rw [if_pos hn, if_pos hn]; exact ⟨rfl, fun h => by simp at h⟩
          · rw [if_neg hn, if_neg hn]; exact ⟨rfl, fun _ => ⟨rfl, rfl⟩⟩
      · rw [if_neg h3, if_neg h3]
        by_cases h34 : R.getD i 0 = 34
        · rw [if_pos h34, if_pos h34]
          by_cases s1 : (scn (R.drop (i + 1))).1 = 1
          · rw [if_pos s1, if_pos s1]; exact ⟨rfl, fun h => by simp at h⟩
          · rw [if_neg s1, if_neg s1]
            by_cases s0 : (scn (R.drop (i + 1))).1 = 0
            · rw [if_pos s0, if_pos s0]
              by_cases hu : uqE (encB (cutR (R.drop i) 0 (0 + (scn (R.drop (i + 1))).2 + 2))) = 0
              · rw [if_pos hu, if_pos hu]; exact ⟨rfl, fun _ => ⟨by dsimp only; omega, rfl⟩⟩
              · rw [if_neg hu, if_neg hu]; exact ⟨rfl, fun h => by simp at h⟩
            · rw [if_neg s0, if_neg s0]; exact ⟨rfl, fun h => by simp at h⟩
        · rw [if_neg h34, if_neg h34]
          by_cases hs : R.getD i 0 = 61 ∨ R.getD i 0 = 58 ∨ R.getD i 0 = 44 ∨ R.getD i 0 = 45
          · rw [if_pos hs, if_pos hs]; exact ⟨rfl, fun _ => ⟨rfl, rfl⟩⟩
          · rw [if_neg hs, if_neg hs]; exact ⟨rfl, fun h => by simp at h⟩
inductive Toks : List Nat → Nat → List Tok → Prop
  | nil (b : Nat) : Toks [] b []
  | blank {r : Nat} {X : List Nat} {b : Nat} {l : List Tok} : cls (r : Int) = 1 → Toks X (b + 1) l → Toks (r :: X) b l
  | tok {X : List Nat} {b : Nat} {l : List Tok} : X ≠ [] → cls (X.getD 0 0 : Nat) ≠ 1 → (oneR X 0).2.2.2 = 0 → Toks (X.drop (oneR X 0).2.1) (b + (oneR X 0).2.1) l → Toks X b (atT (oneR X 0).1 b :: l)
theorem getD_drop (R : List Nat) (i : Nat) : (R.drop i).getD 0 0 = R.getD i 0 := by simp [List.getD, List.getElem?_drop]
theorem drop_cons (R : List Nat) (i : Nat) (h : i < R.length) : R.drop i = R.getD i 0 :: R.drop (i + 1) := by
  rw [List.drop_eq_getElem_cons h]; simp [List.getD, List.getElem?_eq_getElem h]
theorem toksR_toks (R : List Nat) : ∀ (f i : Nat) (acc : List Tok), R.length ≤ i + f → i ≤ R.length →
    ((toksR f R i acc).2.2 = 0 → ∃ l, toksR f R i acc = (acc ++ l, R.length, 0) ∧ Toks (R.drop i) i l) ∧ ((toksR f R i acc).2.2 ≠ 0 → (toksR f R i acc).1 = [])
  | 0, i, acc, hf, hi => by
    refine ⟨fun _ => ⟨[], by rw [toksR, List.append_nil], ?_⟩, fun h => absurd rfl h⟩
    rw [List.drop_eq_nil_of_le (by omega)]; exact .nil i
  | f + 1, i, acc, hf, hi => by
    rw [toksR]
    by_cases hp : i < R.length
    · rw [if_pos hp]
      by_cases h1 : cls (R.getD i 0 : Nat) = 1
      · rw [if_pos h1]
        obtain ⟨a, b⟩ := toksR_toks R f (i + 1) acc (by omega) (by omega)
        refine ⟨fun h => ?_, b⟩
        obtain ⟨l, e, t⟩ := a h
        exact ⟨l, e, by rw [drop_cons R i hp]; exact .blank h1 t⟩
      · rw [if_neg h1]
        obtain ⟨s1, s2⟩ := oneR_shift R i hp
        by_cases he : (oneR R i).2.2.2 = 0
        · rw [if_pos he]
          obtain ⟨t1, t2⟩ := s2 he
          obtain ⟨w1, w2⟩ := oneR_to R i hp he
          obtain ⟨a, b⟩ := toksR_toks R f (oneR R i).2.1 (acc ++ [(oneR R i).1]) (by omega) w2
          refine ⟨fun h => ?_, b⟩
          obtain ⟨l, e, t⟩ := a h
          refine ⟨(oneR R i).1 :: l, by rw [e, List.append_assoc]; rfl, ?_⟩
          rw [t2]
          refine .tok (by intro h0; rw [List.drop_eq_nil_iff] at h0; omega) (by rw [getD_drop]; exact h1) (by rw [← s1]; exact he) ?_
          rw [List.drop_drop, ← t1]; exact t
        · rw [if_neg he]; exact ⟨fun h => absurd h he, fun _ => rfl⟩
    · rw [if_neg hp]
      refine ⟨fun _ => ⟨[], by rw [List.append_nil], ?_⟩, fun h => absurd rfl h⟩
      rw [List.drop_eq_nil_of_le (by omega)]; exact .nil i
theorem toks_toksR {X : List Nat} {i : Nat} {l : List Tok} (h : Toks X i l) : ∀ (R : List Nat) (f : Nat) (acc : List Tok), X = R.drop i → i ≤ R.length → R.length ≤ i + f → toksR f R i acc = (acc ++ l, R.length, 0) := by
  induction h with
  | nil b =>
    intro R f acc hX hi hf
    have : R.length ≤ b := by rw [← List.drop_eq_nil_iff]; exact hX.symm
    cases f with
    | zero => rw [toksR, List.append_nil]
    | succ f => rw [toksR, if_neg (by omega), List.append_nil]
  | @blank r X b l h1 _ ih =>
    intro R f acc hX hi hf
    have hp : b < R.length := by
      rcases Nat.lt_or_ge b R.length with h | h
      · exact h
      · rw [List.drop_eq_nil_of_le h] at hX; cases hX
    rw [drop_cons R b hp] at hX
    obtain ⟨hr, hX⟩ := List.cons.inj hX
    obtain ⟨f, rfl⟩ : ∃ g, f = g + 1 := ⟨f - 1, by omega⟩
    rw [toksR, if_pos hp, if_pos (by rw [← hr]; exact h1)]
    exact ih R f acc hX (by omega) (by omega)
  | @tok X b l hne h1 he _ ih =>
    intro R f acc hX hi hf
    subst hX
    have hp : b < R.length := by
      rcases Nat.lt_or_ge b R.length with h | h
      · exact h
      · rw [List.drop_eq_nil_of_le h] at hne; exact absurd rfl hne
    obtain ⟨s1, s2⟩ := oneR_shift R b hp
    have he2 : (oneR R b).2.2.2 = 0 := by rw [s1]; exact he
    obtain ⟨t1, t2⟩ := s2 he2
    obtain ⟨w1, w2⟩ := oneR_to R b hp he2
    obtain ⟨f, rfl⟩ : ∃ g, f = g + 1 := ⟨f - 1, by omega⟩
    rw [getD_drop] at h1
    rw [toksR, if_pos hp, if_neg h1, if_pos he2]
    rw [t1, ih R f _ (by rw [List.drop_drop]) (by omega) (by omega), t2, List.append_assoc]
    rfl
theorem tkA_toks {s : ByteArray} (h : (tkA s).2.2 = 0) : s.size ≤ 400 ∧ Toks (rn s) 0 (tkA s).1 ∧ (tkA s).2.1 = (rn s).length := by
  unfold tkA at h ⊢
  by_cases hb : 400 < s.size
  · rw [if_pos hb] at h; simp at h
  · rw [if_neg hb] at h ⊢
    obtain ⟨l, e, t⟩ := (toksR_toks (rn s) (rn s).length 0 [] (by omega) (by omega)).1 h
    rw [e]
    exact ⟨by omega, by simpa using t, rfl⟩
theorem tkA_bad {s : ByteArray} (h : (tkA s).2.2 ≠ 0) : (tkA s).1 = [] := by
  unfold tkA at h ⊢
  by_cases hb : 400 < s.size
  · rw [if_pos hb]
  · rw [if_neg hb] at h ⊢
    exact (toksR_toks (rn s) (rn s).length 0 [] (by omega) (by omega)).2 h
theorem toks_tkA {s : ByteArray} {l : List Tok} (hs : s.size ≤ 400) (h : Toks (rn s) 0 l) : tkA s = (l, (rn s).length, 0) := by
  unfold tkA
  rw [if_neg (by omega), toks_toksR h (rn s) _ [] rfl (by omega) (by omega), List.nil_append]
theorem one_width {X : List Nat} (hne : X ≠ []) (h : (oneR X 0).2.2.2 = 0) : 0 < (oneR X 0).2.1 ∧ (oneR X 0).2.1 ≤ X.length := oneR_to X 0 (List.length_pos_iff.2 hne) h
theorem toks_places {X : List Nat} {b : Nat} {l : List Tok} (h : Toks X b l) : (∀ t ∈ l, (b : Int) ≤ t.2.2.2 ∧ t.2.2.2 < ((b + X.length : Nat) : Int)) ∧ l.Pairwise (fun x y => x.2.2.2 < y.2.2.2) := by
  induction h with
  | nil b => simp
  | blank h1 _ ih =>
    obtain ⟨a, p⟩ := ih
    refine ⟨fun t ht => ?_, p⟩
    have := a t ht
    rw [List.length_cons]; omega
  | @tok X b l hne h1 he _ ih =>
    obtain ⟨a, p⟩ := ih
    obtain ⟨w1, w2⟩ := one_width hne he
    rw [List.length_drop] at a
    refine ⟨fun t ht => ?_, List.pairwise_cons.2 ⟨fun t ht => ?_, p⟩⟩
    · rcases List.mem_cons.1 ht with rfl | ht
      · show (b : Int) ≤ (b : Int) ∧ (b : Int) < _
        have := List.length_pos_iff.2 hne; omega
      · have := a t ht; omega
    · have := a t ht
      show (b : Int) < _
      omega
end Go.Proofs.YtdkngidangfkiaaGreatDoor.Lex
namespace Go.Proofs.YtdkngidangfkiaaGreatDoor.Lex
open Go.RowKit
open Base Runes
open Go.Lib (encodeRune)
set_option linter.unusedVariables false
set_option linter.unusedSimpArgs false
theorem qt_yes {s : ByteArray} (h : ckE s = 0) : qtS s = ⟨(qt s.data.toList).toArray⟩ := by unfold qtS; rw [if_pos h]
theorem unq_back {s : ByteArray} (h : ckE s = 0) (he : uqE s = 0) : qtS (uqS s) = s := by
  cases hu : uq s.data.toList with
  | none => have := (uq_no h hu).2; omega
  | some u =>
    obtain ⟨h1, h2⟩ := uq_yes h hu
    have h3 := uq_some hu
    have hg : ckE (uqS s) = 0 := by rw [ckE_good, ← h1, ofList_data, ← good_qt, h3, ← ckE_good]; exact h
    rw [qt_yes hg, ← h1, ofList_data, h3]
def vN (n : Nat) (T : List Nat) : Nat := T.foldl (fun n r => 10 * n + (r - 48)) n
def DigR (T : List Nat) : Prop := ∀ r ∈ T, 48 ≤ r ∧ r ≤ 57
theorem numF_v (T : List Nat) : ∀ n : Nat, DigR T → numF (n : Int) T = (vN n T : Int) := by
  induction T with
  | nil => intro n _; rfl
  | cons r t ih =>
    intro n h
    have hr := h r (by simp)
    rw [numF, if_neg (by omega)]
    have e : 10 * (n : Int) + ((r : Int) - 48) = ((10 * n + (r - 48) : Nat) : Int) := by omega
    rw [e, ih _ (fun x hx => h x (by simp [hx]))]
    rfl
theorem dig_v : ∀ (f : Nat) (T : List Nat), T ≠ [] → DigR T → T.length ≤ f → (1 < T.length → T.getD 0 0 ≠ 48) → digF f (vN 0 T) = T.map UInt8.ofNat ∧ (T.getD 0 0 ≠ 48 → 1 ≤ vN 0 T)
  | 0, T, hne, _, hl, _ => by have := List.length_pos_iff.2 hne; omega
  | f + 1, T, hne, hd, hl, hz => by
    obtain ⟨U, d, rfl⟩ : ∃ U d, T = U ++ [d] := ⟨T.dropLast, T.getLast hne, (List.dropLast_concat_getLast hne).symm⟩
    have hdd := hd d (by simp)
    have ev : vN 0 (U ++ [d]) = 10 * vN 0 U + (d - 48) := by unfold vN; rw [List.foldl_append]; rfl
    rw [ev]
    by_cases hU : U = []
    · subst hU
      have e0 : vN 0 [] = 0 := rfl
      rw [e0, digF, if_pos (by omega)]
      refine ⟨?_, fun h => ?_⟩
      · rw [show 48 + (10 * 0 + (d - 48)) = d by omega]; rfl
      · have : d ≠ 48 := h
        omega
    · have hul := List.length_pos_iff.2 hU
      rw [List.length_append, List.length_singleton] at hl hz
      have hg : (U ++ [d]).getD 0 0 = U.getD 0 0 := by cases U with | nil => exact absurd rfl hU | cons a U => rfl
      rw [hg] at hz ⊢
      have h48 := hz (by omega)
      obtain ⟨i1, i2⟩ := dig_v f U hU (fun x hx => hd x (by simp [hx])) (by omega) (fun _ => h48)
      have h1 := i2 h48
      rw [digF, if_neg (by omega), show (10 * vN 0 U + (d - 48)) / 10 = vN 0 U by omega, i1, show 48 + (10 * vN 0 U + (d - 48)) % 10 = d by omega]
      exact ⟨by simp, fun _ => by omega⟩
theorem digR_good {T : List Nat} (h : DigR T) : GoodR T := fun r hr => by
  have := h r hr
  unfold cls; rw [if_neg (by omega), if_neg (by omega), if_pos (by omega)]; decide
theorem encL_dig (T : List Nat) (h : DigR T) : encL T = T.map UInt8.ofNat := by
  induction T with
  | nil => rfl
  | cons r t ih =>
    have hr := h r (by simp)
    have hg := digR_good h r (by simp)
    rcases (decode_encode r [] hg).2.1 with ⟨_, e⟩ | ⟨c, _⟩
    · have e2 : encL (r :: t) = encodeRune (r : Int) ++ encL t := rfl
      rw [e2, e, ih (fun x hx => h x (by simp [hx]))]; rfl
    · omega
theorem digB_num {T : List Nat} (hd : DigR T) (hn : ¬ numR T < 0) : digB (numR T) = encB T := by
  unfold numR at hn ⊢
  by_cases hc : T.length = 0 ∨ 9 < T.length ∨ (1 < T.length ∧ T.getD 0 0 = 48)
  · rw [if_pos hc] at hn; omega
  · rw [if_neg hc]
    have hne : T ≠ [] := fun h => hc (.inl (by rw [h]; rfl))
    have hv := numF_v T 0 hd
    rw [show numF 0 T = numF ((0 : Nat) : Int) T from rfl, hv]
    unfold digB encB
    rw [if_neg (by omega), Int.toNat_natCast, encL_dig T hd, (dig_v 20 T hne hd (by omega) (fun h h2 => hc (.inr (.inr ⟨h, h2⟩)))).1]
theorem run_all (q : Nat → Bool) (t : List Nat) : ∀ r ∈ t.take (runN q t), q r = true := by
  induction t with
  | nil => simp
  | cons c t ih =>
    rw [runN]
    by_cases h : q c = true
    · rw [if_pos h, List.take_succ_cons]
      intro r hr
      rcases List.mem_cons.1 hr with rfl | hr
      · exact h
      · exact ih r hr
    · rw [if_neg h]; simp
theorem head_tail {X : List Nat} (hne : X ≠ []) : X = X.getD 0 0 :: X.drop 1 := by
  cases X with
  | nil => exact absurd rfl hne
  | cons r t => rfl
theorem head_take {X : List Nat} (hne : X ≠ []) (n : Nat) : X.take (n + 1) = X.getD 0 0 :: (X.drop 1).take n := by
  cases X with
  | nil => exact absurd rfl hne
  | cons r t => rfl
theorem end_take {X : List Nat} (hne : X ≠ []) : X.take (endR X 0) = X.getD 0 0 :: (X.drop 1).take (runN (contR (X.getD 0 0)) (X.drop 1)) := by
  have e : endR X 0 = runN (contR (X.getD 0 0)) (X.drop 1) + 1 := by unfold endR; simp only [Nat.zero_add]; omega
  rw [e]
  conv => lhs; rw [head_tail hne, List.take_succ_cons]
  rw [← head_tail hne]
theorem word_good {r : Nat} (h : wordR r = true) : cls (r : Int) ≠ 0 := by
  unfold wordR at h
  rw [decide_eq_true_iff] at h
  rcases h with h | h | rfl | rfl
  · omega
  · omega
  · decide
  · decide
theorem small_good {r : Nat} (h : smallR r = true) : cls (r : Int) ≠ 0 := by
  unfold smallR at h
  rw [decide_eq_true_iff] at h
  unfold cls
  rw [if_neg (by omega), if_neg (by omega)]
  split
  · decide
  · rw [if_pos (by omega)]; decide
theorem end_good {X : List Nat} (hne : X ≠ []) (hc : cls (X.getD 0 0 : Nat) = 2 ∨ cls (X.getD 0 0 : Nat) = 3) : GoodR (X.take (endR X 0)) := by
  rw [end_take hne, goodR_cons]
  refine ⟨by omega, fun r hr => ?_⟩
  have h := run_all _ _ r hr
  unfold contR at h
  rcases hc with h2 | h3
  · rw [if_pos h2] at h; exact word_good h
  · rw [if_neg (by omega), if_pos h3] at h; exact small_good h
theorem scn_good : ∀ (n : Nat) (t : List Nat), t.length ≤ n → (scn t).1 = 0 → GoodR (t.take ((scn t).2 + 1))
  | _, [], _, h => by simp [scn_nil] at h
  | 0, _ :: _, hl, _ => by simp at hl
  | n + 1, r :: t, hl, h => by
    have hl2 : t.length ≤ n := by simpa using hl
    by_cases h34 : r = 34
    · subst h34; rw [scn_end, List.take_succ_cons, goodR_cons]; exact ⟨by decide, by simp [GoodR]⟩
    · by_cases hb : cls (r : Int) = 0
      · rw [scn_bad t h34 hb] at h; simp at h
      · by_cases h92 : r = 92
        · subst h92
          cases t with
          | nil => rw [scn_bs_end] at h; simp at h
          | cons d u =>
            by_cases hd : cls (d : Int) = 0
            · rw [scn_bs_bad u hd] at h; simp at h
            · rw [scn_bs u hd] at h ⊢
              rw [List.take_succ_cons, List.take_succ_cons, goodR_cons, goodR_cons]
              exact ⟨hb, hd, scn_good n u (by simp at hl2; omega) h⟩
        · obtain ⟨e1, e2⟩ := scn_on t h34 hb h92
          rw [e1] at h
          rw [e2 (by omega), List.take_succ_cons, goodR_cons]
          exact ⟨hb, scn_good n t hl2 h⟩
theorem one_is {X : List Nat} (hne : X ≠ []) (he : (oneR X 0).2.2.2 = 0) (b : Nat) :
    GoodR (X.take (oneR X 0).2.1) ∧ ((cls (X.getD 0 0 : Nat) = 2 ∧ (oneR X 0).1 = (1, lowS (encB (X.take (oneR X 0).2.1)), 0, 0)) ∨ wrB (atT (oneR X 0).1 b) = encB (X.take (oneR X 0).2.1)) := by
  unfold oneR textR at he ⊢
  unfold atT
  by_cases h0 : cls (X.getD 0 0 : Nat) = 0
  · rw [if_pos h0] at he; simp at he
  · rw [if_neg h0] at he ⊢
    by_cases h2 : cls (X.getD 0 0 : Nat) = 2
    · rw [if_pos h2]
      dsimp only
      exact ⟨end_good hne (.inl h2), .inl ⟨h2, by rw [cutR_zero]; rfl⟩⟩
    · rw [if_neg h2] at he ⊢
      by_cases h3 : cls (X.getD 0 0 : Nat) = 3
      · rw [if_pos h3] at he ⊢
        by_cases ha : anyL (cutR X 0 (endR X 0)) = true
        · rw [if_pos ha]
          dsimp only
          refine ⟨end_good hne (.inr h3), .inr ?_⟩
          rw [cutR_zero]; rfl
        · rw [if_neg ha] at he ⊢
          by_cases hn : numR (cutR X 0 (endR X 0)) < 0
          · rw [if_pos hn] at he; simp at he
          · rw [if_neg hn]
            dsimp only
            refine ⟨end_good hne (.inr h3), .inr ?_⟩
            show digB _ = _
            rw [cutR_zero] at ha hn ⊢
            refine digB_num (fun r hr => ?_) hn
            have hr97 : ¬ 97 ≤ r := fun h => ha (by unfold anyL; rw [List.any_eq_true]; exact ⟨r, hr, by rw [decide_eq_true_iff]; exact h⟩)
            rw [end_take hne] at hr
            rcases List.mem_cons.1 hr with rfl | hr
            · unfold cls at h3
              split at h3
              · omega
              · split at h3
                · omega
                · split at h3
                  · omega
                  · split at h3 <;> omega
            · have h := run_all _ _ r hr
              unfold contR at h
              rw [if_neg h2, if_pos h3] at h
              unfold smallR at h
              rw [decide_eq_true_iff] at h
              omega
      · rw [if_neg h3] at he ⊢
        by_cases h34 : X.getD 0 0 = 34
        · rw [if_pos h34] at he ⊢
          by_cases s1 : (scn (X.drop (0 + 1))).1 = 1
          · rw [if_pos s1] at he; simp at he
          · rw [if_neg s1] at he ⊢
            by_cases s0 : (scn (X.drop (0 + 1))).1 = 0
            · rw [if_pos s0] at he ⊢
              by_cases hu : uqE (encB (cutR X 0 (0 + (scn (X.drop (0 + 1))).2 + 2))) = 0
              · rw [if_pos hu]
                dsimp only
                have hg : GoodR (X.take (0 + (scn (X.drop (0 + 1))).2 + 2)) := by
                  rw [head_take hne, goodR_cons]
                  refine ⟨h0, ?_⟩
                  have := scn_good _ (X.drop 1) (Nat.le_refl _) s0
                  rw [Nat.zero_add]; exact this
                refine ⟨hg, .inr ?_⟩
                show qtS _ = _
                rw [cutR_zero] at hu ⊢
                exact unq_back (good_encB _ hg) hu
              · rw [if_neg hu] at he; simp at he
            · rw [if_neg s0] at he; simp at he
        · rw [if_neg h34] at he ⊢
          by_cases hs : X.getD 0 0 = 61 ∨ X.getD 0 0 = 58 ∨ X.getD 0 0 = 44 ∨ X.getD 0 0 = 45
          · rw [if_pos hs]
            dsimp only
            refine ⟨?_, .inr (by rw [cutR_zero]; rfl)⟩
            rw [head_tail hne, Nat.zero_add, List.take_succ_cons, goodR_cons]
            exact ⟨h0, by simp [GoodR]⟩
          · rw [if_neg hs] at he; simp at he
theorem toks_good {X : List Nat} {b : Nat} {l : List Tok} (h : Toks X b l) : GoodR X := by
  induction h with
  | nil b => exact GoodR.nil
  | blank h1 _ ih => exact goodR_cons.2 ⟨by omega, ih⟩
  | @tok X b l hne h1 he _ ih =>
    have := goodR_append.2 ⟨(one_is hne he 0).1, ih⟩
    rwa [List.take_append_drop] at this
theorem chE_of (t : Tok) (T : List Nat) (hw : wrB t = encB T) (hg : GoodR T) (hs : (encB T).size ≤ 400) (hne : T ≠ []) (h1 : cls (T.getD 0 0 : Nat) ≠ 1) (he : (oneR T 0).2.2.2 = 0) (hl : (oneR T 0).2.1 = T.length)
    (e1 : (oneR T 0).1.1 = t.1) (e2 : (oneR T 0).1.2.1 = t.2.1) (e3 : (oneR T 0).1.2.2.1 = t.2.2.1) : chE t = 0 := by
  have h : Toks T 0 [atT (oneR T 0).1 0] := .tok hne h1 he (by rw [hl, List.drop_length]; exact .nil _)
  have h2 := toks_tkA (s := wrB t) (l := [atT (oneR T 0).1 0]) (by rw [hw]; exact hs) (by rw [hw, rn_encB T hg]; exact h)
  unfold chE
  rw [h2]
  exact (if_pos rfl).trans (if_pos ⟨e1, e2, e3⟩)
theorem encB_size_append (a b : List Nat) : (encB (a ++ b)).size = (encB a).size + (encB b).size := by
  rw [Lib.size_eq, Lib.size_eq, Lib.size_eq, encB_data, encB_data, encB_data, encL_append, List.length_append]
theorem mk_more (u : List UInt8) : u.length ≤ (mk u).length := by
  induction u with
  | nil => simp
  | cons b t ih => rw [mk_cons, List.length_append, List.length_cons]; split <;> simp only [List.length_cons, List.length_nil] <;> omega
theorem uqS_small (s : ByteArray) : (uqS s).size ≤ s.size := by
  unfold uqS
  split
  · cases hu : uq s.data.toList with
    | none => exact Nat.zero_le _
    | some u =>
      have h5 := congrArg List.length (uq_some hu)
      rw [Lib.size_eq, Lib.size_eq, ← h5]
      show u.length ≤ _
      unfold qt
      have := mk_more u
      rw [List.length_cons, List.length_append]; omega
  · exact Nat.zero_le _
theorem one_small {X : List Nat} (he : (oneR X 0).2.2.2 = 0) (hs : (encB (X.take (oneR X 0).2.1)).size ≤ 400) : (oneR X 0).1.2.1.size ≤ 400 ∧ (oneR X 0).1.2.2.1 ≤ 1000000000 := by
  have hz : (⟨#[]⟩ : ByteArray).size = 0 := rfl
  unfold oneR textR at he hs ⊢
  by_cases h0 : cls (X.getD 0 0 : Nat) = 0
  · rw [if_pos h0] at he; simp at he
  · rw [if_neg h0] at he hs ⊢
    by_cases h2 : cls (X.getD 0 0 : Nat) = 2
    · rw [if_pos h2] at hs ⊢
      dsimp only at hs ⊢
      rw [cutR_zero, Lib.size_eq]; unfold lowS; rw [ofList_data, List.length_map, ← Lib.size_eq]
      exact ⟨hs, by decide⟩
    · rw [if_neg h2] at he hs ⊢
      by_cases h3 : cls (X.getD 0 0 : Nat) = 3
      · rw [if_pos h3] at he hs ⊢
        by_cases ha : anyL (cutR X 0 (endR X 0)) = true
        · rw [if_pos ha] at hs ⊢
          dsimp only at hs ⊢
          rw [cutR_zero]; exact ⟨hs, by decide⟩
        · rw [if_neg ha] at he hs ⊢
          by_cases hn : numR (cutR X 0 (endR X 0)) < 0
          · rw [if_pos hn] at he; simp at he
          · rw [if_neg hn]
            dsimp only
            refine ⟨by rw [hz]; omega, ?_⟩
            unfold numR at hn ⊢
            split
            · omega
            · rename_i hc
              have h1 := numF_bound (cutR X 0 (endR X 0)) 0 0 (by omega) (by decide)
              have h2 := pow9 (0 + (cutR X 0 (endR X 0)).length) (by omega)
              have h3 : (10 : Int) ^ 9 = 1000000000 := by decide
              omega
      · rw [if_neg h3] at he hs ⊢
        by_cases h34 : X.getD 0 0 = 34
        · rw [if_pos h34] at he hs ⊢
          by_cases s1 : (scn (X.drop (0 + 1))).1 = 1
          · rw [if_pos s1] at he; simp at he
          · rw [if_neg s1] at he hs ⊢
            by_cases s0 : (scn (X.drop (0 + 1))).1 = 0
            · rw [if_pos s0] at he hs ⊢
              by_cases hu : uqE (encB (cutR X 0 (0 + (scn (X.drop (0 + 1))).2 + 2))) = 0
              · rw [if_pos hu] at hs ⊢
                dsimp only at hs ⊢
                rw [cutR_zero]
                have := uqS_small (encB (X.take (0 + (scn (X.drop (0 + 1))).2 + 2)))
                exact ⟨by omega, by decide⟩
              · rw [if_neg hu] at he; simp at he
            · rw [if_neg s0] at he; simp at he
        · rw [if_neg h34] at he hs ⊢
          by_cases hq : X.getD 0 0 = 61 ∨ X.getD 0 0 = 58 ∨ X.getD 0 0 = 44 ∨ X.getD 0 0 = 45
          · rw [if_pos hq] at hs ⊢
            dsimp only at hs ⊢
            rw [cutR_zero]; exact ⟨hs, by decide⟩
          · rw [if_neg hq] at he; simp at he
theorem toks_small {X : List Nat} {b : Nat} {l : List Tok} (h : Toks X b l) : (encB X).size ≤ 400 → l.length ≤ X.length ∧ ∀ t ∈ l, t.2.1.size ≤ 400 ∧ t.2.2.1 ≤ 1000000000 := by
  induction h with
  | nil b => intro _; exact ⟨Nat.le_refl _, fun t ht => by simp at ht⟩
  | @blank r X b l h1 _ ih =>
    intro hs
    have := encB_size_append [r] X
    rw [List.singleton_append] at this
    obtain ⟨a, b⟩ := ih (by omega)
    exact ⟨by rw [List.length_cons]; omega, b⟩
  | @tok X b l hne h1 he _ ih =>
    intro hs
    have := encB_size_append (X.take (oneR X 0).2.1) (X.drop (oneR X 0).2.1)
    rw [List.take_append_drop] at this
    obtain ⟨w1, w2⟩ := one_width hne he
    obtain ⟨p, q⟩ := ih (by omega)
    rw [List.length_drop] at p
    refine ⟨by rw [List.length_cons]; omega, fun t ht => ?_⟩
    rcases List.mem_cons.1 ht with rfl | ht
    · exact one_small he (by omega)
    · exact q t ht
theorem line_small {s : ByteArray} (h : (tkA s).2.2 = 0) : s.size ≤ 400 ∧ (tkA s).1.length ≤ 400 ∧ ∀ t ∈ (tkA s).1, t.2.1.size ≤ 400 ∧ t.2.2.1 ≤ 1000000000 := by
  obtain ⟨h1, h2, _⟩ := tkA_toks h
  obtain ⟨a, b⟩ := toks_small h2 (by rw [encB_rn (toks_good h2)]; exact h1)
  have := cn_le s
  rw [rn_length] at a
  exact ⟨h1, by omega, b⟩
end Go.Proofs.YtdkngidangfkiaaGreatDoor.Lex
namespace Go.Proofs.YtdkngidangfkiaaGreatDoor.Lex
open Go.RowKit
open Base Runes
open Go.Lib (encodeRune decodeL decodeL_le decodeL_width)
set_option linter.unusedVariables false
set_option linter.unusedSimpArgs false
inductive Mo where
  | no
  | word
  | time
  | text (m e : Bool)
def Mo.q : Mo → Nat → Bool
  | .no, _ => false
  | .word, r => wordR r
  | .time, r => smallR r
  | .text _ e, _ => !e
def Mo.nx : Mo → Nat → Mo
  | .text m e, r => if e = true then .text m e else .text (r == 92 && !m) (r == 34 && !m)
  | m, _ => m
def beg (r : Nat) : Mo := if cls (r : Int) = 2 then .word else if cls (r : Int) = 3 then .time else if r = 34 then .text false false else .no
def runM : Mo → List Nat → Nat
  | _, [] => 0
  | m, r :: t => if m.q r = true then runM (m.nx r) t + 1 else 0
theorem runM_le (m : Mo) (l : List Nat) : runM m l ≤ l.length := by
  induction l generalizing m with
  | nil => simp [runM]
  | cons r t ih => rw [runM, List.length_cons]; split; have := ih (m.nx r); omega; omega
theorem runM_no (l : List Nat) : runM .no l = 0 := by cases l <;> rfl
theorem runM_word (l : List Nat) : runM .word l = runN wordR l := by
  induction l with
  | nil => rfl
  | cons r t ih => rw [runM, runN, ← ih]; rfl
theorem runM_time (l : List Nat) : runM .time l = runN smallR l := by
  induction l with
  | nil => rfl
  | cons r t ih => rw [runM, runN, ← ih]; rfl
def grp : Mo → List UInt8 → List (Nat × List UInt8) → List (List UInt8)
  | _, cur, [] => if cur = [] then [] else [cur]
  | m, cur, q :: t => if m.q q.1 = true then grp (m.nx q.1) (cur ++ q.2) t else (if cur = [] then [] else [cur]) ++ grp (beg q.1) q.2 t
def toB (l : List UInt8) : ByteArray := ⟨l.toArray⟩
theorem toB_data (l : List UInt8) : (toB l).data.toList = l := rfl
def pcs (s : ByteArray) : List ByteArray := (grp .no [] (ps s 0)).map toB
theorem grp_run (m : Mo) (cur : List UInt8) (hc : cur ≠ []) (t : List (Nat × List UInt8)) :
    grp m cur t = (cur ++ (t.take (runM m (t.map (·.1)))).flatMap (·.2)) :: grp .no [] (t.drop (runM m (t.map (·.1)))) := by
  induction t generalizing m cur with
  | nil => simp [grp, hc]
  | cons q t ih =>
    rw [grp, List.map_cons, runM]
    by_cases h : m.q q.1 = true
    · rw [if_pos h, if_pos h, ih _ _ (by simp [hc]), List.take_succ_cons, List.flatMap_cons, List.drop_succ_cons, List.append_assoc]
    · rw [if_neg h, if_neg h, if_neg hc]
      simp [grp, Mo.q]
theorem cut_take (n : Nat) (l : List UInt8) : pc (l.take (plc n (pc l))) = (pc l).take n := by
  by_cases hn : n ≤ (pc l).length
  · induction n generalizing l with
    | zero => simp [plc, pc_nil]
    | succ n ih =>
      have hne : l ≠ [] := by rintro rfl; simp [pc_nil] at hn
      have hle := decodeL_le l hne
      have hw := decodeL_width l
      rw [pc_step l hne] at hn ⊢
      have hn2 : n ≤ (pc (l.drop (decodeL l).2)).length := by simpa using hn
      rw [plc, List.length_take, Nat.min_eq_left hle]
      obtain ⟨j, hj⟩ : ∃ j, j = plc n (pc (l.drop (decodeL l).2)) := ⟨_, rfl⟩
      rw [← hj]
      have hxl : (l.take ((decodeL l).2 + j)).length = min ((decodeL l).2 + j) l.length := List.length_take
      have hxne : l.take ((decodeL l).2 + j) ≠ [] := by
        intro h0; rw [h0] at hxl; simp at hxl; have := List.length_pos_iff.2 hne; omega
      have htk : ∀ k, k ≤ (decodeL l).2 + j → (l.take ((decodeL l).2 + j)).take k = l.take k := fun k hk => by rw [List.take_take, Nat.min_eq_left hk]
      have hg : (l.take ((decodeL l).2 + j)).getD 0 0 = l.getD 0 0 := by
        cases l with
        | nil => exact absurd rfl hne
        | cons b t =>
          obtain ⟨k, hk⟩ : ∃ k, (decodeL (b :: t)).2 + j = k + 1 := ⟨(decodeL (b :: t)).2 + j - 1, by omega⟩
          rw [hk]; rfl
      have hd : decodeL (l.take ((decodeL l).2 + j)) = decodeL l := by
        rcases dec_cases l hne with ⟨h, e⟩ | ⟨h, e⟩ | ⟨h1, h2, h3, h4⟩
        · rcases dec_cases _ hxne with ⟨k, f⟩ | ⟨k, f⟩ | ⟨k1, k2, k3, k4⟩
          · rw [f, hg]; exact e.symm
          · rw [hg] at k; omega
          · have hle2 := decodeL_le _ hxne
            exact (k4 l (by rw [hxl] at hle2; omega) (by rw [htk _ (by rw [hxl] at hle2; omega)])).symm
        · rcases dec_cases _ hxne with ⟨k, f⟩ | ⟨k, f⟩ | ⟨k1, k2, k3, k4⟩
          · rw [hg] at k; omega
          · rw [f, e]
          · have hle2 := decodeL_le _ hxne
            exact (k4 l (by rw [hxl] at hle2; omega) (by rw [htk _ (by rw [hxl] at hle2; omega)])).symm
        · exact h4 _ (by rw [hxl]; omega) (htk _ (by omega))
      rw [pc_step _ hxne, hd, htk _ (by omega), List.drop_take, Nat.add_sub_cancel_left, hj, ih _ hn2, List.take_succ_cons]
  · have h1 : ∀ (n : Nat) (q : List (Nat × List UInt8)), q.length ≤ n → plc n q = plc q.length q := by
      intro n q
      induction q generalizing n with
      | nil => intro _; cases n <;> rfl
      | cons a t ih => intro h; cases n with
        | zero => simp at h
        | succ n => rw [plc, List.length_cons, plc, ih n (by simpa using h)]
    rw [h1 n _ (by omega), plc_all, List.take_of_length_le (Nat.le_refl _), List.take_of_length_le (by omega)]
theorem flat_take (n : Nat) (l : List UInt8) : ((pc l).take n).flatMap (·.2) = l.take (plc n (pc l)) := by
  rw [← cut_take, pc_bytes]
theorem cut_mid (l : List UInt8) (i n : Nat) (hi : i ≤ (pc l).length) : pc ((((pc l).drop i).take n).flatMap (·.2)) = ((pc l).drop i).take n := by
  rw [← cut_back i l hi, flat_take, cut_take]
def wid (R : List Nat) (i : Nat) : Nat := runM (beg (R.getD i 0)) (R.drop (i + 1)) + 1
def pieceAt (s : ByteArray) (i : Nat) : ByteArray := toB ((((ps s 0).drop i).take (wid (rn s) i)).flatMap (·.2))
theorem rn_drop (s : ByteArray) (i : Nat) : ((ps s 0).drop i).map (·.1) = (rn s).drop i := by unfold rn; rw [List.map_drop]
theorem rn_getD (s : ByteArray) (i : Nat) (hi : i < (ps s 0).length) : ((ps s 0)[i]).1 = (rn s).getD i 0 := by
  unfold rn; simp [List.getD, hi]
theorem grp_step (s : ByteArray) (i : Nat) (hi : i < (rn s).length) :
    (grp .no [] ((ps s 0).drop i)).map toB = pieceAt s i :: (grp .no [] ((ps s 0).drop (i + wid (rn s) i))).map toB := by
  have hi2 : i < (ps s 0).length := by unfold rn at hi; simpa using hi
  have hbne : ((ps s 0)[i]).2 ≠ [] := by
    have h : ∀ (l : List UInt8), ∀ q ∈ pc l, q.2 ≠ [] := by
      intro l
      induction l using pc_ind with
      | h0 => simp [pc_nil]
      | h1 l hne ih =>
        rw [pc_step l hne]
        intro q hq
        rcases List.mem_cons.1 hq with rfl | hq
        · have hw := decodeL_width l
          have hl := List.length_pos_iff.2 hne
          intro h0
          have := congrArg List.length h0
          rw [List.length_take, List.length_nil] at this
          omega
        · exact ih q hq
    exact h _ _ (List.getElem_mem hi2)
  rw [List.drop_eq_getElem_cons hi2, grp]
  rw [if_neg (by simp [Mo.q]), if_pos rfl, List.nil_append, grp_run _ _ hbne, List.map_cons, rn_drop, rn_getD s i hi2]
  congr 1
  · unfold pieceAt wid
    rw [List.drop_eq_getElem_cons hi2, List.take_succ_cons, List.flatMap_cons]
  · unfold wid
    rw [List.drop_drop]
    congr 3
    omega
theorem ps_piece (s : ByteArray) (i : Nat) (hi : i < (rn s).length) : ps (pieceAt s i) 0 = ((ps s 0).drop i).take (wid (rn s) i) := by
  unfold pieceAt
  rw [ps_zero, toB_data]
  have h : i ≤ (pc s.data.toList).length := by unfold rn at hi; rw [List.length_map] at hi; exact Nat.le_of_lt hi
  exact cut_mid s.data.toList i _ h
theorem wid_le (R : List Nat) (i : Nat) (hi : i < R.length) : 0 < wid R i ∧ i + wid R i ≤ R.length := by
  have := runM_le (beg (R.getD i 0)) (R.drop (i + 1))
  rw [List.length_drop] at this
  unfold wid; omega
theorem rn_piece (s : ByteArray) (i : Nat) (hi : i < (rn s).length) : rn (pieceAt s i) = cutR (rn s) i (i + wid (rn s) i) := by
  have h : rn (pieceAt s i) = (ps (pieceAt s i) 0).map (·.1) := rfl
  rw [h, ps_piece s i hi, List.map_take, rn_drop]
  unfold cutR
  rw [Nat.add_sub_cancel_left]
theorem rn_piece2 (s : ByteArray) (i : Nat) (hi : i < (rn s).length) : rn (pieceAt s i) = (rn s).getD i 0 :: ((rn s).drop (i + 1)).take (runM (beg ((rn s).getD i 0)) ((rn s).drop (i + 1))) := by
  rw [rn_piece s i hi]
  unfold cutR wid
  rw [Nat.add_sub_cancel_left, drop_cons _ i hi, List.take_succ_cons]
theorem cn_piece (s : ByteArray) (i : Nat) (hi : i < (rn s).length) : cn (pieceAt s i) = wid (rn s) i := by
  rw [← rn_length, rn_piece s i hi, cutR_length _ _ _ (wid_le _ i hi).2]; omega
end Go.Proofs.YtdkngidangfkiaaGreatDoor.Lex
namespace Go.Proofs.YtdkngidangfkiaaGreatDoor.Lex
open Go.RowKit
open Base Runes
open Go.Lib (encodeRune decodeL decodeL_le decodeL_width)
set_option linter.unusedVariables false
set_option linter.unusedSimpArgs false
def chkR : Nat → List Nat → Nat × Bool
  | n, [] => (n, false)
  | n, r :: t => if cls (r : Int) = 0 then (n, true) else chkR (n + 1) t
theorem chk_map (n : Nat) (q : List (Nat × List UInt8)) : chk n q = chkR n (q.map (·.1)) := by
  induction q generalizing n with
  | nil => rfl
  | cons a t ih => rw [chk, List.map_cons, chkR, ih]
theorem chkR_good (l : List Nat) : ∀ n, GoodR l → chkR n l = (n + l.length, false) := by
  induction l with
  | nil => intro n _; rfl
  | cons r t ih =>
    intro n h
    rw [goodR_cons] at h
    rw [chkR, if_neg h.1, ih _ h.2, List.length_cons]
    congr 1; omega
theorem ck_rn (s : ByteArray) : ckN s = (chkR 0 (rn s)).1 ∧ ckE s = if (chkR 0 (rn s)).2 = true then 40 else 0 := by
  unfold ckN ckE
  rw [chk_map]
  exact ⟨rfl, rfl⟩
theorem ck_good {s : ByteArray} (h : GoodR (rn s)) : ckE s = 0 := by rw [(ck_rn s).2, chkR_good _ _ h]; rfl
theorem runM_end (m : Bool) (l : List Nat) : runM (.text m true) l = 0 := by cases l <;> rfl
theorem runM_text (m : Bool) (r : Nat) (t : List Nat) : runM (.text m false) (r :: t) = runM (.text (r == 92 && !m) (r == 34 && !m)) t + 1 := by
  rw [runM, if_pos (by rfl)]; rfl
theorem scn_run : ∀ (n : Nat) (Y : List Nat), Y.length ≤ n →
    ((scn Y).1 = 0 → runM (.text false false) Y = (scn Y).2 + 1) ∧
    ((scn Y).1 = 1 → ∀ k, chkR k (Y.take (runM (.text false false) Y)) = (k + (scn Y).2, true)) ∧
    ((scn Y).1 ≠ 0 → (scn Y).1 ≠ 1 → (scn Y).1 = 2 ∧ runM (.text false false) Y = Y.length ∧ GoodR Y)
  | _, [], _ => by
    refine ⟨fun h => ?_, fun h => ?_, fun _ _ => ⟨rfl, rfl, GoodR.nil⟩⟩ <;> simp [scn_nil] at h
  | 0, _ :: _, hl => by simp at hl
  | n + 1, r :: t, hl => by
    have hl2 : t.length ≤ n := by simpa using hl
    by_cases h34 : r = 34
    · subst h34
      rw [scn_end, runM_text]
      have e : runM (.text ((34 : Nat) == 92 && !false) ((34 : Nat) == 34 && !false)) t = 0 := runM_end _ _
      rw [e]
      exact ⟨fun _ => rfl, fun h => by simp at h, fun h => by simp at h⟩
    · have b34 : (r == 34 && !false) = false := by simp [h34]
      rw [runM_text, b34]
      by_cases hb : cls (r : Int) = 0
      · rw [scn_bad t h34 hb]
        refine ⟨fun h => by simp at h, fun _ k => ?_, fun _ h => by simp at h⟩
        rw [List.take_succ_cons, chkR, if_pos hb]; rfl
      · by_cases h92 : r = 92
        · subst h92
          have b92 : ((92 : Nat) == 92 && !false) = true := rfl
          rw [b92]
          cases t with
          | nil =>
            rw [scn_bs_end]
            exact ⟨fun h => by simp at h, fun h => by simp at h, fun _ _ => ⟨rfl, rfl, by rw [goodR_cons]; exact ⟨hb, GoodR.nil⟩⟩⟩
          | cons d u =>
            have bd : runM (.text true false) (d :: u) = runM (.text false false) u + 1 := by
              rw [runM_text]
              have e1 : (d == 92 && !true) = false := by simp
              have e2 : (d == 34 && !true) = false := by simp
              rw [e1, e2]
            rw [bd]
            by_cases hd : cls (d : Int) = 0
            · rw [scn_bs_bad u hd]
              refine ⟨fun h => by simp at h, fun _ k => ?_, fun _ h => by simp at h⟩
              rw [List.take_succ_cons, chkR, if_neg hb, List.take_succ_cons, chkR, if_pos hd]
            · obtain ⟨a, b, c⟩ := scn_run n u (by simp at hl2; omega)
              rw [scn_bs u hd]
              refine ⟨fun h => by dsimp only at h ⊢; rw [a h], fun h k => ?_, fun h0 h1 => ?_⟩
              · dsimp only at h ⊢
                rw [List.take_succ_cons, chkR, if_neg hb, List.take_succ_cons, chkR, if_neg hd, b h]
                congr 1; omega
              · dsimp only at h0 h1 ⊢
                obtain ⟨c1, c2, c3⟩ := c h0 h1
                exact ⟨c1, by rw [c2, List.length_cons, List.length_cons], by rw [goodR_cons, goodR_cons]; exact ⟨hb, hd, c3⟩⟩
        · obtain ⟨e1, e2⟩ := scn_on t h34 hb h92
          obtain ⟨a, b, c⟩ := scn_run n t hl2
          have b92 : (r == 92 && !false) = false := by simp [h92]
          rw [b92, e1]
          refine ⟨fun h => by rw [a h, e2 (by omega)], fun h k => ?_, fun h0 h1 => ?_⟩
          · rw [List.take_succ_cons, chkR, if_neg hb, b h, e2 (by omega)]
            congr 1; omega
          · obtain ⟨c1, c2, c3⟩ := c h0 h1
            exact ⟨c1, by rw [c2, List.length_cons], by rw [goodR_cons]; exact ⟨hb, c3⟩⟩
theorem unR_scn : ∀ (n : Nat) (L : List (Nat × List UInt8)), L.length ≤ n → (∀ q ∈ L, cls (q.1 : Int) ≠ 0) → unR L false ≠ none → (scn (L.map (·.1) ++ [34])).1 = 0
  | _, [], _, _, _ => rfl
  | 0, _ :: _, hl, _, _ => by simp at hl
  | n + 1, q :: t, hl, hg, hu => by
    have hl2 : t.length ≤ n := by simpa using hl
    simp only [List.mem_cons, forall_eq_or_imp] at hg
    rw [List.map_cons, List.cons_append]
    by_cases h92 : q.1 = 92
    · rw [unR, if_pos ⟨h92, rfl⟩] at hu
      rw [h92]
      cases t with
      | nil => exact absurd rfl hu
      | cons c u =>
        simp only [List.mem_cons, forall_eq_or_imp] at hg
        rw [unR, if_neg (by simp)] at hu
        split at hu
        · exact absurd rfl hu
        · rw [List.map_cons, List.cons_append, scn_bs _ hg.2.1]
          refine unR_scn n u (by simp at hl2; omega) hg.2.2 fun h => ?_
          rw [h] at hu; exact hu rfl
    · rw [unR, if_neg (fun x => h92 x.1)] at hu
      split at hu
      · exact absurd rfl hu
      · rename_i hm
        have h34 : q.1 ≠ 34 := by
          intro h; apply hm; rw [h]; decide
        obtain ⟨e1, _⟩ := scn_on (t.map (·.1) ++ [34]) h34 hg.1 h92
        rw [e1]
        refine unR_scn n t hl2 hg.2 fun h => ?_
        rw [h] at hu; exact hu rfl
theorem uq_open {Y : List Nat} (hg : GoodR (34 :: Y)) (h : (scn Y).1 ≠ 0) : uqE (encB (34 :: Y)) = 50 := by
  have hE := good_encB _ hg
  refine (uq_no hE ?_).2.symm
  unfold uq
  split
  · rename_i hs
    have hgi : Runes.Good (inner (encB (34 :: Y)).data.toList) := good_inner hs ((ckE_good _).1 hE)
    have h1 := shut_eq hs
    cases hu : unB (inner (encB (34 :: Y)).data.toList) false with
    | none => rfl
    | some u =>
      exfalso
      apply h
      have e1 : pc (encB (34 :: Y)).data.toList = (34 :: Y).map fun r : Nat => (r, encodeRune (r : Int)) := pc_encL _ hg
      rw [h1, pc_ascii 34 _ (by decide), pc_append _ 34 [] (by decide)] at e1
      have e2 := congrArg (fun l => (l.map (·.1)).drop 1) e1
      simp only [List.map_cons, List.drop_succ_cons, List.drop_zero, List.map_append, List.map_map, pc_nil, List.map_nil] at e2
      have e3 : Y = (pc (inner (encB (34 :: Y)).data.toList)).map (·.1) ++ [34] := by
        conv => lhs; rw [← List.map_id Y]
        exact e2.symm
      rw [e3]
      refine unR_scn _ _ (Nat.le_refl _) hgi ?_
      rw [un_good _ hgi, hu]
      simp
  · rfl
def anyS (l : List Nat) : Bool := l.any fun r : Nat => decide (97 ≤ r ∧ r ≤ 122)
def tokI (z : ByteArray) : Tok × Nat × Int :=
  if ckE z ≠ 0 then (zT, ckN z, ckE z)
  else if cls ((rn z).getD 0 0 : Nat) = 1 then (zT, 0, 0)
  else if cls ((rn z).getD 0 0 : Nat) = 2 then ((1, lowS z, 0, 0), 0, 0)
  else if cls ((rn z).getD 0 0 : Nat) = 3 then
    (if anyS (rn z) = true then ((3, z, 0, 0), 0, 0) else if numR (rn z) < 0 then ((2, ⟨#[]⟩, 0, 0), 0, 50) else ((2, ⟨#[]⟩, numR (rn z), 0), 0, 0))
  else if (rn z).getD 0 0 = 34 then ((4, uqS z, 0, 0), 0, uqE z)
  else if (rn z).getD 0 0 = 61 ∨ (rn z).getD 0 0 = 58 ∨ (rn z).getD 0 0 = 44 ∨ (rn z).getD 0 0 = 45 then ((5, z, 0, 0), 0, 0)
  else (zT, 0, 50)
def PieceOk (z : ByteArray) : Prop := rn z ≠ [] ∧ (cls ((rn z).getD 0 0 : Nat) = 3 → ∀ r ∈ rn z, smallR r = true)
theorem any_small {l : List Nat} (h : ∀ r ∈ l, smallR r = true) : anyS l = anyL l := by
  unfold anyS anyL
  rw [Bool.eq_iff_iff, List.any_eq_true, List.any_eq_true]
  constructor
  · rintro ⟨r, hr, h1⟩
    rw [decide_eq_true_iff] at h1
    exact ⟨r, hr, by rw [decide_eq_true_iff]; omega⟩
  · rintro ⟨r, hr, h1⟩
    have h2 := h r hr
    unfold smallR at h2
    rw [decide_eq_true_iff] at h1 h2
    exact ⟨r, hr, by rw [decide_eq_true_iff]; omega⟩
theorem cls_four (r : Int) : cls r = 0 ∨ cls r = 1 ∨ cls r = 2 ∨ cls r = 3 ∨ cls r = 4 := by
  unfold cls
  repeat' split
  all_goals simp
theorem beg_no {r : Nat} (h2 : cls (r : Int) ≠ 2) (h3 : cls (r : Int) ≠ 3) (h : r ≠ 34) : beg r = .no := by
  unfold beg; rw [if_neg h2, if_neg h3, if_neg h]
theorem cls_small {r : Nat} (h : cls (r : Int) = 3) : smallR r = true := by
  unfold smallR
  rw [decide_eq_true_iff]
  unfold cls at h
  split at h
  · simp at h
  · split at h
    · simp at h
    · split at h
      · omega
      · split at h <;> simp at h
theorem piece_ok (s : ByteArray) (i : Nat) (hi : i < (rn s).length) : PieceOk (pieceAt s i) := by
  unfold PieceOk
  rw [rn_piece2 s i hi]
  refine ⟨by simp, fun h r hr => ?_⟩
  have h3 : cls ((rn s).getD i 0 : Nat) = 3 := h
  rcases List.mem_cons.1 hr with rfl | hr
  · exact cls_small h3
  · have hb : beg ((rn s).getD i 0) = .time := by unfold beg; rw [if_neg (by omega), if_pos h3]
    rw [hb, runM_time] at hr
    exact run_all _ _ r hr
theorem step_tok (s : ByteArray) (i : Nat) (hi : i < (rn s).length) :
    (cls ((rn s).getD i 0 : Nat) = 1 → tokI (pieceAt s i) = (zT, 0, 0) ∧ wid (rn s) i = 1) ∧
    (cls ((rn s).getD i 0 : Nat) ≠ 1 → (oneR (rn s) i).2.2.2 = 0 → (tokI (pieceAt s i)).2.2 = 0 ∧ (tokI (pieceAt s i)).1.1 ≠ 0 ∧ atT (tokI (pieceAt s i)).1 i = (oneR (rn s) i).1 ∧ i + wid (rn s) i = (oneR (rn s) i).2.1) ∧
    (cls ((rn s).getD i 0 : Nat) ≠ 1 → (oneR (rn s) i).2.2.2 ≠ 0 → (tokI (pieceAt s i)).2.2 = (oneR (rn s) i).2.2.2 ∧ i + (tokI (pieceAt s i)).2.1 = (oneR (rn s) i).2.2.1) := by
  obtain ⟨r, hr⟩ : ∃ r, r = (rn s).getD i 0 := ⟨_, rfl⟩
  obtain ⟨Y, hY⟩ : ∃ Y, Y = (rn s).drop (i + 1) := ⟨_, rfl⟩
  have hrn := rn_piece2 s i hi
  have hcut := rn_piece s i hi
  have hwd : wid (rn s) i = runM (beg r) Y + 1 := by rw [hr, hY]; rfl
  rw [← hr, ← hY] at hrn
  have hg0 : (rn (pieceAt s i)).getD 0 0 = r := by rw [hrn]; rfl
  have hend : endR (rn s) i = i + 1 + runN (contR r) Y := by rw [hr, hY]; rfl
  unfold oneR textR
  rw [← hr, ← hY]
  obtain ⟨z, hz⟩ : ∃ z, z = pieceAt s i := ⟨_, rfl⟩
  rw [← hz] at hrn hcut hg0 ⊢
  unfold tokI
  rw [hg0]
  rcases cls_four (r : Int) with h0 | h1 | h2 | h3 | h4
  · 
    have h34 : r ≠ 34 := by rintro rfl; revert h0; decide
    rw [beg_no (by omega) (by omega) h34, runM_no] at hrn hwd
    rw [List.take_zero] at hrn
    have hk := ck_rn z
    rw [hrn] at hk
    simp only [chkR, h0, if_true] at hk
    rw [if_pos h0, hk.2, hk.1, if_pos (by decide)]
    exact ⟨fun h => by omega, fun _ h => by simp at h, fun _ _ => ⟨rfl, rfl⟩⟩
  · 
    have h34 : r ≠ 34 := by rintro rfl; revert h1; decide
    rw [beg_no (by omega) (by omega) h34, runM_no] at hrn hwd
    rw [List.take_zero] at hrn
    have hk := ck_good (s := z) (by rw [hrn, goodR_cons]; exact ⟨by omega, GoodR.nil⟩)
    rw [if_neg (by omega : ¬ ckE z ≠ 0), if_pos h1]
    exact ⟨fun _ => ⟨rfl, hwd⟩, fun h => absurd h1 h, fun h => absurd h1 h⟩
  · 
    have hb : beg r = .word := by unfold beg; rw [if_pos h2]
    have hc : contR r = wordR := by funext x; unfold contR; rw [if_pos h2]
    rw [hb, runM_word] at hrn hwd
    rw [hc] at hend
    have hee : endR (rn s) i = i + wid (rn s) i := by rw [hend, hwd]; omega
    have hgd : GoodR (rn z) := by
      rw [hrn, goodR_cons]; exact ⟨by omega, fun x hx => word_good (run_all _ _ x hx)⟩
    have hk := ck_good hgd
    rw [if_neg (by omega : ¬ ckE z ≠ 0), if_neg (by omega : ¬ cls (r : Int) = 1), if_pos h2, if_neg (by omega : ¬ cls (r : Int) = 0), if_pos h2, hee, ← hcut, encB_rn hgd]
    exact ⟨fun h => by omega, fun _ _ => ⟨rfl, by simp, rfl, rfl⟩, fun _ h => absurd rfl h⟩
  · 
    have hb : beg r = .time := by unfold beg; rw [if_neg (by omega), if_pos h3]
    have hc : contR r = smallR := by funext x; unfold contR; rw [if_neg (by omega), if_pos h3]
    rw [hb, runM_time] at hrn hwd
    rw [hc] at hend
    have hee : endR (rn s) i = i + wid (rn s) i := by rw [hend, hwd]; omega
    have hsm : ∀ x ∈ rn z, smallR x = true := by
      rw [hrn]; intro x hx
      rcases List.mem_cons.1 hx with rfl | hx
      · exact cls_small h3
      · exact run_all _ _ x hx
    have hgd : GoodR (rn z) := fun x hx => small_good (hsm x hx)
    have hk := ck_good hgd
    rw [if_neg (by omega : ¬ ckE z ≠ 0), if_neg (by omega : ¬ cls (r : Int) = 1), if_neg (by omega : ¬ cls (r : Int) = 2), if_pos h3, if_neg (by omega : ¬ cls (r : Int) = 0), if_neg (by omega : ¬ cls (r : Int) = 2), if_pos h3, hee, ← hcut, encB_rn hgd, any_small hsm]
    by_cases ha : anyL (rn z) = true
    · rw [if_pos ha, if_pos ha]
      exact ⟨fun h => by omega, fun _ _ => ⟨rfl, by simp, rfl, rfl⟩, fun _ h => absurd rfl h⟩
    · rw [if_neg ha, if_neg ha]
      by_cases hn : numR (rn z) < 0
      · rw [if_pos hn, if_pos hn]
        exact ⟨fun h => by omega, fun _ h => by simp at h, fun _ _ => ⟨rfl, rfl⟩⟩
      · rw [if_neg hn, if_neg hn]
        exact ⟨fun h => by omega, fun _ _ => ⟨rfl, by simp, rfl, rfl⟩, fun _ h => absurd rfl h⟩
  · by_cases h34 : r = 34
    · 
      subst h34
      have hb : beg 34 = .text false false := rfl
      rw [hb] at hrn hwd
      obtain ⟨a, b, c⟩ := scn_run _ Y (Nat.le_refl _)
      have hk := ck_rn z
      rw [hrn, chkR, if_neg (by omega)] at hk
      rw [if_neg (by omega : ¬ cls ((34 : Nat) : Int) = 1), if_neg (by omega : ¬ cls ((34 : Nat) : Int) = 2), if_neg (by omega : ¬ cls ((34 : Nat) : Int) = 3), if_pos rfl,
        if_neg (by omega : ¬ cls ((34 : Nat) : Int) = 0), if_neg (by omega : ¬ cls ((34 : Nat) : Int) = 2), if_neg (by omega : ¬ cls ((34 : Nat) : Int) = 3), if_pos rfl]
      by_cases s1 : (scn Y).1 = 1
      · rw [b s1] at hk
        simp only [if_true] at hk
        rw [if_pos s1, hk.2, hk.1, if_pos (by decide)]
        exact ⟨fun h => by omega, fun _ h => by simp at h, fun _ _ => ⟨rfl, by dsimp only; omega⟩⟩
      · rw [if_neg s1]
        by_cases s0 : (scn Y).1 = 0
        · have hsc := a s0
          have hgd : GoodR (rn z) := by
            rw [hrn, goodR_cons, hsc]; exact ⟨by omega, scn_good _ Y (Nat.le_refl _) s0⟩
          have hke := ck_good hgd
          have hcut2 : cutR (rn s) i (i + (scn Y).2 + 2) = rn z := by rw [hcut, hwd, hsc]; rfl
          rw [if_neg (by omega : ¬ ckE z ≠ 0), if_pos s0, hcut2, encB_rn hgd]
          by_cases hu : uqE z = 0
          · rw [if_pos hu, hu]
            exact ⟨fun h => by omega, fun _ _ => ⟨rfl, by simp, rfl, by dsimp only; omega⟩, fun _ h => absurd rfl h⟩
          · rw [if_neg hu]
            have hu50 : uqE z = 50 := by
              unfold uqE at hu ⊢
              rw [if_pos hke] at hu ⊢
              split at hu
              · exact absurd rfl hu
              · rename_i h; rw [if_neg h]
            rw [hu50]
            exact ⟨fun h => by omega, fun _ h => by simp at h, fun _ _ => ⟨rfl, rfl⟩⟩
        · obtain ⟨_, c2, c3⟩ := c s0 s1
          rw [c2, List.take_of_length_le (Nat.le_refl _)] at hrn
          have hgd : GoodR (rn z) := by rw [hrn, goodR_cons]; exact ⟨by omega, c3⟩
          have hke := ck_good hgd
          have hu50 : uqE z = 50 := by
            rw [← encB_rn hgd, hrn]
            exact uq_open (by rw [goodR_cons]; exact ⟨by omega, c3⟩) s0
          rw [if_neg (by omega : ¬ ckE z ≠ 0), if_neg s0, hu50]
          exact ⟨fun h => by omega, fun _ h => by simp at h, fun _ _ => ⟨rfl, rfl⟩⟩
    · rw [beg_no (by omega) (by omega) h34, runM_no] at hrn hwd
      rw [List.take_zero] at hrn
      have hgd : GoodR (rn z) := by rw [hrn, goodR_cons]; exact ⟨by omega, GoodR.nil⟩
      have hk := ck_good hgd
      rw [if_neg (by omega : ¬ ckE z ≠ 0), if_neg (by omega : ¬ cls (r : Int) = 1), if_neg (by omega : ¬ cls (r : Int) = 2), if_neg (by omega : ¬ cls (r : Int) = 3), if_neg h34,
        if_neg (by omega : ¬ cls (r : Int) = 0), if_neg (by omega : ¬ cls (r : Int) = 2), if_neg (by omega : ¬ cls (r : Int) = 3), if_neg h34]
      by_cases hs : r = 61 ∨ r = 58 ∨ r = 44 ∨ r = 45
      · have hcut2 : cutR (rn s) i (i + 1) = rn z := by rw [hcut, hwd]
        rw [if_pos hs, if_pos hs, hcut2, encB_rn hgd]
        exact ⟨fun h => by omega, fun _ _ => ⟨rfl, by simp, rfl, by dsimp only; omega⟩, fun _ h => absurd rfl h⟩
      · rw [if_neg hs, if_neg hs]
        exact ⟨fun h => by omega, fun _ h => by simp at h, fun _ _ => ⟨rfl, rfl⟩⟩
def tkF : List ByteArray → Nat → List Tok → List Tok × Nat × Int
  | [], n, acc => (acc, n, 0)
  | z :: t, n, acc => if (tokI z).2.2 ≠ 0 then ([], n + (tokI z).2.1, (tokI z).2.2) else tkF t (n + cn z) (if (tokI z).1.1 ≠ 0 then acc ++ [atT (tokI z).1 n] else acc)
theorem tkF_toksR (s : ByteArray) : ∀ (f i : Nat) (acc : List Tok), (rn s).length ≤ i + f → i ≤ (rn s).length → tkF ((grp .no [] ((ps s 0).drop i)).map toB) i acc = toksR f (rn s) i acc
  | f, i, acc, hf, hi => by
    by_cases hp : i < (rn s).length
    · obtain ⟨g, rfl⟩ : ∃ g, f = g + 1 := ⟨f - 1, by omega⟩
      obtain ⟨a, b, c⟩ := step_tok s i hp
      have hw := wid_le (rn s) i hp
      rw [grp_step s i hp, tkF, toksR, if_pos hp, cn_piece s i hp]
      by_cases h1 : cls ((rn s).getD i 0 : Nat) = 1
      · obtain ⟨a1, a2⟩ := a h1
        rw [if_pos h1, a1, a2, if_neg (by simp), if_neg (by simp [zT])]
        exact tkF_toksR s g (i + 1) acc (by omega) (by omega)
      · rw [if_neg h1]
        by_cases he : (oneR (rn s) i).2.2.2 = 0
        · obtain ⟨b1, b2, b3, b4⟩ := b h1 he
          rw [if_pos he, b1, if_neg (by simp), if_pos b2, b3, b4]
          exact tkF_toksR s g _ _ (by omega) (by omega)
        · obtain ⟨c1, c2⟩ := c h1 he
          rw [if_neg he, c1, c2, if_pos he]
    · have : i = (rn s).length := by omega
      subst this
      have hl : (ps s 0).drop (rn s).length = [] := by rw [List.drop_eq_nil_iff]; unfold rn; simp
      rw [hl]
      cases f with
      | zero => rfl
      | succ f => rw [toksR, if_neg hp]; rfl
theorem pcs_tkA {s : ByteArray} (hs : ¬ 400 < s.size) : tkF (pcs s) 0 [] = tkA s := by
  unfold tkA
  rw [if_neg hs, ← tkF_toksR s _ 0 [] (by omega) (Nat.zero_le _)]
  rfl
theorem grp_pieces (s : ByteArray) : ∀ (f i : Nat), (rn s).length ≤ i + f → ∀ z ∈ (grp .no [] ((ps s 0).drop i)).map toB, ∃ j, j < (rn s).length ∧ z = pieceAt s j
  | f, i, hf => by
    by_cases hp : i < (rn s).length
    · obtain ⟨g, rfl⟩ : ∃ g, f = g + 1 := ⟨f - 1, by omega⟩
      have hw := wid_le (rn s) i hp
      rw [grp_step s i hp]
      intro z hz
      rcases List.mem_cons.1 hz with rfl | hz
      · exact ⟨i, hp, rfl⟩
      · exact grp_pieces s g _ (by omega) z hz
    · have hl : (ps s 0).drop i = [] := by rw [List.drop_eq_nil_iff]; unfold rn at hp; simpa using hp
      rw [hl]
      intro z hz; simp [grp] at hz
theorem pcs_ok (s : ByteArray) : ∀ z ∈ pcs s, PieceOk z ∧ z.size ≤ s.size := by
  intro z hz
  obtain ⟨j, hj, rfl⟩ := grp_pieces s (rn s).length 0 (by omega) z hz
  refine ⟨piece_ok s j hj, ?_⟩
  unfold pieceAt
  rw [Lib.size_eq, toB_data, Lib.size_eq]
  have hl : j ≤ (pc s.data.toList).length := by unfold rn at hj; rw [List.length_map] at hj; exact Nat.le_of_lt hj
  rw [ps_zero, ← cut_back j _ hl, flat_take, List.length_take, List.length_drop]
  omega
theorem pcs_length (s : ByteArray) : ∀ (f i : Nat), (rn s).length ≤ i + f → ((grp .no [] ((ps s 0).drop i)).map toB).length ≤ f
  | f, i, hf => by
    by_cases hp : i < (rn s).length
    · obtain ⟨g, rfl⟩ : ∃ g, f = g + 1 := ⟨f - 1, by omega⟩
      have hw := wid_le (rn s) i hp
      rw [grp_step s i hp, List.length_cons]
      have := pcs_length s g (i + wid (rn s) i) (by omega)
      omega
    · have hl : (ps s 0).drop i = [] := by rw [List.drop_eq_nil_iff]; unfold rn at hp; simpa using hp
      rw [hl]; simp [grp]
theorem pcs_few (s : ByteArray) : (pcs s).length ≤ s.size := by
  have h1 := pcs_length s (rn s).length 0 (by omega)
  have h2 := cn_le s
  rw [← rn_length] at h2
  unfold pcs
  rw [List.drop_zero] at h1
  omega
end Go.Proofs.YtdkngidangfkiaaGreatDoor.Lex
namespace Go.Proofs.YtdkngidangfkiaaGreatDoor.LexLib
open Go.Shelf Go.RowKit
open Base
set_option linter.unusedVariables false
def ren : Go.Shelf.Ren := ⟨fun | 129 => 174 | 171 => 44 | 172 => 133 | 197 => 88 | 205 => 194 | 243 => 74 | 244 => 162 | 245 => 163 | 246 => 113 | 247 => 181 | 260 => 128 | 279 => 182 | 280 => 183 | 281 => 184 | 282 => 185 | 283 => 147 | 284 => 148 | 285 => 149 | 286 => 150 | 287 => 193 | 316 => 132 | 317 => 173 | 318 => 175 | 319 => 176 | 320 => 177 | 321 => 200 | 322 => 201 | 337 => 191 | 338 => 192 | n => n, fun | 0 => 0 | 2 => 2 | 3 => 3 | 4 => 4 | 5 => 5 | 9 => 9 | 20 => 20 | 21 => 21 | 37 => 44 | 46 => 180 | 51 => 192 | 53 => 168 | 75 => 48 | 76 => 49 | 80 => 58 | 85 => 197 | 105 => 127 | 119 => 179 | 127 => 93 | 138 => 182 | 139 => 183 | 143 => 220 | 145 => 222 | 167 => 196 | 168 => 199 | 171 => 167 | 173 => 171 | 175 => 205 | 210 => 208 | 212 => 191 | 213 => 193 | 232 => 217 | 233 => 218 | n => n, fun | 3 => 2 | 4 => 3 | 15 => 5 | 16 => 6 | 17 => 4 | 18 => 8 | 19 => 9 | n => n⟩
def renGw : Go.Shelf.Ren := ⟨fun | 15 => 131 | 17 => 91 | 20 => 161 | n => n, fun | 0 => 0 | 3 => 3 | 4 => 4 | 9 => 9 | 21 => 21 | 23 => 123 | n => n, fun  | n => n⟩
theorem lays197 : Go.Proofs.Lays.n197 Tryz.prog ren := {
  mixed := by kernel_rfl
  f197 := Tryz.func88.trans (congrArg some (by kernel_rfl))
  f260 := Tryz.func128.trans (congrArg some (by kernel_rfl))
  t0 := Tryz.underlying0
  a0 := Tryz.isAgg0
  z0 := Tryz.sizeOf0
  v0 := Tryz.zeroValue0
  t3 := Tryz.underlying3
  a3 := Tryz.isAgg3
  z3 := Tryz.sizeOf3
  v3 := Tryz.zeroValue3
  t4 := Tryz.underlying4
  a4 := Tryz.isAgg4
  z4 := Tryz.sizeOf4
  v4 := Tryz.zeroValue4
  t5 := Tryz.underlying5
  a5 := Tryz.isAgg5
  z5 := Tryz.sizeOf5
  v5 := Tryz.zeroValue5
  t9 := Tryz.underlying9
  a9 := Tryz.isAgg9
  z9 := Tryz.sizeOf9
  v9 := Tryz.zeroValue9
  t21 := Tryz.underlying21
  a21 := Tryz.isAgg21
  z21 := Tryz.sizeOf21
  v21 := Tryz.zeroValue21
  t46 := Tryz.underlying180
  a46 := Tryz.isAgg180
  z46 := Tryz.sizeOf180
  v46 := Tryz.zeroValue180
  t105 := Tryz.underlying127
  a105 := Tryz.isAgg127
  z105 := Tryz.sizeOf127
  v105 := Tryz.zeroValue127
  t119 := Tryz.underlying179
  a119 := Tryz.isAgg179
  z119 := Tryz.sizeOf179
  t138 := Tryz.underlying182
  a138 := Tryz.isAgg182
  z138 := Tryz.sizeOf182
  v138 := Tryz.zeroValue182
  t139 := Tryz.underlying183
  a139 := Tryz.isAgg183
  z139 := Tryz.sizeOf183
  v139 := Tryz.zeroValue183
  g3 := by kernel_rfl
  g4 := by kernel_rfl }
theorem lays260 : Go.Proofs.Lays.n260 Tryz.prog ren := {
  mixed := by kernel_rfl
  f260 := Tryz.func128.trans (congrArg some (by kernel_rfl))
  t0 := Tryz.underlying0
  a0 := Tryz.isAgg0
  z0 := Tryz.sizeOf0
  v0 := Tryz.zeroValue0
  t3 := Tryz.underlying3
  a3 := Tryz.isAgg3
  z3 := Tryz.sizeOf3
  v3 := Tryz.zeroValue3
  t4 := Tryz.underlying4
  a4 := Tryz.isAgg4
  z4 := Tryz.sizeOf4
  v4 := Tryz.zeroValue4
  t5 := Tryz.underlying5
  a5 := Tryz.isAgg5
  z5 := Tryz.sizeOf5
  v5 := Tryz.zeroValue5
  t9 := Tryz.underlying9
  a9 := Tryz.isAgg9
  z9 := Tryz.sizeOf9
  v9 := Tryz.zeroValue9
  t21 := Tryz.underlying21
  a21 := Tryz.isAgg21
  z21 := Tryz.sizeOf21
  v21 := Tryz.zeroValue21
  t46 := Tryz.underlying180
  a46 := Tryz.isAgg180
  z46 := Tryz.sizeOf180
  v46 := Tryz.zeroValue180
  t119 := Tryz.underlying179
  a119 := Tryz.isAgg179
  z119 := Tryz.sizeOf179
  t138 := Tryz.underlying182
  a138 := Tryz.isAgg182
  z138 := Tryz.sizeOf182
  v138 := Tryz.zeroValue182
  t139 := Tryz.underlying183
  a139 := Tryz.isAgg183
  z139 := Tryz.sizeOf183
  v139 := Tryz.zeroValue183
  g3 := by kernel_rfl
  g4 := by kernel_rfl }
theorem laysM171 : Go.Proofs.LaysM.n171 Tryz.prog ren := {
  mixed := by kernel_rfl
  f129 := Tryz.func174.trans (congrArg some (by kernel_rfl))
  f171 := Tryz.func44.trans (congrArg some (by kernel_rfl))
  f243 := Tryz.func74.trans (congrArg some (by kernel_rfl))
  f246 := Tryz.func113.trans (congrArg some (by kernel_rfl))
  f283 := Tryz.func147.trans (congrArg some (by kernel_rfl))
  f284 := Tryz.func148.trans (congrArg some (by kernel_rfl))
  f285 := Tryz.func149.trans (congrArg some (by kernel_rfl))
  f286 := Tryz.func150.trans (congrArg some (by kernel_rfl))
  f317 := Tryz.func173.trans (congrArg some (by kernel_rfl))
  f318 := Tryz.func175.trans (congrArg some (by kernel_rfl))
  f319 := Tryz.func176.trans (congrArg some (by kernel_rfl))
  f320 := Tryz.func177.trans (congrArg some (by kernel_rfl))
  f337 := Tryz.func191.trans (congrArg some (by kernel_rfl))
  f338 := Tryz.func192.trans (congrArg some (by kernel_rfl))
  t0 := Tryz.underlying0
  a0 := Tryz.isAgg0
  z0 := Tryz.sizeOf0
  v0 := Tryz.zeroValue0
  t2 := Tryz.underlying2
  a2 := Tryz.isAgg2
  z2 := Tryz.sizeOf2
  v2 := Tryz.zeroValue2
  t3 := Tryz.underlying3
  a3 := Tryz.isAgg3
  z3 := Tryz.sizeOf3
  v3 := Tryz.zeroValue3
  t4 := Tryz.underlying4
  a4 := Tryz.isAgg4
  z4 := Tryz.sizeOf4
  v4 := Tryz.zeroValue4
  t5 := Tryz.underlying5
  a5 := Tryz.isAgg5
  z5 := Tryz.sizeOf5
  v5 := Tryz.zeroValue5
  t9 := Tryz.underlying9
  a9 := Tryz.isAgg9
  z9 := Tryz.sizeOf9
  v9 := Tryz.zeroValue9
  t20 := Tryz.underlying20
  a20 := Tryz.isAgg20
  z20 := Tryz.sizeOf20
  v20 := Tryz.zeroValue20
  t37 := Tryz.underlying44
  a37 := Tryz.isAgg44
  z37 := Tryz.sizeOf44
  v37 := Tryz.zeroValue44
  t46 := Tryz.underlying180
  a46 := Tryz.isAgg180
  z46 := Tryz.sizeOf180
  v46 := Tryz.zeroValue180
  t51 := Tryz.underlying192
  a51 := Tryz.isAgg192
  z51 := Tryz.sizeOf192
  v51 := Tryz.zeroValue192
  t53 := Tryz.underlying168
  a53 := Tryz.isAgg168
  z53 := Tryz.sizeOf168
  v53 := Tryz.zeroValue168
  t171 := Tryz.underlying167
  a171 := Tryz.isAgg167
  z171 := Tryz.sizeOf167
  v171 := Tryz.zeroValue167
  t173 := Tryz.underlying171
  a173 := Tryz.isAgg171
  z173 := Tryz.sizeOf171
  v173 := Tryz.zeroValue171
  t212 := Tryz.underlying191
  a212 := Tryz.isAgg191
  z212 := Tryz.sizeOf191
  v212 := Tryz.zeroValue191
  t213 := Tryz.underlying193
  a213 := Tryz.isAgg193
  z213 := Tryz.sizeOf193
  t232 := Tryz.underlying217
  a232 := Tryz.isAgg217
  z232 := Tryz.sizeOf217
  v232 := Tryz.zeroValue217
  t233 := Tryz.underlying218
  a233 := Tryz.isAgg218
  z233 := Tryz.sizeOf218
  v233 := Tryz.zeroValue218
  g17 := by kernel_rfl
  g18 := by kernel_rfl
  g19 := by kernel_rfl
  i0 := by kernel_rfl
  i2 := by kernel_rfl
  i3 := by kernel_rfl
  i4 := by kernel_rfl
  i5 := by kernel_rfl
  i9 := by kernel_rfl
  i20 := by kernel_rfl
  i37 := by kernel_rfl
  i46 := by kernel_rfl
  i51 := by kernel_rfl
  i53 := by kernel_rfl
  i171 := by kernel_rfl
  i173 := by kernel_rfl
  i212 := by kernel_rfl
  i232 := by kernel_rfl
  i233 := by kernel_rfl
  m17 := by kernel_rfl
  m18 := by kernel_rfl
  m19 := by kernel_rfl }
theorem laysC172 : Go.Proofs.LaysC.n172 Tryz.prog ren := {
  mixed := by kernel_rfl
  f129 := Tryz.func174.trans (congrArg some (by kernel_rfl))
  f171 := Tryz.func44.trans (congrArg some (by kernel_rfl))
  f172 := Tryz.func133.trans (congrArg some (by kernel_rfl))
  f205 := Tryz.func194.trans (congrArg some (by kernel_rfl))
  f243 := Tryz.func74.trans (congrArg some (by kernel_rfl))
  f244 := Tryz.func162.trans (congrArg some (by kernel_rfl))
  f245 := Tryz.func163.trans (congrArg some (by kernel_rfl))
  f246 := Tryz.func113.trans (congrArg some (by kernel_rfl))
  f247 := Tryz.func181.trans (congrArg some (by kernel_rfl))
  f279 := Tryz.func182.trans (congrArg some (by kernel_rfl))
  f280 := Tryz.func183.trans (congrArg some (by kernel_rfl))
  f281 := Tryz.func184.trans (congrArg some (by kernel_rfl))
  f282 := Tryz.func185.trans (congrArg some (by kernel_rfl))
  f283 := Tryz.func147.trans (congrArg some (by kernel_rfl))
  f284 := Tryz.func148.trans (congrArg some (by kernel_rfl))
  f285 := Tryz.func149.trans (congrArg some (by kernel_rfl))
  f286 := Tryz.func150.trans (congrArg some (by kernel_rfl))
  f287 := Tryz.func193.trans (congrArg some (by kernel_rfl))
  f316 := Tryz.func132.trans (congrArg some (by kernel_rfl))
  f317 := Tryz.func173.trans (congrArg some (by kernel_rfl))
  f318 := Tryz.func175.trans (congrArg some (by kernel_rfl))
  f319 := Tryz.func176.trans (congrArg some (by kernel_rfl))
  f320 := Tryz.func177.trans (congrArg some (by kernel_rfl))
  f321 := Tryz.func200.trans (congrArg some (by kernel_rfl))
  f322 := Tryz.func201.trans (congrArg some (by kernel_rfl))
  f337 := Tryz.func191.trans (congrArg some (by kernel_rfl))
  f338 := Tryz.func192.trans (congrArg some (by kernel_rfl))
  t0 := Tryz.underlying0
  a0 := Tryz.isAgg0
  z0 := Tryz.sizeOf0
  v0 := Tryz.zeroValue0
  t2 := Tryz.underlying2
  a2 := Tryz.isAgg2
  z2 := Tryz.sizeOf2
  v2 := Tryz.zeroValue2
  t3 := Tryz.underlying3
  a3 := Tryz.isAgg3
  z3 := Tryz.sizeOf3
  v3 := Tryz.zeroValue3
  t4 := Tryz.underlying4
  a4 := Tryz.isAgg4
  z4 := Tryz.sizeOf4
  v4 := Tryz.zeroValue4
  t5 := Tryz.underlying5
  a5 := Tryz.isAgg5
  z5 := Tryz.sizeOf5
  v5 := Tryz.zeroValue5
  t9 := Tryz.underlying9
  a9 := Tryz.isAgg9
  z9 := Tryz.sizeOf9
  v9 := Tryz.zeroValue9
  t20 := Tryz.underlying20
  a20 := Tryz.isAgg20
  z20 := Tryz.sizeOf20
  v20 := Tryz.zeroValue20
  t21 := Tryz.underlying21
  a21 := Tryz.isAgg21
  z21 := Tryz.sizeOf21
  v21 := Tryz.zeroValue21
  t37 := Tryz.underlying44
  a37 := Tryz.isAgg44
  z37 := Tryz.sizeOf44
  v37 := Tryz.zeroValue44
  t46 := Tryz.underlying180
  a46 := Tryz.isAgg180
  z46 := Tryz.sizeOf180
  v46 := Tryz.zeroValue180
  t51 := Tryz.underlying192
  a51 := Tryz.isAgg192
  z51 := Tryz.sizeOf192
  v51 := Tryz.zeroValue192
  t53 := Tryz.underlying168
  a53 := Tryz.isAgg168
  z53 := Tryz.sizeOf168
  v53 := Tryz.zeroValue168
  t75 := Tryz.underlying48
  a75 := Tryz.isAgg48
  z75 := Tryz.sizeOf48
  v75 := Tryz.zeroValue48
  t76 := Tryz.underlying49
  a76 := Tryz.isAgg49
  z76 := Tryz.sizeOf49
  v76 := Tryz.zeroValue49
  t85 := Tryz.underlying197
  a85 := Tryz.isAgg197
  z85 := Tryz.sizeOf197
  v85 := Tryz.zeroValue197
  t127 := Tryz.underlying93
  a127 := Tryz.isAgg93
  z127 := Tryz.sizeOf93
  v127 := Tryz.zeroValue93
  t143 := Tryz.underlying220
  a143 := Tryz.isAgg220
  z143 := Tryz.sizeOf220
  v143 := Tryz.zeroValue220
  t145 := Tryz.underlying222
  a145 := Tryz.isAgg222
  z145 := Tryz.sizeOf222
  v145 := Tryz.zeroValue222
  t167 := Tryz.underlying196
  a167 := Tryz.isAgg196
  z167 := Tryz.sizeOf196
  v167 := Tryz.zeroValue196
  t168 := Tryz.underlying199
  a168 := Tryz.isAgg199
  z168 := Tryz.sizeOf199
  v168 := Tryz.zeroValue199
  t171 := Tryz.underlying167
  a171 := Tryz.isAgg167
  z171 := Tryz.sizeOf167
  v171 := Tryz.zeroValue167
  t173 := Tryz.underlying171
  a173 := Tryz.isAgg171
  z173 := Tryz.sizeOf171
  v173 := Tryz.zeroValue171
  t175 := Tryz.underlying205
  a175 := Tryz.isAgg205
  z175 := Tryz.sizeOf205
  v175 := Tryz.zeroValue205
  t210 := Tryz.underlying208
  a210 := Tryz.isAgg208
  z210 := Tryz.sizeOf208
  v210 := Tryz.zeroValue208
  t212 := Tryz.underlying191
  a212 := Tryz.isAgg191
  z212 := Tryz.sizeOf191
  v212 := Tryz.zeroValue191
  t213 := Tryz.underlying193
  a213 := Tryz.isAgg193
  z213 := Tryz.sizeOf193
  t232 := Tryz.underlying217
  a232 := Tryz.isAgg217
  z232 := Tryz.sizeOf217
  v232 := Tryz.zeroValue217
  t233 := Tryz.underlying218
  a233 := Tryz.isAgg218
  z233 := Tryz.sizeOf218
  v233 := Tryz.zeroValue218
  g15 := by kernel_rfl
  g16 := by kernel_rfl
  g17 := by kernel_rfl
  g18 := by kernel_rfl
  g19 := by kernel_rfl
  t80 := Tryz.underlying58
  a80 := Tryz.isAgg58
  z80 := Tryz.sizeOf58
  v80 := Tryz.zeroValue58
  i0 := by kernel_rfl
  i2 := by kernel_rfl
  i3 := by kernel_rfl
  i4 := by kernel_rfl
  i5 := by kernel_rfl
  i9 := by kernel_rfl
  i20 := by kernel_rfl
  i21 := by kernel_rfl
  i37 := by kernel_rfl
  i46 := by kernel_rfl
  i51 := by kernel_rfl
  i53 := by kernel_rfl
  i75 := by kernel_rfl
  i76 := by kernel_rfl
  i80 := by kernel_rfl
  i85 := by kernel_rfl
  i127 := by kernel_rfl
  i143 := by kernel_rfl
  i145 := by kernel_rfl
  i167 := by kernel_rfl
  i168 := by kernel_rfl
  i171 := by kernel_rfl
  i173 := by kernel_rfl
  i175 := by kernel_rfl
  i210 := by kernel_rfl
  i212 := by kernel_rfl
  i232 := by kernel_rfl
  i233 := by kernel_rfl
  m15 := by kernel_rfl
  m16 := by kernel_rfl
  m17 := by kernel_rfl
  m18 := by kernel_rfl
  m19 := by kernel_rfl
  c0 := by kernel_rfl
  c2 := by kernel_rfl
  c3 := by kernel_rfl
  c4 := by kernel_rfl
  c5 := by kernel_rfl
  c9 := by kernel_rfl
  c20 := by kernel_rfl
  c21 := by kernel_rfl
  c37 := by kernel_rfl
  c46 := by kernel_rfl
  c51 := by kernel_rfl
  c53 := by kernel_rfl
  c75 := by kernel_rfl
  c76 := by kernel_rfl
  c80 := by kernel_rfl
  c85 := by kernel_rfl
  c127 := by kernel_rfl
  c143 := by kernel_rfl
  c145 := by kernel_rfl
  c167 := by kernel_rfl
  c168 := by kernel_rfl
  c171 := by kernel_rfl
  c173 := by kernel_rfl
  c175 := by kernel_rfl
  c210 := by kernel_rfl
  c212 := by kernel_rfl
  c213 := by kernel_rfl
  c232 := by kernel_rfl
  c233 := by kernel_rfl }
theorem laysGw17 : Go.Proofs.LaysGw.n17 Tryz.prog renGw := {
  mixed := by kernel_rfl
  f15 := Tryz.func131.trans (congrArg some (by kernel_rfl))
  f17 := Tryz.func91.trans (congrArg some (by kernel_rfl))
  f20 := Tryz.func161.trans (congrArg some (by kernel_rfl))
  t0 := Tryz.underlying0
  a0 := Tryz.isAgg0
  z0 := Tryz.sizeOf0
  v0 := Tryz.zeroValue0
  i0 := by kernel_rfl
  t3 := Tryz.underlying3
  a3 := Tryz.isAgg3
  z3 := Tryz.sizeOf3
  v3 := Tryz.zeroValue3
  i3 := by kernel_rfl
  t4 := Tryz.underlying4
  a4 := Tryz.isAgg4
  z4 := Tryz.sizeOf4
  v4 := Tryz.zeroValue4
  i4 := by kernel_rfl
  t9 := Tryz.underlying9
  a9 := Tryz.isAgg9
  z9 := Tryz.sizeOf9
  v9 := Tryz.zeroValue9
  i9 := by kernel_rfl
  t21 := Tryz.underlying21
  a21 := Tryz.isAgg21
  z21 := Tryz.sizeOf21
  v21 := Tryz.zeroValue21
  i21 := by kernel_rfl
  t23 := Tryz.underlying123
  a23 := Tryz.isAgg123
  z23 := Tryz.sizeOf123
  v23 := Tryz.zeroValue123
  i23 := by kernel_rfl }
def ErrAt (g : Nat) (w : World) : Prop := ∃ ev, w.cell? ⟨g, 0, none⟩ = some ev ∧ (ev = .nilIface ∨ ∃ te pe, ev = .iface te pe)
theorem ErrAt.later {g : Nat} {w w' : World} (h : ErrAt g w) (hb : Below w.heap.size w w') : ErrAt g w' := by
  obtain ⟨ev, h1, h2⟩ := h
  exact ⟨ev, cell_below h1 hb, h2⟩
def Tb (w : World) : Prop :=
  Lib.Utf8Tabs 2 3 w ∧ Lib.TabIs Tryz.prog w "internal/strconv.uint64pow10" .u64 Lib.pow10Tab ∧ ErrAt 5 w ∧ ErrAt 6 w
theorem g_pow : Tryz.prog.globalNamed "internal/strconv.uint64pow10" = some 4 := by kernel_rfl
theorem Tb.later {w w' : World} (h : Tb w) (hb : Below w.heap.size w w') : Tb w' :=
  ⟨Utf8Tabs_below h.1 hb, Joins.tab_stays g_pow h.2.1 hb (Nat.le_refl _), h.2.2.1.later hb, h.2.2.2.later hb⟩
theorem decode_any (s : ByteArray) (h0 : 0 < s.size) (w : World) (hT : Tb w) :
    Calls Tryz.prog 88 #[.string s] w fun e w' => e = .returned (.tuple #[.int .i32 ((Utf8.decode s 0).1 : Nat), .int .i64 ((Utf8.decode s 0).2 : Nat)]) ∧ Below w.heap.size w w' := by
  have h := Any.utf8_DecodeRuneInString lays197 s w hT.1
  have e : Lib.decodeGo s = Utf8.decode s 0 := by unfold Lib.decodeGo; rw [if_neg (by omega)]
  rw [e] at h
  exact h
theorem itoa_any (n : Int) (h0 : -9223372036854775808 ≤ n) (h1 : n ≤ 9223372036854775807) (w : World) (hT : Tb w) :
    Calls Tryz.prog 44 #[.int .i64 n] w fun e w' => e = .returned (.string ⟨(Lib.itoa n).toArray⟩) ∧ Below w.heap.size w w' := by
  refine (Any.strconv_Itoa laysM171 n h0 h1 w hT.2.1).mono ?_
  rintro e w' ⟨rfl, k, os, rfl⟩
  exact ⟨rfl, Lib.below_grow _ _ (Nat.le_refl _) k os⟩
theorem atoi_ok (s : ByteArray) (hs : s.size ≤ 1000000) (v : Int) (h : Lib.atoiAll s.data.toList = .ok v) (w : World) :
    Calls Tryz.prog 133 #[.string s] w fun e w' => e = .returned (.tuple #[.int .i64 v, .nilIface]) ∧ Below w.heap.size w w' := by
  refine (Any.strconv_Atoi_ok laysC172 s (by omega) v h w).mono ?_
  rintro e w' ⟨rfl, rfl | ⟨t, rfl⟩⟩
  · exact ⟨rfl, Below.refl _ _⟩
  · exact ⟨rfl, Lib.bytesWorld_below _ _ _⟩
theorem atoi_range (s : ByteArray) (hs : s.size ≤ 1000000) (h : Lib.atoiAll s.data.toList = .range) (w : World) (hT : Tb w) :
    Calls Tryz.prog 133 #[.string s] w fun e w' => ∃ v N, e = .returned (.tuple #[.int .i64 v, .iface 199 (.pointer (some ⟨N, 0, none⟩))]) ∧ Below w.heap.size w w' := by
  obtain ⟨ev, h1, h2⟩ := hT.2.2.2
  refine (Any.strconv_Atoi_range laysC172 s (by omega) h ev w h1 h2).mono ?_
  rintro e w' ⟨N, rfl, _, _, hb⟩
  exact ⟨_, N, rfl, hb⟩
theorem containsFunc_any (g : Nat) (eg : ∀ args w, (callFunc g args).run Tryz.prog w = .ok (.enter g args) w) (p : Nat → Bool) (s : ByteArray) (w : World) (hp : PredGrows Tryz.prog g #[] p w) :
    Calls Tryz.prog 91 #[.string s, .func (.func g) #[] #[]] w fun e w' => e = .returned (.bool (decide (0 ≤ Lib.idxFunc p true s))) ∧ Below w.heap.size w w' :=
  Any.strings_ContainsFunc_grows laysGw17 g #[] eg p s w hp
end Go.Proofs.YtdkngidangfkiaaGreatDoor.LexLib
