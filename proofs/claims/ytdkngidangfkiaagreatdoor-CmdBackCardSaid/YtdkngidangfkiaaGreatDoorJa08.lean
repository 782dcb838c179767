/-
  Joined out of: The walk of the program's tokens of a line. The program's written tokens, whether they may be: plain, and walked. Plain mathematics of package sat: numbers held between 0 and an end, and their sums; nothing of the program. Plain: the text of a time, as it is gone through and as it is written; nothing of the program. Layer 8, plain: tokens that stand side by side, with no blank between, and what they are again. Shapes, plain: what may be, the options, the least and the greatest size, other times. The walks of the program's small questions of a shape.
-/
import Derived.Test.YtdkngidangfkiaaGreatDoorJa07
import Derived.Lib.ItoaLen
import Derived.Lib.SlTrimSet
import Derived.Lib.AtoiAllCases
import Derived.Lib.ItoaNum
import Derived.Lib.Hide
import Derived.Lib.Strings
import Derived.Test.YtdkngidangfkiaaGreatDoorJa01
import Derived.BigQuiet
import Derived.Deep.RegionWith
namespace Go.Proofs.YtdkngidangfkiaaGreatDoor.Lex
open Go.RowKit
open Base Runes LexLib
set_option linter.unusedVariables false
set_option linter.unusedSimpArgs false
theorem tokI_place (z : ByteArray) : (tokI z).2.1 ≤ z.size := by
  have h : ckN z ≤ z.size := by
    have h1 := chk_good 0 (ps z 0)
    have h2 := cn_le z
    unfold cn at h2
    unfold ckN
    rcases h1 with ⟨_, h1, _⟩ | ⟨_, _, h1, _⟩ <;> omega
  unfold tokI
  repeat' split
  all_goals first | exact h | exact Nat.zero_le _
def LineNew (w w' : World) (e : Ending) (A : List Tok × Nat × Int) : Prop :=
  ∃ ao cap, e = .returned (.tuple #[.slice ao A.1.length cap, .int .i64 (A.2.1 : Int), .int .i64 A.2.2]) ∧ ReadsS 4 tkC w' ao A.1 ∧ (ao = none → cap = 0) ∧ A.1.length ≤ cap ∧ cap ≤ maxLen ∧ Below w.heap.size w w' ∧ ∀ b off, ao = some ⟨b, off, none⟩ → w.heap.size ≤ b
set_option maxRecDepth 100000 in
set_option maxHeartbeats 4000000 in
theorem tokens_new (s : ByteArray) (hs : s.size ≤ maxLen) (w : World) (hT : Tb w) :
    Calls Tryz.prog 39 #[.string s] w fun e w' => LineNew w w' e (tkA s) := by
  unfold maxLen at hs
  by_cases hbig : 400 < s.size
  · have hTk : tkA s = ([], 0, 3) := by unfold tkA; rw [if_pos hbig]
    rw [hTk]
    go_enter Tryz.func39, Tryz.ntmps39
    go_wp2
    go_ret3
    exact ⟨none, 0, rfl, .inl rfl, fun _ => rfl, Nat.le_refl _, Nat.zero_le _, Below.refl _ _, fun _ _ h => by cases h⟩
  · obtain ⟨i0, hi, hz0, hz1, hz2⟩ := info_parts info_tok
    have HI := Lib.hid hi
    have HZ0 := Lib.hid hz0
    have HZ1 := Lib.hid hz1
    have HZ2 := Lib.hid hz2
    clear hi hz0 hz1 hz2
    have c1 := pieces_any s (by omega) w
    have hok := pcs_ok s
    have hfew := pcs_few s
    obtain ⟨A, hA⟩ : ∃ A, A = tkA s := ⟨_, rfl⟩
    rw [← hA]
    rw [← pcs_tkA hbig] at hA
    obtain ⟨Z, hZ⟩ : ∃ Z, Z = pcs s := ⟨_, rfl⟩
    rw [← hZ] at hA c1 hok hfew
    have hZl : Z.length ≤ 400 := by omega
    have C1 := Lib.hid c1
    have HA := Lib.hid hA
    have HOK := Lib.hid hok
    have HT := Lib.hid hT
    clear c1 hA hZ hok hT hfew
    go_enter Tryz.func39, Tryz.ntmps39
    go_wp2_with (first | (go_at_call 61; (with_reducible refine (C1.out).mono ?_); rintro e w1 ⟨ro, rcap, rfl, hr, hrn, hrc, hrm, p1⟩) | fail)
    have HR := Lib.hid hr
    have P1 := Lib.hid p1
    have HT1 := Lib.hid (HT.out.later p1)
    clear hr p1
    go_loopw [5, 6, 18] (fun v nn i wr => ∃ (k n : Nat) (acc : List Tok), nn = .int .i64 (n : Int) ∧ i = .int .i64 (k : Int) ∧ k ≤ Z.length ∧ n ≤ 400 * k ∧ OwnS 4 tkC w1.heap.size 96 v acc wr ∧ tkF (Z.drop k) n acc = A ∧ acc.length ≤ k ∧ Below w1.heap.size w1 wr) (fun _ _ i _ => Z.length - (intOf i).toNat)
    case atStart => exact ⟨0, 0, [], rfl, rfl, Nat.zero_le _, Nat.zero_le _, OwnS.nil (Nat.le_refl _), HA.out.symm, Nat.le_refl _, Below.refl _ _⟩
    case round =>
      obtain ⟨k, n, acc, rfl, rfl, hk, hnk, ho, hc, hal, hb⟩ := hrel
      have HO := Lib.hid ho
      have HB := Lib.hid hb
      obtain ⟨ao, cap, rfl, hrd, hnil, hcap, hcm⟩ := ho.value tkC_length
      have HRD := Lib.hid hrd
      have HTB := Lib.hid (HT1.out.later hb)
      clear ho hb hrd
      by_cases hp : k < Z.length
      · rw [List.drop_eq_getElem_cons hp, tkF] at hc
        have hrw := HR.out.below HB.out
        obtain ⟨b0, off0, rfl, hcx⟩ := hrw.at_ hp
        have hzk := HOK.out Z[k] (List.getElem_mem hp)
        obtain ⟨z, hz⟩ : ∃ z, z = Z[k] := ⟨_, rfl⟩
        rw [← hz] at hcx hc hzk
        have hzs : z.size ≤ 400 := by omega
        have hpl := tokI_place z
        have hcn := cn_le z
        have c2 := token_any z hzk.1 (by omega) wr HTB.out
        have c3 := fun w => count_any z (by omega) w
        obtain ⟨⟨⟨k', s', n', a'⟩, q, e'⟩, hQ⟩ : ∃ Q, Q = tokI z := ⟨_, rfl⟩
        rw [← hQ] at hc c2 hpl
        simp only [pieV, tokV] at c2
        dsimp only at hc hpl
        obtain ⟨c, hcz⟩ : ∃ c, c = cn z := ⟨_, rfl⟩
        rw [← hcz] at hc hcn
        simp only [← hcz] at c3
        have C2 := Lib.hid c2
        have C3 := Lib.hid c3
        clear c2 c3 hz hzk hQ hcz hrw
        by_cases he : e' = 0
        · subst he
          rw [if_neg (by simp)] at hc
          by_cases h0 : k' = 0
          · subst h0
            rw [if_neg (by simp)] at hc
            have HC := Lib.hid hc
            clear hc
            go_wp2_with (first
              | (go_at_call 62; (with_reducible refine (C2.out).mono ?_); rintro e w2 ⟨rfl, p2⟩)
              | (go_at_call 16; (with_reducible refine (C3.out _).mono ?_); rintro e w3 ⟨rfl, p3⟩)
              | fail)
            have hw3 := p3.from (Below.from (below_one _) p2)
            refine ⟨⟨k + 1, n + c, acc, by go_num, by go_num, by omega, by omega, HO.out.below hw3, HC.out, by omega, HB.out.trans (hw3.mono HB.out.size)⟩, ?_⟩
            simp [intOf]; omega
          · rw [if_pos h0] at hc
            have t0 : (k' != 0) = true := by rw [bne_iff_ne]; exact h0
            have HC := Lib.hid hc
            clear hc h0
            go_wp2_with (first
              | (go_at_call 62; (with_reducible refine (C2.out).mono ?_); rintro e w2 ⟨rfl, p2⟩)
              | (go_at_call 16; (with_reducible refine (C3.out _).mono ?_); rintro e w5 ⟨rfl, p5⟩)
              | (at_builtin; refine wpList_append_srcS rfl (.tmp 39) (.tmp 41) 73 rfl tkC_length (by decide) i0 _ 40 Tryz.underlying73 HI.out HZ0.out HZ1.out HZ2.out rfl tkC_one rfl (((HO.out.below p2).alloc _).alloc _) _ 1 1 [((k', s', n', (n : Int)) : Tok)] rfl rfl (readsT_one (by simp) (k', s', n', (n : Int)) _) (by intro h; cases h) (by omega) (by unfold maxLen; omega) ?_; intro v4 w4 o4 b4)
              | fail)
            have hw2 : Below w1.heap.size w1 ((w2.alloc (.cells #[.int .i64 k', .string s', .int .i64 n', .int .i64 (n : Int)] 96)).alloc (.cells #[.int .i64 k', .string s', .int .i64 n', .int .i64 (n : Int)] 96)) := by
              have h1 := HB.out.trans (p2.mono HB.out.size)
              exact (h1.alloc h1.size _).alloc (by have := h1.size; simp; omega) _
            have hw4 := hw2.trans b4
            refine ⟨⟨k + 1, n + c, acc ++ [(k', s', n', (n : Int))], by go_num, by go_num, by omega, by omega, o4.below p5, HC.out, by simp; omega, hw4.trans (p5.mono hw4.size)⟩, ?_⟩
            simp [intOf]; omega
        · rw [if_pos he] at hc
          have HC := Lib.hid hc
          have te : (e' != 0) = true := by rw [bne_iff_ne]; exact he
          clear hc he
          go_wp2_with (first
            | (go_at_call 62; (with_reducible refine (C2.out).mono ?_); rintro e w2 ⟨rfl, p2⟩)
            | fail)
          go_ret3
          have hw2 : Below w.heap.size w (w2.alloc (.cells #[.int .i64 k', .string s', .int .i64 n', .int .i64 a'] 96)) := by
            have h1 := (p2.from (HB.out.from P1.out))
            exact h1.alloc h1.size _
          rw [← HC.out]
          exact ⟨none, 0, by simp, .inl rfl, fun _ => rfl, Nat.le_refl _, Nat.zero_le _, hw2, fun _ _ h => by cases h⟩
      · have hkk : k = Z.length := by omega
        rw [List.drop_eq_nil_of_le (by omega), tkF] at hc
        have HF := Lib.hid hc
        clear hc
        go_wp2
        go_ret3
        rw [← HF.out]
        exact ⟨ao, cap, rfl, HRD.out, hnil, hcap, hcm, HB.out.from P1.out, fun b off h => by subst h; have h1 := (HO.out.1.lt b rfl).1; have h2 := P1.out.size; omega⟩
theorem tokens_any (s : ByteArray) (hs : s.size ≤ maxLen) (w : World) (hT : Tb w) :
    Calls Tryz.prog 39 #[.string s] w fun e w' => LineSays w w' e (tkA s) :=
  (tokens_new s hs w hT).mono fun e w' ⟨ao, cap, h1, h2, h3, h4, h5, h6, _⟩ => ⟨ao, cap, h1, h2, h3, h4, h5, h6⟩
end Go.Proofs.YtdkngidangfkiaaGreatDoor.Lex
namespace Go.Proofs.YtdkngidangfkiaaGreatDoor.Lex
open Go.RowKit
open Base Runes LexLib
set_option linter.unusedVariables false
set_option linter.unusedSimpArgs false
theorem dec_dig : ∀ (f u : Nat), u < 10 ^ f → 1 ≤ f → digF f u = Go.Lib.decDigits u
  | 0, _, _, h => absurd h (by decide)
  | f + 1, u, hu, _ => by
    rw [digF, Go.Lib.decDigits]
    by_cases h : u < 10
    · rw [if_pos h, dif_pos h]
    · rw [if_neg h, dif_neg h]
      have hf : 1 ≤ f := by
        rcases Nat.eq_zero_or_pos f with h0 | h0
        · subst h0; simp at hu; omega
        · exact h0
      rw [dec_dig f (u / 10) (by have := Nat.pow_succ 10 f; omega) hf]
def itB (n : Int) : ByteArray := ⟨(Go.Lib.itoa n).toArray⟩
theorem itB_nat {n : Int} (h : ¬ n < 0) (h1 : n ≤ 9223372036854775807) : itB n = digB n := by
  unfold itB digB Go.Lib.itoa
  rw [if_neg h, if_neg h, dec_dig 20 n.toNat (by omega) (by decide)]
theorem itB_neg {n : Int} (h : n < 0) : ∃ t, (itB n).data.toList = 45 :: t := by
  unfold itB Go.Lib.itoa
  rw [if_pos h]
  exact ⟨_, rfl⟩
def wrI (t : Tok) : ByteArray := if t.1 = 2 then itB t.2.2.1 else if t.1 = 4 then qtS t.2.1 else t.2.1
theorem wrB_at (t : Tok) (b : Nat) : wrB (atT t b) = wrB t := rfl
theorem wrB_eq {x t : Tok} (h1 : x.1 = t.1) (h2 : x.2.1 = t.2.1) (h3 : x.2.2.1 = t.2.2.1) : wrB x = wrB t := by unfold wrB; rw [h1, h2, h3]
theorem toks_size {X : List Nat} {b : Nat} {l : List Tok} (h : Toks X b l) : ∀ t ∈ l, (wrB t).size ≤ (encB X).size := by
  induction h with
  | nil b => intro t ht; simp at ht
  | @blank r X b l h1 _ ih =>
    intro t ht
    have := ih t ht
    have h2 := encB_size_append [r] X
    rw [List.singleton_append] at h2
    omega
  | @tok X b l hne h1 he _ ih =>
    intro t ht
    have hap := encB_size_append (X.take (oneR X 0).2.1) (X.drop (oneR X 0).2.1)
    rw [List.take_append_drop] at hap
    rcases List.mem_cons.1 ht with rfl | ht
    · obtain ⟨hg, hc⟩ := one_is hne he b
      rcases hc with ⟨h2, e⟩ | e
      · have : (wrB (atT (oneR X 0).1 b)).size = (encB (X.take (oneR X 0).2.1)).size := by
          rw [wrB_at, e]
          show (lowS _).size = _
          rw [Lib.size_eq, Lib.size_eq]; unfold lowS; rw [ofList_data, List.length_map]
        omega
      · rw [e]; omega
    · have := ih t ht; omega
theorem encB_one (r : Nat) : 1 ≤ (encB [r]).size := by
  rw [Lib.size_eq, encB_data]
  unfold encL
  rw [List.flatMap_cons, List.flatMap_nil, List.append_nil]
  unfold Go.Lib.encodeRune
  rw [List.length_map]
  have : 1 ≤ (Go.Lib.encodeRuneZ (r : Int)).length := by
    unfold Go.Lib.encodeRuneZ
    repeat' split
    all_goals simp
  exact this
theorem chE_place {t x : Tok} (h : chE t = 0) (he : (tkA (wrB t)).1 = [x]) : x.1 = t.1 ∧ x.2.1 = t.2.1 ∧ x.2.2.1 = t.2.2.1 ∧ x.2.2.2 = 0 := by
  unfold chE at h
  split at h
  · rename_i hE
    rw [he] at h
    simp only at h
    split at h
    · rename_i hx
      obtain ⟨_, h2, _⟩ := tkA_toks hE
      rw [he] at h2
      have hgd := toks_good h2
      refine ⟨hx.1, hx.2.1, hx.2.2, ?_⟩
      generalize hX : rn (wrB t) = X at h2 hgd
      cases h2 with
      | @blank r X' _ _ h1 h3 =>
        exfalso
        have s1 := toks_size h3 x (by simp)
        rw [wrB_eq hx.1 hx.2.1 hx.2.2] at s1
        have s2 := encB_size_append [r] X'
        rw [List.singleton_append, ← hX, encB_rn (by rw [hX]; exact hgd)] at s2
        have := encB_one r
        omega
      | tok _ _ _ _ => rfl
    · simp at h
  · simp at h
theorem chE_neg {t : Tok} (h1 : t.1 = 2) (h2 : t.2.2.1 < 0) : chE t = 50 := by
  have e : wrB t = ⟨#[]⟩ := by unfold wrB digB; rw [if_pos h1, if_pos h2]
  have e2 : tkA ⟨#[]⟩ = ([], 0, 0) := by decide +kernel
  unfold chE
  rw [e, e2]; rfl
theorem minus_kind {W : ByteArray} {t : List UInt8} {x : Tok} (hW : W.data.toList = 45 :: t) (he : (tkA W).2.2 = 0) (hx : (tkA W).1 = [x]) : x.1 = 5 := by
  obtain ⟨_, h2, _⟩ := tkA_toks he
  rw [hx] at h2
  have hX : rn W = 45 :: (pc t).map (·.1) := by
    unfold rn
    rw [ps_zero, hW, pc_ascii 45 t (by decide)]; rfl
  rw [hX] at h2
  have hc : cls ((45 : Nat) : Int) = 4 := by decide
  cases h2 with
  | blank h1 _ => rw [hc] at h1; simp at h1
  | tok _ _ _ _ =>
    have g0 : (45 :: (pc t).map (·.1)).getD 0 0 = 45 := rfl
    unfold atT oneR
    rw [g0, if_neg (by rw [hc]; decide), if_neg (by rw [hc]; decide), if_neg (by rw [hc]; decide), if_neg (by decide), if_pos (by decide)]
theorem chI (k : Int) (s : ByteArray) (n a : Int) (hn : n ≤ 9223372036854775807) :
    (chE (k, s, n, a) = 0 → wrI (k, s, n, a) = wrB (k, s, n, a) ∧ (tkA (wrI (k, s, n, a))).2.2 = 0 ∧ (tkA (wrI (k, s, n, a))).1 = [(k, s, n, 0)]) ∧
    (chE (k, s, n, a) = 50 → ¬ ((tkA (wrI (k, s, n, a))).2.2 = 0 ∧ (tkA (wrI (k, s, n, a))).1 = [(k, s, n, 0)])) := by
  by_cases hneg : k = 2 ∧ n < 0
  · have h50 := chE_neg (t := (k, s, n, a)) hneg.1 hneg.2
    refine ⟨fun h => by rw [h50] at h; simp at h, fun _ ⟨h1, h2⟩ => ?_⟩
    obtain ⟨t, ht⟩ := itB_neg hneg.2
    have e : wrI (k, s, n, a) = itB n := by unfold wrI; rw [if_pos hneg.1]
    rw [e] at h1 h2
    have := minus_kind ht h1 h2
    dsimp only at this
    omega
  · have e : wrI (k, s, n, a) = wrB (k, s, n, a) := by
      unfold wrI wrB
      dsimp only
      by_cases h2 : k = 2
      · rw [if_pos h2, if_pos h2]; exact itB_nat (fun h => hneg ⟨h2, h⟩) hn
      · rw [if_neg h2, if_neg h2]
    rw [e]
    refine ⟨fun h => ⟨rfl, ?_⟩, fun h => ?_⟩
    · have h0 := h
      unfold chE at h
      split at h
      · rename_i hE
        split at h
        · rename_i x hx
          obtain ⟨a1, a2, a3, a4⟩ := chE_place h0 hx
          refine ⟨hE, ?_⟩
          rw [hx]
          obtain ⟨x1, x2, x3, x4⟩ := x
          dsimp only at a1 a2 a3 a4
          rw [a1, a2, a3, a4]
        · simp at h
      · simp at h
    · rintro ⟨h1, h2⟩
      unfold chE at h
      rw [if_pos h1, h2] at h
      simp at h
theorem chE_long {t : Tok} (h : 400 < t.2.1.size) : chE t = 50 := by
  rcases chE_or t with h0 | h0
  · exfalso
    have h1 := h0
    unfold chE at h1
    split at h1
    · rename_i hE
      split at h1
      · rename_i x hx
        obtain ⟨_, a2, _⟩ := chE_place h0 hx
        have hs := (line_small hE).2.2 x (by rw [hx]; simp)
        rw [a2] at hs
        omega
      · simp at h1
    · simp at h1
  · exact h0
theorem wrI_size (t : Tok) (h0 : -9223372036854775808 ≤ t.2.2.1) (h1 : t.2.2.1 ≤ 9223372036854775807) : (wrI t).size ≤ 2 * t.2.1.size + 21 := by
  unfold wrI
  split
  · have := Go.Lib.itoa_length_le t.2.2.1 h0 h1
    unfold itB
    rw [Lib.size_eq, ofList_data]; omega
  · split
    · have := qtS_size2 t.2.1; omega
    · omega
end Go.Proofs.YtdkngidangfkiaaGreatDoor.Lex
namespace Go.Proofs.YtdkngidangfkiaaGreatDoor.Sat
def cl (n m : Int) : Int := if n < 0 then 0 else if n > m then m else n
theorem cl_bd (n m : Int) (h : 0 ≤ m) : 0 ≤ cl n m ∧ cl n m ≤ m := by unfold cl; split <;> (try split) <;> omega
theorem cl_id (n m : Int) (h0 : 0 ≤ n) (h1 : n ≤ m) : cl n m = n := by unfold cl; split <;> (try split) <;> omega
theorem cl_neg (n m : Int) (h0 : n < 0) : cl n m = 0 := by unfold cl; rw [if_pos h0]
def tot (m : Int) : List Int → Int
  | [] => 0
  | n :: l => cl n m + tot m l
theorem tot_nonneg (m : Int) (h : 0 ≤ m) : ∀ l, 0 ≤ tot m l
  | [] => by simp [tot]
  | n :: l => by have := tot_nonneg m h l; have := cl_bd n m h; simp [tot]; omega
theorem tot_append (m : Int) : ∀ a b, tot m (a ++ b) = tot m a + tot m b
  | [], b => by simp [tot]
  | n :: l, b => by simp [tot, tot_append m l b]; omega
theorem tot_one (m n : Int) : tot m [n] = cl n m := by simp [tot]
theorem tot_two (m a b : Int) : tot m [a, b] = cl a m + cl b m := by simp [tot]
theorem tot_take_succ (m : Int) (l : List Int) (k : Nat) (h : k < l.length) : tot m (l.take (k + 1)) = tot m (l.take k) + cl l[k] m := by
  rw [List.take_succ_eq_append_getElem h, tot_append, tot_one]
theorem tot_take_le (m : Int) (h : 0 ≤ m) (l : List Int) (k : Nat) : tot m (l.take k) ≤ tot m l := by
  have e : tot m l = tot m (l.take k) + tot m (l.drop k) := by rw [← tot_append, List.take_append_drop]
  have := tot_nonneg m h (l.drop k)
  omega
def add (m : Int) (l : List Int) : Int := if tot m l > m then m else tot m l
def over (m : Int) (l : List Int) : Bool := decide (tot m l > m)
theorem add_bd (m : Int) (h : 0 ≤ m) (l : List Int) : 0 ≤ add m l ∧ add m l ≤ m := by
  have := tot_nonneg m h l
  unfold add; split <;> omega
def mulc (m a b : Int) : Int := if cl a m * cl b m > m then m else cl a m * cl b m
theorem quo_gt (m a b : Int) (hb : 0 < b) : (m / b < a) ↔ (m < a * b) := Int.ediv_lt_iff_lt_mul hb
end Go.Proofs.YtdkngidangfkiaaGreatDoor.Sat
namespace Go.Proofs.YtdkngidangfkiaaGreatDoor.Hours
open Sat
set_option linter.unusedVariables false
set_option linter.unusedSimpArgs false
def D (b : UInt8) : Bool := [48, 49, 50, 51, 52, 53, 54, 55, 56, 57].contains b
theorem D_nat (b : UInt8) (h : D b = true) : 48 ≤ b.toNat ∧ b.toNat ≤ 57 := by
  unfold D at h
  simp at h
  rcases h with h | h | h | h | h | h | h | h | h | h <;> subst h <;> decide
theorem D_dig (d : Nat) (h : d < 10) : D (UInt8.ofNat (48 + d)) = true := by
  rcases d with _ | _ | _ | _ | _ | _ | _ | _ | _ | _ | d <;> first | rfl | omega
theorem ofNat_dig (d : Nat) (h : d < 10) : (UInt8.ofNat (48 + d)).toNat = 48 + d := by
  rw [UInt8.toNat_ofNat']; omega
def rst (l : List UInt8) : List UInt8 := Go.Lib.trimLeftS l [48, 49, 50, 51, 52, 53, 54, 55, 56, 57]
theorem rst_eq (l : List UInt8) : rst l = l.dropWhile D := rfl
def dgs (l : List UInt8) : List UInt8 := l.take (l.length - (rst l).length)
theorem rst_le (l : List UInt8) : (rst l).length ≤ l.length := by
  have h := congrArg List.length (List.takeWhile_append_dropWhile (p := D) (l := l))
  rw [List.length_append] at h
  rw [rst_eq]; omega
theorem dgs_eq (l : List UInt8) : dgs l = l.takeWhile D := by
  have h := List.takeWhile_append_dropWhile (p := D) (l := l)
  have h2 := congrArg List.length h
  rw [List.length_append] at h2
  unfold dgs
  rw [rst_eq, show l.length - (l.dropWhile D).length = (l.takeWhile D).length from by omega]
  have e : l.take (l.takeWhile D).length = (l.takeWhile D ++ l.dropWhile D).take (l.takeWhile D).length := by rw [h]
  rw [e, List.take_left' rfl]
theorem dgs_all (l : List UInt8) : ∀ b ∈ dgs l, D b = true := by
  rw [dgs_eq]
  intro b hb
  induction l with
  | nil => simp at hb
  | cons c r ih =>
    rw [List.takeWhile_cons] at hb
    by_cases hc : D c = true
    · rw [if_pos hc] at hb
      rcases List.mem_cons.1 hb with rfl | hb
      · exact hc
      · exact ih hb
    · rw [if_neg hc] at hb; simp at hb
def vl (a : Nat) (l : List UInt8) : Nat := l.foldl (fun a c => a * 10 + (c.toNat - 48)) a
theorem vl_cons (a : Nat) (c : UInt8) (r : List UInt8) : vl a (c :: r) = vl (a * 10 + (c.toNat - 48)) r := by unfold vl; rw [List.foldl_cons]
theorem vl_nil (a : Nat) : vl a [] = a := by unfold vl; rw [List.foldl_nil]
theorem vl_snoc (c : UInt8) : ∀ (l : List UInt8) (a : Nat), vl a (l ++ [c]) = vl a l * 10 + (c.toNat - 48)
  | [], a => by rw [List.nil_append, vl_cons, vl_nil, vl_nil]
  | b :: r, a => by rw [List.cons_append, vl_cons, vl_cons, vl_snoc c r]
theorem vl_spells (l : List UInt8) : ∀ (a k : Nat), a < 10 ^ k → k + l.length ≤ 15 → (∀ b ∈ l, D b = true) → Go.Lib.parseUint10 a l = .ok (vl a l) ∧ vl a l < 10 ^ (k + l.length) := by
  induction l with
  | nil => intro a k ha _ _; rw [vl_nil]; exact ⟨rfl, ha⟩
  | cons c r ih =>
    intro a k ha hl hd
    have hc := D_nat c (hd c (by simp))
    rw [List.length_cons] at hl
    have hp : (10 : Nat) ^ k ≤ 10 ^ 14 := Nat.pow_le_pow_right (by decide) (by omega)
    have hp14 : (10 : Nat) ^ 14 = 100000000000000 := by decide
    have hs := Nat.pow_succ 10 k
    rw [hp14] at hp
    obtain ⟨K, hK⟩ : ∃ K, K = (10 : Nat) ^ k := ⟨_, rfl⟩
    rw [← hK] at hp ha hs
    obtain ⟨h1, h2⟩ := ih (a * 10 + (c.toNat - 48)) (k + 1) (by rw [Nat.succ_eq_add_one] at hs; omega) (by omega) (fun b hb => hd b (by simp [hb]))
    refine ⟨?_, ?_⟩
    · rw [Go.Lib.parseUint10, if_pos ⟨hc.1, hc.2⟩, if_neg (by omega), if_neg (by omega), h1, vl_cons]
    · rw [vl_cons, List.length_cons, show k + (r.length + 1) = k + 1 + r.length from by omega]; exact h2
theorem atoi_dgs (d : List UInt8) (hd : ∀ b ∈ d, D b = true) (hn : d ≠ []) (hl : d.length ≤ 7) : Go.Lib.atoiAll d = .ok (vl 0 d : Int) ∧ vl 0 d < 10000000 := by
  obtain ⟨h1, h2⟩ := vl_spells d 0 0 (by decide) (by omega) hd
  have hp : (10 : Nat) ^ (0 + d.length) ≤ 10 ^ 7 := Nat.pow_le_pow_right (by decide) (by omega)
  have hp7 : (10 : Nat) ^ 7 = 10000000 := by decide
  cases d with
  | nil => exact absurd rfl hn
  | cons c r =>
    have hc := D_nat c (hd c (by simp))
    refine ⟨?_, by omega⟩
    rw [Go.Lib.atoiAll_plain c r (by omega) (by omega)]
    unfold Go.Lib.parseMag
    rw [if_neg (by simp), h1]
    unfold Go.Lib.signless
    simp only
    rw [if_neg (by omega)]
def cutOk (l : List UInt8) : Bool := decide ((dgs l).length ≤ 7 ∧ dgs l ≠ [] ∧ ¬ (1 < (dgs l).length ∧ (dgs l).getD 0 0 = 48))
def cutN (l : List UInt8) : Int := (vl 0 (dgs l) : Int)
theorem cutN_bd {l : List UInt8} (h : cutOk l = true) : 0 ≤ cutN l ∧ cutN l < 10000000 := by
  unfold cutOk at h
  rw [decide_eq_true_eq] at h
  have := (atoi_dgs (dgs l) (dgs_all l) h.2.1 h.1).2
  unfold cutN; omega
theorem dec_facts : ∀ (k u : Nat), u < 10 ^ k → 1 ≤ k → (∀ b ∈ Go.Lib.decDigits u, D b = true) ∧ vl 0 (Go.Lib.decDigits u) = u ∧ (Go.Lib.decDigits u).length ≤ k ∧ Go.Lib.decDigits u ≠ [] ∧ (1 ≤ u → (Go.Lib.decDigits u).getD 0 0 ≠ 48)
  | 0, _, _, h => absurd h (by decide)
  | k + 1, u, hu, _ => by
    rw [Go.Lib.decDigits]
    by_cases h : u < 10
    · rw [dif_pos h]
      refine ⟨?_, ?_, by simp, by simp, ?_⟩
      · intro b hb
        rw [List.mem_singleton] at hb
        rw [hb]; exact D_dig u h
      · rw [vl_cons, vl_nil, ofNat_dig u h]; omega
      · intro h1 he
        have e : UInt8.ofNat (48 + u) = 48 := he
        have := congrArg UInt8.toNat e
        rw [ofNat_dig u h] at this
        have h48 : (48 : UInt8).toNat = 48 := by decide
        omega
    · rw [dif_neg h]
      have hk : 1 ≤ k := by
        rcases Nat.eq_zero_or_pos k with h0 | h0
        · subst h0; simp at hu; omega
        · exact h0
      have hs := Nat.pow_succ 10 k
      obtain ⟨h1, h2, h3, h4, h5⟩ := dec_facts k (u / 10) (by omega) hk
      have hm : u % 10 < 10 := Nat.mod_lt _ (by decide)
      refine ⟨?_, ?_, ?_, by simp, ?_⟩
      · intro b hb
        rcases List.mem_append.1 hb with hb | hb
        · exact h1 b hb
        · rw [List.mem_singleton] at hb
          rw [hb]; exact D_dig _ hm
      · rw [vl_snoc, h2, ofNat_dig _ hm]; omega
      · rw [List.length_append, List.length_singleton]; omega
      · intro _
        cases hd : Go.Lib.decDigits (u / 10) with
        | nil => exact absurd hd h4
        | cons c r =>
          have := h5 (by omega)
          rw [hd] at this
          simpa using this
theorem drop_all (c : UInt8) (r : List UInt8) (hc : D c = false) : ∀ (d : List UInt8), (∀ b ∈ d, D b = true) → (d ++ c :: r).dropWhile D = c :: r ∧ (d ++ c :: r).takeWhile D = d
  | [], _ => by
    rw [List.nil_append, List.dropWhile_cons, List.takeWhile_cons, if_neg (by rw [hc]; simp), if_neg (by rw [hc]; simp)]
    exact ⟨rfl, rfl⟩
  | b :: d, hd => by
    obtain ⟨h1, h2⟩ := drop_all c r hc d (fun x hx => hd x (by simp [hx]))
    have hb := hd b (by simp)
    rw [List.cons_append, List.dropWhile_cons, List.takeWhile_cons, if_pos hb, if_pos hb, h1, h2]
    exact ⟨rfl, rfl⟩
theorem cut_dec (u : Nat) (hu : u < 10000000) (c : UInt8) (r : List UInt8) (hc : D c = false) :
    cutOk (Go.Lib.decDigits u ++ c :: r) = true ∧ cutN (Go.Lib.decDigits u ++ c :: r) = (u : Int) ∧ rst (Go.Lib.decDigits u ++ c :: r) = c :: r := by
  obtain ⟨h1, h2, h3, h4, h5⟩ := dec_facts 7 u (by omega) (by decide)
  obtain ⟨h6, h7⟩ := drop_all c r hc (Go.Lib.decDigits u) h1
  refine ⟨?_, ?_, ?_⟩
  · unfold cutOk
    rw [decide_eq_true_eq, dgs_eq, h7]
    refine ⟨h3, h4, fun ⟨a, b⟩ => ?_⟩
    by_cases h0 : 1 ≤ u
    · exact h5 h0 b
    · obtain rfl : u = 0 := by omega
      rw [Go.Lib.decDigits, dif_pos (by decide)] at a
      simp at a
  · unfold cutN
    rw [dgs_eq, h7, h2]
  · rw [rst_eq, h6]
def tk : Nat → Int
  | 0 => 86400
  | 1 => 3600
  | 2 => 60
  | _ => 1
def sg : Nat → UInt8
  | 0 => 100
  | 1 => 104
  | 2 => 109
  | _ => 115
def ix (c : UInt8) : Nat := if c = 100 then 0 else if c = 104 then 1 else if c = 109 then 2 else if c = 115 then 3 else 4
theorem ix_sg (c : UInt8) (i : Nat) (h : i < 4) : ix c = i ↔ c = sg i := by
  unfold ix
  match i, h with
  | 0, _ | 1, _ | 2, _ | 3, _ =>
    by_cases h0 : c = 100
    · subst h0; decide
    by_cases h1 : c = 104
    · subst h1; decide
    by_cases h2 : c = 109
    · subst h2; decide
    by_cases h3 : c = 115
    · subst h3; decide
    simp [h0, h1, h2, h3, sg]
theorem tk_bd (i : Nat) : 1 ≤ tk i ∧ tk i ≤ 86400 := by
  match i with
  | 0 | 1 | 2 => decide
  | n + 3 => exact ⟨Int.le_refl _, by show (1 : Int) ≤ 86400; decide⟩
def run : Nat → List UInt8 → Int → Nat → Int × Int
  | 0, _, _, _ => (0, 60)
  | f + 1, l, t, k =>
    if l = [] then (if cl t 1000000 = t then (t, 0) else (0, 153))
    else if cutOk l = true ∧ rst l ≠ [] then
      (if k ≤ ix ((rst l).getD 0 0) ∧ ix ((rst l).getD 0 0) < 4 then run f ((rst l).drop 1) (add 1000000000000 [t, mulc 1000000000000 (cutN l) (tk (ix ((rst l).getD 0 0)))]) (ix ((rst l).getD 0 0) + 1) else (0, 60))
    else (0, 60)
def parse (l : List UInt8) : Int × Int := if l = [] then (0, 60) else run (l.length + 1) l 0 0
def pc (i : Nat) (n : Int) : List UInt8 := if tk i ≤ n then Go.Lib.itoa (n / tk i) ++ [sg i] else []
def rm : Nat → Int → Int
  | 0, n => n
  | i + 1, n => rm i n % tk i
def tx : Nat → Int → List UInt8
  | 0, _ => []
  | i + 1, n => tx i n ++ pc i (rm i n)
def showL (n : Int) : List UInt8 := if n = 0 then [48, 115] else tx 4 n
theorem sg_D (i : Nat) : D (sg i) = false := by
  match i with
  | 0 | 1 | 2 => decide
  | n + 3 => show D 115 = false; decide
theorem itoa_nat (n : Int) (h : 0 ≤ n) : Go.Lib.itoa n = Go.Lib.decDigits n.toNat := by unfold Go.Lib.itoa; rw [if_neg (by omega)]
theorem run_pc (f i k : Nat) (n t : Int) (r : List UInt8) (hk : k ≤ i) (hi : i < 4) (hf : (pc i n ++ r).length < f) (hn : 0 ≤ n) (hn2 : n ≤ 1000000) (ht : 0 ≤ t) (ht2 : t ≤ 10000000) :
    ∃ f' k', r.length < f' ∧ k' ≤ i + 1 ∧ run f (pc i n ++ r) t k = run f' r (t + n / tk i * tk i) k' := by
  have htk := tk_bd i
  by_cases h : tk i ≤ n
  · have hq0 : 0 ≤ n / tk i := Int.ediv_nonneg hn (by omega)
    have hq1 : n / tk i ≤ n := Int.ediv_le_self _ hn
    have hqm : n / tk i * tk i ≤ n := Int.ediv_mul_le n (by omega)
    have hqm0 : 0 ≤ n / tk i * tk i := Int.mul_nonneg hq0 (by omega)
    obtain ⟨u, hu⟩ := Int.eq_ofNat_of_zero_le hq0
    have e : pc i n ++ r = Go.Lib.decDigits u ++ sg i :: r := by
      unfold pc
      rw [if_pos h, itoa_nat _ hq0, hu, Int.toNat_natCast, List.append_assoc]
      rfl
    obtain ⟨c1, c2, c3⟩ := cut_dec u (by omega) (sg i) r (sg_D i)
    have hix : ix (sg i) = i := (ix_sg (sg i) i hi).2 rfl
    cases f with
    | zero => omega
    | succ f =>
      refine ⟨f, i + 1, ?_, Nat.le_refl _, ?_⟩
      · rw [e, List.length_append, List.length_cons] at hf
        have := (dec_facts 7 u (by omega) (by decide)).2.2.2.1
        have hl : 0 < (Go.Lib.decDigits u).length := List.length_pos_iff.2 this
        omega
      · have hne : Go.Lib.decDigits u ++ sg i :: r ≠ [] := by simp
        rw [e, run, if_neg hne, c3, if_pos ⟨c1, by simp⟩]
        rw [show (sg i :: r).getD 0 0 = sg i from rfl, hix, if_pos ⟨hk, hi⟩, c2, show (sg i :: r).drop 1 = r from rfl]
        congr 1
        rw [hu] at hqm hqm0 hq1
        rw [hu]
        have em : mulc 1000000000000 u (tk i) = u * tk i := by
          unfold mulc
          rw [cl_id u 1000000000000 (by omega) (by omega), cl_id (tk i) 1000000000000 (by omega) (by omega), if_neg (by omega)]
        rw [em]
        unfold add
        rw [tot_two, cl_id t 1000000000000 (by omega) (by omega), cl_id (u * tk i) 1000000000000 (by omega) (by omega), if_neg (by omega)]
  · have e : pc i n = [] := by unfold pc; rw [if_neg h]
    rw [e, List.nil_append] at hf ⊢
    have hq : n / tk i = 0 := Int.ediv_eq_zero_of_lt hn (by omega)
    exact ⟨f, k, hf, by omega, by rw [hq]; simp⟩
theorem tx_ne (n : Int) (h : 1 ≤ n) (h2 : n ≤ 1000000) : tx 4 n ≠ [] := by
  intro he
  have e : tx 4 n = [] ++ pc 0 n ++ pc 1 (n % 86400) ++ pc 2 (n % 86400 % 3600) ++ pc 3 (n % 86400 % 3600 % 60) := rfl
  rw [e] at he
  simp only [List.nil_append, List.append_assoc, List.append_eq_nil_iff] at he
  obtain ⟨h0, h1, h2, h3⟩ := he
  have q : ∀ i m, pc i m = [] → m < tk i := by
    intro i m hm
    unfold pc at hm
    by_cases h : tk i ≤ m
    · rw [if_pos h] at hm; simp at hm
    · omega
  have a0 := q 0 _ h0
  have a1 := q 1 _ h1
  have a2 := q 2 _ h2
  have a3 := q 3 _ h3
  simp only [tk] at a0 a1 a2 a3
  omega
theorem parse_show (n : Int) (h0 : 0 ≤ n) (h1 : n ≤ 1000000) : parse (showL n) = (n, 0) := by
  unfold showL
  by_cases hz : n = 0
  · subst hz; rw [if_pos rfl]; decide
  · rw [if_neg hz]
    unfold parse
    rw [if_neg (tx_ne n (by omega) h1)]
    have e : tx 4 n = pc 0 n ++ (pc 1 (n % 86400) ++ (pc 2 (n % 86400 % 3600) ++ (pc 3 (n % 86400 % 3600 % 60) ++ []))) := by
      rw [List.append_nil, ← List.append_assoc, ← List.append_assoc]; rfl
    rw [e]
    obtain ⟨f1, k1, g1, j1, e1⟩ := run_pc ((pc 0 n ++ (pc 1 (n % 86400) ++ (pc 2 (n % 86400 % 3600) ++ (pc 3 (n % 86400 % 3600 % 60) ++ [])))).length + 1) 0 0 n 0 _ (by omega) (by omega) (Nat.lt_succ_self _) h0 h1 (by omega) (by omega)
    rw [e1]
    simp only [tk] at *
    obtain ⟨f2, k2, g2, j2, e2⟩ := run_pc f1 1 k1 (n % 86400) (0 + n / 86400 * 86400) _ (by omega) (by omega) g1 (by omega) (by omega) (by omega) (by omega)
    rw [e2]
    simp only [tk] at *
    obtain ⟨f3, k3, g3, j3, e3⟩ := run_pc f2 2 k2 (n % 86400 % 3600) (0 + n / 86400 * 86400 + n % 86400 / 3600 * 3600) _ (by omega) (by omega) g2 (by omega) (by omega) (by omega) (by omega)
    rw [e3]
    simp only [tk] at *
    obtain ⟨f4, k4, g4, j4, e4⟩ := run_pc f3 3 k3 (n % 86400 % 3600 % 60) (0 + n / 86400 * 86400 + n % 86400 / 3600 * 3600 + n % 86400 % 3600 / 60 * 60) _ (by omega) (by omega) g3 (by omega) (by omega) (by omega) (by omega)
    rw [e4]
    simp only [tk] at *
    have ht : 0 + n / 86400 * 86400 + n % 86400 / 3600 * 3600 + n % 86400 % 3600 / 60 * 60 + n % 86400 % 3600 % 60 / 1 * 1 = n := by omega
    rw [ht]
    cases f4 with
    | zero => simp at g4
    | succ f => rw [run, if_pos rfl, if_pos (cl_id n 1000000 h0 h1)]
theorem rm_bd (n : Int) (h0 : 0 ≤ n) (h1 : n ≤ 1000000) : ∀ i, 0 ≤ rm i n ∧ rm i n ≤ 1000000
  | 0 => ⟨h0, h1⟩
  | i + 1 => by
    have := rm_bd n h0 h1 i
    have ht := tk_bd i
    have a := Int.emod_nonneg (rm i n) (b := tk i) (by omega)
    have b := Int.emod_lt_of_pos (rm i n) (b := tk i) (by omega)
    rw [rm]; omega
theorem pc_length (i : Nat) (n : Int) (h0 : 0 ≤ n) (h1 : n ≤ 1000000) : (pc i n).length ≤ 8 := by
  unfold pc
  split
  · have ht := tk_bd i
    have hq0 : 0 ≤ n / tk i := Int.ediv_nonneg h0 (by omega)
    have hq1 : n / tk i ≤ n := Int.ediv_le_self _ h0
    rw [itoa_nat _ hq0, List.length_append, List.length_singleton]
    have := (dec_facts 7 (n / tk i).toNat (by omega) (by decide)).2.2.1
    omega
  · simp
theorem tx_length (n : Int) (h0 : 0 ≤ n) (h1 : n ≤ 1000000) : ∀ i, (tx i n).length ≤ 8 * i
  | 0 => by simp [tx]
  | i + 1 => by
    have := tx_length n h0 h1 i
    have hr := rm_bd n h0 h1 i
    have hp := pc_length i (rm i n) hr.1 hr.2
    rw [tx, List.length_append]; omega
theorem show_length (n : Int) (h0 : 0 ≤ n) (h1 : n ≤ 1000000) : (showL n).length ≤ 32 := by
  unfold showL
  split
  · simp
  · exact tx_length n h0 h1 4
end Go.Proofs.YtdkngidangfkiaaGreatDoor.Hours
namespace Go.Proofs.YtdkngidangfkiaaGreatDoor.Cmd
open Go.RowKit
open Base Runes Lex
set_option linter.unusedVariables false
set_option linter.unusedSimpArgs false
structure One (T : List Nat) (t : Tok) : Prop where
  ne : T ≠ []
  c1 : cls (T.getD 0 0 : Nat) ≠ 1
  ok : (oneR T 0).2.2.2 = 0
  len : (oneR T 0).2.1 = T.length
  eq : ∀ b, atT (oneR T 0).1 b = (t.1, t.2.1, t.2.2.1, (b : Int))
  good : GoodR T
  wr : wrB t = encB T
theorem one_of {t : Tok} (h : chE t = 0) : One (rn (wrB t)) t := by
  have h0 := h
  unfold chE at h
  split at h
  · rename_i hE
    split at h
    · rename_i x hx
      obtain ⟨a1, a2, a3, a4⟩ := chE_place h0 hx
      obtain ⟨_, h2, _⟩ := tkA_toks hE
      rw [hx] at h2
      have hgd := toks_good h2
      have hwr : wrB t = encB (rn (wrB t)) := (encB_rn hgd).symm
      generalize hX : rn (wrB t) = X at h2 hgd hwr ⊢
      cases h2 with
      | @blank r X' _ _ h1 h3 =>
        exfalso
        have := (toks_places h3).1 x (by simp)
        omega
      | @tok _ _ l hne h1 he h3 =>
        obtain ⟨w1, w2⟩ := one_width hne he
        have hsz : (wrB t).size = (encB (X.take (oneR X 0).2.1)).size := by
          rw [← wrB_eq a1 a2 a3]
          rcases (one_is hne he 0).2 with ⟨h2, e⟩ | e
          · rw [wrB_at, e]
            show (lowS _).size = _
            rw [Lib.size_eq, Lib.size_eq]; unfold lowS; rw [ofList_data, List.length_map]
          · rw [e]
        have hap := encB_size_append (X.take (oneR X 0).2.1) (X.drop (oneR X 0).2.1)
        rw [List.take_append_drop, ← hwr] at hap
        have hl : (oneR X 0).2.1 = X.length := by
          cases hd : X.drop (oneR X 0).2.1 with
          | nil => rw [List.drop_eq_nil_iff] at hd; omega
          | cons r u =>
            rw [hd] at hap
            have h5 := encB_size_append [r] u
            rw [List.singleton_append] at h5
            have := encB_one r
            omega
        refine ⟨hne, h1, he, hl, fun b => ?_, hgd, hwr⟩
        have b1 : (oneR X 0).1.1 = t.1 := a1
        have b2 : (oneR X 0).1.2.1 = t.2.1 := a2
        have b3 : (oneR X 0).1.2.2.1 = t.2.2.1 := a3
        unfold atT
        rw [b1, b2, b3]
    · simp at h
  · simp at h
theorem one_kind {T : List Nat} {t : Tok} (h : One T t) : (cls (T.getD 0 0 : Nat) = 2 → t.1 = 1) ∧ (cls (T.getD 0 0 : Nat) = 3 → t.1 = 2 ∨ t.1 = 3) := by
  have hk : (oneR T 0).1.1 = t.1 := congrArg (·.1) (h.eq 0)
  have ho := h.ok
  refine ⟨fun hc => ?_, fun hc => ?_⟩
  · rw [← hk]; unfold oneR; rw [if_neg (by omega), if_pos hc]
  · rw [← hk]
    unfold oneR at ho ⊢
    rw [if_neg (by omega), if_neg (by omega), if_pos hc] at ho ⊢
    by_cases ha : anyL (cutR T 0 (endR T 0)) = true
    · rw [if_pos ha]; exact .inr rfl
    · rw [if_neg ha] at ho ⊢
      by_cases hn : numR (cutR T 0 (endR T 0)) < 0
      · rw [if_pos hn] at ho; simp at ho
      · rw [if_neg hn]; exact .inl rfl
theorem glue {T Y : List Nat} {t : Tok} {b : Nat} {l : List Tok} (h : One T t) (hs : cls (T.getD 0 0 : Nat) = 2 ∨ cls (T.getD 0 0 : Nat) = 3 → stopB (contR (T.getD 0 0)) Y = true) (hY : Toks Y (b + T.length) l) :
    Toks (T ++ Y) b ((t.1, t.2.1, t.2.2.1, (b : Int)) :: l) := by
  have e : oneR (T ++ Y) 0 = oneR T 0 := one_local T (T ++ Y) h.ne h.ok (by rw [h.len]; simp) (by rw [h.len]; simp) (fun hc => by rw [h.len, List.drop_left]; exact hs hc)
  have hg : (T ++ Y).getD 0 0 = T.getD 0 0 := by
    have := h.ne
    cases T with
    | nil => exact absurd rfl this
    | cons a u => rfl
  have := Toks.tok (X := T ++ Y) (b := b) (l := l) (by have := h.ne; simp [this]) (by rw [hg]; exact h.c1) (by rw [e]; exact h.ok) (by rw [e, h.len, List.drop_left]; exact hY)
  rw [e, h.eq] at this
  exact this
theorem stop_of {c : Nat} (r : Nat) (Y : List Nat) (hw : wordR c = false) (hs : smallR c = false) (hc : cls (r : Int) = 2 ∨ cls (r : Int) = 3) : stopB (contR r) (c :: Y) = true := by
  show (!(contR r c)) = true
  unfold contR
  by_cases h2 : cls (r : Int) = 2
  · rw [if_pos h2, hw]; rfl
  · rw [if_neg h2, if_pos (by omega), hs]; rfl
theorem stop_num {c : Nat} (r : Nat) (Y : List Nat) (hs : smallR c = false) (hc : cls (r : Int) = 3) : stopB (contR r) (c :: Y) = true := by
  show (!(contR r c)) = true
  unfold contR
  rw [if_neg (by omega), if_pos hc, hs]; rfl
def sgn (c : UInt8) : Tok := (5, ⟨#[c]⟩, 0, 0)
def wrd (s : ByteArray) : Tok := (1, s, 0, 0)
def nmb (n : Int) : Tok := (2, ⟨#[]⟩, n, 0)
def tim (n : Int) : Tok := (3, ⟨(Hours.showL n).toArray⟩, 0, 0)
def txt (s : ByteArray) : Tok := (4, s, 0, 0)
def adj (t u : Tok) : Prop := t.1 = 5 ∨ u = sgn 61 ∨ u = sgn 58 ∨ (u = sgn 45 ∧ t.1 = 2)
def tied : List Tok → Prop
  | [] => True
  | [_] => True
  | t :: u :: l => adj t u ∧ tied (u :: l)
def rb (l : List Tok) : List Nat := l.flatMap fun t => rn (wrB t)
def wb (l : List Tok) : List UInt8 := l.flatMap fun t => (wrB t).data.toList
theorem rn_sgn : rn (wrB (sgn 61)) = [61] ∧ rn (wrB (sgn 58)) = [58] ∧ rn (wrB (sgn 45)) = [45] := by decide +kernel
theorem rb_head (l : List Tok) (Y : List Nat) (t : Tok) (hY : Y = [] ∨ ∃ Z, Y = 32 :: Z) (h : tied (t :: l)) {T : List Nat} (ho : One T t) : cls (T.getD 0 0 : Nat) = 2 ∨ cls (T.getD 0 0 : Nat) = 3 → stopB (contR (T.getD 0 0)) (rb l ++ Y) = true := by
  intro hc
  obtain ⟨k1, k2⟩ := one_kind ho
  cases l with
  | nil =>
    rw [show rb [] = [] from rfl, List.nil_append]
    rcases hY with rfl | ⟨Z, rfl⟩
    · rfl
    · exact stop32 _ _ hc
  | cons u m =>
    rw [show rb (u :: m) = rn (wrB u) ++ rb m from rfl, List.append_assoc]
    obtain ⟨s1, s2, s3⟩ := rn_sgn
    rcases h.1 with h5 | rfl | rfl | ⟨rfl, h2⟩
    · rcases hc with hc | hc
      · have := k1 hc; omega
      · have := k2 hc; omega
    · rw [s1]; exact stop_of _ _ (by decide) (by decide) hc
    · rw [s2]; exact stop_of _ _ (by decide) (by decide) hc
    · rw [s3]
      refine stop_num _ _ (by decide) ?_
      rcases hc with hc | hc
      · have := k1 hc; omega
      · exact hc
theorem tied_tail {t : Tok} {l : List Tok} (h : tied (t :: l)) : tied l := by
  cases l with
  | nil => trivial
  | cons u m => exact h.2
theorem tied_toks (l : List Tok) (h : ∀ t ∈ l, chE t = 0) (ht : tied l) (Y : List Nat) (m : List Tok) (hY : Y = [] ∨ ∃ Z, Y = 32 :: Z) (hm : ∀ b, ∃ k, Toks Y b k ∧ sameT false k m = true) :
    ∀ b, ∃ k, Toks (rb l ++ Y) b k ∧ sameT false k (l ++ m) = true := by
  induction l with
  | nil => exact hm
  | cons t l ih =>
    intro b
    have ho := one_of (h t (by simp))
    obtain ⟨k, h1, h2⟩ := ih (fun u hu => h u (by simp [hu])) (tied_tail ht) (b + (rn (wrB t)).length)
    refine ⟨(t.1, t.2.1, t.2.2.1, (b : Int)) :: k, ?_, ?_⟩
    · rw [show rb (t :: l) = rn (wrB t) ++ rb l from rfl, List.append_assoc]
      exact glue ho (rb_head l Y t hY ht ho) h1
    · rw [List.cons_append, sameT, h2]
      simp [eqT]
def bigR (L : List (List Tok)) : List Nat := L.flatMap fun l => 32 :: rb l
def bigB (L : List (List Tok)) : List UInt8 := L.flatMap fun l => 32 :: wb l
theorem big_toks (L : List (List Tok)) (h : ∀ l ∈ L, (∀ t ∈ l, chE t = 0) ∧ tied l) : ∀ b, ∃ k, Toks (bigR L) b k ∧ sameT false k L.flatten = true := by
  induction L with
  | nil => exact fun b => ⟨[], .nil b, rfl⟩
  | cons l L ih =>
    intro b
    have hl := h l (by simp)
    have ih := ih (fun x hx => h x (by simp [hx]))
    have hY : bigR L = [] ∨ ∃ Z, bigR L = 32 :: Z := by
      cases L with
      | nil => exact .inl rfl
      | cons a L => exact .inr ⟨_, rfl⟩
    obtain ⟨k, h1, h2⟩ := tied_toks l hl.1 hl.2 (bigR L) L.flatten hY ih (b + 1)
    refine ⟨k, ?_, by rw [List.flatten_cons]; exact h2⟩
    rw [show bigR (l :: L) = 32 :: (rb l ++ bigR L) from rfl]
    exact .blank (by decide) h1
theorem encL_rb (l : List Tok) (h : ∀ t ∈ l, chE t = 0) : encL (rb l) = wb l ∧ GoodR (rb l) := by
  induction l with
  | nil => exact ⟨rfl, GoodR.nil⟩
  | cons t l ih =>
    have ho := one_of (h t (by simp))
    obtain ⟨h1, h2⟩ := ih (fun u hu => h u (by simp [hu]))
    refine ⟨?_, ?_⟩
    · rw [show rb (t :: l) = rn (wrB t) ++ rb l from rfl, show wb (t :: l) = (wrB t).data.toList ++ wb l from rfl, encL_append, h1]
      congr 1
      conv => rhs; rw [ho.wr]
      rfl
    · exact goodR_append.2 ⟨ho.good, h2⟩
theorem encL_big (L : List (List Tok)) (h : ∀ l ∈ L, (∀ t ∈ l, chE t = 0) ∧ tied l) : encL (bigR L) = bigB L ∧ GoodR (bigR L) := by
  induction L with
  | nil => exact ⟨rfl, GoodR.nil⟩
  | cons l L ih =>
    obtain ⟨h1, h2⟩ := ih (fun x hx => h x (by simp [hx]))
    obtain ⟨h3, h4⟩ := encL_rb l (h l (by simp)).1
    rw [show bigR (l :: L) = [32] ++ (rb l ++ bigR L) from rfl, show bigB (l :: L) = [32] ++ (wb l ++ bigB L) from by simp [bigB], encL_append, encL_append, h1, h3]
    refine ⟨by congr 1, goodR_append.2 ⟨by intro r hr; simp at hr; subst hr; decide, goodR_append.2 ⟨h4, h2⟩⟩⟩
theorem line_toks (B : List Tok) (L : List (List Tok)) (hB : (∀ t ∈ B, chE t = 0) ∧ tied B) (h : ∀ l ∈ L, (∀ t ∈ l, chE t = 0) ∧ tied l) (s : ByteArray) (hs : s.size ≤ 400) (he : s.data.toList = wb B ++ bigB L) :
    ∃ k, tkA s = (k, cn s, 0) ∧ sameT false k (B ++ L.flatten) = true := by
  obtain ⟨e1, g1⟩ := encL_rb B hB.1
  obtain ⟨e2, g2⟩ := encL_big L h
  have hg : GoodR (rb B ++ bigR L) := goodR_append.2 ⟨g1, g2⟩
  have hse : s = encB (rb B ++ bigR L) := by
    apply ByteArray.ext; apply Array.toList_inj.1
    rw [he, encB_data, encL_append, e1, e2]
  have hrn : rn s = rb B ++ bigR L := by rw [hse]; exact rn_encB _ hg
  have hY : bigR L = [] ∨ ∃ Z, bigR L = 32 :: Z := by
    cases L with
    | nil => exact .inl rfl
    | cons a L => exact .inr ⟨_, rfl⟩
  obtain ⟨k, h1, h2⟩ := tied_toks B hB.1 hB.2 (bigR L) L.flatten hY (big_toks L h) 0
  refine ⟨k, ?_, h2⟩
  have := toks_tkA (s := s) (l := k) hs (by rw [hrn]; exact h1)
  rw [this, rn_length]
theorem chE_is (t : Tok) (T : List Nat) (hw : wrB t = encB T) (hg : GoodR T) (hs : (encB T).size ≤ 400) (hne : T ≠ []) (h1 : cls (T.getD 0 0 : Nat) ≠ 1) (r : Tok × Nat × Nat × Int) (ho : oneR T 0 = r) (he : r.2.2.2 = 0) (hl : r.2.1 = T.length)
    (e1 : r.1.1 = t.1) (e2 : r.1.2.1 = t.2.1) (e3 : r.1.2.2.1 = t.2.2.1) : chE t = 0 := by
  subst ho
  exact chE_of t T hw hg hs hne h1 he hl e1 e2 e3
def upN (l : List UInt8) : List Nat := l.map fun b => b.toNat
theorem upN_small {l : List UInt8} (h : ∀ b ∈ l, b.toNat < 128 ∧ 33 ≤ b.toNat ∧ b.toNat ≤ 126) : GoodR (upN l) ∧ encL (upN l) = l := by
  induction l with
  | nil => exact ⟨GoodR.nil, rfl⟩
  | cons b t ih =>
    obtain ⟨h1, h2⟩ := ih (fun x hx => h x (by simp [hx]))
    have hb := h b (by simp)
    have hc : cls ((b.toNat : Nat) : Int) ≠ 0 := by
      unfold cls
      rw [if_neg (by omega), if_neg (by omega)]
      split
      · decide
      · split <;> decide
    refine ⟨goodR_cons.2 ⟨hc, h1⟩, ?_⟩
    rcases (decode_encode b.toNat [] hc).2.1 with ⟨_, e⟩ | ⟨c, _⟩
    · rw [show upN (b :: t) = [b.toNat] ++ upN t from rfl, encL_append, h2]
      have : encL [b.toNat] = Go.Lib.encodeRune ((b.toNat : Nat) : Int) := by simp [encL]
      rw [this, e]
      simp
    · omega
theorem digR_upN {l : List UInt8} (h : ∀ b ∈ l, Hours.D b = true) : DigR (upN l) := by
  intro r hr
  obtain ⟨b, hb, rfl⟩ := List.mem_map.1 hr
  exact Hours.D_nat b (h b hb)
theorem vN_vl (l : List UInt8) : ∀ a, vN a (upN l) = Hours.vl a l := by
  induction l with
  | nil => intro a; rfl
  | cons b t ih =>
    intro a
    rw [Hours.vl_cons]
    show vN (10 * a + (b.toNat - 48)) (upN t) = _
    rw [ih, Nat.mul_comm 10 a]
theorem anyL_dig {T : List Nat} (h : DigR T) : anyL T = false := by
  unfold anyL
  rw [List.any_eq_false]
  intro r hr
  have := h r hr
  simp; omega
theorem end_all {T : List Nat} (hne : T ≠ []) (h : ∀ r ∈ T.drop 1, contR (T.getD 0 0) r = true) : endR T 0 = T.length := by
  unfold endR
  rw [Nat.zero_add, runN_all _ _ h, List.length_drop]
  have := List.length_pos_iff.2 hne
  omega
theorem chE_num (n : Int) (h0 : 0 ≤ n) (h1 : n < 1000000000) : chE (nmb n) = 0 := by
  obtain ⟨u, rfl⟩ := Int.eq_ofNat_of_zero_le h0
  have hu : u < 10 ^ 9 := by have : (10 : Nat) ^ 9 = 1000000000 := by decide
                             omega
  obtain ⟨f1, f2, f3, f4, f5⟩ := Hours.dec_facts 9 u hu (by decide)
  have hdig : (digF 20 u) = Go.Lib.decDigits u := dec_dig 20 u (by have : (10 : Nat) ^ 9 ≤ 10 ^ 20 := Nat.pow_le_pow_right (by decide) (by decide)
                                                                   omega) (by decide)
  obtain ⟨L, hL⟩ : ∃ L, L = Go.Lib.decDigits u := ⟨_, rfl⟩
  rw [← hL] at f1 f2 f3 f4 f5 hdig
  have hD := digR_upN f1
  have hsm : GoodR (upN L) ∧ encL (upN L) = L := upN_small (fun b hb => by have := Hours.D_nat b (f1 b hb); omega)
  have hlen : (upN L).length = L.length := by simp [upN]
  have hne : upN L ≠ [] := by intro h; rw [h] at hlen; exact f4 (List.eq_nil_of_length_eq_zero hlen.symm)
  have hg0 : ∀ d, L ≠ [] → (upN L).getD 0 d = (L.getD 0 0).toNat := by
    intro d hl
    cases L with
    | nil => exact absurd rfl hl
    | cons a t => rfl
  have hwr : wrB (nmb (u : Int)) = encB (upN L) := by
    unfold wrB nmb
    rw [if_pos rfl]
    unfold digB encB
    dsimp only
    rw [if_neg (by omega), hsm.2]
    show (⟨(digF 20 u).toArray⟩ : ByteArray) = _
    rw [hdig]
  have hhd : 48 ≤ (upN L).getD 0 0 ∧ (upN L).getD 0 0 ≤ 57 := by
    have := hD _ (List.getElem_mem (l := upN L) (n := 0) (List.length_pos_iff.2 hne))
    simpa [List.getD, List.getElem?_eq_getElem (List.length_pos_iff.2 hne)] using this
  have hcl : cls ((upN L).getD 0 0 : Nat) = 3 := by unfold cls; rw [if_neg (by omega), if_neg (by omega), if_pos (by omega)]
  have hend : endR (upN L) 0 = (upN L).length := end_all hne fun r hr => by
    have := hD r (List.mem_of_mem_drop hr)
    unfold contR
    rw [if_neg (by omega), if_pos hcl]
    unfold smallR; rw [decide_eq_true_iff]; omega
  have hnum : numR (upN L) = (u : Int) := by
    unfold numR
    rw [if_neg (by
      rintro (h | h | ⟨h, h2⟩)
      · exact f4 (List.eq_nil_of_length_eq_zero (by omega))
      · omega
      · by_cases hu1 : 1 ≤ u
        · apply f5 hu1
          have := hg0 0 f4
          rw [h2] at this
          exact UInt8.toNat_inj.1 this.symm
        · obtain rfl : u = 0 := by omega
          rw [Go.Lib.decDigits, dif_pos (by decide)] at hL
          have : L.length = 1 := by rw [hL]; rfl
          omega)]
    have := numF_v (upN L) 0 hD
    rw [show numF 0 (upN L) = numF ((0 : Nat) : Int) (upN L) from rfl, this, vN_vl, f2]
  have hsz : (encB (upN L)).size ≤ 400 := by rw [Lib.size_eq, encB_data, hsm.2]; omega
  refine chE_is (nmb (u : Int)) (upN L) hwr hsm.1 hsz hne (by omega) ((2, ⟨#[]⟩, (u : Int), 0), (upN L).length, 0, 0) ?_ rfl rfl rfl rfl rfl
  unfold oneR
  rw [if_neg (by omega), if_neg (by omega), if_pos hcl, hend, cutR_zero, List.take_length, if_neg (by rw [anyL_dig hD]; simp), hnum, if_neg (by omega)]
  rfl
def tmB (b : UInt8) : Bool := Hours.D b || b == 100 || b == 104 || b == 109 || b == 115
theorem tmB_nat {b : UInt8} (h : tmB b = true) : (48 ≤ b.toNat ∧ b.toNat ≤ 57) ∨ b.toNat = 100 ∨ b.toNat = 104 ∨ b.toNat = 109 ∨ b.toNat = 115 := by
  unfold tmB at h
  simp only [Bool.or_eq_true, beq_iff_eq] at h
  rcases h with (((h | h) | h) | h) | h
  · exact .inl (Hours.D_nat b h)
  · subst h; exact .inr (.inl rfl)
  · subst h; exact .inr (.inr (.inl rfl))
  · subst h; exact .inr (.inr (.inr (.inl rfl)))
  · subst h; exact .inr (.inr (.inr (.inr rfl)))
theorem sg_tm (i : Nat) : tmB (Hours.sg i) = true ∧ 97 ≤ (Hours.sg i).toNat := by
  match i with
  | 0 | 1 | 2 => decide
  | n + 3 => exact (by decide : tmB 115 = true ∧ 97 ≤ (115 : UInt8).toNat)
theorem pc_tm (i : Nat) (n : Int) (h0 : 0 ≤ n) (h1 : n ≤ 1000000) : (∀ b ∈ Hours.pc i n, tmB b = true) ∧ (Hours.pc i n).length ≤ 8 ∧ (Hours.pc i n ≠ [] → (∃ b ∈ Hours.pc i n, 97 ≤ b.toNat) ∧ Hours.D ((Hours.pc i n).getD 0 0) = true) := by
  unfold Hours.pc
  by_cases h : Hours.tk i ≤ n
  · rw [if_pos h]
    have htk := Hours.tk_bd i
    have hq0 : 0 ≤ n / Hours.tk i := Int.ediv_nonneg h0 (by omega)
    have hq1 : n / Hours.tk i ≤ n := Int.ediv_le_self _ h0
    obtain ⟨u, hu⟩ := Int.eq_ofNat_of_zero_le hq0
    have h7 : (10 : Nat) ^ 7 = 10000000 := by decide
    obtain ⟨f1, f2, f3, f4, f5⟩ := Hours.dec_facts 7 u (by omega) (by decide)
    rw [Hours.itoa_nat _ hq0, hu, Int.toNat_natCast]
    refine ⟨fun b hb => ?_, by rw [List.length_append, List.length_singleton]; omega, fun _ => ⟨⟨Hours.sg i, by simp, (sg_tm i).2⟩, ?_⟩⟩
    · rcases List.mem_append.1 hb with hb | hb
      · unfold tmB; rw [f1 b hb]; rfl
      · rw [List.mem_singleton] at hb; subst hb; exact (sg_tm i).1
    · cases hd : Go.Lib.decDigits u with
      | nil => exact absurd hd f4
      | cons a t => exact f1 a (by rw [hd]; simp)
  · rw [if_neg h]; exact ⟨by simp, by simp, fun h => absurd rfl h⟩
theorem rm_bd (n : Int) (h0 : 0 ≤ n) (h1 : n ≤ 1000000) : ∀ i, 0 ≤ Hours.rm i n ∧ Hours.rm i n ≤ 1000000
  | 0 => ⟨h0, h1⟩
  | i + 1 => by
    have ih := rm_bd n h0 h1 i
    have htk := Hours.tk_bd i
    unfold Hours.rm
    have a := Int.emod_nonneg (Hours.rm i n) (show Hours.tk i ≠ 0 by omega)
    have b := Int.emod_lt_of_pos (Hours.rm i n) (show 0 < Hours.tk i by omega)
    omega
theorem tx_tm (n : Int) (h0 : 0 ≤ n) (h1 : n ≤ 1000000) : ∀ k, (∀ b ∈ Hours.tx k n, tmB b = true) ∧ (Hours.tx k n).length ≤ 8 * k ∧ (Hours.tx k n ≠ [] → (∃ b ∈ Hours.tx k n, 97 ≤ b.toNat) ∧ Hours.D ((Hours.tx k n).getD 0 0) = true)
  | 0 => ⟨by simp [Hours.tx], by simp [Hours.tx], fun h => absurd rfl h⟩
  | k + 1 => by
    obtain ⟨i1, i2, i3⟩ := tx_tm n h0 h1 k
    obtain ⟨hr0, hr1⟩ := rm_bd n h0 h1 k
    obtain ⟨p1, p2, p3⟩ := pc_tm k (Hours.rm k n) hr0 hr1
    rw [show Hours.tx (k + 1) n = Hours.tx k n ++ Hours.pc k (Hours.rm k n) from rfl]
    refine ⟨fun b hb => ?_, by rw [List.length_append]; omega, fun hne => ?_⟩
    · rcases List.mem_append.1 hb with hb | hb
      · exact i1 b hb
      · exact p1 b hb
    · by_cases hx : Hours.tx k n = []
      · rw [hx, List.nil_append] at hne ⊢
        exact p3 hne
      · obtain ⟨⟨b, hb, hb2⟩, hd⟩ := i3 hx
        refine ⟨⟨b, by simp [hb], hb2⟩, ?_⟩
        cases hc : Hours.tx k n with
        | nil => exact absurd hc hx
        | cons a t => rw [hc] at hd; exact hd
theorem chE_tim (n : Int) (h0 : 1 ≤ n) (h1 : n ≤ 1000000) : chE (tim n) = 0 := by
  have hsh : Hours.showL n = Hours.tx 4 n := by unfold Hours.showL; rw [if_neg (by omega)]
  obtain ⟨f1, f2, f3⟩ := tx_tm n (by omega) h1 4
  have hne0 := Hours.tx_ne n h0 h1
  obtain ⟨⟨bb, hb1, hb2⟩, hd⟩ := f3 hne0
  unfold tim
  rw [hsh]
  obtain ⟨L, hL⟩ : ∃ L, L = Hours.tx 4 n := ⟨_, rfl⟩
  rw [← hL] at f1 f2 hne0 hb1 hd ⊢
  have hsm : GoodR (upN L) ∧ encL (upN L) = L := upN_small (fun b hb => by rcases tmB_nat (f1 b hb) with h | h | h | h | h <;> omega)
  have hlen : (upN L).length = L.length := by simp [upN]
  have hne : upN L ≠ [] := by intro h; rw [h] at hlen; exact hne0 (List.eq_nil_of_length_eq_zero hlen.symm)
  have hhd : 48 ≤ (upN L).getD 0 0 ∧ (upN L).getD 0 0 ≤ 57 := by
    cases L with
    | nil => exact absurd rfl hne0
    | cons a t => exact Hours.D_nat a hd
  have hcl : cls ((upN L).getD 0 0 : Nat) = 3 := by unfold cls; rw [if_neg (by omega), if_neg (by omega), if_pos (by omega)]
  have hend : endR (upN L) 0 = (upN L).length := end_all hne fun r hr => by
    obtain ⟨b, hb, rfl⟩ := List.mem_map.1 (List.mem_of_mem_drop hr)
    have := tmB_nat (f1 b hb)
    unfold contR
    rw [if_neg (by omega), if_pos hcl]
    unfold smallR; rw [decide_eq_true_iff]; omega
  have hany : anyL (upN L) = true := by
    unfold anyL
    rw [List.any_eq_true]
    exact ⟨bb.toNat, List.mem_map.2 ⟨bb, hb1, rfl⟩, by rw [decide_eq_true_iff]; exact hb2⟩
  have hen : encB (upN L) = ⟨L.toArray⟩ := by unfold encB; rw [hsm.2]
  have hsz : (encB (upN L)).size ≤ 400 := by rw [Lib.size_eq, encB_data, hsm.2]; omega
  refine chE_is (3, ⟨L.toArray⟩, 0, 0) (upN L) (by rw [hen]; rfl) hsm.1 hsz hne (by omega) ((3, ⟨L.toArray⟩, 0, 0), (upN L).length, 0, 0) ?_ rfl rfl rfl rfl rfl
  unfold oneR
  rw [if_neg (by omega), if_neg (by omega), if_pos hcl, hend, cutR_zero, List.take_length, if_pos hany, hen]
  rfl
def mkN (l : List Nat) : List Nat := l.flatMap fun r => if mkR r then [92, r] else [r]
theorem mkN_cons (r : Nat) (t : List Nat) : mkN (r :: t) = (if mkR r then [92, r] else [r]) ++ mkN t := by simp [mkN, List.flatMap_cons]
theorem mkN_enc (l : List Nat) (h : GoodR l) : encL (mkN l) = mk (encL l) ∧ GoodR (mkN l) ∧ ∀ z, scn (mkN l ++ 34 :: z) = (0, (mkN l).length) := by
  induction l with
  | nil => exact ⟨rfl, GoodR.nil, fun z => scn_end z⟩
  | cons r t ih =>
    obtain ⟨hr, ht⟩ := goodR_cons.1 h
    obtain ⟨e, g, s⟩ := ih ht
    have hcat : encL (r :: t) = encL [r] ++ encL t := by rw [← encL_append]; rfl
    have h1 : encL [r] = Go.Lib.encodeRune (r : Int) := by simp [encL]
    rw [mkN_cons, hcat, mk_append, ← e, h1]
    rcases (decode_encode r [] hr).2.1 with ⟨hlt, ee⟩ | ⟨hge, hh⟩
    · have hb : (UInt8.ofNat r).toNat = r := by rw [UInt8.toNat_ofNat']; omega
      have hmk : mkB (UInt8.ofNat r) = mkR r := by rw [mkB_nat, hb]
      rw [ee, mk_cons, mk_nil, List.append_nil, hmk]
      cases hm : mkR r with
      | true =>
        rw [if_pos rfl, if_pos rfl, encL_append]
        refine ⟨?_, goodR_append.2 ⟨goodR_cons.2 ⟨by decide, goodR_cons.2 ⟨hr, GoodR.nil⟩⟩, g⟩, fun z => ?_⟩
        · have : encL [92, r] = Go.Lib.encodeRune ((92 : Nat) : Int) ++ Go.Lib.encodeRune (r : Int) := by simp [encL]
          rw [this, ee]
          rfl
        · show scn (92 :: r :: (mkN t ++ 34 :: z)) = _
          rw [scn_bs _ hr, s z]
          simp
      | false =>
        rw [if_neg (by simp), if_neg (by simp), encL_append, h1, ee]
        refine ⟨rfl, goodR_append.2 ⟨goodR_cons.2 ⟨hr, GoodR.nil⟩, g⟩, fun z => ?_⟩
        have h34 : r ≠ 34 := by rintro rfl; exact absurd hm (by decide)
        have h92 : r ≠ 92 := by rintro rfl; exact absurd hm (by decide)
        show scn (r :: (mkN t ++ 34 :: z)) = _
        obtain ⟨c1, c2⟩ := scn_on (mkN t ++ 34 :: z) h34 hr h92
        rw [s z] at c1 c2
        exact Prod.ext c1 ((c2 (by simp)).trans (by simp))
    · have hm : mkR r = false := by simp [mkR]; omega
      have hhi : ∀ b ∈ Go.Lib.encodeRune (r : Int), mkB b = false := fun b hb => high_mark (hh b hb)
      rw [mk_high _ hhi, hm, if_neg (by simp), encL_append, h1]
      refine ⟨rfl, goodR_append.2 ⟨goodR_cons.2 ⟨hr, GoodR.nil⟩, g⟩, fun z => ?_⟩
      show scn (r :: (mkN t ++ 34 :: z)) = _
      obtain ⟨c1, c2⟩ := scn_on (mkN t ++ 34 :: z) (by omega) hr (by omega)
      rw [s z] at c1 c2
      exact Prod.ext c1 ((c2 (by simp)).trans (by simp))
theorem goodR_of_ck {s : ByteArray} (h : ckE s = 0) : GoodR (rn s) := by
  have hg := (ckE_good s).1 h
  intro r hr
  unfold rn at hr
  rw [ps_zero] at hr
  obtain ⟨q, hq, rfl⟩ := List.mem_map.1 hr
  exact hg q hq
theorem uq_yes' {s : ByteArray} (h : ckE s = 0) : uqS (qtS s) = s ∧ uqE (qtS s) = 0 := by
  have hd : (qtS s).data.toList = qt s.data.toList := by rw [qt_yes h]
  have hg : ckE (qtS s) = 0 := by rw [ckE_good, hd, good_qt, ← ckE_good]; exact h
  have hu : uq (qtS s).data.toList = some s.data.toList := by rw [hd, uq_qt]
  obtain ⟨h1, h2⟩ := uq_yes hg hu
  exact ⟨h1.symm, h2.symm⟩
theorem chE_txt (s : ByteArray) (h : ckE s = 0) (hs : s.size ≤ 190) : chE (txt s) = 0 := by
  have hg := goodR_of_ck h
  obtain ⟨e, g, sc⟩ := mkN_enc (rn s) hg
  have hes : encL (rn s) = s.data.toList := by have := congrArg (fun z : ByteArray => z.data.toList) (encB_rn hg); exact this
  rw [hes] at e
  obtain ⟨T, hT⟩ : ∃ T, T = 34 :: (mkN (rn s) ++ [34]) := ⟨_, rfl⟩
  have hTe : encB T = qtS s := by
    apply ByteArray.ext; apply Array.toList_inj.1
    rw [qt_yes h, encB_data, hT, show (34 :: (mkN (rn s) ++ [34])) = [34] ++ (mkN (rn s) ++ [34]) from rfl, encL_append, encL_append, e]
    rfl
  have hTg : GoodR T := by rw [hT]; exact goodR_cons.2 ⟨by decide, goodR_append.2 ⟨g, goodR_cons.2 ⟨by decide, GoodR.nil⟩⟩⟩
  have hsz : (encB T).size ≤ 400 := by rw [hTe]; have := qtS_size2 s; omega
  have hne : T ≠ [] := by rw [hT]; simp
  have h0 : T.getD 0 0 = 34 := by rw [hT]; rfl
  have hlen : T.length = (mkN (rn s)).length + 2 := by rw [hT]; simp
  obtain ⟨u1, u2⟩ := uq_yes' h
  have hdr : T.drop (0 + 1) = mkN (rn s) ++ 34 :: [] := by rw [hT]; rfl
  have hcl : cls ((34 : Nat) : Int) = 4 := by decide
  refine chE_is (txt s) T (by rw [hTe]; rfl) hTg hsz hne (by rw [h0]; decide) ((4, s, 0, 0), T.length, 0, 0) ?_ rfl rfl rfl rfl rfl
  unfold oneR
  rw [h0, if_neg (by rw [hcl]; decide), if_neg (by rw [hcl]; decide), if_neg (by rw [hcl]; decide), if_pos rfl]
  unfold textR
  rw [hdr, sc []]
  dsimp only
  rw [if_neg (by decide), if_pos rfl, show 0 + (mkN (rn s)).length + 2 = T.length by omega, cutR_zero, List.take_length, hTe, u2, u1, if_pos rfl]
  rfl
theorem chE_sgn : chE (sgn 61) = 0 ∧ chE (sgn 58) = 0 ∧ chE (sgn 45) = 0 := by decide +kernel
end Go.Proofs.YtdkngidangfkiaaGreatDoor.Cmd
namespace Go.Proofs.YtdkngidangfkiaaGreatDoor.Shape
set_option linter.unusedVariables false
set_option linter.unusedSimpArgs false
abbrev Alt := Int × Int
def frB (n lo hi : Int) : Bool := decide (lo ≤ n) && decide (n ≤ hi)
def sizeB (n : Int) : Bool := frB n 1 48
def wallB (n : Int) : Bool := frB n 1 100000
theorem frB_iff (n lo hi : Int) : frB n lo hi = true ↔ lo ≤ n ∧ n ≤ hi := by simp [frB]
theorem sizeB_iff (n : Int) : sizeB n = true ↔ 1 ≤ n ∧ n ≤ 48 := frB_iff _ _ _
theorem wallB_iff (n : Int) : wallB n = true ↔ 1 ≤ n ∧ n ≤ 100000 := frB_iff _ _ _
def altOk (a : Alt) : Bool := sizeB a.1 && wallB a.2
def hasN (zs : List Alt) (x : Int) : Bool := zs.any fun b => b.1 == x
def goodB (zs : List Alt) : Bool := zs.all altOk && decide (zs.map Prod.fst).Nodup
def mayB (zs : List Alt) (most : Int) : Bool := frB zs.length 1 most && goodB zs
def spanB (mn mx wl : Int) : Bool := decide (mn ≠ 0) || decide (mx ≠ 0) || decide (wl ≠ 0)
theorem goodB_iff (zs : List Alt) : goodB zs = true ↔ (∀ i (h : i < zs.length), altOk zs[i] = true) ∧ ∀ i j (hi : i < zs.length) (hj : j < zs.length), i < j → zs[i].1 ≠ zs[j].1 := by
  unfold goodB
  rw [Bool.and_eq_true, List.all_eq_true, decide_eq_true_iff]
  unfold List.Nodup
  rw [List.pairwise_iff_getElem]
  constructor
  · rintro ⟨h1, h2⟩
    refine ⟨fun i h => h1 _ (List.getElem_mem h), fun i j hi hj hij => ?_⟩
    have := h2 i j (by simpa using hi) (by simpa using hj) hij
    simpa using this
  · rintro ⟨h1, h2⟩
    refine ⟨fun x hx => ?_, fun i j hi hj hij => ?_⟩
    · obtain ⟨i, hi, rfl⟩ := List.getElem_of_mem hx
      exact h1 i hi
    · simp only [List.length_map] at hi hj
      simpa using h2 i j hi hj hij
theorem hasN_take (zs : List Alt) (k : Nat) (x : Int) : hasN (zs.take k) x = false ↔ ∀ i (h : i < zs.length), i < k → zs[i].1 ≠ x := by
  unfold hasN
  rw [List.any_eq_false]
  constructor
  · intro h i hi hk
    have := h zs[i] (List.mem_take_iff_getElem.2 ⟨i, by omega, rfl⟩)
    simpa using this
  · intro h a ha
    obtain ⟨i, hi, rfl⟩ := List.mem_take_iff_getElem.1 ha
    have := h i (by omega) (by omega)
    simpa using this
theorem goodB_steps (zs : List Alt) : goodB zs = true ↔ ∀ k (h : k < zs.length), altOk zs[k] = true ∧ hasN (zs.take k) zs[k].1 = false := by
  rw [goodB_iff]
  constructor
  · rintro ⟨h1, h2⟩ k hk
    exact ⟨h1 k hk, (hasN_take _ _ _).2 fun i hi hik => h2 i k hi hk hik⟩
  · intro h
    exact ⟨fun i hi => (h i hi).1, fun i j hi hj hij => (hasN_take _ _ _).1 (h j hj).2 i hi hij⟩
theorem goodB_no (zs : List Alt) (k : Nat) (h : k < zs.length) (hn : altOk zs[k] = false ∨ hasN (zs.take k) zs[k].1 = true) : goodB zs = false := by
  cases hg : goodB zs with
  | false => rfl
  | true =>
    have := (goodB_steps zs).1 hg k h
    rcases hn with hn | hn
    · rw [hn] at this; exact absurd this.1 (by simp)
    · rw [hn] at this; exact absurd this.2 (by simp)
def chkB (k : Int) (zs : List Alt) (mn mx wl : Int) : Bool :=
  if k = 1 then mayB zs 1 && !spanB mn mx wl
  else if k = 2 then mayB zs 6 && !spanB mn mx wl
  else if k = 3 then sizeB mn && sizeB mx && decide (mn ≤ mx) && wallB wl && decide ((zs.length : Int) = 0)
  else false
def chkE (k : Int) (zs : List Alt) (mn mx wl : Int) : Int := if chkB k zs mn mx wl then 0 else 70
theorem altOk_iff (a : Alt) : altOk a = true ↔ (1 ≤ a.1 ∧ a.1 ≤ 48) ∧ 1 ≤ a.2 ∧ a.2 ≤ 100000 := by
  unfold altOk; rw [Bool.and_eq_true, sizeB_iff, wallB_iff]
end Go.Proofs.YtdkngidangfkiaaGreatDoor.Shape
namespace Go.Proofs.YtdkngidangfkiaaGreatDoor.Shape
open Go.RowKit
open Base
set_option linter.unusedVariables false
set_option linter.unusedSimpArgs false
def altC (a : Alt) : List Value := [.int .i64 a.1, .int .i64 a.2]
theorem altC_length (a : Alt) : (altC a).length = 2 := rfl
theorem alt_cells {w : World} {a : Option Addr} {zs : List Alt} (h : ReadsS 2 altC w a zs) {j : Nat} (hj : j < zs.length) :
    ∃ b off, a = some ⟨b, off, none⟩ ∧ w.cell? ⟨b, off + j * 2, none⟩ = some (.int .i64 zs[j].1) ∧ w.cell? ⟨b, off + j * 2 + 1, none⟩ = some (.int .i64 zs[j].2) := by
  obtain ⟨b, off, ha, hc⟩ := h.at_ hj
  exact ⟨b, off, ha, hc 0 (by decide), hc 1 (by decide)⟩
set_option maxHeartbeats 1000000 in
theorem isFrom_any (n lo hi : Int) (w : World) :
    Calls Tryz.prog 156 #[.int .i64 n, .int .i64 lo, .int .i64 hi] w fun e w' => e = .returned (.bool (frB n lo hi)) ∧ w = w' := by
  have HX : Hid (frB n lo hi = (decide (lo ≤ n) && decide (n ≤ hi))) := Lib.hid rfl
  cases h1 : decide (lo ≤ n) with
  | true =>
    go_enter Tryz.func156, Tryz.ntmps156
    go_wp2
    go_ret
    exact ⟨ret_bool (by rw [HX.out, h1]; rfl), rfl⟩
  | false =>
    go_enter Tryz.func156, Tryz.ntmps156
    go_wp2
    go_ret
    exact ⟨ret_bool (by rw [HX.out, h1]; rfl), rfl⟩
set_option maxHeartbeats 1000000 in
theorem isSize_any (n : Int) (w : World) :
    Calls Tryz.prog 119 #[.int .i64 n] w fun e w' => e = .returned (.bool (sizeB n)) ∧ w = w' := by
  go_enter Tryz.func119, Tryz.ntmps119
  go_wp2_with (first
    | (go_at_call 156; (with_reducible refine (isFrom_any _ _ _ _).mono ?_); rintro e w' ⟨rfl, rfl⟩)
    | fail)
  go_ret
  exact ⟨rfl, rfl⟩
set_option maxHeartbeats 1000000 in
theorem isWall_any (n : Int) (w : World) :
    Calls Tryz.prog 120 #[.int .i64 n] w fun e w' => e = .returned (.bool (wallB n)) ∧ w = w' := by
  go_enter Tryz.func120, Tryz.ntmps120
  go_wp2_with (first
    | (go_at_call 156; (with_reducible refine (isFrom_any _ _ _ _).mono ?_); rintro e w' ⟨rfl, rfl⟩)
    | fail)
  go_ret
  exact ⟨rfl, rfl⟩
set_option maxHeartbeats 1000000 in
theorem hasSpan_any (k : Int) (ao : Option Addr) (len cap : Nat) (mn mx wl : Int) (w : World) :
    Calls Tryz.prog 118 #[.agg #[.int .i64 k, .slice ao len cap, .int .i64 mn, .int .i64 mx, .int .i64 wl]] w fun e w' => e = .returned (.bool (spanB mn mx wl)) ∧ Below w.heap.size w w' := by
  have HX : Hid (spanB mn mx wl = (decide (mn ≠ 0) || decide (mx ≠ 0) || decide (wl ≠ 0))) := Lib.hid rfl
  cases h1 : (mn != 0) with
  | true =>
    have h1' : mn ≠ 0 := by simpa using h1
    have HX : Hid (true = spanB mn mx wl) := Lib.hid (by rw [HX.out, decide_eq_true h1']; rfl)
    clear h1'
    go_enter Tryz.func118, Tryz.ntmps118
    go_wp2
    go_ret
    exact ⟨ret_bool HX.out, by (focus repeat (first | exact Below.refl _ _ | assumption | (exact Hid.out (by assumption)) | (with_reducible refine Below.drew ?_) | (with_reducible refine Base.below_drewN ?_ _) | (refine Below.from (below_one _) ?_) | (refine Below.from (below_conv _ _ _) ?_) | (refine Below.setCell ?_ (by simp <;> omega) _) | (refine Below.from (by assumption) ?_)))⟩
  | false =>
    have h1' : mn = 0 := by simpa using h1
    cases h2 : (mx != 0) with
    | true =>
      have h2' : mx ≠ 0 := by simpa using h2
      have HX : Hid (true = spanB mn mx wl) := Lib.hid (by rw [HX.out, decide_eq_true h2']; simp)
      clear h1' h2'
      go_enter Tryz.func118, Tryz.ntmps118
      go_wp2
      go_ret
      exact ⟨ret_bool HX.out, by (focus repeat (first | exact Below.refl _ _ | assumption | (exact Hid.out (by assumption)) | (with_reducible refine Below.drew ?_) | (with_reducible refine Base.below_drewN ?_ _) | (refine Below.from (below_one _) ?_) | (refine Below.from (below_conv _ _ _) ?_) | (refine Below.setCell ?_ (by simp <;> omega) _) | (refine Below.from (by assumption) ?_)))⟩
    | false =>
      have h2' : mx = 0 := by simpa using h2
      have HX : Hid ((wl != 0) = spanB mn mx wl) := Lib.hid (by rw [HX.out, h1', h2']; rw [Bool.eq_iff_iff]; simp)
      clear h1' h2'
      go_enter Tryz.func118, Tryz.ntmps118
      go_wp2
      go_ret
      exact ⟨ret_bool HX.out, by (focus repeat (first | exact Below.refl _ _ | assumption | (exact Hid.out (by assumption)) | (with_reducible refine Below.drew ?_) | (with_reducible refine Base.below_drewN ?_ _) | (refine Below.from (below_one _) ?_) | (refine Below.from (below_conv _ _ _) ?_) | (refine Below.setCell ?_ (by simp <;> omega) _) | (refine Below.from (by assumption) ?_)))⟩
theorem asLarge_any (B : Nat) (x : Int) (n wl : Int) (w : World) (hB : w.cell? ⟨B, 0, none⟩ = some (.int .i64 x)) :
    Calls Tryz.prog 157 #[.agg #[.int .i64 n, .int .i64 wl], .pointer (some ⟨B, 0, none⟩)] w fun e w' => e = .returned (.bool (n == x)) ∧ Below w.heap.size w w' := by
  have h2 := cell_below hB (below_one (.cells #[.int .i64 n, .int .i64 wl] 88))
  go_enter Tryz.func157, Tryz.ntmps157
  go_wp2
  go_ret
  exact ⟨rfl, by (focus repeat (first | exact Below.refl _ _ | assumption | (exact Hid.out (by assumption)) | (with_reducible refine Below.drew ?_) | (with_reducible refine Base.below_drewN ?_ _) | (refine Below.from (below_one _) ?_) | (refine Below.from (below_conv _ _ _) ?_) | (refine Below.setCell ?_ (by simp <;> omega) _) | (refine Below.from (by assumption) ?_)))⟩
end Go.Proofs.YtdkngidangfkiaaGreatDoor.Shape
