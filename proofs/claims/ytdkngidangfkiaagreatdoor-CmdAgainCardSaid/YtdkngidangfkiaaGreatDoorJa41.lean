/-
  Joined out of: What takes a command, whatever stands there; what it tells is small. The program's Tokens once more: the row that it tells lies in a block that is there.
-/
import Derived.Test.YtdkngidangfkiaaGreatDoorJa39
import Derived.Test.YtdkngidangfkiaaGreatDoorJa40
import Derived.Test.YtdkngidangfkiaaGreatDoorJa08
namespace Go.Proofs.YtdkngidangfkiaaGreatDoor.Cmd
open Go.RowKit
open Base
open Lex (Tok tkC tkC_length tokV zT)
set_option linter.unusedVariables false
set_option linter.unusedSimpArgs false
theorem rdCmd_none {l r : List Tok} (h : nx (qWord qK) l = (none, r)) : rdCmd l = (none, r) := by
  unfold rdCmd rdWord getW
  rw [show (fun s => decide (kindN s ≠ 0)) = qK from rfl, h]; rfl
theorem rdCmd_miss {l r r2 : List Tok} {t : Tok} (h : nx (qWord qK) l = (some t, r)) (h1 : rdTgt (zCo (kindN t.2.1 : Nat)) r = (none, r2)) : rdCmd l = (none, r2) := by
  unfold rdCmd rdWord getW
  rw [show (fun s => decide (kindN s ≠ 0)) = qK from rfl, h]
  dsimp only [Option.map]
  rw [h1]
theorem rdCmd_loop {l r r2 : List Tok} {t : Tok} {c0 : Co} (h : nx (qWord qK) l = (some t, r)) (h1 : rdTgt (zCo (kindN t.2.1 : Nat)) r = (some c0, r2)) : rdCmd l = (finC (rdLoop r2.length c0 [] r2).1, (rdLoop r2.length c0 [] r2).2) := by
  unfold rdCmd rdWord getW
  rw [show (fun s => decide (kindN s ≠ 0)) = qK from rfl, h]
  dsimp only [Option.map]
  rw [h1]
  dsimp only
  rcases rdLoop r2.length c0 [] r2 with ⟨_ | ⟨c, st⟩, r3⟩
  · rfl
  · unfold finC
    dsimp only
    split <;> rfl
theorem command_any (u : World) (B n : Nat) (l : List Tok) (w : World) (hR : RdAt w B l n) (hs : ∀ t ∈ l, t.2.1.size ≤ 1000000) (hl : l.length ≤ 500) (hC : Ctx u w B) :
    Calls Tryz.prog 40 #[.pointer (some ⟨B, 0, none⟩)] w fun e w' => CmdSays B n (rdCmd l).1 (rdCmd l).2 w e w' := by
  rcases h0 : nx (qWord qK) l with ⟨_ | t, r⟩
  · rw [rdCmd_none h0]; exact command_none u B n l w hR hC r h0
  · rcases h1 : rdTgt (zCo (kindN t.2.1 : Nat)) r with ⟨_ | c0, r2⟩
    · rw [rdCmd_miss h0 h1]; exact command_miss u B n l w hR hs hC t r r2 h0 h1
    · rw [rdCmd_loop h0 h1]; exact command_loop u B n l w hR hs hl hC t r r2 c0 h0 h1
def smallC (c : Co) : Prop := c.name.size ≤ 1000000 ∧ c.user.size ≤ 1000000 ∧ c.account.size ≤ 1000000
theorem rdWord_small {q : ByteArray → Bool} {l r : List Tok} {s : ByteArray} (hs : ∀ t ∈ l, t.2.1.size ≤ 1000000) (h : rdWord q l = (some s, r)) : s.size ≤ 1000000 := by
  unfold rdWord getW at h
  rcases h0 : nx (qWord q) l with ⟨_ | t, r0⟩
  · rw [h0] at h; simp at h
  · rw [h0] at h
    simp only [Option.map, Prod.mk.injEq, Option.some.injEq] at h
    obtain ⟨rfl, _⟩ := h
    exact hs t (by rw [(nx_shorter _ _ h0).1]; simp)
theorem mapV_word {α : Type} {f : α → Vl} {a : Option α × List Tok} {x : ByteArray} {r : List Tok} (h : mapV f a = (some (.word x), r)) : ∃ y, a.1 = some y ∧ f y = .word x := by
  unfold mapV at h
  rcases a with ⟨_ | y, b⟩
  · simp at h
  · simp only [Option.map, Prod.mk.injEq, Option.some.injEq] at h
    exact ⟨y, rfl, h.1⟩
theorem rdVal_small {s : ByteArray} {st : List Fd} {l r : List Tok} {x : ByteArray} (hs : ∀ t ∈ l, t.2.1.size ≤ 1000000) (h : rdVal s st l = (some (.word x), r)) : x.size ≤ 1000000 := by
  unfold rdVal at h
  repeat' split at h
  · obtain ⟨y, h1, h2⟩ := mapV_word h
    injection h2 with h2
    subst h2
    exact rdWord_small (r := (rdWord nameB l).2) hs (Prod.ext h1 rfl)
  all_goals
    obtain ⟨y, h1, h2⟩ := mapV_word h
    cases h2
theorem rdFd_small {k : Int} {st : List Fd} {l r : List Tok} {f : Fd} (hs : ∀ t ∈ l, t.2.1.size ≤ 1000000) (h : rdFd k st l = (some f, r)) : ∀ x, f.2 = .word x → x.size ≤ 1000000 := by
  unfold rdFd at h
  have s1 := rdWord_suffix (qField k st) l
  rcases h0 : rdWord (qField k st) l with ⟨_ | a, r1⟩
  · rw [h0] at h; simp at h
  · rw [h0] at h s1
    dsimp only at h s1
    have s2 := nx_suffix (qSign kEq) r1
    rcases h1 : nx (qSign kEq) r1 with ⟨_ | b, r2⟩
    · rw [h1] at h; simp at h
    · rw [h1] at h s2
      dsimp only at h s2
      rcases h2 : rdVal a st r2 with ⟨_ | v, r3⟩
      · rw [h2] at h; simp at h
      · rw [h2] at h
        simp only [Prod.mk.injEq, Option.some.injEq] at h
        obtain ⟨rfl, rfl⟩ := h
        intro x hx
        dsimp only at hx
        subst hx
        exact rdVal_small (fun t ht => hs t ((s2.trans s1).mem ht)) h2
theorem lay_small {c : Co} {f : Fd} (h : smallC c) (hf : ∀ x, f.2 = .word x → x.size ≤ 1000000) : smallC (layC c f) := by
  obtain ⟨h1, h2, h3⟩ := h
  obtain ⟨s, v⟩ := f
  unfold layC
  cases v with
  | word x =>
    have := hf x rfl
    dsimp only
    split
    · exact ⟨h1, this, h3⟩
    · exact ⟨h1, h2, this⟩
  | num n =>
    dsimp only
    repeat' split
    all_goals exact ⟨h1, h2, h3⟩
  | id n => exact ⟨h1, h2, h3⟩
  | tk n => exact ⟨h1, h2, h3⟩
  | opt a b => exact ⟨h1, h2, h3⟩
  | span a b => exact ⟨h1, h2, h3⟩
theorem rdLoop_small : ∀ (f : Nat) (c : Co) (st : List Fd) (l r : List Tok) (c2 : Co) (st2 : List Fd), smallC c → (∀ t ∈ l, t.2.1.size ≤ 1000000) → rdLoop f c st l = (some (c2, st2), r) → smallC c2
  | 0, c, st, l, r, c2, st2, hc, hs, h => by
    rw [rdLoop] at h
    injection h with h _; injection h with h; injection h with h _; subst h; exact hc
  | f + 1, c, st, l, r, c2, st2, hc, hs, h => by
    rw [rdLoop] at h
    split at h
    · injection h with h _; injection h with h; injection h with h _; subst h; exact hc
    · have s1 := (rdFd_suffix c.kind st l).1
      rcases h0 : rdFd c.kind st l with ⟨_ | x, r1⟩
      · rw [h0] at h; simp at h
      · rw [h0] at h s1
        exact rdLoop_small f _ _ r1 r c2 st2 (lay_small hc (rdFd_small hs h0)) (fun t ht => hs t (s1.mem ht)) h
theorem gather_small {c : Co} (h : smallC c) : smallC (gatherC c) := by
  unfold gatherC
  repeat' split
  all_goals exact h
theorem map_small {o : Option Int} {f : Int → Co} {c : Co} (hf : ∀ n, smallC (f n)) (h : o.map f = some c) : smallC c := by
  cases o with
  | none => simp at h
  | some n => injection h with h; subst h; exact hf n
theorem rdTgt_small {k : Int} {l r : List Tok} {c : Co} (hs : ∀ t ∈ l, t.2.1.size ≤ 1000000) (h : rdTgt (zCo k) l = (some c, r)) : smallC c := by
  have h0 : smallC (zCo k) := ⟨Nat.zero_le _, Nat.zero_le _, Nat.zero_le _⟩
  unfold rdTgt at h
  split at h
  · injection h with h _; injection h with h; subst h; exact h0
  · split at h
    · injection h with h _
      rcases h1 : nx qName l with ⟨_ | t, r0⟩
      · rw [h1] at h; simp at h
      · rw [h1] at h
        simp only [Option.map, Option.some.injEq] at h
        subst h
        exact ⟨hs t (by rw [(nx_shorter _ _ h1).1]; simp), h0.2.1, h0.2.2⟩
    · split at h
      all_goals
        injection h with h _
        refine map_small (fun n => ?_) h
        exact ⟨Nat.zero_le _, Nat.zero_le _, Nat.zero_le _⟩
theorem rdCmd_small {l r : List Tok} {c : Co} (hs : ∀ t ∈ l, t.2.1.size ≤ 1000000) (h : rdCmd l = (some c, r)) : smallC c := by
  have s1 := nx_suffix (qWord qK) l
  rcases h0 : nx (qWord qK) l with ⟨_ | t, r1⟩
  · rw [rdCmd_none h0] at h; simp at h
  · rw [h0] at s1
    have hs1 : ∀ t ∈ r1, t.2.1.size ≤ 1000000 := fun t ht => hs t (s1.mem ht)
    rcases h1 : rdTgt (zCo (kindN t.2.1 : Nat)) r1 with ⟨_ | c0, r2⟩
    · rw [rdCmd_miss h0 h1] at h; simp at h
    · have s2 := rdTgt_suffix (zCo (kindN t.2.1 : Nat)) r1
      rw [h1] at s2
      rw [rdCmd_loop h0 h1] at h
      rcases h2 : rdLoop r2.length c0 [] r2 with ⟨_ | ⟨c2, st⟩, r3⟩
      · rw [h2] at h; simp [finC] at h
      · rw [h2] at h
        have hsm := rdLoop_small r2.length c0 [] r2 r3 c2 st (rdTgt_small hs1 h1) (fun t ht => hs1 t (s2.mem ht)) h2
        unfold finC at h
        dsimp only at h
        split at h
        · simp at h
        · injection h with h _; injection h with h; subst h; exact gather_small hsm
end Go.Proofs.YtdkngidangfkiaaGreatDoor.Cmd
namespace Go.Proofs.YtdkngidangfkiaaGreatDoor.Lex
open Go.RowKit
open Base Runes LexLib
set_option linter.unusedVariables false
set_option linter.unusedSimpArgs false
def LineAt (w w' : World) (e : Ending) (A : List Tok × Nat × Int) : Prop :=
  ∃ ao cap, e = .returned (.tuple #[.slice ao A.1.length cap, .int .i64 (A.2.1 : Int), .int .i64 A.2.2]) ∧ ReadsS 4 tkC w' ao A.1 ∧ (ao = none → cap = 0) ∧ A.1.length ≤ cap ∧ cap ≤ maxLen ∧ Below w.heap.size w w' ∧ ∀ a, ao = some a → w.heap.size ≤ a.block ∧ a.block < w'.heap.size
set_option maxRecDepth 100000 in
set_option maxHeartbeats 4000000 in
theorem tokens_at (s : ByteArray) (hs : s.size ≤ maxLen) (w : World) (hT : Tb w) :
    Calls Tryz.prog 39 #[.string s] w fun e w' => LineAt w w' e (tkA s) := by
  unfold maxLen at hs
  by_cases hbig : 400 < s.size
  · have hTk : tkA s = ([], 0, 3) := by unfold tkA; rw [if_pos hbig]
    rw [hTk]
    go_enter Tryz.func39, Tryz.ntmps39
    go_wp2
    go_ret3
    exact ⟨none, 0, rfl, .inl rfl, fun _ => rfl, Nat.le_refl _, Nat.zero_le _, Below.refl _ _, fun _ h => by cases h⟩
  · obtain ⟨i0, hi, hz0, hz1, hz2⟩ := info_parts info_tok
    have HI := Lib.hid hi
    have HZ0 := Lib.hid hz0
    have HZ1 := Lib.hid hz1
    have HZ2 := Lib.hid hz2
    clear hi hz0 hz1 hz2
    have c1 := pieces_any s (by omega) w
    have hok := pcs_ok s
    have hfew := pcs_few s
    obtain ⟨A, hA⟩ : ∃ A, A = tkA s := ⟨_, rfl⟩
    rw [← hA]
    rw [← pcs_tkA hbig] at hA
    obtain ⟨Z, hZ⟩ : ∃ Z, Z = pcs s := ⟨_, rfl⟩
    rw [← hZ] at hA c1 hok hfew
    have hZl : Z.length ≤ 400 := by omega
    have C1 := Lib.hid c1
    have HA := Lib.hid hA
    have HOK := Lib.hid hok
    have HT := Lib.hid hT
    clear c1 hA hZ hok hT hfew
    go_enter Tryz.func39, Tryz.ntmps39
    go_wp2_with (first | (go_at_call 61; (with_reducible refine (C1.out).mono ?_); rintro e w1 ⟨ro, rcap, rfl, hr, hrn, hrc, hrm, p1⟩) | fail)
    have HR := Lib.hid hr
    have P1 := Lib.hid p1
    have HT1 := Lib.hid (HT.out.later p1)
    clear hr p1
    go_loopw [5, 6, 18] (fun v nn i wr => ∃ (k n : Nat) (acc : List Tok), nn = .int .i64 (n : Int) ∧ i = .int .i64 (k : Int) ∧ k ≤ Z.length ∧ n ≤ 400 * k ∧ OwnS 4 tkC w1.heap.size 96 v acc wr ∧ tkF (Z.drop k) n acc = A ∧ acc.length ≤ k ∧ Below w1.heap.size w1 wr) (fun _ _ i _ => Z.length - (intOf i).toNat)
    case atStart => exact ⟨0, 0, [], rfl, rfl, Nat.zero_le _, Nat.zero_le _, OwnS.nil (Nat.le_refl _), HA.out.symm, Nat.le_refl _, Below.refl _ _⟩
    case round =>
      obtain ⟨k, n, acc, rfl, rfl, hk, hnk, ho, hc, hal, hb⟩ := hrel
      have HO := Lib.hid ho
      have HB := Lib.hid hb
      obtain ⟨ao, cap, rfl, hrd, hnil, hcap, hcm⟩ := ho.value tkC_length
      have HRD := Lib.hid hrd
      have HTB := Lib.hid (HT1.out.later hb)
      clear ho hb hrd
      by_cases hp : k < Z.length
      · rw [List.drop_eq_getElem_cons hp, tkF] at hc
        have hrw := HR.out.below HB.out
        obtain ⟨b0, off0, rfl, hcx⟩ := hrw.at_ hp
        have hzk := HOK.out Z[k] (List.getElem_mem hp)
        obtain ⟨z, hz⟩ : ∃ z, z = Z[k] := ⟨_, rfl⟩
        rw [← hz] at hcx hc hzk
        have hzs : z.size ≤ 400 := by omega
        have hpl := tokI_place z
        have hcn := cn_le z
        have c2 := token_any z hzk.1 (by omega) wr HTB.out
        have c3 := fun w => count_any z (by omega) w
        obtain ⟨⟨⟨k', s', n', a'⟩, q, e'⟩, hQ⟩ : ∃ Q, Q = tokI z := ⟨_, rfl⟩
        rw [← hQ] at hc c2 hpl
        simp only [pieV, tokV] at c2
        dsimp only at hc hpl
        obtain ⟨c, hcz⟩ : ∃ c, c = cn z := ⟨_, rfl⟩
        rw [← hcz] at hc hcn
        simp only [← hcz] at c3
        have C2 := Lib.hid c2
        have C3 := Lib.hid c3
        clear c2 c3 hz hzk hQ hcz hrw
        by_cases he : e' = 0
        · subst he
          rw [if_neg (by simp)] at hc
          by_cases h0 : k' = 0
          · subst h0
            rw [if_neg (by simp)] at hc
            have HC := Lib.hid hc
            clear hc
            go_wp2_with (first
              | (go_at_call 62; (with_reducible refine (C2.out).mono ?_); rintro e w2 ⟨rfl, p2⟩)
              | (go_at_call 16; (with_reducible refine (C3.out _).mono ?_); rintro e w3 ⟨rfl, p3⟩)
              | fail)
            have hw3 := p3.from (Below.from (below_one _) p2)
            refine ⟨⟨k + 1, n + c, acc, by go_num, by go_num, by omega, by omega, HO.out.below hw3, HC.out, by omega, HB.out.trans (hw3.mono HB.out.size)⟩, ?_⟩
            simp [intOf]; omega
          · rw [if_pos h0] at hc
            have t0 : (k' != 0) = true := by rw [bne_iff_ne]; exact h0
            have HC := Lib.hid hc
            clear hc h0
            go_wp2_with (first
              | (go_at_call 62; (with_reducible refine (C2.out).mono ?_); rintro e w2 ⟨rfl, p2⟩)
              | (go_at_call 16; (with_reducible refine (C3.out _).mono ?_); rintro e w5 ⟨rfl, p5⟩)
              | (at_builtin; refine wpList_append_srcS rfl (.tmp 39) (.tmp 41) 73 rfl tkC_length (by decide) i0 _ 40 Tryz.underlying73 HI.out HZ0.out HZ1.out HZ2.out rfl tkC_one rfl (((HO.out.below p2).alloc _).alloc _) _ 1 1 [((k', s', n', (n : Int)) : Tok)] rfl rfl (readsT_one (by simp) (k', s', n', (n : Int)) _) (by intro h; cases h) (by omega) (by unfold maxLen; omega) ?_; intro v4 w4 o4 b4)
              | fail)
            have hw2 : Below w1.heap.size w1 ((w2.alloc (.cells #[.int .i64 k', .string s', .int .i64 n', .int .i64 (n : Int)] 96)).alloc (.cells #[.int .i64 k', .string s', .int .i64 n', .int .i64 (n : Int)] 96)) := by
              have h1 := HB.out.trans (p2.mono HB.out.size)
              exact (h1.alloc h1.size _).alloc (by have := h1.size; simp; omega) _
            have hw4 := hw2.trans b4
            refine ⟨⟨k + 1, n + c, acc ++ [(k', s', n', (n : Int))], by go_num, by go_num, by omega, by omega, o4.below p5, HC.out, by simp; omega, hw4.trans (p5.mono hw4.size)⟩, ?_⟩
            simp [intOf]; omega
        · rw [if_pos he] at hc
          have HC := Lib.hid hc
          have te : (e' != 0) = true := by rw [bne_iff_ne]; exact he
          clear hc he
          go_wp2_with (first
            | (go_at_call 62; (with_reducible refine (C2.out).mono ?_); rintro e w2 ⟨rfl, p2⟩)
            | fail)
          go_ret3
          have hw2 : Below w.heap.size w (w2.alloc (.cells #[.int .i64 k', .string s', .int .i64 n', .int .i64 a'] 96)) := by
            have h1 := (p2.from (HB.out.from P1.out))
            exact h1.alloc h1.size _
          rw [← HC.out]
          exact ⟨none, 0, by simp, .inl rfl, fun _ => rfl, Nat.le_refl _, Nat.zero_le _, hw2, fun _ h => by cases h⟩
      · have hkk : k = Z.length := by omega
        rw [List.drop_eq_nil_of_le (by omega), tkF] at hc
        have HF := Lib.hid hc
        clear hc
        go_wp2
        go_ret3
        rw [← HF.out]
        exact ⟨ao, cap, rfl, HRD.out, hnil, hcap, hcm, HB.out.from P1.out, fun a h => by subst h; have h1 := HO.out.1.lt a.block rfl; have h2 := P1.out.size; omega⟩
end Go.Proofs.YtdkngidangfkiaaGreatDoor.Lex
