/-
  Joined out of: The walks of the document's own written tokens. The walks of the document's own Check, Text and Join. Layer 5, plain: runes that are not bad, their bytes, and back. Layer 5, plain: what a token depends on; tokens of what stands ahead, of lines joined.
-/
import Derived.Test.YtdkngidangfkiaaGreatDoorJa03
import Derived.Deep.RegionWith
namespace Go.Proofs.YtdkngidangfkiaaGreatDoor.Lex
open Go.RowKit
open Base Runes
set_option linter.unusedVariables false
set_option linter.unusedSimpArgs false
def digF : Nat → Nat → List UInt8
  | 0, _ => []
  | f + 1, n => if n < 10 then [UInt8.ofNat (48 + n)] else digF f (n / 10) ++ [UInt8.ofNat (48 + n % 10)]
def digB (n : Int) : ByteArray := if n < 0 then ⟨#[]⟩ else ⟨(digF 20 n.toNat).toArray⟩
theorem digF_length (f n : Nat) : (digF f n).length ≤ f := by
  induction f generalizing n with
  | zero => simp [digF]
  | succ f ih =>
    rw [digF]
    split
    · simp
    · have := ih (n / 10); simp; omega
def wrB (t : Tok) : ByteArray := if t.1 = 2 then digB t.2.2.1 else if t.1 = 4 then qtS t.2.1 else t.2.1
def chE (t : Tok) : Int :=
  if (tkA (wrB t)).2.2 = 0 then
    match (tkA (wrB t)).1 with
    | [x] => if x.1 = t.1 ∧ x.2.1 = t.2.1 ∧ x.2.2.1 = t.2.2.1 then 0 else 50
    | _ => 50
  else 50
def txS (t : Tok) : ByteArray := if chE t = 0 then wrB t else ⟨#[]⟩
theorem chE_or (t : Tok) : chE t = 0 ∨ chE t = 50 := by
  unfold chE
  split
  · split
    · split
      · exact .inl rfl
      · exact .inr rfl
    · exact .inr rfl
  · exact .inr rfl
end Go.Proofs.YtdkngidangfkiaaGreatDoor.Lex
namespace Go.Proofs.YtdkngidangfkiaaGreatDoor.Lex
open Go.RowKit
open Base Runes
set_option linter.unusedVariables false
set_option linter.unusedSimpArgs false
theorem digB_size (n : Int) : (digB n).size ≤ 20 := by
  unfold digB; split
  · exact Nat.zero_le _
  · rw [Lib.size_eq, ofList_data]; exact digF_length _ _
theorem qtS_size2 (s : ByteArray) : (qtS s).size ≤ 2 * s.size + 2 := by
  unfold qtS; split
  · rw [Lib.size_eq, ofList_data, Lib.size_eq]
    unfold qt
    have := mk_length s.data.toList
    rw [List.length_cons, List.length_append, List.length_singleton]; omega
  · exact Nat.zero_le _
theorem wrB_size (t : Tok) : (wrB t).size ≤ 2 * t.2.1.size + 20 := by
  unfold wrB; split
  · have := digB_size t.2.2.1; omega
  · split
    · have := qtS_size2 t.2.1; omega
    · omega
theorem txS_yes {t : Tok} (h : chE t = 0) : wrB t = txS t := by unfold txS; rw [if_pos h]
theorem txS_no {t : Tok} (h : chE t = 50) : ⟨#[]⟩ = txS t := by unfold txS; rw [if_neg (by omega)]
end Go.Proofs.YtdkngidangfkiaaGreatDoor.Lex
namespace Go.Proofs.YtdkngidangfkiaaGreatDoor.Lex
open Go.RowKit
open Base Runes
open Go.Lib (decodeL decodeN encodeRune decodeL_N decodeN_shape decodeN_ascii decodeL_le decodeL_width takeA takeB takeC takeD encode_decode decodeL_drop)
set_option linter.unusedVariables false
set_option linter.unusedSimpArgs false
theorem cls_ok {r : Nat} (h : cls (r : Int) ≠ 0) : r ≤ 1114111 ∧ ¬ (55296 ≤ r ∧ r ≤ 57343) ∧ 9 ≤ r ∧ ¬ (127 ≤ r ∧ r ≤ 160) ∧ ¬ (10 ≤ r ∧ r ≤ 31) := by
  unfold cls at h
  split at h
  · exact absurd rfl h
  · omega
theorem byte_nat (n : Nat) (z : Int) (hz : z = (n : Int)) (h : n < 256) : (z.toNat.toUInt8).toNat = n := by
  subst hz
  show (UInt8.ofNat n).toNat = n
  rw [UInt8.toNat_ofNat']; omega
theorem decode_encode (r : Nat) (t : List UInt8) (h : cls (r : Int) ≠ 0) :
    decodeL (encodeRune (r : Int) ++ t) = (r, (encodeRune (r : Int)).length) ∧ ((r < 128 ∧ encodeRune (r : Int) = [UInt8.ofNat r]) ∨ (128 ≤ r ∧ ∀ b ∈ encodeRune (r : Int), 128 ≤ b.toNat)) ∧ 0 < (encodeRune (r : Int)).length := by
  obtain ⟨h0, h1, _, _, _⟩ := cls_ok h
  unfold encodeRune
  by_cases c1 : r < 128
  · rw [Lib.encodeRuneZ_one (by omega) (by omega)]
    refine ⟨?_, .inl ⟨c1, rfl⟩, by simp⟩
    show decodeL (((r : Int).toNat.toUInt8) :: t) = (r, 1)
    rw [decodeL_N]
    show decodeN _ ((r : Int).toNat.toUInt8).toNat _ _ _ = _
    rw [byte_nat r _ rfl (by omega)]
    exact decodeN_ascii _ _ _ _ _ c1
  · by_cases c2 : r < 2048
    · rw [Lib.encodeRuneZ_two (by omega) (by omega)]
      obtain ⟨a, ha⟩ : ∃ a : UInt8, a = (192 + (r : Int) / 64).toNat.toUInt8 := ⟨_, rfl⟩
      obtain ⟨b, hb⟩ : ∃ b : UInt8, b = (128 + (r : Int) % 64).toNat.toUInt8 := ⟨_, rfl⟩
      have ea : a.toNat = 192 + r / 64 := by rw [ha]; exact byte_nat _ _ (by omega) (by omega)
      have eb : b.toNat = 128 + r % 64 := by rw [hb]; exact byte_nat _ _ (by omega) (by omega)
      simp only [List.map_cons, List.map_nil, ← ha, ← hb, List.cons_append, List.nil_append]
      refine ⟨?_, .inr ⟨by omega, ?_⟩, by simp⟩
      · rw [decodeL_N]
        show decodeN (t.length + 2) a.toNat b.toNat _ _ = _
        rw [dec2 _ _ _ _ _ (by omega) (by omega) (by omega) (by omega)]
        exact Prod.ext (by dsimp only; omega) rfl
      · simp only [List.mem_cons, List.not_mem_nil, or_false]
        rintro x (rfl | rfl) <;> omega
    · by_cases c3 : r < 65536
      · rw [Lib.encodeRuneZ_three (by omega)]
        obtain ⟨a, ha⟩ : ∃ a : UInt8, a = (224 + (r : Int) / 4096).toNat.toUInt8 := ⟨_, rfl⟩
        obtain ⟨b, hb⟩ : ∃ b : UInt8, b = (128 + (r : Int) / 64 % 64).toNat.toUInt8 := ⟨_, rfl⟩
        obtain ⟨c, hc⟩ : ∃ c : UInt8, c = (128 + (r : Int) % 64).toNat.toUInt8 := ⟨_, rfl⟩
        have ea : a.toNat = 224 + r / 4096 := by rw [ha]; exact byte_nat _ _ (by omega) (by omega)
        have eb : b.toNat = 128 + r / 64 % 64 := by rw [hb]; exact byte_nat _ _ (by omega) (by omega)
        have ec : c.toNat = 128 + r % 64 := by rw [hc]; exact byte_nat _ _ (by omega) (by omega)
        simp only [List.map_cons, List.map_nil, ← ha, ← hb, ← hc, List.cons_append, List.nil_append]
        refine ⟨?_, .inr ⟨by omega, ?_⟩, by simp⟩
        · rw [decodeL_N]
          show decodeN (t.length + 3) a.toNat b.toNat c.toNat _ = _
          rw [dec3 _ _ _ _ _ (by omega) (by omega) (by omega) (by omega) (by omega) (by omega)]
          exact Prod.ext (by dsimp only; omega) rfl
        · simp only [List.mem_cons, List.not_mem_nil, or_false]
          rintro x (rfl | rfl | rfl) <;> omega
      · rw [Lib.encodeRuneZ_four (by omega) (by omega)]
        obtain ⟨a, ha⟩ : ∃ a : UInt8, a = (240 + (r : Int) / 262144).toNat.toUInt8 := ⟨_, rfl⟩
        obtain ⟨b, hb⟩ : ∃ b : UInt8, b = (128 + (r : Int) / 4096 % 64).toNat.toUInt8 := ⟨_, rfl⟩
        obtain ⟨c, hc⟩ : ∃ c : UInt8, c = (128 + (r : Int) / 64 % 64).toNat.toUInt8 := ⟨_, rfl⟩
        obtain ⟨d, hd⟩ : ∃ d : UInt8, d = (128 + (r : Int) % 64).toNat.toUInt8 := ⟨_, rfl⟩
        have ea : a.toNat = 240 + r / 262144 := by rw [ha]; exact byte_nat _ _ (by omega) (by omega)
        have eb : b.toNat = 128 + r / 4096 % 64 := by rw [hb]; exact byte_nat _ _ (by omega) (by omega)
        have ec : c.toNat = 128 + r / 64 % 64 := by rw [hc]; exact byte_nat _ _ (by omega) (by omega)
        have ed : d.toNat = 128 + r % 64 := by rw [hd]; exact byte_nat _ _ (by omega) (by omega)
        simp only [List.map_cons, List.map_nil, ← ha, ← hb, ← hc, ← hd, List.cons_append, List.nil_append]
        refine ⟨?_, .inr ⟨by omega, ?_⟩, by simp⟩
        · rw [decodeL_N]
          show decodeN (t.length + 4) a.toNat b.toNat c.toNat d.toNat = _
          rw [dec4 _ _ _ _ _ (by omega) (by omega) (by omega) (by omega) (by omega) (by omega) (by omega)]
          exact Prod.ext (by dsimp only; omega) rfl
        · simp only [List.mem_cons, List.not_mem_nil, or_false]
          rintro x (rfl | rfl | rfl | rfl) <;> omega
def GoodR (l : List Nat) : Prop := ∀ r ∈ l, cls (r : Int) ≠ 0
theorem GoodR.nil : GoodR [] := by simp [GoodR]
theorem goodR_cons {r : Nat} {t : List Nat} : GoodR (r :: t) ↔ cls (r : Int) ≠ 0 ∧ GoodR t := by simp [GoodR]
theorem goodR_append {a b : List Nat} : GoodR (a ++ b) ↔ GoodR a ∧ GoodR b := by simp [GoodR, or_imp, forall_and]
theorem GoodR.take {l : List Nat} (h : GoodR l) (n : Nat) : GoodR (l.take n) := fun r hr => h r (List.mem_of_mem_take hr)
theorem GoodR.drop {l : List Nat} (h : GoodR l) (n : Nat) : GoodR (l.drop n) := fun r hr => h r (List.mem_of_mem_drop hr)
theorem pc_encL (T : List Nat) (h : GoodR T) : pc (encL T) = T.map fun r : Nat => (r, encodeRune (r : Int)) := by
  induction T with
  | nil => rfl
  | cons r t ih =>
    obtain ⟨h1, h2⟩ := goodR_cons.1 h
    obtain ⟨e1, _, e3⟩ := decode_encode r (encL t) h1
    have e : encL (r :: t) = encodeRune (r : Int) ++ encL t := rfl
    have hne : encL (r :: t) ≠ [] := by rw [e]; intro h0; rw [List.append_eq_nil_iff] at h0; rw [h0.1] at e3; simp at e3
    rw [pc_step _ hne, e, e1]
    simp only [List.take_left', List.drop_left', List.map_cons]
    rw [ih h2]
theorem encB_data (T : List Nat) : (encB T).data.toList = encL T := rfl
theorem rn_encB (T : List Nat) (h : GoodR T) : rn (encB T) = T := by
  unfold rn
  rw [ps_zero, encB_data, pc_encL T h, List.map_map]
  conv => rhs; rw [← List.map_id T]
  rfl
theorem good_encB (T : List Nat) (h : GoodR T) : ckE (encB T) = 0 := by
  rw [ckE_good, encB_data]
  unfold Runes.Good
  rw [pc_encL T h]
  intro q hq
  obtain ⟨r, hr, rfl⟩ := List.mem_map.1 hq
  exact h r hr
theorem encL_pc (l : List UInt8) : Runes.Good l → ∀ n, encL (((pc l).map (·.1)).take n) = l.take (plc n (pc l)) := by
  induction l using pc_ind with
  | h0 => intro _ n; cases n <;> rfl
  | h1 l hne ih =>
    intro hg n
    obtain ⟨g1, g2, _⟩ := good_head l hne hg
    rw [pc_step l hne]
    cases n with
    | zero => rfl
    | succ n =>
      have hle := decodeL_le l hne
      rw [List.map_cons, List.take_succ_cons, plc, List.length_take, Nat.min_eq_left hle, List.take_add, ← ih g2 n, ← g1]
      rfl
theorem plc_all (l : List UInt8) : plc (pc l).length (pc l) = l.length := by
  induction l using pc_ind with
  | h0 => rfl
  | h1 l hne ih =>
    have hle := decodeL_le l hne
    rw [pc_step l hne, List.length_cons, plc, ih, List.length_take, Nat.min_eq_left hle, List.length_drop]; omega
theorem good_rn {s : ByteArray} (h : GoodR (rn s)) : Runes.Good s.data.toList := by
  intro q hq
  exact h q.1 (List.mem_map.2 ⟨q, hq, rfl⟩)
theorem encB_rn {s : ByteArray} (h : GoodR (rn s)) : encB (rn s) = s := by
  have := encL_pc _ (good_rn h) (pc s.data.toList).length
  rw [List.take_of_length_le (by simp), plc_all, List.take_of_length_le (Nat.le_refl _)] at this
  apply ByteArray.ext; apply Array.toList_inj.1
  rw [encB_data, ← this]; rfl
end Go.Proofs.YtdkngidangfkiaaGreatDoor.Lex
namespace Go.Proofs.YtdkngidangfkiaaGreatDoor.Lex
open Go.RowKit
open Base Runes
set_option linter.unusedVariables false
set_option linter.unusedSimpArgs false
def stopB (q : Nat → Bool) : List Nat → Bool
  | [] => true
  | r :: _ => !q r
theorem run_local (q : Nat → Bool) (t z : List Nat) (h : z.take (runN q t) = t.take (runN q t)) (hl : runN q t ≤ z.length) (hs : stopB q (z.drop (runN q t)) = true) : runN q z = runN q t := by
  induction t generalizing z with
  | nil =>
    rw [runN] at hs ⊢
    cases z with
    | nil => rfl
    | cons r z => rw [List.drop_zero, stopB] at hs; rw [runN, if_neg (by simpa using hs)]
  | cons r t ih =>
    rw [runN] at h hl hs ⊢
    by_cases hq : q r = true
    · rw [if_pos hq] at h hl hs ⊢
      cases z with
      | nil => simp at hl
      | cons c z =>
        simp only [List.take_succ_cons, List.cons.injEq] at h
        rw [List.drop_succ_cons] at hs
        rw [runN, h.1, if_pos hq, ih z h.2 (by simpa using hl) hs]
    · rw [if_neg hq] at h hl hs ⊢
      cases z with
      | nil => rfl
      | cons c z => rw [List.drop_zero, stopB] at hs; rw [runN, if_neg (by simpa using hs)]
theorem scn_local : ∀ (n : Nat) (t z : List Nat), t.length ≤ n → (scn t).1 = 0 → z.take ((scn t).2 + 1) = t.take ((scn t).2 + 1) → (scn t).2 < z.length → scn z = scn t
  | _, [], _, _, h, _, _ => by simp [scn_nil] at h
  | 0, _ :: _, _, hl, _, _, _ => by simp at hl
  | n + 1, r :: t, z, hl, h, hz, hlt => by
    have hl2 : t.length ≤ n := by simpa using hl
    cases z with
    | nil => simp at hlt
    | cons c z =>
      have hc : c = r := by rw [List.take_succ_cons, List.take_succ_cons] at hz; simpa using (List.cons.inj hz).1
      subst hc
      by_cases h34 : c = 34
      · subst h34; rw [scn_end, scn_end]
      · by_cases hb : cls (c : Int) = 0
        · rw [scn_bad t h34 hb] at h; simp at h
        · by_cases h92 : c = 92
          · subst h92
            cases t with
            | nil => rw [scn_bs_end] at h; simp at h
            | cons d u =>
              by_cases hd : cls (d : Int) = 0
              · rw [scn_bs_bad u hd] at h; simp at h
              · rw [scn_bs u hd] at h hz hlt ⊢
                cases z with
                | nil => simp at hlt
                | cons d' u' =>
                  simp only [List.take_succ_cons, List.cons.injEq] at hz
                  obtain ⟨_, rfl, hz⟩ := hz
                  rw [scn_bs u' hd]
                  have := scn_local n u u' (by simp at hl2; omega) h hz (by simpa using hlt)
                  rw [this]
          · obtain ⟨e1, e2⟩ := scn_on t h34 hb h92
            obtain ⟨f1, f2⟩ := scn_on z h34 hb h92
            rw [e1] at h
            have e3 := e2 (by omega)
            rw [e3] at hz hlt
            rw [List.take_succ_cons, List.take_succ_cons] at hz
            have := scn_local n t z hl2 h (List.cons.inj hz).2 (by simpa using hlt)
            rw [this] at f1 f2
            exact Prod.ext (by rw [f1, e1]) (by rw [f2 (by omega), e3])
theorem cutR_zero (X : List Nat) (n : Nat) : cutR X 0 n = X.take n := by simp [cutR]
theorem getD_take {X Z : List Nat} {w : Nat} (h : Z.take w = X.take w) (hw : 0 < w) (hz : w ≤ Z.length) (hx : w ≤ X.length) : Z.getD 0 0 = X.getD 0 0 := by
  cases Z with
  | nil => simp at hz; omega
  | cons a Z => cases X with
    | nil => simp at hx; omega
    | cons b X =>
      obtain ⟨k, rfl⟩ : ∃ k, w = k + 1 := ⟨w - 1, by omega⟩
      simp only [List.take_succ_cons, List.cons.injEq] at h
      simp [h.1]
theorem tail_take {X Z : List Nat} {w : Nat} (h : Z.take (w + 1) = X.take (w + 1)) : (Z.drop 1).take w = (X.drop 1).take w := by
  cases Z <;> cases X <;> simp_all
theorem one_local (X Z : List Nat) (hX : X ≠ []) (h : (oneR X 0).2.2.2 = 0) (hz : (oneR X 0).2.1 ≤ Z.length) (he : Z.take (oneR X 0).2.1 = X.take (oneR X 0).2.1)
    (hs : cls (X.getD 0 0 : Nat) = 2 ∨ cls (X.getD 0 0 : Nat) = 3 → stopB (contR (X.getD 0 0)) (Z.drop (oneR X 0).2.1) = true) : oneR Z 0 = oneR X 0 := by
  have hxl : 0 < X.length := List.length_pos_iff.2 hX
  obtain ⟨hw0, hwl⟩ := oneR_to X 0 hxl h
  have hg := getD_take he hw0 hz hwl
  have hend : (oneR X 0).2.1 = endR X 0 → (cls (X.getD 0 0 : Nat) = 2 ∨ cls (X.getD 0 0 : Nat) = 3) → endR Z 0 = endR X 0 := fun hE hc => by
    have hs := hs hc
    rw [hE] at he hz hs
    unfold endR at he hz hs ⊢
    rw [hg]
    simp only [Nat.zero_add] at he hz hs ⊢
    rw [Nat.add_comm 1] at he hz hs
    have := run_local (contR (X.getD 0 0)) (X.drop 1) (Z.drop 1) (tail_take he) (by rw [List.length_drop]; omega) (by rw [List.drop_drop, Nat.add_comm 1]; exact hs)
    rw [this]
  unfold oneR at h hend he hz ⊢
  rw [hg]
  by_cases h0 : cls (X.getD 0 0 : Nat) = 0
  · rw [if_pos h0, if_pos h0]
  · rw [if_neg h0] at h hend he hz ⊢
    rw [if_neg h0]
    by_cases h2 : cls (X.getD 0 0 : Nat) = 2
    · rw [if_pos h2] at hend he hz ⊢
      rw [if_pos h2, hend rfl (.inl h2), cutR_zero, cutR_zero, he]
    · rw [if_neg h2] at h hend he hz ⊢
      rw [if_neg h2]
      by_cases h3 : cls (X.getD 0 0 : Nat) = 3
      · rw [if_pos h3] at h hend he hz ⊢
        rw [if_pos h3]
        by_cases ha : anyL (cutR X 0 (endR X 0)) = true
        · rw [if_pos ha] at hend he hz ⊢
          have e1 : cutR Z 0 (endR Z 0) = cutR X 0 (endR X 0) := by rw [hend rfl (.inr h3), cutR_zero, cutR_zero, he]
          rw [e1, if_pos ha, hend rfl (.inr h3)]
        · rw [if_neg ha] at h hend he hz ⊢
          by_cases hn : numR (cutR X 0 (endR X 0)) < 0
          · rw [if_pos hn] at h; simp at h
          · rw [if_neg hn] at hend he hz ⊢
            have e1 : cutR Z 0 (endR Z 0) = cutR X 0 (endR X 0) := by rw [hend rfl (.inr h3), cutR_zero, cutR_zero, he]
            rw [e1, if_neg ha, if_neg hn, hend rfl (.inr h3)]
      · rw [if_neg h3] at h hend he hz ⊢
        rw [if_neg h3]
        by_cases h34 : X.getD 0 0 = 34
        · rw [if_pos h34] at h he hz ⊢
          rw [if_pos h34]
          unfold textR at h he hz ⊢
          simp only [Nat.zero_add] at h he hz ⊢
          by_cases s1 : (scn (X.drop 1)).1 = 1
          · rw [if_pos s1] at h; simp at h
          · rw [if_neg s1] at h he hz ⊢
            by_cases s0 : (scn (X.drop 1)).1 = 0
            · rw [if_pos s0] at h he hz ⊢
              by_cases hu : uqE (encB (cutR X 0 ((scn (X.drop 1)).2 + 2))) = 0
              · rw [if_pos hu] at he hz ⊢
                dsimp only at he hz
                have e1 := scn_local _ (X.drop 1) (Z.drop 1) (Nat.le_refl _) s0 (tail_take he) (by rw [List.length_drop]; omega)
                rw [e1, if_neg s1, if_pos s0, cutR_zero, he, ← cutR_zero, if_pos hu]
              · rw [if_neg hu] at h; simp at h
            · rw [if_neg s0] at h; simp at h
        · rw [if_neg h34] at h he hz ⊢
          rw [if_neg h34]
          by_cases hs4 : X.getD 0 0 = 61 ∨ X.getD 0 0 = 58 ∨ X.getD 0 0 = 44 ∨ X.getD 0 0 = 45
          · rw [if_pos hs4] at he hz ⊢
            rw [if_pos hs4, cutR_zero, cutR_zero, he]
          · rw [if_neg hs4] at h; simp at h
end Go.Proofs.YtdkngidangfkiaaGreatDoor.Lex
