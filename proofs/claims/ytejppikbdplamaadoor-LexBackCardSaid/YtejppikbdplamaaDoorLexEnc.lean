/-
  Layer 5, plain: runes that are not bad, their bytes, and back.
-/
import Derived.Test.YtejppikbdplamaaDoorLexJoin
namespace Go.Proofs.YtejppikbdplamaaDoor.Lex
open Go.RowKit
open Base Runes
open Go.Lib (decodeL decodeN encodeRune decodeL_N decodeN_shape decodeN_ascii decodeL_le decodeL_width takeA takeB takeC takeD encode_decode decodeL_drop)
set_option linter.unusedVariables false
set_option linter.unusedSimpArgs false

theorem cls_ok {r : Nat} (h : cls (r : Int) ≠ 0) : r ≤ 1114111 ∧ ¬ (55296 ≤ r ∧ r ≤ 57343) ∧ 9 ≤ r ∧ ¬ (127 ≤ r ∧ r ≤ 160) ∧ ¬ (10 ≤ r ∧ r ≤ 31) := by
  unfold cls at h
  split at h
  · exact absurd rfl h
  · omega

theorem byte_nat (n : Nat) (z : Int) (hz : z = (n : Int)) (h : n < 256) : (z.toNat.toUInt8).toNat = n := by
  subst hz
  show (UInt8.ofNat n).toNat = n
  rw [UInt8.toNat_ofNat']; omega

theorem decode_encode (r : Nat) (t : List UInt8) (h : cls (r : Int) ≠ 0) :
    decodeL (encodeRune (r : Int) ++ t) = (r, (encodeRune (r : Int)).length) ∧ ((r < 128 ∧ encodeRune (r : Int) = [UInt8.ofNat r]) ∨ (128 ≤ r ∧ ∀ b ∈ encodeRune (r : Int), 128 ≤ b.toNat)) ∧ 0 < (encodeRune (r : Int)).length := by
  obtain ⟨h0, h1, _, _, _⟩ := cls_ok h
  unfold encodeRune
  by_cases c1 : r < 128
  · rw [Lib.encodeRuneZ_one (by omega) (by omega)]
    refine ⟨?_, .inl ⟨c1, rfl⟩, by simp⟩
    show decodeL (((r : Int).toNat.toUInt8) :: t) = (r, 1)
    rw [decodeL_N]
    show decodeN _ ((r : Int).toNat.toUInt8).toNat _ _ _ = _
    rw [byte_nat r _ rfl (by omega)]
    exact decodeN_ascii _ _ _ _ _ c1
  · by_cases c2 : r < 2048
    · rw [Lib.encodeRuneZ_two (by omega) (by omega)]
      obtain ⟨a, ha⟩ : ∃ a : UInt8, a = (192 + (r : Int) / 64).toNat.toUInt8 := ⟨_, rfl⟩
      obtain ⟨b, hb⟩ : ∃ b : UInt8, b = (128 + (r : Int) % 64).toNat.toUInt8 := ⟨_, rfl⟩
      have ea : a.toNat = 192 + r / 64 := by rw [ha]; exact byte_nat _ _ (by omega) (by omega)
      have eb : b.toNat = 128 + r % 64 := by rw [hb]; exact byte_nat _ _ (by omega) (by omega)
      simp only [List.map_cons, List.map_nil, ← ha, ← hb, List.cons_append, List.nil_append]
      refine ⟨?_, .inr ⟨by omega, ?_⟩, by simp⟩
      · rw [decodeL_N]
        show decodeN (t.length + 2) a.toNat b.toNat _ _ = _
        rw [dec2 _ _ _ _ _ (by omega) (by omega) (by omega) (by omega)]
        exact Prod.ext (by dsimp only; omega) rfl
      · simp only [List.mem_cons, List.not_mem_nil, or_false]
        rintro x (rfl | rfl) <;> omega
    · by_cases c3 : r < 65536
      · rw [Lib.encodeRuneZ_three (by omega)]
        obtain ⟨a, ha⟩ : ∃ a : UInt8, a = (224 + (r : Int) / 4096).toNat.toUInt8 := ⟨_, rfl⟩
        obtain ⟨b, hb⟩ : ∃ b : UInt8, b = (128 + (r : Int) / 64 % 64).toNat.toUInt8 := ⟨_, rfl⟩
        obtain ⟨c, hc⟩ : ∃ c : UInt8, c = (128 + (r : Int) % 64).toNat.toUInt8 := ⟨_, rfl⟩
        have ea : a.toNat = 224 + r / 4096 := by rw [ha]; exact byte_nat _ _ (by omega) (by omega)
        have eb : b.toNat = 128 + r / 64 % 64 := by rw [hb]; exact byte_nat _ _ (by omega) (by omega)
        have ec : c.toNat = 128 + r % 64 := by rw [hc]; exact byte_nat _ _ (by omega) (by omega)
        simp only [List.map_cons, List.map_nil, ← ha, ← hb, ← hc, List.cons_append, List.nil_append]
        refine ⟨?_, .inr ⟨by omega, ?_⟩, by simp⟩
        · rw [decodeL_N]
          show decodeN (t.length + 3) a.toNat b.toNat c.toNat _ = _
          rw [dec3 _ _ _ _ _ (by omega) (by omega) (by omega) (by omega) (by omega) (by omega)]
          exact Prod.ext (by dsimp only; omega) rfl
        · simp only [List.mem_cons, List.not_mem_nil, or_false]
          rintro x (rfl | rfl | rfl) <;> omega
      · rw [Lib.encodeRuneZ_four (by omega) (by omega)]
        obtain ⟨a, ha⟩ : ∃ a : UInt8, a = (240 + (r : Int) / 262144).toNat.toUInt8 := ⟨_, rfl⟩
        obtain ⟨b, hb⟩ : ∃ b : UInt8, b = (128 + (r : Int) / 4096 % 64).toNat.toUInt8 := ⟨_, rfl⟩
        obtain ⟨c, hc⟩ : ∃ c : UInt8, c = (128 + (r : Int) / 64 % 64).toNat.toUInt8 := ⟨_, rfl⟩
        obtain ⟨d, hd⟩ : ∃ d : UInt8, d = (128 + (r : Int) % 64).toNat.toUInt8 := ⟨_, rfl⟩
        have ea : a.toNat = 240 + r / 262144 := by rw [ha]; exact byte_nat _ _ (by omega) (by omega)
        have eb : b.toNat = 128 + r / 4096 % 64 := by rw [hb]; exact byte_nat _ _ (by omega) (by omega)
        have ec : c.toNat = 128 + r / 64 % 64 := by rw [hc]; exact byte_nat _ _ (by omega) (by omega)
        have ed : d.toNat = 128 + r % 64 := by rw [hd]; exact byte_nat _ _ (by omega) (by omega)
        simp only [List.map_cons, List.map_nil, ← ha, ← hb, ← hc, ← hd, List.cons_append, List.nil_append]
        refine ⟨?_, .inr ⟨by omega, ?_⟩, by simp⟩
        · rw [decodeL_N]
          show decodeN (t.length + 4) a.toNat b.toNat c.toNat d.toNat = _
          rw [dec4 _ _ _ _ _ (by omega) (by omega) (by omega) (by omega) (by omega) (by omega) (by omega)]
          exact Prod.ext (by dsimp only; omega) rfl
        · simp only [List.mem_cons, List.not_mem_nil, or_false]
          rintro x (rfl | rfl | rfl | rfl) <;> omega

/-! Rows of good runes. -/

def GoodR (l : List Nat) : Prop := ∀ r ∈ l, cls (r : Int) ≠ 0
theorem GoodR.nil : GoodR [] := by simp [GoodR]
theorem goodR_cons {r : Nat} {t : List Nat} : GoodR (r :: t) ↔ cls (r : Int) ≠ 0 ∧ GoodR t := by simp [GoodR]
theorem goodR_append {a b : List Nat} : GoodR (a ++ b) ↔ GoodR a ∧ GoodR b := by simp [GoodR, or_imp, forall_and]
theorem GoodR.take {l : List Nat} (h : GoodR l) (n : Nat) : GoodR (l.take n) := fun r hr => h r (List.mem_of_mem_take hr)
theorem GoodR.drop {l : List Nat} (h : GoodR l) (n : Nat) : GoodR (l.drop n) := fun r hr => h r (List.mem_of_mem_drop hr)

theorem pc_encL (T : List Nat) (h : GoodR T) : pc (encL T) = T.map fun r : Nat => (r, encodeRune (r : Int)) := by
  induction T with
  | nil => rfl
  | cons r t ih =>
    obtain ⟨h1, h2⟩ := goodR_cons.1 h
    obtain ⟨e1, _, e3⟩ := decode_encode r (encL t) h1
    have e : encL (r :: t) = encodeRune (r : Int) ++ encL t := rfl
    have hne : encL (r :: t) ≠ [] := by rw [e]; intro h0; rw [List.append_eq_nil_iff] at h0; rw [h0.1] at e3; simp at e3
    rw [pc_step _ hne, e, e1]
    simp only [List.take_left', List.drop_left', List.map_cons]
    rw [ih h2]
theorem encB_data (T : List Nat) : (encB T).data.toList = encL T := rfl
theorem rn_encB (T : List Nat) (h : GoodR T) : rn (encB T) = T := by
  unfold rn
  rw [ps_zero, encB_data, pc_encL T h, List.map_map]
  conv => rhs; rw [← List.map_id T]
  rfl
theorem good_encB (T : List Nat) (h : GoodR T) : ckE (encB T) = 0 := by
  rw [ckE_good, encB_data]
  unfold Runes.Good
  rw [pc_encL T h]
  intro q hq
  obtain ⟨r, hr, rfl⟩ := List.mem_map.1 hq
  exact h r hr

theorem encL_pc (l : List UInt8) : Runes.Good l → ∀ n, encL (((pc l).map (·.1)).take n) = l.take (plc n (pc l)) := by
  induction l using pc_ind with
  | h0 => intro _ n; cases n <;> rfl
  | h1 l hne ih =>
    intro hg n
    obtain ⟨g1, g2, _⟩ := good_head l hne hg
    rw [pc_step l hne]
    cases n with
    | zero => rfl
    | succ n =>
      have hle := decodeL_le l hne
      rw [List.map_cons, List.take_succ_cons, plc, List.length_take, Nat.min_eq_left hle, List.take_add, ← ih g2 n, ← g1]
      rfl
theorem plc_all (l : List UInt8) : plc (pc l).length (pc l) = l.length := by
  induction l using pc_ind with
  | h0 => rfl
  | h1 l hne ih =>
    have hle := decodeL_le l hne
    rw [pc_step l hne, List.length_cons, plc, ih, List.length_take, Nat.min_eq_left hle, List.length_drop]; omega
theorem good_rn {s : ByteArray} (h : GoodR (rn s)) : Runes.Good s.data.toList := by
  intro q hq
  exact h q.1 (List.mem_map.2 ⟨q, hq, rfl⟩)
theorem encB_rn {s : ByteArray} (h : GoodR (rn s)) : encB (rn s) = s := by
  have := encL_pc _ (good_rn h) (pc s.data.toList).length
  rw [List.take_of_length_le (by simp), plc_all, List.take_of_length_le (Nat.le_refl _)] at this
  apply ByteArray.ext; apply Array.toList_inj.1
  rw [encB_data, ← this]; rfl
theorem cuA_rn {s : ByteArray} (h : GoodR (rn s)) (n : Nat) (hn : n ≤ (rn s).length) : cuK s n = true ∧ cuA s n = encB ((rn s).take n) := by
  have hk : cuK s n = true := by unfold cuK; rw [decide_eq_true_iff]; rw [rn_length] at hn; omega
  refine ⟨hk, ?_⟩
  unfold cuA
  rw [if_pos hk]
  apply ByteArray.ext; apply Array.toList_inj.1
  have hn2 : (n : Int).toNat = n := by omega
  unfold cuP
  rw [encB_data, Lib.extract_data, List.drop_zero, Nat.sub_zero, hn2, ps_zero]
  exact (encL_pc _ (good_rn h) n).symm

/-! Small letters. -/

def lowR (r : Nat) : Nat := if 65 ≤ r ∧ r ≤ 90 then r + 32 else r
theorem lowR_cls (r : Nat) : cls (lowR r : Nat) = cls (r : Int) := by
  unfold lowR
  split
  · unfold cls
    rw [if_neg (by omega), if_neg (by omega), if_neg (by omega), if_pos (by omega), if_neg (by omega), if_neg (by omega), if_neg (by omega), if_pos (by omega)]
  · rfl
theorem lowR_word (r : Nat) : wordR (lowR r) = wordR r := by
  unfold wordR
  rw [lowR_cls]
  unfold lowR
  split
  · rename_i h
    have : cls (r : Int) = 2 := by unfold cls; rw [if_neg (by omega), if_neg (by omega), if_neg (by omega), if_pos (by omega)]
    simp [this]
  · rfl
theorem lowR_low (r : Nat) : lowR (lowR r) = lowR r := by unfold lowR; split <;> simp <;> omega
theorem encL_low (T : List Nat) (h : GoodR T) : (encL T).map lowB = encL (T.map lowR) := by
  induction T with
  | nil => rfl
  | cons r t ih =>
    obtain ⟨h1, h2⟩ := goodR_cons.1 h
    have e : encL (r :: t) = encodeRune (r : Int) ++ encL t := rfl
    have e' : encL ((r :: t).map lowR) = encodeRune (lowR r : Nat) ++ encL (t.map lowR) := rfl
    rw [e, e', List.map_append, ih h2]
    congr 1
    rcases (decode_encode r [] h1).2.1 with ⟨c, e⟩ | ⟨c, e⟩
    · have h3 : cls (lowR r : Nat) ≠ 0 := by rw [lowR_cls]; exact h1
      have c' : lowR r < 128 := by unfold lowR; split <;> omega
      rcases (decode_encode (lowR r) [] h3).2.1 with ⟨_, f⟩ | ⟨d, _⟩
      · rw [e, f]
        simp only [List.map_cons, List.map_nil, List.cons.injEq, and_true]
        apply UInt8.toNat.inj
        unfold lowB lowR
        have hm : (UInt8.ofNat r).toNat = r := by rw [UInt8.toNat_ofNat']; omega
        rw [hm]
        by_cases hc : 64 < r ∧ r < 91
        · rw [if_pos hc, if_pos (by omega), UInt8.toNat_add, hm, UInt8.toNat_ofNat']
          rfl
        · rw [if_neg hc, if_neg (by omega)]
      · omega
    · have : lowR r = r := by unfold lowR; rw [if_neg (by omega)]
      rw [this]
      conv => rhs; rw [← List.map_id (encodeRune (r : Int))]
      exact List.map_congr_left fun b hb => low_high (e b hb)
theorem lowS_encB (T : List Nat) (h : GoodR T) : lowS (encB T) = encB (T.map lowR) := by
  unfold lowS encB
  rw [show (({ data := (encL T).toArray } : ByteArray).data.toList) = encL T from rfl, encL_low T h]
theorem goodR_low {T : List Nat} (h : GoodR T) : GoodR (T.map lowR) := by
  intro r hr
  obtain ⟨x, hx, rfl⟩ := List.mem_map.1 hr
  rw [lowR_cls]; exact h x hx

end Go.Proofs.YtejppikbdplamaaDoor.Lex
