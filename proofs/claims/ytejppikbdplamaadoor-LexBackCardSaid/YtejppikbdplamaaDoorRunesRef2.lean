/-
  The walk of the document's own unquoting.
-/
import Derived.Test.YtejppikbdplamaaDoorRunesRef
namespace Go.Proofs.YtejppikbdplamaaDoor.Runes
open Go.RowKit
open Base Bld
set_option linter.unusedVariables false

theorem str_eq (a b : ByteArray) : (a.toList == b.toList) = decide (a = b) := by
  rw [Bool.eq_iff_iff, beq_iff_eq, decide_eq_true_iff]
  constructor
  · intro h; rw [Lib.toList_data, Lib.toList_data] at h; apply ByteArray.ext; exact Array.toList_inj.1 h
  · intro h; rw [h]

theorem ckE_good (s : ByteArray) : ckE s = 0 ↔ Good s.data.toList := by
  unfold ckE Good
  rw [← ps_zero]
  rcases chk_good 0 (ps s 0) with ⟨a, _, c⟩ | ⟨a, _, _, d⟩
  · rw [a]; simp; exact fun r p h => c (r, p) h
  · rw [a]; simp only [if_true]
    constructor
    · intro h; omega
    · intro h; exact absurd h d
theorem ofList_data (l : List UInt8) : (⟨l.toArray⟩ : ByteArray).data.toList = l := rfl

/-- What unquoting answers. -/
def uqS (s : ByteArray) : ByteArray := if ckE s = 0 then ⟨((uq s.data.toList).getD []).toArray⟩ else ⟨#[]⟩
def uqE (s : ByteArray) : Int := if ckE s = 0 then (if (uq s.data.toList).isSome = true then 0 else 50) else 40
theorem uq_bad {s : ByteArray} (h : ckE s = 40) : ⟨#[]⟩ = uqS s ∧ 40 = uqE s := by
  unfold uqS uqE; rw [if_neg (by omega), if_neg (by omega)]; exact ⟨rfl, rfl⟩
theorem uq_no {s : ByteArray} (h : ckE s = 0) (hu : uq s.data.toList = none) : ⟨#[]⟩ = uqS s ∧ 50 = uqE s := by
  unfold uqS uqE; rw [if_pos h, if_pos h, hu]; exact ⟨rfl, rfl⟩
theorem uq_yes {s : ByteArray} {u : List UInt8} (h : ckE s = 0) (hu : uq s.data.toList = some u) : ⟨u.toArray⟩ = uqS s ∧ 0 = uqE s := by
  unfold uqS uqE; rw [if_pos h, if_pos h, hu]; exact ⟨rfl, rfl⟩

/-- What stands between the ends, from a place on. -/
def D (s : ByteArray) (j : Nat) : List UInt8 := (s.data.toList.take (s.size - 1)).drop j
theorem D_one (s : ByteArray) : D s 1 = inner s.data.toList := by
  unfold D inner
  rw [Lib.size_eq]
  cases h : s.data.toList with
  | nil => rfl
  | cons b t => simp [List.dropLast_eq_take, List.drop_take]
theorem D_end (s : ByteArray) (j : Nat) (h : ¬ j + 1 < s.size) : D s j = [] := by
  unfold D; exact List.drop_eq_nil_of_le (by simp; omega)
theorem D_step (s : ByteArray) (j : Nat) (h : j + 1 < s.size) : D s j = s[j]'(by omega) :: D s (j + 1) := by
  have hl : j < (s.data.toList.take (s.size - 1)).length := by rw [List.length_take, ← Lib.size_eq]; omega
  unfold D
  rw [List.drop_eq_getElem_cons hl, List.getElem_take]
  rfl


theorem skp_same {s : ByteArray} {zs : List UInt8} (h : zs = skp (inner s.data.toList)) (hE : ckE s = 0) :
    (∃ u, uq s.data.toList = some u ∧ zs = u ∧ ckE ⟨zs.toArray⟩ = 0 ∧ qtS ⟨zs.toArray⟩ = s) ∨ (uq s.data.toList = none ∧ (ckE ⟨zs.toArray⟩ = 40 ∨ ckE ⟨zs.toArray⟩ = 0 ∧ qtS ⟨zs.toArray⟩ ≠ s)) := by
  cases hu : uq s.data.toList with
  | some u =>
    have h1 := uq_some hu
    have h2 := skp_uq hu
    obtain rfl : zs = u := by rw [h, h2]
    have hg : Good zs := by rw [← good_qt, h1, ← ckE_good]; exact hE
    have hz : ckE ⟨zs.toArray⟩ = 0 := by rw [ckE_good]; exact hg
    refine .inl ⟨zs, rfl, rfl, hz, ?_⟩
    unfold qtS
    rw [if_pos hz, ofList_data, h1]
  | none =>
    refine .inr ⟨rfl, ?_⟩
    rcases ckE_or ⟨zs.toArray⟩ with hz | hz
    · refine .inr ⟨hz, fun hq => ?_⟩
      unfold qtS at hq
      rw [if_pos hz, ofList_data] at hq
      have h3 := uq_qt zs
      rw [← hq, ofList_data] at hu
      rw [hu] at h3
      cases h3
    · exact .inl hz

set_option maxRecDepth 100000 in
set_option maxHeartbeats 2000000 in
theorem runquote_any (s : ByteArray) (hs : s.size ≤ 1000000) (w : World) :
    Calls Tryd.prog 58 #[.string s] w fun e w' => e = .returned (.tuple #[.string (uqS s), .int .i64 (uqE s)]) ∧ Below w.heap.size w w' := by
  have c1 := fun w => rcheck_any s hs w
  rcases ckE_or s with hE | hE
  · simp only [hE] at c1
    have C1 := Lib.hid c1
    have HE := Lib.hid hE
    obtain ⟨i0, hi, hz0, hz1, hz2⟩ := info_parts info_u8
    have HI := Lib.hid hi
    have HZ0 := Lib.hid hz0
    have HZ1 := Lib.hid hz1
    have HZ2 := Lib.hid hz2
    clear hi hz0 hz1 hz2 c1 hE
    go_enter Tryd.func58, Tryd.ntmps58
    go_wp2_with (first | (go_at_call 70; (with_reducible refine (C1.out _).mono ?_); rintro e w1 ⟨rfl, p1⟩) | fail)
    have P1 := Lib.hid p1
    clear p1
    go_loopw [6, 7] (fun v i wr => ∃ (j : Nat) (zs : List UInt8), i = .int .i64 (j : Int) ∧ 1 ≤ j ∧ (j = 1 ∨ j + 1 ≤ s.size) ∧ Own Base.u8 w.heap.size 5 v zs wr ∧ zs ++ skp (D s j) = skp (D s 1) ∧ zs.length ≤ j ∧ Below w.heap.size w wr) (fun _ i _ => s.size - (intOf i).toNat)
    case atStart => exact ⟨1, [], rfl, Nat.le_refl _, .inl rfl, Own.nil P1.out.size, rfl, Nat.zero_le _, P1.out⟩
    case round =>
      obtain ⟨j, zs, rfl, hj1, hj, ho, hc, hzl, hb⟩ := hrel
      have HO := Lib.hid ho
      have HB := Lib.hid hb
      obtain ⟨ao, cap, rfl, _, _, _, _⟩ := ho.value
      clear hb
      by_cases hp : j + 1 < s.size
      · rw [D_step s j hp] at hc
        by_cases hA : s[j].toNat = 92
        · have h92 : s[j] = 92 := by apply UInt8.toNat_inj.1; rw [hA]; rfl
          have hb1 : ((s[j].toNat : Int) == 92) = true := by rw [beq_iff_eq]; omega
          by_cases hp2 : j + 2 < s.size
          · rw [D_step s (j + 1) hp2, skp, if_pos h92] at hc
            have HC : Hid ((zs ++ [s[j + 1]]) ++ skp (D s (j + 2)) = skp (D s 1)) := Lib.hid (by rw [← hc]; simp)
            have HX : Hid (Value.int .u8 (s[j + 1].toNat : Int) = Base.u8 s[j + 1]) := Lib.hid rfl
            clear hc ho h92
            go_wp2_with (first
              | (at_builtin; refine wpList_append_src rfl (.tmp 39) (.tmp 43) 53 rfl i0 _ 1 Tryd.underlying53 HI.out HZ0.out HZ1.out HZ2.out rfl (fun _ => rfl) rfl (HO.out.alloc _) _ 1 1 [s[j + 1]] rfl rfl (one_of _ rfl HX.out) (by intro h; cases h) (by omega) (by unfold maxLen; omega) ?_; intro v4 w4 o4 b4)
              | fail)
            refine ⟨⟨j + 2, zs ++ [s[j + 1]], by go_num, by omega, .inr (by omega), o4, HC.out, by simp; omega, (HB.out.alloc HO.out.2 _).trans b4⟩, ?_⟩
            simp [intOf]; omega
          · rw [D_end s (j + 1) (by omega), skp] at hc
            have HC := Lib.hid hc
            have HX : Hid (Value.int .u8 92 = Base.u8 s[j]) := Lib.hid (by rw [h92]; rfl)
            clear hc ho h92
            go_wp2_with (first
              | (at_builtin; refine wpList_append_src rfl (.tmp 39) (.tmp 43) 53 rfl i0 _ 1 Tryd.underlying53 HI.out HZ0.out HZ1.out HZ2.out rfl (fun _ => rfl) rfl (HO.out.alloc _) _ 1 1 [s[j]] rfl rfl (one_of _ rfl HX.out) (by intro h; cases h) (by omega) (by unfold maxLen; omega) ?_; intro v4 w4 o4 b4)
              | fail)
            refine ⟨⟨j + 1, zs ++ [s[j]], by go_num, by omega, .inr (by omega), o4, by rw [D_end s (j + 1) (by omega), skp, List.append_nil]; exact HC.out, by simp; omega, (HB.out.alloc HO.out.2 _).trans b4⟩, ?_⟩
            simp [intOf]; omega
        · have h92 : s[j] ≠ 92 := by intro h; exact hA (by rw [h]; rfl)
          have hb1 : ((s[j].toNat : Int) == 92) = false := by rw [beq_eq_false_iff_ne]; omega
          rw [skp_cons h92] at hc
          have HC : Hid ((zs ++ [s[j]]) ++ skp (D s (j + 1)) = skp (D s 1)) := Lib.hid (by rw [← hc]; simp)
          have HX : Hid (Value.int .u8 (s[j].toNat : Int) = Base.u8 s[j]) := Lib.hid rfl
          clear hc ho h92
          go_wp2_with (first
            | (at_builtin; refine wpList_append_src rfl (.tmp 39) (.tmp 43) 53 rfl i0 _ 1 Tryd.underlying53 HI.out HZ0.out HZ1.out HZ2.out rfl (fun _ => rfl) rfl (HO.out.alloc _) _ 1 1 [s[j]] rfl rfl (one_of _ rfl HX.out) (by intro h; cases h) (by omega) (by unfold maxLen; omega) ?_; intro v4 w4 o4 b4)
            | fail)
          refine ⟨⟨j + 1, zs ++ [s[j]], by go_num, by omega, .inr (by omega), o4, HC.out, by simp; omega, (HB.out.alloc HO.out.2 _).trans b4⟩, ?_⟩
          simp [intOf]; omega
      · rw [D_end s j hp, skp, List.append_nil, D_one] at hc
        have hcv := own_conv (P := Tryd.prog) ho 53 9 5 Tryd.underlying53 Tryd.underlying5 Tryd.underlying9
        obtain ⟨z, hz⟩ : ∃ z : ByteArray, z = ⟨zs.toArray⟩ := ⟨_, rfl⟩
        rw [← hz] at hcv
        have hzs : z.size ≤ 1000000 := by rw [hz, Lib.size_eq, ofList_data]; omega
        have c2 := fun w => rquote_any z hzs w
        rcases skp_same hc HE.out with ⟨u, hu, rfl, hz0, hq⟩ | ⟨hu, hz0⟩
        · have HA := Lib.hid (uq_yes HE.out hu)
          rw [← hz] at HA hz0 hq
          simp only [hz0, hq] at c2
          have C2 := Lib.hid c2
          have hne : (s.toList == s.toList) = true := by rw [beq_iff_eq]
          have HZ := Lib.hid hz
          clear c2 hc ho hz hz0 hq hu
          go_wp2_with (first | (go_at_call 71; (with_reducible refine (C2.out _).mono ?_); rintro e w2 ⟨rfl, p2⟩; have hcv2 := own_conv (P := Tryd.prog) (HO.out.below p2) 53 9 5 Tryd.underlying53 Tryd.underlying5 Tryd.underlying9; rw [← HZ.out] at hcv2) | fail)
          go_ret2
          exact ⟨ret_si HA.out.1 HA.out.2, p2.from HB.out⟩
        · have HA := Lib.hid (uq_no HE.out hu)
          rw [← hz] at hz0
          rcases hz0 with hz0 | ⟨hz0, hq⟩
          · simp only [hz0] at c2
            have C2 := Lib.hid c2
            clear c2 hc ho hz hz0 hu
            go_wp2_with (first | (go_at_call 71; (with_reducible refine (C2.out _).mono ?_); rintro e w2 ⟨rfl, p2⟩) | fail)
            go_ret2
            exact ⟨ret_si HA.out.1 HA.out.2, p2.from HB.out⟩
          · obtain ⟨q, hq2⟩ : ∃ q, q = qtS z := ⟨_, rfl⟩
            rw [← hq2] at hq
            simp only [hz0, ← hq2] at c2
            have C2 := Lib.hid c2
            have hne : (q.toList == s.toList) = false := by rw [str_eq, decide_eq_false hq]
            clear c2 hc ho hz hz0 hu hq hq2
            go_wp2_with (first | (go_at_call 71; (with_reducible refine (C2.out _).mono ?_); rintro e w2 ⟨rfl, p2⟩) | fail)
            go_ret2
            exact ⟨ret_si HA.out.1 HA.out.2, p2.from HB.out⟩

  · have HA := Lib.hid (uq_bad hE)
    simp only [hE] at c1
    have C1 := Lib.hid c1
    clear c1 hE
    go_enter Tryd.func58, Tryd.ntmps58
    go_wp2_with (first | (go_at_call 70; (with_reducible refine (C1.out _).mono ?_); rintro e w1 ⟨rfl, p1⟩) | fail)
    go_ret2
    exact ⟨ret_si HA.out.1 HA.out.2, p1⟩

end Go.Proofs.YtejppikbdplamaaDoor.Runes
