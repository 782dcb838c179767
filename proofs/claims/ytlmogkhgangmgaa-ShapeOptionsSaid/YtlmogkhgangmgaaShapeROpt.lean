/-
  The walks of the document's own Options, Least, Most.
-/
import Derived.Test.YtlmogkhgangmgaaShapeRChk
import Derived.Test.YtlmogkhgangmgaaShapeOpt
namespace Go.Proofs.Ytlmogkhgangmgaa.Shape
open Go.RowKit
open Base
set_option linter.unusedVariables false
set_option linter.unusedSimpArgs false

theorem readsA_one {w : World} {n : Nat} (hn : n = w.heap.size) (a : Alt) (ty : TypeId) : ReadsS 2 altC (w.alloc (.cells #[.int .i64 a.1, .int .i64 a.2] ty)) (some ⟨n, 0, none⟩) [a] :=
  readsS_one (f := altC) hn a _ rfl rfl ty

/-- What a call answers that tells a row of alternatives. -/
def RowSays (Z : List Alt) (w : World) (e : Ending) (w' : World) : Prop :=
  ∃ ao2 cap2, e = .returned (.slice ao2 Z.length cap2) ∧ ReadsS 2 altC w' ao2 Z ∧ Z.length ≤ cap2 ∧ cap2 ≤ maxLen ∧ Below w.heap.size w w'

set_option maxRecDepth 100000 in
set_option maxHeartbeats 2000000 in
theorem roptions_any (k : Int) (ao : Option Addr) (len cap : Nat) (zs : List Alt) (mn mx wl : Int) (w : World) (hlen : zs.length = len) (hl : len ≤ cap) (hcap : cap ≤ maxLen) (hr : ReadsS 2 altC w ao zs) :
    Calls Try.prog 13 #[.agg #[.int .i64 k, .slice ao len cap, .int .i64 mn, .int .i64 mx, .int .i64 wl]] w fun e w' => RowSays (optL k zs mn mx wl) w e w' := by
  have c1 := fun (w2 : World) (hb : Below w.heap.size w w2) => rcheck_any k ao len cap zs mn mx wl w2 hlen hl hcap (hr.below altC_length hb)
  have HSB := Lib.hid (SBox.new w k (.slice ao len cap) mn mx wl)
  have hl64 : len ≤ 9223372036854775807 := by unfold maxLen at hcap; omega
  cases hc : chkB k zs mn mx wl with
  | false =>
    have hE : chkE k zs mn mx wl = 70 := by unfold chkE; rw [hc]; rfl
    rw [optL_no hc]
    simp only [hE] at c1
    have C1 := Lib.hid c1
    clear c1 hE hc hr hlen
    go_enter Try.func13, Try.ntmps13
    go_wp2_with (first
      | (go_at_call 10; (with_reducible refine (C1.out _ (by (focus repeat (first | exact Below.refl _ _ | assumption | (exact Hid.out (by assumption)) | (with_reducible refine Below.drew ?_) | (with_reducible refine Base.below_drewN ?_ _) | (refine Below.from (below_one _) ?_) | (refine Below.from (below_conv _ _ _) ?_) | (refine Below.setCell ?_ (by simp <;> omega) _) | (refine Below.from (by assumption) ?_))))).mono ?_); rintro e w1 ⟨rfl, p1⟩)
      | fail)
    go_ret
    exact ⟨none, 0, rfl, .inl rfl, Nat.le_refl _, Nat.zero_le _, by (focus repeat (first | exact Below.refl _ _ | assumption | (exact Hid.out (by assumption)) | (with_reducible refine Below.drew ?_) | (with_reducible refine Base.below_drewN ?_ _) | (refine Below.from (below_one _) ?_) | (refine Below.from (below_conv _ _ _) ?_) | (refine Below.setCell ?_ (by simp <;> omega) _) | (refine Below.from (by assumption) ?_)))⟩
  | true =>
    have hE : chkE k zs mn mx wl = 0 := by unfold chkE; rw [hc]; rfl
    simp only [hE] at c1
    have C1 := Lib.hid c1
    clear c1 hE
    by_cases k3 : k = 3
    · subst k3
      rw [optL_down hc]
      obtain ⟨hzs, hm1, hm2, hm3, hw1, hw2⟩ := chk3.1 hc
      obtain ⟨i0, hi, hz0, hz1, hz2⟩ := info_parts info_alt
      have HI := Lib.hid hi
      have HZ0 := Lib.hid hz0
      have HZ1 := Lib.hid hz1
      have HZ2 := Lib.hid hz2
      have hDL := downL_length mx mn wl
      have hDT := downL_take mx mn wl
      obtain ⟨D, hD⟩ : ∃ D, D = downL mx mn wl := ⟨_, rfl⟩
      rw [← hD] at hDL hDT ⊢
      obtain ⟨cnt, hcnt⟩ : ∃ c : Nat, c = (mx - mn + 1).toNat := ⟨_, rfl⟩
      rw [← hcnt] at hDL hDT
      have hc2 : (cnt : Int) = mx - mn + 1 := by omega
      have hc48 : cnt ≤ 48 := by omega
      have HDL := Lib.hid hDL
      have HDT := Lib.hid hDT
      have HC2 := Lib.hid hc2
      clear hD hDL hDT hcnt hc2 hc hr hlen hzs hi hz0 hz1 hz2
      go_enter Try.func13, Try.ntmps13
      go_wp2_with (first
        | (go_at_call 10; (with_reducible refine (C1.out _ (by (focus repeat (first | exact Below.refl _ _ | assumption | (exact Hid.out (by assumption)) | (with_reducible refine Below.drew ?_) | (with_reducible refine Base.below_drewN ?_ _) | (refine Below.from (below_one _) ?_) | (refine Below.from (below_conv _ _ _) ?_) | (refine Below.setCell ?_ (by simp <;> omega) _) | (refine Below.from (by assumption) ?_))))).mono ?_); rintro e w1 ⟨rfl, p1⟩; have s1 := HSB.out.below p1; obtain ⟨x0, x1, x2, x3, x4⟩ := s1.cells; have S1 := Lib.hid s1; clear s1)
        | fail)
      have hlt1 := S1.out.lt
      have HB1 : Hid (Below w.heap.size w w1) := Lib.hid (by (focus repeat (first | exact Below.refl _ _ | assumption | (exact Hid.out (by assumption)) | (with_reducible refine Below.drew ?_) | (with_reducible refine Base.below_drewN ?_ _) | (refine Below.from (below_one _) ?_) | (refine Below.from (below_conv _ _ _) ?_) | (refine Below.setCell ?_ (by simp <;> omega) _) | (refine Below.from (by assumption) ?_))))
      have hw1 : w.heap.size < w1.heap.size := hlt1
      clear p1
      go_loopw [3, 4] (fun v i wr => ∃ j : Nat, i = .int .i64 (j : Int) ∧ j ≤ cnt ∧ OwnS 2 altC w1.heap.size 38 v (D.take j) wr ∧ SBox wr w.heap.size 3 (.slice ao len cap) mn mx wl ∧ Below w.heap.size w wr) (fun _ i _ => cnt - (intOf i).toNat)
      case atStart => exact ⟨0, rfl, Nat.zero_le _, OwnS.nil (Nat.le_refl _), S1.out, HB1.out⟩
      case round =>
        obtain ⟨j, rfl, hj, ho, hs, hb⟩ := hrel
        have HO := Lib.hid ho
        have HS := Lib.hid hs
        have HB := Lib.hid hb
        obtain ⟨y0, y1, y2, y3, y4⟩ := hs.cells
        have hcc := HC2.out
        clear ho hs hb
        by_cases hp : j < cnt
        · have hle : (j : Int) ≤ mx - mn := by omega
          obtain ⟨m, hm⟩ : ∃ m, m = mx - (j : Int) := ⟨_, rfl⟩
          have hlt : (D.take j).length = j := by rw [List.length_take, HDL.out]; omega
          have HLT := Lib.hid hlt
          have HN : Hid (D.take (j + 1) = D.take j ++ [(mx - (j : Int), wl)]) := Lib.hid (HDT.out j hp)
          clear hcc hlt hm
          go_wp2_with (first
            | (at_builtin; refine wpList_append_srcS rfl (.tmp 22) (.tmp 30) 22 rfl altC_length (by decide) i0 _ 16 Try.underlying22 HI.out HZ0.out HZ1.out HZ2.out rfl altC_one rfl (HO.out.alloc _) _ 1 1 [((mx - (j : Int), wl) : Alt)] rfl rfl (readsA_one (by simp) (mx - (j : Int), wl) _) (by intro h; cases h) (by have := HLT.out; omega) (by have := HLT.out; unfold maxLen; omega) ?_; intro v4 w4 o4 b4)
            | fail)
          have s4 : SBox w4 w.heap.size 3 (.slice ao len cap) mn mx wl := (HS.out.alloc _).kept b4 hw1
          refine ⟨⟨j + 1, by go_num, by omega, by rw [HN.out]; exact o4, s4, ?_⟩, ?_⟩
          · exact (HB.out.alloc HB.out.size _).trans (b4.mono (by omega))
          · simp [intOf]; omega
        · have hle : ¬ (j : Int) ≤ mx - mn := by omega
          obtain ⟨ao2, cap2, hv, q1, q2, q3, q4⟩ := HO.out.value altC_length
          have he : D.take j = D := List.take_of_length_le (by rw [HDL.out]; omega)
          rw [he] at hv q1 q3
          have Q1 := Lib.hid q1
          subst hv
          clear hcc q1 q2 he
          go_wp2
          go_ret
          exact ⟨ao2, cap2, rfl, Q1.out, q3, q4, HB.out⟩
    · have t3 : (k != 3) = true := by rw [bne_iff_ne]; exact k3
      rw [optL_rows hc k3]
      have HR := Lib.hid hr
      clear hc k3 hr
      subst hlen
      go_enter Try.func13, Try.ntmps13
      go_wp2_with (first
        | (go_at_call 10; (with_reducible refine (C1.out _ (by (focus repeat (first | exact Below.refl _ _ | assumption | (exact Hid.out (by assumption)) | (with_reducible refine Below.drew ?_) | (with_reducible refine Base.below_drewN ?_ _) | (refine Below.from (below_one _) ?_) | (refine Below.from (below_conv _ _ _) ?_) | (refine Below.setCell ?_ (by simp <;> omega) _) | (refine Below.from (by assumption) ?_))))).mono ?_); rintro e w1 ⟨rfl, p1⟩; obtain ⟨x0, x1, x2, x3, x4⟩ := (HSB.out.below p1).cells)
        | fail)
      go_ret
      have hb : Below w.heap.size w w1 := by (focus repeat (first | exact Below.refl _ _ | assumption | (exact Hid.out (by assumption)) | (with_reducible refine Below.drew ?_) | (with_reducible refine Base.below_drewN ?_ _) | (refine Below.from (below_one _) ?_) | (refine Below.from (below_conv _ _ _) ?_) | (refine Below.setCell ?_ (by simp <;> omega) _) | (refine Below.from (by assumption) ?_)))
      exact ⟨ao, cap, rfl, HR.out.below altC_length hb, hl, hcap, hb⟩

theorem best_less (Z : List Alt) (hg : ∀ a ∈ Z, 1 ≤ a.1) (k : Nat) (h1 : 1 ≤ k) (h : k < Z.length) (n b : Int) (hn : n = Z[k].1) (hb : b = bestN lessB (Z.take k)) : (decide (n < b) = true → n = bestN lessB (Z.take (k + 1))) ∧ (decide (n < b) = false → b = bestN lessB (Z.take (k + 1))) := by
  obtain ⟨j, rfl⟩ : ∃ j, k = j + 1 := ⟨k - 1, by omega⟩
  have hp := bestN_pos lessB Z hg j (by omega)
  rw [bestN_take _ _ _ h, ← hb, ← hn]
  rw [← hb] at hp
  unfold stepN lessB
  rw [if_neg (by omega)]
  exact ⟨fun h => by rw [if_pos h], fun h => by rw [h]; rfl⟩
theorem best_more (Z : List Alt) (hg : ∀ a ∈ Z, 1 ≤ a.1) (k : Nat) (h : k < Z.length) (n b : Int) (hn : n = Z[k].1) (hb : b = bestN moreB (Z.take k)) : (decide (b < n) = true → n = bestN moreB (Z.take (k + 1))) ∧ (decide (b < n) = false → b = bestN moreB (Z.take (k + 1))) := by
  have hz := hg _ (List.getElem_mem h)
  rw [← hn] at hz
  rw [bestN_take _ _ _ h, ← hb, ← hn]
  unfold stepN moreB
  by_cases h0 : b = 0
  · rw [if_pos h0]
    refine ⟨fun _ => rfl, fun h => ?_⟩
    have := of_decide_eq_false h; omega
  · rw [if_neg h0]
    exact ⟨fun h => by rw [if_pos h], fun h => by rw [h]; rfl⟩

set_option maxRecDepth 100000 in
set_option maxHeartbeats 2000000 in
theorem rleast_any (k : Int) (ao : Option Addr) (len cap : Nat) (zs : List Alt) (mn mx wl : Int) (w : World) (hlen : zs.length = len) (hl : len ≤ cap) (hcap : cap ≤ maxLen) (hr : ReadsS 2 altC w ao zs) :
    Calls Try.prog 15 #[.agg #[.int .i64 k, .slice ao len cap, .int .i64 mn, .int .i64 mx, .int .i64 wl]] w fun e w' => e = .returned (.int .i64 (bestN lessB (optL k zs mn mx wl))) ∧ Below w.heap.size w w' := by
  have c1 := fun (w2 : World) (hb : Below w.heap.size w w2) => roptions_any k ao len cap zs mn mx wl w2 hlen hl hcap (hr.below altC_length hb)
  have hZ48 := (optL_good k zs mn mx wl).2
  have hg : ∀ a ∈ optL k zs mn mx wl, 1 ≤ a.1 := fun a ha => (good_mem (optL_good k zs mn mx wl).1 ha).1.1
  have hl64 : len ≤ 9223372036854775807 := by unfold maxLen at hcap; omega
  obtain ⟨Z, hZ⟩ : ∃ Z, Z = optL k zs mn mx wl := ⟨_, rfl⟩
  rw [← hZ] at c1 hZ48 hg ⊢
  have C1 := Lib.hid c1
  have HG := Lib.hid hg
  clear c1 hZ hr hlen hg
  unfold RowSays at C1
  by_cases h0 : Z = []
  · subst h0
    have HN : Hid (0 = bestN lessB []) := Lib.hid rfl
    go_enter Try.func15, Try.ntmps15
    go_wp2_with (first
      | (go_at_call 13; (with_reducible refine (C1.out _ (by (focus repeat (first | exact Below.refl _ _ | assumption | (exact Hid.out (by assumption)) | (with_reducible refine Below.drew ?_) | (with_reducible refine Base.below_drewN ?_ _) | (refine Below.from (below_one _) ?_) | (refine Below.from (below_conv _ _ _) ?_) | (refine Below.setCell ?_ (by simp <;> omega) _) | (refine Below.from (by assumption) ?_))))).mono ?_); rintro e w1 ⟨ao2, cap2, rfl, q1, q2, q3, p1⟩; have Q1 := Lib.hid q1; clear q1)
      | fail)
    go_ret
    exact ⟨ret_i64 HN.out, by (focus repeat (first | exact Below.refl _ _ | assumption | (exact Hid.out (by assumption)) | (with_reducible refine Below.drew ?_) | (with_reducible refine Base.below_drewN ?_ _) | (refine Below.from (below_one _) ?_) | (refine Below.from (below_conv _ _ _) ?_) | (refine Below.setCell ?_ (by simp <;> omega) _) | (refine Below.from (by assumption) ?_)))⟩
  · have hpos : 0 < Z.length := List.length_pos_iff.2 h0
    clear h0
    have tz : ((Z.length : Int) == 0) = false := by rw [beq_eq_false_iff_ne]; omega
    go_enter Try.func15, Try.ntmps15
    go_wp2_with (first
      | (go_at_call 13; (with_reducible refine (C1.out _ (by (focus repeat (first | exact Below.refl _ _ | assumption | (exact Hid.out (by assumption)) | (with_reducible refine Below.drew ?_) | (with_reducible refine Base.below_drewN ?_ _) | (refine Below.from (below_one _) ?_) | (refine Below.from (below_conv _ _ _) ?_) | (refine Below.setCell ?_ (by simp <;> omega) _) | (refine Below.from (by assumption) ?_))))).mono ?_); rintro e w1 ⟨ao2, cap2, rfl, q1, q2, q3, p1⟩; have Q1 := Lib.hid q1; obtain ⟨bb, bo, rfl, b0, b1⟩ := alt_cells q1 hpos; rw [Nat.zero_mul, Nat.add_zero] at b0; clear q1 b1)
      | fail)
    have hw1 : Below w.heap.size w w1 := by (focus repeat (first | exact Below.refl _ _ | assumption | (exact Hid.out (by assumption)) | (with_reducible refine Below.drew ?_) | (with_reducible refine Base.below_drewN ?_ _) | (refine Below.from (below_one _) ?_) | (refine Below.from (below_conv _ _ _) ?_) | (refine Below.setCell ?_ (by simp <;> omega) _) | (refine Below.from (by assumption) ?_)))
    have HW1 := Lib.hid hw1
    have h1 : Z[0].1 = bestN lessB (Z.take 1) := by
      rw [bestN_take _ _ _ hpos]; rfl
    have H1 := Lib.hid h1
    clear p1 hw1 h1
    go_loopw [4, 5] (fun b i wr => ∃ j : Nat, i = .int .i64 (j : Int) ∧ 1 ≤ j ∧ j ≤ Z.length ∧ b = .int .i64 (bestN lessB (Z.take j)) ∧ w1 = wr) (fun _ i _ => Z.length - (intOf i).toNat)
    case atStart => exact ⟨1, by go_num, Nat.le_refl _, hpos, by rw [H1.out], rfl⟩
    case round =>
      obtain ⟨j, rfl, hj1, hj, rfl, rfl⟩ := hrel
      by_cases hp : j < Z.length
      · obtain ⟨bb2, bo2, ha2, c0, _⟩ := alt_cells Q1.out hp
        obtain ⟨rfl, rfl⟩ : bb = bb2 ∧ bo = bo2 := by simpa using ha2
        have hbl := best_less Z HG.out j hj1 hp _ _ rfl rfl
        obtain ⟨n, hn⟩ : ∃ n, n = Z[j].1 := ⟨_, rfl⟩
        obtain ⟨b, hb⟩ : ∃ b, b = bestN lessB (Z.take j) := ⟨_, rfl⟩
        rw [← hn] at c0 hbl
        rw [← hb] at hbl ⊢
        clear hn hb ha2
        cases ht : decide (n < b) with
        | true =>
          have HN := Lib.hid (hbl.1 ht)
          clear hbl
          go_wp2
          refine ⟨⟨j + 1, by go_num, by omega, by omega, by rw [HN.out], by first | rfl | trivial⟩, ?_⟩
          simp [intOf]; omega
        | false =>
          have HN := Lib.hid (hbl.2 ht)
          clear hbl
          go_wp2
          refine ⟨⟨j + 1, by go_num, by omega, by omega, by rw [HN.out], by first | rfl | trivial⟩, ?_⟩
          simp [intOf]; omega
      · have he : Z.take j = Z := List.take_of_length_le (by omega)
        rw [he]
        obtain ⟨b, hb⟩ : ∃ b, b = bestN lessB Z := ⟨_, rfl⟩
        rw [← hb]
        have HBB := Lib.hid hb
        clear he hb
        go_wp2
        go_ret
        exact ⟨ret_i64 HBB.out, HW1.out⟩

set_option maxRecDepth 100000 in
set_option maxHeartbeats 2000000 in
theorem rmost_any (k : Int) (ao : Option Addr) (len cap : Nat) (zs : List Alt) (mn mx wl : Int) (w : World) (hlen : zs.length = len) (hl : len ≤ cap) (hcap : cap ≤ maxLen) (hr : ReadsS 2 altC w ao zs) :
    Calls Try.prog 17 #[.agg #[.int .i64 k, .slice ao len cap, .int .i64 mn, .int .i64 mx, .int .i64 wl]] w fun e w' => e = .returned (.int .i64 (bestN moreB (optL k zs mn mx wl))) ∧ Below w.heap.size w w' := by
  have c1 := fun (w2 : World) (hb : Below w.heap.size w w2) => roptions_any k ao len cap zs mn mx wl w2 hlen hl hcap (hr.below altC_length hb)
  have hZ48 := (optL_good k zs mn mx wl).2
  have hg : ∀ a ∈ optL k zs mn mx wl, 1 ≤ a.1 := fun a ha => (good_mem (optL_good k zs mn mx wl).1 ha).1.1
  have hl64 : len ≤ 9223372036854775807 := by unfold maxLen at hcap; omega
  obtain ⟨Z, hZ⟩ : ∃ Z, Z = optL k zs mn mx wl := ⟨_, rfl⟩
  rw [← hZ] at c1 hZ48 hg ⊢
  have C1 := Lib.hid c1
  have HG := Lib.hid hg
  clear c1 hZ hr hlen hg
  unfold RowSays at C1
  go_enter Try.func17, Try.ntmps17
  go_wp2_with (first
    | (go_at_call 13; (with_reducible refine (C1.out _ (by (focus repeat (first | exact Below.refl _ _ | assumption | (exact Hid.out (by assumption)) | (with_reducible refine Below.drew ?_) | (with_reducible refine Base.below_drewN ?_ _) | (refine Below.from (below_one _) ?_) | (refine Below.from (below_conv _ _ _) ?_) | (refine Below.setCell ?_ (by simp <;> omega) _) | (refine Below.from (by assumption) ?_))))).mono ?_); rintro e w1 ⟨ao2, cap2, rfl, q1, q2, q3, p1⟩; have Q1 := Lib.hid q1; clear q1)
    | fail)
  have hw1 : Below w.heap.size w w1 := by (focus repeat (first | exact Below.refl _ _ | assumption | (exact Hid.out (by assumption)) | (with_reducible refine Below.drew ?_) | (with_reducible refine Base.below_drewN ?_ _) | (refine Below.from (below_one _) ?_) | (refine Below.from (below_conv _ _ _) ?_) | (refine Below.setCell ?_ (by simp <;> omega) _) | (refine Below.from (by assumption) ?_)))
  have HW1 := Lib.hid hw1
  clear p1 hw1
  go_loopw [4, 5] (fun b i wr => ∃ j : Nat, i = .int .i64 (j : Int) ∧ j ≤ Z.length ∧ b = .int .i64 (bestN moreB (Z.take j)) ∧ w1 = wr) (fun _ i _ => Z.length - (intOf i).toNat)
  case atStart => exact ⟨0, rfl, Nat.zero_le _, rfl, rfl⟩
  case round =>
    obtain ⟨j, rfl, hj, rfl, rfl⟩ := hrel
    by_cases hp : j < Z.length
    · obtain ⟨bb, bo, rfl, c0, _⟩ := alt_cells Q1.out hp
      have hbl := best_more Z HG.out j hp _ _ rfl rfl
      obtain ⟨n, hn⟩ : ∃ n, n = Z[j].1 := ⟨_, rfl⟩
      obtain ⟨b, hb⟩ : ∃ b, b = bestN moreB (Z.take j) := ⟨_, rfl⟩
      rw [← hn] at c0 hbl
      rw [← hb] at hbl ⊢
      clear hn hb
      cases ht : decide (b < n) with
      | true =>
        have HN := Lib.hid (hbl.1 ht)
        clear hbl
        go_wp2
        refine ⟨⟨j + 1, by go_num, by omega, by rw [HN.out], by first | rfl | trivial⟩, ?_⟩
        simp [intOf]; omega
      | false =>
        have HN := Lib.hid (hbl.2 ht)
        clear hbl
        go_wp2
        refine ⟨⟨j + 1, by go_num, by omega, by rw [HN.out], by first | rfl | trivial⟩, ?_⟩
        simp [intOf]; omega
    · have he : Z.take j = Z := List.take_of_length_le (by omega)
      rw [he]
      obtain ⟨b, hb⟩ : ∃ b, b = bestN moreB Z := ⟨_, rfl⟩
      rw [← hb]
      have HBB := Lib.hid hb
      clear he hb
      go_wp2
      go_ret
      exact ⟨ret_i64 HBB.out, HW1.out⟩

end Go.Proofs.Ytlmogkhgangmgaa.Shape
