/-
  The walks of the program's cut, of Least and of At.
-/
import Derived.Test.YtoiahlbaiakngaaProfOver
namespace Go.Proofs.Ytoiahlbaiakngaa.Prof
open Go.RowKit
open Base
set_option linter.unusedVariables false
set_option linter.unusedSimpArgs false

theorem Prof.rise {p : List St} (h : Prof p) (i j : Nat) (hij : i ≤ j) (hj : j < p.length) : (p[i]'(by omega)).1 ≤ p[j].1 := by
  induction j with
  | zero => obtain rfl : i = 0 := by omega
            exact Int.le_refl _
  | succ j ih =>
    rcases Nat.lt_or_ge j i with h0 | h0
    · obtain rfl : i = j + 1 := by omega
      exact Int.le_refl _
    · have h1 := ih h0 (by omega)
      have h2 := ((h.2 (j + 1) hj).2 (by omega)).1
      rw [Nat.add_sub_cancel, getD_eq hj, getD_eq (k := j) (by omega)] at h2
      omega

theorem reads_cut {w : World} {b o : Nat} {p : List St} (h : ReadsS 2 stC w (some ⟨b, o, none⟩) p) (k n : Nat) : ReadsS 2 stC w (some ⟨b, o + k * 2, none⟩) ((p.drop k).take n) := by
  rcases h with h | ⟨b2, o2, h1, h2⟩
  · exact .inl (by rw [h]; simp)
  · obtain ⟨rfl, rfl⟩ : b = b2 ∧ o = o2 := by simpa using h1
    refine .inr ⟨b, o + k * 2, rfl, fun j hj i hi => ?_⟩
    rw [List.length_take, List.length_drop] at hj
    have := h2 (k + j) (by omega) i hi
    rw [List.getElem_take, List.getElem_drop, ← this]
    congr 2
    rw [Nat.add_mul]; omega

set_option maxRecDepth 100000 in
set_option maxHeartbeats 2000000 in
theorem over_any (ao : Option Addr) (cap : Nat) (p : List St) (a b : Int) (w : World) (hp : Prof p) (ha : 0 ≤ a) (hab : a < b) (hlc : p.length ≤ cap) (hcap : cap ≤ maxLen) (hr : ReadsS 2 stC w ao p) :
    Calls Try.prog 26 #[.slice ao p.length cap, .int .i64 a, .int .i64 b] w
      fun e w' => ∃ ao2 c2 L, e = .returned (.slice ao2 L.length c2) ∧ minF L 1000000 = leastN p a b ∧ L.length ≤ 1000 ∧ ReadsS 2 stC w' ao2 L ∧ Below w.heap.size w w' := by
  have hl := hp.1.2.1
  have h1l := hp.1.1
  unfold maxLen at hcap
  obtain ⟨bb, bo, rfl, _, _⟩ := st_cells hr (j := 0) (by omega)
  have cS1 := fun (W : World) (hb : Below w.heap.size w W) (B C : Nat) (hc : CapAt W B C (some ⟨bb, bo, none⟩) p.length cap a) =>
    search1_any B C (some ⟨bb, bo, none⟩) cap p a W hl (hr.below stC_length hb) hc (fun i j hij hj h => by have := hp.rise i j hij hj; omega)
  have cS2 := fun (W : World) (hb : Below w.heap.size w W) (B C : Nat) (hc : CapAt W B C (some ⟨bb, bo, none⟩) p.length cap b) =>
    search2_any B C (some ⟨bb, bo, none⟩) cap p b W hl (hr.below stC_length hb) hc (fun i j hij hj h => by have := hp.rise i j hij hj; omega)
  have hfin : ∀ k m : Nat, k ≤ p.length → m ≤ p.length → (∀ j (h : j < p.length), j < k → p[j].1 ≤ a) → (∀ j (h : j < p.length), k ≤ j → a < p[j].1) → (∀ j (h : j < p.length), j < m → p[j].1 < b) → (∀ j (h : j < p.length), m ≤ j → b ≤ p[j].1) →
      0 < k ∧ k ≤ m ∧ minF ((p.drop (k - 1)).take (m - (k - 1))) 1000000 = leastN p a b := by
    intro k m hk hm g1 g2 g3 g4
    exact least_of hp ha hab hk hm (fun j hj => by rw [getD_eq (k := j) (by omega)]; exact g1 j (by omega) hj) (fun j hj hj2 => by rw [getD_eq hj2]; exact g2 j hj2 hj)
      (fun j hj => by rw [getD_eq (k := j) (by omega)]; exact g3 j (by omega) hj) (fun j hj hj2 => by rw [getD_eq hj2]; exact g4 j hj2 hj)
  have HFIN := Lib.hid hfin
  have HRD := Lib.hid hr
  have CS1 := Lib.hid cS1
  have CS2 := Lib.hid cS2
  have hpos : ∀ k : Nat, (∀ j (h : j < p.length), k ≤ j → a < p[j].1) → 0 < k := by
    intro k hk
    rcases Nat.eq_zero_or_pos k with h0 | h0
    · have h1 := hk 0 (by omega) (by omega)
      have h2 := hp.1.2.2
      rw [getD_eq (k := 0) (by omega)] at h2
      omega
    · exact h0
  have HPOS := Lib.hid hpos
  have a0 : (w.alloc (.cells #[.slice (some ⟨bb, bo, none⟩) p.length cap] 22)).cell? ⟨w.heap.size, 0, none⟩ = some (.slice (some ⟨bb, bo, none⟩) p.length cap) := by rw [World.cell?_alloc_at _ _ _ _ rfl]; rfl
  have a1 : ((w.alloc (.cells #[.slice (some ⟨bb, bo, none⟩) p.length cap] 22)).alloc (.cells #[.int .i64 a] 3)).cell? ⟨w.heap.size + 1, 0, none⟩ = some (.int .i64 a) := by rw [World.cell?_alloc_at _ _ _ _ (by simp)]; rfl
  have a2 : (((w.alloc (.cells #[.slice (some ⟨bb, bo, none⟩) p.length cap] 22)).alloc (.cells #[.int .i64 a] 3)).alloc (.cells #[.int .i64 b] 3)).cell? ⟨w.heap.size + 1 + 1, 0, none⟩ = some (.int .i64 b) := by rw [World.cell?_alloc_at _ _ _ _ (by simp)]; rfl
  have hb3 : Below w.heap.size w (((w.alloc (.cells #[.slice (some ⟨bb, bo, none⟩) p.length cap] 22)).alloc (.cells #[.int .i64 a] 3)).alloc (.cells #[.int .i64 b] 3)) := (below_two _ _).alloc (by simp; omega) _
  have hc1 : CapAt (((w.alloc (.cells #[.slice (some ⟨bb, bo, none⟩) p.length cap] 22)).alloc (.cells #[.int .i64 a] 3)).alloc (.cells #[.int .i64 b] 3)) w.heap.size (w.heap.size + 1) (some ⟨bb, bo, none⟩) p.length cap a := ⟨cell_below a0 (below_two _ _), cell_below a1 (below_one _)⟩
  have hc2 : CapAt (((w.alloc (.cells #[.slice (some ⟨bb, bo, none⟩) p.length cap] 22)).alloc (.cells #[.int .i64 a] 3)).alloc (.cells #[.int .i64 b] 3)) w.heap.size (w.heap.size + 1 + 1) (some ⟨bb, bo, none⟩) p.length cap b := ⟨cell_below a0 (below_two _ _), a2⟩
  have HB3 := Lib.hid hb3
  have HC1 := Lib.hid hc1
  have HC2 := Lib.hid hc2
  clear hr cS1 cS2 hfin hpos hp ha hab hb3 hc1 hc2 a0 a1 a2
  go_enter Try.func26, Try.ntmps26
  go_wp2_with (first
    | (go_at_call 31; (with_reducible refine (CS1.out _ HB3.out _ _ HC1.out).mono ?_); rintro e w1 ⟨k, rfl, hk, g1, g2, p1⟩; have hkp := HPOS.out k g2; obtain ⟨k0, rfl⟩ : ∃ k0, k = k0 + 1 := ⟨k - 1, by omega⟩; have G1 := Lib.hid g1; have G2 := Lib.hid g2; have P1 := Lib.hid p1; have XC := Lib.hid (HC2.out.below p1); obtain ⟨x0, x1⟩ := XC.out; clear g1 g2 p1 hkp)
    | (go_at_call 31; go_loud ((with_reducible refine (CS2.out _ (P1.out.from HB3.out) _ _ XC.out).mono ?_); rintro e w2 ⟨m, rfl, hm, g3, g4, p2⟩; have hf := HFIN.out (k0 + 1) m hk hm G1.out G2.out g3 g4; have hkm := hf.2.1; have HM := Lib.hid hf.2.2; have P2 := Lib.hid p2; have y0 := cell_below x0 p2; have l1 : (0 : Int) ≤ (k0 : Int) := (by omega); have l2 : (k0 : Int) ≤ (m : Int) := (by omega); have l3 : (m : Int) ≤ (cap : Int) := (by omega); clear g3 g4 p2 hf))
    | fail)
  go_ret
  have hlL : ((p.drop k0).take (m - k0)).length = m - k0 := by rw [List.length_take, List.length_drop]; omega
  refine ⟨some ⟨bb, bo + k0 * 2, none⟩, m - k0, (p.drop k0).take (m - k0), (by rw [hlL]; rfl), by have := HM.out; simpa using this, by omega, ?_, P2.out.from (P1.out.from HB3.out)⟩
  exact reads_cut (HRD.out.below stC_length (P2.out.from (P1.out.from HB3.out))) _ _

theorem min_take_succ {L : List St} {k : Nat} (h : k < L.length) (o : Int) : minF (L.take (k + 1)) o = min (minF (L.take k) o) L[k].2 := by
  rw [List.take_add_one, List.getElem?_eq_getElem h]
  exact minF_snoc _ _ _

set_option maxRecDepth 100000 in
set_option maxHeartbeats 4000000 in
/-- **Least**. -/
theorem least_any (ao : Option Addr) (len cap : Nat) (p : List St) (a b : Int) (w : World) (hlen : p.length = len) (hlc : len ≤ cap) (hcap : cap ≤ maxLen) (hr : ReadsS 2 stC w ao p) :
    Calls Try.prog 14 #[.slice ao len cap, .int .i64 a, .int .i64 b] w fun e w' => e = .returned (.int .i64 (leastR p a b)) ∧ Below w.heap.size w w' := by
  subst hlen
  have cC := check_any ao p.length cap p w rfl (by omega) hr
  have cT := fun w => isTick_any a w
  have cO := fun (w2 : World) (hb : Below w.heap.size w w2) (hp : Prof p) (ha : 0 ≤ a) (hab : a < b) => over_any ao cap p a b w2 hp ha hab hlc hcap (hr.below stC_length hb)
  clear hr hlc
  unfold maxLen at hcap
  obtain ⟨R, hR⟩ : ∃ R, R = leastR p a b := ⟨_, rfl⟩
  rw [← hR]
  unfold leastR at hR
  have ht := tickB_iff a
  by_cases hp : Prof p
  · rw [chkE_0 hp] at cC
    cases h1 : tickB a with
    | false =>
      have HR : Hid (0 = R) := Lib.hid (by rw [hR, if_neg (fun h => by rw [ht.2 ⟨h.2.1, h.2.2.1⟩] at h1; cases h1)])
      rw [h1] at cT
      have CC := Lib.hid cC
      have CT := Lib.hid cT
      clear cC cT cO hR h1 hp ht
      go_enter Try.func14, Try.ntmps14
      go_wp2_with (first
        | (go_at_call 10; (with_reducible refine (CC.out).mono ?_); rintro e w1 ⟨rfl, p1⟩)
        | (go_at_call 24; (with_reducible refine (CT.out _).mono ?_); rintro e w1 ⟨rfl, rfl⟩)
        | fail)
      go_ret
      exact ⟨ret_i64 HR.out, p1⟩
    | true =>
      have h1' := ht.1 h1
      rw [h1] at cT
      have CC := Lib.hid cC
      have CT := Lib.hid cT
      by_cases h2 : b ≤ a
      · have t2 : decide (b ≤ a) = true := decide_eq_true h2
        have HR : Hid (0 = R) := Lib.hid (by rw [hR, if_neg (by omega)])
        clear cC cT cO hR h1 hp ht h1' h2
        go_enter Try.func14, Try.ntmps14
        go_wp2_with (first
          | (go_at_call 10; (with_reducible refine (CC.out).mono ?_); rintro e w1 ⟨rfl, p1⟩)
          | (go_at_call 24; (with_reducible refine (CT.out _).mono ?_); rintro e w1 ⟨rfl, rfl⟩)
          | fail)
        go_ret
        exact ⟨ret_i64 HR.out, p1⟩
      · have t2 : decide (b ≤ a) = false := decide_eq_false h2
        rw [if_pos ⟨hp, h1'.1, h1'.2, by omega⟩] at hR
        have CO := Lib.hid (fun w2 hb => cO w2 hb hp h1'.1 (by omega))
        have HR := Lib.hid hR
        clear cC cT cO hR h1 hp ht h1' h2
        go_enter Try.func14, Try.ntmps14
        go_wp2_with (first
          | (go_at_call 10; (with_reducible refine (CC.out).mono ?_); rintro e w1 ⟨rfl, p1⟩)
          | (go_at_call 24; (with_reducible refine (CT.out _).mono ?_); rintro e w1 ⟨rfl, rfl⟩)
          | (go_at_call 26; (with_reducible refine (CO.out _ (by (focus repeat (first | exact Below.refl _ _ | assumption | (exact Hid.out (by assumption)) | (with_reducible refine Below.drew ?_) | (with_reducible refine Base.below_drewN ?_ _) | (refine Below.from (below_one _) ?_) | (refine Below.from (below_conv _ _ _) ?_) | (refine Below.setCell ?_ (by simp <;> omega) _) | (refine Below.from (by assumption) ?_))))).mono ?_); rintro e w2 ⟨ao2, c2, L, rfl, hmin, hL, hrl, p2⟩; have HMIN := Lib.hid hmin; have HRL := Lib.hid hrl; have P2 := Lib.hid (p2.from p1); clear hmin hrl p2)
          | fail)
        go_loopw [7, 28] (fun o i wr => ∃ k : Nat, i = .int .i64 (k : Int) ∧ k ≤ L.length ∧ o = .int .i64 (minF (L.take k) 1000000) ∧ Below w2.heap.size w2 wr) (fun _ i _ => L.length - (intOf i).toNat)
        case atStart => exact ⟨0, rfl, Nat.zero_le _, rfl, Below.refl _ _⟩
        case round =>
          obtain ⟨k, rfl, hk, rfl, hb⟩ := hrel
          have HB := Lib.hid hb
          by_cases hpk : k < L.length
          · obtain ⟨bb, bo, rfl, b0, b1⟩ := st_cells (HRL.out.below stC_length hb) hpk
            have hs := min_take_succ hpk 1000000
            obtain ⟨⟨x, f⟩, hA⟩ : ∃ A : St, A = L[k] := ⟨_, rfl⟩
            rw [← hA] at b0 b1 hs
            dsimp only at b0 b1 hs
            obtain ⟨O, hO⟩ : ∃ O, O = minF (L.take k) 1000000 := ⟨_, rfl⟩
            rw [← hO] at hs ⊢
            have HS := Lib.hid hs
            clear hA hO hb hs
            go_wp2
            all_goals
              refine ⟨⟨k + 1, by go_num, by omega, by rw [HS.out]; congr 1; omega, by (focus repeat (first | exact Below.refl _ _ | assumption | (exact Hid.out (by assumption)) | (with_reducible refine Below.drew ?_) | (with_reducible refine Base.below_drewN ?_ _) | (refine Below.from (below_one _) ?_) | (refine Below.from (below_conv _ _ _) ?_) | (refine Below.setCell ?_ (by simp <;> omega) _) | (refine Below.from (by assumption) ?_)))⟩, ?_⟩
              simp [intOf]; omega
          · have HX : Hid (minF (L.take k) 1000000 = R) := Lib.hid (by rw [HR.out, List.take_of_length_le (by omega)]; exact HMIN.out)
            obtain ⟨O, hO⟩ : ∃ O, O = minF (L.take k) 1000000 := ⟨_, rfl⟩
            rw [← hO] at HX ⊢
            clear hO
            go_wp2
            go_ret
            exact ⟨ret_i64 HX.out, HB.out.from P2.out⟩
  · rw [chkE_100 hp] at cC
    have HR : Hid (0 = R) := Lib.hid (by rw [hR, if_neg (fun h => hp h.1)])
    have CC := Lib.hid cC
    clear cC cT cO hR hp ht
    go_enter Try.func14, Try.ntmps14
    go_wp2_with (first
      | (go_at_call 10; (with_reducible refine (CC.out).mono ?_); rintro e w1 ⟨rfl, p1⟩)
      | fail)
    go_ret
    exact ⟨ret_i64 HR.out, p1⟩

set_option maxRecDepth 100000 in
set_option maxHeartbeats 1000000 in
/-- **At**. -/
theorem at_any (ao : Option Addr) (len cap : Nat) (p : List St) (t : Int) (w : World) (hlen : p.length = len) (hlc : len ≤ cap) (hcap : cap ≤ maxLen) (hr : ReadsS 2 stC w ao p) :
    Calls Try.prog 12 #[.slice ao len cap, .int .i64 t] w fun e w' => e = .returned (.int .i64 (atR p t)) ∧ Below w.heap.size w w' := by
  have cT := fun w => isTick_any t w
  have cL := least_any ao len cap p t (t + 1) w hlen hlc hcap hr
  have ht := tickB_iff t
  clear hr hlen hlc hcap
  cases h1 : tickB t with
  | false =>
    have HR : Hid (0 = atR p t) := Lib.hid (by unfold atR; rw [if_neg (fun h => by rw [ht.2 h.2] at h1; cases h1)])
    rw [h1] at cT
    have CT := Lib.hid cT
    clear cT cL h1 ht
    go_enter Try.func12, Try.ntmps12
    go_wp2_with (first
      | (go_at_call 24; (with_reducible refine (CT.out _).mono ?_); rintro e w1 ⟨rfl, rfl⟩)
      | fail)
    go_ret
    exact ⟨ret_i64 HR.out, Below.refl _ _⟩
  | true =>
    have h1' := ht.1 h1
    rw [h1] at cT
    rw [at_least h1'] at cL
    have CT := Lib.hid cT
    have CL := Lib.hid cL
    clear cT cL h1 ht
    go_enter Try.func12, Try.ntmps12
    go_wp2_with (first
      | (go_at_call 24; (with_reducible refine (CT.out _).mono ?_); rintro e w1 ⟨rfl, rfl⟩)
      | (go_at_call 14; (with_reducible refine (CL.out).mono ?_); rintro e w2 ⟨rfl, p2⟩)
      | fail)
    go_ret
    exact ⟨rfl, p2⟩

end Go.Proofs.Ytoiahlbaiakngaa.Prof
