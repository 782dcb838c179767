/-
  The walks of the program's search for the steps that tell of some ticks: the two closures, and the library's Search with each.
-/
import Derived.Test.YtoiahlbaiakngaaProfBits
import Derived.Test.YtoiahlbaiakngaaProfLeastM
namespace Go.Proofs.Ytoiahlbaiakngaa.Prof
open Go.RowKit
open Base
set_option linter.unusedVariables false
set_option linter.unusedSimpArgs false

/-- What the closures' captured variables hold. -/
def CapAt (w : World) (B C : Nat) (ao : Option Addr) (len cap : Nat) (a : Int) : Prop :=
  w.cell? ⟨B, 0, none⟩ = some (.slice ao len cap) ∧ w.cell? ⟨C, 0, none⟩ = some (.int .i64 a)
theorem CapAt.below {w w' : World} {B C : Nat} {ao : Option Addr} {len cap : Nat} {a : Int} (h : CapAt w B C ao len cap a) (hb : Below w.heap.size w w') : CapAt w' B C ao len cap a :=
  ⟨cell_below h.1 hb, cell_below h.2 hb⟩

set_option maxRecDepth 100000 in
set_option maxHeartbeats 1000000 in
theorem over1_any (B C : Nat) (ao : Option Addr) (len cap : Nat) (p : List St) (a : Int) (k : Nat) (w : World) (hk : k < p.length) (hlen : p.length = len) (hl : len ≤ maxLen) (hr : ReadsS 2 stC w ao p) (hc : CapAt w B C ao len cap a) :
    Calls Try.prog 32 #[.int .i64 (k : Int), .pointer (some ⟨B, 0, none⟩), .pointer (some ⟨C, 0, none⟩)] w fun e w' => e = .returned (.bool (decide (a < p[k].1))) ∧ Below w.heap.size w w' := by
  subst hlen
  unfold maxLen at hl
  obtain ⟨bb, bo, rfl, b0, b1⟩ := st_cells hr hk
  obtain ⟨c0, c1⟩ := hc
  obtain ⟨⟨x, f⟩, hA⟩ : ∃ A : St, A = p[k] := ⟨_, rfl⟩
  rw [← hA] at b0 ⊢
  dsimp only at b0 ⊢
  have hlow : (0 : Int) ≤ (k : Int) := by omega
  have hup : (k : Int) < ((p.length : Nat) : Int) := by omega
  clear hr hA b1
  go_enter Try.func32, Try.ntmps32
  go_wp2
  go_quiet (fail)
  go_wp2
  go_ret
  exact ⟨rfl, by (focus repeat (first | exact Below.refl _ _ | assumption | (exact Hid.out (by assumption)) | (with_reducible refine Below.drew ?_) | (with_reducible refine Base.below_drewN ?_ _) | (refine Below.from (below_one _) ?_) | (refine Below.from (below_conv _ _ _) ?_) | (refine Below.setCell ?_ (by simp <;> omega) _) | (refine Below.from (by assumption) ?_)))⟩

set_option maxRecDepth 100000 in
set_option maxHeartbeats 2000000 in
theorem search1_any (B C : Nat) (ao : Option Addr) (cap : Nat) (p : List St) (a : Int) (w : World) (hl : p.length ≤ 1000) (hr : ReadsS 2 stC w ao p) (hc : CapAt w B C ao p.length cap a)
    (hm : ∀ i j, (hij : i ≤ j) → (hj : j < p.length) → a < (p[i]'(by omega)).1 → a < p[j].1) :
    Calls Try.prog 31 #[.int .i64 (p.length : Int), .func (.func 32) #[] #[.pointer (some ⟨B, 0, none⟩), .pointer (some ⟨C, 0, none⟩)]] w
      fun e w' => ∃ k : Nat, e = .returned (.int .i64 (k : Int)) ∧ k ≤ p.length ∧ (∀ j (h : j < p.length), j < k → p[j].1 ≤ a) ∧ (∀ j (h : j < p.length), k ≤ j → a < p[j].1) ∧ Below w.heap.size w w' := by
  have c1 := fun (k : Nat) (hk : k < p.length) (W : World) (hb : Below w.heap.size w W) => over1_any B C ao p.length cap p a k W hk rfl (by unfold maxLen; omega) (hr.below stC_length hb) (hc.below hb)
  have HM := Lib.hid hm
  clear hr hc hm
  go_enter Try.func31, Try.ntmps31
  go_wp2
  go_loopw [5, 6] (fun iv jv wr => ∃ i j : Nat, iv = .int .i64 (i : Int) ∧ jv = .int .i64 (j : Int) ∧ i ≤ j ∧ j ≤ p.length ∧ (∀ x (h : x < p.length), x < i → p[x].1 ≤ a) ∧ (∀ x (h : x < p.length), j ≤ x → a < p[x].1) ∧ Below w.heap.size w wr) (fun iv jv _ => (intOf jv).toNat - (intOf iv).toNat)
  case atStart => exact ⟨0, p.length, rfl, rfl, Nat.zero_le _, Nat.le_refl _, fun _ _ h => absurd h (Nat.not_lt_zero _), fun _ h1 h2 => absurd h1 (by omega), Below.refl _ _⟩
  case round =>
    obtain ⟨i, j, rfl, rfl, hij, hjl, hlo, hhi, hb⟩ := hrel
    have HLO := Lib.hid hlo
    have HHI := Lib.hid hhi
    have HB := Lib.hid hb
    clear hlo hhi
    by_cases hlt : i < j
    · have t1 : decide ((i : Int) < (j : Int)) = true := decide_eq_true (by omega)
      obtain ⟨h, hh⟩ : ∃ h : Nat, h = (i + j) / 2 := ⟨_, rfl⟩
      have h1 : i ≤ h := by omega
      have h2 : h < j := by omega
      have e1 : IntKind.u64.wrap ((i : Int) + (j : Int)) = (i : Int) + (j : Int) := by simp only [IntKind.wrap_u64]; omega
      have e2 : ((i : Int) + (j : Int)) / 2 = (h : Int) := by omega
      have e3 : IntKind.u64.wrap (h : Int) = (h : Int) := by simp only [IntKind.wrap_u64]; omega
      have e4 : IntKind.i64.wrap (h : Int) = (h : Int) := by simp only [IntKind.wrap_i64]; omega
      have hhl : h < p.length := by omega
      have cc := c1 h hhl wr hb
      have hle := HM.out
      clear hb
      cases hv : decide (a < p[h].1) with
      | true =>
        rw [hv] at cc
        have CC := Lib.hid cc
        have hv' := of_decide_eq_true hv
        have HX : Hid (∀ x (hx : x < p.length), h ≤ x → a < p[x].1) := Lib.hid (fun x hx hxh => HM.out h x hxh hx hv')
        clear cc hv hv' hle c1 hh
        go_wp2_with (first
          | (go_at_call 32; (with_reducible refine (CC.out).mono ?_); rintro e w1 ⟨rfl, p1⟩)
          | fail)
        refine ⟨⟨i, h, rfl, by go_num, by omega, by omega, HLO.out, HX.out, p1.from HB.out⟩, ?_⟩
        simp [intOf]; omega
      | false =>
        rw [hv] at cc
        have CC := Lib.hid cc
        have hv' := of_decide_eq_false hv
        have HX : Hid (∀ x (hx : x < p.length), x < h + 1 → p[x].1 ≤ a) := Lib.hid (fun x hx hxh => Int.not_lt.1 fun hc => hv' (HM.out x h (by omega) hhl hc))
        clear cc hv hv' hle c1 hh
        go_wp2_with (first
          | (go_at_call 32; (with_reducible refine (CC.out).mono ?_); rintro e w1 ⟨rfl, p1⟩)
          | fail)
        refine ⟨⟨h + 1, j, by go_num, rfl, by omega, by omega, HX.out, HHI.out, p1.from HB.out⟩, ?_⟩
        simp [intOf]; omega
    · have t1 : decide ((i : Int) < (j : Int)) = false := decide_eq_false (by omega)
      obtain rfl : i = j := by omega
      clear c1
      go_wp2
      go_ret
      exact ⟨i, rfl, hjl, HLO.out, HHI.out, HB.out⟩

set_option maxRecDepth 100000 in
set_option maxHeartbeats 1000000 in
theorem over2_any (B C : Nat) (ao : Option Addr) (len cap : Nat) (p : List St) (a : Int) (k : Nat) (w : World) (hk : k < p.length) (hlen : p.length = len) (hl : len ≤ maxLen) (hr : ReadsS 2 stC w ao p) (hc : CapAt w B C ao len cap a) :
    Calls Try.prog 33 #[.int .i64 (k : Int), .pointer (some ⟨B, 0, none⟩), .pointer (some ⟨C, 0, none⟩)] w fun e w' => e = .returned (.bool (decide (a ≤ p[k].1))) ∧ Below w.heap.size w w' := by
  subst hlen
  unfold maxLen at hl
  obtain ⟨bb, bo, rfl, b0, b1⟩ := st_cells hr hk
  obtain ⟨c0, c1⟩ := hc
  obtain ⟨⟨x, f⟩, hA⟩ : ∃ A : St, A = p[k] := ⟨_, rfl⟩
  rw [← hA] at b0 ⊢
  dsimp only at b0 ⊢
  have hlow : (0 : Int) ≤ (k : Int) := by omega
  have hup : (k : Int) < ((p.length : Nat) : Int) := by omega
  clear hr hA b1
  go_enter Try.func33, Try.ntmps33
  go_wp2
  go_quiet (fail)
  go_wp2
  go_ret
  exact ⟨rfl, by (focus repeat (first | exact Below.refl _ _ | assumption | (exact Hid.out (by assumption)) | (with_reducible refine Below.drew ?_) | (with_reducible refine Base.below_drewN ?_ _) | (refine Below.from (below_one _) ?_) | (refine Below.from (below_conv _ _ _) ?_) | (refine Below.setCell ?_ (by simp <;> omega) _) | (refine Below.from (by assumption) ?_)))⟩

set_option maxRecDepth 100000 in
set_option maxHeartbeats 2000000 in
theorem search2_any (B C : Nat) (ao : Option Addr) (cap : Nat) (p : List St) (a : Int) (w : World) (hl : p.length ≤ 1000) (hr : ReadsS 2 stC w ao p) (hc : CapAt w B C ao p.length cap a)
    (hm : ∀ i j, (hij : i ≤ j) → (hj : j < p.length) → a ≤ (p[i]'(by omega)).1 → a ≤ p[j].1) :
    Calls Try.prog 31 #[.int .i64 (p.length : Int), .func (.func 33) #[] #[.pointer (some ⟨B, 0, none⟩), .pointer (some ⟨C, 0, none⟩)]] w
      fun e w' => ∃ k : Nat, e = .returned (.int .i64 (k : Int)) ∧ k ≤ p.length ∧ (∀ j (h : j < p.length), j < k → p[j].1 < a) ∧ (∀ j (h : j < p.length), k ≤ j → a ≤ p[j].1) ∧ Below w.heap.size w w' := by
  have c1 := fun (k : Nat) (hk : k < p.length) (W : World) (hb : Below w.heap.size w W) => over2_any B C ao p.length cap p a k W hk rfl (by unfold maxLen; omega) (hr.below stC_length hb) (hc.below hb)
  have HM := Lib.hid hm
  clear hr hc hm
  go_enter Try.func31, Try.ntmps31
  go_wp2
  go_loopw [5, 6] (fun iv jv wr => ∃ i j : Nat, iv = .int .i64 (i : Int) ∧ jv = .int .i64 (j : Int) ∧ i ≤ j ∧ j ≤ p.length ∧ (∀ x (h : x < p.length), x < i → p[x].1 < a) ∧ (∀ x (h : x < p.length), j ≤ x → a ≤ p[x].1) ∧ Below w.heap.size w wr) (fun iv jv _ => (intOf jv).toNat - (intOf iv).toNat)
  case atStart => exact ⟨0, p.length, rfl, rfl, Nat.zero_le _, Nat.le_refl _, fun _ _ h => absurd h (Nat.not_lt_zero _), fun _ h1 h2 => absurd h1 (by omega), Below.refl _ _⟩
  case round =>
    obtain ⟨i, j, rfl, rfl, hij, hjl, hlo, hhi, hb⟩ := hrel
    have HLO := Lib.hid hlo
    have HHI := Lib.hid hhi
    have HB := Lib.hid hb
    clear hlo hhi
    by_cases hlt : i < j
    · have t1 : decide ((i : Int) < (j : Int)) = true := decide_eq_true (by omega)
      obtain ⟨h, hh⟩ : ∃ h : Nat, h = (i + j) / 2 := ⟨_, rfl⟩
      have h1 : i ≤ h := by omega
      have h2 : h < j := by omega
      have e1 : IntKind.u64.wrap ((i : Int) + (j : Int)) = (i : Int) + (j : Int) := by simp only [IntKind.wrap_u64]; omega
      have e2 : ((i : Int) + (j : Int)) / 2 = (h : Int) := by omega
      have e3 : IntKind.u64.wrap (h : Int) = (h : Int) := by simp only [IntKind.wrap_u64]; omega
      have e4 : IntKind.i64.wrap (h : Int) = (h : Int) := by simp only [IntKind.wrap_i64]; omega
      have hhl : h < p.length := by omega
      have cc := c1 h hhl wr hb
      have hle := HM.out
      clear hb
      cases hv : decide (a ≤ p[h].1) with
      | true =>
        rw [hv] at cc
        have CC := Lib.hid cc
        have hv' := of_decide_eq_true hv
        have HX : Hid (∀ x (hx : x < p.length), h ≤ x → a ≤ p[x].1) := Lib.hid (fun x hx hxh => HM.out h x hxh hx hv')
        clear cc hv hv' hle c1 hh
        go_wp2_with (first
          | (go_at_call 33; (with_reducible refine (CC.out).mono ?_); rintro e w1 ⟨rfl, p1⟩)
          | fail)
        refine ⟨⟨i, h, rfl, by go_num, by omega, by omega, HLO.out, HX.out, p1.from HB.out⟩, ?_⟩
        simp [intOf]; omega
      | false =>
        rw [hv] at cc
        have CC := Lib.hid cc
        have hv' := of_decide_eq_false hv
        have HX : Hid (∀ x (hx : x < p.length), x < h + 1 → p[x].1 < a) := Lib.hid (fun x hx hxh => Int.not_le.1 fun hc => hv' (HM.out x h (by omega) hhl hc))
        clear cc hv hv' hle c1 hh
        go_wp2_with (first
          | (go_at_call 33; (with_reducible refine (CC.out).mono ?_); rintro e w1 ⟨rfl, p1⟩)
          | fail)
        refine ⟨⟨h + 1, j, by go_num, rfl, by omega, by omega, HX.out, HHI.out, p1.from HB.out⟩, ?_⟩
        simp [intOf]; omega
    · have t1 : decide ((i : Int) < (j : Int)) = false := decide_eq_false (by omega)
      obtain rfl : i = j := by omega
      clear c1
      go_wp2
      go_ret
      exact ⟨i, rfl, hjl, HLO.out, HHI.out, HB.out⟩

end Go.Proofs.Ytoiahlbaiakngaa.Prof
