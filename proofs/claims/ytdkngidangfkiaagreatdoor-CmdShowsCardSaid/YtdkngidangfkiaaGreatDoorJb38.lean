/-
  Joined out of: The walks of the document's own answer for layer 8: its small functions. The walks of the document's own answer for layer 8: numbers, verbs, whether dependencies may be.
-/
import Derived.Test.YtdkngidangfkiaaGreatDoorJb15
import Derived.Test.YtdkngidangfkiaaGreatDoorJb08
import Derived.Test.YtdkngidangfkiaaGreatDoorJb09
import Derived.Test.YtdkngidangfkiaaGreatDoorJb35
import Derived.Test.YtdkngidangfkiaaGreatDoorJb36
import Derived.Test.YtdkngidangfkiaaGreatDoorJb37
import Derived.Test.YtdkngidangfkiaaGreatDoorJb01
import Derived.Test.YtdkngidangfkiaaGreatDoorJb04
namespace Go.Proofs.YtdkngidangfkiaaGreatDoor.Cmd
open Go.RowKit
open Base Runes Lex
open Shape (frB frB_iff sameL sameB chkB goodB altOk sizeB wallB chkE)
set_option linter.unusedVariables false
set_option linter.unusedSimpArgs false
theorem rin_any (n a b : Int) (w : World) :
    Calls Tryz.prog 35 #[.int .i64 n, .int .i64 a, .int .i64 b] w fun e w' => e = .returned (.bool (frB n a b)) ∧ w = w' := by
  have HX : Hid (frB n a b = (decide (a ≤ n) && decide (n ≤ b))) := Lib.hid rfl
  cases h1 : decide (a ≤ n) with
  | true =>
    go_enter Tryz.func35, Tryz.ntmps35
    go_wp2
    go_ret
    exact ⟨ret_bool (by rw [HX.out, h1]; rfl), rfl⟩
  | false =>
    go_enter Tryz.func35, Tryz.ntmps35
    go_wp2
    go_ret
    exact ⟨ret_bool (by rw [HX.out, h1]; rfl), rfl⟩
set_option maxRecDepth 100000 in
theorem rname_any (s : ByteArray) (hs : s.size ≤ 1000000) (w : World) :
    Calls Tryz.prog 32 #[.string s] w fun e w' => e = .returned (.bool (nameB s)) ∧ Below w.heap.size w w' := by
  have c1 := fun w => Runes.rcheck_any s hs w
  obtain ⟨N, hN⟩ : ∃ n, n = ckN s := ⟨_, rfl⟩
  obtain ⟨E, hE⟩ : ∃ n, n = ckE s := ⟨_, rfl⟩
  have hX : nameB s = ((E == 0) && (decide (1 ≤ (N : Int)) && decide ((N : Int) ≤ 16))) := by unfold nameB; rw [← hN, ← hE]; by_cases h : E = 0 <;> simp [h, frB]
  have HX := Lib.hid hX
  rw [← hN, ← hE] at c1
  have C1 := Lib.hid c1
  clear c1 hN hE hX
  cases h1 : (E == 0) <;> cases h2 : decide (1 ≤ (N : Int)) <;> cases h3 : decide ((N : Int) ≤ 16)
  all_goals
    go_enter Tryz.func32, Tryz.ntmps32
    go_wp2_with (first
      | (go_at_call 48; (with_reducible refine (C1.out _).mono ?_); rintro e w1 ⟨rfl, p1⟩)
      | fail)
    go_ret
    exact ⟨ret_bool (by rw [HX.out]; simp [*]), p1⟩
theorem rword_any (s : ByteArray) (hs : s.size ≤ 1000000) (w : World) :
    Calls Tryz.prog 24 #[.string s] w fun e w' => e = .returned (.bool (wordB s)) ∧ Below w.heap.size w w' := by
  have c1 := fun w => Lex.rchk_any 1 s 0 0 hs (by decide) w
  obtain ⟨E, hE⟩ : ∃ n, n = chE (1, s, 0, 0) := ⟨_, rfl⟩
  have hX : wordB s = (E == 0) := by unfold wordB; rw [← hE]; by_cases h : E = 0 <;> simp [h]
  have HX := Lib.hid hX
  rw [← hE] at c1
  unfold tokV at c1
  dsimp only at c1
  have C1 := Lib.hid c1
  clear c1 hE hX
  go_enter Tryz.func24, Tryz.ntmps24
  go_wp2_with (first
    | (go_at_call 47; (with_reducible refine (C1.out _).mono ?_); rintro e w1 ⟨rfl, p1⟩)
    | fail)
  go_ret
  exact ⟨ret_bool HX.out.symm, p1⟩
theorem rspan_any (n : Int) (w : World) :
    Calls Tryz.prog 28 #[.int .i64 n] w fun e w' => e = .returned (.string (Hours.shB n)) ∧ Below w.heap.size w w' := by
  have C1 := Lib.hid (fun w => Hours.rshow_any n w)
  go_enter Tryz.func28, Tryz.ntmps28
  go_wp2_with (first
    | (go_at_call 49; (with_reducible refine (C1.out _).mono ?_); rintro e w1 ⟨rfl, p1⟩)
    | fail)
  go_ret
  exact ⟨rfl, p1⟩
end Go.Proofs.YtdkngidangfkiaaGreatDoor.Cmd
namespace Go.Proofs.YtdkngidangfkiaaGreatDoor.Cmd
open Go.RowKit
open Base Runes Lex
open Shape (frB frB_iff sameL sameB chkB goodB altOk sizeB wallB chkE altC_length altC alt_cells Alt)
set_option linter.unusedVariables false
set_option linter.unusedSimpArgs false
set_option maxRecDepth 100000 in
set_option maxHeartbeats 2000000 in
theorem dec_nat (f : Nat) : f ≤ 100 → ∀ (n : Nat), n < 10 ^ f → 1 ≤ f → n ≤ 9223372036854775807 → ∀ w : World,
    Calls Tryz.prog 26 #[.int .i64 (n : Int)] w fun e w' => e = .returned (.string ⟨(Go.Lib.decDigits n).toArray⟩) ∧ Below w.heap.size w w' := by
  induction f with
  | zero => intro _ n _ h; omega
  | succ f ih =>
    intro hf100 n hn _ h63 w
    by_cases h10 : n < 10
    · have HD : Hid ((⟨#[UInt8.ofNat (48 + n)]⟩ : ByteArray) = ⟨(Go.Lib.decDigits n).toArray⟩) := Lib.hid (by rw [Go.Lib.decDigits, dif_pos h10])
      obtain ⟨c, hc⟩ : ∃ c, c = UInt8.ofNat (48 + n) := ⟨_, rfl⟩
      have hcn : (c.toNat : Int) = 48 + (n : Int) := by rw [hc, UInt8.toNat_ofNat']; omega
      rw [← hc] at HD
      have hcv := fun (W : World) (g : Nat) (h : W.cell? ⟨g, 0, none⟩ = some (.int .u8 (48 + (n : Int)))) => Hours.one_conv (w := W) (g := g) (c := c) (by rw [hcn]; exact h)
      clear hc hcn
      go_enter Tryz.func26, Tryz.ntmps26
      go_wp2
      go_ret
      exact ⟨ret_str HD.out, below_one _⟩
    · obtain ⟨q, hq⟩ : ∃ q, q = n / 10 := ⟨_, rfl⟩
      obtain ⟨d, hd⟩ : ∃ d, d = n % 10 := ⟨_, rfl⟩
      have hf1 : 1 ≤ f := by
        rcases Nat.eq_zero_or_pos f with h | h
        · subst h; simp at hn; omega
        · exact h
      have hqf : q < 10 ^ f := by rw [hq]; have := Nat.pow_succ 10 f; omega
      obtain ⟨c, hc⟩ : ∃ c, c = UInt8.ofNat (48 + d) := ⟨_, rfl⟩
      obtain ⟨Z, hZ⟩ : ∃ Z : ByteArray, Z = ⟨(Go.Lib.decDigits q).toArray⟩ := ⟨_, rfl⟩
      have HD : Hid (Z ++ (⟨#[c]⟩ : ByteArray) = ⟨(Go.Lib.decDigits n).toArray⟩) := Lib.hid (by
        rw [Go.Lib.decDigits, dif_neg h10, ← hq, ← hd, ← hc, hZ]
        apply ByteArray.ext; apply Array.toList_inj.1
        simp [ByteArray.data_append])
      have hcn : (c.toNat : Int) = 48 + (d : Int) := by rw [hc, UInt8.toNat_ofNat']; omega
      have hcv := fun (W : World) (g : Nat) (h : W.cell? ⟨g, 0, none⟩ = some (.int .u8 (48 + (d : Int)))) => Hours.one_conv (w := W) (g := g) (c := c) (by rw [hcn]; exact h)
      have hqz : (n : Int) / 10 = (q : Int) := by omega
      have hdz : (n : Int) % 10 = (d : Int) := by omega
      have hq1 : Int.tdiv (n : Int) 10 = (q : Int) := by rw [Int.tdiv_eq_ediv_of_nonneg (by omega)]; omega
      have hd1 : Int.tmod (n : Int) 10 = (d : Int) := by rw [Int.tmod_eq_emod_of_nonneg (by omega)]; omega
      have hd9 : d < 10 := by omega
      have hw1 : IntKind.i64.wrap (q : Int) = (q : Int) := by simp only [IntKind.wrap_i64]; omega
      have hw2 : IntKind.i64.wrap (48 + (d : Int)) = 48 + (d : Int) := by simp only [IntKind.wrap_i64]; omega
      have hw3 : IntKind.u8.wrap (48 + (d : Int)) = 48 + (d : Int) := by simp only [IntKind.wrap_u8]; omega
      have hZs : Z.size ≤ 100 := by rw [hZ, Lib.size_eq]; show (Go.Lib.decDigits q).length ≤ 100; have := (Hours.dec_facts f q hqf hf1).2.2.1; omega
      have ihq := ih (by omega) q hqf hf1 (by omega)
      rw [← hZ] at ihq
      have IH := Lib.hid ihq
      clear ihq ih hZ hc hcn hqf hq hd
      go_enter Tryz.func26, Tryz.ntmps26
      go_wp2
      go_region_with (first
        | (go_at_call 26; (with_reducible refine (IH.out _).mono ?_); rintro e w1 ⟨rfl, p1⟩; (try have hl1 : w1.cell? ⟨w.heap.size, 0, none⟩ = some (.int .u8 (48 + (d : Int))) := cell_below (w := (w.alloc (.cells #[.int .u8 (48 + (d : Int))] 5)).drew) (show (w.alloc (.cells #[.int .u8 (48 + (d : Int))] 5)).cell? _ = _ from by rw [World.cell?_alloc_at _ _ _ _ rfl]; rfl) p1))
        | fail)
      all_goals
        go_wp2
        go_ret
        refine ⟨ret_str HD.out, ?_⟩
        (exact Base.bel_)
theorem rdig_any (n : Int) (h0 : 0 ≤ n) (h1 : n ≤ 9223372036854775807) (w : World) :
    Calls Tryz.prog 26 #[.int .i64 n] w fun e w' => e = .returned (.string ⟨(numT n).toArray⟩) ∧ Below w.heap.size w w' := by
  obtain ⟨m, rfl⟩ := Int.eq_ofNat_of_zero_le h0
  have e : numT (m : Int) = Go.Lib.decDigits m := by unfold numT Go.Lib.itoa; simp
  rw [e]
  exact dec_nat 20 (by decide) m (by omega) (by decide) (by omega) w
end Go.Proofs.YtdkngidangfkiaaGreatDoor.Cmd
