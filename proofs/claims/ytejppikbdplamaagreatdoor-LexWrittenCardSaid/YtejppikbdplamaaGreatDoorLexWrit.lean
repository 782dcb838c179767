/-
  The walks of the document's own written tokens.
-/
import Derived.Test.YtejppikbdplamaaGreatDoorLexLine
import Derived.Deep.RegionWith
namespace Go.Proofs.YtejppikbdplamaaGreatDoor.Lex
open Go.RowKit
open Base Runes
set_option linter.unusedVariables false
set_option linter.unusedSimpArgs false

def digF : Nat → Nat → List UInt8
  | 0, _ => []
  | f + 1, n => if n < 10 then [UInt8.ofNat (48 + n)] else digF f (n / 10) ++ [UInt8.ofNat (48 + n % 10)]
def digB (n : Int) : ByteArray := if n < 0 then ⟨#[]⟩ else ⟨(digF 20 n.toNat).toArray⟩
theorem digF_length (f n : Nat) : (digF f n).length ≤ f := by
  induction f generalizing n with
  | zero => simp [digF]
  | succ f ih =>
    rw [digF]
    split
    · simp
    · have := ih (n / 10); simp; omega

set_option maxRecDepth 100000 in
theorem one_conv {w : World} {g : Nat} {c : UInt8} (h : w.cell? ⟨g, 0, none⟩ = some (.int .u8 (c.toNat : Int))) : (convert 40 9 (.slice (some ⟨g, 0, none⟩) 1 1)).run Tryz.prog w = .ok (.string ⟨#[c]⟩) w := by
  have h1 := run_convert_bytes_arg (P := Tryz.prog) w 40 5 Tryz.underlying40 Tryz.underlying5 g 0 1 1 [(c.toNat : Int)] rfl (fun i hi => by
    have : i = 0 := by omega
    subst this; simpa using h) 9 Tryz.underlying9
  rw [h1]
  congr 2
  unfold strOfNums
  simp

set_option maxRecDepth 100000 in
set_option maxHeartbeats 2000000 in
theorem rdigits_nat (f : Nat) : f ≤ 100 → ∀ (n : Nat), n < 10 ^ f → 1 ≤ f → n ≤ 9223372036854775807 → ∀ w : World,
    Calls Tryz.prog 27 #[.int .i64 (n : Int)] w fun e w' => e = .returned (.string ⟨(digF f n).toArray⟩) ∧ Below w.heap.size w w' := by
  induction f with
  | zero => intro _ n _ h; omega
  | succ f ih =>
    intro hf100 n hn _ h63 w
    by_cases h10 : n < 10
    · have HD : Hid ((⟨#[UInt8.ofNat (48 + n)]⟩ : ByteArray) = ⟨(digF (f + 1) n).toArray⟩) := Lib.hid (by rw [digF, if_pos h10])
      obtain ⟨c, hc⟩ : ∃ c, c = UInt8.ofNat (48 + n) := ⟨_, rfl⟩
      have hcn : (c.toNat : Int) = 48 + (n : Int) := by rw [hc, UInt8.toNat_ofNat']; omega
      rw [← hc] at HD
      have hcv := fun (W : World) (g : Nat) (h : W.cell? ⟨g, 0, none⟩ = some (.int .u8 (48 + (n : Int)))) => one_conv (w := W) (g := g) (c := c) (by rw [hcn]; exact h)
      clear hc hcn
      go_enter Tryz.func27, Tryz.ntmps27
      go_wp2
      go_ret
      exact ⟨ret_str HD.out, below_one _⟩
    · obtain ⟨q, hq⟩ : ∃ q, q = n / 10 := ⟨_, rfl⟩
      obtain ⟨d, hd⟩ : ∃ d, d = n % 10 := ⟨_, rfl⟩
      have hf1 : 1 ≤ f := by
        rcases Nat.eq_zero_or_pos f with h | h
        · subst h; simp at hn; omega
        · exact h
      have hqf : q < 10 ^ f := by rw [hq]; have := Nat.pow_succ 10 f; omega
      obtain ⟨c, hc⟩ : ∃ c, c = UInt8.ofNat (48 + d) := ⟨_, rfl⟩
      obtain ⟨Z, hZ⟩ : ∃ Z : ByteArray, Z = ⟨(digF f q).toArray⟩ := ⟨_, rfl⟩
      have HD : Hid (Z ++ (⟨#[c]⟩ : ByteArray) = ⟨(digF (f + 1) n).toArray⟩) := Lib.hid (by
        rw [digF, if_neg h10, ← hq, ← hd, ← hc, hZ]
        apply ByteArray.ext; apply Array.toList_inj.1
        simp [ByteArray.data_append])
      have hcn : (c.toNat : Int) = 48 + (d : Int) := by rw [hc, UInt8.toNat_ofNat']; omega
      have hcv := fun (W : World) (g : Nat) (h : W.cell? ⟨g, 0, none⟩ = some (.int .u8 (48 + (d : Int)))) => one_conv (w := W) (g := g) (c := c) (by rw [hcn]; exact h)
      have hqz : (n : Int) / 10 = (q : Int) := by omega
      have hdz : (n : Int) % 10 = (d : Int) := by omega
      have hq1 : Int.tdiv (n : Int) 10 = (q : Int) := by rw [Int.tdiv_eq_ediv_of_nonneg (by omega)]; omega
      have hd1 : Int.tmod (n : Int) 10 = (d : Int) := by rw [Int.tmod_eq_emod_of_nonneg (by omega)]; omega
      have hd9 : d < 10 := by omega
      have hw1 : IntKind.i64.wrap (q : Int) = (q : Int) := by simp only [IntKind.wrap_i64]; omega
      have hw2 : IntKind.i64.wrap (48 + (d : Int)) = 48 + (d : Int) := by simp only [IntKind.wrap_i64]; omega
      have hw3 : IntKind.u8.wrap (48 + (d : Int)) = 48 + (d : Int) := by simp only [IntKind.wrap_u8]; omega
      have hZs : Z.size ≤ 100 := by rw [hZ, Lib.size_eq, ofList_data]; have := digF_length f q; omega
      have ihq := ih (by omega) q hqf hf1 (by omega)
      rw [← hZ] at ihq
      have IH := Lib.hid ihq
      clear ihq ih hZ hc hcn hqf hq hd
      go_enter Tryz.func27, Tryz.ntmps27
      go_wp2
      go_region_with (first
        | (go_at_call 27; (with_reducible refine (IH.out _).mono ?_); rintro e w1 ⟨rfl, p1⟩; (try have hl1 : w1.cell? ⟨w.heap.size, 0, none⟩ = some (.int .u8 (48 + (d : Int))) := cell_below (w := (w.alloc (.cells #[.int .u8 (48 + (d : Int))] 5)).drew) (show (w.alloc (.cells #[.int .u8 (48 + (d : Int))] 5)).cell? _ = _ from by rw [World.cell?_alloc_at _ _ _ _ rfl]; rfl) p1))
        | fail)
      all_goals
        go_wp2
        go_ret
        refine ⟨ret_str HD.out, ?_⟩
        (focus repeat (first | exact Below.refl _ _ | assumption | (exact Hid.out (by assumption)) | (with_reducible refine Below.drew ?_) | (with_reducible refine below_drewN ?_ _) | (refine Below.from (below_one _) ?_) | (refine Below.from (below_conv _ _ _) ?_) | (refine Below.setCell ?_ (by simp <;> omega) _) | (refine Below.from (by assumption) ?_)))

theorem rdigits_any (n : Int) (h : n ≤ 9223372036854775807) (w : World) :
    Calls Tryz.prog 27 #[.int .i64 n] w fun e w' => e = .returned (.string (digB n)) ∧ Below w.heap.size w w' := by
  by_cases h0 : n < 0
  · have HD : Hid (⟨#[]⟩ = digB n) := Lib.hid (by unfold digB; rw [if_pos h0])
    go_enter Tryz.func27, Tryz.ntmps27
    go_wp2
    go_ret
    exact ⟨ret_str HD.out, Below.refl _ _⟩
  · obtain ⟨m, rfl⟩ := Int.eq_ofNat_of_zero_le (show 0 ≤ n by omega)
    have e : digB (m : Int) = ⟨(digF 20 m).toArray⟩ := by unfold digB; rw [if_neg h0, Int.toNat_natCast]
    rw [e]
    exact rdigits_nat 20 (by decide) m (by omega) (by decide) (by omega) w

/-! A token as it would be written; whether it may be. -/

def wrB (t : Tok) : ByteArray := if t.1 = 2 then digB t.2.2.1 else if t.1 = 4 then qtS t.2.1 else t.2.1
def chE (t : Tok) : Int :=
  if (tkA (wrB t)).2.2 = 0 then
    match (tkA (wrB t)).1 with
    | [x] => if x.1 = t.1 ∧ x.2.1 = t.2.1 ∧ x.2.2.1 = t.2.2.1 then 0 else 50
    | _ => 50
  else 50
def txS (t : Tok) : ByteArray := if chE t = 0 then wrB t else ⟨#[]⟩
theorem chE_or (t : Tok) : chE t = 0 ∨ chE t = 50 := by
  unfold chE
  split
  · split
    · split
      · exact .inl rfl
      · exact .inr rfl
    · exact .inr rfl
  · exact .inr rfl

set_option maxRecDepth 100000 in
set_option maxHeartbeats 1000000 in
theorem rwritten_any (k : Int) (s : ByteArray) (n a : Int) (hs : s.size ≤ 1000000) (hn : n ≤ 9223372036854775807) (w : World) :
    Calls Tryz.prog 18 #[tokV (k, s, n, a)] w fun e w' => e = .returned (.string (wrB (k, s, n, a))) ∧ Below w.heap.size w w' := by
  unfold tokV
  by_cases h2 : k = 2
  · have HW : Hid (digB n = wrB (k, s, n, a)) := Lib.hid (by unfold wrB; rw [if_pos h2])
    have t2 : (k == 2) = true := by rw [beq_iff_eq]; exact h2
    clear h2
    go_enter Tryz.func18, Tryz.ntmps18
    go_wp2_with (first
      | (go_at_call 27; (with_reducible refine (rdigits_any n hn _).mono ?_); rintro e w1 ⟨rfl, p1⟩)
      | fail)
    go_ret
    refine ⟨ret_str HW.out, ?_⟩
    (focus repeat (first | exact Below.refl _ _ | assumption | (exact Hid.out (by assumption)) | (with_reducible refine Below.drew ?_) | (with_reducible refine below_drewN ?_ _) | (refine Below.from (below_one _) ?_) | (refine Below.from (below_conv _ _ _) ?_) | (refine Below.setCell ?_ (by simp <;> omega) _) | (refine Below.from (by assumption) ?_)))
  · have t2 : (k == 2) = false := by rw [beq_eq_false_iff_ne]; exact h2
    by_cases h4 : k = 4
    · have HW : Hid (qtS s = wrB (k, s, n, a)) := Lib.hid (by unfold wrB; rw [if_neg h2, if_pos h4])
      have t4 : (k == 4) = true := by rw [beq_iff_eq]; exact h4
      clear h2 h4
      go_enter Tryz.func18, Tryz.ntmps18
      go_wp2_with (first
        | (go_at_call 28; (with_reducible refine (rquote_any s hs _).mono ?_); rintro e w1 ⟨rfl, p1⟩)
        | fail)
      go_ret
      refine ⟨ret_str HW.out, ?_⟩
      (focus repeat (first | exact Below.refl _ _ | assumption | (exact Hid.out (by assumption)) | (with_reducible refine Below.drew ?_) | (with_reducible refine below_drewN ?_ _) | (refine Below.from (below_one _) ?_) | (refine Below.from (below_conv _ _ _) ?_) | (refine Below.setCell ?_ (by simp <;> omega) _) | (refine Below.from (by assumption) ?_)))
    · have HW : Hid (s = wrB (k, s, n, a)) := Lib.hid (by unfold wrB; rw [if_neg h2, if_neg h4])
      have t4 : (k == 4) = false := by rw [beq_eq_false_iff_ne]; exact h4
      clear h2 h4
      go_enter Tryz.func18, Tryz.ntmps18
      go_wp2
      go_ret
      refine ⟨ret_str HW.out, ?_⟩
      (focus repeat (first | exact Below.refl _ _ | assumption | (exact Hid.out (by assumption)) | (with_reducible refine Below.drew ?_) | (with_reducible refine below_drewN ?_ _) | (refine Below.from (below_one _) ?_) | (refine Below.from (below_conv _ _ _) ?_) | (refine Below.setCell ?_ (by simp <;> omega) _) | (refine Below.from (by assumption) ?_)))

end Go.Proofs.YtejppikbdplamaaGreatDoor.Lex
