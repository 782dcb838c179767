/-
  Joined out of: The walks of the reader's questions. The walks of the reader's small parts: a word, a name, a number, a sign, a length, an alternative, a span.
-/
import Derived.Test.YtdkngidangfkiaaGreatDoorJa14
import Derived.Test.YtdkngidangfkiaaGreatDoorJa10
import Derived.Test.YtdkngidangfkiaaGreatDoorJa15
namespace Go.Proofs.YtdkngidangfkiaaGreatDoor.Cmd
open Go.RowKit
open Base
open Lex (Tok tkC tkC_length tokV zT)
open Shape (frB sizeB)
set_option linter.unusedVariables false
set_option linter.unusedSimpArgs false
theorem ret_i64 {a b : Int} (h : a = b) : Ending.returned (.int .i64 a) = .returned (.int .i64 b) := by rw [h]
theorem tl_eq (a b : ByteArray) : (a.toList = b.toList) = (a = b) := by
  have := Runes.str_eq a b
  rw [Bool.eq_iff_iff, beq_iff_eq, decide_eq_true_iff] at this
  exact propext this
set_option maxRecDepth 100000 in
set_option maxHeartbeats 1000000 in
theorem signc_any (t : Tok) (P : Nat) (s : ByteArray) (w : World) (hP : w.cell? ⟨P, 0, none⟩ = some (.string s)) :
    Calls Tryz.prog 140 #[tokV t, .pointer (some ⟨P, 0, none⟩)] w fun e w' => e = .returned (.bool (qSign s t)) ∧ Below w.heap.size w w' := by
  obtain ⟨k, x, n, a⟩ := t
  unfold tokV qSign
  dsimp only
  have hlt := lt_of_cell hP
  have tx := Runes.str_eq x s
  go_enter Tryz.func140, Tryz.ntmps140
  go_wp2
  all_goals
    go_ret
    refine ⟨ret_bool ?_, by (focus repeat (first | exact Below.refl _ _ | assumption | (exact Hid.out (by assumption)) | (with_reducible refine Below.drew ?_) | (with_reducible refine Base.below_drewN ?_ _) | (refine Below.from (below_one _) ?_) | (refine Below.from (below_conv _ _ _) ?_) | (refine Below.setCell ?_ (by simp <;> omega) _) | (refine Below.from (by assumption) ?_)))⟩
    simp [*]
set_option maxRecDepth 100000 in
set_option maxHeartbeats 1000000 in
theorem namec_any (t : Tok) (ht : t.2.1.size ≤ 1000000) (w : World) :
    Calls Tryz.prog 137 #[tokV t] w fun e w' => e = .returned (.bool (qName t)) ∧ Below w.heap.size w w' := by
  obtain ⟨k, x, n, a⟩ := t
  unfold tokV qName
  dsimp only at ht ⊢
  have c1 := fun w => isName_any x ht w
  have C1 := Lib.hid c1
  clear c1
  go_enter Tryz.func137, Tryz.ntmps137
  go_wp2_with (first
    | (go_at_call 80; (with_reducible refine (C1.out _).mono ?_); rintro e w1 ⟨rfl, p1⟩)
    | fail)
  all_goals
    go_ret
    refine ⟨ret_bool ?_, by (focus repeat (first | exact Below.refl _ _ | assumption | (exact Hid.out (by assumption)) | (with_reducible refine Below.drew ?_) | (with_reducible refine Base.below_drewN ?_ _) | (refine Below.from (below_one _) ?_) | (refine Below.from (below_conv _ _ _) ?_) | (refine Below.setCell ?_ (by simp <;> omega) _) | (refine Below.from (by assumption) ?_)))⟩
    simp [*]
set_option maxRecDepth 100000 in
set_option maxHeartbeats 1000000 in
theorem ticksOf_any (t : Tok) (ht : t.2.1.size ≤ 1000000) (w : World) (hT : Tb w) :
    Calls Tryz.prog 169 #[tokV t] w fun e w' => e = .returned (.int .i64 (tkOf t)) ∧ Below w.heap.size w w' := by
  obtain ⟨k, x, n, a⟩ := t
  unfold tokV tkOf
  dsimp only at ht ⊢
  have c1 := fun w hT => Hours.parse_any x (by unfold maxLen; omega) w hT
  have HT := Lib.hid hT.hours
  have C1 := Lib.hid c1
  clear c1 hT
  by_cases h2 : k = 2
  · subst h2
    rw [if_pos rfl]
    go_enter Tryz.func169, Tryz.ntmps169
    go_wp2
    go_ret
    exact ⟨rfl, by (focus repeat (first | exact Below.refl _ _ | assumption | (exact Hid.out (by assumption)) | (with_reducible refine Below.drew ?_) | (with_reducible refine Base.below_drewN ?_ _) | (refine Below.from (below_one _) ?_) | (refine Below.from (below_conv _ _ _) ?_) | (refine Below.setCell ?_ (by simp <;> omega) _) | (refine Below.from (by assumption) ?_)))⟩
  · rw [if_neg h2]
    have t2 : (k == 2) = false := by simpa using h2
    by_cases h3 : k = 3
    · subst h3
      rw [if_pos rfl]
      go_enter Tryz.func169, Tryz.ntmps169
      go_wp2_with (first
        | (go_at_call 189; (with_reducible refine (C1.out _ (HT.out.later (by (focus repeat (first | exact Below.refl _ _ | assumption | (exact Hid.out (by assumption)) | (with_reducible refine Below.drew ?_) | (with_reducible refine Base.below_drewN ?_ _) | (refine Below.from (below_one _) ?_) | (refine Below.from (below_conv _ _ _) ?_) | (refine Below.setCell ?_ (by simp <;> omega) _) | (refine Below.from (by assumption) ?_)))))).mono ?_); rintro e w1 ⟨rfl, p1⟩)
        | fail)
      go_ret
      exact ⟨rfl, by (focus repeat (first | exact Below.refl _ _ | assumption | (exact Hid.out (by assumption)) | (with_reducible refine Below.drew ?_) | (with_reducible refine Base.below_drewN ?_ _) | (refine Below.from (below_one _) ?_) | (refine Below.from (below_conv _ _ _) ?_) | (refine Below.setCell ?_ (by simp <;> omega) _) | (refine Below.from (by assumption) ?_)))⟩
    · rw [if_neg h3]
      have t3 : (k == 3) = false := by simpa using h3
      go_enter Tryz.func169, Tryz.ntmps169
      go_wp2
      go_ret
      exact ⟨rfl, by (focus repeat (first | exact Below.refl _ _ | assumption | (exact Hid.out (by assumption)) | (with_reducible refine Below.drew ?_) | (with_reducible refine Base.below_drewN ?_ _) | (refine Below.from (below_one _) ?_) | (refine Below.from (below_conv _ _ _) ?_) | (refine Below.setCell ?_ (by simp <;> omega) _) | (refine Below.from (by assumption) ?_)))⟩
set_option maxRecDepth 100000 in
set_option maxHeartbeats 1000000 in
theorem lenc_any (t : Tok) (ht : t.2.1.size ≤ 1000000) (w : World) (hT : Tb w) :
    Calls Tryz.prog 168 #[tokV t] w fun e w' => e = .returned (.bool (qLen t)) ∧ Below w.heap.size w w' := by
  have c1 := fun w hT => ticksOf_any t ht w hT
  obtain ⟨k, x, n, a⟩ := t
  unfold qLen
  unfold tokV at c1 ⊢
  dsimp only at c1 ⊢
  have HT := Lib.hid hT
  have C1 := Lib.hid c1
  clear c1 hT
  go_enter Tryz.func168, Tryz.ntmps168
  go_wp2_with (first
    | (go_at_call 169; (with_reducible refine (C1.out _ (HT.out.later (by (focus repeat (first | exact Below.refl _ _ | assumption | (exact Hid.out (by assumption)) | (with_reducible refine Below.drew ?_) | (with_reducible refine Base.below_drewN ?_ _) | (refine Below.from (below_one _) ?_) | (refine Below.from (below_conv _ _ _) ?_) | (refine Below.setCell ?_ (by simp <;> omega) _) | (refine Below.from (by assumption) ?_)))))).mono ?_); rintro e w1 ⟨rfl, p1⟩)
    | (go_at_call 85; (with_reducible refine (isLength_any _ _).mono ?_); rintro e w' ⟨rfl, rfl⟩)
    | fail)
  go_ret
  exact ⟨rfl, by (focus repeat (first | exact Below.refl _ _ | assumption | (exact Hid.out (by assumption)) | (with_reducible refine Below.drew ?_) | (with_reducible refine Base.below_drewN ?_ _) | (refine Below.from (below_one _) ?_) | (refine Below.from (below_conv _ _ _) ?_) | (refine Below.setCell ?_ (by simp <;> omega) _) | (refine Below.from (by assumption) ?_)))⟩
set_option maxHeartbeats 1000000 in
theorem cmdq_any (s : ByteArray) (w : World) (hT : Tb w) :
    Calls Tryz.prog 64 #[.string s] w fun e w' => e = .returned (.bool (decide (kindN s ≠ 0))) ∧ w = w' := by
  have HT := Lib.hid hT
  clear hT
  go_enter Tryz.func64, Tryz.ntmps64
  go_wp2_with (first
    | (go_at_call 65; (with_reducible refine (kindOf_any _ _ HT.out).mono ?_); rintro e w' ⟨rfl, rfl⟩)
    | fail)
  go_ret
  refine ⟨ret_bool ?_, rfl⟩
  rw [Bool.eq_iff_iff]
  simp
set_option maxRecDepth 100000 in
set_option maxHeartbeats 1000000 in
theorem wordc_cmd (t : Tok) (P : Nat) (w : World) (hT : Tb w) (hP : w.cell? ⟨P, 0, none⟩ = some (.func (.func 64) #[] #[])) :
    Calls Tryz.prog 98 #[tokV t, .pointer (some ⟨P, 0, none⟩)] w fun e w' => e = .returned (.bool (qWord (fun s => decide (kindN s ≠ 0)) t)) ∧ Below w.heap.size w w' := by
  obtain ⟨k, x, n, a⟩ := t
  unfold tokV qWord
  dsimp only
  have hlt := lt_of_cell hP
  have HT := Lib.hid hT
  clear hT
  go_enter Tryz.func98, Tryz.ntmps98
  go_wp2_with (first
    | (go_at_call 64; (with_reducible refine (cmdq_any _ _ (HT.out.later (by (focus repeat (first | exact Below.refl _ _ | assumption | (exact Hid.out (by assumption)) | (with_reducible refine Below.drew ?_) | (with_reducible refine Base.below_drewN ?_ _) | (refine Below.from (below_one _) ?_) | (refine Below.from (below_conv _ _ _) ?_) | (refine Below.setCell ?_ (by simp <;> omega) _) | (refine Below.from (by assumption) ?_)))))).mono ?_); rintro e w1 ⟨rfl, rfl⟩)
    | fail)
  all_goals
    go_ret
    refine ⟨ret_bool ?_, by (focus repeat (first | exact Below.refl _ _ | assumption | (exact Hid.out (by assumption)) | (with_reducible refine Below.drew ?_) | (with_reducible refine Base.below_drewN ?_ _) | (refine Below.from (below_one _) ?_) | (refine Below.from (below_conv _ _ _) ?_) | (refine Below.setCell ?_ (by simp <;> omega) _) | (refine Below.from (by assumption) ?_)))⟩
    simp [*]
set_option maxRecDepth 100000 in
set_option maxHeartbeats 1000000 in
theorem wordc_name (t : Tok) (ht : t.2.1.size ≤ 1000000) (P : Nat) (w : World) (hP : w.cell? ⟨P, 0, none⟩ = some (.func (.func 80) #[] #[])) :
    Calls Tryz.prog 98 #[tokV t, .pointer (some ⟨P, 0, none⟩)] w fun e w' => e = .returned (.bool (qWord nameB t)) ∧ Below w.heap.size w w' := by
  obtain ⟨k, x, n, a⟩ := t
  unfold tokV qWord
  dsimp only at ht ⊢
  have hlt := lt_of_cell hP
  have c1 := fun w => isName_any x ht w
  have C1 := Lib.hid c1
  clear c1
  go_enter Tryz.func98, Tryz.ntmps98
  go_wp2_with (first
    | (go_at_call 80; (with_reducible refine (C1.out _).mono ?_); rintro e w1 ⟨rfl, p1⟩)
    | fail)
  all_goals
    go_ret
    refine ⟨ret_bool ?_, by (focus repeat (first | exact Below.refl _ _ | assumption | (exact Hid.out (by assumption)) | (with_reducible refine Below.drew ?_) | (with_reducible refine Base.below_drewN ?_ _) | (refine Below.from (below_one _) ?_) | (refine Below.from (below_conv _ _ _) ?_) | (refine Below.setCell ?_ (by simp <;> omega) _) | (refine Below.from (by assumption) ?_)))⟩
    simp [*]
set_option maxRecDepth 100000 in
set_option maxHeartbeats 1000000 in
theorem numc_isNode (t : Tok) (P : Nat) (w : World) (hP : w.cell? ⟨P, 0, none⟩ = some (.func (.func 55) #[] #[])) :
    Calls Tryz.prog 138 #[tokV t, .pointer (some ⟨P, 0, none⟩)] w fun e w' => e = .returned (.bool (qNum nodeB t)) ∧ Below w.heap.size w w' := by
  obtain ⟨k, x, n, a⟩ := t
  unfold tokV qNum
  dsimp only
  have hlt := lt_of_cell hP
  go_enter Tryz.func138, Tryz.ntmps138
  go_wp2_with (first
    | (go_at_call 55; (with_reducible refine (isNode_any _ _).mono ?_); rintro e w1 ⟨rfl, rfl⟩)
    | fail)
  all_goals
    go_ret
    refine ⟨ret_bool ?_, by (focus repeat (first | exact Below.refl _ _ | assumption | (exact Hid.out (by assumption)) | (with_reducible refine Below.drew ?_) | (with_reducible refine Base.below_drewN ?_ _) | (refine Below.from (below_one _) ?_) | (refine Below.from (below_conv _ _ _) ?_) | (refine Below.setCell ?_ (by simp <;> omega) _) | (refine Below.from (by assumption) ?_)))⟩
    simp [*]
set_option maxRecDepth 100000 in
set_option maxHeartbeats 1000000 in
theorem numc_isId (t : Tok) (P : Nat) (w : World) (hP : w.cell? ⟨P, 0, none⟩ = some (.func (.func 51) #[] #[])) :
    Calls Tryz.prog 138 #[tokV t, .pointer (some ⟨P, 0, none⟩)] w fun e w' => e = .returned (.bool (qNum idB t)) ∧ Below w.heap.size w w' := by
  obtain ⟨k, x, n, a⟩ := t
  unfold tokV qNum
  dsimp only
  have hlt := lt_of_cell hP
  go_enter Tryz.func138, Tryz.ntmps138
  go_wp2_with (first
    | (go_at_call 51; (with_reducible refine (isId_any _ _).mono ?_); rintro e w1 ⟨rfl, rfl⟩)
    | fail)
  all_goals
    go_ret
    refine ⟨ret_bool ?_, by (focus repeat (first | exact Below.refl _ _ | assumption | (exact Hid.out (by assumption)) | (with_reducible refine Below.drew ?_) | (with_reducible refine Base.below_drewN ?_ _) | (refine Below.from (below_one _) ?_) | (refine Below.from (below_conv _ _ _) ?_) | (refine Below.setCell ?_ (by simp <;> omega) _) | (refine Below.from (by assumption) ?_)))⟩
    simp [*]
set_option maxRecDepth 100000 in
set_option maxHeartbeats 1000000 in
theorem numc_isSize (t : Tok) (P : Nat) (w : World) (hP : w.cell? ⟨P, 0, none⟩ = some (.func (.func 54) #[] #[])) :
    Calls Tryz.prog 138 #[tokV t, .pointer (some ⟨P, 0, none⟩)] w fun e w' => e = .returned (.bool (qNum sizeB t)) ∧ Below w.heap.size w w' := by
  obtain ⟨k, x, n, a⟩ := t
  unfold tokV qNum
  dsimp only
  have hlt := lt_of_cell hP
  go_enter Tryz.func138, Tryz.ntmps138
  go_wp2_with (first
    | (go_at_call 54; (with_reducible refine (isSize_any _ _).mono ?_); rintro e w1 ⟨rfl, rfl⟩)
    | fail)
  all_goals
    go_ret
    refine ⟨ret_bool ?_, by (focus repeat (first | exact Below.refl _ _ | assumption | (exact Hid.out (by assumption)) | (with_reducible refine Below.drew ?_) | (with_reducible refine Base.below_drewN ?_ _) | (refine Below.from (below_one _) ?_) | (refine Below.from (below_conv _ _ _) ?_) | (refine Below.setCell ?_ (by simp <;> omega) _) | (refine Below.from (by assumption) ?_)))⟩
    simp [*]
set_option maxRecDepth 100000 in
set_option maxHeartbeats 1000000 in
theorem numc_isPrio (t : Tok) (P : Nat) (w : World) (hP : w.cell? ⟨P, 0, none⟩ = some (.func (.func 84) #[] #[])) :
    Calls Tryz.prog 138 #[tokV t, .pointer (some ⟨P, 0, none⟩)] w fun e w' => e = .returned (.bool (qNum prB t)) ∧ Below w.heap.size w w' := by
  obtain ⟨k, x, n, a⟩ := t
  unfold tokV qNum
  dsimp only
  have hlt := lt_of_cell hP
  go_enter Tryz.func138, Tryz.ntmps138
  go_wp2_with (first
    | (go_at_call 84; (with_reducible refine (isPrio_any _ _).mono ?_); rintro e w1 ⟨rfl, rfl⟩)
    | fail)
  all_goals
    go_ret
    refine ⟨ret_bool ?_, by (focus repeat (first | exact Below.refl _ _ | assumption | (exact Hid.out (by assumption)) | (with_reducible refine Below.drew ?_) | (with_reducible refine Base.below_drewN ?_ _) | (refine Below.from (below_one _) ?_) | (refine Below.from (below_conv _ _ _) ?_) | (refine Below.setCell ?_ (by simp <;> omega) _) | (refine Below.from (by assumption) ?_)))⟩
    simp [*]
set_option maxRecDepth 100000 in
set_option maxHeartbeats 1000000 in
theorem numc_isTick (t : Tok) (P : Nat) (w : World) (hP : w.cell? ⟨P, 0, none⟩ = some (.func (.func 56) #[] #[])) :
    Calls Tryz.prog 138 #[tokV t, .pointer (some ⟨P, 0, none⟩)] w fun e w' => e = .returned (.bool (qNum tickB t)) ∧ Below w.heap.size w w' := by
  obtain ⟨k, x, n, a⟩ := t
  unfold tokV qNum
  dsimp only
  have hlt := lt_of_cell hP
  go_enter Tryz.func138, Tryz.ntmps138
  go_wp2_with (first
    | (go_at_call 56; (with_reducible refine (isTick_any _ _).mono ?_); rintro e w1 ⟨rfl, rfl⟩)
    | fail)
  all_goals
    go_ret
    refine ⟨ret_bool ?_, by (focus repeat (first | exact Below.refl _ _ | assumption | (exact Hid.out (by assumption)) | (with_reducible refine Below.drew ?_) | (with_reducible refine Base.below_drewN ?_ _) | (refine Below.from (below_one _) ?_) | (refine Below.from (below_conv _ _ _) ?_) | (refine Below.setCell ?_ (by simp <;> omega) _) | (refine Below.from (by assumption) ?_)))⟩
    simp [*]
end Go.Proofs.YtdkngidangfkiaaGreatDoor.Cmd
namespace Go.Proofs.YtdkngidangfkiaaGreatDoor.Cmd
open Go.RowKit
open Base
open Lex (Tok tkC tkC_length tokV zT)
open Shape (frB sizeB)
set_option linter.unusedVariables false
set_option linter.unusedSimpArgs false
structure Ctx (u w : World) (B : Nat) : Prop where
  tb : Tb u
  bel : Below u.heap.size u w
  le : u.heap.size ≤ B
section
variable {u w w' : World} {B : Nat}
theorem Ctx.now (h : Ctx u w B) : Tb w := h.tb.later h.bel
theorem Ctx.below (h : Ctx u w B) (hb : Below w.heap.size w w') : Ctx u w' B := ⟨h.tb, hb.from h.bel, h.le⟩
theorem Ctx.grown (h : Ctx u w B) (g : w.grownBy w' (some B)) : Ctx u w' B :=
  ⟨h.tb, h.bel.trans (Base.below_grown g h.bel.size (fun k hk => by injection hk with hk; subst hk; exact h.le)), h.le⟩
end
def RSays (B n : Nat) (v : Value) (o : Bool) (r : List Tok) (w : World) (e : Ending) (w' : World) : Prop :=
  e = .returned (.tuple #[v, .bool o]) ∧ RdAt w' B r n ∧ w.grownBy w' (some B)
theorem box_cell {w w2 : World} {v : Value} {T : TypeId} (hb : Below (w.alloc (.cells #[v] T)).heap.size (w.alloc (.cells #[v] T)) w2) : w2.cell? ⟨w.heap.size, 0, none⟩ = some v :=
  cell_below (by rw [World.cell?_alloc_at _ _ _ _ rfl]; rfl) hb
theorem says_from {B n : Nat} {r : List Tok} {w w2 w3 : World} {o : Obj} (h1 : RdAt w2 B r n) (h2 : (w.alloc o).grownBy w2 (some B)) (h3 : Below w2.heap.size w2 w3) : RdAt w3 B r n ∧ w.grownBy w3 (some B) :=
  ⟨h1.below h3, kp_below (grown_trans (grown_of_below (below_one o) _) h2) h3⟩
set_option maxRecDepth 100000 in
set_option maxHeartbeats 1000000 in
theorem word_any (F : Nat) (caps : Array Value) (q : ByteArray → Bool) (B n : Nat) (l : List Tok) (w : World) (hR : RdAt w B l n)
    (hq : ∀ t, l.head? = some t → ∀ P w2, Below w.heap.size w w2 → w2.cell? ⟨P, 0, none⟩ = some (.func (.func F) #[] caps) →
      Calls Tryz.prog 98 #[tokV t, .pointer (some ⟨P, 0, none⟩)] w2 fun e w3 => e = .returned (.bool (qWord q t)) ∧ Below w2.heap.size w2 w3) :
    Calls Tryz.prog 63 #[.pointer (some ⟨B, 0, none⟩), .func (.func F) #[] caps] w
      fun e w' => RSays B n (.string ((nx (qWord q) l).1.getD zT).2.1) (nx (qWord q) l).1.isSome (nx (qWord q) l).2 w e w' := by
  have c1 := next_word w.heap.size (qWord q) B n l (w.alloc (.cells #[.func (.func F) #[] caps] 41)) (hR.below (below_one _)) (fun t ht w2 hb => hq t ht _ w2 (hb.from (below_one _)) (box_cell hb))
  unfold NextSays at c1
  obtain ⟨T, hT⟩ : ∃ T, T = (nx (qWord q) l).1.getD zT := ⟨_, rfl⟩
  obtain ⟨O, hO⟩ : ∃ O, O = (nx (qWord q) l).1.isSome := ⟨_, rfl⟩
  obtain ⟨r, hr⟩ : ∃ r, r = (nx (qWord q) l).2 := ⟨_, rfl⟩
  rw [← hT, ← hO, ← hr] at c1 ⊢
  clear hT hO hr hq hR
  obtain ⟨tk, ts, tn, ta⟩ := T
  unfold tokV at c1
  dsimp only at c1 ⊢
  have C1 := Lib.hid c1
  clear c1
  go_enter Tryz.func63, Tryz.ntmps63
  go_wp2_with (first
    | (go_at_call 97; (with_reducible refine C1.out.mono ?_); rintro e w2 ⟨rfl, r2, g2⟩; have R2 := Lib.hid r2; have G2 := Lib.hid g2; clear r2 g2)
    | fail)
  refine bodyPost_ret (v := .tuple #[.string ts, .bool O]) (by simp [results, Tryz.results63, go_sem]) rfl ⟨rfl, says_from R2.out G2.out (by (focus repeat (first | exact Below.refl _ _ | assumption | (exact Hid.out (by assumption)) | (with_reducible refine Below.drew ?_) | (with_reducible refine Base.below_drewN ?_ _) | (refine Below.from (below_one _) ?_) | (refine Below.from (below_conv _ _ _) ?_) | (refine Below.setCell ?_ (by simp <;> omega) _) | (refine Below.from (by assumption) ?_))))⟩
set_option maxRecDepth 100000 in
set_option maxHeartbeats 1000000 in
theorem number_any (F : Nat) (caps : Array Value) (q : Int → Bool) (B n : Nat) (l : List Tok) (w : World) (hR : RdAt w B l n)
    (hq : ∀ t, l.head? = some t → ∀ P w2, Below w.heap.size w w2 → w2.cell? ⟨P, 0, none⟩ = some (.func (.func F) #[] caps) →
      Calls Tryz.prog 138 #[tokV t, .pointer (some ⟨P, 0, none⟩)] w2 fun e w3 => e = .returned (.bool (qNum q t)) ∧ Below w2.heap.size w2 w3) :
    Calls Tryz.prog 100 #[.pointer (some ⟨B, 0, none⟩), .func (.func F) #[] caps] w
      fun e w' => RSays B n (.int .i64 ((nx (qNum q) l).1.getD zT).2.2.1) (nx (qNum q) l).1.isSome (nx (qNum q) l).2 w e w' := by
  have c1 := next_number w.heap.size (qNum q) B n l (w.alloc (.cells #[.func (.func F) #[] caps] 100)) (hR.below (below_one _)) (fun t ht w2 hb => hq t ht _ w2 (hb.from (below_one _)) (box_cell hb))
  unfold NextSays at c1
  obtain ⟨T, hT⟩ : ∃ T, T = (nx (qNum q) l).1.getD zT := ⟨_, rfl⟩
  obtain ⟨O, hO⟩ : ∃ O, O = (nx (qNum q) l).1.isSome := ⟨_, rfl⟩
  obtain ⟨r, hr⟩ : ∃ r, r = (nx (qNum q) l).2 := ⟨_, rfl⟩
  rw [← hT, ← hO, ← hr] at c1 ⊢
  clear hT hO hr hq hR
  obtain ⟨tk, ts, tn, ta⟩ := T
  unfold tokV at c1
  dsimp only at c1 ⊢
  have C1 := Lib.hid c1
  clear c1
  go_enter Tryz.func100, Tryz.ntmps100
  go_wp2_with (first
    | (go_at_call 97; (with_reducible refine C1.out.mono ?_); rintro e w2 ⟨rfl, r2, g2⟩; have R2 := Lib.hid r2; have G2 := Lib.hid g2; clear r2 g2)
    | fail)
  refine bodyPost_ret (v := .tuple #[.int .i64 tn, .bool O]) (by simp [results, Tryz.results100, go_sem]) rfl ⟨rfl, says_from R2.out G2.out (by (focus repeat (first | exact Below.refl _ _ | assumption | (exact Hid.out (by assumption)) | (with_reducible refine Below.drew ?_) | (with_reducible refine Base.below_drewN ?_ _) | (refine Below.from (below_one _) ?_) | (refine Below.from (below_conv _ _ _) ?_) | (refine Below.setCell ?_ (by simp <;> omega) _) | (refine Below.from (by assumption) ?_))))⟩
set_option maxRecDepth 100000 in
set_option maxHeartbeats 1000000 in
theorem sign_any (s : ByteArray) (B n : Nat) (l : List Tok) (w : World) (hR : RdAt w B l n) :
    Calls Tryz.prog 104 #[.pointer (some ⟨B, 0, none⟩), .string s] w
      fun e w' => e = .returned (.bool (nx (qSign s) l).1.isSome) ∧ RdAt w' B (nx (qSign s) l).2 n ∧ w.grownBy w' (some B) := by
  have c1 := next_sign w.heap.size (qSign s) B n l (w.alloc (.cells #[.string s] 9)) (hR.below (below_one _)) (fun t ht w2 hb => signc_any t _ s w2 (box_cell hb))
  unfold NextSays at c1
  obtain ⟨T, hT⟩ : ∃ T, T = (nx (qSign s) l).1.getD zT := ⟨_, rfl⟩
  obtain ⟨O, hO⟩ : ∃ O, O = (nx (qSign s) l).1.isSome := ⟨_, rfl⟩
  obtain ⟨r, hr⟩ : ∃ r, r = (nx (qSign s) l).2 := ⟨_, rfl⟩
  rw [← hT, ← hO, ← hr] at c1
  rw [← hO, ← hr]
  clear hT hO hr hR
  obtain ⟨tk, ts, tn, ta⟩ := T
  unfold tokV at c1
  dsimp only at c1
  have C1 := Lib.hid c1
  clear c1
  go_enter Tryz.func104, Tryz.ntmps104
  go_wp2_with (first
    | (go_at_call 97; (with_reducible refine C1.out.mono ?_); rintro e w2 ⟨rfl, r2, g2⟩; have R2 := Lib.hid r2; have G2 := Lib.hid g2; clear r2 g2)
    | fail)
  go_ret
  exact ⟨rfl, says_from R2.out G2.out (by (focus repeat (first | exact Below.refl _ _ | assumption | (exact Hid.out (by assumption)) | (with_reducible refine Below.drew ?_) | (with_reducible refine Base.below_drewN ?_ _) | (refine Below.from (below_one _) ?_) | (refine Below.from (below_conv _ _ _) ?_) | (refine Below.setCell ?_ (by simp <;> omega) _) | (refine Below.from (by assumption) ?_))))⟩
set_option maxRecDepth 100000 in
set_option maxHeartbeats 1000000 in
theorem name_any (B n : Nat) (l : List Tok) (w : World) (hR : RdAt w B l n) (hs : ∀ t ∈ l, t.2.1.size ≤ 1000000) :
    Calls Tryz.prog 99 #[.pointer (some ⟨B, 0, none⟩)] w
      fun e w' => RSays B n (.string ((nx qName l).1.getD zT).2.1) (nx qName l).1.isSome (nx qName l).2 w e w' := by
  have c1 := next_name qName B n l w hR (fun t ht w2 hb => namec_any t (hs t (List.mem_of_mem_head? ht)) w2)
  unfold NextSays at c1
  obtain ⟨T, hT⟩ : ∃ T, T = (nx qName l).1.getD zT := ⟨_, rfl⟩
  obtain ⟨O, hO⟩ : ∃ O, O = (nx qName l).1.isSome := ⟨_, rfl⟩
  obtain ⟨r, hr⟩ : ∃ r, r = (nx qName l).2 := ⟨_, rfl⟩
  rw [← hT, ← hO, ← hr] at c1 ⊢
  clear hT hO hr hR hs
  obtain ⟨tk, ts, tn, ta⟩ := T
  unfold tokV at c1
  dsimp only at c1 ⊢
  have C1 := Lib.hid c1
  clear c1
  go_enter Tryz.func99, Tryz.ntmps99
  go_wp2_with (first
    | (go_at_call 97; (with_reducible refine C1.out.mono ?_); rintro e w2 ⟨rfl, r2, g2⟩; have R2 := Lib.hid r2; have G2 := Lib.hid g2; clear r2 g2)
    | fail)
  refine bodyPost_ret (v := .tuple #[.string ts, .bool O]) (by simp [results, Tryz.results99, go_sem]) rfl ⟨rfl, R2.out.below (by (focus repeat (first | exact Below.refl _ _ | assumption | (exact Hid.out (by assumption)) | (with_reducible refine Below.drew ?_) | (with_reducible refine Base.below_drewN ?_ _) | (refine Below.from (below_one _) ?_) | (refine Below.from (below_conv _ _ _) ?_) | (refine Below.setCell ?_ (by simp <;> omega) _) | (refine Below.from (by assumption) ?_)))), kp_below G2.out (by (focus repeat (first | exact Below.refl _ _ | assumption | (exact Hid.out (by assumption)) | (with_reducible refine Below.drew ?_) | (with_reducible refine Base.below_drewN ?_ _) | (refine Below.from (below_one _) ?_) | (refine Below.from (below_conv _ _ _) ?_) | (refine Below.setCell ?_ (by simp <;> omega) _) | (refine Below.from (by assumption) ?_))))⟩
theorem getD_small {q : Tok → Bool} {l : List Tok} {M : Nat} (hs : ∀ t ∈ l, t.2.1.size ≤ M) : ((nx q l).1.getD zT).2.1.size ≤ M := by
  cases l with
  | nil => exact Nat.zero_le _
  | cons t r =>
    rw [nx]
    split
    · exact hs t (by simp)
    · exact Nat.zero_le _
set_option maxRecDepth 100000 in
set_option maxHeartbeats 1000000 in
theorem length_any (u : World) (B n : Nat) (l : List Tok) (w : World) (hR : RdAt w B l n) (hs : ∀ t ∈ l, t.2.1.size ≤ 1000000) (hC : Ctx u w B) :
    Calls Tryz.prog 143 #[.pointer (some ⟨B, 0, none⟩)] w
      fun e w' => RSays B n (.int .i64 (tkOf ((nx qLen l).1.getD zT))) (nx qLen l).1.isSome (nx qLen l).2 w e w' := by
  have c1 := next_length qLen B n l w hR (fun t ht w2 hb => lenc_any t (hs t (List.mem_of_mem_head? ht)) w2 (hC.now.later hb))
  unfold NextSays at c1
  have hsm := getD_small (q := qLen) hs
  obtain ⟨T, hT⟩ : ∃ T, T = (nx qLen l).1.getD zT := ⟨_, rfl⟩
  obtain ⟨O, hO⟩ : ∃ O, O = (nx qLen l).1.isSome := ⟨_, rfl⟩
  obtain ⟨r, hr⟩ : ∃ r, r = (nx qLen l).2 := ⟨_, rfl⟩
  rw [← hT] at hsm
  have c2 := fun w hT => ticksOf_any T hsm w hT
  rw [← hT, ← hO, ← hr] at c1 ⊢
  have hL : ∀ w', w.grownBy w' (some B) → Tb w' := fun w' g => (hC.grown g).now
  obtain ⟨V, hV⟩ : ∃ V, V = tkOf T := ⟨_, rfl⟩
  rw [← hV] at c2 ⊢
  clear hT hO hr hR hs hV hC
  obtain ⟨tk, ts, tn, ta⟩ := T
  unfold tokV at c1 c2
  dsimp only at c1 c2
  have C1 := Lib.hid c1
  have C2 := Lib.hid c2
  have HL := Lib.hid hL
  clear c1 c2 hL
  go_enter Tryz.func143, Tryz.ntmps143
  go_wp2_with (first
    | (go_at_call 97; (with_reducible refine C1.out.mono ?_); rintro e w2 ⟨rfl, r2, g2⟩; have R2 := Lib.hid r2; have G2 := Lib.hid g2; clear r2 g2)
    | (go_at_call 169; (with_reducible refine (C2.out _ ((HL.out _ G2.out).later (by (focus repeat (first | exact Below.refl _ _ | assumption | (exact Hid.out (by assumption)) | (with_reducible refine Below.drew ?_) | (with_reducible refine Base.below_drewN ?_ _) | (refine Below.from (below_one _) ?_) | (refine Below.from (below_conv _ _ _) ?_) | (refine Below.setCell ?_ (by simp <;> omega) _) | (refine Below.from (by assumption) ?_)))))).mono ?_); rintro e w3 ⟨rfl, p3⟩)
    | fail)
  refine bodyPost_ret (v := .tuple #[.int .i64 V, .bool O]) (by simp [results, Tryz.results143, go_sem]) rfl ⟨rfl, R2.out.below (by (focus repeat (first | exact Below.refl _ _ | assumption | (exact Hid.out (by assumption)) | (with_reducible refine Below.drew ?_) | (with_reducible refine Base.below_drewN ?_ _) | (refine Below.from (below_one _) ?_) | (refine Below.from (below_conv _ _ _) ?_) | (refine Below.setCell ?_ (by simp <;> omega) _) | (refine Below.from (by assumption) ?_)))), kp_below G2.out (by (focus repeat (first | exact Below.refl _ _ | assumption | (exact Hid.out (by assumption)) | (with_reducible refine Below.drew ?_) | (with_reducible refine Base.below_drewN ?_ _) | (refine Below.from (below_one _) ?_) | (refine Below.from (below_conv _ _ _) ?_) | (refine Below.setCell ?_ (by simp <;> omega) _) | (refine Below.from (by assumption) ?_))))⟩
set_option maxHeartbeats 1000000 in
theorem place_any (B n : Nat) (l : List Tok) (w : World) (hR : RdAt w B l n) :
    Calls Tryz.prog 41 #[.pointer (some ⟨B, 0, none⟩)] w fun e w' => e = .returned (.int .i64 (placeR l n)) ∧ w = w' := by
  have hlt := hR.lt
  obtain ⟨ao, cap, h1, h2, h3, h4, h5⟩ := hR
  have c0 : w.cell? ⟨B, 0, none⟩ = some (.slice ao l.length cap) := by simp [World.cell?, h1]
  have c1 : w.cell? ⟨B, 1, none⟩ = some (.int .i64 (n : Int)) := by simp [World.cell?, h1]
  cases l with
  | nil =>
    clear h1 h4 h5 h3
    rw [List.length_nil] at c0
    go_enter Tryz.func41, Tryz.ntmps41
    go_wp2
    go_ret
    exact ⟨rfl, rfl⟩
  | cons t r =>
    obtain ⟨b, off, rfl, hc⟩ := h4.at_ (j := 0) (by simp)
    obtain ⟨tk, ts, tn, ta⟩ := t
    have d3 : w.cell? ⟨b, off + 3, none⟩ = some (.int .i64 ta) := by have := hc 3 (by decide); simpa [tkC] using this
    rw [List.length_cons] at c0
    have hlen0 : (((r.length + 1 : Nat) : Int) == 0) = false := by rw [beq_eq_false_iff_ne]; omega
    have hup : (0 : Int) < ((r.length + 1 : Nat) : Int) := by omega
    obtain ⟨L, hL⟩ : ∃ L, L = r.length + 1 := ⟨_, rfl⟩
    rw [← hL] at c0 hlen0 hup
    clear h1 h2 h3 h4 h5 hc hL
    go_enter Tryz.func41, Tryz.ntmps41
    go_wp2
    go_ret
    exact ⟨rfl, rfl⟩
end Go.Proofs.YtdkngidangfkiaaGreatDoor.Cmd
