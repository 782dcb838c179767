/-
  Joined out of: What all of layer 8's walks ask of the world: the tables of the library, the program's own words; the walks of the small questions.
-/
import Derived.Test.YtdkngidangfkiaaGreatDoorJa11
import Derived.Test.YtdkngidangfkiaaGreatDoorJa12
import Derived.Test.YtdkngidangfkiaaGreatDoorJa01
namespace Go.Proofs.YtdkngidangfkiaaGreatDoor.Cmd
open Go.RowKit
open Base
open Runes (ckE ckN ckE_or)
open Lex (chE tokV)
open Shape (frB sizeB wallB)
set_option linter.unusedVariables false
set_option linter.unusedSimpArgs false
def WordsAt (w : World) (g : Nat) (l : List ByteArray) : Prop := ∀ i, i < l.length → w.cell? ⟨g, i, none⟩ = some (.string (l.getD i nil_))
theorem WordsAt.later {w w' : World} {g : Nat} {l : List ByteArray} (h : WordsAt w g l) (hb : Below w.heap.size w w') : WordsAt w' g l := fun i hi => cell_below (h i hi) hb
structure Tb (w : World) : Prop where
  lex : LexLib.Tb w
  hours : HoursLib.Tb w
  words : WordsAt w 0 verbL
  hows : WordsAt w 1 howL
theorem Tb.later {w w' : World} (h : Tb w) (hb : Below w.heap.size w w') : Tb w' := ⟨h.lex.later hb, h.hours.later hb, h.words.later hb, h.hows.later hb⟩
theorem isFrom_any (n a b : Int) (w : World) :
    Calls Tryz.prog 83 #[.int .i64 n, .int .i64 a, .int .i64 b] w fun e w' => e = .returned (.bool (frB n a b)) ∧ w = w' := by
  go_enter Tryz.func83, Tryz.ntmps83
  go_wp2
  all_goals
    go_ret
    refine ⟨ret_bool ?_, rfl⟩
    unfold frB
    simp [*] <;> omega
theorem isId_any (n : Int) (w : World) : Calls Tryz.prog 51 #[.int .i64 n] w fun e w' => e = .returned (.bool (idB n)) ∧ w = w' := by
  go_enter Tryz.func51, Tryz.ntmps51
  go_wp2_with (first | (go_at_call 83; (with_reducible refine (isFrom_any _ _ _ _).mono ?_); rintro e w' ⟨rfl, rfl⟩) | fail)
  go_ret
  exact ⟨rfl, rfl⟩
theorem isTick_any (n : Int) (w : World) : Calls Tryz.prog 56 #[.int .i64 n] w fun e w' => e = .returned (.bool (tickB n)) ∧ w = w' := by
  go_enter Tryz.func56, Tryz.ntmps56
  go_wp2_with (first | (go_at_call 83; (with_reducible refine (isFrom_any _ _ _ _).mono ?_); rintro e w' ⟨rfl, rfl⟩) | fail)
  go_ret
  exact ⟨rfl, rfl⟩
theorem isLength_any (n : Int) (w : World) : Calls Tryz.prog 85 #[.int .i64 n] w fun e w' => e = .returned (.bool (lenB n)) ∧ w = w' := by
  go_enter Tryz.func85, Tryz.ntmps85
  go_wp2_with (first | (go_at_call 83; (with_reducible refine (isFrom_any _ _ _ _).mono ?_); rintro e w' ⟨rfl, rfl⟩) | fail)
  go_ret
  exact ⟨rfl, rfl⟩
theorem isPrio_any (n : Int) (w : World) : Calls Tryz.prog 84 #[.int .i64 n] w fun e w' => e = .returned (.bool (prB n)) ∧ w = w' := by
  go_enter Tryz.func84, Tryz.ntmps84
  go_wp2_with (first | (go_at_call 83; (with_reducible refine (isFrom_any _ _ _ _).mono ?_); rintro e w' ⟨rfl, rfl⟩) | fail)
  go_ret
  exact ⟨rfl, rfl⟩
theorem isSize_any (n : Int) (w : World) : Calls Tryz.prog 54 #[.int .i64 n] w fun e w' => e = .returned (.bool (sizeB n)) ∧ w = w' := by
  go_enter Tryz.func54, Tryz.ntmps54
  go_wp2_with (first | (go_at_call 83; (with_reducible refine (isFrom_any _ _ _ _).mono ?_); rintro e w' ⟨rfl, rfl⟩) | fail)
  go_ret
  exact ⟨rfl, rfl⟩
theorem isNode_any (n : Int) (w : World) : Calls Tryz.prog 55 #[.int .i64 n] w fun e w' => e = .returned (.bool (nodeB n)) ∧ w = w' := by
  go_enter Tryz.func55, Tryz.ntmps55
  go_wp2_with (first | (go_at_call 83; (with_reducible refine (isFrom_any _ _ _ _).mono ?_); rintro e w' ⟨rfl, rfl⟩) | fail)
  go_ret
  exact ⟨rfl, rfl⟩
theorem isName_any (s : ByteArray) (hs : s.size ≤ 1000000) (w : World) :
    Calls Tryz.prog 80 #[.string s] w fun e w' => e = .returned (.bool (nameB s)) ∧ Below w.heap.size w w' := by
  rcases ckE_or s with hE | hE
  · have c1 := fun w => Runes.check_any s hs w
    simp only [hE] at c1
    have HN : Hid (frB (ckN s : Nat) 1 16 = nameB s) := Lib.hid (by unfold nameB; rw [hE]; simp)
    obtain ⟨b, hb⟩ : ∃ b, b = nameB s := ⟨_, rfl⟩
    rw [← hb] at HN ⊢
    have C1 := Lib.hid c1
    clear c1 hb hE
    go_enter Tryz.func80, Tryz.ntmps80
    go_wp2_with (first
      | (go_at_call 87; (with_reducible refine (C1.out _).mono ?_); rintro e w1 ⟨rfl, p1⟩)
      | (go_at_call 83; (with_reducible refine (isFrom_any _ _ _ _).mono ?_); rintro e w' ⟨rfl, rfl⟩)
      | fail)
    go_ret
    exact ⟨ret_bool HN.out, by (focus repeat (first | exact Below.refl _ _ | assumption | (exact Hid.out (by assumption)) | (with_reducible refine Below.drew ?_) | (with_reducible refine Base.below_drewN ?_ _) | (refine Below.from (below_one _) ?_) | (refine Below.from (below_conv _ _ _) ?_) | (refine Below.setCell ?_ (by simp <;> omega) _) | (refine Below.from (by assumption) ?_)))⟩
  · have c1 := fun w => Runes.check_any s hs w
    simp only [hE] at c1
    have HN : Hid (false = nameB s) := Lib.hid (by unfold nameB; rw [hE]; simp)
    obtain ⟨b, hb⟩ : ∃ b, b = nameB s := ⟨_, rfl⟩
    rw [← hb] at HN ⊢
    have C1 := Lib.hid c1
    clear c1 hb hE
    go_enter Tryz.func80, Tryz.ntmps80
    go_wp2_with (first
      | (go_at_call 87; (with_reducible refine (C1.out _).mono ?_); rintro e w1 ⟨rfl, p1⟩)
      | fail)
    go_ret
    exact ⟨ret_bool HN.out, by (focus repeat (first | exact Below.refl _ _ | assumption | (exact Hid.out (by assumption)) | (with_reducible refine Below.drew ?_) | (with_reducible refine Base.below_drewN ?_ _) | (refine Below.from (below_one _) ?_) | (refine Below.from (below_conv _ _ _) ?_) | (refine Below.setCell ?_ (by simp <;> omega) _) | (refine Below.from (by assumption) ?_)))⟩
theorem isWord_any (s : ByteArray) (hs : s.size ≤ maxLen) (w : World) (hT : Tb w) :
    Calls Tryz.prog 72 #[.string s] w fun e w' => e = .returned (.bool (wordB s)) ∧ Below w.heap.size w w' := by
  have c1 := fun w hT => Lex.lcheck_any 1 s 0 0 hs (by decide) (by decide) w hT
  unfold tokV at c1
  have HT := Lib.hid hT.lex
  have HN : Hid ((chE (1, s, 0, 0) == 0) = wordB s) := Lib.hid (by unfold wordB; rw [Bool.eq_iff_iff]; simp)
  obtain ⟨b, hb⟩ : ∃ b, b = wordB s := ⟨_, rfl⟩
  rw [← hb] at HN ⊢
  have C1 := Lib.hid c1
  clear c1 hb hT
  go_enter Tryz.func72, Tryz.ntmps72
  go_wp2_with (first
    | (go_at_call 111; (with_reducible refine (C1.out _ HT.out).mono ?_); rintro e w1 ⟨rfl, p1⟩)
    | fail)
  go_ret
  exact ⟨ret_bool HN.out, by (focus repeat (first | exact Below.refl _ _ | assumption | (exact Hid.out (by assumption)) | (with_reducible refine Below.drew ?_) | (with_reducible refine Base.below_drewN ?_ _) | (refine Below.from (below_one _) ?_) | (refine Below.from (below_conv _ _ _) ?_) | (refine Below.setCell ?_ (by simp <;> omega) _) | (refine Below.from (by assumption) ?_)))⟩
theorem key_eq (s k : ByteArray) : (s.toList == k.toList) = decide (s = k) := Runes.str_eq s k
theorem key_is (s k : ByteArray) (l : List UInt8) (h : k.data.toList = l) : (s.toList == l) = decide (s = k) := by
  rw [← h, ← Lib.toList_data]; exact key_eq s k
theorem key_user (s : ByteArray) : (s.toList == [117, 115, 101, 114]) = decide (s = kUser) := key_is s kUser _ rfl
theorem key_account (s : ByteArray) : (s.toList == [97, 99, 99, 111, 117, 110, 116]) = decide (s = kAccount) := key_is s kAccount _ rfl
theorem key_any (s : ByteArray) : (s.toList == [97, 110, 121]) = decide (s = kAny) := key_is s kAny _ rfl
theorem key_good (s : ByteArray) : (s.toList == [103, 111, 111, 100]) = decide (s = kGood) := key_is s kGood _ rfl
theorem key_bad (s : ByteArray) : (s.toList == [98, 97, 100]) = decide (s = kBad) := key_is s kBad _ rfl
theorem key_alt (s : ByteArray) : (s.toList == [97, 108, 116]) = decide (s = kAlt) := key_is s kAlt _ rfl
theorem key_range (s : ByteArray) : (s.toList == [114, 97, 110, 103, 101]) = decide (s = kRange) := key_is s kRange _ rfl
theorem key_prio (s : ByteArray) : (s.toList == [112, 114, 105, 111]) = decide (s = kPrio) := key_is s kPrio _ rfl
theorem key_from (s : ByteArray) : (s.toList == [102, 114, 111, 109]) = decide (s = kFrom) := key_is s kFrom _ rfl
theorem key_nodes (s : ByteArray) : (s.toList == [110, 111, 100, 101, 115]) = decide (s = kNodes) := key_is s kNodes _ rfl
theorem key_time (s : ByteArray) : (s.toList == [116, 105, 109, 101]) = decide (s = kTime) := key_is s kTime _ rfl
set_option maxHeartbeats 2000000 in
theorem hasField_any (k : Int) (s : ByteArray) (w : World) :
    Calls Tryz.prog 102 #[.int .i64 k, .string s] w fun e w' => e = .returned (.bool (hasF k s)) ∧ w = w' := by
  go_enter Tryz.func102, Tryz.ntmps102
  go_wp2
  all_goals
    go_ret
    refine ⟨ret_bool ?_, rfl⟩
    simp only [key_user, key_account, key_any, key_good, key_bad, key_alt, key_range, key_prio, key_from, key_nodes, key_time, decide_eq_true_eq, decide_eq_false_iff_not] at *
    first | contradiction | (unfold hasF; simp (decide := true) [*]; done) | (unfold hasF; simp_all (decide := true); done)
set_option maxRecDepth 100000 in
set_option maxHeartbeats 4000000 in
theorem howOf_any (s : ByteArray) (w : World) (hT : Tb w) :
    Calls Tryz.prog 107 #[.string s] w fun e w' => e = .returned (.int .i64 (howN s : Nat)) ∧ w = w' := by
  have h0 := hT.hows 0 (by decide)
  have h1 := hT.hows 1 (by decide)
  have h2 := hT.hows 2 (by decide)
  have h3 := hT.hows 3 (by decide)
  obtain ⟨x0, e0⟩ : ∃ x, x = howL.getD 0 nil_ := ⟨_, rfl⟩
  obtain ⟨x1, e1⟩ : ∃ x, x = howL.getD 1 nil_ := ⟨_, rfl⟩
  obtain ⟨x2, e2⟩ : ∃ x, x = howL.getD 2 nil_ := ⟨_, rfl⟩
  obtain ⟨x3, e3⟩ : ∃ x, x = howL.getD 3 nil_ := ⟨_, rfl⟩
  rw [← e0] at h0
  rw [← e1] at h1
  rw [← e2] at h2
  rw [← e3] at h3
  obtain ⟨H, hH'⟩ : ∃ H, H = howN s := ⟨_, rfl⟩
  have hH : Hid (findN s [x0, x1, x2, x3] 0 = H) := Lib.hid (by rw [hH', e0, e1, e2, e3]; rfl)
  rw [← hH']
  clear hT hH' e0 e1 e2 e3
  go_enter Tryz.func107, Tryz.ntmps107
  go_wp2
  go_loopw [6] (fun i wr => ∃ k : Int, i = .int .i64 k ∧ 0 ≤ k ∧ k ≤ 4 ∧ findN s (List.drop k.toNat [x0, x1, x2, x3]) k.toNat = H ∧ w = wr) (fun i _ => 4 - (intOf i).toNat)
  case atStart => exact ⟨0, rfl, by decide, by decide, hH.out, rfl⟩
  case round =>
    obtain ⟨k, rfl, hk0, hk, hs, rfl⟩ := hrel
    have hks : k = 0 ∨ k = 1 ∨ k = 2 ∨ k = 3 ∨ k = 4 := by omega
    rcases hks with rfl | rfl | rfl | rfl | rfl
    · have hs : (if x0 = s then 0 else findN s (List.drop 1 [x0, x1, x2, x3]) 1) = H := hs
      have ix : ∀ w, (Instr.index 85 (.agg #[.string x0, .string x1, .string x2, .string x3]) (.int .i64 0)).run Tryz.prog w = .ok (.string x0) w := fun _ => by kernel_rfl
      by_cases hx : x0 = s
      · have t := (key_eq x0 s).trans (decide_eq_true hx)
        rw [if_pos hx] at hs
        have HS := Lib.hid hs
        clear hs hx
        go_wp2
        go_ret
        exact ⟨ret_int (by rw [← HS.out]; rfl), rfl⟩
      · have t := (key_eq x0 s).trans (decide_eq_false hx)
        rw [if_neg hx] at hs
        have HS := Lib.hid hs
        clear hs hx
        go_wp2
        exact ⟨⟨1, rfl, by decide, by decide, HS.out, by first | rfl | trivial⟩, by decide⟩
    · have hs : (if x1 = s then 1 else findN s (List.drop 2 [x0, x1, x2, x3]) 2) = H := hs
      have ix : ∀ w, (Instr.index 85 (.agg #[.string x0, .string x1, .string x2, .string x3]) (.int .i64 1)).run Tryz.prog w = .ok (.string x1) w := fun _ => by kernel_rfl
      by_cases hx : x1 = s
      · have t := (key_eq x1 s).trans (decide_eq_true hx)
        rw [if_pos hx] at hs
        have HS := Lib.hid hs
        clear hs hx
        go_wp2
        go_ret
        exact ⟨ret_int (by rw [← HS.out]; rfl), rfl⟩
      · have t := (key_eq x1 s).trans (decide_eq_false hx)
        rw [if_neg hx] at hs
        have HS := Lib.hid hs
        clear hs hx
        go_wp2
        exact ⟨⟨2, rfl, by decide, by decide, HS.out, by first | rfl | trivial⟩, by decide⟩
    · have hs : (if x2 = s then 2 else findN s (List.drop 3 [x0, x1, x2, x3]) 3) = H := hs
      have ix : ∀ w, (Instr.index 85 (.agg #[.string x0, .string x1, .string x2, .string x3]) (.int .i64 2)).run Tryz.prog w = .ok (.string x2) w := fun _ => by kernel_rfl
      by_cases hx : x2 = s
      · have t := (key_eq x2 s).trans (decide_eq_true hx)
        rw [if_pos hx] at hs
        have HS := Lib.hid hs
        clear hs hx
        go_wp2
        go_ret
        exact ⟨ret_int (by rw [← HS.out]; rfl), rfl⟩
      · have t := (key_eq x2 s).trans (decide_eq_false hx)
        rw [if_neg hx] at hs
        have HS := Lib.hid hs
        clear hs hx
        go_wp2
        exact ⟨⟨3, rfl, by decide, by decide, HS.out, by first | rfl | trivial⟩, by decide⟩
    · have hs : (if x3 = s then 3 else findN s (List.drop 4 [x0, x1, x2, x3]) 4) = H := hs
      have ix : ∀ w, (Instr.index 85 (.agg #[.string x0, .string x1, .string x2, .string x3]) (.int .i64 3)).run Tryz.prog w = .ok (.string x3) w := fun _ => by kernel_rfl
      by_cases hx : x3 = s
      · have t := (key_eq x3 s).trans (decide_eq_true hx)
        rw [if_pos hx] at hs
        have HS := Lib.hid hs
        clear hs hx
        go_wp2
        go_ret
        exact ⟨ret_int (by rw [← HS.out]; rfl), rfl⟩
      · have t := (key_eq x3 s).trans (decide_eq_false hx)
        rw [if_neg hx] at hs
        have HS := Lib.hid hs
        clear hs hx
        go_wp2
        exact ⟨⟨4, rfl, by decide, by decide, HS.out, by first | rfl | trivial⟩, by decide⟩
    · have HS : Hid ((0 : Nat) = H) := Lib.hid hs
      clear hs
      go_wp2
      go_ret
      exact ⟨ret_int (by rw [← HS.out]; rfl), rfl⟩
set_option maxRecDepth 100000 in
set_option maxHeartbeats 4000000 in
theorem kindOf_any (s : ByteArray) (w : World) (hT : Tb w) :
    Calls Tryz.prog 65 #[.string s] w fun e w' => e = .returned (.int .i64 (kindN s : Nat)) ∧ w = w' := by
  have h0 := hT.words 0 (by decide)
  have h1 := hT.words 1 (by decide)
  have h2 := hT.words 2 (by decide)
  have h3 := hT.words 3 (by decide)
  have h4 := hT.words 4 (by decide)
  have h5 := hT.words 5 (by decide)
  have h6 := hT.words 6 (by decide)
  have h7 := hT.words 7 (by decide)
  have h8 := hT.words 8 (by decide)
  have h9 := hT.words 9 (by decide)
  have h10 := hT.words 10 (by decide)
  have h11 := hT.words 11 (by decide)
  have h12 := hT.words 12 (by decide)
  obtain ⟨x0, e0⟩ : ∃ x, x = verbL.getD 0 nil_ := ⟨_, rfl⟩
  obtain ⟨x1, e1⟩ : ∃ x, x = verbL.getD 1 nil_ := ⟨_, rfl⟩
  obtain ⟨x2, e2⟩ : ∃ x, x = verbL.getD 2 nil_ := ⟨_, rfl⟩
  obtain ⟨x3, e3⟩ : ∃ x, x = verbL.getD 3 nil_ := ⟨_, rfl⟩
  obtain ⟨x4, e4⟩ : ∃ x, x = verbL.getD 4 nil_ := ⟨_, rfl⟩
  obtain ⟨x5, e5⟩ : ∃ x, x = verbL.getD 5 nil_ := ⟨_, rfl⟩
  obtain ⟨x6, e6⟩ : ∃ x, x = verbL.getD 6 nil_ := ⟨_, rfl⟩
  obtain ⟨x7, e7⟩ : ∃ x, x = verbL.getD 7 nil_ := ⟨_, rfl⟩
  obtain ⟨x8, e8⟩ : ∃ x, x = verbL.getD 8 nil_ := ⟨_, rfl⟩
  obtain ⟨x9, e9⟩ : ∃ x, x = verbL.getD 9 nil_ := ⟨_, rfl⟩
  obtain ⟨x10, e10⟩ : ∃ x, x = verbL.getD 10 nil_ := ⟨_, rfl⟩
  obtain ⟨x11, e11⟩ : ∃ x, x = verbL.getD 11 nil_ := ⟨_, rfl⟩
  obtain ⟨x12, e12⟩ : ∃ x, x = verbL.getD 12 nil_ := ⟨_, rfl⟩
  rw [← e0] at h0
  rw [← e1] at h1
  rw [← e2] at h2
  rw [← e3] at h3
  rw [← e4] at h4
  rw [← e5] at h5
  rw [← e6] at h6
  rw [← e7] at h7
  rw [← e8] at h8
  rw [← e9] at h9
  rw [← e10] at h10
  rw [← e11] at h11
  rw [← e12] at h12
  obtain ⟨H, hH'⟩ : ∃ H, H = kindN s := ⟨_, rfl⟩
  have hH : Hid (findN s [x0, x1, x2, x3, x4, x5, x6, x7, x8, x9, x10, x11, x12] 0 = H) := Lib.hid (by rw [hH', e0, e1, e2, e3, e4, e5, e6, e7, e8, e9, e10, e11, e12]; rfl)
  rw [← hH']
  clear hT hH' e0 e1 e2 e3 e4 e5 e6 e7 e8 e9 e10 e11 e12
  go_enter Tryz.func65, Tryz.ntmps65
  go_wp2
  go_loopw [6] (fun i wr => ∃ k : Int, i = .int .i64 k ∧ 0 ≤ k ∧ k ≤ 13 ∧ findN s (List.drop k.toNat [x0, x1, x2, x3, x4, x5, x6, x7, x8, x9, x10, x11, x12]) k.toNat = H ∧ w = wr) (fun i _ => 13 - (intOf i).toNat)
  case atStart => exact ⟨0, rfl, by decide, by decide, hH.out, rfl⟩
  case round =>
    obtain ⟨k, rfl, hk0, hk, hs, rfl⟩ := hrel
    have hks : k = 0 ∨ k = 1 ∨ k = 2 ∨ k = 3 ∨ k = 4 ∨ k = 5 ∨ k = 6 ∨ k = 7 ∨ k = 8 ∨ k = 9 ∨ k = 10 ∨ k = 11 ∨ k = 12 ∨ k = 13 := by omega
    rcases hks with rfl | rfl | rfl | rfl | rfl | rfl | rfl | rfl | rfl | rfl | rfl | rfl | rfl | rfl
    · have hs : (if x0 = s then 0 else findN s (List.drop 1 [x0, x1, x2, x3, x4, x5, x6, x7, x8, x9, x10, x11, x12]) 1) = H := hs
      have ix : ∀ w, (Instr.index 80 (.agg #[.string x0, .string x1, .string x2, .string x3, .string x4, .string x5, .string x6, .string x7, .string x8, .string x9, .string x10, .string x11, .string x12]) (.int .i64 0)).run Tryz.prog w = .ok (.string x0) w := fun _ => by kernel_rfl
      by_cases hx : x0 = s
      · have t := (key_eq x0 s).trans (decide_eq_true hx)
        rw [if_pos hx] at hs
        have HS := Lib.hid hs
        clear hs hx
        go_wp2
        go_ret
        exact ⟨ret_int (by rw [← HS.out]; rfl), rfl⟩
      · have t := (key_eq x0 s).trans (decide_eq_false hx)
        rw [if_neg hx] at hs
        have HS := Lib.hid hs
        clear hs hx
        go_wp2
        exact ⟨⟨1, rfl, by decide, by decide, HS.out, by first | rfl | trivial⟩, by decide⟩
    · have hs : (if x1 = s then 1 else findN s (List.drop 2 [x0, x1, x2, x3, x4, x5, x6, x7, x8, x9, x10, x11, x12]) 2) = H := hs
      have ix : ∀ w, (Instr.index 80 (.agg #[.string x0, .string x1, .string x2, .string x3, .string x4, .string x5, .string x6, .string x7, .string x8, .string x9, .string x10, .string x11, .string x12]) (.int .i64 1)).run Tryz.prog w = .ok (.string x1) w := fun _ => by kernel_rfl
      by_cases hx : x1 = s
      · have t := (key_eq x1 s).trans (decide_eq_true hx)
        rw [if_pos hx] at hs
        have HS := Lib.hid hs
        clear hs hx
        go_wp2
        go_ret
        exact ⟨ret_int (by rw [← HS.out]; rfl), rfl⟩
      · have t := (key_eq x1 s).trans (decide_eq_false hx)
        rw [if_neg hx] at hs
        have HS := Lib.hid hs
        clear hs hx
        go_wp2
        exact ⟨⟨2, rfl, by decide, by decide, HS.out, by first | rfl | trivial⟩, by decide⟩
    · have hs : (if x2 = s then 2 else findN s (List.drop 3 [x0, x1, x2, x3, x4, x5, x6, x7, x8, x9, x10, x11, x12]) 3) = H := hs
      have ix : ∀ w, (Instr.index 80 (.agg #[.string x0, .string x1, .string x2, .string x3, .string x4, .string x5, .string x6, .string x7, .string x8, .string x9, .string x10, .string x11, .string x12]) (.int .i64 2)).run Tryz.prog w = .ok (.string x2) w := fun _ => by kernel_rfl
      by_cases hx : x2 = s
      · have t := (key_eq x2 s).trans (decide_eq_true hx)
        rw [if_pos hx] at hs
        have HS := Lib.hid hs
        clear hs hx
        go_wp2
        go_ret
        exact ⟨ret_int (by rw [← HS.out]; rfl), rfl⟩
      · have t := (key_eq x2 s).trans (decide_eq_false hx)
        rw [if_neg hx] at hs
        have HS := Lib.hid hs
        clear hs hx
        go_wp2
        exact ⟨⟨3, rfl, by decide, by decide, HS.out, by first | rfl | trivial⟩, by decide⟩
    · have hs : (if x3 = s then 3 else findN s (List.drop 4 [x0, x1, x2, x3, x4, x5, x6, x7, x8, x9, x10, x11, x12]) 4) = H := hs
      have ix : ∀ w, (Instr.index 80 (.agg #[.string x0, .string x1, .string x2, .string x3, .string x4, .string x5, .string x6, .string x7, .string x8, .string x9, .string x10, .string x11, .string x12]) (.int .i64 3)).run Tryz.prog w = .ok (.string x3) w := fun _ => by kernel_rfl
      by_cases hx : x3 = s
      · have t := (key_eq x3 s).trans (decide_eq_true hx)
        rw [if_pos hx] at hs
        have HS := Lib.hid hs
        clear hs hx
        go_wp2
        go_ret
        exact ⟨ret_int (by rw [← HS.out]; rfl), rfl⟩
      · have t := (key_eq x3 s).trans (decide_eq_false hx)
        rw [if_neg hx] at hs
        have HS := Lib.hid hs
        clear hs hx
        go_wp2
        exact ⟨⟨4, rfl, by decide, by decide, HS.out, by first | rfl | trivial⟩, by decide⟩
    · have hs : (if x4 = s then 4 else findN s (List.drop 5 [x0, x1, x2, x3, x4, x5, x6, x7, x8, x9, x10, x11, x12]) 5) = H := hs
      have ix : ∀ w, (Instr.index 80 (.agg #[.string x0, .string x1, .string x2, .string x3, .string x4, .string x5, .string x6, .string x7, .string x8, .string x9, .string x10, .string x11, .string x12]) (.int .i64 4)).run Tryz.prog w = .ok (.string x4) w := fun _ => by kernel_rfl
      by_cases hx : x4 = s
      · have t := (key_eq x4 s).trans (decide_eq_true hx)
        rw [if_pos hx] at hs
        have HS := Lib.hid hs
        clear hs hx
        go_wp2
        go_ret
        exact ⟨ret_int (by rw [← HS.out]; rfl), rfl⟩
      · have t := (key_eq x4 s).trans (decide_eq_false hx)
        rw [if_neg hx] at hs
        have HS := Lib.hid hs
        clear hs hx
        go_wp2
        exact ⟨⟨5, rfl, by decide, by decide, HS.out, by first | rfl | trivial⟩, by decide⟩
    · have hs : (if x5 = s then 5 else findN s (List.drop 6 [x0, x1, x2, x3, x4, x5, x6, x7, x8, x9, x10, x11, x12]) 6) = H := hs
      have ix : ∀ w, (Instr.index 80 (.agg #[.string x0, .string x1, .string x2, .string x3, .string x4, .string x5, .string x6, .string x7, .string x8, .string x9, .string x10, .string x11, .string x12]) (.int .i64 5)).run Tryz.prog w = .ok (.string x5) w := fun _ => by kernel_rfl
      by_cases hx : x5 = s
      · have t := (key_eq x5 s).trans (decide_eq_true hx)
        rw [if_pos hx] at hs
        have HS := Lib.hid hs
        clear hs hx
        go_wp2
        go_ret
        exact ⟨ret_int (by rw [← HS.out]; rfl), rfl⟩
      · have t := (key_eq x5 s).trans (decide_eq_false hx)
        rw [if_neg hx] at hs
        have HS := Lib.hid hs
        clear hs hx
        go_wp2
        exact ⟨⟨6, rfl, by decide, by decide, HS.out, by first | rfl | trivial⟩, by decide⟩
    · have hs : (if x6 = s then 6 else findN s (List.drop 7 [x0, x1, x2, x3, x4, x5, x6, x7, x8, x9, x10, x11, x12]) 7) = H := hs
      have ix : ∀ w, (Instr.index 80 (.agg #[.string x0, .string x1, .string x2, .string x3, .string x4, .string x5, .string x6, .string x7, .string x8, .string x9, .string x10, .string x11, .string x12]) (.int .i64 6)).run Tryz.prog w = .ok (.string x6) w := fun _ => by kernel_rfl
      by_cases hx : x6 = s
      · have t := (key_eq x6 s).trans (decide_eq_true hx)
        rw [if_pos hx] at hs
        have HS := Lib.hid hs
        clear hs hx
        go_wp2
        go_ret
        exact ⟨ret_int (by rw [← HS.out]; rfl), rfl⟩
      · have t := (key_eq x6 s).trans (decide_eq_false hx)
        rw [if_neg hx] at hs
        have HS := Lib.hid hs
        clear hs hx
        go_wp2
        exact ⟨⟨7, rfl, by decide, by decide, HS.out, by first | rfl | trivial⟩, by decide⟩
    · have hs : (if x7 = s then 7 else findN s (List.drop 8 [x0, x1, x2, x3, x4, x5, x6, x7, x8, x9, x10, x11, x12]) 8) = H := hs
      have ix : ∀ w, (Instr.index 80 (.agg #[.string x0, .string x1, .string x2, .string x3, .string x4, .string x5, .string x6, .string x7, .string x8, .string x9, .string x10, .string x11, .string x12]) (.int .i64 7)).run Tryz.prog w = .ok (.string x7) w := fun _ => by kernel_rfl
      by_cases hx : x7 = s
      · have t := (key_eq x7 s).trans (decide_eq_true hx)
        rw [if_pos hx] at hs
        have HS := Lib.hid hs
        clear hs hx
        go_wp2
        go_ret
        exact ⟨ret_int (by rw [← HS.out]; rfl), rfl⟩
      · have t := (key_eq x7 s).trans (decide_eq_false hx)
        rw [if_neg hx] at hs
        have HS := Lib.hid hs
        clear hs hx
        go_wp2
        exact ⟨⟨8, rfl, by decide, by decide, HS.out, by first | rfl | trivial⟩, by decide⟩
    · have hs : (if x8 = s then 8 else findN s (List.drop 9 [x0, x1, x2, x3, x4, x5, x6, x7, x8, x9, x10, x11, x12]) 9) = H := hs
      have ix : ∀ w, (Instr.index 80 (.agg #[.string x0, .string x1, .string x2, .string x3, .string x4, .string x5, .string x6, .string x7, .string x8, .string x9, .string x10, .string x11, .string x12]) (.int .i64 8)).run Tryz.prog w = .ok (.string x8) w := fun _ => by kernel_rfl
      by_cases hx : x8 = s
      · have t := (key_eq x8 s).trans (decide_eq_true hx)
        rw [if_pos hx] at hs
        have HS := Lib.hid hs
        clear hs hx
        go_wp2
        go_ret
        exact ⟨ret_int (by rw [← HS.out]; rfl), rfl⟩
      · have t := (key_eq x8 s).trans (decide_eq_false hx)
        rw [if_neg hx] at hs
        have HS := Lib.hid hs
        clear hs hx
        go_wp2
        exact ⟨⟨9, rfl, by decide, by decide, HS.out, by first | rfl | trivial⟩, by decide⟩
    · have hs : (if x9 = s then 9 else findN s (List.drop 10 [x0, x1, x2, x3, x4, x5, x6, x7, x8, x9, x10, x11, x12]) 10) = H := hs
      have ix : ∀ w, (Instr.index 80 (.agg #[.string x0, .string x1, .string x2, .string x3, .string x4, .string x5, .string x6, .string x7, .string x8, .string x9, .string x10, .string x11, .string x12]) (.int .i64 9)).run Tryz.prog w = .ok (.string x9) w := fun _ => by kernel_rfl
      by_cases hx : x9 = s
      · have t := (key_eq x9 s).trans (decide_eq_true hx)
        rw [if_pos hx] at hs
        have HS := Lib.hid hs
        clear hs hx
        go_wp2
        go_ret
        exact ⟨ret_int (by rw [← HS.out]; rfl), rfl⟩
      · have t := (key_eq x9 s).trans (decide_eq_false hx)
        rw [if_neg hx] at hs
        have HS := Lib.hid hs
        clear hs hx
        go_wp2
        exact ⟨⟨10, rfl, by decide, by decide, HS.out, by first | rfl | trivial⟩, by decide⟩
    · have hs : (if x10 = s then 10 else findN s (List.drop 11 [x0, x1, x2, x3, x4, x5, x6, x7, x8, x9, x10, x11, x12]) 11) = H := hs
      have ix : ∀ w, (Instr.index 80 (.agg #[.string x0, .string x1, .string x2, .string x3, .string x4, .string x5, .string x6, .string x7, .string x8, .string x9, .string x10, .string x11, .string x12]) (.int .i64 10)).run Tryz.prog w = .ok (.string x10) w := fun _ => by kernel_rfl
      by_cases hx : x10 = s
      · have t := (key_eq x10 s).trans (decide_eq_true hx)
        rw [if_pos hx] at hs
        have HS := Lib.hid hs
        clear hs hx
        go_wp2
        go_ret
        exact ⟨ret_int (by rw [← HS.out]; rfl), rfl⟩
      · have t := (key_eq x10 s).trans (decide_eq_false hx)
        rw [if_neg hx] at hs
        have HS := Lib.hid hs
        clear hs hx
        go_wp2
        exact ⟨⟨11, rfl, by decide, by decide, HS.out, by first | rfl | trivial⟩, by decide⟩
    · have hs : (if x11 = s then 11 else findN s (List.drop 12 [x0, x1, x2, x3, x4, x5, x6, x7, x8, x9, x10, x11, x12]) 12) = H := hs
      have ix : ∀ w, (Instr.index 80 (.agg #[.string x0, .string x1, .string x2, .string x3, .string x4, .string x5, .string x6, .string x7, .string x8, .string x9, .string x10, .string x11, .string x12]) (.int .i64 11)).run Tryz.prog w = .ok (.string x11) w := fun _ => by kernel_rfl
      by_cases hx : x11 = s
      · have t := (key_eq x11 s).trans (decide_eq_true hx)
        rw [if_pos hx] at hs
        have HS := Lib.hid hs
        clear hs hx
        go_wp2
        go_ret
        exact ⟨ret_int (by rw [← HS.out]; rfl), rfl⟩
      · have t := (key_eq x11 s).trans (decide_eq_false hx)
        rw [if_neg hx] at hs
        have HS := Lib.hid hs
        clear hs hx
        go_wp2
        exact ⟨⟨12, rfl, by decide, by decide, HS.out, by first | rfl | trivial⟩, by decide⟩
    · have hs : (if x12 = s then 12 else findN s (List.drop 13 [x0, x1, x2, x3, x4, x5, x6, x7, x8, x9, x10, x11, x12]) 13) = H := hs
      have ix : ∀ w, (Instr.index 80 (.agg #[.string x0, .string x1, .string x2, .string x3, .string x4, .string x5, .string x6, .string x7, .string x8, .string x9, .string x10, .string x11, .string x12]) (.int .i64 12)).run Tryz.prog w = .ok (.string x12) w := fun _ => by kernel_rfl
      by_cases hx : x12 = s
      · have t := (key_eq x12 s).trans (decide_eq_true hx)
        rw [if_pos hx] at hs
        have HS := Lib.hid hs
        clear hs hx
        go_wp2
        go_ret
        exact ⟨ret_int (by rw [← HS.out]; rfl), rfl⟩
      · have t := (key_eq x12 s).trans (decide_eq_false hx)
        rw [if_neg hx] at hs
        have HS := Lib.hid hs
        clear hs hx
        go_wp2
        exact ⟨⟨13, rfl, by decide, by decide, HS.out, by first | rfl | trivial⟩, by decide⟩
    · have HS : Hid ((0 : Nat) = H) := Lib.hid hs
      clear hs
      go_wp2
      go_ret
      exact ⟨ret_int (by rw [← HS.out]; rfl), rfl⟩
end Go.Proofs.YtdkngidangfkiaaGreatDoor.Cmd
