/-
  The walk of the program's Add.
-/
import Derived.Test.YtoiahlbaiakngaaProfAdd
namespace Go.Proofs.Ytoiahlbaiakngaa.Prof
open Go.RowKit
open Base
set_option linter.unusedVariables false
set_option linter.unusedSimpArgs false

theorem readsPt_three {w : World} {n : Nat} (hn : n = w.heap.size) (x y z : Pt) (t : TypeId) :
    ReadsS 3 ptC (w.alloc (.cells #[.int .i64 x.1, .int .i64 x.2.1, .int .i64 x.2.2, .int .i64 y.1, .int .i64 y.2.1, .int .i64 y.2.2, .int .i64 z.1, .int .i64 z.2.1, .int .i64 z.2.2] t)) (some ⟨n, 0, none⟩) [x, y, z] := by
  refine .inr ⟨n, 0, rfl, fun j hj i hi => ?_⟩
  rw [World.cell?_alloc_at _ _ _ _ hn]
  have hj3 : j < 3 := by simpa using hj
  match j, hj3, i, hi with
  | 0, _, 0, _ => rfl
  | 0, _, 1, _ => rfl
  | 0, _, 2, _ => rfl
  | 1, _, 0, _ => rfl
  | 1, _, 1, _ => rfl
  | 1, _, 2, _ => rfl
  | 2, _, 0, _ => rfl
  | 2, _, 1, _ => rfl
  | 2, _, 2, _ => rfl

theorem ret_pair {u v x y : Value} (h1 : u = x) (h2 : v = y) : Ending.returned (.tuple #[u, v]) = .returned (.tuple #[x, y]) := by rw [h1, h2]

/-- What Add gives. -/
def AddSays (w : World) (R : List St × Int) (e : Ending) (w' : World) : Prop :=
  ∃ ao cap, e = .returned (.tuple #[.slice ao R.1.length cap, .int .i64 R.2]) ∧ ReadsS 2 stC w' ao R.1 ∧ (ao = none → cap = 0) ∧ R.1.length ≤ cap ∧ cap ≤ maxLen ∧ Below w.heap.size w w'
theorem AddSays.nil {w w' : World} {R : List St × Int} {E : Int} (h : R = ([], E)) (hb : Below w.heap.size w w') : AddSays w R (.returned (.tuple #[.slice none 0 0, .int .i64 E])) w' := by
  subst h
  exact ⟨none, 0, rfl, .inl rfl, fun _ => rfl, Nat.le_refl _, Nat.zero_le _, hb⟩

set_option maxRecDepth 100000 in
set_option maxHeartbeats 4000000 in
/-- **Add**. -/
theorem add_any (ao : Option Addr) (len cap : Nat) (p : List St) (a b n : Int) (w : World) (hlen : p.length = len) (hlc : len ≤ cap) (hcap : cap ≤ maxLen) (hr : ReadsS 2 stC w ao p) :
    Calls Try.prog 19 #[.slice ao len cap, .int .i64 a, .int .i64 b, .int .i64 n] w fun e w' => AddSays w (addR p a b n) e w' := by
  subst hlen
  have cC := check_any ao p.length cap p w rfl (by omega) hr
  have cT := fun w => isTick_any a w
  have cF := fun w => isFree_any n w
  have ht := tickB_iff a
  have hf := freeB_iff n
  by_cases hp : Prof p
  · rw [chkE_0 hp] at cC
    have CC := Lib.hid cC
    cases h1 : tickB a with
    | false =>
      have HR := Lib.hid (addR_bad (n := n) (b := b) hp (fun h => by rw [ht.2 ⟨h.1, h.2.1⟩] at h1; cases h1))
      rw [h1] at cT
      have CT := Lib.hid cT
      clear cC cT cF ht hf h1 hp hr
      go_enter Try.func19, Try.ntmps19
      go_wp2_with (first
        | (go_at_call 10; (with_reducible refine (CC.out).mono ?_); rintro e w1 ⟨rfl, p1⟩)
        | (go_at_call 24; (with_reducible refine (CT.out _).mono ?_); rintro e w1 ⟨rfl, rfl⟩)
        | fail)
      go_ret2
      exact AddSays.nil HR.out p1
    | true =>
      have h1' := ht.1 h1
      rw [h1] at cT
      have CT := Lib.hid cT
      by_cases h2 : b < a
      · have t2 : decide (b < a) = true := decide_eq_true h2
        have HR := Lib.hid (addR_bad (a := a) (n := n) (b := b) hp (fun h => by omega))
        clear cC cT cF ht hf h1 hp hr h1' h2
        go_enter Try.func19, Try.ntmps19
        go_wp2_with (first
          | (go_at_call 10; (with_reducible refine (CC.out).mono ?_); rintro e w1 ⟨rfl, p1⟩)
          | (go_at_call 24; (with_reducible refine (CT.out _).mono ?_); rintro e w1 ⟨rfl, rfl⟩)
          | fail)
        go_ret2
        exact AddSays.nil HR.out p1
      have t2 : decide (b < a) = false := decide_eq_false h2
      cases h3 : freeB n with
      | false =>
        have HR := Lib.hid (addR_bad (a := a) (n := n) (b := b) hp (fun h => by rw [hf.2 ⟨h.2.2.2.1, h.2.2.2.2⟩] at h3; cases h3))
        rw [h3] at cF
        have CF := Lib.hid cF
        clear cC cT cF ht hf h1 h3 hp hr h1' h2
        go_enter Try.func19, Try.ntmps19
        go_wp2_with (first
          | (go_at_call 10; (with_reducible refine (CC.out).mono ?_); rintro e w1 ⟨rfl, p1⟩)
          | (go_at_call 24; (with_reducible refine (CT.out _).mono ?_); rintro e w1 ⟨rfl, rfl⟩)
          | (go_at_call 27; (with_reducible refine (CF.out _).mono ?_); rintro e w1 ⟨rfl, rfl⟩)
          | fail)
        go_ret2
        exact AddSays.nil HR.out p1
      | true =>
        have h3' := hf.1 h3
        rw [h3] at cF
        have CF := Lib.hid cF
        have hnb : ¬ badA a b n := fun h => h ⟨h1'.1, h1'.2, by omega, h3'.1, h3'.2⟩
        have cA := fun (w2 : World) (hb : Below w.heap.size w w2) (a2 : Option Addr) (hx : ReadsS 3 ptC w2 a2 (parts a b n)) => added_any ao p.length cap p a2 3 (parts a b n) w2 rfl hp (hr.below stC_length hb) rfl (fun x hx => by
          unfold parts at hx
          simp only [List.mem_cons, List.not_mem_nil, or_false] at hx
          rcases hx with rfl | rfl | rfl <;> simp <;> omega) hx
        have hPA : ∀ (w2 : World) (t : TypeId), ReadsS 3 ptC (w2.alloc (.cells #[.int .i64 0, .int .i64 a, .int .i64 0, .int .i64 a, .int .i64 b, .int .i64 n, .int .i64 b, .int .i64 1000001, .int .i64 0] t)) (some ⟨w2.heap.size, 0, none⟩) (parts a b n) := fun w2 t => readsPt_three rfl (0, a, 0) (a, b, n) (b, 1000001, 0) t
        have HPA := Lib.hid hPA
        have hA : adds (parts a b n) p [] = addL p a b n := rfl
        rw [hA] at cA
        have HOK := Lib.hid (addR_ok hp hnb)
        have HBIG := Lib.hid (addR_big hp hnb)
        have HR2 : Hid (∀ R, addR p a b n = R → ∀ e w', AddSays w R e w' → AddSays w (addR p a b n) e w') := Lib.hid (fun R h e w' k => by rw [h]; exact k)
        have CA := Lib.hid cA
        generalize addL p a b n = Q at HOK HBIG CA
        clear cC cT cF cA ht hf h1 h3 hp hr h1' h3' h2 hnb hA hPA
        by_cases hq : Prof Q
        · have cC2 := fun (ao2 : Option Addr) (c2 : Nat) (w2 : World) (hr2 : ReadsS 2 stC w2 ao2 Q) => check_any ao2 Q.length c2 Q w2 rfl (by have := hq.1.2.1; unfold maxLen; omega) hr2
          rw [chkE_0 hq] at cC2
          have HRR := Lib.hid (HOK.out hq)
          have CC2 := Lib.hid cC2
          clear HOK HBIG cC2 hq
          go_enter Try.func19, Try.ntmps19
          go_wp2_with (first
            | (go_at_call 10; (with_reducible refine (CC.out).mono ?_); rintro e w1 ⟨rfl, p1⟩)
            | (go_at_call 24; (with_reducible refine (CT.out _).mono ?_); rintro e w1 ⟨rfl, rfl⟩)
            | (go_at_call 27; (with_reducible refine (CF.out _).mono ?_); rintro e w1 ⟨rfl, rfl⟩)
            | (go_at_call 28; (with_reducible refine (CA.out _ (p1.trans ((below_one _).mono p1.size)) _ (HPA.out _ _)).mono ?_); rintro e w3 ⟨v, rfl, o3, p3⟩; obtain ⟨ao3, cap3, rfl, r3, n3, l3, m3⟩ := o3.value stC_length; have R3 := Lib.hid r3; have P3 := Lib.hid (p3.from (p1.trans ((below_one _).mono p1.size))); clear r3 o3 p3)
            | (go_at_call 10; (with_reducible refine (CC2.out _ _ _ R3.out).mono ?_); rintro e w4 ⟨rfl, p4⟩; have P4 := Lib.hid p4; clear p4)
            | fail)
          go_ret2
          exact HR2.out _ HRR.out _ _ ⟨ao3, cap3, rfl, R3.out.below stC_length P4.out, n3, l3, m3, P4.out.from P3.out⟩
        · have cC2 := fun (ao2 : Option Addr) (c2 : Nat) (w2 : World) (hl2 : Q.length ≤ maxLen) (hr2 : ReadsS 2 stC w2 ao2 Q) => check_any ao2 Q.length c2 Q w2 rfl hl2 hr2
          rw [chkE_100 hq] at cC2
          have HRR := Lib.hid (HBIG.out hq)
          have CC2 := Lib.hid cC2
          clear HOK HBIG cC2 hq
          go_enter Try.func19, Try.ntmps19
          go_wp2_with (first
            | (go_at_call 10; (with_reducible refine (CC.out).mono ?_); rintro e w1 ⟨rfl, p1⟩)
            | (go_at_call 24; (with_reducible refine (CT.out _).mono ?_); rintro e w1 ⟨rfl, rfl⟩)
            | (go_at_call 27; (with_reducible refine (CF.out _).mono ?_); rintro e w1 ⟨rfl, rfl⟩)
            | (go_at_call 28; (with_reducible refine (CA.out _ (p1.trans ((below_one _).mono p1.size)) _ (HPA.out _ _)).mono ?_); rintro e w3 ⟨v, rfl, o3, p3⟩; obtain ⟨ao3, cap3, rfl, r3, n3, l3, m3⟩ := o3.value stC_length; have R3 := Lib.hid r3; have P3 := Lib.hid (p3.from (p1.trans ((below_one _).mono p1.size))); clear r3 o3 p3)
            | (go_at_call 10; (with_reducible refine (CC2.out _ _ _ (by omega) R3.out).mono ?_); rintro e w4 ⟨rfl, p4⟩; have P4 := Lib.hid p4; clear p4)
            | fail)
          go_ret2
          exact HR2.out _ HRR.out _ _ (AddSays.nil rfl (P4.out.from P3.out))
  · rw [chkE_100 hp] at cC
    have HR := Lib.hid (addR_prof (a := a) (b := b) (n := n) hp)
    have CC := Lib.hid cC
    clear cC cT cF ht hf hp hr
    go_enter Try.func19, Try.ntmps19
    go_wp2_with (first
      | (go_at_call 10; (with_reducible refine (CC.out).mono ?_); rintro e w1 ⟨rfl, p1⟩)
      | fail)
    go_ret2
    exact AddSays.nil HR.out p1

end Go.Proofs.Ytoiahlbaiakngaa.Prof
