/-
  The walks of the program's small questions of a step, and of Check.
-/
import Derived.Test.YtoiahlbaiakngaaStructRows
import Derived.Test.YtoiahlbaiakngaaProfMath
import Derived.BigQuiet
import Derived.Deep.RegionWith
import Derived.Deep.RegionHeld3
import Derived.Deep.Cut
namespace Go.Proofs.Ytoiahlbaiakngaa.Prof
open Go.RowKit
open Base
set_option linter.unusedVariables false
set_option linter.unusedSimpArgs false

theorem ret_i64 {a b : Int} (h : a = b) : Ending.returned (.int .i64 a) = .returned (.int .i64 b) := by rw [h]

/-- The cells of a step. -/
def stC (a : St) : List Value := [.int .i64 a.1, .int .i64 a.2]
theorem stC_length (a : St) : (stC a).length = 2 := rfl
theorem stC_one (a : St) : ∀ u ∈ stC a, u.oneCell' = true := by
  intro u hu
  simp only [stC, List.mem_cons, List.not_mem_nil, or_false] at hu
  rcases hu with rfl | rfl <;> rfl
theorem st_cells {w : World} {a : Option Addr} {zs : List St} (h : ReadsS 2 stC w a zs) {j : Nat} (hj : j < zs.length) :
    ∃ b off, a = some ⟨b, off, none⟩ ∧ w.cell? ⟨b, off + j * 2, none⟩ = some (.int .i64 zs[j].1) ∧ w.cell? ⟨b, off + j * 2 + 1, none⟩ = some (.int .i64 zs[j].2) := by
  obtain ⟨b, off, ha, hc⟩ := h.at_ hj
  exact ⟨b, off, ha, hc 0 (by decide), hc 1 (by decide)⟩
theorem getD_eq {p : List St} {k : Nat} (h : k < p.length) : p.getD k (0, 0) = p[k] := by
  rw [List.getD_eq_getElem?_getD, List.getElem?_eq_getElem h]; rfl

def tickB (t : Int) : Bool := decide (0 ≤ t) && decide (t < 1000001)
def freeB (n : Int) : Bool := decide (-1000000 ≤ n) && decide (n ≤ 1000000)
def mayB (s : St) : Bool := tickB s.1 && freeB s.2
def folB (s x : St) : Bool := decide (x.1 < s.1) && (s.2 != x.2)
theorem tickB_iff (t : Int) : tickB t = true ↔ 0 ≤ t ∧ t ≤ 1000000 := by
  unfold tickB; rw [Bool.and_eq_true, decide_eq_true_eq, decide_eq_true_eq]; omega
theorem freeB_iff (n : Int) : freeB n = true ↔ -1000000 ≤ n ∧ n ≤ 1000000 := by
  unfold freeB; rw [Bool.and_eq_true, decide_eq_true_eq, decide_eq_true_eq]

set_option maxHeartbeats 1000000 in
theorem isTick_any (t : Int) (w : World) :
    Calls Try.prog 24 #[.int .i64 t] w fun e w' => e = .returned (.bool (tickB t)) ∧ w = w' := by
  have HX : Hid (tickB t = (decide (0 ≤ t) && decide (t < 1000001))) := Lib.hid rfl
  cases h1 : decide ((0 : Int) ≤ t) with
  | true =>
    go_enter Try.func24, Try.ntmps24
    go_wp2
    go_ret
    exact ⟨ret_bool (by rw [HX.out, h1]; rfl), rfl⟩
  | false =>
    go_enter Try.func24, Try.ntmps24
    go_wp2
    go_ret
    exact ⟨ret_bool (by rw [HX.out, h1]; rfl), rfl⟩
set_option maxHeartbeats 1000000 in
theorem isFree_any (t : Int) (w : World) :
    Calls Try.prog 27 #[.int .i64 t] w fun e w' => e = .returned (.bool (freeB t)) ∧ w = w' := by
  have HX : Hid (freeB t = (decide (-1000000 ≤ t) && decide (t ≤ 1000000))) := Lib.hid rfl
  cases h1 : decide ((-1000000 : Int) ≤ t) with
  | true =>
    go_enter Try.func27, Try.ntmps27
    go_wp2
    go_ret
    exact ⟨ret_bool (by rw [HX.out, h1]; rfl), rfl⟩
  | false =>
    go_enter Try.func27, Try.ntmps27
    go_wp2
    go_ret
    exact ⟨ret_bool (by rw [HX.out, h1]; rfl), rfl⟩

set_option maxHeartbeats 1000000 in
theorem mayBe_any (a f : Int) (w : World) :
    Calls Try.prog 22 #[.agg #[.int .i64 a, .int .i64 f]] w fun e w' => e = .returned (.bool (mayB (a, f))) ∧ Below w.heap.size w w' := by
  have HX : Hid (mayB (a, f) = (tickB a && freeB f)) := Lib.hid rfl
  have c1 := fun w => isTick_any a w
  have c2 := fun w => isFree_any f w
  cases h1 : tickB a with
  | true =>
    rw [h1] at c1
    have C1 := Lib.hid c1
    have C2 := Lib.hid c2
    clear c1 c2
    go_enter Try.func22, Try.ntmps22
    go_wp2_with (first
      | (go_at_call 24; (with_reducible refine (C1.out _).mono ?_); rintro e w1 ⟨rfl, rfl⟩)
      | (go_at_call 27; (with_reducible refine (C2.out _).mono ?_); rintro e w1 ⟨rfl, rfl⟩)
      | fail)
    go_ret
    exact ⟨ret_bool (by rw [HX.out, h1]; rfl), by (focus repeat (first | exact Below.refl _ _ | assumption | (exact Hid.out (by assumption)) | (with_reducible refine Below.drew ?_) | (with_reducible refine Base.below_drewN ?_ _) | (refine Below.from (below_one _) ?_) | (refine Below.from (below_conv _ _ _) ?_) | (refine Below.setCell ?_ (by simp <;> omega) _) | (refine Below.from (by assumption) ?_)))⟩
  | false =>
    rw [h1] at c1
    have C1 := Lib.hid c1
    have C2 := Lib.hid c2
    clear c1 c2
    go_enter Try.func22, Try.ntmps22
    go_wp2_with (first
      | (go_at_call 24; (with_reducible refine (C1.out _).mono ?_); rintro e w1 ⟨rfl, rfl⟩)
      | (go_at_call 27; (with_reducible refine (C2.out _).mono ?_); rintro e w1 ⟨rfl, rfl⟩)
      | fail)
    go_ret
    exact ⟨ret_bool (by rw [HX.out, h1]; rfl), by (focus repeat (first | exact Below.refl _ _ | assumption | (exact Hid.out (by assumption)) | (with_reducible refine Below.drew ?_) | (with_reducible refine Base.below_drewN ?_ _) | (refine Below.from (below_one _) ?_) | (refine Below.from (below_conv _ _ _) ?_) | (refine Below.setCell ?_ (by simp <;> omega) _) | (refine Below.from (by assumption) ?_)))⟩

set_option maxHeartbeats 1000000 in
theorem follows_any (a f b g : Int) (w : World) :
    Calls Try.prog 23 #[.agg #[.int .i64 a, .int .i64 f], .agg #[.int .i64 b, .int .i64 g]] w fun e w' => e = .returned (.bool (folB (a, f) (b, g))) ∧ Below w.heap.size w w' := by
  have HX : Hid (folB (a, f) (b, g) = (decide (b < a) && (f != g))) := Lib.hid rfl
  cases h1 : decide (b < a) with
  | true =>
    go_enter Try.func23, Try.ntmps23
    go_wp2
    go_ret
    exact ⟨ret_bool (by rw [HX.out, h1]; rfl), by (focus repeat (first | exact Below.refl _ _ | assumption | (exact Hid.out (by assumption)) | (with_reducible refine Below.drew ?_) | (with_reducible refine Base.below_drewN ?_ _) | (refine Below.from (below_one _) ?_) | (refine Below.from (below_conv _ _ _) ?_) | (refine Below.setCell ?_ (by simp <;> omega) _) | (refine Below.from (by assumption) ?_)))⟩
  | false =>
    go_enter Try.func23, Try.ntmps23
    go_wp2
    go_ret
    exact ⟨ret_bool (by rw [HX.out, h1]; rfl), by (focus repeat (first | exact Below.refl _ _ | assumption | (exact Hid.out (by assumption)) | (with_reducible refine Below.drew ?_) | (with_reducible refine Base.below_drewN ?_ _) | (refine Below.from (below_one _) ?_) | (refine Below.from (below_conv _ _ _) ?_) | (refine Below.setCell ?_ (by simp <;> omega) _) | (refine Below.from (by assumption) ?_)))⟩

theorem okAt_0 {p : List St} (h : 0 < p.length) (hm : mayB p[0] = true) : okAt p 0 := by
  unfold mayB at hm
  rw [Bool.and_eq_true, tickB_iff, freeB_iff] at hm
  unfold okAt
  rw [getD_eq h]
  exact ⟨⟨hm.2.1, hm.2.2, hm.1.2⟩, fun h => absurd h (Nat.lt_irrefl _)⟩
theorem okAt_s {p : List St} {k : Nat} (h : k < p.length) (h0 : 0 < k) (hm : mayB p[k] = true) (hf : folB p[k] (p[k - 1]'(by omega)) = true) : okAt p k := by
  unfold mayB at hm
  unfold folB at hf
  rw [Bool.and_eq_true, tickB_iff, freeB_iff] at hm
  rw [Bool.and_eq_true, decide_eq_true_eq, bne_iff_ne] at hf
  unfold okAt
  rw [getD_eq h, getD_eq (k := k - 1) (by omega)]
  exact ⟨⟨hm.2.1, hm.2.2, hm.1.2⟩, fun _ => hf⟩
theorem no_may {p : List St} {k : Nat} (h : k < p.length) (hm : mayB p[k] = false) : ¬ Prof p := by
  intro hp
  have h1 := hp.mem (List.getElem_mem h)
  have h2 := hp.can.pos _ (List.getElem_mem h)
  have : mayB p[k] = true := by unfold mayB; rw [Bool.and_eq_true, tickB_iff, freeB_iff]; omega
  rw [this] at hm; cases hm
theorem no_fol {p : List St} {k : Nat} (h : k < p.length) (h0 : 0 < k) (hf : folB p[k] (p[k - 1]'(by omega)) = false) : ¬ Prof p := by
  intro hp
  have h1 := (hp.2 k h).2 h0
  rw [getD_eq h, getD_eq (k := k - 1) (by omega)] at h1
  have : folB p[k] (p[k - 1]'(by omega)) = true := by unfold folB; rw [Bool.and_eq_true, decide_eq_true_eq, bne_iff_ne]; exact h1
  rw [this] at hf; cases hf

/-! The steps of a region that draws its order, the operation read off the list (and so written out). -/

theorem at_drop {l tl : List Oper} {i : Nat} {o : Oper} (ho : l.drop i = o :: tl) : l.toArray[i]? = some o := by
  rw [List.getElem?_toArray, ← List.head?_drop, ho]; rfl
theorem readyL {P : Program} {md : Region.Mode} {l tl : List Oper} {Q : Exit → Act → World → Prop} {S : World → Prop} {fuel : Nat} {listed : Array Bool} {a : Act} {w : World} {i : Nat} {o : Oper} {rs : List Nat} (ho : l.drop i = o :: tl)
    (h : ∀ K' : Act → World → Prop, Shut (∀ a w, S w → (S w → wpAnyH P md l.toArray Q S fuel (listed.setIfInBounds i true) a w) → K' a w) → if Region.wanted o (yielded l.toArray a.tmps) = true then Oper.wp P o a w K' Q else K' (a.put o.dst undef) w)
    (hs : AllReadyH P md l.toArray Q S fuel listed a w rs) : AllReadyH P md l.toArray Q S fuel listed a w (i :: rs) := AllReadyH.cons (at_drop ho) h hs
theorem takeL {P : Program} {md : Region.Mode} {l tl : List Oper} {Q : Exit → Act → World → Prop} {S : World → Prop} {i : Nat} {oi : Oper} {v : Value} {fuel : Nat} {listed : Array Bool} {a : Act} {w : World} (ho : l.drop i = oi :: tl)
    (hs : Region.noSelect l.toArray = true) (hf : Region.free md l.toArray listed i = true) (hr : (Region.ready md l.toArray listed).contains i = true)
    (hQ : ∀ c a w, Q (.panic c) (a.put oi.dst v) w → Q (.panic c) a w) (hy : YieldsIf P l.toArray S oi v a) (hS : S w)
    (h : wpAnyH P md l.toArray Q S fuel (listed.setIfInBounds i true) (a.put oi.dst v) w) : wpAnyH P md l.toArray Q S (fuel + 1) listed a w :=
  wpAnyH_take (at_drop ho) hs hf hr hQ hy hS h

set_option maxRecDepth 100000 in
set_option maxHeartbeats 2000000 in
theorem check_any (ao : Option Addr) (len cap : Nat) (p : List St) (w : World) (hlen : p.length = len) (hl : len ≤ maxLen) (hr : ReadsS 2 stC w ao p) :
    Calls Try.prog 10 #[.slice ao len cap] w fun e w' => e = .returned (.int .i64 (chkE p)) ∧ Below w.heap.size w w' := by
  subst hlen
  unfold maxLen at hl
  have HR := Lib.hid hr
  clear hr
  obtain ⟨E, hE⟩ : ∃ E, E = chkE p := ⟨_, rfl⟩
  rw [← hE]
  by_cases h0 : p.length = 0
  · have t1 : ((p.length : Int) == 0) = true := by rw [beq_iff_eq]; omega
    have HE : Hid (100 = E) := Lib.hid (by rw [hE, chkE_100 (fun h => by have := h.1.1; omega)])
    clear hE h0
    go_enter Try.func10, Try.ntmps10
    go_wp2
    go_ret
    exact ⟨ret_i64 HE.out, Below.refl _ _⟩
  have t1 : ((p.length : Int) == 0) = false := by rw [beq_eq_false_iff_ne]; omega
  by_cases h1 : 1000 < p.length
  · have t2 : decide ((1000 : Int) < (p.length : Int)) = true := decide_eq_true (by omega)
    have t2' : decide (1000 < p.length) = true := decide_eq_true h1
    have HE : Hid (100 = E) := Lib.hid (by rw [hE, chkE_100 (fun h => by have := h.1.2.1; omega)])
    clear hE h0 h1
    go_enter Try.func10, Try.ntmps10
    go_wp2
    go_ret
    exact ⟨ret_i64 HE.out, Below.refl _ _⟩
  have t2 : decide ((1000 : Int) < (p.length : Int)) = false := decide_eq_false (by omega)
  have t2' : decide (1000 < p.length) = false := decide_eq_false h1
  obtain ⟨bb, bo, hao, a0, a1⟩ := st_cells HR.out (j := 0) (by omega)
  clear a1
  simp only [Nat.zero_mul, Nat.add_zero] at a0
  have hP0 : (p.getD 0 (0, 0)).1 = (p[0]'(by omega)).1 := by rw [getD_eq]
  obtain ⟨x0, hx0⟩ : ∃ x, x = (p[0]'(by omega)).1 := ⟨_, rfl⟩
  rw [← hx0] at hP0 a0
  have hpos : (0 : Int) < (p.length : Int) := by omega
  subst hao
  by_cases h2 : x0 = 0
  · have t3 : (x0 != 0) = false := by rw [h2]; rfl
    rw [h2] at hP0
    have HP0 := Lib.hid hP0
    have HLE : Hid (1 ≤ p.length ∧ p.length ≤ 1000) := Lib.hid (by omega)
    have HE := Lib.hid hE
    clear hE hP0 hx0 h2 h0 h1
    go_enter Try.func10, Try.ntmps10
    go_wp2
    go_loopw [22] (fun i wr => ∃ k : Nat, i = .int .i64 (k : Int) ∧ k ≤ p.length ∧ (∀ j, j < k → okAt p j) ∧ Below w.heap.size w wr) (fun i _ => p.length - (intOf i).toNat)
    case atStart => exact ⟨0, rfl, Nat.zero_le _, fun _ h => absurd h (Nat.not_lt_zero _), Below.refl _ _⟩
    case round =>
      obtain ⟨k, rfl, hk, hs, hb⟩ := hrel
      have HS := Lib.hid hs
      have HB := Lib.hid hb
      clear hs a0
      by_cases hp : k < p.length
      · obtain ⟨bb2, bo2, hao2, b0, b1⟩ := st_cells (HR.out.below stC_length hb) hp
        obtain ⟨rfl, rfl⟩ : bb = bb2 ∧ bo = bo2 := by simpa using hao2
        clear hao2
        have hno : mayB p[k] = false → 100 = E := fun h => by rw [HE.out, chkE_100 (no_may hp h)]
        have hgo : okAt p k → ∀ j, j < k + 1 → okAt p j := fun h j hj => by
          by_cases he : j = k
          · subst he; exact h
          · exact HS.out j (by omega)
        have HK0 : Hid (k = 0 → mayB p[k] = true → okAt p k) := Lib.hid (fun h0 hm => by subst h0; exact okAt_0 hp hm)
        have HKS : Hid (∀ h0 : 0 < k, mayB p[k] = true → folB p[k] (p[k - 1]'(by omega)) = true → okAt p k) := Lib.hid (fun h0 => okAt_s hp h0)
        have HKN : Hid (∀ h0 : 0 < k, folB p[k] (p[k - 1]'(by omega)) = false → 100 = E) := Lib.hid (fun h0 h => by rw [HE.out, chkE_100 (no_fol hp h0 h)])
        obtain ⟨⟨a, f⟩, hA⟩ : ∃ A : St, A = p[k] := ⟨_, rfl⟩
        rw [← hA] at b0 b1 hno HK0 HKS HKN
        dsimp only at b0 b1
        have r0 : (wr.alloc (.cells #[.int .i64 a, .int .i64 f] 43)).drew.cell? ⟨wr.heap.size, 0, none⟩ = some (.int .i64 a) := by show (wr.alloc (.cells #[.int .i64 a, .int .i64 f] 43)).cell? _ = _; rw [World.cell?_alloc_at _ _ _ _ rfl]; rfl
        have r1 : (wr.alloc (.cells #[.int .i64 a, .int .i64 f] 43)).drew.cell? ⟨wr.heap.size, 1, none⟩ = some (.int .i64 f) := by show (wr.alloc (.cells #[.int .i64 a, .int .i64 f] 43)).cell? _ = _; rw [World.cell?_alloc_at _ _ _ _ rfl]; rfl
        have rb : Below w.heap.size w (wr.alloc (.cells #[.int .i64 a, .int .i64 f] 43)).drew := (hb.alloc hb.size _).drew
        have c1 := fun w => mayBe_any a f w
        have hlow : (0 : Int) ≤ (k : Int) := by omega
        have hup : (k : Int) < ((p.length : Nat) : Int) := by omega
        cases hm : mayB (a, f) with
        | false =>
          rw [hm] at c1
          have C1 := Lib.hid c1
          have HE := Lib.hid (hno hm).symm
          clear hA hno hgo HK0 HKS HKN c1 hm hb
          go_upto_region 6 with fail
          refine wp_region_held_drew (S := fun W => W.cell? ⟨wr.heap.size, 0, none⟩ = some (.int .i64 a) ∧ W.cell? ⟨wr.heap.size, 1, none⟩ = some (.int .i64 f) ∧ Below w.heap.size w W) (by kernel_rfl) (⟨r0, r1, rb⟩) (fun hHeld => ?_)
          refine takeL (i := 0) (v := ?_) rfl (by kernel_rfl) (by kernel_rfl) (by kernel_rfl) (by first | exact fun c a w h => hP c a _ _ w h | exact fun _ _ _ h => h) (Or.inl ⟨by rfl, ?_⟩) (by assumption) ?_
          rotate_left
          · intro W hS; have := hS.1; have := hS.2.1; go_simp; (try with_reducible rfl)
          simp only [Act.put, List.setIfInBounds_toArray, List.set_cons_zero, List.set_cons_succ]
          refine wpAnyH_ready (rs := [1]) (by kernel_rfl) (by simp) ?_
          refine readyL rfl ?_ ?_
          rotate_left
          · exact AllReadyH.nil
          intro K hK
          go_simp
          go_wp2_with (first
            | (go_at_call 22; go_loud ((with_reducible refine (C1.out _).mono ?_); rintro e w1 ⟨rfl, p1⟩; have x0 := cell_below r0 p1; have x1 := cell_below r1 p1; have xb := Below.from p1 rb))
            | fail)
          refine hK.out _ _ (⟨x0, x1, xb⟩) (fun hNew => ?_)
          clear hK K
          replace hHeld := hNew
          clear hNew
          refine takeL (i := 2) (v := ?_) rfl (by kernel_rfl) (by kernel_rfl) (by kernel_rfl) (by first | exact fun c a w h => hP c a _ _ w h | exact fun _ _ _ h => h) (Or.inl ⟨by rfl, ?_⟩) (by assumption) ?_
          rotate_left
          · intro W hS; go_simp; (try with_reducible rfl)
          simp only [Act.put, List.setIfInBounds_toArray, List.set_cons_zero, List.set_cons_succ]
          refine takeL (i := 3) (v := ?_) rfl (by kernel_rfl) (by kernel_rfl) (by kernel_rfl) (by first | exact fun c a w h => hP c a _ _ w h | exact fun _ _ _ h => h) (Or.inl ⟨by rfl, ?_⟩) (by assumption) ?_
          rotate_left
          · intro W hS; go_simp; (try with_reducible rfl)
          simp only [Act.put, List.setIfInBounds_toArray, List.set_cons_zero, List.set_cons_succ]
          refine takeL (i := 4) (v := undef) rfl (by kernel_rfl) (by kernel_rfl) (by kernel_rfl) (by first | exact fun c a w h => hP c a _ _ w h | exact fun _ _ _ h => h) (Or.inr ⟨by rfl, rfl⟩) (by assumption) ?_
          simp only [Act.put, List.setIfInBounds_toArray, List.set_cons_zero, List.set_cons_succ]
          refine takeL (i := 5) (v := undef) rfl (by kernel_rfl) (by kernel_rfl) (by kernel_rfl) (by first | exact fun c a w h => hP c a _ _ w h | exact fun _ _ _ h => h) (Or.inr ⟨by rfl, rfl⟩) (by assumption) ?_
          simp only [Act.put, List.setIfInBounds_toArray, List.set_cons_zero, List.set_cons_succ]
          refine takeL (i := 6) (v := undef) rfl (by kernel_rfl) (by kernel_rfl) (by kernel_rfl) (by first | exact fun c a w h => hP c a _ _ w h | exact fun _ _ _ h => h) (Or.inr ⟨by rfl, rfl⟩) (by assumption) ?_
          simp only [Act.put, List.setIfInBounds_toArray, List.set_cons_zero, List.set_cons_succ]
          refine takeL (i := 7) (v := undef) rfl (by kernel_rfl) (by kernel_rfl) (by kernel_rfl) (by first | exact fun c a w h => hP c a _ _ w h | exact fun _ _ _ h => h) (Or.inr ⟨by rfl, rfl⟩) (by assumption) ?_
          simp only [Act.put, List.setIfInBounds_toArray, List.set_cons_zero, List.set_cons_succ]
          refine takeL (i := 8) (v := undef) rfl (by kernel_rfl) (by kernel_rfl) (by kernel_rfl) (by first | exact fun c a w h => hP c a _ _ w h | exact fun _ _ _ h => h) (Or.inr ⟨by rfl, rfl⟩) (by assumption) ?_
          simp only [Act.put, List.setIfInBounds_toArray, List.set_cons_zero, List.set_cons_succ]
          refine takeL (i := 9) (v := undef) rfl (by kernel_rfl) (by kernel_rfl) (by kernel_rfl) (by first | exact fun c a w h => hP c a _ _ w h | exact fun _ _ _ h => h) (Or.inr ⟨by rfl, rfl⟩) (by assumption) ?_
          simp only [Act.put, List.setIfInBounds_toArray, List.set_cons_zero, List.set_cons_succ]
          refine takeL (i := 10) (v := undef) rfl (by kernel_rfl) (by kernel_rfl) (by kernel_rfl) (by first | exact fun c a w h => hP c a _ _ w h | exact fun _ _ _ h => h) (Or.inr ⟨by rfl, rfl⟩) (by assumption) ?_
          simp only [Act.put, List.setIfInBounds_toArray, List.set_cons_zero, List.set_cons_succ]
          refine takeL (i := 11) (v := undef) rfl (by kernel_rfl) (by kernel_rfl) (by kernel_rfl) (by first | exact fun c a w h => hP c a _ _ w h | exact fun _ _ _ h => h) (Or.inr ⟨by rfl, rfl⟩) (by assumption) ?_
          simp only [Act.put, List.setIfInBounds_toArray, List.set_cons_zero, List.set_cons_succ]
          refine takeL (i := 12) (v := undef) rfl (by kernel_rfl) (by kernel_rfl) (by kernel_rfl) (by first | exact fun c a w h => hP c a _ _ w h | exact fun _ _ _ h => h) (Or.inr ⟨by rfl, rfl⟩) (by assumption) ?_
          simp only [Act.put, List.setIfInBounds_toArray, List.set_cons_zero, List.set_cons_succ]
          refine wpAnyH_ready (rs := [13]) (by kernel_rfl) (by simp) ?_
          refine readyL rfl ?_ ?_
          rotate_left
          · exact AllReadyH.nil
          intro K hK
          go_simp
          refine hK.out _ _ hHeld (fun hNew => ?_)
          clear hK K hNew
          refine takeL (i := 14) (v := undef) rfl (by kernel_rfl) (by kernel_rfl) (by kernel_rfl) (by first | exact fun c a w h => hP c a _ _ w h | exact fun _ _ _ h => h) (Or.inr ⟨by rfl, rfl⟩) (by assumption) ?_
          simp only [Act.put, List.setIfInBounds_toArray, List.set_cons_zero, List.set_cons_succ]
          refine takeL (i := 15) (v := undef) rfl (by kernel_rfl) (by kernel_rfl) (by kernel_rfl) (by first | exact fun c a w h => hP c a _ _ w h | exact fun _ _ _ h => h) (Or.inr ⟨by rfl, rfl⟩) (by assumption) ?_
          simp only [Act.put, List.setIfInBounds_toArray, List.set_cons_zero, List.set_cons_succ]
          refine takeL (i := 16) (v := ?_) rfl (by kernel_rfl) (by kernel_rfl) (by kernel_rfl) (by first | exact fun c a w h => hP c a _ _ w h | exact fun _ _ _ h => h) (Or.inl ⟨by rfl, ?_⟩) (by assumption) ?_
          rotate_left
          · intro W hS; go_simp; (try with_reducible rfl)
          simp only [Act.put, List.setIfInBounds_toArray, List.set_cons_zero, List.set_cons_succ]
          refine wpAnyH_done (by kernel_rfl) ?_ _
          go_wp2
          go_ret
          exact ⟨ret_i64 HE.out.symm, xb⟩
        | true =>
          rw [hm] at c1
          have C1 := Lib.hid c1
          clear hno c1
          rcases Nat.eq_zero_or_pos k with h0 | h0
          · have HN := Lib.hid (hgo (HK0.out h0 hm))
            have t5 : decide ((0 : Int) < (k : Int)) = false := decide_eq_false (by omega)
            have t5' : decide (0 < k) = false := decide_eq_false (by omega)
            clear hA hgo HK0 HKS HKN hm hb h0
            go_upto_region 6 with fail
            refine wp_region_held_drew (S := fun W => W.cell? ⟨wr.heap.size, 0, none⟩ = some (.int .i64 a) ∧ W.cell? ⟨wr.heap.size, 1, none⟩ = some (.int .i64 f) ∧ Below w.heap.size w W) (by kernel_rfl) (⟨r0, r1, rb⟩) (fun hHeld => ?_)
            refine takeL (i := 0) (v := ?_) rfl (by kernel_rfl) (by kernel_rfl) (by kernel_rfl) (by first | exact fun c a w h => hP c a _ _ w h | exact fun _ _ _ h => h) (Or.inl ⟨by rfl, ?_⟩) (by assumption) ?_
            rotate_left
            · intro W hS; have := hS.1; have := hS.2.1; go_simp; (try with_reducible rfl)
            simp only [Act.put, List.setIfInBounds_toArray, List.set_cons_zero, List.set_cons_succ]
            refine wpAnyH_ready (rs := [1]) (by kernel_rfl) (by simp) ?_
            refine readyL rfl ?_ ?_
            rotate_left
            · exact AllReadyH.nil
            intro K hK
            go_simp
            go_wp2_with (first
              | (go_at_call 22; go_loud ((with_reducible refine (C1.out _).mono ?_); rintro e w1 ⟨rfl, p1⟩; have x0 := cell_below r0 p1; have x1 := cell_below r1 p1; have xb := Below.from p1 rb))
              | fail)
            refine hK.out _ _ (⟨x0, x1, xb⟩) (fun hNew => ?_)
            clear hK K
            replace hHeld := hNew
            clear hNew
            refine takeL (i := 2) (v := ?_) rfl (by kernel_rfl) (by kernel_rfl) (by kernel_rfl) (by first | exact fun c a w h => hP c a _ _ w h | exact fun _ _ _ h => h) (Or.inl ⟨by rfl, ?_⟩) (by assumption) ?_
            rotate_left
            · intro W hS; go_simp; (try with_reducible rfl)
            simp only [Act.put, List.setIfInBounds_toArray, List.set_cons_zero, List.set_cons_succ]
            refine takeL (i := 3) (v := ?_) rfl (by kernel_rfl) (by kernel_rfl) (by kernel_rfl) (by first | exact fun c a w h => hP c a _ _ w h | exact fun _ _ _ h => h) (Or.inl ⟨by rfl, ?_⟩) (by assumption) ?_
            rotate_left
            · intro W hS; go_simp; (try with_reducible rfl)
            simp only [Act.put, List.setIfInBounds_toArray, List.set_cons_zero, List.set_cons_succ]
            refine takeL (i := 4) (v := ?_) rfl (by kernel_rfl) (by kernel_rfl) (by kernel_rfl) (by first | exact fun c a w h => hP c a _ _ w h | exact fun _ _ _ h => h) (Or.inl ⟨by rfl, ?_⟩) (by assumption) ?_
            rotate_left
            · intro W hS; go_simp; (try with_reducible rfl)
            simp only [Act.put, List.setIfInBounds_toArray, List.set_cons_zero, List.set_cons_succ]
            refine takeL (i := 5) (v := ?_) rfl (by kernel_rfl) (by kernel_rfl) (by kernel_rfl) (by first | exact fun c a w h => hP c a _ _ w h | exact fun _ _ _ h => h) (Or.inl ⟨by rfl, ?_⟩) (by assumption) ?_
            rotate_left
            · intro W hS; go_simp; (try with_reducible rfl)
            simp only [Act.put, List.setIfInBounds_toArray, List.set_cons_zero, List.set_cons_succ]
            refine takeL (i := 6) (v := ?_) rfl (by kernel_rfl) (by kernel_rfl) (by kernel_rfl) (by first | exact fun c a w h => hP c a _ _ w h | exact fun _ _ _ h => h) (Or.inl ⟨by rfl, ?_⟩) (by assumption) ?_
            rotate_left
            · intro W hS; go_simp; (try with_reducible rfl)
            simp only [Act.put, List.setIfInBounds_toArray, List.set_cons_zero, List.set_cons_succ]
            refine takeL (i := 7) (v := undef) rfl (by kernel_rfl) (by kernel_rfl) (by kernel_rfl) (by first | exact fun c a w h => hP c a _ _ w h | exact fun _ _ _ h => h) (Or.inr ⟨by rfl, rfl⟩) (by assumption) ?_
            simp only [Act.put, List.setIfInBounds_toArray, List.set_cons_zero, List.set_cons_succ]
            refine takeL (i := 8) (v := undef) rfl (by kernel_rfl) (by kernel_rfl) (by kernel_rfl) (by first | exact fun c a w h => hP c a _ _ w h | exact fun _ _ _ h => h) (Or.inr ⟨by rfl, rfl⟩) (by assumption) ?_
            simp only [Act.put, List.setIfInBounds_toArray, List.set_cons_zero, List.set_cons_succ]
            refine takeL (i := 9) (v := undef) rfl (by kernel_rfl) (by kernel_rfl) (by kernel_rfl) (by first | exact fun c a w h => hP c a _ _ w h | exact fun _ _ _ h => h) (Or.inr ⟨by rfl, rfl⟩) (by assumption) ?_
            simp only [Act.put, List.setIfInBounds_toArray, List.set_cons_zero, List.set_cons_succ]
            refine takeL (i := 10) (v := undef) rfl (by kernel_rfl) (by kernel_rfl) (by kernel_rfl) (by first | exact fun c a w h => hP c a _ _ w h | exact fun _ _ _ h => h) (Or.inr ⟨by rfl, rfl⟩) (by assumption) ?_
            simp only [Act.put, List.setIfInBounds_toArray, List.set_cons_zero, List.set_cons_succ]
            refine takeL (i := 11) (v := undef) rfl (by kernel_rfl) (by kernel_rfl) (by kernel_rfl) (by first | exact fun c a w h => hP c a _ _ w h | exact fun _ _ _ h => h) (Or.inr ⟨by rfl, rfl⟩) (by assumption) ?_
            simp only [Act.put, List.setIfInBounds_toArray, List.set_cons_zero, List.set_cons_succ]
            refine takeL (i := 12) (v := undef) rfl (by kernel_rfl) (by kernel_rfl) (by kernel_rfl) (by first | exact fun c a w h => hP c a _ _ w h | exact fun _ _ _ h => h) (Or.inr ⟨by rfl, rfl⟩) (by assumption) ?_
            simp only [Act.put, List.setIfInBounds_toArray, List.set_cons_zero, List.set_cons_succ]
            refine wpAnyH_ready (rs := [13]) (by kernel_rfl) (by simp) ?_
            refine readyL rfl ?_ ?_
            rotate_left
            · exact AllReadyH.nil
            intro K hK
            go_simp
            refine hK.out _ _ hHeld (fun hNew => ?_)
            clear hK K hNew
            refine takeL (i := 14) (v := undef) rfl (by kernel_rfl) (by kernel_rfl) (by kernel_rfl) (by first | exact fun c a w h => hP c a _ _ w h | exact fun _ _ _ h => h) (Or.inr ⟨by rfl, rfl⟩) (by assumption) ?_
            simp only [Act.put, List.setIfInBounds_toArray, List.set_cons_zero, List.set_cons_succ]
            refine takeL (i := 15) (v := ?_) rfl (by kernel_rfl) (by kernel_rfl) (by kernel_rfl) (by first | exact fun c a w h => hP c a _ _ w h | exact fun _ _ _ h => h) (Or.inl ⟨by rfl, ?_⟩) (by assumption) ?_
            rotate_left
            · intro W hS; go_simp; (try with_reducible rfl)
            simp only [Act.put, List.setIfInBounds_toArray, List.set_cons_zero, List.set_cons_succ]
            refine takeL (i := 16) (v := ?_) rfl (by kernel_rfl) (by kernel_rfl) (by kernel_rfl) (by first | exact fun c a w h => hP c a _ _ w h | exact fun _ _ _ h => h) (Or.inl ⟨by rfl, ?_⟩) (by assumption) ?_
            rotate_left
            · intro W hS; go_simp; (try with_reducible rfl)
            simp only [Act.put, List.setIfInBounds_toArray, List.set_cons_zero, List.set_cons_succ]
            refine wpAnyH_done (by kernel_rfl) ?_ _
            go_wp2
            refine ⟨⟨k + 1, by go_num, by omega, HN.out, xb⟩, ?_⟩
            simp [intOf]; omega
          · obtain ⟨m, rfl⟩ : ∃ m, k = m + 1 := ⟨k - 1, by omega⟩
            obtain ⟨bb3, bo3, hao3, d0, d1⟩ := st_cells (HR.out.below stC_length hb) (j := m) (by omega)
            obtain ⟨rfl, rfl⟩ : bb = bb3 ∧ bo = bo3 := by simpa using hao3
            have t5 : decide ((0 : Int) < ((m + 1 : Nat) : Int)) = true := decide_eq_true (by omega)
            have t5' : decide ((0 : Int) < (m : Int) + 1) = true := decide_eq_true (by omega)
            have hlow2 : (0 : Int) ≤ (m : Int) := by omega
            have hup2 : (m : Int) < ((p.length : Nat) : Int) := by omega
            have hwm : IntKind.i64.wrap (m : Int) = (m : Int) := by simp only [IntKind.wrap_i64]; omega
            have HWM := Lib.hid hwm
            clear hwm
            have HKS := Lib.hid (HKS.out h0 hm)
            have HKN := Lib.hid (HKN.out h0)
            simp only [Nat.add_sub_cancel] at HKS HKN
            obtain ⟨⟨b, g⟩, hB⟩ : ∃ B : St, B = p[m]'(by omega) := ⟨_, rfl⟩
            rw [← hB] at d0 d1 HKS HKN
            dsimp only at d0 d1
            have r2 : (wr.alloc (.cells #[.int .i64 a, .int .i64 f] 43)).drew.cell? ⟨bb, bo + m * 2, none⟩ = some (.int .i64 b) := cell_below (w := wr) d0 (below_one _).drew
            have r3 : (wr.alloc (.cells #[.int .i64 a, .int .i64 f] 43)).drew.cell? ⟨bb, bo + m * 2 + 1, none⟩ = some (.int .i64 g) := cell_below (w := wr) d1 (below_one _).drew
            have c2 := fun w => follows_any a f b g w
            cases hf : folB (a, f) (b, g) with
            | false =>
              rw [hf] at c2
              have C2 := Lib.hid c2
              have HE := Lib.hid (HKN.out hf).symm
              clear hA hgo HK0 HKS HKN c2 hm hb hB hao3 hf h0
              go_upto_region 6 with fail
              refine wp_region_held_drew (S := fun W => W.cell? ⟨wr.heap.size, 0, none⟩ = some (.int .i64 a) ∧ W.cell? ⟨wr.heap.size, 1, none⟩ = some (.int .i64 f) ∧ W.cell? ⟨bb, bo + m * 2, none⟩ = some (.int .i64 b) ∧ W.cell? ⟨bb, bo + m * 2 + 1, none⟩ = some (.int .i64 g) ∧ Below w.heap.size w W) (by kernel_rfl) (⟨r0, r1, r2, r3, rb⟩) (fun hHeld => ?_)
              refine takeL (i := 0) (v := ?_) rfl (by kernel_rfl) (by kernel_rfl) (by kernel_rfl) (by first | exact fun c a w h => hP c a _ _ w h | exact fun _ _ _ h => h) (Or.inl ⟨by rfl, ?_⟩) (by assumption) ?_
              rotate_left
              · intro W hS; have := hS.1; have := hS.2.1; go_simp; (try with_reducible rfl)
              simp only [Act.put, List.setIfInBounds_toArray, List.set_cons_zero, List.set_cons_succ]
              refine wpAnyH_ready (rs := [1]) (by kernel_rfl) (by simp) ?_
              refine readyL rfl ?_ ?_
              rotate_left
              · exact AllReadyH.nil
              intro K hK
              go_simp
              go_wp2_with (first
                | (go_at_call 22; go_loud ((with_reducible refine (C1.out _).mono ?_); rintro e w1 ⟨rfl, p1⟩; have x0 := cell_below r0 p1; have x1 := cell_below r1 p1; have x2 := cell_below r2 p1; have x3 := cell_below r3 p1; have xb := Below.from p1 rb))
                | fail)
              refine hK.out _ _ (⟨x0, x1, x2, x3, xb⟩) (fun hNew => ?_)
              clear hK K
              replace hHeld := hNew
              clear hNew
              refine takeL (i := 2) (v := ?_) rfl (by kernel_rfl) (by kernel_rfl) (by kernel_rfl) (by first | exact fun c a w h => hP c a _ _ w h | exact fun _ _ _ h => h) (Or.inl ⟨by rfl, ?_⟩) (by assumption) ?_
              rotate_left
              · intro W hS; go_simp; (try with_reducible rfl)
              simp only [Act.put, List.setIfInBounds_toArray, List.set_cons_zero, List.set_cons_succ]
              refine takeL (i := 3) (v := ?_) rfl (by kernel_rfl) (by kernel_rfl) (by kernel_rfl) (by first | exact fun c a w h => hP c a _ _ w h | exact fun _ _ _ h => h) (Or.inl ⟨by rfl, ?_⟩) (by assumption) ?_
              rotate_left
              · intro W hS; go_simp; (try with_reducible rfl)
              simp only [Act.put, List.setIfInBounds_toArray, List.set_cons_zero, List.set_cons_succ]
              refine takeL (i := 4) (v := ?_) rfl (by kernel_rfl) (by kernel_rfl) (by kernel_rfl) (by first | exact fun c a w h => hP c a _ _ w h | exact fun _ _ _ h => h) (Or.inl ⟨by rfl, ?_⟩) (by assumption) ?_
              rotate_left
              · intro W hS; go_simp; (try with_reducible rfl)
              simp only [Act.put, List.setIfInBounds_toArray, List.set_cons_zero, List.set_cons_succ]
              refine takeL (i := 5) (v := ?_) rfl (by kernel_rfl) (by kernel_rfl) (by kernel_rfl) (by first | exact fun c a w h => hP c a _ _ w h | exact fun _ _ _ h => h) (Or.inl ⟨by rfl, ?_⟩) (by assumption) ?_
              rotate_left
              · intro W hS; go_simp; (try with_reducible rfl)
              simp only [Act.put, List.setIfInBounds_toArray, List.set_cons_zero, List.set_cons_succ]
              refine takeL (i := 6) (v := ?_) rfl (by kernel_rfl) (by kernel_rfl) (by kernel_rfl) (by first | exact fun c a w h => hP c a _ _ w h | exact fun _ _ _ h => h) (Or.inl ⟨by rfl, ?_⟩) (by assumption) ?_
              rotate_left
              · intro W hS; go_simp; (try with_reducible rfl)
              simp only [Act.put, List.setIfInBounds_toArray, List.set_cons_zero, List.set_cons_succ]
              refine takeL (i := 7) (v := ?_) rfl (by kernel_rfl) (by kernel_rfl) (by kernel_rfl) (by first | exact fun c a w h => hP c a _ _ w h | exact fun _ _ _ h => h) (Or.inl ⟨by rfl, ?_⟩) (by assumption) ?_
              rotate_left
              · intro W hS; have := hS.1; have := hS.2.1; go_simp; (try with_reducible rfl)
              simp only [Act.put, List.setIfInBounds_toArray, List.set_cons_zero, List.set_cons_succ]
              refine takeL (i := 8) (v := ?_) rfl (by kernel_rfl) (by kernel_rfl) (by kernel_rfl) (by first | exact fun c a w h => hP c a _ _ w h | exact fun _ _ _ h => h) (Or.inl ⟨by rfl, ?_⟩) (by assumption) ?_
              rotate_left
              · intro W hS; go_simp; (try with_reducible rfl)
              simp only [Act.put, List.setIfInBounds_toArray, List.set_cons_zero, List.set_cons_succ]
              refine takeL (i := 9) (v := ?_) rfl (by kernel_rfl) (by kernel_rfl) (by kernel_rfl) (by first | exact fun c a w h => hP c a _ _ w h | exact fun _ _ _ h => h) (Or.inl ⟨by rfl, ?_⟩) (by assumption) ?_
              rotate_left
              · intro W hS; go_simp; (try with_reducible rfl)
              simp only [Act.put, List.setIfInBounds_toArray, List.set_cons_zero, List.set_cons_succ]
              refine takeL (i := 10) (v := ?_) rfl (by kernel_rfl) (by kernel_rfl) (by kernel_rfl) (by first | exact fun c a w h => hP c a _ _ w h | exact fun _ _ _ h => h) (Or.inl ⟨by rfl, ?_⟩) (by assumption) ?_
              rotate_left
              · intro W hS; go_simp; (try with_reducible rfl)
              simp only [Act.put, List.setIfInBounds_toArray, List.set_cons_zero, List.set_cons_succ]
              refine takeL (i := 11) (v := ?_) rfl (by kernel_rfl) (by kernel_rfl) (by kernel_rfl) (by first | exact fun c a w h => hP c a _ _ w h | exact fun _ _ _ h => h) (Or.inl ⟨by rfl, ?_⟩) (by assumption) ?_
              rotate_left
              · intro W hS; have := HWM.out; go_simp; (try with_reducible rfl)
              simp only [Act.put, List.setIfInBounds_toArray, List.set_cons_zero, List.set_cons_succ]
              refine takeL (i := 12) (v := ?_) rfl (by kernel_rfl) (by kernel_rfl) (by kernel_rfl) (by first | exact fun c a w h => hP c a _ _ w h | exact fun _ _ _ h => h) (Or.inl ⟨by rfl, ?_⟩) (by assumption) ?_
              rotate_left
              · intro W hS; have := hS.2.2.1; have := hS.2.2.2.1; go_simp; (try with_reducible rfl)
              simp only [Act.put, List.setIfInBounds_toArray, List.set_cons_zero, List.set_cons_succ]
              refine wpAnyH_ready (rs := [13]) (by kernel_rfl) (by simp) ?_
              refine readyL rfl ?_ ?_
              rotate_left
              · exact AllReadyH.nil
              intro K hK
              go_simp
              go_wp2_with (first
                | (go_at_call 23; go_loud ((with_reducible refine (C2.out _).mono ?_); rintro e w2 ⟨rfl, p2⟩; have y0 := cell_below x0 p2; have y1 := cell_below x1 p2; have y2 := cell_below x2 p2; have y3 := cell_below x3 p2; have yb := Below.from p2 xb))
                | fail)
              refine hK.out _ _ (⟨y0, y1, y2, y3, yb⟩) (fun hNew => ?_)
              clear hK K
              replace hHeld := hNew
              clear hNew
              refine takeL (i := 14) (v := ?_) rfl (by kernel_rfl) (by kernel_rfl) (by kernel_rfl) (by first | exact fun c a w h => hP c a _ _ w h | exact fun _ _ _ h => h) (Or.inl ⟨by rfl, ?_⟩) (by assumption) ?_
              rotate_left
              · intro W hS; go_simp; (try with_reducible rfl)
              simp only [Act.put, List.setIfInBounds_toArray, List.set_cons_zero, List.set_cons_succ]
              refine takeL (i := 15) (v := ?_) rfl (by kernel_rfl) (by kernel_rfl) (by kernel_rfl) (by first | exact fun c a w h => hP c a _ _ w h | exact fun _ _ _ h => h) (Or.inl ⟨by rfl, ?_⟩) (by assumption) ?_
              rotate_left
              · intro W hS; go_simp; (try with_reducible rfl)
              simp only [Act.put, List.setIfInBounds_toArray, List.set_cons_zero, List.set_cons_succ]
              refine takeL (i := 16) (v := ?_) rfl (by kernel_rfl) (by kernel_rfl) (by kernel_rfl) (by first | exact fun c a w h => hP c a _ _ w h | exact fun _ _ _ h => h) (Or.inl ⟨by rfl, ?_⟩) (by assumption) ?_
              rotate_left
              · intro W hS; go_simp; (try with_reducible rfl)
              simp only [Act.put, List.setIfInBounds_toArray, List.set_cons_zero, List.set_cons_succ]
              refine wpAnyH_done (by kernel_rfl) ?_ _
              go_wp2
              go_ret
              exact ⟨ret_i64 HE.out.symm, yb⟩
            | true =>
              rw [hf] at c2
              have C2 := Lib.hid c2
              have HN := Lib.hid (hgo (HKS.out hf))
              clear hA hgo HK0 HKS HKN c2 hm hb hB hao3 hf h0
              go_upto_region 6 with fail
              refine wp_region_held_drew (S := fun W => W.cell? ⟨wr.heap.size, 0, none⟩ = some (.int .i64 a) ∧ W.cell? ⟨wr.heap.size, 1, none⟩ = some (.int .i64 f) ∧ W.cell? ⟨bb, bo + m * 2, none⟩ = some (.int .i64 b) ∧ W.cell? ⟨bb, bo + m * 2 + 1, none⟩ = some (.int .i64 g) ∧ Below w.heap.size w W) (by kernel_rfl) (⟨r0, r1, r2, r3, rb⟩) (fun hHeld => ?_)
              refine takeL (i := 0) (v := ?_) rfl (by kernel_rfl) (by kernel_rfl) (by kernel_rfl) (by first | exact fun c a w h => hP c a _ _ w h | exact fun _ _ _ h => h) (Or.inl ⟨by rfl, ?_⟩) (by assumption) ?_
              rotate_left
              · intro W hS; have := hS.1; have := hS.2.1; go_simp; (try with_reducible rfl)
              simp only [Act.put, List.setIfInBounds_toArray, List.set_cons_zero, List.set_cons_succ]
              refine wpAnyH_ready (rs := [1]) (by kernel_rfl) (by simp) ?_
              refine readyL rfl ?_ ?_
              rotate_left
              · exact AllReadyH.nil
              intro K hK
              go_simp
              go_wp2_with (first
                | (go_at_call 22; go_loud ((with_reducible refine (C1.out _).mono ?_); rintro e w1 ⟨rfl, p1⟩; have x0 := cell_below r0 p1; have x1 := cell_below r1 p1; have x2 := cell_below r2 p1; have x3 := cell_below r3 p1; have xb := Below.from p1 rb))
                | fail)
              refine hK.out _ _ (⟨x0, x1, x2, x3, xb⟩) (fun hNew => ?_)
              clear hK K
              replace hHeld := hNew
              clear hNew
              refine takeL (i := 2) (v := ?_) rfl (by kernel_rfl) (by kernel_rfl) (by kernel_rfl) (by first | exact fun c a w h => hP c a _ _ w h | exact fun _ _ _ h => h) (Or.inl ⟨by rfl, ?_⟩) (by assumption) ?_
              rotate_left
              · intro W hS; go_simp; (try with_reducible rfl)
              simp only [Act.put, List.setIfInBounds_toArray, List.set_cons_zero, List.set_cons_succ]
              refine takeL (i := 3) (v := ?_) rfl (by kernel_rfl) (by kernel_rfl) (by kernel_rfl) (by first | exact fun c a w h => hP c a _ _ w h | exact fun _ _ _ h => h) (Or.inl ⟨by rfl, ?_⟩) (by assumption) ?_
              rotate_left
              · intro W hS; go_simp; (try with_reducible rfl)
              simp only [Act.put, List.setIfInBounds_toArray, List.set_cons_zero, List.set_cons_succ]
              refine takeL (i := 4) (v := ?_) rfl (by kernel_rfl) (by kernel_rfl) (by kernel_rfl) (by first | exact fun c a w h => hP c a _ _ w h | exact fun _ _ _ h => h) (Or.inl ⟨by rfl, ?_⟩) (by assumption) ?_
              rotate_left
              · intro W hS; go_simp; (try with_reducible rfl)
              simp only [Act.put, List.setIfInBounds_toArray, List.set_cons_zero, List.set_cons_succ]
              refine takeL (i := 5) (v := ?_) rfl (by kernel_rfl) (by kernel_rfl) (by kernel_rfl) (by first | exact fun c a w h => hP c a _ _ w h | exact fun _ _ _ h => h) (Or.inl ⟨by rfl, ?_⟩) (by assumption) ?_
              rotate_left
              · intro W hS; go_simp; (try with_reducible rfl)
              simp only [Act.put, List.setIfInBounds_toArray, List.set_cons_zero, List.set_cons_succ]
              refine takeL (i := 6) (v := ?_) rfl (by kernel_rfl) (by kernel_rfl) (by kernel_rfl) (by first | exact fun c a w h => hP c a _ _ w h | exact fun _ _ _ h => h) (Or.inl ⟨by rfl, ?_⟩) (by assumption) ?_
              rotate_left
              · intro W hS; go_simp; (try with_reducible rfl)
              simp only [Act.put, List.setIfInBounds_toArray, List.set_cons_zero, List.set_cons_succ]
              refine takeL (i := 7) (v := ?_) rfl (by kernel_rfl) (by kernel_rfl) (by kernel_rfl) (by first | exact fun c a w h => hP c a _ _ w h | exact fun _ _ _ h => h) (Or.inl ⟨by rfl, ?_⟩) (by assumption) ?_
              rotate_left
              · intro W hS; have := hS.1; have := hS.2.1; go_simp; (try with_reducible rfl)
              simp only [Act.put, List.setIfInBounds_toArray, List.set_cons_zero, List.set_cons_succ]
              refine takeL (i := 8) (v := ?_) rfl (by kernel_rfl) (by kernel_rfl) (by kernel_rfl) (by first | exact fun c a w h => hP c a _ _ w h | exact fun _ _ _ h => h) (Or.inl ⟨by rfl, ?_⟩) (by assumption) ?_
              rotate_left
              · intro W hS; go_simp; (try with_reducible rfl)
              simp only [Act.put, List.setIfInBounds_toArray, List.set_cons_zero, List.set_cons_succ]
              refine takeL (i := 9) (v := ?_) rfl (by kernel_rfl) (by kernel_rfl) (by kernel_rfl) (by first | exact fun c a w h => hP c a _ _ w h | exact fun _ _ _ h => h) (Or.inl ⟨by rfl, ?_⟩) (by assumption) ?_
              rotate_left
              · intro W hS; go_simp; (try with_reducible rfl)
              simp only [Act.put, List.setIfInBounds_toArray, List.set_cons_zero, List.set_cons_succ]
              refine takeL (i := 10) (v := ?_) rfl (by kernel_rfl) (by kernel_rfl) (by kernel_rfl) (by first | exact fun c a w h => hP c a _ _ w h | exact fun _ _ _ h => h) (Or.inl ⟨by rfl, ?_⟩) (by assumption) ?_
              rotate_left
              · intro W hS; go_simp; (try with_reducible rfl)
              simp only [Act.put, List.setIfInBounds_toArray, List.set_cons_zero, List.set_cons_succ]
              refine takeL (i := 11) (v := ?_) rfl (by kernel_rfl) (by kernel_rfl) (by kernel_rfl) (by first | exact fun c a w h => hP c a _ _ w h | exact fun _ _ _ h => h) (Or.inl ⟨by rfl, ?_⟩) (by assumption) ?_
              rotate_left
              · intro W hS; have := HWM.out; go_simp; (try with_reducible rfl)
              simp only [Act.put, List.setIfInBounds_toArray, List.set_cons_zero, List.set_cons_succ]
              refine takeL (i := 12) (v := ?_) rfl (by kernel_rfl) (by kernel_rfl) (by kernel_rfl) (by first | exact fun c a w h => hP c a _ _ w h | exact fun _ _ _ h => h) (Or.inl ⟨by rfl, ?_⟩) (by assumption) ?_
              rotate_left
              · intro W hS; have := hS.2.2.1; have := hS.2.2.2.1; go_simp; (try with_reducible rfl)
              simp only [Act.put, List.setIfInBounds_toArray, List.set_cons_zero, List.set_cons_succ]
              refine wpAnyH_ready (rs := [13]) (by kernel_rfl) (by simp) ?_
              refine readyL rfl ?_ ?_
              rotate_left
              · exact AllReadyH.nil
              intro K hK
              go_simp
              go_wp2_with (first
                | (go_at_call 23; go_loud ((with_reducible refine (C2.out _).mono ?_); rintro e w2 ⟨rfl, p2⟩; have y0 := cell_below x0 p2; have y1 := cell_below x1 p2; have y2 := cell_below x2 p2; have y3 := cell_below x3 p2; have yb := Below.from p2 xb))
                | fail)
              refine hK.out _ _ (⟨y0, y1, y2, y3, yb⟩) (fun hNew => ?_)
              clear hK K
              replace hHeld := hNew
              clear hNew
              refine takeL (i := 14) (v := ?_) rfl (by kernel_rfl) (by kernel_rfl) (by kernel_rfl) (by first | exact fun c a w h => hP c a _ _ w h | exact fun _ _ _ h => h) (Or.inl ⟨by rfl, ?_⟩) (by assumption) ?_
              rotate_left
              · intro W hS; go_simp; (try with_reducible rfl)
              simp only [Act.put, List.setIfInBounds_toArray, List.set_cons_zero, List.set_cons_succ]
              refine takeL (i := 15) (v := ?_) rfl (by kernel_rfl) (by kernel_rfl) (by kernel_rfl) (by first | exact fun c a w h => hP c a _ _ w h | exact fun _ _ _ h => h) (Or.inl ⟨by rfl, ?_⟩) (by assumption) ?_
              rotate_left
              · intro W hS; go_simp; (try with_reducible rfl)
              simp only [Act.put, List.setIfInBounds_toArray, List.set_cons_zero, List.set_cons_succ]
              refine takeL (i := 16) (v := ?_) rfl (by kernel_rfl) (by kernel_rfl) (by kernel_rfl) (by first | exact fun c a w h => hP c a _ _ w h | exact fun _ _ _ h => h) (Or.inl ⟨by rfl, ?_⟩) (by assumption) ?_
              rotate_left
              · intro W hS; go_simp; (try with_reducible rfl)
              simp only [Act.put, List.setIfInBounds_toArray, List.set_cons_zero, List.set_cons_succ]
              refine wpAnyH_done (by kernel_rfl) ?_ _
              go_wp2
              refine ⟨⟨m + 1 + 1, by go_num, by omega, HN.out, yb⟩, ?_⟩
              simp [intOf]; omega
      · have HN : Hid (0 = E) := Lib.hid (by rw [HE.out, chkE_0 ⟨⟨HLE.out.1, HLE.out.2, HP0.out⟩, fun j hj => HS.out j (by omega)⟩])
        go_wp2
        go_ret
        exact ⟨ret_i64 HN.out, HB.out⟩
  · have t3 : (x0 != 0) = true := by rw [bne_iff_ne]; exact h2
    have HE : Hid (100 = E) := Lib.hid (by rw [hE, chkE_100 (fun h => h2 (by rw [← hP0]; exact h.1.2.2))])
    clear hE h0 h1 h2 hP0 hx0
    go_enter Try.func10, Try.ntmps10
    go_wp2
    go_ret
    exact ⟨ret_i64 HE.out, Below.refl _ _⟩

end Go.Proofs.Ytoiahlbaiakngaa.Prof
