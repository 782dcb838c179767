/-
  The walk of the program's Allows.
-/
import Derived.Test.YtlmogkhgangmgaaShapeBest
namespace Go.Proofs.Ytlmogkhgangmgaa.Shape
open Go.RowKit Go.Shelf
open Base
set_option linter.unusedVariables false
set_option linter.unusedSimpArgs false

attribute [local go_sem] Oper.semAt_some

def onB (k mn mx : Int) (a n : Int) : Bool := (a == n) || ((k == 3) && frB n mn mx)
def allowB (k : Int) (Z : List Alt) (mn mx c n : Int) : Bool :=
  if 0 ≤ c then (match Z[c.toNat]? with
    | none => false
    | some a => onB k mn mx a.1 n)
  else false

/-- What the loop's own boxes hold: nothing found so far. -/
def AllowI (w : World) (k : Int) (sl : Value) (mn mx wl c n : Int) (pre : List Alt) (W : World) : Prop :=
  (((((((Boxed W (w.heap.size + 1 + 1 + 1 + 1) 3 (.int .i64 (pre.length : Int)) ∧ SBox W w.heap.size k sl mn mx wl) ∧ Boxed W (w.heap.size + 1) 3 (.int .i64 c)) ∧ Boxed W (w.heap.size + 1 + 1) 3 (.int .i64 n)) ∧
    Boxed W (w.heap.size + 1 + 1 + 1) 4 (.bool false)) ∧ ∀ j, j < pre.length → (j : Int) ≠ c)) ∧ w.heap.size + 6 ≤ W.heap.size) ∧ Below w.heap.size w W
theorem allowI_own (w : World) (k : Int) (sl : Value) (mn mx wl c n : Int) (B : Nat) (hB : w.heap.size ≤ B) : OwnFrom B (AllowI w k sl mn mx wl c n) :=
  OwnFrom.and (OwnFrom.and (OwnFrom.and (OwnFrom.and (OwnFrom.and (OwnFrom.and (OwnFrom.and (Go.Own.from (boxed_own _ _ _) _) (Go.Own.from (heap_own _ _ rfl) _)) (Go.Own.from (boxed_own _ _ _) _)) (Go.Own.from (boxed_own _ _ _) _)) (Go.Own.from (boxed_own _ _ _) _)) (ownFrom_pure _ _)) (ownFrom_size _ _)) (ownFrom_below (Nat.le_refl _) hB)
/-- What they hold where one was found. -/
def AllowX (w : World) (k mn mx c n : Int) (cd : Code) (pre : List Alt) (W : World) : Prop :=
  ((cd = .ret ∧ ∃ q a, pre = q ++ [a] ∧ (q.length : Int) = c ∧ Boxed W (w.heap.size + 1 + 1 + 1) 4 (.bool (onB k mn mx a.1 n)))) ∧ Below w.heap.size w W
theorem allowX_own (w : World) (k mn mx c n : Int) (cd : Code) (B : Nat) (hB : w.heap.size ≤ B) : OwnFrom B (AllowX w k mn mx c n cd) :=
  OwnFrom.and (Go.Own.from (fun s X Y row hs hg hr => by
    obtain ⟨h1, q, a, h2, h3, h4⟩ := hs
    exact ⟨h1, q, a, h2, h3, boxed_own _ _ (fun _ : Unit => Value.bool (onB k mn mx a.1 n)) () X Y row h4 hg hr⟩) _) (ownFrom_below (Nat.le_refl _) hB)

theorem allow_yes {k : Int} {Z : List Alt} {mn mx c n : Int} {pre q : List Alt} {a : Alt} (hp : pre <+: Z) (h1 : pre = q ++ [a]) (h2 : (q.length : Int) = c) : onB k mn mx a.1 n = allowB k Z mn mx c n := by
  obtain ⟨t, rfl⟩ := hp
  subst h1 h2
  unfold allowB
  rw [if_pos (by omega), Int.toNat_natCast]
  simp
theorem allow_no {k : Int} {Z : List Alt} {mn mx c n : Int} (h : ∀ j, j < Z.length → (j : Int) ≠ c) : false = allowB k Z mn mx c n := by
  unfold allowB
  by_cases hc : 0 ≤ c
  · rw [if_pos hc]
    have : Z.length ≤ c.toNat := by
      rcases Nat.lt_or_ge c.toNat Z.length with h1 | h1
      · exact absurd (by omega) (h _ h1)
      · exact h1
    rw [List.getElem?_eq_none this]
  · rw [if_neg hc]

set_option maxRecDepth 100000 in
set_option maxHeartbeats 4000000 in
theorem allows_in {F : Fence} (hF : IsWide F) (N : Nat) (hn : 6 ≤ N) (k : Int) (ao : Option Addr) (len cap : Nat) (zs : List Alt) (mn mx wl c n : Int) (w : World)
    (hlen : zs.length = len) (hl : len ≤ cap) (hcap : cap ≤ maxLen) (hr : ReadsS 2 altC w ao zs) :
    CallsIn F N Try.prog 21 #[.agg #[.int .i64 k, .slice ao len cap, .int .i64 mn, .int .i64 mx, .int .i64 wl], .int .i64 c, .int .i64 n] w
      fun e W' => e = .returned (.bool (allowB k (optL k zs mn mx wl) mn mx c n)) ∧ Below w.heap.size w W' := by
  have h1 : 1 ≤ N := by omega
  have h2 : 1 ≤ N - 1 - 1 := by omega
  have hro := roF hF
  have hSt := fun (W0 : World) (Bn : Nat) (hu : Below w.heap.size w W0) (hS : SBox W0 Bn k (.slice ao len cap) mn mx wl) (hB : w.heap.size ≤ Bn) => each_stops hF (N - 1) (by omega) Bn k ao len cap zs mn mx wl w W0 hlen hl hcap hr hu hS hB
  have cE := fun w => eachOption_any k (.slice ao len cap) ao len cap mn mx wl w rfl
  have hZ48 := (optL_good k zs mn mx wl).2
  obtain ⟨Z, hZ⟩ : ∃ Z, Z = optL k zs mn mx wl := ⟨_, rfl⟩
  rw [← hZ] at hSt hZ48 ⊢
  have HST := Lib.hid hSt
  have CE := Lib.hid cE
  have f31 : F.fn 31 := fnF hF _
  have f35 : F.fn 35 := fnF hF _
  clear hSt cE hZ hr hlen
  refine callsIn_of_wp_marks Try.func21 rfl (fnF hF _) ?_ hro
  simp only [Try.ntmps21, List.size_toArray, List.length_cons, List.length_nil, Nat.reduceAdd, Nat.reduceSub, Array.replicate_succ, Array.replicate_zero, List.push_toArray, List.append_toArray, List.nil_append, List.cons_append]
  gi_wp2_with (first
    | (gi_at_call 31; refine (inF hF (CE.out _)).mono ?_; rintro e w' ⟨rfl, rfl⟩)
    | fail)
  obtain ⟨W0, hW0⟩ : ∃ W0, ((((((w.alloc (.cells #[.int .i64 k, .slice ao len cap, .int .i64 mn, .int .i64 mx, .int .i64 wl] 24)).alloc (.cells #[.int .i64 c] 3)).alloc (.cells #[.int .i64 n] 3)).alloc (.cells #[.bool false] 4)).alloc (.cells #[.int .i64 0] 3)).alloc (.cells #[.int .i64 k, .slice ao len cap, .int .i64 mn, .int .i64 mx, .int .i64 wl] 24)) = W0 := ⟨_, rfl⟩
  have bS : SBox W0 (w.heap.size + 1 + 1 + 1 + 1 + 1) k (.slice ao len cap) mn mx wl := by
    have := SBox.new (((((w.alloc (.cells #[.int .i64 k, .slice ao len cap, .int .i64 mn, .int .i64 mx, .int .i64 wl] 24)).alloc (.cells #[.int .i64 c] 3)).alloc (.cells #[.int .i64 n] 3)).alloc (.cells #[.bool false] 4)).alloc (.cells #[.int .i64 0] 3)) k (.slice ao len cap) mn mx wl
    rw [hW0] at this; simpa using this
  have b0 : SBox W0 (w.heap.size) k (.slice ao len cap) mn mx wl := by
    have := (((((SBox.new w k (.slice ao len cap) mn mx wl).alloc (.cells #[.int .i64 c] 3)).alloc (.cells #[.int .i64 n] 3)).alloc (.cells #[.bool false] 4)).alloc (.cells #[.int .i64 0] 3)).alloc (.cells #[.int .i64 k, .slice ao len cap, .int .i64 mn, .int .i64 mx, .int .i64 wl] 24)
    rw [hW0] at this; simpa using this
  have b1 : Boxed W0 (w.heap.size + 1) 3 (.int .i64 c) := by
    have := ((((Boxed.new (w.alloc (.cells #[.int .i64 k, .slice ao len cap, .int .i64 mn, .int .i64 mx, .int .i64 wl] 24)) 3 (.int .i64 c)).alloc (.cells #[.int .i64 n] 3)).alloc (.cells #[.bool false] 4)).alloc (.cells #[.int .i64 0] 3)).alloc (.cells #[.int .i64 k, .slice ao len cap, .int .i64 mn, .int .i64 mx, .int .i64 wl] 24)
    rw [hW0] at this; simpa using this
  have b2 : Boxed W0 (w.heap.size + 1 + 1) 3 (.int .i64 n) := by
    have := (((Boxed.new ((w.alloc (.cells #[.int .i64 k, .slice ao len cap, .int .i64 mn, .int .i64 mx, .int .i64 wl] 24)).alloc (.cells #[.int .i64 c] 3)) 3 (.int .i64 n)).alloc (.cells #[.bool false] 4)).alloc (.cells #[.int .i64 0] 3)).alloc (.cells #[.int .i64 k, .slice ao len cap, .int .i64 mn, .int .i64 mx, .int .i64 wl] 24)
    rw [hW0] at this; simpa using this
  have b3 : Boxed W0 (w.heap.size + 1 + 1 + 1) 4 (.bool false) := by
    have := ((Boxed.new (((w.alloc (.cells #[.int .i64 k, .slice ao len cap, .int .i64 mn, .int .i64 mx, .int .i64 wl] 24)).alloc (.cells #[.int .i64 c] 3)).alloc (.cells #[.int .i64 n] 3)) 4 (.bool false)).alloc (.cells #[.int .i64 0] 3)).alloc (.cells #[.int .i64 k, .slice ao len cap, .int .i64 mn, .int .i64 mx, .int .i64 wl] 24)
    rw [hW0] at this; simpa using this
  have b4 : Boxed W0 (w.heap.size + 1 + 1 + 1 + 1) 3 (.int .i64 0) := by
    have := (Boxed.new ((((w.alloc (.cells #[.int .i64 k, .slice ao len cap, .int .i64 mn, .int .i64 mx, .int .i64 wl] 24)).alloc (.cells #[.int .i64 c] 3)).alloc (.cells #[.int .i64 n] 3)).alloc (.cells #[.bool false] 4)) 3 (.int .i64 0)).alloc (.cells #[.int .i64 k, .slice ao len cap, .int .i64 mn, .int .i64 mx, .int .i64 wl] 24)
    rw [hW0] at this; simpa using this
  have hsz : W0.heap.size = w.heap.size + 6 := by rw [← hW0]; simp
  have hB0 : Below w.heap.size w W0 := by
    rw [← hW0]; exact ((((((Below.refl _ w).alloc (Nat.le_refl _) _).alloc (by simp) _).alloc (by simp; omega) _).alloc (by simp; omega) _).alloc (by simp; omega) _).alloc (by simp; omega) _
  rw [hW0]
  clear hW0
  have hW06 : w.heap.size + 6 ≤ W0.heap.size := by omega
  clear hsz
  refine wpIn_rangeFunc_ownH hro h1 (gf := 40) (lb := #[.pointer (some ⟨w.heap.size + 1 + 1 + 1 + 1 + 1, 0, none⟩)]) rfl (fnF hF _) (enters_of Try.func40 (by kernel_rfl) rfl)
    (HST.out W0 (w.heap.size + 1 + 1 + 1 + 1 + 1) hB0 bS (by omega)) kpB_t (kpB_b (by omega) (by omega)) (Below.refl _ _) (fun _ => rfl)
    (AllowI w k (.slice ao len cap) mn mx wl c n) (AllowX w k mn mx c n) (allowI_own w _ _ _ _ _ _ _ _ (by omega)) (fun cd => allowX_own w _ _ _ _ _ cd _ (by omega))
    ⟨⟨⟨⟨⟨⟨⟨b4, b0⟩, b1⟩, b2⟩, b3⟩, fun j hj => absurd hj (Nat.not_lt_zero _)⟩, hW06⟩, hB0⟩
    (fun x a' W => ∃ Bx, w.heap.size + 5 < Bx ∧ ABox W Bx x ∧ a' = { tmps := #[.agg #[.int .i64 k, .slice ao len cap, .int .i64 mn, .int .i64 mx, .int .i64 wl], .int .i64 c, .int .i64 n, .pointer (some ⟨w.heap.size, 0, none⟩), .pointer (some ⟨w.heap.size + 1, 0, none⟩), .pointer (some ⟨w.heap.size + 1 + 1, 0, none⟩), .pointer (some ⟨w.heap.size + 1 + 1 + 1, 0, none⟩), .pointer (some ⟨w.heap.size + 1 + 1 + 1 + 1, 0, none⟩), .pointer (some ⟨Bx, 0, none⟩), .agg #[.int .i64 k, .slice ao len cap, .int .i64 mn, .int .i64 mx, .int .i64 wl], .func (.func 40) #[] #[.pointer (some ⟨w.heap.size + 1 + 1 + 1 + 1 + 1, 0, none⟩)], altV x, undef, undef, undef, undef, undef, undef, undef, undef, undef, undef, undef, undef, undef, undef, undef, undef, undef, undef, undef, undef, undef, undef], defers := [] })
    (fun x a' _ X Y row hs hg hr => by obtain ⟨Bx, h1, h2, h3⟩ := hs; exact ⟨Bx, h1, heap_own Bx _ rfl () X Y row h2 hg (fun r e => (hr r e).2), h3⟩)
    ?assign ?body ?done ?stop
  case assign =>
    rintro l pre x W K ⟨⟨⟨⟨⟨⟨⟨b4, b0⟩, b1⟩, b2⟩, b3⟩, hno⟩, hz1⟩, hB1⟩ hK
    gi_wp2
    exact hK _ _ ((KeepsOthers.alloc _ _).from _) (kpB_alloc _ _ _ _ (by omega) (by omega)) ⟨⟨⟨⟨⟨⟨⟨b4.alloc _, b0.alloc _⟩, b1.alloc _⟩, b2.alloc _⟩, b3.alloc _⟩, hno⟩, by simp; omega⟩, hB1.alloc (by omega) _⟩ ⟨W.heap.size, by omega, ABox.new W x, rfl⟩
  case body =>
    rintro l pre x a' W hl0 hr0 ⟨⟨⟨⟨⟨⟨⟨b4, b0⟩, b1⟩, b2⟩, b3⟩, hno⟩, hz1⟩, hB1⟩ ⟨Bx, hBx, bX, rfl⟩ hlt
    have c4 := b4.cell
    have f4 := b4.frozen
    obtain ⟨s0, _, s2, s3, _⟩ := b0.cells
    have c1 := b1.cell
    have c2 := b2.cell
    have c3 := b3.cell
    have f3 := b3.frozen
    obtain ⟨xn, xw⟩ := x
    obtain ⟨y0, y1⟩ := bX.cells
    dsimp only at y0 y1
    have hp48 : pre.length < 48 := by omega
    have hks : ∀ v, KpB w.heap.size (w.heap.size + 1 + 1 + 1 + 1 + 1) W (W.setCell ⟨w.heap.size + 1 + 1 + 1 + 1, 0, none⟩ v) := fun v => kpB_set _ _ _ _ _ (by simp; omega) (by simp)
    by_cases hx : (pre.length : Int) = c
    · have t0 : ((pre.length : Int) == c) = true := by simpa using hx
      have hX : ∀ v, v = onB k mn mx xn n → AllowX w k mn mx c n .ret (pre ++ [(xn, xw)]) (W.setCell ⟨w.heap.size + 1 + 1 + 1, 0, none⟩ (.bool v)) := fun v hv => by
        subst hv
        exact ⟨⟨rfl, pre, (xn, xw), rfl, hx, b3.set _⟩, hB1.setCell (p := ⟨w.heap.size + 1 + 1 + 1, 0, none⟩) (by simp; omega) _⟩
      have HX := Lib.hid hX
      have HON : Hid (onB k mn mx xn n = ((xn == n) || ((k == 3) && frB n mn mx))) := Lib.hid rfl
      clear hX hks b0 b1 b2 b3 b4 hB1 hno hx
      cases t1 : (xn == n) with
      | true =>
        have HT : Hid (true = onB k mn mx xn n) := Lib.hid (by rw [HON.out, t1]; rfl)
        gi_wp2
        all_goals first
          | exact ⟨(KeepsOthers.setCell _ _ _).from _, HX.out _ HT.out⟩
          | (exfalso; rename_i hu _; simp [undef] at hu; done)
      | false =>
        cases t2 : (k == 3) with
        | false =>
          have HT : Hid (false = onB k mn mx xn n) := Lib.hid (by rw [HON.out, t1, t2]; rfl)
          gi_wp2
          exact ⟨(KeepsOthers.setCell _ _ _).from _, HX.out _ HT.out⟩
        | true =>
          have HT : Hid (frB n mn mx = onB k mn mx xn n) := Lib.hid (by rw [HON.out, t1, t2]; simp)
          gi_wp2_with (first
            | (gi_at_call 35; refine (CallsIn.inRound l (inF hF (isFrom_any _ _ _ _))).mono ?_; rintro e w' ⟨rfl, rfl⟩)
            | fail)
          exact ⟨(KeepsOthers.setCell _ _ _).from _, HX.out _ HT.out⟩
    · have t0 : ((pre.length : Int) == c) = false := by simpa using hx
      have hI : AllowI w k (.slice ao len cap) mn mx wl c n (pre ++ [(xn, xw)]) (W.setCell ⟨w.heap.size + 1 + 1 + 1 + 1, 0, none⟩ (.int .i64 ((pre.length : Int) + 1))) :=
        ⟨⟨⟨⟨⟨⟨⟨by have := b4.set (.int .i64 ((pre.length : Int) + 1)); simpa using this, b0.kept (B' := w.heap.size + 1) ((Below.refl _ W).setCell (p := ⟨w.heap.size + 1 + 1 + 1 + 1, 0, none⟩) (by first | (simp; done) | (simp; omega)) _) (by omega)⟩, b1.other (by omega) _⟩, b2.other (by omega) _⟩, b3.other (by omega) _⟩, fun j hj => by
          simp at hj
          by_cases he : j = pre.length
          · subst he; exact hx
          · exact hno j (by omega)⟩, by rw [World.size_setCell]; exact hz1⟩, hB1.setCell (p := ⟨w.heap.size + 1 + 1 + 1 + 1, 0, none⟩) (by simp; omega) _⟩
      have HI := Lib.hid hI
      have HKS := Lib.hid hks
      clear hI hks b0 b1 b2 b3 b4 hB1 hno hx
      gi_wp2
      exact ⟨(KeepsOthers.setCell _ _ _).from _, HKS.out _, HI.out⟩
  case done =>
    rintro D ys W hD rfl ⟨⟨⟨⟨⟨⟨⟨b4, b0⟩, b1⟩, b2⟩, b3⟩, hno⟩, hz1⟩, hB1⟩ hK
    have c3 := b3.cell
    have f3 := b3.frozen
    have HNO := Lib.hid (allow_no (k := k) (mn := mn) (mx := mx) (n := n) hno)
    gi_wp2
    have hK' := (KeepsOthers.setCell W ⟨w.heap.size + 1 + 1 + 1, 0, none⟩ (.bool false)).same D _ hK rfl
    refine ⟨by simp, .inl ⟨_, _, rfl, run_takeDeferred hK', ?_⟩⟩
    have hc5 := cell_kept (World.cell?_setCell_same' W ⟨w.heap.size + 1 + 1 + 1, 0, none⟩ (.bool false) (by rw [c3]; rfl)) (grownBy_putObj' _ D (.deferred none)) (fun r e => by cases e; exact ⟨_, hK', rfl⟩)
    refine ⟨.bool false, ?_, ret_bool HNO.out, (hB1.setCell (p := ⟨w.heap.size + 1 + 1 + 1, 0, none⟩) (by simp; omega) _).trans (belowK_b (w := w) (Nat.le_refl _) _ D _ _ (by omega) hK' rfl rfl)⟩
    simp [results, Try.f21, go_sem, hc5]
  case stop =>
    rintro D cd pre W hD hpre ⟨⟨rfl, q, a, hpq, hq, b3⟩, hB1⟩ hK
    have HYES := Lib.hid (allow_yes (k := k) (mn := mn) (mx := mx) (n := n) hpre hpq hq)
    have c3 := b3.cell
    gi_wp2
    refine ⟨by simp, .inl ⟨_, _, rfl, run_takeDeferred hK, ?_⟩⟩
    have hc5 := cell_kept c3 (grownBy_putObj' _ D (.deferred none)) (fun r e => by cases e; exact ⟨_, hK, rfl⟩)
    refine ⟨.bool (onB k mn mx a.1 n), ?_, ret_bool HYES.out, hB1.trans (belowK_b (w := w) (Nat.le_refl _) W D _ _ (by omega) hK rfl rfl)⟩
    simp [results, Try.f21, go_sem, hc5]

theorem sallows_any (k : Int) (ao : Option Addr) (len cap : Nat) (zs : List Alt) (mn mx wl c n : Int) (w : World) (hlen : zs.length = len) (hl : len ≤ cap) (hcap : cap ≤ maxLen) (hr : ReadsS 2 altC w ao zs) :
    Calls Try.prog 21 #[.agg #[.int .i64 k, .slice ao len cap, .int .i64 mn, .int .i64 mx, .int .i64 wl], .int .i64 c, .int .i64 n] w
      fun e W' => e = .returned (.bool (allowB k (optL k zs mn mx wl) mn mx c n)) ∧ Below w.heap.size w W' :=
  callsIn_wide.1 (allows_in (F := Fence.wide) rfl 6 (Nat.le_refl _) k ao len cap zs mn mx wl c n w hlen hl hcap hr)

end Go.Proofs.Ytlmogkhgangmgaa.Shape
