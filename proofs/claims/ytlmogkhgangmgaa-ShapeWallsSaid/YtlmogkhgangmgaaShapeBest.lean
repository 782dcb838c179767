/-
  The walks of the program's least and greatest size.
-/
import Derived.Test.YtlmogkhgangmgaaShapeSeq
namespace Go.Proofs.Ytlmogkhgangmgaa.Shape
open Go.RowKit Go.Shelf
open Base
set_option linter.unusedVariables false
set_option linter.unusedSimpArgs false

attribute [local go_sem] Oper.semAt_some

set_option maxHeartbeats 1000000 in
theorem less_any (n b : Int) (w : World) :
    Calls Try.prog 33 #[.int .i64 n, .int .i64 b] w fun e w' => e = .returned (.bool (lessB n b)) ∧ w = w' := by
  go_enter Try.func33, Try.ntmps33
  go_wp2
  go_ret
  exact ⟨rfl, rfl⟩
set_option maxHeartbeats 1000000 in
theorem more_any (n b : Int) (w : World) :
    Calls Try.prog 34 #[.int .i64 n, .int .i64 b] w fun e w' => e = .returned (.bool (moreB n b)) ∧ w = w' := by
  go_enter Try.func34, Try.ntmps34
  go_wp2
  go_ret
  exact ⟨rfl, rfl⟩

/-- A block of the caller's own, of cells, is left by the turn of others. -/
theorem heap_own {β : Type} (B : Nat) (o : Obj) (ho : o.isCells = true) : Go.Own (fun (_ : β) W => W.heap[B]? = some o) := fun s X Y row hs hg hrow => by
  change X.heap[B]? = some o at hs
  show Y.heap[B]? = some o
  rw [hg.block B (Array.getElem?_eq_some_iff.1 hs).1 (fun e => by obtain ⟨o', h1, h2⟩ := hrow B e.symm; rw [hs] at h1; cases h1; rw [ho] at h2; cases h2)]
  exact hs
theorem ownFrom_size {β : Type} (B m : Nat) : OwnFrom B (fun (_ : β) W => m ≤ W.heap.size) := fun _ _ _ _ hs hg _ => Nat.le_trans hs hg.size

/-- Block B is an alternative's box. -/
def ABox (W : World) (B : Nat) (x : Alt) : Prop := W.heap[B]? = some (.cells #[.int .i64 x.1, .int .i64 x.2] 38)
theorem ABox.new (W : World) (x : Alt) : ABox (W.alloc (.cells #[.int .i64 x.1, .int .i64 x.2] 38)) W.heap.size x := heap_alloc_new W _
theorem ABox.cells {W : World} {B : Nat} {x : Alt} (h : ABox W B x) : W.cell? ⟨B, 0, none⟩ = some (.int .i64 x.1) ∧ W.cell? ⟨B, 1, none⟩ = some (.int .i64 x.2) := by
  unfold ABox at h; simp [World.cell?, h]
theorem ABox.lt {W : World} {B : Nat} {x : Alt} (h : ABox W B x) : B < W.heap.size := (Array.getElem?_eq_some_iff.1 h).1

/-- What the loop's own boxes hold. -/
def BestI (w : World) (f : FuncId) (pref : Int → Int → Bool) (pre : List Alt) (W : World) : Prop :=
  ((Boxed W (w.heap.size + 1 + 1) 3 (.int .i64 (bestN pref pre)) ∧ Boxed W (w.heap.size + 1) 47 (.func (.func f) #[] #[])) ∧ w.heap.size + 4 ≤ W.heap.size) ∧ Below w.heap.size w W
theorem bestI_own (w : World) (f : FuncId) (pref : Int → Int → Bool) (B : Nat) (hB : w.heap.size ≤ B) : OwnFrom B (BestI w f pref) :=
  OwnFrom.and (OwnFrom.and (OwnFrom.and (Go.Own.from (boxed_own _ _ _) _) (Go.Own.from (boxed_own _ _ _) _)) (ownFrom_size _ _)) (ownFrom_below (Nat.le_refl _) hB)

/-- A new block leaves another one; so does a store. -/
theorem kpB_alloc (n₀ B : Nat) (W : World) (o : Obj) (hn : n₀ ≤ W.heap.size) (hB : B < W.heap.size) : KpB n₀ B W (W.alloc o) :=
  ⟨(Below.refl _ W).alloc hn o, (below_one (w := W) o).block _ hB⟩
theorem kpB_set (n₀ B : Nat) (W : World) (p : Addr) (v : Value) (hn : n₀ ≤ p.block) (hB : B ≠ p.block) : KpB n₀ B W (W.setCell p v) :=
  ⟨(Below.refl _ W).setCell hn v, Below.heap_setCell _ _ _ _ hB⟩
theorem kpB_refl (n₀ B : Nat) (W : World) : KpB n₀ B W W := ⟨Below.refl _ W, rfl⟩


set_option maxRecDepth 100000 in
set_option maxHeartbeats 4000000 in
theorem least_in {F : Fence} (hF : IsWide F) (n : Nat) (hn : 6 ≤ n) (k : Int) (ao : Option Addr) (len cap : Nat) (zs : List Alt) (mn mx wl : Int) (w : World)
    (hlen : zs.length = len) (hl : len ≤ cap) (hcap : cap ≤ maxLen) (hr : ReadsS 2 altC w ao zs) :
    CallsIn F n Try.prog 32 #[.agg #[.int .i64 k, .slice ao len cap, .int .i64 mn, .int .i64 mx, .int .i64 wl], .func (.func 33) #[] #[]] w
      fun e W' => e = .returned (.int .i64 (bestN lessB (optL k zs mn mx wl))) ∧ Below w.heap.size w W' := by
  have h1 : 1 ≤ n := by omega
  have h2 : 1 ≤ n - 1 - 1 := by omega
  have hro := roF hF
  have hSt := fun (W0 : World) (Bn : Nat) (hu : Below w.heap.size w W0) (hS : SBox W0 Bn k (.slice ao len cap) mn mx wl) (hB : w.heap.size ≤ Bn) => each_stops hF (n - 1) (by omega) Bn k ao len cap zs mn mx wl w W0 hlen hl hcap hr hu hS hB
  have cE := fun w => eachOption_any k (.slice ao len cap) ao len cap mn mx wl w rfl
  obtain ⟨Z, hZ⟩ : ∃ Z, Z = optL k zs mn mx wl := ⟨_, rfl⟩
  rw [← hZ] at hSt ⊢
  have HST := Lib.hid hSt
  have CE := Lib.hid cE
  have f31 : F.fn 31 := fnF hF _
  have f33 : F.fn 33 := fnF hF _
  clear hSt cE hZ hr hlen
  refine callsIn_of_wp_marks Try.func32 rfl (fnF hF _) ?_ hro
  simp only [Try.ntmps32, List.size_toArray, List.length_cons, List.length_nil, Nat.reduceAdd, Nat.reduceSub, Array.replicate_succ, Array.replicate_zero, List.push_toArray, List.append_toArray, List.nil_append, List.cons_append]
  gi_wp2_with (first
    | (gi_at_call 31; refine (inF hF (CE.out _)).mono ?_; rintro e w' ⟨rfl, rfl⟩)
    | fail)
  obtain ⟨W0, hW0⟩ : ∃ W0, (((w.alloc (.cells #[.int .i64 k, .slice ao len cap, .int .i64 mn, .int .i64 mx, .int .i64 wl] 24)).alloc (.cells #[.func (.func 33) #[] #[]] 47)).alloc (.cells #[.int .i64 0] 3)).alloc (.cells #[.int .i64 k, .slice ao len cap, .int .i64 mn, .int .i64 mx, .int .i64 wl] 24) = W0 := ⟨_, rfl⟩
  have bS : SBox W0 (w.heap.size + 1 + 1 + 1) k (.slice ao len cap) mn mx wl := by
    have := SBox.new (((w.alloc (.cells #[.int .i64 k, .slice ao len cap, .int .i64 mn, .int .i64 mx, .int .i64 wl] 24)).alloc (.cells #[.func (.func 33) #[] #[]] 47)).alloc (.cells #[.int .i64 0] 3)) k (.slice ao len cap) mn mx wl
    rw [hW0] at this; simpa using this
  have bB : Boxed W0 (w.heap.size + 1 + 1) 3 (.int .i64 0) := by
    have := (Boxed.new ((w.alloc (.cells #[.int .i64 k, .slice ao len cap, .int .i64 mn, .int .i64 mx, .int .i64 wl] 24)).alloc (.cells #[.func (.func 33) #[] #[]] 47)) 3 (.int .i64 0)).alloc (.cells #[.int .i64 k, .slice ao len cap, .int .i64 mn, .int .i64 mx, .int .i64 wl] 24)
    rw [hW0] at this; simpa using this
  have bP : Boxed W0 (w.heap.size + 1) 47 (.func (.func 33) #[] #[]) := by
    have := ((Boxed.new (w.alloc (.cells #[.int .i64 k, .slice ao len cap, .int .i64 mn, .int .i64 mx, .int .i64 wl] 24)) 47 (.func (.func 33) #[] #[])).alloc (.cells #[.int .i64 0] 3)).alloc (.cells #[.int .i64 k, .slice ao len cap, .int .i64 mn, .int .i64 mx, .int .i64 wl] 24)
    rw [hW0] at this; simpa using this
  have hsz : W0.heap.size = w.heap.size + 4 := by rw [← hW0]; simp
  have hB0 : Below w.heap.size w W0 := by
    rw [← hW0]; exact ((((Below.refl _ w).alloc (Nat.le_refl _) _).alloc (by simp) _).alloc (by simp; omega) _).alloc (by simp; omega) _
  rw [hW0]
  clear hW0
  have HSZ := Lib.hid hsz
  have hW04 : w.heap.size + 4 ≤ W0.heap.size := by omega
  clear hsz
  refine wpIn_rangeFunc_ownH hro h1 (gf := 40) (lb := #[.pointer (some ⟨w.heap.size + 1 + 1 + 1, 0, none⟩)]) rfl (fnF hF _) (enters_of Try.func40 (by kernel_rfl) rfl)
    (HST.out W0 (w.heap.size + 1 + 1 + 1) hB0 bS (by omega)) kpB_t (kpB_b (by omega) (by omega)) (Below.refl _ _) (fun _ => rfl)
    (BestI w 33 lessB) (fun _ _ _ => False) (bestI_own w _ _ _ (by omega)) (fun _ _ _ _ _ hs _ _ => hs)
    ⟨⟨⟨bB, bP⟩, hW04⟩, hB0⟩
    (fun x a' W => ∃ Bx, w.heap.size + 3 < Bx ∧ ABox W Bx x ∧ a' = { tmps := #[.agg #[.int .i64 k, .slice ao len cap, .int .i64 mn, .int .i64 mx, .int .i64 wl], .func (.func 33) #[] #[], .pointer (some ⟨w.heap.size, 0, none⟩), .pointer (some ⟨w.heap.size + 1, 0, none⟩), .int .i64 0, .pointer (some ⟨w.heap.size + 1 + 1, 0, none⟩), .pointer (some ⟨Bx, 0, none⟩), .agg #[.int .i64 k, .slice ao len cap, .int .i64 mn, .int .i64 mx, .int .i64 wl], .func (.func 40) #[] #[.pointer (some ⟨w.heap.size + 1 + 1 + 1, 0, none⟩)], altV x, undef, undef, undef, undef, undef, undef, undef, undef, undef, undef, undef, undef], defers := [] })
    (fun x a' _ X Y row hs hg hr => by obtain ⟨Bx, h1, h2, h3⟩ := hs; exact ⟨Bx, h1, heap_own Bx _ rfl () X Y row h2 hg (fun r e => (hr r e).2), h3⟩)
    ?assign ?body ?done ?stop
  case assign =>
    rintro l pre x W K ⟨⟨⟨bB1, bP1⟩, hz1⟩, hB1⟩ hK
    gi_wp2
    exact hK _ _ ((KeepsOthers.alloc _ _).from _) (kpB_alloc _ _ _ _ (by omega) (by omega)) ⟨⟨⟨bB1.alloc _, bP1.alloc _⟩, by simp; omega⟩, hB1.alloc (by omega) _⟩ ⟨W.heap.size, by omega, ABox.new W x, rfl⟩
  case body =>
    rintro l pre x a' W hl0 hr0 ⟨⟨⟨bB1, bP1⟩, hz1⟩, hB1⟩ ⟨Bx, hBx, bX, rfl⟩ hlt
    have hbN := bestN_snoc lessB pre x
    obtain ⟨b, hb⟩ : ∃ b, b = bestN lessB pre := ⟨_, rfl⟩
    rw [← hb] at bB1 hbN
    have hc := bB1.cell
    have hf := bB1.frozen
    have hp := bP1.cell
    obtain ⟨xn, xw⟩ := x
    obtain ⟨y0, y1⟩ := bX.cells
    dsimp only at y0 y1 hbN
    have cL := fun W => less_any xn b W
    have hset : BestI w 33 lessB (pre ++ [(xn, xw)]) (W.setCell ⟨w.heap.size + 1 + 1, 0, none⟩ (.int .i64 (bestN lessB (pre ++ [(xn, xw)])))) :=
      ⟨⟨⟨bB1.set _, bP1.other (by omega) _⟩, by rw [World.size_setCell]; exact hz1⟩, hB1.setCell (p := ⟨w.heap.size + 1 + 1, 0, none⟩) (by simp; omega) _⟩
    have hkeep : bestN lessB (pre ++ [(xn, xw)]) = b → BestI w 33 lessB (pre ++ [(xn, xw)]) W := fun h => ⟨⟨⟨by rw [h]; exact bB1, bP1⟩, hz1⟩, hB1⟩
    have hks : ∀ v, KpB w.heap.size (w.heap.size + 1 + 1 + 1) W (W.setCell ⟨w.heap.size + 1 + 1, 0, none⟩ v) := fun v => kpB_set _ _ _ _ _ (by simp; omega) (by simp)
    have HKS := Lib.hid hks
    have HB := Lib.hid hb
    clear hB1 bB1 bP1 hb hks
    by_cases b0 : b = 0
    · have t0 : (b == 0) = true := by simpa using b0
      rw [show bestN lessB (pre ++ [(xn, xw)]) = xn by rw [hbN]; unfold stepN; rw [if_pos b0]] at hset
      have HSET := Lib.hid hset
      clear hset hbN hkeep cL b0
      gi_wp2
      refine ⟨fun _ h => (by cases h), ?_⟩
      gi_wp2
      exact ⟨(KeepsOthers.setCell _ _ _).from _, HKS.out _, HSET.out⟩
    · have t0 : (b == 0) = false := by simpa using b0
      cases ht : lessB xn b with
      | true =>
        rw [ht] at cL
        rw [show bestN lessB (pre ++ [(xn, xw)]) = xn by rw [hbN]; unfold stepN; rw [if_neg b0, if_pos ht]] at hset
        have HSET := Lib.hid hset
        have CL := Lib.hid cL
        clear hset hbN hkeep cL b0 ht
        gi_wp2_with (first
          | (gi_at_call 33; refine (CallsIn.inRound l (inF hF (CL.out _))).mono ?_; rintro e w' ⟨rfl, rfl⟩)
          | fail)
        exact ⟨(KeepsOthers.setCell _ _ _).from _, HKS.out _, HSET.out⟩
      | false =>
        rw [ht] at cL
        have HKEEP := Lib.hid (hkeep (by rw [hbN]; unfold stepN; rw [if_neg b0, ht]; rfl))
        have CL := Lib.hid cL
        clear hset hbN hkeep cL b0 ht
        gi_wp2_with (first
          | (gi_at_call 33; refine (CallsIn.inRound l (inF hF (CL.out _))).mono ?_; rintro e w' ⟨rfl, rfl⟩)
          | fail)
        exact ⟨KeepsFrom.refl _ _, kpB_refl _ _ _, HKEEP.out⟩
  case done =>
    rintro D ys W hD rfl ⟨⟨⟨bB1, bP1⟩, hz1⟩, hB1⟩ hK
    have hc := bB1.cell
    gi_wp2
    refine ⟨by simp, .inl ⟨_, _, rfl, run_takeDeferred hK, ?_⟩⟩
    exact ⟨_, results_tmp rfl _ _ _, rfl, hB1.trans (belowK_b (w := w) (Nat.le_refl _) W D _ _ (by omega) hK rfl rfl)⟩
  case stop =>
    rintro D c pre W _ _ h _
    exact h.elim

set_option maxRecDepth 100000 in
set_option maxHeartbeats 4000000 in
theorem most_in {F : Fence} (hF : IsWide F) (n : Nat) (hn : 6 ≤ n) (k : Int) (ao : Option Addr) (len cap : Nat) (zs : List Alt) (mn mx wl : Int) (w : World)
    (hlen : zs.length = len) (hl : len ≤ cap) (hcap : cap ≤ maxLen) (hr : ReadsS 2 altC w ao zs) :
    CallsIn F n Try.prog 32 #[.agg #[.int .i64 k, .slice ao len cap, .int .i64 mn, .int .i64 mx, .int .i64 wl], .func (.func 34) #[] #[]] w
      fun e W' => e = .returned (.int .i64 (bestN moreB (optL k zs mn mx wl))) ∧ Below w.heap.size w W' := by
  have h1 : 1 ≤ n := by omega
  have h2 : 1 ≤ n - 1 - 1 := by omega
  have hro := roF hF
  have hSt := fun (W0 : World) (Bn : Nat) (hu : Below w.heap.size w W0) (hS : SBox W0 Bn k (.slice ao len cap) mn mx wl) (hB : w.heap.size ≤ Bn) => each_stops hF (n - 1) (by omega) Bn k ao len cap zs mn mx wl w W0 hlen hl hcap hr hu hS hB
  have cE := fun w => eachOption_any k (.slice ao len cap) ao len cap mn mx wl w rfl
  obtain ⟨Z, hZ⟩ : ∃ Z, Z = optL k zs mn mx wl := ⟨_, rfl⟩
  rw [← hZ] at hSt ⊢
  have HST := Lib.hid hSt
  have CE := Lib.hid cE
  have f31 : F.fn 31 := fnF hF _
  have f33 : F.fn 34 := fnF hF _
  clear hSt cE hZ hr hlen
  refine callsIn_of_wp_marks Try.func32 rfl (fnF hF _) ?_ hro
  simp only [Try.ntmps32, List.size_toArray, List.length_cons, List.length_nil, Nat.reduceAdd, Nat.reduceSub, Array.replicate_succ, Array.replicate_zero, List.push_toArray, List.append_toArray, List.nil_append, List.cons_append]
  gi_wp2_with (first
    | (gi_at_call 31; refine (inF hF (CE.out _)).mono ?_; rintro e w' ⟨rfl, rfl⟩)
    | fail)
  obtain ⟨W0, hW0⟩ : ∃ W0, (((w.alloc (.cells #[.int .i64 k, .slice ao len cap, .int .i64 mn, .int .i64 mx, .int .i64 wl] 24)).alloc (.cells #[.func (.func 34) #[] #[]] 47)).alloc (.cells #[.int .i64 0] 3)).alloc (.cells #[.int .i64 k, .slice ao len cap, .int .i64 mn, .int .i64 mx, .int .i64 wl] 24) = W0 := ⟨_, rfl⟩
  have bS : SBox W0 (w.heap.size + 1 + 1 + 1) k (.slice ao len cap) mn mx wl := by
    have := SBox.new (((w.alloc (.cells #[.int .i64 k, .slice ao len cap, .int .i64 mn, .int .i64 mx, .int .i64 wl] 24)).alloc (.cells #[.func (.func 34) #[] #[]] 47)).alloc (.cells #[.int .i64 0] 3)) k (.slice ao len cap) mn mx wl
    rw [hW0] at this; simpa using this
  have bB : Boxed W0 (w.heap.size + 1 + 1) 3 (.int .i64 0) := by
    have := (Boxed.new ((w.alloc (.cells #[.int .i64 k, .slice ao len cap, .int .i64 mn, .int .i64 mx, .int .i64 wl] 24)).alloc (.cells #[.func (.func 34) #[] #[]] 47)) 3 (.int .i64 0)).alloc (.cells #[.int .i64 k, .slice ao len cap, .int .i64 mn, .int .i64 mx, .int .i64 wl] 24)
    rw [hW0] at this; simpa using this
  have bP : Boxed W0 (w.heap.size + 1) 47 (.func (.func 34) #[] #[]) := by
    have := ((Boxed.new (w.alloc (.cells #[.int .i64 k, .slice ao len cap, .int .i64 mn, .int .i64 mx, .int .i64 wl] 24)) 47 (.func (.func 34) #[] #[])).alloc (.cells #[.int .i64 0] 3)).alloc (.cells #[.int .i64 k, .slice ao len cap, .int .i64 mn, .int .i64 mx, .int .i64 wl] 24)
    rw [hW0] at this; simpa using this
  have hsz : W0.heap.size = w.heap.size + 4 := by rw [← hW0]; simp
  have hB0 : Below w.heap.size w W0 := by
    rw [← hW0]; exact ((((Below.refl _ w).alloc (Nat.le_refl _) _).alloc (by simp) _).alloc (by simp; omega) _).alloc (by simp; omega) _
  rw [hW0]
  clear hW0
  have HSZ := Lib.hid hsz
  have hW04 : w.heap.size + 4 ≤ W0.heap.size := by omega
  clear hsz
  refine wpIn_rangeFunc_ownH hro h1 (gf := 40) (lb := #[.pointer (some ⟨w.heap.size + 1 + 1 + 1, 0, none⟩)]) rfl (fnF hF _) (enters_of Try.func40 (by kernel_rfl) rfl)
    (HST.out W0 (w.heap.size + 1 + 1 + 1) hB0 bS (by omega)) kpB_t (kpB_b (by omega) (by omega)) (Below.refl _ _) (fun _ => rfl)
    (BestI w 34 moreB) (fun _ _ _ => False) (bestI_own w _ _ _ (by omega)) (fun _ _ _ _ _ hs _ _ => hs)
    ⟨⟨⟨bB, bP⟩, hW04⟩, hB0⟩
    (fun x a' W => ∃ Bx, w.heap.size + 3 < Bx ∧ ABox W Bx x ∧ a' = { tmps := #[.agg #[.int .i64 k, .slice ao len cap, .int .i64 mn, .int .i64 mx, .int .i64 wl], .func (.func 34) #[] #[], .pointer (some ⟨w.heap.size, 0, none⟩), .pointer (some ⟨w.heap.size + 1, 0, none⟩), .int .i64 0, .pointer (some ⟨w.heap.size + 1 + 1, 0, none⟩), .pointer (some ⟨Bx, 0, none⟩), .agg #[.int .i64 k, .slice ao len cap, .int .i64 mn, .int .i64 mx, .int .i64 wl], .func (.func 40) #[] #[.pointer (some ⟨w.heap.size + 1 + 1 + 1, 0, none⟩)], altV x, undef, undef, undef, undef, undef, undef, undef, undef, undef, undef, undef, undef], defers := [] })
    (fun x a' _ X Y row hs hg hr => by obtain ⟨Bx, h1, h2, h3⟩ := hs; exact ⟨Bx, h1, heap_own Bx _ rfl () X Y row h2 hg (fun r e => (hr r e).2), h3⟩)
    ?assign ?body ?done ?stop
  case assign =>
    rintro l pre x W K ⟨⟨⟨bB1, bP1⟩, hz1⟩, hB1⟩ hK
    gi_wp2
    exact hK _ _ ((KeepsOthers.alloc _ _).from _) (kpB_alloc _ _ _ _ (by omega) (by omega)) ⟨⟨⟨bB1.alloc _, bP1.alloc _⟩, by simp; omega⟩, hB1.alloc (by omega) _⟩ ⟨W.heap.size, by omega, ABox.new W x, rfl⟩
  case body =>
    rintro l pre x a' W hl0 hr0 ⟨⟨⟨bB1, bP1⟩, hz1⟩, hB1⟩ ⟨Bx, hBx, bX, rfl⟩ hlt
    have hbN := bestN_snoc moreB pre x
    obtain ⟨b, hb⟩ : ∃ b, b = bestN moreB pre := ⟨_, rfl⟩
    rw [← hb] at bB1 hbN
    have hc := bB1.cell
    have hf := bB1.frozen
    have hp := bP1.cell
    obtain ⟨xn, xw⟩ := x
    obtain ⟨y0, y1⟩ := bX.cells
    dsimp only at y0 y1 hbN
    have cL := fun W => more_any xn b W
    have hset : BestI w 34 moreB (pre ++ [(xn, xw)]) (W.setCell ⟨w.heap.size + 1 + 1, 0, none⟩ (.int .i64 (bestN moreB (pre ++ [(xn, xw)])))) :=
      ⟨⟨⟨bB1.set _, bP1.other (by omega) _⟩, by rw [World.size_setCell]; exact hz1⟩, hB1.setCell (p := ⟨w.heap.size + 1 + 1, 0, none⟩) (by simp; omega) _⟩
    have hkeep : bestN moreB (pre ++ [(xn, xw)]) = b → BestI w 34 moreB (pre ++ [(xn, xw)]) W := fun h => ⟨⟨⟨by rw [h]; exact bB1, bP1⟩, hz1⟩, hB1⟩
    have hks : ∀ v, KpB w.heap.size (w.heap.size + 1 + 1 + 1) W (W.setCell ⟨w.heap.size + 1 + 1, 0, none⟩ v) := fun v => kpB_set _ _ _ _ _ (by simp; omega) (by simp)
    have HKS := Lib.hid hks
    have HB := Lib.hid hb
    clear hB1 bB1 bP1 hb hks
    by_cases b0 : b = 0
    · have t0 : (b == 0) = true := by simpa using b0
      rw [show bestN moreB (pre ++ [(xn, xw)]) = xn by rw [hbN]; unfold stepN; rw [if_pos b0]] at hset
      have HSET := Lib.hid hset
      clear hset hbN hkeep cL b0
      gi_wp2
      refine ⟨fun _ h => (by cases h), ?_⟩
      gi_wp2
      exact ⟨(KeepsOthers.setCell _ _ _).from _, HKS.out _, HSET.out⟩
    · have t0 : (b == 0) = false := by simpa using b0
      cases ht : moreB xn b with
      | true =>
        rw [ht] at cL
        rw [show bestN moreB (pre ++ [(xn, xw)]) = xn by rw [hbN]; unfold stepN; rw [if_neg b0, if_pos ht]] at hset
        have HSET := Lib.hid hset
        have CL := Lib.hid cL
        clear hset hbN hkeep cL b0 ht
        gi_wp2_with (first
          | (gi_at_call 34; refine (CallsIn.inRound l (inF hF (CL.out _))).mono ?_; rintro e w' ⟨rfl, rfl⟩)
          | fail)
        exact ⟨(KeepsOthers.setCell _ _ _).from _, HKS.out _, HSET.out⟩
      | false =>
        rw [ht] at cL
        have HKEEP := Lib.hid (hkeep (by rw [hbN]; unfold stepN; rw [if_neg b0, ht]; rfl))
        have CL := Lib.hid cL
        clear hset hbN hkeep cL b0 ht
        gi_wp2_with (first
          | (gi_at_call 34; refine (CallsIn.inRound l (inF hF (CL.out _))).mono ?_; rintro e w' ⟨rfl, rfl⟩)
          | fail)
        exact ⟨KeepsFrom.refl _ _, kpB_refl _ _ _, HKEEP.out⟩
  case done =>
    rintro D ys W hD rfl ⟨⟨⟨bB1, bP1⟩, hz1⟩, hB1⟩ hK
    have hc := bB1.cell
    gi_wp2
    refine ⟨by simp, .inl ⟨_, _, rfl, run_takeDeferred hK, ?_⟩⟩
    exact ⟨_, results_tmp rfl _ _ _, rfl, hB1.trans (belowK_b (w := w) (Nat.le_refl _) W D _ _ (by omega) hK rfl rfl)⟩
  case stop =>
    rintro D c pre W _ _ h _
    exact h.elim

set_option maxHeartbeats 1000000 in
theorem sleast_any (k : Int) (ao : Option Addr) (len cap : Nat) (zs : List Alt) (mn mx wl : Int) (w : World) (hlen : zs.length = len) (hl : len ≤ cap) (hcap : cap ≤ maxLen) (hr : ReadsS 2 altC w ao zs) :
    Calls Try.prog 14 #[.agg #[.int .i64 k, .slice ao len cap, .int .i64 mn, .int .i64 mx, .int .i64 wl]] w fun e w' => e = .returned (.int .i64 (bestN lessB (optL k zs mn mx wl))) ∧ Below w.heap.size w w' := by
  have c1 := fun (w2 : World) (hb : Below w.heap.size w w2) => callsIn_wide.1 (least_in (F := Fence.wide) rfl 6 (Nat.le_refl _) k ao len cap zs mn mx wl w2 hlen hl hcap (hr.below altC_length hb))
  have C1 := Lib.hid c1
  clear c1 hr hlen
  go_enter Try.func14, Try.ntmps14
  go_wp2_with (first
    | (go_at_call 32; (with_reducible refine (C1.out _ (by (focus repeat (first | exact Below.refl _ _ | assumption | (exact Hid.out (by assumption)) | (with_reducible refine Below.drew ?_) | (with_reducible refine Base.below_drewN ?_ _) | (refine Below.from (below_one _) ?_) | (refine Below.from (below_conv _ _ _) ?_) | (refine Below.setCell ?_ (by simp <;> omega) _) | (refine Below.from (by assumption) ?_))))).mono ?_); rintro e w1 ⟨rfl, p1⟩)
    | fail)
  go_ret
  exact ⟨rfl, by (focus repeat (first | exact Below.refl _ _ | assumption | (exact Hid.out (by assumption)) | (with_reducible refine Below.drew ?_) | (with_reducible refine Base.below_drewN ?_ _) | (refine Below.from (below_one _) ?_) | (refine Below.from (below_conv _ _ _) ?_) | (refine Below.setCell ?_ (by simp <;> omega) _) | (refine Below.from (by assumption) ?_)))⟩
set_option maxHeartbeats 1000000 in
theorem smost_any (k : Int) (ao : Option Addr) (len cap : Nat) (zs : List Alt) (mn mx wl : Int) (w : World) (hlen : zs.length = len) (hl : len ≤ cap) (hcap : cap ≤ maxLen) (hr : ReadsS 2 altC w ao zs) :
    Calls Try.prog 16 #[.agg #[.int .i64 k, .slice ao len cap, .int .i64 mn, .int .i64 mx, .int .i64 wl]] w fun e w' => e = .returned (.int .i64 (bestN moreB (optL k zs mn mx wl))) ∧ Below w.heap.size w w' := by
  have c1 := fun (w2 : World) (hb : Below w.heap.size w w2) => callsIn_wide.1 (most_in (F := Fence.wide) rfl 6 (Nat.le_refl _) k ao len cap zs mn mx wl w2 hlen hl hcap (hr.below altC_length hb))
  have C1 := Lib.hid c1
  clear c1 hr hlen
  go_enter Try.func16, Try.ntmps16
  go_wp2_with (first
    | (go_at_call 32; (with_reducible refine (C1.out _ (by (focus repeat (first | exact Below.refl _ _ | assumption | (exact Hid.out (by assumption)) | (with_reducible refine Below.drew ?_) | (with_reducible refine Base.below_drewN ?_ _) | (refine Below.from (below_one _) ?_) | (refine Below.from (below_conv _ _ _) ?_) | (refine Below.setCell ?_ (by simp <;> omega) _) | (refine Below.from (by assumption) ?_))))).mono ?_); rintro e w1 ⟨rfl, p1⟩)
    | fail)
  go_ret
  exact ⟨rfl, by (focus repeat (first | exact Below.refl _ _ | assumption | (exact Hid.out (by assumption)) | (with_reducible refine Below.drew ?_) | (with_reducible refine Base.below_drewN ?_ _) | (refine Below.from (below_one _) ?_) | (refine Below.from (below_conv _ _ _) ?_) | (refine Below.setCell ?_ (by simp <;> omega) _) | (refine Below.from (by assumption) ?_)))⟩

end Go.Proofs.Ytlmogkhgangmgaa.Shape
