/-
  The walk of the program's Options: what the library collects of the iterator.
-/
import Derived.Test.YtlmogkhgangmgaaShapeBest
import Derived.RangeFuncBox
import Derived.Maps.AppendAt
namespace Go.Proofs.Ytlmogkhgangmgaa.Shape
open Go.RowKit Go.Shelf
open Base
set_option linter.unusedVariables false
set_option linter.unusedSimpArgs false

attribute [local go_sem] Oper.semAt_some

theorem info_alt : (Try.prog.info? 38).map (fun i => (i.zero, i.size, i.bytes)) = some (some (.agg #[.int .i64 0, .int .i64 0]), 2, 16) := by kernel_rfl
theorem altC_one (a : Alt) : ∀ u ∈ altC a, u.oneCell' = true := by
  intro u hu
  simp only [altC, List.mem_cons, List.not_mem_nil, or_false] at hu
  rcases hu with rfl | rfl <;> rfl
theorem cell_alt_new (w : World) (x : Alt) (t : TypeId) : ∀ j u, (altC x)[j]? = some u → (w.alloc (.cells #[.int .i64 x.1, .int .i64 x.2] t)).cell? ((⟨w.heap.size, 0, none⟩ : Addr).add j) = some u := by
  intro j u hj
  match j, hj with
  | 0, hj => simp [altC] at hj; subst hj; simp [Addr.add]
  | 1, hj => simp [altC] at hj; subst hj; simp [Addr.add]

/-- What the collecting loop's box holds. -/
def CollI (w : World) (m : Nat) (pre : List Alt) (W : World) : Prop :=
  ((∃ v, Boxed W w.heap.size 22 v ∧ W.ownsRow w.heap.size 38 2 v pre.length (pre.flatMap altC) ∧ (v = .slice none 0 0 ↔ pre = [])) ∧ m ≤ W.heap.size) ∧ Below w.heap.size w W
theorem collI_own (w : World) (m : Nat) (B : Nat) (hB : w.heap.size ≤ B) : OwnFrom B (CollI w m) :=
  OwnFrom.and (OwnFrom.and (Go.Own.from (holdsRow_own w.heap.size w.heap.size 22 38 2 (fun pre : List Alt => pre.length) (fun pre => pre.flatMap altC) (fun pre v => v = .slice none 0 0 ↔ pre = [])) _) (ownFrom_size _ _)) (ownFrom_below (Nat.le_refl _) hB)

set_option maxRecDepth 100000 in
set_option maxHeartbeats 4000000 in
theorem append_in {F : Fence} (hF : IsWide F) (n : Nat) (hn : 6 ≤ n) (k : Int) (ao : Option Addr) (len cap : Nat) (zs : List Alt) (mn mx wl : Int) (u w : World) (Bn : Nat)
    (hlen : zs.length = len) (hl : len ≤ cap) (hcap : cap ≤ maxLen) (hr : ReadsS 2 altC u ao zs) (hu : Below u.heap.size u w) (hS : SBox w Bn k (.slice ao len cap) mn mx wl) (hBu : u.heap.size ≤ Bn) :
    CallsIn F n Try.prog 39 #[.slice none 0 0, .func (.func 40) #[] #[.pointer (some ⟨Bn, 0, none⟩)]] w
      fun e W' => ∃ v, e = .returned v ∧ OwnS 2 altC w.heap.size 38 v (optL k zs mn mx wl) W' ∧ Below w.heap.size w W' := by
  have h1 : 1 ≤ n := by omega
  have h2 : 1 ≤ n - 1 - 1 := by omega
  have hro := roF hF
  have hw : u.heap.size ≤ w.heap.size := hu.size
  have hBw := hS.lt
  have hSt := fun (W0 : World) (h : Below w.heap.size w W0) => each_stops hF (n - 1) (by omega) Bn k ao len cap zs mn mx wl u W0 hlen hl hcap hr (h.from hu) (hS.below h) hBu
  have hZ48 := (optL_good k zs mn mx wl).2
  obtain ⟨Z, hZ⟩ : ∃ Z, Z = optL k zs mn mx wl := ⟨_, rfl⟩
  rw [← hZ] at hSt hZ48 ⊢
  have HST := Lib.hid hSt
  clear hSt hZ hr hlen hS
  obtain ⟨i0, hi, hz0, hz1, hz2⟩ := info_parts info_alt
  have HI := Lib.hid hi
  have HZ0 := Lib.hid hz0
  have HZ1 := Lib.hid hz1
  have HZ2 := Lib.hid hz2
  clear hi hz0 hz1 hz2
  refine callsIn_of_wp_marks Try.func39 rfl (fnF hF _) ?_ hro
  simp only [Try.ntmps39, List.size_toArray, List.length_cons, List.length_nil, Nat.reduceAdd, Nat.reduceSub, Array.replicate_succ, Array.replicate_zero, List.push_toArray, List.append_toArray, List.nil_append, List.cons_append]
  gi_wp2
  have bO := Boxed.new w 22 (.slice none 0 0)
  have hB0 : Below w.heap.size w (w.alloc (.cells #[.slice none 0 0] 22)) := (Below.refl _ w).alloc (Nat.le_refl _) _
  have hs0 := HST.out _ hB0
  have hsz : (w.alloc (.cells #[.slice none 0 0] 22)).heap.size = w.heap.size + 1 := by simp
  obtain ⟨W0, hW0⟩ : ∃ W0, w.alloc (.cells #[.slice none 0 0] 22) = W0 := ⟨_, rfl⟩
  rw [hW0] at bO hB0 hs0 hsz ⊢
  clear hW0
  have hW01 : w.heap.size + 1 ≤ W0.heap.size := by omega
  clear hsz
  refine wpIn_rangeFunc_ownH hro h1 (gf := 40) (lb := #[.pointer (some ⟨Bn, 0, none⟩)]) rfl (fnF hF _) (enters_of Try.func40 (by kernel_rfl) rfl)
    hs0 kpB_t (kpB_b (by omega) (by omega)) (Below.refl _ _) (fun _ => rfl)
    (CollI w (w.heap.size + 1)) (fun _ _ _ => False) (collI_own w _ _ (by omega)) (fun _ _ _ _ _ hs _ _ => hs)
    ⟨⟨⟨_, bO, World.ownsRow_nil _ _ _ _, by simp⟩, hW01⟩, hB0⟩
    (fun x a' W => ∃ Bx, w.heap.size < Bx ∧ ABox W Bx x ∧ a' = { tmps := #[.slice none 0 0, .func (.func 40) #[] #[.pointer (some ⟨Bn, 0, none⟩)], .pointer (some ⟨w.heap.size, 0, none⟩), undef, .slice none 0 0, .pointer (some ⟨Bx, 0, none⟩), .func (.func 40) #[] #[.pointer (some ⟨Bn, 0, none⟩)], altV x, undef, undef, undef, undef, undef], defers := [] })
    (fun x a' _ X Y row hs hg hr => by obtain ⟨Bx, h1, h2, h3⟩ := hs; exact ⟨Bx, h1, heap_own Bx _ rfl () X Y row h2 hg (fun r e => (hr r e).2), h3⟩)
    ?assign ?body ?done ?stop
  case assign =>
    rintro l pre x W K ⟨⟨⟨v, hv, hrow, hnil⟩, hz1⟩, hB1⟩ hK
    gi_wp2
    exact hK _ _ ((KeepsOthers.alloc _ _).from _) (kpB_alloc _ _ _ _ (by omega) (by omega)) ⟨⟨⟨v, hv.alloc _, hrow.alloc _, hnil⟩, by simp; omega⟩, hB1.alloc (by omega) _⟩ ⟨W.heap.size, by omega, ABox.new W x, rfl⟩
  case body =>
    rintro l pre x a' W hl0 hr0 ⟨⟨⟨v, hv, hrow, hnil⟩, hz1⟩, hB1⟩ ⟨Bx, hBx, bX, rfl⟩ hlt
    have hc := hv.cell
    obtain ⟨y0, y1⟩ := bX.cells
    have HB1 := Lib.hid hB1
    have HNIL := Lib.hid hnil
    clear hnil hB1
    gi_wp2_with (gi_at_builtin; refine wpListIn_append_own _ rfl _ _ 22 rfl w.heap.size 38 i0 (.agg #[.int .i64 0, .int .i64 0]) 2 16 Try.underlying22 HI.out HZ0.out HZ1.out HZ2.out rfl (by decide) _ _ _ rfl (hrow.alloc _) ⟨W.heap.size, 0, none⟩ 1 1 (altC x) rfl rfl (cell_alt_new _ _ _) (altC_one x) (by unfold maxLen; omega) (by omega) (by simp; omega) ?_; intro v' w1 hown' hgrow _; obtain ⟨g', cap', rfl⟩ := ownsRow_succ hown'; obtain ⟨hv1, hv2, hr2, hk2, hb2⟩ := hv.appended (by decide) hrow (by omega) (Nat.le_refl _) hown' hgrow; have hc1 := hv1.cell; have hf1 := hv1.frozen)
    have hs2 := hb2.size
    refine ⟨hk2.from _, ⟨hb2.mono hw, hb2.block _ hBw⟩, ⟨⟨_, hv2, ?_, by simp⟩, by omega⟩, HB1.out.trans hb2⟩
    simpa [altC] using hr2
  case done =>
    rintro D ys W hD rfl ⟨⟨⟨v, hv, hrow, hnil⟩, hz1⟩, hB1⟩ hK
    have hc := hv.cell
    gi_wp2
    refine ⟨by simp, .inl ⟨_, _, rfl, run_takeDeferred hK, ?_⟩⟩
    have hbl := belowK_b (w := w) (Nat.le_refl _) W D (.deferred (some [])) (.deferred none) (by omega) hK rfl rfl
    exact ⟨_, results_tmp rfl _ _ _, v, rfl, ⟨ownsRow_putObj hrow _ hK rfl, Nat.le_trans hB1.size hbl.size⟩, hB1.trans hbl⟩
  case stop =>
    rintro D c pre W _ _ h _
    exact h.elim

set_option maxHeartbeats 1000000 in
/-- **Options**: a slice of the call's own, nil or not. -/
theorem soptions_any (k : Int) (ao : Option Addr) (len cap : Nat) (zs : List Alt) (mn mx wl : Int) (w : World) (hlen : zs.length = len) (hl : len ≤ cap) (hcap : cap ≤ maxLen) (hr : ReadsS 2 altC w ao zs) :
    Calls Try.prog 12 #[.agg #[.int .i64 k, .slice ao len cap, .int .i64 mn, .int .i64 mx, .int .i64 wl]] w
      fun e w' => ∃ ao2 cap2, e = .returned (.slice ao2 (optL k zs mn mx wl).length cap2) ∧ ReadsS 2 altC w' ao2 (optL k zs mn mx wl) ∧ (ao2 = none → cap2 = 0) ∧ (optL k zs mn mx wl).length ≤ cap2 ∧ cap2 ≤ maxLen ∧ Below w.heap.size w w' := by
  have cA := fun (w2 : World) (Bn : Nat) (hb : Below w.heap.size w w2) (hS : SBox w2 Bn k (.slice ao len cap) mn mx wl) (hB : w.heap.size ≤ Bn) => callsIn_wide.1 (append_in (F := Fence.wide) rfl 6 (Nat.le_refl _) k ao len cap zs mn mx wl w w2 Bn hlen hl hcap hr hb hS hB)
  have cE := fun w => eachOption_any k (.slice ao len cap) ao len cap mn mx wl w rfl
  have hl64 : len ≤ 9223372036854775807 := by unfold maxLen at hcap; omega
  obtain ⟨Z, hZ⟩ : ∃ Z, Z = optL k zs mn mx wl := ⟨_, rfl⟩
  rw [← hZ] at cA ⊢
  have cC : ∀ (w2 : World) (Bn : Nat) (hb : Below w.heap.size w w2) (hS : SBox w2 Bn k (.slice ao len cap) mn mx wl) (hB : w.heap.size ≤ Bn), Calls Try.prog 30 #[.func (.func 40) #[] #[.pointer (some ⟨Bn, 0, none⟩)]] w2 fun e W' => ∃ v, e = .returned v ∧ OwnS 2 altC w2.heap.size 38 v Z W' ∧ Below w2.heap.size w2 W' := by
    intro w2 Bn hb hS hB
    have C1 := Lib.hid (cA w2 Bn hb hS hB)
    clear cA cE hZ hr hlen hS hb hB
    go_enter Try.func30, Try.ntmps30
    go_wp2_with (first
      | (go_at_call 39; (with_reducible refine (C1.out).mono ?_); rintro e w3 ⟨v, rfl, o3, p3⟩; obtain ⟨ao3, cap3, rfl, q3⟩ := o3.value altC_length; have Q3 := Lib.hid q3; clear q3; have O3 := Lib.hid o3; clear o3)
      | fail)
    go_ret
    exact ⟨_, rfl, O3.out, p3⟩
  have CC := Lib.hid cC
  have CE := Lib.hid cE
  clear cA cE cC hZ hr hlen
  go_enter Try.func12, Try.ntmps12
  go_wp2_with (first
    | (go_at_call 31; (with_reducible refine (CE.out _).mono ?_); rintro e w1 ⟨rfl, rfl⟩)
    | (go_at_call 30; (with_reducible refine (CC.out _ _ (by (focus repeat (first | exact Below.refl _ _ | assumption | (exact Hid.out (by assumption)) | (with_reducible refine Below.drew ?_) | (with_reducible refine Base.below_drewN ?_ _) | (refine Below.from (below_one _) ?_) | (refine Below.from (below_conv _ _ _) ?_) | (refine Below.setCell ?_ (by simp <;> omega) _) | (refine Below.from (by assumption) ?_)))) (by have := SBox.new (w.alloc (.cells #[.int .i64 k, .slice ao len cap, .int .i64 mn, .int .i64 mx, .int .i64 wl] 24)) k (.slice ao len cap) mn mx wl; simpa using this) (by simp)).mono ?_); rintro e w3 ⟨v, rfl, o3, p3⟩; obtain ⟨ao3, cap3, rfl, q3⟩ := o3.value altC_length; have Q3 := Lib.hid q3; clear q3 o3)
    | fail)
  go_ret
  refine ⟨_, _, rfl, Q3.out.1, Q3.out.2.1, Q3.out.2.2.1, Q3.out.2.2.2, ?_⟩
  (focus repeat (first | exact Below.refl _ _ | assumption | (exact Hid.out (by assumption)) | (with_reducible refine Below.drew ?_) | (with_reducible refine Base.below_drewN ?_ _) | (refine Below.from (below_one _) ?_) | (refine Below.from (below_conv _ _ _) ?_) | (refine Below.setCell ?_ (by simp <;> omega) _) | (refine Below.from (by assumption) ?_)))

end Go.Proofs.Ytlmogkhgangmgaa.Shape
