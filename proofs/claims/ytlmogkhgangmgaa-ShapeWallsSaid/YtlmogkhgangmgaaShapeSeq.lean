/-
  The program's iterator over a shape's options.
-/
import Derived.Test.YtlmogkhgangmgaaShapeChk
import Derived.RangeFuncNested
import Derived.RangeFuncBound
import Derived.RangeFuncCalls
import Derived.RangeFuncLeaves
import Derived.Shelf.Abstract
import Derived.Shelf.RegionOpen
import Derived.OwnWalkIn
import Derived.TacticsInMore
import Derived.LoopNIn
import Derived.LoopIn
namespace Go.Proofs.Ytlmogkhgangmgaa.Shape
open Go.RowKit Go.Shelf
open Base
set_option linter.unusedVariables false
set_option linter.unusedSimpArgs false

attribute [local go_sem] Oper.semAt_some

/-- The fence that lets all by, behind a word of ours. -/
def IsWide (F : Fence) : Prop := F = Fence.wide
theorem inF {F : Fence} (hF : IsWide F) {n : Nat} {P : Program} {f : FuncId} {args : Array Value} {w : World} {R : Ending → World → Prop} (h : Calls P f args w R) : CallsIn F n P f args w R := by unfold IsWide at hF; subst hF; exact callsIn_wide.2 h
theorem fnF {F : Fence} (hF : IsWide F) (k : Nat) : F.fn k := by unfold IsWide at hF; subst hF; trivial
theorem roF {F : Fence} (hF : IsWide F) : F.round = none := by unfold IsWide at hF; subst hF; rfl

/-- What a round keeps: all that lay below n₀, and block B. -/
def KpB (n₀ B : Nat) (X Y : World) : Prop := Below n₀ X Y ∧ Y.heap[B]? = X.heap[B]?
theorem kpB_t {n₀ B : Nat} {X Y Z : World} (h : KpB n₀ B X Y) (k : KpB n₀ B Y Z) : KpB n₀ B X Z := ⟨h.1.trans k.1, k.2.trans h.2⟩
theorem kpB_b {n₀ B : Nat} {w : World} (hn : n₀ ≤ w.heap.size) (hB : B < w.heap.size) (W : World) (l : Nat) (o o' : Obj) (hl : w.heap.size ≤ l) (h : W.heap[l]? = some o) (h1 : o.isCells = false) (h2 : o.isWalk = false) : KpB n₀ B W (W.putObj l o') :=
  ⟨belowK_b hn W l o o' hl h h1 h2, World.putObj_heap_other (by omega)⟩
theorem kpB_sbox {n₀ B : Nat} {X Y : World} {k mn mx wl : Int} {sl : Value} (h : KpB n₀ B X Y) (hs : SBox X B k sl mn mx wl) : SBox Y B k sl mn mx wl := by
  unfold SBox at hs ⊢; rw [h.2]; exact hs

abbrev altV (x : Alt) : Value := .agg #[.int .i64 x.1, .int .i64 x.2]

theorem abides_below {β : Type} {B : Nat} {J : β → World → Prop} (h : AbidesFrom B J) {s : β} {W W' : World} (hs : J s W) (hb : Below W.heap.size W W') : J s W' :=
  h s W W' none hs (grown_of_below hb none) (fun r e => by cases e)

set_option maxRecDepth 100000 in
set_option maxHeartbeats 4000000 in
theorem each_no {F : Fence} (hF : IsWide F) (n : Nat) (hn : 1 ≤ n) (l Bn : Nat) (k : Int) (ao : Option Addr) (len cap : Nat) (zs : List Alt) (mn mx wl : Int) (u W : World)
    (J Jx : List Alt → World → Prop) (hJ : AbidesFrom W.heap.size J)
    (hY : ∀ pre x W1, J pre W1 → pre.length < (optL k zs mn mx wl).length → YieldAt F (n - 1) Try.prog l #[altV x] W1 fun e W' =>
      (e = .returned (.bool true) ∧ J (pre ++ [x]) W' ∧ KpB u.heap.size Bn W1 W') ∨ (e = .returned (.bool false) ∧ Jx (pre ++ [x]) W'))
    (hlen : zs.length = len) (hl : len ≤ cap) (hcap : cap ≤ maxLen) (hr : ReadsS 2 altC u ao zs) (hu : Below u.heap.size u W) (hS : SBox W Bn k (.slice ao len cap) mn mx wl) (hBu : u.heap.size ≤ Bn) (h0 : J [] W)
    (hc : chkB k zs mn mx wl = false) :
    CallsIn F n Try.prog 40 #[.func (.yield l) #[] #[], .pointer (some ⟨Bn, 0, none⟩)] W fun e W' => (∃ v, e = .returned v) ∧
      ((∃ ys, ys = optL k zs mn mx wl ∧ J ys W') ∨ (∃ pre, pre <+: optL k zs mn mx wl ∧ Jx pre W')) := by
  have c1 := fun (W2 : World) (hb : Below u.heap.size u W2) => check_any k ao len cap zs mn mx wl W2 hlen hl hcap (hr.below altC_length hb)
  have hE : chkE k zs mn mx wl = 70 := by unfold chkE; rw [hc]; rfl
  rw [hE] at c1
  have HO := Lib.hid (optL_no hc)
  obtain ⟨x0, x1, x2, x3, x4⟩ := hS.cells
  have C1 := Lib.hid (c1 W hu)
  have HJ := Lib.hid hJ
  have H0 := Lib.hid h0
  clear c1 hE hc hY hr hS hJ h0 hlen
  have hro := roF hF
  have h9 : F.fn 9 := fnF hF _
  refine callsIn_of_wp Try.func40 rfl (fnF hF _) ?_ hro
  simp only [Try.ntmps40, List.size_toArray, List.length_cons, List.length_nil, Nat.reduceAdd, Nat.reduceSub, Array.replicate_succ, Array.replicate_zero, List.push_toArray, List.append_toArray, List.nil_append, List.cons_append]
  gi_wp2_with (first
    | (gi_at_call 9; refine (inF hF C1.out).mono ?_; rintro e w1 ⟨rfl, p1⟩)
    | fail)
  refine bodyPost_ret (results_none rfl _ _ _) rfl ?_
  refine ⟨⟨_, rfl⟩, .inl ⟨_, rfl, ?_⟩⟩
  rw [HO.out]
  exact abides_below HJ.out H0.out p1

/-- Behind the alternatives' rounds. -/
def Rows1 (u W : World) (Bn : Nat) (k : Int) (sl : Value) (mn mx wl : Int) (J : List Alt → World → Prop) (pre : List Alt) (wr : World) : Prop :=
  J pre wr ∧ Below u.heap.size u wr ∧ SBox wr Bn k sl mn mx wl ∧ W.heap.size ≤ wr.heap.size

set_option maxRecDepth 100000 in
set_option maxHeartbeats 4000000 in
theorem each_rows {F : Fence} (hF : IsWide F) (n : Nat) (hn : 1 ≤ n) (l Bn : Nat) (k : Int) (ao : Option Addr) (len cap : Nat) (zs : List Alt) (mn mx wl : Int) (u W : World)
    (J Jx : List Alt → World → Prop) (hJ : AbidesFrom W.heap.size J)
    (hY : ∀ pre x W1, J pre W1 → pre.length < (optL k zs mn mx wl).length → YieldAt F (n - 1) Try.prog l #[altV x] W1 fun e W' =>
      (e = .returned (.bool true) ∧ J (pre ++ [x]) W' ∧ KpB u.heap.size Bn W1 W') ∨ (e = .returned (.bool false) ∧ Jx (pre ++ [x]) W'))
    (hlen : zs.length = len) (hl : len ≤ cap) (hcap : cap ≤ maxLen) (hr : ReadsS 2 altC u ao zs) (hu : Below u.heap.size u W) (hS : SBox W Bn k (.slice ao len cap) mn mx wl) (hBu : u.heap.size ≤ Bn) (h0 : J [] W)
    (hc : chkB k zs mn mx wl = true) (h3 : k ≠ 3) :
    CallsIn F n Try.prog 40 #[.func (.yield l) #[] #[], .pointer (some ⟨Bn, 0, none⟩)] W fun e W' => (∃ v, e = .returned v) ∧
      ((∃ ys, ys = optL k zs mn mx wl ∧ J ys W') ∨ (∃ pre, pre <+: optL k zs mn mx wl ∧ Jx pre W')) := by
  have c1 := fun (W2 : World) (hb : Below u.heap.size u W2) => check_any k ao len cap zs mn mx wl W2 hlen hl hcap (hr.below altC_length hb)
  have hE : chkE k zs mn mx wl = 0 := by unfold chkE; rw [hc]; rfl
  rw [hE] at c1
  have ho := optL_rows hc h3
  rw [ho] at hY
  have hz6 := (chk12 hc h3).2.2.1
  have HO := Lib.hid ho
  obtain ⟨x0, x1, x2, x3, x4⟩ := hS.cells
  have C1 := Lib.hid (c1 W hu)
  have HJ := Lib.hid hJ
  have H0 := Lib.hid h0
  have HY := Lib.hid hY
  have HR := Lib.hid hr
  have HS := Lib.hid hS
  have HLEN := Lib.hid hlen
  have t3 : (k != 3) = true := by rw [bne_iff_ne]; exact h3
  clear c1 hE hc hY hr hS hJ h0 ho h3
  subst hlen
  have hro := roF hF
  have h9 : F.fn 9 := fnF hF _
  refine callsIn_of_wp Try.func40 rfl (fnF hF _) ?_ hro
  simp only [Try.ntmps40, List.size_toArray, List.length_cons, List.length_nil, Nat.reduceAdd, Nat.reduceSub, Array.replicate_succ, Array.replicate_zero, List.push_toArray, List.append_toArray, List.nil_append, List.cons_append]
  gi_wp2_with (first
    | (gi_at_call 9; refine (inF hF C1.out).mono ?_; rintro e w1 ⟨rfl, p1⟩; obtain ⟨x0, x1, x2, x3, x4⟩ := (HS.out.below p1).cells)
    | fail)
  gi_loopw [12] (fun i wr => ∃ j : Nat, i = .int .i64 (j : Int) ∧ j ≤ zs.length ∧ Rows1 u W Bn k (.slice ao zs.length cap) mn mx wl J (zs.take j) wr) (fun i _ => zs.length - (intOf i).toNat)
  case atStart => exact ⟨0, rfl, Nat.zero_le _, abides_below HJ.out H0.out p1, p1.from hu, HS.out.below p1, p1.size⟩
  case round =>
    obtain ⟨j, rfl, hj, hR⟩ := hrel
    have HR1 := Lib.hid hR
    clear hR
    by_cases hp : j < zs.length
    · obtain ⟨bb, bo, hao, b0, b1⟩ := alt_cells (HR.out.below altC_length HR1.out.2.1) hp
      obtain ⟨x, hx⟩ : ∃ x, x = zs[j] := ⟨_, rfl⟩
      rw [← hx] at b0 b1
      have HX := Lib.hid hx
      subst hao
      obtain ⟨fn, tmps, assign, body, hy, hRd⟩ := HY.out (zs.take j) x (wr.alloc (.cells #[.int .i64 x.1, .int .i64 x.2] 38)) (abides_below HJ.out HR1.out.1 (below_one _)) (by rw [List.length_take]; omega)
      clear hx
      gi_wp2
      refine hRd.mono ?_
      rintro e W3 (⟨rfl, hJ3, hk3⟩ | ⟨rfl, hJx3⟩)
      · have hs3 : W.heap.size ≤ W3.heap.size := by have h1 := hk3.1.size; have h2 := HR1.out.2.2.2; rw [World.size_alloc] at h1; omega
        have HK := Lib.hid hk3
        clear hk3
        gi_wp2
        go_roundw
        case rel => exact ⟨j + 1, by go_num, by omega, by rw [List.take_succ_eq_append_getElem hp, ← HX.out]; exact hJ3, (HR1.out.2.1.alloc HR1.out.2.1.size _).trans HK.out.1, kpB_sbox HK.out (HR1.out.2.2.1.alloc _), hs3⟩
        case measure => simp [intOf]; omega
      · gi_wp2
        refine bodyPost_ret (results_none rfl _ _ _) rfl ?_
        refine ⟨⟨_, rfl⟩, .inr ⟨_, ?_, hJx3⟩⟩
        rw [HO.out, HX.out, ← List.take_succ_eq_append_getElem hp]
        exact List.take_prefix _ _
    · obtain ⟨x0, x1, x2, x3, x4⟩ := HR1.out.2.2.1.cells
      gi_wp2
      refine bodyPost_ret (results_none rfl _ _ _) rfl ?_
      refine ⟨⟨_, rfl⟩, .inl ⟨_, rfl, ?_⟩⟩
      rw [HO.out]
      have := HR1.out.1
      rwa [List.take_of_length_le (by omega)] at this

set_option maxRecDepth 100000 in
set_option maxHeartbeats 4000000 in
theorem each_down {F : Fence} (hF : IsWide F) (n : Nat) (hn : 1 ≤ n) (l Bn : Nat) (ao : Option Addr) (len cap : Nat) (zs : List Alt) (mn mx wl : Int) (u W : World)
    (J Jx : List Alt → World → Prop) (hJ : AbidesFrom W.heap.size J)
    (hY : ∀ pre x W1, J pre W1 → pre.length < (optL 3 zs mn mx wl).length → YieldAt F (n - 1) Try.prog l #[altV x] W1 fun e W' =>
      (e = .returned (.bool true) ∧ J (pre ++ [x]) W' ∧ KpB u.heap.size Bn W1 W') ∨ (e = .returned (.bool false) ∧ Jx (pre ++ [x]) W'))
    (hlen : zs.length = len) (hl : len ≤ cap) (hcap : cap ≤ maxLen) (hr : ReadsS 2 altC u ao zs) (hu : Below u.heap.size u W) (hS : SBox W Bn 3 (.slice ao len cap) mn mx wl) (hBu : u.heap.size ≤ Bn) (h0 : J [] W)
    (hc : chkB 3 zs mn mx wl = true) :
    CallsIn F n Try.prog 40 #[.func (.yield l) #[] #[], .pointer (some ⟨Bn, 0, none⟩)] W fun e W' => (∃ v, e = .returned v) ∧
      ((∃ ys, ys = optL 3 zs mn mx wl ∧ J ys W') ∨ (∃ pre, pre <+: optL 3 zs mn mx wl ∧ Jx pre W')) := by
  have c1 := fun (W2 : World) (hb : Below u.heap.size u W2) => check_any 3 ao len cap zs mn mx wl W2 hlen hl hcap (hr.below altC_length hb)
  have hE : chkE 3 zs mn mx wl = 0 := by unfold chkE; rw [hc]; rfl
  rw [hE] at c1
  have ho := optL_down hc
  rw [ho] at hY
  rw [ho]
  obtain ⟨hzs, hm1, hm2, hm3, hw1, hw2⟩ := chk3.1 hc
  subst hzs
  obtain rfl : 0 = len := hlen
  have hDL := downL_length mx mn wl
  have hDT := downL_take mx mn wl
  obtain ⟨D, hD⟩ : ∃ D, D = downL mx mn wl := ⟨_, rfl⟩
  rw [← hD] at hY hDL hDT ⊢
  obtain ⟨cnt, hcnt⟩ : ∃ c : Nat, c = (mx - mn + 1).toNat := ⟨_, rfl⟩
  rw [← hcnt] at hDL hDT
  have hc2 : (cnt : Int) = mx - mn + 1 := by omega
  obtain ⟨x0, x1, x2, x3, x4⟩ := hS.cells
  have C1 := Lib.hid (c1 W hu)
  have HJ := Lib.hid hJ
  have H0 := Lib.hid h0
  have HY := Lib.hid hY
  have HS := Lib.hid hS
  have HDL := Lib.hid hDL
  have HDT := Lib.hid hDT
  have HC2 := Lib.hid hc2
  clear c1 hE hc hY hr hS hJ h0 ho hD hDL hDT hcnt hc2
  have hro := roF hF
  have h9 : F.fn 9 := fnF hF _
  refine callsIn_of_wp Try.func40 rfl (fnF hF _) ?_ hro
  simp only [Try.ntmps40, List.size_toArray, List.length_cons, List.length_nil, Nat.reduceAdd, Nat.reduceSub, Array.replicate_succ, Array.replicate_zero, List.push_toArray, List.append_toArray, List.nil_append, List.cons_append]
  gi_wp2_with (first
    | (gi_at_call 9; refine (inF hF C1.out).mono ?_; rintro e w1 ⟨rfl, p1⟩; obtain ⟨x0, x1, x2, x3, x4⟩ := (HS.out.below p1).cells)
    | fail)
  gi_loopw [12] (fun i wr => i = .int .i64 0 ∧ w1 = wr) (fun _ _ => 0)
  case atStart => exact ⟨rfl, rfl⟩
  case round =>
    obtain ⟨rfl, rfl⟩ := hrel
    gi_wp2
    gi_loopw [5] (fun i wr => ∃ j : Nat, i = .int .i64 (mx - (j : Int)) ∧ j ≤ cnt ∧ Rows1 u W Bn 3 (.slice ao 0 cap) mn mx wl J (D.take j) wr) (fun i _ => (intOf i - mn + 1).toNat)
    case atStart => exact ⟨0, by simp, Nat.zero_le _, abides_below HJ.out H0.out p1, p1.from hu, HS.out.below p1, p1.size⟩
    case round =>
      obtain ⟨j, rfl, hj, hR⟩ := hrel
      have HR1 := Lib.hid hR
      clear hR
      obtain ⟨x0, x1, x2, x3, x4⟩ := HR1.out.2.2.1.cells
      have hcc := HC2.out
      by_cases hp : j < cnt
      · obtain ⟨m, hm⟩ : ∃ m, m = mx - (j : Int) := ⟨_, rfl⟩
        rw [← hm]
        have hml : mn ≤ m := by omega
        have hmu : m ≤ 48 := by omega
        have HM := Lib.hid hm
        obtain ⟨fn, tmps, assign, body, hy, hRd⟩ := HY.out (D.take j) (m, wl) wr HR1.out.1 (by rw [List.length_take, HDL.out]; omega)
        clear hm hcc
        gi_wp2
        refine hRd.mono ?_
        rintro e W3 (⟨rfl, hJ3, hk3⟩ | ⟨rfl, hJx3⟩)
        · have hs3 : W.heap.size ≤ W3.heap.size := by have h1 := hk3.1.size; have h2 := HR1.out.2.2.2; omega
          have HK := Lib.hid hk3
          clear hk3
          gi_wp2
          go_roundw
          case rel => exact ⟨j + 1, by rw [show m - 1 = mx - ((j + 1 : Nat) : Int) by rw [HM.out]; omega], by omega, by rw [HDT.out j hp, ← HM.out]; exact hJ3, HR1.out.2.1.trans HK.out.1, kpB_sbox HK.out HR1.out.2.2.1, hs3⟩
          case measure => simp [intOf]; omega
        · gi_wp2
          refine bodyPost_ret (results_none rfl _ _ _) rfl ?_
          refine ⟨⟨_, rfl⟩, .inr ⟨_, ?_, hJx3⟩⟩
          rw [HM.out, ← HDT.out j hp]
          exact List.take_prefix _ _
      · have hml : ¬ mn ≤ mx - (j : Int) := by omega
        clear hcc
        gi_wp2
        go_end0
        refine ⟨⟨_, rfl⟩, .inl ?_⟩
        have := HR1.out.1
        rwa [List.take_of_length_le (by rw [HDL.out]; omega)] at this

/-- **The iterator, whatever the shape**: all its options, in order; or a beginning of them, where a round has said 'no more'. -/
theorem each_stops {F : Fence} (hF : IsWide F) (n : Nat) (hn : 1 ≤ n) (Bn : Nat) (k : Int) (ao : Option Addr) (len cap : Nat) (zs : List Alt) (mn mx wl : Int) (u w : World)
    (hlen : zs.length = len) (hl : len ≤ cap) (hcap : cap ≤ maxLen) (hr : ReadsS 2 altC u ao zs) (hu : Below u.heap.size u w) (hS : SBox w Bn k (.slice ao len cap) mn mx wl) (hBu : u.heap.size ≤ Bn) :
    SeqStopsK F n Try.prog 40 #[.pointer (some ⟨Bn, 0, none⟩)] (fun x : Alt => #[altV x]) (KpB u.heap.size Bn) (fun ys => ys = optL k zs mn mx wl) (fun pre => pre <+: optL k zs mn mx wl) (optL k zs mn mx wl).length w := by
  intro l J Jx W hW hJ hJx hY h0
  have hu2 : Below u.heap.size u W := hW.from hu
  have hS2 := hS.below hW
  cases hc : chkB k zs mn mx wl with
  | false => exact each_no hF n hn l Bn k ao len cap zs mn mx wl u W J Jx hJ hY hlen hl hcap hr hu2 hS2 hBu h0 hc
  | true =>
    by_cases h3 : k = 3
    · subst h3
      exact each_down hF n hn l Bn ao len cap zs mn mx wl u W J Jx hJ hY hlen hl hcap hr hu2 hS2 hBu h0 hc
    · exact each_rows hF n hn l Bn k ao len cap zs mn mx wl u W J Jx hJ hY hlen hl hcap hr hu2 hS2 hBu h0 hc h3

set_option maxHeartbeats 1000000 in
/-- **eachOption**: the shape is boxed; the function value captures the box. -/
theorem eachOption_any (k : Int) (sl : Value) (ao : Option Addr) (len cap : Nat) (mn mx wl : Int) (w : World) (hs : sl = .slice ao len cap) :
    Calls Try.prog 31 #[.agg #[.int .i64 k, sl, .int .i64 mn, .int .i64 mx, .int .i64 wl]] w fun e w' => e = .returned (.func (.func 40) #[] #[.pointer (some ⟨w.heap.size, 0, none⟩)]) ∧ w' = w.alloc (.cells #[.int .i64 k, sl, .int .i64 mn, .int .i64 mx, .int .i64 wl] 24) := by
  subst hs
  go_enter Try.func31, Try.ntmps31
  go_wp2
  go_ret
  exact ⟨rfl, rfl⟩

end Go.Proofs.Ytlmogkhgangmgaa.Shape
