/-
  Joined out of: The walks of what a command's line begins with. The walk of what adds a field to a row.
-/
import Derived.Test.YtdkngidangfkiaaGreatDoorJa28
import Derived.Test.YtdkngidangfkiaaGreatDoorJa27
import Derived.Test.YtdkngidangfkiaaGreatDoorJa25
set_option linter.unusedVariables false
set_option linter.unusedSimpArgs false
namespace Go.Proofs.YtdkngidangfkiaaGreatDoor.Cmd
open Go.RowKit
open Base
open Lex (Tok tkC tkC_length tokV zT txS chE)
open Shape (altC altC_length)
def nameB2 (s : ByteArray) : ByteArray := ⟨(nameT s).toArray⟩
theorem nameT_short (s : ByteArray) (hs : s.size ≤ 1000000) : (nameB2 s).size ≤ 3000000 := by
  have hn : nameB2 s = txS (if wordB s = true then 1 else 4, s, 0, 0) := rfl
  rw [hn]
  generalize (if wordB s = true then (1 : Int) else 4) = k
  unfold txS
  split
  · have h := Lex.wrB_size (k, s, (0 : Int), (0 : Int))
    have h2 : (k, s, (0 : Int), (0 : Int)).2.1.size = s.size := rfl
    omega
  · exact Nat.zero_le _
theorem verb_short : ∀ n : Fin 13, (verb (n.val : Int)).size ≤ 9 := by decide +kernel
set_option maxRecDepth 100000 in
set_option maxHeartbeats 2000000 in
theorem nameText_any (s : ByteArray) (hs : s.size ≤ 1000000) (w : World) (hT : Tb w) :
    Calls Tryz.prog 43 #[.string s] w fun e w' => e = .returned (.string (nameB2 s)) ∧ Below w.heap.size w w' := by
  have c1 := fun w hT => isWord_any s (by unfold maxLen; omega) w hT
  have c2 := fun k w (hT : LexLib.Tb w) => Lex.ltext_any k s 0 0 (by unfold maxLen; omega) (by decide) (by decide) w hT
  unfold tokV at c2
  dsimp only at c2
  have hn : nameB2 s = txS (if wordB s = true then 1 else 4, s, 0, 0) := rfl
  rw [hn]
  obtain ⟨X1, h1⟩ : ∃ X, X = txS ((1 : Int), s, (0 : Int), (0 : Int)) := ⟨_, rfl⟩
  obtain ⟨X4, h4⟩ : ∃ X, X = txS ((4 : Int), s, (0 : Int), (0 : Int)) := ⟨_, rfl⟩
  have c21 := c2 1
  have c24 := c2 4
  rw [← h1] at c21
  rw [← h4] at c24
  obtain ⟨B, hB⟩ : ∃ B, B = wordB s := ⟨_, rfl⟩
  rw [← hB] at c1 ⊢
  have C1 := Lib.hid c1
  have C21 := Lib.hid c21
  have C24 := Lib.hid c24
  have HT := Lib.hid hT
  cases B with
  | true =>
    rw [if_pos rfl, ← h1]
    clear c1 c2 c21 c24 hn h1 h4 hB hT hs
    go_enter Tryz.func43, Tryz.ntmps43
    go_wp2_with (first
      | (go_at_call 72; go_loud ((with_reducible refine (C1.out _ HT.out).mono ?_); rintro e w1 ⟨rfl, p1⟩))
      | (go_at_call 73; go_loud ((with_reducible refine (C21.out _ (HT.out.later (by (focus repeat (first | exact Below.refl _ _ | assumption | (exact Hid.out (by assumption)) | (with_reducible refine Below.drew ?_) | (with_reducible refine Base.below_drewN ?_ _) | (refine Below.from (below_one _) ?_) | (refine Below.from (below_conv _ _ _) ?_) | (refine Below.setCell ?_ (by simp <;> omega) _) | (refine Below.from (by assumption) ?_))))).lex).mono ?_); rintro e w2 ⟨rfl, p2⟩))
      | fail)
    go_ret
    exact ⟨rfl, by (focus repeat (first | exact Below.refl _ _ | assumption | (exact Hid.out (by assumption)) | (with_reducible refine Below.drew ?_) | (with_reducible refine Base.below_drewN ?_ _) | (refine Below.from (below_one _) ?_) | (refine Below.from (below_conv _ _ _) ?_) | (refine Below.setCell ?_ (by simp <;> omega) _) | (refine Below.from (by assumption) ?_)))⟩
  | false =>
    rw [if_neg (by decide), ← h4]
    clear c1 c2 c21 c24 hn h1 h4 hB hT hs
    go_enter Tryz.func43, Tryz.ntmps43
    go_wp2_with (first
      | (go_at_call 72; go_loud ((with_reducible refine (C1.out _ HT.out).mono ?_); rintro e w1 ⟨rfl, p1⟩))
      | (go_at_call 73; go_loud ((with_reducible refine (C24.out _ (HT.out.later (by (focus repeat (first | exact Below.refl _ _ | assumption | (exact Hid.out (by assumption)) | (with_reducible refine Below.drew ?_) | (with_reducible refine Base.below_drewN ?_ _) | (refine Below.from (below_one _) ?_) | (refine Below.from (below_conv _ _ _) ?_) | (refine Below.setCell ?_ (by simp <;> omega) _) | (refine Below.from (by assumption) ?_))))).lex).mono ?_); rintro e w2 ⟨rfl, p2⟩))
      | fail)
    go_ret
    exact ⟨rfl, by (focus repeat (first | exact Below.refl _ _ | assumption | (exact Hid.out (by assumption)) | (with_reducible refine Below.drew ?_) | (with_reducible refine Base.below_drewN ?_ _) | (refine Below.from (below_one _) ?_) | (refine Below.from (below_conv _ _ _) ?_) | (refine Below.setCell ?_ (by simp <;> omega) _) | (refine Below.from (by assumption) ?_)))⟩
def headB (c : Co) : ByteArray := ⟨(headT c).toArray⟩
set_option maxRecDepth 100000 in
set_option maxHeartbeats 4000000 in
theorem head_any (c : Co) (va vd : Value) (w : World) (hT : Tb w) (h1 : Row w va c.alts) (h2 : Row w vd c.after) (hk : 0 ≤ c.kind ∧ c.kind ≤ 12) (hn : c.name.size ≤ 1000000) (hnd : fitI c.node) (hj : fitI c.job) :
    Calls Tryz.prog 19 #[cmdV c va vd] w fun e w' => e = .returned (.string (headB c)) ∧ Below w.heap.size w w' := by
  obtain ⟨pd, qd, rfl, l2, m2, r2, n2⟩ := h2
  obtain ⟨pa, qa, rfl, l1, m1, r1, n1⟩ := h1
  have c1 := fun w hT => nameText_any c.name hn w hT
  have c2 := fun w (hT : HoursLib.Tb w) => HoursLib.itoa_any c.node hnd.1 hnd.2 w hT
  have c3 := fun w (hT : HoursLib.Tb w) => HoursLib.itoa_any c.job hj.1 hj.2 w hT
  have hv : w.cell? ⟨0, c.kind.toNat, none⟩ = some (.string (verb c.kind)) := hT.words c.kind.toNat (by show c.kind.toNat < 13; omega)
  have hlt0 := lt_of_cell hv
  have hvs : (verb c.kind).size ≤ 9 := by
    obtain ⟨n, hn2⟩ := Int.eq_ofNat_of_zero_le hk.1
    have := verb_short ⟨n, by omega⟩
    rw [hn2]; exact this
  have hns := nameT_short c.name hn
  have hl2 := num_short c.node hnd
  have hl3 := num_short c.job hj
  unfold cmdV
  have hd0 := hk.1
  have hd1 : c.kind < 13 := by omega
  obtain ⟨V, hV⟩ : ∃ V, V = verb c.kind := ⟨_, rfl⟩
  obtain ⟨N, hN⟩ : ∃ N, N = nameB2 c.name := ⟨_, rfl⟩
  obtain ⟨L2, hL2⟩ : ∃ L, L = numT c.node := ⟨_, rfl⟩
  obtain ⟨L3, hL3⟩ : ∃ L, L = numT c.job := ⟨_, rfl⟩
  rw [← hV] at hv hvs
  rw [← hN] at c1 hns
  rw [show Lib.itoa c.node = numT c.node from rfl, ← hL2] at c2
  rw [show Lib.itoa c.job = numT c.job from rfl, ← hL3] at c3
  rw [← hL2] at hl2
  rw [← hL3] at hl3
  have g1 : ¬ 9223372036854775807 < V.size + 1 := by omega
  have g2 : ¬ 9223372036854775807 < V.size + 1 + N.size := by omega
  have g3 : ¬ 9223372036854775807 < V.size + 1 + L2.length := by omega
  have g4 : ¬ 9223372036854775807 < V.size + 1 + L3.length := by omega
  have C1 := Lib.hid c1
  have C2 := Lib.hid c2
  have C3 := Lib.hid c3
  have HT := Lib.hid hT
  by_cases k1 : c.kind = 1
  · have t1 : (c.kind == 1) = true := by simpa using k1
    have hres : headB c = V ++ ⟨#[32]⟩ ++ N := by
      unfold headB headT; rw [if_pos k1, hV, hN]
      apply ByteArray.ext; apply Array.toList_inj.1
      simp [ByteArray.data_append, nameB2]
    rw [hres]
    clear c1 c2 c3 hT hres hV hN hL2 hL3 r1 r2 n1 n2 hn hnd hj hk hns hl2 hl3 hvs l1 l2 m1 m2 k1
    go_enter Tryz.func19, Tryz.ntmps19
    go_wp2_with (first
      | (go_at_call 43; go_loud ((with_reducible refine (C1.out _ (HT.out.later (by (focus repeat (first | exact Below.refl _ _ | assumption | (exact Hid.out (by assumption)) | (with_reducible refine Below.drew ?_) | (with_reducible refine Base.below_drewN ?_ _) | (refine Below.from (below_one _) ?_) | (refine Below.from (below_conv _ _ _) ?_) | (refine Below.setCell ?_ (by simp <;> omega) _) | (refine Below.from (by assumption) ?_)))))).mono ?_); rintro e w1 ⟨rfl, p1⟩))
      | fail)
    go_ret
    exact ⟨rfl, by (focus repeat (first | exact Below.refl _ _ | assumption | (exact Hid.out (by assumption)) | (with_reducible refine Below.drew ?_) | (with_reducible refine Base.below_drewN ?_ _) | (refine Below.from (below_one _) ?_) | (refine Below.from (below_conv _ _ _) ?_) | (refine Below.setCell ?_ (by simp <;> omega) _) | (refine Below.from (by assumption) ?_)))⟩
  have t1 : (c.kind == 1) = false := by simpa using k1
  by_cases k7 : c.kind = 7 ∨ c.kind = 8 ∨ c.kind = 9
  · have hres : headB c = V ++ ⟨#[32]⟩ ++ ⟨L2.toArray⟩ := by
      unfold headB headT; rw [if_neg k1, if_pos k7, hV, hL2]
      apply ByteArray.ext; apply Array.toList_inj.1
      simp [ByteArray.data_append]
    rw [hres]
    have tt : ((c.kind == 7) = true) ∨ ((c.kind == 7) = false ∧ (c.kind == 8) = true) ∨ ((c.kind == 7) = false ∧ (c.kind == 8) = false ∧ (c.kind == 9) = true) := by
      rcases k7 with k | k | k <;> simp [k]
    clear c1 c2 c3 hT hres hV hN hL2 hL3 r1 r2 n1 n2 hn hnd hj hk hns hl2 hl3 hvs l1 l2 m1 m2 k1 k7
    rcases tt with t7 | ⟨t7, t8⟩ | ⟨t7, t8, t9⟩
    all_goals
      go_enter Tryz.func19, Tryz.ntmps19
      go_wp2_with (first
        | (go_at_call 44; go_loud ((with_reducible refine (C2.out _ (HT.out.later (by (focus repeat (first | exact Below.refl _ _ | assumption | (exact Hid.out (by assumption)) | (with_reducible refine Below.drew ?_) | (with_reducible refine Base.below_drewN ?_ _) | (refine Below.from (below_one _) ?_) | (refine Below.from (below_conv _ _ _) ?_) | (refine Below.setCell ?_ (by simp <;> omega) _) | (refine Below.from (by assumption) ?_))))).hours).mono ?_); rintro e w1 ⟨rfl, p1⟩))
        | fail)
      go_ret
      exact ⟨rfl, by (focus repeat (first | exact Below.refl _ _ | assumption | (exact Hid.out (by assumption)) | (with_reducible refine Below.drew ?_) | (with_reducible refine Base.below_drewN ?_ _) | (refine Below.from (below_one _) ?_) | (refine Below.from (below_conv _ _ _) ?_) | (refine Below.setCell ?_ (by simp <;> omega) _) | (refine Below.from (by assumption) ?_)))⟩
  have t7 : (c.kind == 7) = false := by simp; omega
  have t8 : (c.kind == 8) = false := by simp; omega
  have t9 : (c.kind == 9) = false := by simp; omega
  by_cases kj : c.job = 0
  · have hres : headB c = V := by
      unfold headB headT; rw [if_neg k1, if_neg k7, if_neg (by rw [kj]; simp), hV]
      apply ByteArray.ext; apply Array.toList_inj.1
      simp
    rw [hres]
    have tj : (c.job != 0) = false := by simp [kj]
    clear c1 c2 c3 hT hres hV hN hL2 hL3 r1 r2 n1 n2 hn hnd hj hk hns hl2 hl3 hvs l1 l2 m1 m2 k1 k7 kj
    go_enter Tryz.func19, Tryz.ntmps19
    go_wp2_with (first
      | fail)
    go_ret
    exact ⟨rfl, by (focus repeat (first | exact Below.refl _ _ | assumption | (exact Hid.out (by assumption)) | (with_reducible refine Below.drew ?_) | (with_reducible refine Base.below_drewN ?_ _) | (refine Below.from (below_one _) ?_) | (refine Below.from (below_conv _ _ _) ?_) | (refine Below.setCell ?_ (by simp <;> omega) _) | (refine Below.from (by assumption) ?_)))⟩
  · have hres : headB c = V ++ ⟨#[32]⟩ ++ ⟨L3.toArray⟩ := by
      unfold headB headT; rw [if_neg k1, if_neg k7, if_pos kj, hV, hL3]
      apply ByteArray.ext; apply Array.toList_inj.1
      simp [ByteArray.data_append]
    rw [hres]
    have tj : (c.job != 0) = true := by simp [kj]
    clear c1 c2 c3 hT hres hV hN hL2 hL3 r1 r2 n1 n2 hn hnd hj hk hns hl2 hl3 hvs l1 l2 m1 m2 k1 k7 kj
    go_enter Tryz.func19, Tryz.ntmps19
    go_wp2_with (first
      | (go_at_call 44; go_loud ((with_reducible refine (C3.out _ (HT.out.later (by (focus repeat (first | exact Below.refl _ _ | assumption | (exact Hid.out (by assumption)) | (with_reducible refine Below.drew ?_) | (with_reducible refine Base.below_drewN ?_ _) | (refine Below.from (below_one _) ?_) | (refine Below.from (below_conv _ _ _) ?_) | (refine Below.setCell ?_ (by simp <;> omega) _) | (refine Below.from (by assumption) ?_))))).hours).mono ?_); rintro e w1 ⟨rfl, p1⟩))
      | fail)
    go_ret
    exact ⟨rfl, by (focus repeat (first | exact Below.refl _ _ | assumption | (exact Hid.out (by assumption)) | (with_reducible refine Below.drew ?_) | (with_reducible refine Base.below_drewN ?_ _) | (refine Below.from (below_one _) ?_) | (refine Below.from (below_conv _ _ _) ?_) | (refine Below.setCell ?_ (by simp <;> omega) _) | (refine Below.from (by assumption) ?_)))⟩
end Go.Proofs.YtdkngidangfkiaaGreatDoor.Cmd
namespace Go.Proofs.YtdkngidangfkiaaGreatDoor.Cmd
open Go.RowKit
open Base
open Shape (altC altC_length)
set_option linter.unusedVariables false
set_option linter.unusedSimpArgs false
theorem info_fld : (Tryz.prog.info? 57).map (fun i => (i.zero, i.size, i.bytes)) = some (some (.agg #[.string ⟨#[]⟩, .nilIface]), 2, 32) := by kernel_rfl
theorem fdC_ones (a : Fd) : ∀ u ∈ fdC a, u.oneCell' = true := by
  intro u hu
  obtain ⟨s, v⟩ := a
  simp only [fdC, List.mem_cons, List.not_mem_nil, or_false] at hu
  rcases hu with rfl | rfl
  · rfl
  · cases v <;> rfl
def FOwn (w : World) (L : Nat) (zs : List Fd) : Prop := ∃ v, w.heap[L]? = some (.cells #[v] 52) ∧ OwnS 2 fdC (L + 1) 57 v zs w
theorem cell_of1 {w : World} {L : Nat} {v : Value} {T : TypeId} (h : w.heap[L]? = some (.cells #[v] T)) : w.cell? ⟨L, 0, none⟩ = some v := by simp [World.cell?, h]
theorem frozen_of1 {w : World} {L : Nat} {v : Value} {T : TypeId} (h : w.heap[L]? = some (.cells #[v] T)) : w.frozen? ⟨L, 0, none⟩ = false := by simp [World.frozen?, h]
theorem add_kept {w w7 : World} {L : Nat} {o : Obj} {a : Array Value} {T : TypeId} {r : Option Nat} (hL : w.heap[L]? = some (.cells a T)) (g : (w.alloc o).grownBy w7 r) (hB : ∀ g, r = some g → L + 1 ≤ g) : w7.heap[L]? = some (.cells a T) ∧ Below L w w7 := by
  have hlt : L < w.heap.size := (Array.getElem?_eq_some_iff.1 hL).1
  have hne : ∀ k, k ≤ L → ¬ (some k = r) := fun k hk e => by have := hB k e.symm; omega
  have hk : ∀ k, k ≤ L → w7.heap[k]? = w.heap[k]? := fun k hk => by
    rw [g.block k (by rw [World.size_alloc]; omega) (hne k hk), Lib.alloc_old w o k (by omega)]
  refine ⟨(hk L (Nat.le_refl _)).trans hL, ⟨g.os, g.tape, g.output, ?_, fun k h => hk k (Nat.le_of_lt h)⟩⟩
  have := g.size
  rw [World.size_alloc] at this
  omega
set_option maxRecDepth 100000 in
set_option maxHeartbeats 2000000 in
theorem add_any (L : Nat) (zs : List Fd) (has : Bool) (s : ByteArray) (x : Vl) (w : World) (h : FOwn w L zs) (hz : zs.length ≤ 1000) :
    Calls Tryz.prog 46 #[.bool has, .string s, vlV x, .pointer (some ⟨L, 0, none⟩)] w fun e w' => e = .returned (.tuple #[]) ∧ FOwn w' L (zs ++ onF has s x) ∧ Below L w w' ∧ (∀ k a T, w.heap[k]? = some (.cells a T) → k ≠ L → T ≠ 57 → w'.heap[k]? = some (.cells a T)) := by
  obtain ⟨T, y, hy⟩ := vl_cases x
  obtain ⟨v, hL, hO⟩ := h
  have hlt : L < w.heap.size := (Array.getElem?_eq_some_iff.1 hL).1
  have hc : w.cell? ⟨L, 0, none⟩ = some v := by simp [World.cell?, hL]
  have hf : w.frozen? ⟨L, 0, none⟩ = false := by simp [World.frozen?, hL]
  obtain ⟨vo, vcap, rfl, hsr, hsn, hsc, hsm⟩ := hO.value fdC_length
  cases has with
  | false =>
    have H : FOwn w L zs := ⟨_, hL, hO⟩
    have HH := Lib.hid H
    rw [show zs ++ onF false s x = zs from by simp [onF]]
    rw [hy]
    clear hy hL hO hsr H
    go_enter Tryz.func46, Tryz.ntmps46
    go_wp2
    refine bodyPost_end (v := .tuple #[]) (by simp [results, Tryz.results46, go_sem]) rfl ⟨rfl, HH.out, (Below.refl w.heap.size w).mono (Nat.le_of_lt hlt), fun _ _ _ h _ _ => h⟩
  | true =>
    rw [show zs ++ onF true s x = zs ++ [(s, x)] from by simp [onF]]
    obtain ⟨i0, hi, hz0, hz1, hz2⟩ := info_parts info_fld
    have HI := Lib.hid hi
    have HZ0 := Lib.hid hz0
    have HZ1 := Lib.hid hz1
    have HZ2 := Lib.hid hz2
    have HO := Lib.hid (hO.below (below_one (.cells #[.string s, .iface T y] 57)))
    have HL := Lib.hid hL
    have hB : ∀ g, (Value.slice vo zs.length vcap).ownBlock = some g → L + 1 ≤ g := fun g hg => (own_at hO g hg).1
    have HB := Lib.hid hB
    have hOT : ∀ g, (Value.slice vo zs.length vcap).ownBlock = some g → ∃ cur, w.heap[g]? = some (.cells cur 57) := fun g hg => (own_at hO g hg).2.2
    have HOT := Lib.hid hOT
    have HNEW : Hid (ReadsS 2 fdC (w.alloc (.cells #[.string s, .iface T y] 57)) (some ⟨w.heap.size, 0, none⟩) [(s, x)]) := Lib.hid (readsS_one (f := fdC) (k := 2) (by simp) (s, x) #[.string s, .iface T y] (by simp [fdC, hy]) rfl _)
    have HHZ := Lib.hid hz
    rw [hy]
    clear hi hz0 hz1 hz2 hL hO hsr hB hOT hy hz
    go_enter Tryz.func46, Tryz.ntmps46
    go_wp2_with (first
      | (at_builtin; go_loud (refine wpList_append_grown rfl (.tmp 8) (.tmp 12) 52 rfl fdC_length (by decide) i0 _ 32 Tryz.underlying52 HI.out HZ0.out HZ1.out HZ2.out rfl fdC_ones rfl HO.out ⟨w.heap.size, 0, none⟩ 1 (s, x) rfl HNEW.out (by have := HHZ.out; omega) (by have := HHZ.out; unfold maxLen; omega) ?_; intro v7 w7 o7 g7; obtain ⟨hL7, b7⟩ := add_kept HL.out g7 HB.out; have hc7 := cell_of1 hL7; have hf7 := frozen_of1 hL7; obtain ⟨o7o, o7c, hv7, _, _, _, _⟩ := o7.value fdC_length; generalize (zs ++ [(s, x)]).length = n7 at hv7; subst hv7; have HL7 := Lib.hid hL7; have O7 := Lib.hid o7; have G7 := Lib.hid g7; have B7 := Lib.hid b7; clear o7 g7 hL7 b7))
      | fail)
    refine bodyPost_end (v := .tuple #[]) (by simp [results, Tryz.results46, go_sem]) rfl ⟨rfl, ⟨_, heap_set_same (i := 0) HL7.out _, O7.out.kept (grown_set w7 ⟨L, 0, none⟩ _) (fun k hk => by injection hk with hk; subst hk; exact Nat.lt_succ_self _)⟩, B7.out.setCell (Nat.le_refl _) _, fun k a T hk hkL hT => by
      have hklt : k < w.heap.size := (Array.getElem?_eq_some_iff.1 hk).1
      rw [heap_set_other _ _ (fun e => hkL e.symm), G7.out.block k (by rw [World.size_alloc]; omega) (by
        intro e
        obtain ⟨cur, hc⟩ := HOT.out k e.symm
        rw [hk] at hc
        injection hc with hc
        injection hc with _ hc
        exact hT hc), Lib.alloc_old w _ k hklt]
      exact hk⟩
end Go.Proofs.YtdkngidangfkiaaGreatDoor.Cmd
