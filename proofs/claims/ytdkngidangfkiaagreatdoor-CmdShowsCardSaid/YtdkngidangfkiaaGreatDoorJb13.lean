/-
  Joined out of: The walks of what may follow, what is lacking, and of the questions that ask it. The walks of what takes an alternative, a span.
-/
import Derived.Test.YtdkngidangfkiaaGreatDoorJb12
import Derived.Test.YtdkngidangfkiaaGreatDoorJb11
namespace Go.Proofs.YtdkngidangfkiaaGreatDoor.Cmd
open Go.RowKit
open Base
open Lex (Tok tkC tkC_length tokV zT)
open Shape (frB sizeB)
set_option linter.unusedVariables false
set_option linter.unusedSimpArgs false
set_option maxRecDepth 100000 in
set_option maxHeartbeats 2000000 in
theorem mayFollow_any (ao : Option Addr) (cap : Nat) (l : List Fd) (s : ByteArray) (w : World) (hl : l.length ≤ 100000) (hr : ReadsS 2 fdC w ao l) (hT : Tb w) :
    Calls Tryz.prog 103 #[.slice ao l.length cap, .string s] w fun e w' => e = .returned (.bool (mayF l s)) ∧ Below w.heap.size w w' := by
  have c1 := fun w2 (hb : Below w.heap.size w w2) (P : Nat) (hP : w2.cell? ⟨P, 0, none⟩ = some (.string s)) => count_named P s ao cap l w2 hl (hr.below fdC_length hb) hP
  have c2 := fun w2 (hb : Below w.heap.size w w2) => count_dep ao cap l w2 hl (hr.below fdC_length hb)
  have c3 := fun w2 (hb : Below w.heap.size w w2) => howOf_any s w2 (hT.later hb)
  have k1 := key_alt s
  have hcell : (w.alloc (.cells #[.string s] 9)).cell? ⟨w.heap.size, 0, none⟩ = some (.string s) := by rw [World.cell?_alloc_at _ _ _ _ rfl]; rfl
  obtain ⟨m1, hm1⟩ : ∃ m, m = cntL (nmd s) l := ⟨_, rfl⟩
  obtain ⟨m2, hm2⟩ : ∃ m, m = cntL isDep l := ⟨_, rfl⟩
  obtain ⟨h, hh⟩ : ∃ h, h = howN s := ⟨_, rfl⟩
  have hM : mayF l s = if s = kAlt then decide (m1 < 6) else if h ≠ 0 then decide (m2 < 4) else decide (m1 = 0) := by unfold mayF noF; rw [hm1, hm2, hh]
  rw [hM]
  rw [← hm1] at c1
  rw [← hm2] at c2
  rw [← hh] at c3
  have C1 := Lib.hid c1
  have C2 := Lib.hid c2
  have C3 := Lib.hid c3
  clear c1 c2 c3 hm1 hm2 hh hr hT hM
  by_cases ha : s = kAlt
  · rw [if_pos ha]
    rw [decide_eq_true ha] at k1
    clear ha
    go_enter Tryz.func103, Tryz.ntmps103
    go_wp2_with (first
      | (go_at_call 110; (with_reducible refine (named_any _ _).mono ?_); rintro e w1 ⟨rfl, rfl⟩)
      | (go_at_call 109; (with_reducible refine (C1.out _ (below_one _) _ hcell).mono ?_); rintro e w1 ⟨rfl, p1⟩)
      | fail)
    go_ret
    refine ⟨ret_bool ?_, Base.bel_⟩
    rw [Bool.eq_iff_iff]; simp; omega
  · rw [if_neg ha]
    rw [decide_eq_false ha] at k1
    clear ha
    by_cases h0 : h = 0
    · rw [if_neg (by simpa using h0)]
      subst h0
      go_enter Tryz.func103, Tryz.ntmps103
      go_wp2_with (first
        | (go_at_call 107; (with_reducible refine (C3.out _ (Base.bel_)).mono ?_); rintro e w1 ⟨rfl, rfl⟩)
        | (go_at_call 110; (with_reducible refine (named_any _ _).mono ?_); rintro e w1 ⟨rfl, rfl⟩)
        | (go_at_call 109; (with_reducible refine (C1.out _ (below_one _) _ hcell).mono ?_); rintro e w1 ⟨rfl, p1⟩)
        | fail)
      go_ret
      refine ⟨ret_bool ?_, Base.bel_⟩
      rw [Bool.eq_iff_iff]; simp
    · rw [if_pos h0]
      have t0 : ((h : Int) != 0) = true := by rw [bne_iff_ne]; omega
      go_enter Tryz.func103, Tryz.ntmps103
      go_wp2_with (first
        | (go_at_call 107; (with_reducible refine (C3.out _ (Base.bel_)).mono ?_); rintro e w1 ⟨rfl, rfl⟩)
        | (go_at_call 109; (with_reducible refine (C2.out _ (Base.bel_)).mono ?_); rintro e w1 ⟨rfl, p1⟩)
        | fail)
      go_ret
      refine ⟨ret_bool ?_, Base.bel_⟩
      rw [Bool.eq_iff_iff]; simp; omega
theorem named_some (s : ByteArray) (w : World) :
    Calls Tryz.prog 110 #[.string s] w fun e w' => ∃ Q, e = .returned (.func (.func 145) #[] #[.pointer (some ⟨Q, 0, none⟩)]) ∧ w'.cell? ⟨Q, 0, none⟩ = some (.string s) ∧ Below w.heap.size w w' :=
  (named_any s w).mono fun e w' ⟨h1, h2⟩ => ⟨w.heap.size, h1, by subst h2; rw [World.cell?_alloc_at _ _ _ _ rfl]; rfl, by subst h2; exact below_one _⟩
theorem on_some (j : Int) (w : World) :
    Calls Tryz.prog 171 #[.int .i64 j] w fun e w' => ∃ Q, e = .returned (.func (.func 190) #[] #[.pointer (some ⟨Q, 0, none⟩)]) ∧ w'.cell? ⟨Q, 0, none⟩ = some (.int .i64 j) ∧ Below w.heap.size w w' :=
  (dependsOn_any j w).mono fun e w' ⟨h1, h2⟩ => ⟨w.heap.size, h1, by subst h2; rw [World.cell?_alloc_at _ _ _ _ rfl]; rfl, by subst h2; exact below_one _⟩
set_option maxRecDepth 100000 in
set_option maxHeartbeats 2000000 in
theorem no_any (P : Nat) (ao : Option Addr) (cap : Nat) (l : List Fd) (s : ByteArray) (w : World) (hl : l.length ≤ 100000) (hr : ReadsS 2 fdC w ao l) (hP : w.cell? ⟨P, 0, none⟩ = some (.slice ao l.length cap)) :
    Calls Tryz.prog 108 #[.string s, .pointer (some ⟨P, 0, none⟩)] w fun e w' => e = .returned (.bool (noF l s)) ∧ Below w.heap.size w w' := by
  have c1 := fun w2 (hb : Below w.heap.size w w2) (Q : Nat) (hQ : w2.cell? ⟨Q, 0, none⟩ = some (.string s)) => count_named Q s ao cap l w2 hl (hr.below fdC_length hb) hQ
  have hlt := lt_of_cell hP
  obtain ⟨m1, hm1⟩ : ∃ m, m = cntL (nmd s) l := ⟨_, rfl⟩
  have hM : noF l s = decide (m1 = 0) := by unfold noF; rw [hm1]
  rw [hM]
  rw [← hm1] at c1
  have C1 := Lib.hid c1
  have HPB := Lib.hid (fun w2 (hb : Below w.heap.size w w2) => cell_below hP hb)
  clear c1 hm1 hM hr
  go_enter Tryz.func108, Tryz.ntmps108
  go_wp2
  go_region_with (first
    | (go_at_call 110; (with_reducible refine (named_some _ _).mono ?_); rintro e w1 ⟨Q, rfl, hQ, p1⟩; have hP1 := HPB.out w1 (Base.bel_))
    | (go_at_call 109; (with_reducible refine (C1.out _ (Base.bel_) _ (by assumption)).mono ?_); rintro e w2 ⟨rfl, p2⟩)
    | fail)
  all_goals
    go_wp2
    go_ret
    refine ⟨ret_bool ?_, Base.bel_⟩
    rw [Bool.eq_iff_iff]; simp
set_option maxRecDepth 100000 in
set_option maxHeartbeats 4000000 in
theorem lacks_any (k : Int) (ao : Option Addr) (cap : Nat) (l : List Fd) (w : World) (hl : l.length ≤ 100000) (hr : ReadsS 2 fdC w ao l) :
    Calls Tryz.prog 70 #[.int .i64 k, .slice ao l.length cap] w fun e w' => e = .returned (.bool (lacksB k l)) ∧ Below w.heap.size w w' := by
  have c1 := fun (s : ByteArray) w2 (hb : Below (w.alloc (.cells #[.slice ao l.length cap] 52)).heap.size (w.alloc (.cells #[.slice ao l.length cap] 52)) w2) =>
    no_any w.heap.size ao cap l s w2 hl (hr.below fdC_length (hb.from (below_one _))) (box_cell hb)
  have C1 := Lib.hid c1
  clear c1 hr
  unfold lacksB
  by_cases k1 : k = 1
  · subst k1
    rw [if_pos rfl]
    go_enter Tryz.func70, Tryz.ntmps70
    go_wp2_with (first
      | (go_at_call 108; (with_reducible refine (C1.out _ _ (Base.bel_)).mono ?_); rintro e w1 ⟨rfl, p1⟩)
      | fail)
    all_goals
      go_ret
      refine ⟨ret_bool ?_, Base.bel_⟩
      simp [*, kUser, kAccount, kAlt, kTime, kNodes, kRange]
  · rw [if_neg k1]
    have t1 : (k == 1) = false := by simpa using k1
    by_cases k5 : k = 5
    · subst k5
      rw [if_pos rfl]
      go_enter Tryz.func70, Tryz.ntmps70
      go_wp2
      go_ret
      refine ⟨ret_bool ?_, Base.bel_⟩
      rw [Bool.eq_iff_iff]; simp
    · rw [if_neg k5]
      have t5 : (k == 5) = false := by simpa using k5
      by_cases k6 : k = 6
      · subst k6
        rw [if_pos rfl]
        go_enter Tryz.func70, Tryz.ntmps70
        go_wp2_with (first
          | (go_at_call 108; (with_reducible refine (C1.out _ _ (Base.bel_)).mono ?_); rintro e w1 ⟨rfl, p1⟩)
          | fail)
        go_ret
        exact ⟨rfl, Base.bel_⟩
      · rw [if_neg k6]
        have t6 : (k == 6) = false := by simpa using k6
        by_cases k10 : k = 10
        · subst k10
          rw [if_pos rfl]
          go_enter Tryz.func70, Tryz.ntmps70
          go_wp2_with (first
            | (go_at_call 108; (with_reducible refine (C1.out _ _ (Base.bel_)).mono ?_); rintro e w1 ⟨rfl, p1⟩)
            | fail)
          all_goals
            go_ret
            refine ⟨ret_bool ?_, Base.bel_⟩
            simp [*, kTime, kNodes, kFrom]
        · rw [if_neg k10]
          have t10 : (k == 10) = false := by simpa using k10
          go_enter Tryz.func70, Tryz.ntmps70
          go_wp2
          go_ret
          exact ⟨rfl, Base.bel_⟩
end Go.Proofs.YtdkngidangfkiaaGreatDoor.Cmd
namespace Go.Proofs.YtdkngidangfkiaaGreatDoor.Cmd
open Go.RowKit
open Base
open Lex (Tok tkC tkC_length tokV zT)
open Shape (frB sizeB)
set_option linter.unusedVariables false
set_option linter.unusedSimpArgs false
theorem res2 {w w3 : World} {B N : Nat} {z0 z1 : Value} {T : TypeId} (hN : N = w.heap.size) (hB : B < w.heap.size) (g : (w.alloc (.cells #[z0, z1] T)).grownBy w3 (some B)) :
    w3.heap[N]? = some (.cells #[z0, z1] T) ∧ w3.cell? ⟨N, 0, none⟩ = some z0 ∧ w3.cell? ⟨N, 1, none⟩ = some z1 ∧ (∀ i, w3.frozen? ⟨N, i, none⟩ = false) ∧ N < w3.heap.size := by
  subst hN
  have h := g.block w.heap.size (by simp) (by intro e; injection e; omega)
  rw [heap_alloc_new] at h
  refine ⟨h, ?_, ?_, fun i => ?_, ?_⟩
  · simp [World.cell?, h]
  · simp [World.cell?, h]
  · simp [World.frozen?, h]
  · have := g.size; simp at this; omega
theorem res2_fin {w w3 : World} {B N : Nat} {z0 z1 v0 v1 : Value} {T : TypeId} {r : List Tok} {n : Nat} (hN : N = w.heap.size) (hB : B < w.heap.size) (g : (w.alloc (.cells #[z0, z1] T)).grownBy w3 (some B)) (hR : RdAt w3 B r n) :
    ((w3.setCell ⟨N, 0, none⟩ v0).setCell ⟨N, 1, none⟩ v1).cell? ⟨N, 0, none⟩ = some v0 ∧ ((w3.setCell ⟨N, 0, none⟩ v0).setCell ⟨N, 1, none⟩ v1).cell? ⟨N, 1, none⟩ = some v1 ∧
    w.grownBy ((w3.setCell ⟨N, 0, none⟩ v0).setCell ⟨N, 1, none⟩ v1) (some B) ∧ RdAt ((w3.setCell ⟨N, 0, none⟩ v0).setCell ⟨N, 1, none⟩ v1) B r n := by
  obtain ⟨h, _, _, _, hlt⟩ := res2 hN hB g
  have h2 := heap_set_same (heap_set_same (i := 0) h v0) (i := 1) v1
  have gg : w.grownBy ((w3.setCell ⟨N, 0, none⟩ v0).setCell ⟨N, 1, none⟩ v1) (some B) := kp_set (kp_set (grown_trans (grown_of_below (below_one _) _) g) _ _ (.inr (by show w.heap.size ≤ N; omega))) _ _ (.inr (by show w.heap.size ≤ N; omega))
  refine ⟨by simp [World.cell?, h2], by simp [World.cell?, h2], gg, ?_⟩
  obtain ⟨ao, cap, q1, q2, q3, q4, q5⟩ := hR
  have hNB : N ≠ B := by omega
  have g3 : w3.grownBy ((w3.setCell ⟨N, 0, none⟩ v0).setCell ⟨N, 1, none⟩ v1) (some N) := kp_set (kp_set (grown_refl _ _) _ _ (.inl rfl)) _ _ (.inl rfl)
  have hB3 : B < w3.heap.size := by have := g.size; simp at this; omega
  refine ⟨ao, cap, ?_, q2, q3, ?_, q5⟩
  · rw [heap_set_other _ _ hNB, heap_set_other _ _ hNB]; exact q1
  · exact reads_kept q4 g3 (fun a ha => ⟨Nat.lt_trans (q5 a ha) hB3, by have := q5 a ha; omega⟩)
set_option maxRecDepth 100000 in
set_option maxHeartbeats 2000000 in
theorem option_any (u : World) (B n : Nat) (l : List Tok) (w : World) (hR : RdAt w B l n) (hs : ∀ t ∈ l, t.2.1.size ≤ 1000000) (hC : Ctx u w B) :
    Calls Tryz.prog 141 #[.pointer (some ⟨B, 0, none⟩)] w
      fun e w' => ∃ a b : Int, RSays B n (.agg #[.int .i64 a, .int .i64 b]) (rdOpt l).1.isSome (rdOpt l).2 w e w' ∧ ∀ p, (rdOpt l).1 = some p → p = (a, b) := by
  have hlt := hR.lt
  have hC0 := hC.below (below_one (.cells #[.int .i64 0, .int .i64 0] 89))
  have c1 := number_any 54 #[] sizeB B n l (w.alloc (.cells #[.int .i64 0, .int .i64 0] 89)) (hR.below (below_one _)) (fun t ht P w2 hb hP => numc_isSize t P w2 hP)
  have s1 := nx_suffix (qNum sizeB) l
  have hC1 : ∀ w2, (w.alloc (.cells #[.int .i64 0, .int .i64 0] 89)).grownBy w2 (some B) → Ctx u w2 B := fun w2 g => hC0.grown g
  have HC1 := Lib.hid hC1
  clear hC hC0 hC1 hR
  rcases h1 : nx (qNum sizeB) l with ⟨_ | t1, r1⟩
  · have hD : rdOpt l = (none, r1) := by unfold rdOpt rdNum getN; rw [h1]; rfl
    rw [hD]
    rw [h1] at c1
    unfold RSays at c1
    dsimp only [Option.getD, Option.isSome, zT] at c1 ⊢
    have C1 := Lib.hid c1
    clear c1 h1 hD s1 hs
    go_enter Tryz.func141, Tryz.ntmps141
    go_wp2_with (first
      | (go_at_call 100; (with_reducible refine C1.out.mono ?_); rintro e w2 ⟨rfl, r2, g2⟩; have R2 := Lib.hid r2; have G2 := Lib.hid g2; obtain ⟨_, e0, e1, ef, el⟩ := res2 rfl hlt g2; clear r2 g2)
      | fail)
    obtain ⟨y0, y1, f3, f4⟩ := res2_fin (v0 := .int .i64 0) (v1 := .int .i64 0) rfl hlt G2.out R2.out
    refine bodyPost_ret (v := .tuple #[.agg #[.int .i64 0, .int .i64 0], .bool false]) (by simp [results, Tryz.results141, go_sem, y0, y1]) rfl ?_
    exact ⟨0, 0, ⟨rfl, f4, f3⟩, fun p h => by simp at h⟩
  rw [h1] at c1 s1
  unfold RSays at c1
  dsimp only [Option.getD, Option.isSome] at c1 s1
  obtain ⟨A, hA⟩ : ∃ A, A = t1.2.2.1 := ⟨_, rfl⟩
  rw [← hA] at c1
  have c2 := fun (w2 : World) (h2 : RdAt w2 B r1 n) => sign_any kColon B n r1 w2 h2
  have s2 := nx_suffix (qSign kColon) r1
  have C1 := Lib.hid c1
  clear c1
  rcases h2 : nx (qSign kColon) r1 with ⟨_ | t2, r2⟩
  · have hD : rdOpt l = (none, r2) := by unfold rdOpt rdNum getN; rw [h1]; dsimp only [Option.map]; rw [h2]
    rw [hD]
    rw [h2] at c2
    unfold kColon at c2
    dsimp only [Option.getD, Option.isSome] at c2 ⊢
    have C2 := Lib.hid c2
    clear c2 h1 h2 hD s1 s2 hs hA
    go_enter Tryz.func141, Tryz.ntmps141
    go_wp2_with (first
      | (go_at_call 100; (with_reducible refine C1.out.mono ?_); rintro e w2 ⟨rfl, r2, g2⟩; have R2 := Lib.hid r2; have G2 := Lib.hid g2; clear r2 g2)
      | (go_at_call 104; (with_reducible refine (C2.out _ R2.out).mono ?_); rintro e w3 ⟨rfl, r3, g3⟩; have R3 := Lib.hid r3; have G3 := Lib.hid (grown_trans G2.out g3); obtain ⟨_, e0, e1, ef, el⟩ := res2 rfl hlt G3.out; clear r3 g3)
      | fail)
    obtain ⟨y0, y1, f3, f4⟩ := res2_fin (v0 := .int .i64 0) (v1 := .int .i64 0) rfl hlt G3.out R3.out
    refine bodyPost_ret (v := .tuple #[.agg #[.int .i64 0, .int .i64 0], .bool false]) (by simp [results, Tryz.results141, go_sem, y0, y1]) rfl ?_
    exact ⟨0, 0, ⟨rfl, f4, f3⟩, fun p h => by simp at h⟩
  rw [h2] at c2 s2
  unfold kColon at c2
  dsimp only [Option.getD, Option.isSome] at c2 s2
  have hs2 : ∀ t ∈ r2, t.2.1.size ≤ 1000000 := fun t ht => hs t ((s2.trans s1).mem ht)
  have c3 := fun (w2 : World) (h2 : RdAt w2 B r2 n) (hC2 : Ctx u w2 B) => length_any u B n r2 w2 h2 hs2 hC2
  have C2 := Lib.hid c2
  clear c2
  have hD : rdOpt l = ((nx qLen r2).1.map (fun t3 => (A, tkOf t3)), (nx qLen r2).2) := by
    unfold rdOpt rdNum getN; rw [h1]; dsimp only [Option.map]; rw [h2]; dsimp only
    unfold rdLen getL
    rw [hA]
    rcases h3 : nx qLen r2 with ⟨_ | t3, r3⟩ <;> rfl
  rw [hD]
  obtain ⟨O, hO⟩ : ∃ O, O = (nx qLen r2).1.isSome := ⟨_, rfl⟩
  obtain ⟨r3, hr3⟩ : ∃ r, r = (nx qLen r2).2 := ⟨_, rfl⟩
  obtain ⟨V, hV⟩ : ∃ V, V = tkOf ((nx qLen r2).1.getD zT) := ⟨_, rfl⟩
  have hfin : (∀ p, (nx qLen r2).1.map (fun t3 => (A, tkOf t3)) = some p → p = (A, V)) := by
    intro p hp
    rw [hV]
    rcases h3 : nx qLen r2 with ⟨_ | t3, r3⟩
    · rw [h3] at hp; simp at hp
    · rw [h3] at hp; simpa using hp.symm
  have hsome : ((nx qLen r2).1.map (fun t3 => (A, tkOf t3))).isSome = O := by rw [hO, Option.isSome_map]
  unfold RSays at c3
  dsimp only
  rw [hsome, ← hr3]
  rw [← hO, ← hr3, ← hV] at c3
  have C3 := Lib.hid c3
  have HF := Lib.hid hfin
  clear c3 hfin hsome h1 h2 hD s1 s2 hs hs2 hA hO hr3 hV
  go_enter Tryz.func141, Tryz.ntmps141
  go_wp2_with (first
    | (go_at_call 143; (with_reducible refine (C3.out _ R3.out (HC1.out _ G3.out)).mono ?_); rintro e w4 ⟨rfl, r4, g4⟩; have R4 := Lib.hid r4; have G4 := Lib.hid (grown_trans G3.out g4); obtain ⟨_, e0, e1, ef, el⟩ := res2 rfl hlt G4.out; clear r4 g4)
    | (go_at_call 100; (with_reducible refine C1.out.mono ?_); rintro e w2 ⟨rfl, r2, g2⟩; have R2 := Lib.hid r2; have G2 := Lib.hid g2; clear r2 g2)
    | (go_at_call 104; (with_reducible refine (C2.out _ R2.out).mono ?_); rintro e w3 ⟨rfl, r3, g3⟩; have R3 := Lib.hid r3; have G3 := Lib.hid (grown_trans G2.out g3); clear r3 g3)
    | fail)
  obtain ⟨y0, y1, f3, f4⟩ := res2_fin (v0 := .int .i64 A) (v1 := .int .i64 V) rfl hlt G4.out R4.out
  refine bodyPost_ret (v := .tuple #[.agg #[.int .i64 A, .int .i64 V], .bool O]) (by simp [results, Tryz.results141, go_sem, y0, y1]) rfl ?_
  exact ⟨A, V, ⟨rfl, f4, f3⟩, HF.out⟩
set_option maxRecDepth 100000 in
set_option maxHeartbeats 2000000 in
theorem span_any (u : World) (B n : Nat) (l : List Tok) (w : World) (hR : RdAt w B l n) (hs : ∀ t ∈ l, t.2.1.size ≤ 1000000) (hC : Ctx u w B) :
    Calls Tryz.prog 142 #[.pointer (some ⟨B, 0, none⟩)] w
      fun e w' => ∃ a b : Int, RSays B n (.agg #[.int .i64 a, .int .i64 b]) (rdSpan l).1.isSome (rdSpan l).2 w e w' ∧ ∀ p, (rdSpan l).1 = some p → p = (a, b) := by
  have hlt := hR.lt
  have hC0 := hC.below (below_one (.cells #[.int .i64 0, .int .i64 0] 91))
  have c1 := number_any 54 #[] sizeB B n l (w.alloc (.cells #[.int .i64 0, .int .i64 0] 91)) (hR.below (below_one _)) (fun t ht P w2 hb hP => numc_isSize t P w2 hP)
  have s1 := nx_suffix (qNum sizeB) l
  have hC1 : ∀ w2, (w.alloc (.cells #[.int .i64 0, .int .i64 0] 91)).grownBy w2 (some B) → Ctx u w2 B := fun w2 g => hC0.grown g
  have HC1 := Lib.hid hC1
  clear hC hC0 hC1 hR
  rcases h1 : nx (qNum sizeB) l with ⟨_ | t1, r1⟩
  · have hD : rdSpan l = (none, r1) := by unfold rdSpan rdNum getN; rw [h1]; rfl
    rw [hD]
    rw [h1] at c1
    unfold RSays at c1
    dsimp only [Option.getD, Option.isSome, zT] at c1 ⊢
    have C1 := Lib.hid c1
    clear c1 h1 hD s1 hs
    go_enter Tryz.func142, Tryz.ntmps142
    go_wp2_with (first
      | (go_at_call 100; (with_reducible refine C1.out.mono ?_); rintro e w2 ⟨rfl, r2, g2⟩; have R2 := Lib.hid r2; have G2 := Lib.hid g2; obtain ⟨_, e0, e1, ef, el⟩ := res2 rfl hlt g2; clear r2 g2)
      | fail)
    obtain ⟨y0, y1, f3, f4⟩ := res2_fin (v0 := .int .i64 0) (v1 := .int .i64 0) rfl hlt G2.out R2.out
    refine bodyPost_ret (v := .tuple #[.agg #[.int .i64 0, .int .i64 0], .bool false]) (by simp [results, Tryz.results142, go_sem, y0, y1]) rfl ?_
    exact ⟨0, 0, ⟨rfl, f4, f3⟩, fun p h => by simp at h⟩
  rw [h1] at c1 s1
  unfold RSays at c1
  dsimp only [Option.getD, Option.isSome] at c1 s1
  obtain ⟨A, hA⟩ : ∃ A, A = t1.2.2.1 := ⟨_, rfl⟩
  rw [← hA] at c1
  have c2 := fun (w2 : World) (h2 : RdAt w2 B r1 n) => sign_any kMinus B n r1 w2 h2
  have s2 := nx_suffix (qSign kMinus) r1
  have C1 := Lib.hid c1
  clear c1
  rcases h2 : nx (qSign kMinus) r1 with ⟨_ | t2, r2⟩
  · have hD : rdSpan l = (none, r2) := by unfold rdSpan rdNum getN; rw [h1]; dsimp only [Option.map]; rw [h2]
    rw [hD]
    rw [h2] at c2
    unfold kMinus at c2
    dsimp only [Option.getD, Option.isSome] at c2 ⊢
    have C2 := Lib.hid c2
    clear c2 h1 h2 hD s1 s2 hs hA
    go_enter Tryz.func142, Tryz.ntmps142
    go_wp2_with (first
      | (go_at_call 100; (with_reducible refine C1.out.mono ?_); rintro e w2 ⟨rfl, r2, g2⟩; have R2 := Lib.hid r2; have G2 := Lib.hid g2; clear r2 g2)
      | (go_at_call 104; (with_reducible refine (C2.out _ R2.out).mono ?_); rintro e w3 ⟨rfl, r3, g3⟩; have R3 := Lib.hid r3; have G3 := Lib.hid (grown_trans G2.out g3); obtain ⟨_, e0, e1, ef, el⟩ := res2 rfl hlt G3.out; clear r3 g3)
      | fail)
    obtain ⟨y0, y1, f3, f4⟩ := res2_fin (v0 := .int .i64 0) (v1 := .int .i64 0) rfl hlt G3.out R3.out
    refine bodyPost_ret (v := .tuple #[.agg #[.int .i64 0, .int .i64 0], .bool false]) (by simp [results, Tryz.results142, go_sem, y0, y1]) rfl ?_
    exact ⟨0, 0, ⟨rfl, f4, f3⟩, fun p h => by simp at h⟩
  rw [h2] at c2 s2
  unfold kMinus at c2
  dsimp only [Option.getD, Option.isSome] at c2 s2
  have hs2 : ∀ t ∈ r2, t.2.1.size ≤ 1000000 := fun t ht => hs t ((s2.trans s1).mem ht)
  have c3 := fun (w2 : World) (h2 : RdAt w2 B r2 n) (hC2 : Ctx u w2 B) => number_any 54 #[] sizeB B n r2 w2 h2 (fun t ht P w2 hb hP => numc_isSize t P w2 hP)
  have C2 := Lib.hid c2
  clear c2
  have hD : rdSpan l = ((nx (qNum sizeB) r2).1.map (fun t3 => (A, t3.2.2.1)), (nx (qNum sizeB) r2).2) := by
    unfold rdSpan rdNum getN; rw [h1]; dsimp only [Option.map]; rw [h2]; dsimp only
    rw [hA]
    rcases h3 : nx (qNum sizeB) r2 with ⟨_ | t3, r3⟩ <;> rfl
  rw [hD]
  obtain ⟨O, hO⟩ : ∃ O, O = (nx (qNum sizeB) r2).1.isSome := ⟨_, rfl⟩
  obtain ⟨r3, hr3⟩ : ∃ r, r = (nx (qNum sizeB) r2).2 := ⟨_, rfl⟩
  obtain ⟨V, hV⟩ : ∃ V, V = ((nx (qNum sizeB) r2).1.getD zT).2.2.1 := ⟨_, rfl⟩
  have hfin : (∀ p, (nx (qNum sizeB) r2).1.map (fun t3 => (A, t3.2.2.1)) = some p → p = (A, V)) := by
    intro p hp
    rw [hV]
    rcases h3 : nx (qNum sizeB) r2 with ⟨_ | t3, r3⟩
    · rw [h3] at hp; simp at hp
    · rw [h3] at hp; simpa using hp.symm
  have hsome : ((nx (qNum sizeB) r2).1.map (fun t3 => (A, t3.2.2.1))).isSome = O := by rw [hO, Option.isSome_map]
  unfold RSays at c3
  dsimp only
  rw [hsome, ← hr3]
  rw [← hO, ← hr3, ← hV] at c3
  have C3 := Lib.hid c3
  have HF := Lib.hid hfin
  clear c3 hfin hsome h1 h2 hD s1 s2 hs hs2 hA hO hr3 hV
  go_enter Tryz.func142, Tryz.ntmps142
  go_wp2_with (first
    | (go_at_call 100; (with_reducible refine (C3.out _ R3.out (HC1.out _ G3.out)).mono ?_); rintro e w4 ⟨rfl, r4, g4⟩; have R4 := Lib.hid r4; have G4 := Lib.hid (grown_trans G3.out g4); obtain ⟨_, e0, e1, ef, el⟩ := res2 rfl hlt G4.out; clear r4 g4)
    | (go_at_call 100; (with_reducible refine C1.out.mono ?_); rintro e w2 ⟨rfl, r2, g2⟩; have R2 := Lib.hid r2; have G2 := Lib.hid g2; clear r2 g2)
    | (go_at_call 104; (with_reducible refine (C2.out _ R2.out).mono ?_); rintro e w3 ⟨rfl, r3, g3⟩; have R3 := Lib.hid r3; have G3 := Lib.hid (grown_trans G2.out g3); clear r3 g3)
    | fail)
  obtain ⟨y0, y1, f3, f4⟩ := res2_fin (v0 := .int .i64 A) (v1 := .int .i64 V) rfl hlt G4.out R4.out
  refine bodyPost_ret (v := .tuple #[.agg #[.int .i64 A, .int .i64 V], .bool O]) (by simp [results, Tryz.results142, go_sem, y0, y1]) rfl ?_
  exact ⟨A, V, ⟨rfl, f4, f3⟩, HF.out⟩
end Go.Proofs.YtdkngidangfkiaaGreatDoor.Cmd
