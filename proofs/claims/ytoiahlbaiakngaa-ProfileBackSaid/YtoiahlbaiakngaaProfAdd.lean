/-
  The walk of what a profile comes to by some parts: step by step, part by part.
-/
import Derived.Test.YtoiahlbaiakngaaProfLay
import Derived.Deep.LoopGhost
namespace Go.Proofs.Ytoiahlbaiakngaa.Prof
open Go.RowKit
open Base
set_option linter.unusedVariables false
set_option linter.unusedSimpArgs false

/-- The cells of a part. -/
def ptC (x : Pt) : List Value := [.int .i64 x.1, .int .i64 x.2.1, .int .i64 x.2.2]
theorem ptC_length (x : Pt) : (ptC x).length = 3 := rfl
theorem pt_cells {w : World} {a : Option Addr} {zs : List Pt} (h : ReadsS 3 ptC w a zs) {j : Nat} (hj : j < zs.length) :
    ∃ b off, a = some ⟨b, off, none⟩ ∧ w.cell? ⟨b, off + j * 3, none⟩ = some (.int .i64 zs[j].1) ∧ w.cell? ⟨b, off + j * 3 + 1, none⟩ = some (.int .i64 zs[j].2.1) ∧ w.cell? ⟨b, off + j * 3 + 2, none⟩ = some (.int .i64 zs[j].2.2) := by
  obtain ⟨b, off, ha, hc⟩ := h.at_ hj
  exact ⟨b, off, ha, hc 0 (by decide), hc 1 (by decide), hc 2 (by decide)⟩

theorem Acc.alloc {w : World} {C B : Nat} {v : Value} {Q : List St} (h : Acc w C B v Q) (o : Obj) : Acc (w.alloc o) C B v Q := ⟨h.1.alloc o, h.2.1.alloc o, h.2.2⟩
theorem cell_same {w w' : World} {b o : Nat} {v : Value} (h : w.cell? ⟨b, o, none⟩ = some v) (hk : w'.heap[b]? = w.heap[b]?) : w'.cell? ⟨b, o, none⟩ = some v := by
  rw [← h]; exact World.cell?_of_block hk

theorem adds_cons (xs : List Pt) (s : St) (l q : List St) : adds xs (s :: l) q = adds xs l (inn (nxt l) s xs q) := rfl
theorem inn_nil (n : Int) (s : St) (q : List St) : inn n s [] q = q := rfl
theorem inn_stop {n : Int} {s : St} {x : Pt} (xs : List Pt) (q : List St) (h : n ≤ max s.1 x.1) : inn n s (x :: xs) q = q := by rw [inn, if_pos h]
theorem inn_lay {n : Int} {s : St} {x : Pt} (xs : List Pt) (q : List St) (h : ¬ n ≤ max s.1 x.1) (h2 : max s.1 x.1 < x.2.1) : inn n s (x :: xs) q = inn n s xs (layL q (max s.1 x.1) (s.2 + x.2.2)) := by rw [inn, if_neg h, if_pos h2]
theorem inn_pass {n : Int} {s : St} {x : Pt} (xs : List Pt) (q : List St) (h : ¬ n ≤ max s.1 x.1) (h2 : ¬ max s.1 x.1 < x.2.1) : inn n s (x :: xs) q = inn n s xs q := by rw [inn, if_neg h, if_neg h2]

set_option maxRecDepth 100000 in
set_option maxHeartbeats 8000000 in
theorem added_any (ao : Option Addr) (len cap : Nat) (p : List St) (a2 : Option Addr) (c2 : Nat) (xs : List Pt) (w : World) (hlen : p.length = len) (hp : Prof p) (hr : ReadsS 2 stC w ao p)
    (hx3 : xs.length = 3) (hxb : ∀ x ∈ xs, -1000000 ≤ x.2.2 ∧ x.2.2 ≤ 1000000) (hx : ReadsS 3 ptC w a2 xs) :
    Calls Try.prog 28 #[.slice ao len cap, .slice a2 3 c2] w fun e w' => ∃ v, e = .returned v ∧ OwnS 2 stC w.heap.size 43 v (adds xs p []) w' ∧ Below w.heap.size w w' := by
  subst hlen
  have hl := hp.1.2.1
  have cL := fun (v : Value) (Q : List St) (a f : Int) (W : World) (hA : Acc W w.heap.size w.heap.size v Q) (hq : Q.length ≤ 5000) => lay_any w.heap.size w.heap.size v Q a f W hA hq
  have HPM := Lib.hid (fun s (hs : s ∈ p) => hp.mem hs)
  have HXB := Lib.hid hxb
  have HR := Lib.hid hr
  have HX := Lib.hid hx
  obtain ⟨RES, hRES⟩ : ∃ R, R = adds xs p [] := ⟨_, rfl⟩
  rw [← hRES]
  have HRES := Lib.hid hRES.symm
  have CL := Lib.hid cL
  have hA0 : Acc (w.alloc (.cells #[.slice none 0 0] 22)) w.heap.size w.heap.size (.slice none 0 0) [] := ⟨Boxed.new _ _ _, OwnS.nil (by simp), Nat.le_refl _⟩
  have HA0 := Lib.hid hA0
  clear cL hxb hr hx hRES hA0 hp
  go_enter Try.func28, Try.ntmps28
  go_wp2
  go_step3
  go_wp2
  go_step3
  go_wp2
  go_loopg [16] (p.length + 1) (fun g iv wr => ∃ (k : Nat) (v : Value) (Q : List St), iv = .int .i64 (k : Int) ∧ k + g = p.length + 1 ∧ k ≤ p.length ∧ Acc wr w.heap.size w.heap.size v Q ∧ Q.length ≤ 3 * k ∧ adds xs (p.drop k) Q = RES ∧ Below w.heap.size w wr)
  case atStart => exact ⟨0, _, [], rfl, by omega, Nat.zero_le _, HA0.out, Nat.zero_le _, HRES.out, below_one _⟩
  case round =>
    obtain ⟨k, v, Q, rfl, hkg, hk, hacc, hql, hres, hb⟩ := hrel
    obtain ⟨W1, hW1⟩ : ∃ W1, W1 = wr := ⟨_, rfl⟩
    subst hW1
    cases gk with
    | zero => omega
    | succ g =>
      have HB := Lib.hid hb
      have HACC := Lib.hid hacc
      have hClt := hacc.1.lt
      have HOLT := Lib.hid (own_lt hacc.2.1)
      by_cases hpk : k < p.length
      · obtain ⟨bb, bo, hao, b0, b1⟩ := st_cells (HR.out.below stC_length hb) hpk
        subst hao
        rw [List.drop_eq_getElem_cons hpk, adds_cons] at hres
        have hfb := HPM.out _ (List.getElem_mem hpk)
        obtain ⟨N, hN⟩ : ∃ N, N = nxt (p.drop (k + 1)) := ⟨_, rfl⟩
        rw [← hN] at hres
        obtain ⟨⟨a, f⟩, hA⟩ : ∃ A : St, A = p[k] := ⟨_, rfl⟩
        rw [← hA] at b0 b1 hres hfb
        dsimp only at b0 b1 hfb
        have HRS := Lib.hid hres
        have HQL := Lib.hid hql
        obtain ⟨hf0, hf1, _⟩ := hfb
        have hlow : (0 : Int) ≤ (k : Int) := by omega
        have hup : (k : Int) < ((p.length : Nat) : Int) := by omega
        clear hacc hres hA
        by_cases hlast : k + 1 < p.length
        · have t1 : decide (((k + 1 : Nat) : Int) < (p.length : Int)) = true := decide_eq_true (by omega)
          have t1' : decide ((k : Int) + 1 < (p.length : Int)) = true := decide_eq_true (by omega)
          obtain ⟨bb2, bo2, hao2, n0, n1⟩ := st_cells (HR.out.below stC_length hb) hlast
          obtain ⟨rfl, rfl⟩ : bb = bb2 ∧ bo = bo2 := by simpa using hao2
          have hNv : p[k + 1].1 = N := by rw [hN, List.drop_eq_getElem_cons hlast]; rfl
          rw [hNv] at n0
          have n2 := cell_below n0 (below_one (.cells #[.int .i64 a, .int .i64 f] 43))
          have hup2 : (k : Int) + 1 < ((p.length : Nat) : Int) := by omega
          clear hN hNv n0 n1 hb hao2
          go_wp2
          go_loopg [34] 4 (fun g2 jv wy => ∃ (j : Nat) (v : Value) (Q : List St), jv = .int .i64 (j : Int) ∧ j + g2 = 4 ∧ j ≤ 3 ∧ Acc wy w.heap.size w.heap.size v Q ∧ Q.length ≤ 3 * k + j ∧ adds xs (p.drop (k + 1)) (inn N (a, f) (xs.drop j) Q) = RES ∧ v.ownBlock ≠ some W1.heap.size ∧ W1.heap.size < wy.heap.size ∧ wy.cell? ⟨W1.heap.size, 0, none⟩ = some (.int .i64 a) ∧ wy.cell? ⟨W1.heap.size, 1, none⟩ = some (.int .i64 f) ∧ Below w.heap.size w wy)
          case atStart => exact ⟨0, v, Q, rfl, by omega, by omega, HACC.out.alloc _, by have := HQL.out; omega, HRS.out, fun h => by have := (HOLT.out _ h).2; omega, by simp, by rw [World.cell?_alloc_at _ _ _ _ rfl]; rfl, by rw [World.cell?_alloc_at _ _ _ _ rfl]; rfl, HB.out.alloc HB.out.size _⟩
          case round =>
            obtain ⟨j, v, Q, rfl, hjg, hj3, hacc, hql, hres, hown, hlt, s0, s1, hb⟩ := hrel
            have HACC := Lib.hid hacc
            have HBY := Lib.hid hb
            have HOWN := Lib.hid hown
            cases gk with
            | zero => omega
            | succ g2 =>
              by_cases hpj : j < 3
              · obtain ⟨xb, xo, hxo, x0, x1, x2⟩ := pt_cells (HX.out.below ptC_length hb) (j := j) (by omega)
                subst hxo
                have hxbd := HXB.out _ (List.getElem_mem (show j < xs.length by omega))
                rw [List.drop_eq_getElem_cons (show j < xs.length by omega)] at hres
                obtain ⟨⟨e0, e1, e2⟩, hE⟩ : ∃ E : Pt, E = xs[j]'(by omega) := ⟨_, rfl⟩
                rw [← hE] at x0 x1 x2 hres hxbd
                dsimp only at x0 x1 x2 hxbd
                obtain ⟨hx0, hx1⟩ := hxbd
                have HRS := Lib.hid hres
                have HQL := Lib.hid hql
                have hlowj : (0 : Int) ≤ (j : Int) := by omega
                have hupj : (j : Int) < (3 : Int) := by omega
                clear hacc hb hres hE hown
                by_cases hM : e0 ≤ a
                · have hmx : max a e0 = a := by omega
                  by_cases c1 : N ≤ a
                  · have t5 : decide (N ≤ a) = true := decide_eq_true c1
                    have HN : Hid (adds xs (p.drop (k + 1)) Q = RES) := Lib.hid (by have := HRS.out; rwa [inn_stop _ _ (by rw [hmx]; exact c1)] at this)
                    clear c1 HRS
                    go_wp2
                    go_roundg g
                    case measure => omega
                    case rel => exact ⟨k + 1, v, Q, by go_num, by omega, by omega, HACC.out.alloc _, by have := HQL.out; omega, HN.out, HBY.out.alloc HBY.out.size _⟩
                  · have t5 : decide (N ≤ a) = false := decide_eq_false c1
                    by_cases c2 : a < e1
                    · have t6 : decide (a < e1) = true := decide_eq_true c2
                      have HN : Hid (adds xs (p.drop (k + 1)) (inn N (a, f) (xs.drop (j + 1)) (layL Q a (f + e2))) = RES) := Lib.hid (by have := HRS.out; rwa [inn_lay _ _ (by rw [hmx]; exact c1) (by rw [hmx]; exact c2), hmx] at this)
                      have HXX := Lib.hid (HACC.out.alloc (.cells #[.int .i64 e0, .int .i64 e1, .int .i64 e2] 50))
                      have HLL := Lib.hid (layL_le Q a (f + e2))
                      clear c1 c2 HRS
                      go_wp2_with (first
                        | (go_at_call 34; (with_reducible refine (CL.out v Q _ _ _ HXX.out (by have := HQL.out; omega)).mono ?_); rintro e w5 ⟨v5, rfl, acc5, b5, own5, k5⟩; have ACC5 := Lib.hid acc5; have B5 := Lib.hid b5; have OWN5 := Lib.hid own5; have K5 := Lib.hid k5; clear acc5 b5 own5 k5)
                        | fail)
                      have hk5 := K5.out W1.heap.size (by simp; omega) (by omega) HOWN.out
                      have hk6 : w5.heap[W1.heap.size]? = wr.heap[W1.heap.size]? := by rw [hk5, heap_alloc_old wr _ hlt]
                      have hs5 := B5.out.size
                      have hsz : (wr.alloc (.cells #[.int .i64 e0, .int .i64 e1, .int .i64 e2] 50)).heap.size = wr.heap.size + 1 := by simp
                      go_roundg g2
                      case measure => omega
                      case rel => exact ⟨j + 1, v5, _, by go_num, by omega, by omega, ACC5.out, by have := HQL.out; have := HLL.out; omega, HN.out, fun h => by rcases OWN5.out _ h with h | h; exact HOWN.out h; omega, by omega, cell_same s0 hk6, cell_same s1 hk6, (HBY.out.alloc HBY.out.size _).trans B5.out⟩
                    · have t6 : decide (a < e1) = false := decide_eq_false c2
                      have HN : Hid (adds xs (p.drop (k + 1)) (inn N (a, f) (xs.drop (j + 1)) Q) = RES) := Lib.hid (by have := HRS.out; rwa [inn_pass _ _ (by rw [hmx]; exact c1) (by rw [hmx]; exact c2)] at this)
                      clear c1 c2 HRS
                      go_wp2
                      go_roundg g2
                      case measure => omega
                      case rel => exact ⟨j + 1, v, Q, by go_num, by omega, by omega, HACC.out.alloc _, by have := HQL.out; omega, HN.out, HOWN.out, by simp; omega, cell_below s0 (below_one _), cell_below s1 (below_one _), HBY.out.alloc HBY.out.size _⟩
                · have hmx : max a e0 = e0 := by omega
                  by_cases c1 : N ≤ e0
                  · have t5 : decide (N ≤ e0) = true := decide_eq_true c1
                    have HN : Hid (adds xs (p.drop (k + 1)) Q = RES) := Lib.hid (by have := HRS.out; rwa [inn_stop _ _ (by rw [hmx]; exact c1)] at this)
                    clear c1 HRS
                    go_wp2
                    go_roundg g
                    case measure => omega
                    case rel => exact ⟨k + 1, v, Q, by go_num, by omega, by omega, HACC.out.alloc _, by have := HQL.out; omega, HN.out, HBY.out.alloc HBY.out.size _⟩
                  · have t5 : decide (N ≤ e0) = false := decide_eq_false c1
                    by_cases c2 : e0 < e1
                    · have t6 : decide (e0 < e1) = true := decide_eq_true c2
                      have HN : Hid (adds xs (p.drop (k + 1)) (inn N (a, f) (xs.drop (j + 1)) (layL Q e0 (f + e2))) = RES) := Lib.hid (by have := HRS.out; rwa [inn_lay _ _ (by rw [hmx]; exact c1) (by rw [hmx]; exact c2), hmx] at this)
                      have HXX := Lib.hid (HACC.out.alloc (.cells #[.int .i64 e0, .int .i64 e1, .int .i64 e2] 50))
                      have HLL := Lib.hid (layL_le Q e0 (f + e2))
                      clear c1 c2 HRS
                      go_wp2_with (first
                        | (go_at_call 34; (with_reducible refine (CL.out v Q _ _ _ HXX.out (by have := HQL.out; omega)).mono ?_); rintro e w5 ⟨v5, rfl, acc5, b5, own5, k5⟩; have ACC5 := Lib.hid acc5; have B5 := Lib.hid b5; have OWN5 := Lib.hid own5; have K5 := Lib.hid k5; clear acc5 b5 own5 k5)
                        | fail)
                      have hk5 := K5.out W1.heap.size (by simp; omega) (by omega) HOWN.out
                      have hk6 : w5.heap[W1.heap.size]? = wr.heap[W1.heap.size]? := by rw [hk5, heap_alloc_old wr _ hlt]
                      have hs5 := B5.out.size
                      have hsz : (wr.alloc (.cells #[.int .i64 e0, .int .i64 e1, .int .i64 e2] 50)).heap.size = wr.heap.size + 1 := by simp
                      go_roundg g2
                      case measure => omega
                      case rel => exact ⟨j + 1, v5, _, by go_num, by omega, by omega, ACC5.out, by have := HQL.out; have := HLL.out; omega, HN.out, fun h => by rcases OWN5.out _ h with h | h; exact HOWN.out h; omega, by omega, cell_same s0 hk6, cell_same s1 hk6, (HBY.out.alloc HBY.out.size _).trans B5.out⟩
                    · have t6 : decide (e0 < e1) = false := decide_eq_false c2
                      have HN : Hid (adds xs (p.drop (k + 1)) (inn N (a, f) (xs.drop (j + 1)) Q) = RES) := Lib.hid (by have := HRS.out; rwa [inn_pass _ _ (by rw [hmx]; exact c1) (by rw [hmx]; exact c2)] at this)
                      clear c1 c2 HRS
                      go_wp2
                      go_roundg g2
                      case measure => omega
                      case rel => exact ⟨j + 1, v, Q, by go_num, by omega, by omega, HACC.out.alloc _, by have := HQL.out; omega, HN.out, HOWN.out, by simp; omega, cell_below s0 (below_one _), cell_below s1 (below_one _), HBY.out.alloc HBY.out.size _⟩
              · obtain rfl : j = 3 := by omega
                have HN : Hid (adds xs (p.drop (k + 1)) Q = RES) := Lib.hid (by rw [show xs.drop 3 = [] from List.drop_eq_nil_of_le (by omega)] at hres; exact hres)
                have HQL := Lib.hid hql
                clear hres hacc hb hown
                go_wp2
                go_roundg g
                case measure => omega
                case rel => exact ⟨k + 1, v, Q, by go_num, by omega, by omega, HACC.out, by have := HQL.out; omega, HN.out, HBY.out⟩
        · have t1 : decide (((k + 1 : Nat) : Int) < (p.length : Int)) = false := decide_eq_false (by omega)
          have t1' : decide ((k : Int) + 1 < (p.length : Int)) = false := decide_eq_false (by omega)
          have hNv : N = 1000001 := by rw [hN, List.drop_eq_nil_of_le (by omega)]; rfl
          clear hN hb
          subst hNv
          go_wp2
          go_loopg [34] 4 (fun g2 jv wy => ∃ (j : Nat) (v : Value) (Q : List St), jv = .int .i64 (j : Int) ∧ j + g2 = 4 ∧ j ≤ 3 ∧ Acc wy w.heap.size w.heap.size v Q ∧ Q.length ≤ 3 * k + j ∧ adds xs (p.drop (k + 1)) (inn 1000001 (a, f) (xs.drop j) Q) = RES ∧ v.ownBlock ≠ some W1.heap.size ∧ W1.heap.size < wy.heap.size ∧ wy.cell? ⟨W1.heap.size, 0, none⟩ = some (.int .i64 a) ∧ wy.cell? ⟨W1.heap.size, 1, none⟩ = some (.int .i64 f) ∧ Below w.heap.size w wy)
          case atStart => exact ⟨0, v, Q, rfl, by omega, by omega, HACC.out.alloc _, by have := HQL.out; omega, HRS.out, fun h => by have := (HOLT.out _ h).2; omega, by simp, by rw [World.cell?_alloc_at _ _ _ _ rfl]; rfl, by rw [World.cell?_alloc_at _ _ _ _ rfl]; rfl, HB.out.alloc HB.out.size _⟩
          case round =>
            obtain ⟨j, v, Q, rfl, hjg, hj3, hacc, hql, hres, hown, hlt, s0, s1, hb⟩ := hrel
            have HACC := Lib.hid hacc
            have HBY := Lib.hid hb
            have HOWN := Lib.hid hown
            cases gk with
            | zero => omega
            | succ g2 =>
              by_cases hpj : j < 3
              · obtain ⟨xb, xo, hxo, x0, x1, x2⟩ := pt_cells (HX.out.below ptC_length hb) (j := j) (by omega)
                subst hxo
                have hxbd := HXB.out _ (List.getElem_mem (show j < xs.length by omega))
                rw [List.drop_eq_getElem_cons (show j < xs.length by omega)] at hres
                obtain ⟨⟨e0, e1, e2⟩, hE⟩ : ∃ E : Pt, E = xs[j]'(by omega) := ⟨_, rfl⟩
                rw [← hE] at x0 x1 x2 hres hxbd
                dsimp only at x0 x1 x2 hxbd
                obtain ⟨hx0, hx1⟩ := hxbd
                have HRS := Lib.hid hres
                have HQL := Lib.hid hql
                have hlowj : (0 : Int) ≤ (j : Int) := by omega
                have hupj : (j : Int) < (3 : Int) := by omega
                clear hacc hb hres hE hown
                by_cases hM : e0 ≤ a
                · have hmx : max a e0 = a := by omega
                  by_cases c1 : 1000001 ≤ a
                  · have t5 : decide (1000001 ≤ a) = true := decide_eq_true c1
                    have HN : Hid (adds xs (p.drop (k + 1)) Q = RES) := Lib.hid (by have := HRS.out; rwa [inn_stop _ _ (by rw [hmx]; exact c1)] at this)
                    clear c1 HRS
                    go_wp2
                    go_roundg g
                    case measure => omega
                    case rel => exact ⟨k + 1, v, Q, by go_num, by omega, by omega, HACC.out.alloc _, by have := HQL.out; omega, HN.out, HBY.out.alloc HBY.out.size _⟩
                  · have t5 : decide (1000001 ≤ a) = false := decide_eq_false c1
                    by_cases c2 : a < e1
                    · have t6 : decide (a < e1) = true := decide_eq_true c2
                      have HN : Hid (adds xs (p.drop (k + 1)) (inn 1000001 (a, f) (xs.drop (j + 1)) (layL Q a (f + e2))) = RES) := Lib.hid (by have := HRS.out; rwa [inn_lay _ _ (by rw [hmx]; exact c1) (by rw [hmx]; exact c2), hmx] at this)
                      have HXX := Lib.hid (HACC.out.alloc (.cells #[.int .i64 e0, .int .i64 e1, .int .i64 e2] 50))
                      have HLL := Lib.hid (layL_le Q a (f + e2))
                      clear c1 c2 HRS
                      go_wp2_with (first
                        | (go_at_call 34; (with_reducible refine (CL.out v Q _ _ _ HXX.out (by have := HQL.out; omega)).mono ?_); rintro e w5 ⟨v5, rfl, acc5, b5, own5, k5⟩; have ACC5 := Lib.hid acc5; have B5 := Lib.hid b5; have OWN5 := Lib.hid own5; have K5 := Lib.hid k5; clear acc5 b5 own5 k5)
                        | fail)
                      have hk5 := K5.out W1.heap.size (by simp; omega) (by omega) HOWN.out
                      have hk6 : w5.heap[W1.heap.size]? = wr.heap[W1.heap.size]? := by rw [hk5, heap_alloc_old wr _ hlt]
                      have hs5 := B5.out.size
                      have hsz : (wr.alloc (.cells #[.int .i64 e0, .int .i64 e1, .int .i64 e2] 50)).heap.size = wr.heap.size + 1 := by simp
                      go_roundg g2
                      case measure => omega
                      case rel => exact ⟨j + 1, v5, _, by go_num, by omega, by omega, ACC5.out, by have := HQL.out; have := HLL.out; omega, HN.out, fun h => by rcases OWN5.out _ h with h | h; exact HOWN.out h; omega, by omega, cell_same s0 hk6, cell_same s1 hk6, (HBY.out.alloc HBY.out.size _).trans B5.out⟩
                    · have t6 : decide (a < e1) = false := decide_eq_false c2
                      have HN : Hid (adds xs (p.drop (k + 1)) (inn 1000001 (a, f) (xs.drop (j + 1)) Q) = RES) := Lib.hid (by have := HRS.out; rwa [inn_pass _ _ (by rw [hmx]; exact c1) (by rw [hmx]; exact c2)] at this)
                      clear c1 c2 HRS
                      go_wp2
                      go_roundg g2
                      case measure => omega
                      case rel => exact ⟨j + 1, v, Q, by go_num, by omega, by omega, HACC.out.alloc _, by have := HQL.out; omega, HN.out, HOWN.out, by simp; omega, cell_below s0 (below_one _), cell_below s1 (below_one _), HBY.out.alloc HBY.out.size _⟩
                · have hmx : max a e0 = e0 := by omega
                  by_cases c1 : 1000001 ≤ e0
                  · have t5 : decide (1000001 ≤ e0) = true := decide_eq_true c1
                    have HN : Hid (adds xs (p.drop (k + 1)) Q = RES) := Lib.hid (by have := HRS.out; rwa [inn_stop _ _ (by rw [hmx]; exact c1)] at this)
                    clear c1 HRS
                    go_wp2
                    go_roundg g
                    case measure => omega
                    case rel => exact ⟨k + 1, v, Q, by go_num, by omega, by omega, HACC.out.alloc _, by have := HQL.out; omega, HN.out, HBY.out.alloc HBY.out.size _⟩
                  · have t5 : decide (1000001 ≤ e0) = false := decide_eq_false c1
                    by_cases c2 : e0 < e1
                    · have t6 : decide (e0 < e1) = true := decide_eq_true c2
                      have HN : Hid (adds xs (p.drop (k + 1)) (inn 1000001 (a, f) (xs.drop (j + 1)) (layL Q e0 (f + e2))) = RES) := Lib.hid (by have := HRS.out; rwa [inn_lay _ _ (by rw [hmx]; exact c1) (by rw [hmx]; exact c2), hmx] at this)
                      have HXX := Lib.hid (HACC.out.alloc (.cells #[.int .i64 e0, .int .i64 e1, .int .i64 e2] 50))
                      have HLL := Lib.hid (layL_le Q e0 (f + e2))
                      clear c1 c2 HRS
                      go_wp2_with (first
                        | (go_at_call 34; (with_reducible refine (CL.out v Q _ _ _ HXX.out (by have := HQL.out; omega)).mono ?_); rintro e w5 ⟨v5, rfl, acc5, b5, own5, k5⟩; have ACC5 := Lib.hid acc5; have B5 := Lib.hid b5; have OWN5 := Lib.hid own5; have K5 := Lib.hid k5; clear acc5 b5 own5 k5)
                        | fail)
                      have hk5 := K5.out W1.heap.size (by simp; omega) (by omega) HOWN.out
                      have hk6 : w5.heap[W1.heap.size]? = wr.heap[W1.heap.size]? := by rw [hk5, heap_alloc_old wr _ hlt]
                      have hs5 := B5.out.size
                      have hsz : (wr.alloc (.cells #[.int .i64 e0, .int .i64 e1, .int .i64 e2] 50)).heap.size = wr.heap.size + 1 := by simp
                      go_roundg g2
                      case measure => omega
                      case rel => exact ⟨j + 1, v5, _, by go_num, by omega, by omega, ACC5.out, by have := HQL.out; have := HLL.out; omega, HN.out, fun h => by rcases OWN5.out _ h with h | h; exact HOWN.out h; omega, by omega, cell_same s0 hk6, cell_same s1 hk6, (HBY.out.alloc HBY.out.size _).trans B5.out⟩
                    · have t6 : decide (e0 < e1) = false := decide_eq_false c2
                      have HN : Hid (adds xs (p.drop (k + 1)) (inn 1000001 (a, f) (xs.drop (j + 1)) Q) = RES) := Lib.hid (by have := HRS.out; rwa [inn_pass _ _ (by rw [hmx]; exact c1) (by rw [hmx]; exact c2)] at this)
                      clear c1 c2 HRS
                      go_wp2
                      go_roundg g2
                      case measure => omega
                      case rel => exact ⟨j + 1, v, Q, by go_num, by omega, by omega, HACC.out.alloc _, by have := HQL.out; omega, HN.out, HOWN.out, by simp; omega, cell_below s0 (below_one _), cell_below s1 (below_one _), HBY.out.alloc HBY.out.size _⟩
              · obtain rfl : j = 3 := by omega
                have HN : Hid (adds xs (p.drop (k + 1)) Q = RES) := Lib.hid (by rw [show xs.drop 3 = [] from List.drop_eq_nil_of_le (by omega)] at hres; exact hres)
                have HQL := Lib.hid hql
                clear hres hacc hb hown
                go_wp2
                go_roundg g
                case measure => omega
                case rel => exact ⟨k + 1, v, Q, by go_num, by omega, by omega, HACC.out, by have := HQL.out; omega, HN.out, HBY.out⟩
      · have HN : Hid (Q = RES) := Lib.hid (by rw [List.drop_eq_nil_of_le (by omega)] at hres; exact hres)
        have hc := hacc.1.cell
        clear hres hacc
        go_wp2
        try rw [Exit.noGoto_ret]
        go_ret
        exact ⟨v, rfl, by rw [← HN.out]; exact HACC.out.2.1, HB.out⟩

end Go.Proofs.Ytoiahlbaiakngaa.Prof
