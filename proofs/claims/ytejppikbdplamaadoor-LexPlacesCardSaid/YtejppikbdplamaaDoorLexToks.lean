/-
  Tokens as data: their cells; the same tokens or not.
-/
import Derived.Test.YtejppikbdplamaaDoorStructRows
import Derived.BigQuiet
import Derived.Test.YtejppikbdplamaaDoorRunesRef2
namespace Go.Proofs.YtejppikbdplamaaDoor.Lex
open Go.RowKit
open Base Runes
set_option linter.unusedVariables false

/-- A token: kind, text, number, place. -/
abbrev Tok := Int × ByteArray × Int × Int
def tkC (t : Tok) : List Value := [.int .i64 t.1, .string t.2.1, .int .i64 t.2.2.1, .int .i64 t.2.2.2]
theorem tkC_length (t : Tok) : (tkC t).length = 4 := rfl

def eqT (p : Bool) (x y : Tok) : Bool := decide (x.1 = y.1 ∧ x.2.1 = y.2.1 ∧ x.2.2.1 = y.2.2.1 ∧ (p = true → x.2.2.2 = y.2.2.2))
def sameT (p : Bool) : List Tok → List Tok → Bool
  | [], [] => true
  | x :: s, y :: t => eqT p x y && sameT p s t
  | _, _ => false

theorem sameT_refl (p : Bool) (l : List Tok) : sameT p l l = true := by
  induction l with
  | nil => rfl
  | cons x t ih => rw [sameT, ih]; simp [eqT]
theorem sameT_length {p : Bool} {a b : List Tok} (h : sameT p a b = true) : a.length = b.length := by
  induction a generalizing b with
  | nil => cases b with
    | nil => rfl
    | cons y t => simp [sameT] at h
  | cons x s ih => cases b with
    | nil => simp [sameT] at h
    | cons y t => rw [sameT, Bool.and_eq_true] at h; simp [ih h.2]

/-- The cells of one token of a slice. -/
theorem tok_cells {w : World} {a : Option Addr} {zs : List Tok} (h : ReadsS 4 tkC w a zs) {j : Nat} (hj : j < zs.length) :
    ∃ b off, a = some ⟨b, off, none⟩ ∧ w.cell? ⟨b, off + j * 4, none⟩ = some (.int .i64 zs[j].1) ∧ w.cell? ⟨b, off + j * 4 + 1, none⟩ = some (.string zs[j].2.1) ∧
      w.cell? ⟨b, off + j * 4 + 2, none⟩ = some (.int .i64 zs[j].2.2.1) ∧ w.cell? ⟨b, off + j * 4 + 3, none⟩ = some (.int .i64 zs[j].2.2.2) := by
  obtain ⟨b, off, ha, hc⟩ := h.at_ hj
  exact ⟨b, off, ha, hc 0 (by decide), hc 1 (by decide), hc 2 (by decide), hc 3 (by decide)⟩

set_option maxRecDepth 100000 in
set_option maxHeartbeats 2000000 in
theorem rsame_any (a b : Option Addr) (ca cb : Nat) (x y : List Tok) (p : Bool) (w : World) (hxl : x.length ≤ maxLen) (hyl : y.length ≤ maxLen) (hx : ReadsS 4 tkC w a x) (hy : ReadsS 4 tkC w b y) :
    Calls Tryd.prog 8 #[.slice a x.length ca, .slice b y.length cb, .bool p] w fun e w' => e = .returned (.bool (sameT p x y)) ∧ Below w.heap.size w w' := by
  unfold maxLen at hxl hyl
  by_cases hl : x.length = y.length
  · have HX := Lib.hid hx
    have HY := Lib.hid hy
    clear hx hy
    have hd : ((x.length : Int) != (y.length : Int)) = false := by rw [bne_eq_false_iff_eq]; omega
    go_enter Tryd.func8, Tryd.ntmps8
    go_wp2
    go_loopw [7] (fun i wr => ∃ k : Nat, i = .int .i64 (k : Int) ∧ k ≤ x.length ∧ sameT p (x.drop k) (y.drop k) = sameT p x y ∧ Below w.heap.size w wr) (fun i _ => x.length - (intOf i).toNat)
    case atStart => exact ⟨0, rfl, Nat.zero_le _, rfl, Below.refl _ _⟩
    case round =>
      obtain ⟨k, rfl, hk, hs, hb⟩ := hrel
      have HB := Lib.hid hb
      by_cases hp : k < x.length
      · have hp2 : k < y.length := by omega
        obtain ⟨ab, ao, rfl, a0, a1, a2, a3⟩ := tok_cells (HX.out.below tkC_length hb) hp
        obtain ⟨bb, bo, rfl, b0, b1, b2, b3⟩ := tok_cells (HY.out.below tkC_length hb) hp2
        rw [List.drop_eq_getElem_cons hp, List.drop_eq_getElem_cons hp2, sameT] at hs
        obtain ⟨⟨k1, s1, n1, q1⟩, hX⟩ : ∃ X : Tok, X = x[k] := ⟨_, rfl⟩
        obtain ⟨⟨k2, s2, n2, q2⟩, hY⟩ : ∃ Y : Tok, Y = y[k] := ⟨_, rfl⟩
        rw [← hX] at a0 a1 a2 a3 hs
        rw [← hY] at b0 b1 b2 b3 hs
        dsimp only at a0 a1 a2 a3 b0 b1 b2 b3
        have hlow : (0 : Int) ≤ (k : Int) := by omega
        have hup1 : (k : Int) < ((x.length : Nat) : Int) := by omega
        have hup2 : (k : Int) < ((y.length : Nat) : Int) := by omega
        have hno : eqT p (k1, s1, n1, q1) (k2, s2, n2, q2) = false → false = sameT p x y := fun h => by rw [← hs, h]; rfl
        have hye : eqT p (k1, s1, n1, q1) (k2, s2, n2, q2) = true → sameT p (x.drop (k + 1)) (y.drop (k + 1)) = sameT p x y := fun h => by rw [← hs, h]; rfl
        clear hX hY hb hs
        by_cases e1 : k1 = k2
        · have t1 : (k1 != k2) = false := by rw [bne_eq_false_iff_eq]; exact e1
          by_cases e2 : s1 = s2
          · have t2 : (s1.toList == s2.toList) = true := by rw [str_eq, decide_eq_true e2]
            by_cases e3 : n1 = n2
            · have t3 : (n1 != n2) = false := by rw [bne_eq_false_iff_eq]; exact e3
              cases p with
              | false =>
                have HS := Lib.hid (hye (by unfold eqT; rw [decide_eq_true_iff]; exact ⟨e1, e2, e3, fun h => by cases h⟩))
                clear hno hye e1 e2 e3
                go_wp2
                go_quiet (fail)
                go_wp2
                refine ⟨⟨k + 1, by go_num, by omega, HS.out, below_drewN HB.out _⟩, ?_⟩
                simp [intOf]; omega
              | true =>
                by_cases e4 : q1 = q2
                · have t4 : (q1 != q2) = false := by rw [bne_eq_false_iff_eq]; exact e4
                  have HS := Lib.hid (hye (by unfold eqT; rw [decide_eq_true_iff]; exact ⟨e1, e2, e3, fun _ => e4⟩))
                  clear hno hye e1 e2 e3 e4
                  go_wp2
                  go_quiet (fail)
                  go_wp2
                  refine ⟨⟨k + 1, by go_num, by omega, HS.out, below_drewN HB.out _⟩, ?_⟩
                  simp [intOf]; omega
                · have t4 : (q1 != q2) = true := by rw [bne_iff_ne]; exact e4
                  have HS := Lib.hid (hno (by unfold eqT; rw [decide_eq_false_iff_not]; exact fun h => e4 (h.2.2.2 rfl)))
                  clear hno hye e1 e2 e3 e4
                  go_wp2
                  go_quiet (fail)
                  go_wp2
                  go_ret
                  exact ⟨ret_bool HS.out, below_drewN HB.out _⟩
            · have t3 : (n1 != n2) = true := by rw [bne_iff_ne]; exact e3
              have HS := Lib.hid (hno (by unfold eqT; rw [decide_eq_false_iff_not]; exact fun h => e3 h.2.2.1))
              clear hno hye e1 e2 e3
              go_wp2
              go_quiet (fail)
              go_wp2
              go_ret
              exact ⟨ret_bool HS.out, below_drewN HB.out _⟩
          · have t2 : (s1.toList == s2.toList) = false := by rw [str_eq, decide_eq_false e2]
            have HS := Lib.hid (hno (by unfold eqT; rw [decide_eq_false_iff_not]; exact fun h => e2 h.2.1))
            clear hno hye e1 e2
            go_wp2
            go_quiet (fail)
            go_wp2
            go_ret
            exact ⟨ret_bool HS.out, below_drewN HB.out _⟩
        · have t1 : (k1 != k2) = true := by rw [bne_iff_ne]; exact e1
          have HS := Lib.hid (hno (by unfold eqT; rw [decide_eq_false_iff_not]; exact fun h => e1 h.1))
          clear hno hye e1
          go_wp2
          go_quiet (fail)
          go_wp2
          go_ret
          exact ⟨ret_bool HS.out, below_drewN HB.out _⟩
      · obtain rfl : k = x.length := by omega
        have HS : Hid (true = sameT p x y) := Lib.hid (by rw [← hs, List.drop_eq_nil_of_le (Nat.le_refl _), List.drop_eq_nil_of_le (by omega)]; rfl)
        clear hs hb
        go_wp2
        go_ret
        exact ⟨ret_bool HS.out, HB.out⟩
  · have hd : ((x.length : Int) != (y.length : Int)) = true := by rw [bne_iff_ne]; omega
    have HS : Hid (false = sameT p x y) := Lib.hid (by
      cases h : sameT p x y with
      | false => rfl
      | true => exact absurd (sameT_length h) hl)
    go_enter Tryd.func8, Tryd.ntmps8
    go_wp2
    go_ret
    exact ⟨ret_bool HS.out, Below.refl _ _⟩

end Go.Proofs.YtejppikbdplamaaDoor.Lex
