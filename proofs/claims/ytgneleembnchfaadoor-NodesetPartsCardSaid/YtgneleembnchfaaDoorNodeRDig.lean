/-
  The walk of the document's own digits (musterref09).
-/
import Derived.Test.YtgneleembnchfaaDoorNodeRef2
import Derived.Test.YtgneleembnchfaaDoorNodeShowM
namespace Go.Proofs.YtgneleembnchfaaDoor.Node
open Go.RowKit
open Base
set_option linter.unusedVariables false
set_option linter.unusedSimpArgs false

set_option maxRecDepth 100000 in
theorem one_conv {w : World} {g : Nat} {c : UInt8} (h : w.cell? ⟨g, 0, none⟩ = some (.int .u8 (c.toNat : Int))) : (convert 46 9 (.slice (some ⟨g, 0, none⟩) 1 1)).run Tryd.prog w = .ok (.string ⟨#[c]⟩) w := by
  have h1 := run_convert_bytes_arg (P := Tryd.prog) w 46 5 Tryd.underlying46 Tryd.underlying5 g 0 1 1 [(c.toNat : Int)] rfl (fun i hi => by
    have : i = 0 := by omega
    subst this; simpa using h) 9 Tryd.underlying9
  rw [h1]
  congr 2
  unfold strOfNums
  simp
set_option maxRecDepth 100000 in
theorem two_conv {w : World} {g : Nat} {c d : UInt8} (h : w.cell? ⟨g, 0, none⟩ = some (.int .u8 (c.toNat : Int))) (h2 : w.cell? ⟨g, 1, none⟩ = some (.int .u8 (d.toNat : Int))) : (convert 46 9 (.slice (some ⟨g, 0, none⟩) 2 2)).run Tryd.prog w = .ok (.string ⟨#[c, d]⟩) w := by
  have h1 := run_convert_bytes_arg (P := Tryd.prog) w 46 5 Tryd.underlying46 Tryd.underlying5 g 0 2 2 [(c.toNat : Int), (d.toNat : Int)] rfl (fun i hi => by
    have : i = 0 ∨ i = 1 := by omega
    rcases this with rfl | rfl
    · simpa using h
    · simpa using h2) 9 Tryd.underlying9
  rw [h1]
  congr 2
  unfold strOfNums
  simp

set_option maxRecDepth 100000 in
set_option maxHeartbeats 2000000 in
theorem rdigits_any (k : Nat) (hk : k < 64) (w : World) :
    Calls Tryd.prog 38 #[.int .i64 (k : Int)] w fun e w' => e = .returned (.string ⟨(dec k).toArray⟩) ∧ Below w.heap.size w w' := by
  by_cases h10 : k < 10
  · have HD : Hid ((⟨#[UInt8.ofNat (48 + k)]⟩ : ByteArray) = ⟨(dec k).toArray⟩) := Lib.hid (by unfold dec; rw [if_pos h10])
    obtain ⟨c, hc⟩ : ∃ c, c = UInt8.ofNat (48 + k) := ⟨_, rfl⟩
    have hcn : (c.toNat : Int) = 48 + (k : Int) := by rw [hc, UInt8.toNat_ofNat']; omega
    rw [← hc] at HD
    have hcv := fun (W : World) (g : Nat) (h : W.cell? ⟨g, 0, none⟩ = some (.int .u8 (48 + (k : Int)))) => one_conv (w := W) (g := g) (c := c) (by rw [hcn]; exact h)
    have hw2 : IntKind.i64.wrap (48 + (k : Int)) = 48 + (k : Int) := by simp only [IntKind.wrap_i64]; omega
    have hw3 : IntKind.u8.wrap (48 + (k : Int)) = 48 + (k : Int) := by simp only [IntKind.wrap_u8]; omega
    clear hc hcn
    go_enter Tryd.func38, Tryd.ntmps38
    go_wp2
    go_ret
    exact ⟨ret_str HD.out, below_one _⟩
  · have HD : Hid ((⟨#[UInt8.ofNat (48 + k / 10), UInt8.ofNat (48 + k % 10)]⟩ : ByteArray) = ⟨(dec k).toArray⟩) := Lib.hid (by unfold dec; rw [if_neg h10])
    obtain ⟨q, hq⟩ : ∃ q, q = k / 10 := ⟨_, rfl⟩
    obtain ⟨r, hr⟩ : ∃ r, r = k % 10 := ⟨_, rfl⟩
    rw [← hq, ← hr] at HD
    obtain ⟨c, hc⟩ : ∃ c, c = UInt8.ofNat (48 + q) := ⟨_, rfl⟩
    obtain ⟨d, hd⟩ : ∃ d, d = UInt8.ofNat (48 + r) := ⟨_, rfl⟩
    rw [← hc, ← hd] at HD
    have hcn : (c.toNat : Int) = 48 + (q : Int) := by rw [hc, UInt8.toNat_ofNat']; omega
    have hdn : (d.toNat : Int) = 48 + (r : Int) := by rw [hd, UInt8.toNat_ofNat']; omega
    have hcv := fun (W : World) (g : Nat) (h : W.cell? ⟨g, 0, none⟩ = some (.int .u8 (48 + (q : Int)))) (h2 : W.cell? ⟨g, 1, none⟩ = some (.int .u8 (48 + (r : Int)))) => two_conv (w := W) (g := g) (c := c) (d := d) (by rw [hcn]; exact h) (by rw [hdn]; exact h2)
    have hq1 : Int.tdiv (k : Int) 10 = (q : Int) := by rw [Int.tdiv_eq_ediv_of_nonneg (by omega)]; omega
    have hd1 : Int.tmod (k : Int) 10 = (r : Int) := by rw [Int.tmod_eq_emod_of_nonneg (by omega)]; omega
    have hw1 : IntKind.i64.wrap (q : Int) = (q : Int) := by simp only [IntKind.wrap_i64]; omega
    have hw2 : IntKind.i64.wrap (48 + (q : Int)) = 48 + (q : Int) := by simp only [IntKind.wrap_i64]; omega
    have hw3 : IntKind.u8.wrap (48 + (q : Int)) = 48 + (q : Int) := by simp only [IntKind.wrap_u8]; omega
    have hw4 : IntKind.i64.wrap (48 + (r : Int)) = 48 + (r : Int) := by simp only [IntKind.wrap_i64]; omega
    have hw5 : IntKind.u8.wrap (48 + (r : Int)) = 48 + (r : Int) := by simp only [IntKind.wrap_u8]; omega
    have hqz : (k : Int) / 10 = (q : Int) := by omega
    have hrz : (k : Int) % 10 = (r : Int) := by omega
    have hqb : q < 7 := by omega
    have hrb : r < 10 := by omega
    clear hc hcn hd hdn hq hr
    go_enter Tryd.func38, Tryd.ntmps38
    go_wp2
    go_ret
    exact ⟨ret_str HD.out, below_one _⟩

theorem ints_get (l : List Nat) (k : Nat) (h : k < l.length) : (ints l)[k]'(by rw [ints_length]; exact h) = (l[k] : Int) := by
  unfold ints; rw [List.getElem_map]; rfl
theorem nat_at {w : World} {b off : Nat} {l : List Nat} (h : Reads (.int .i64) w (some ⟨b, off, none⟩) (ints l)) {k : Nat} (hk : k < l.length) : w.cell? ⟨b, off + k, none⟩ = some (.int .i64 (l[k] : Int)) := by
  rw [reads_at h (k := k) (by rw [ints_length]; exact hk), ints_get l k hk]

end Go.Proofs.YtgneleembnchfaaDoor.Node
