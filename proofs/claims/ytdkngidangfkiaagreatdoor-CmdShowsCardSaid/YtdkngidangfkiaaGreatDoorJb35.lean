/-
  Joined out of: The walks of the document's own answer for layer 6: a time, written.
-/
import Derived.Test.YtdkngidangfkiaaGreatDoorJb08
import Derived.Deep.RegionWith
import Derived.Deep.LoopGhost
namespace Go.Proofs.YtdkngidangfkiaaGreatDoor.Hours
open Go.RowKit
open Base Sat HoursLib
set_option linter.unusedVariables false
set_option linter.unusedSimpArgs false
set_option maxRecDepth 100000 in
theorem one_conv {w : World} {g : Nat} {c : UInt8} (h : w.cell? ⟨g, 0, none⟩ = some (.int .u8 (c.toNat : Int))) : (convert 44 9 (.slice (some ⟨g, 0, none⟩) 1 1)).run Tryz.prog w = .ok (.string ⟨#[c]⟩) w := by
  have h1 := run_convert_bytes_arg (P := Tryz.prog) w 44 5 Tryz.underlying44 Tryz.underlying5 g 0 1 1 [(c.toNat : Int)] rfl (fun i hi => by
    have : i = 0 := by omega
    subst this; simpa using h) 9 Tryz.underlying9
  rw [h1]
  congr 2
  unfold strOfNums
  simp
set_option maxRecDepth 100000 in
set_option maxHeartbeats 2000000 in
theorem rdigits_nat (f : Nat) : f ≤ 100 → ∀ (n : Nat), n < 10 ^ f → 1 ≤ f → n ≤ 9223372036854775807 → ∀ w : World,
    Calls Tryz.prog 79 #[.int .i64 (n : Int)] w fun e w' => e = .returned (.string ⟨(Go.Lib.decDigits n).toArray⟩) ∧ Below w.heap.size w w' := by
  induction f with
  | zero => intro _ n _ h; omega
  | succ f ih =>
    intro hf100 n hn _ h63 w
    by_cases h10 : n < 10
    · have HD : Hid ((⟨#[UInt8.ofNat (48 + n)]⟩ : ByteArray) = ⟨(Go.Lib.decDigits n).toArray⟩) := Lib.hid (by rw [Go.Lib.decDigits, dif_pos h10])
      obtain ⟨c, hc⟩ : ∃ c, c = UInt8.ofNat (48 + n) := ⟨_, rfl⟩
      have hcn : (c.toNat : Int) = 48 + (n : Int) := by rw [hc, UInt8.toNat_ofNat']; omega
      rw [← hc] at HD
      have hcv := fun (W : World) (g : Nat) (h : W.cell? ⟨g, 0, none⟩ = some (.int .u8 (48 + (n : Int)))) => one_conv (w := W) (g := g) (c := c) (by rw [hcn]; exact h)
      clear hc hcn
      go_enter Tryz.func79, Tryz.ntmps79
      go_wp2
      go_ret
      exact ⟨ret_str HD.out, below_one _⟩
    · obtain ⟨q, hq⟩ : ∃ q, q = n / 10 := ⟨_, rfl⟩
      obtain ⟨d, hd⟩ : ∃ d, d = n % 10 := ⟨_, rfl⟩
      have hf1 : 1 ≤ f := by
        rcases Nat.eq_zero_or_pos f with h | h
        · subst h; simp at hn; omega
        · exact h
      have hqf : q < 10 ^ f := by rw [hq]; have := Nat.pow_succ 10 f; omega
      obtain ⟨c, hc⟩ : ∃ c, c = UInt8.ofNat (48 + d) := ⟨_, rfl⟩
      obtain ⟨Z, hZ⟩ : ∃ Z : ByteArray, Z = ⟨(Go.Lib.decDigits q).toArray⟩ := ⟨_, rfl⟩
      have HD : Hid (Z ++ (⟨#[c]⟩ : ByteArray) = ⟨(Go.Lib.decDigits n).toArray⟩) := Lib.hid (by
        rw [Go.Lib.decDigits, dif_neg h10, ← hq, ← hd, ← hc, hZ]
        apply ByteArray.ext; apply Array.toList_inj.1
        simp [ByteArray.data_append])
      have hcn : (c.toNat : Int) = 48 + (d : Int) := by rw [hc, UInt8.toNat_ofNat']; omega
      have hcv := fun (W : World) (g : Nat) (h : W.cell? ⟨g, 0, none⟩ = some (.int .u8 (48 + (d : Int)))) => one_conv (w := W) (g := g) (c := c) (by rw [hcn]; exact h)
      have hqz : (n : Int) / 10 = (q : Int) := by omega
      have hdz : (n : Int) % 10 = (d : Int) := by omega
      have hq1 : Int.tdiv (n : Int) 10 = (q : Int) := by rw [Int.tdiv_eq_ediv_of_nonneg (by omega)]; omega
      have hd1 : Int.tmod (n : Int) 10 = (d : Int) := by rw [Int.tmod_eq_emod_of_nonneg (by omega)]; omega
      have hd9 : d < 10 := by omega
      have hw1 : IntKind.i64.wrap (q : Int) = (q : Int) := by simp only [IntKind.wrap_i64]; omega
      have hw2 : IntKind.i64.wrap (48 + (d : Int)) = 48 + (d : Int) := by simp only [IntKind.wrap_i64]; omega
      have hw3 : IntKind.u8.wrap (48 + (d : Int)) = 48 + (d : Int) := by simp only [IntKind.wrap_u8]; omega
      have hZs : Z.size ≤ 100 := by rw [hZ, Lib.size_eq]; show (Go.Lib.decDigits q).length ≤ 100; have := (dec_facts f q hqf hf1).2.2.1; omega
      have ihq := ih (by omega) q hqf hf1 (by omega)
      rw [← hZ] at ihq
      have IH := Lib.hid ihq
      clear ihq ih hZ hc hcn hqf hq hd
      go_enter Tryz.func79, Tryz.ntmps79
      go_wp2
      go_region_with (first
        | (go_at_call 79; (with_reducible refine (IH.out _).mono ?_); rintro e w1 ⟨rfl, p1⟩; (try have hl1 : w1.cell? ⟨w.heap.size, 0, none⟩ = some (.int .u8 (48 + (d : Int))) := cell_below (w := (w.alloc (.cells #[.int .u8 (48 + (d : Int))] 5)).drew) (show (w.alloc (.cells #[.int .u8 (48 + (d : Int))] 5)).cell? _ = _ from by rw [World.cell?_alloc_at _ _ _ _ rfl]; rfl) p1))
        | fail)
      all_goals
        go_wp2
        go_ret
        refine ⟨ret_str HD.out, ?_⟩
        (exact Base.bel_)
theorem ticks_any (i : Nat) (h : i < 4) (w : World) :
    Calls Tryz.prog 78 #[.int .u8 ((sg i).toNat : Int)] w fun e w' => e = .returned (.tuple #[.int .i64 (tk i), .int .i64 (i + 1)]) ∧ w = w' := by
  match i, h with
  | 0, _ | 1, _ | 2, _ | 3, _ =>
    simp only [sg, tk]
    go_enter Tryz.func78, Tryz.ntmps78
    go_wp2
    go_ret2
    exact ⟨rfl, rfl⟩
set_option maxRecDepth 100000 in
set_option maxHeartbeats 8000000 in
theorem rshow_ok (n : Int) (h1 : 1 ≤ n) (h2 : n ≤ 1000000) (w : World) :
    Calls Tryz.prog 49 #[.int .i64 n] w fun e w' => e = .returned (.tuple #[.string ⟨(tx 4 n).toArray⟩, .int .i64 0]) ∧ Below w.heap.size w w' := by
  have hn0 : (n == 0) = false := by rw [beq_eq_false_iff_ne]; omega
  have hn1 : decide (n < 0) = false := by rw [decide_eq_false_iff_not]; omega
  have hn2 : decide (1000000 < n) = false := by rw [decide_eq_false_iff_not]; omega
  go_enter Tryz.func49, Tryz.ntmps49
  go_wp2
  go_loopg [0, 4, 6] 4 (fun g nv ov iv wr => ∃ (i : Nat) (Z : ByteArray), i + g = 4 ∧ iv = .int .i64 (i : Int) ∧ nv = .int .i64 (rm i n) ∧ ov = .string Z ∧ Z.data.toList = tx i n ∧ Below w.heap.size w wr)
  case atStart => exact ⟨0, ⟨#[]⟩, rfl, rfl, rfl, rfl, rfl, Below.refl _ _⟩
  case round =>
    obtain ⟨i, Z, hi, rfl, rfl, rfl, hZ, hb⟩ := hrel
    have HB := Lib.hid hb
    clear hb
    have hr := rm_bd n (by omega) h2 i
    have hl := tx_length n (by omega) h2 i
    have hZs : Z.size ≤ 32 := by rw [Lib.size_eq, hZ]; omega
    have HZ := Lib.hid hZ
    clear hZ hl
    obtain ⟨m, hm⟩ : ∃ m, m = rm i n := ⟨_, rfl⟩
    rw [← hm] at hr ⊢
    have HM := Lib.hid hm
    clear hm
    have hcases : i = 0 ∨ i = 1 ∨ i = 2 ∨ i = 3 ∨ i = 4 := by omega
    rcases hcases with rfl | rfl | rfl | rfl | rfl
    · obtain rfl : gk = 4 := by omega
      have CT : Hid (∀ w, Calls Tryz.prog 78 #[.int .u8 ((((⟨#[100, 104, 109, 115]⟩ : ByteArray)[0]'(by decide)).toNat : Nat) : Int)] w fun e w' => e = .returned (.tuple #[.int .i64 86400, .int .i64 1]) ∧ w = w') := Lib.hid (fun w => ticks_any 0 (by decide) w)
      go_wp2_with (first
        | (go_at_call 78; (with_reducible refine (CT.out _).mono ?_); rintro e w' ⟨rfl, rfl⟩)
        | fail)
      go_loopg [0, 9] m.toNat (fun g2 nv cv wy => ∃ c : Nat, nv = .int .i64 (m - 86400 * (c : Int)) ∧ cv = .int .i64 (c : Int) ∧ 0 ≤ m - 86400 * (c : Int) ∧ m - 86400 * (c : Int) ≤ g2 ∧ wr = wy)
      case atStart => exact ⟨0, by simp, rfl, by simp; omega, by simp; omega, rfl⟩
      case round =>
        obtain ⟨c, rfl, rfl, hc0, hcg, rfl⟩ := hrel
        obtain ⟨d, hd⟩ : ∃ d, d = m - 86400 * (c : Int) := ⟨_, rfl⟩
        rw [← hd] at hc0 hcg ⊢
        by_cases hlt : 86400 ≤ d
        · obtain ⟨g2, rfl⟩ : ∃ g2, gk = g2 + 1 := ⟨gk - 1, by omega⟩
          have hdb : d ≤ 1000000 := by omega
          have hcb : (c : Int) ≤ 1000000 := by omega
          have HD := Lib.hid hd
          clear hd
          go_wp2
          go_roundg g2
          case measure => omega
          case rel =>
            have hd := HD.out
            exact ⟨c + 1, by congr 1; omega, by first | rfl | (congr 1; omega), by omega, by omega, rfl⟩
        · have hq : m / 86400 = (c : Int) := by omega
          have hm2 : m % 86400 = d := by omega
          have hcm : (c : Int) ≤ m := by omega
          have HR : Hid (d = rm 1 n) := Lib.hid (by rw [← hm2, HM.out]; rfl)
          have HX := show tx 1 n = tx 0 n ++ pc 0 (rm 0 n) from rfl
          rw [← HM.out] at HX
          unfold pc at HX
          rw [show m / tk 0 = (c : Int) from hq] at HX
          by_cases hz : c = 0
          · rw [if_neg (show ¬ tk 0 ≤ m from by show ¬ (86400 : Int) ≤ m; omega), List.append_nil] at HX
            have HXX := Lib.hid HX
            clear HX hq hm2 hd
            subst hz
            go_wp2
            go_roundg 3
            case measure => omega
            case rel => exact ⟨1, Z, rfl, rfl, by rw [HR.out], rfl, by rw [HXX.out]; exact HZ.out, HB.out⟩
          · rw [if_pos (show tk 0 ≤ m from by show (86400 : Int) ≤ m; omega), itoa_nat _ (by omega), Int.toNat_natCast] at HX
            have CC := fun w => rdigits_nat 7 (by decide) c (by omega) (by decide) (by omega) w
            obtain ⟨D, hD⟩ : ∃ D : ByteArray, D = ⟨(Go.Lib.decDigits c).toArray⟩ := ⟨_, rfl⟩
            have hDl : D.data.toList = Go.Lib.decDigits c := by rw [hD]
            have hDs : D.size ≤ 7 := by rw [Lib.size_eq, hDl]; exact (dec_facts 7 c (by omega) (by decide)).2.2.1
            rw [← hD] at CC
            rw [← hDl] at HX
            have CD := Lib.hid CC
            have HXX := Lib.hid HX
            clear hD CC hDl
            clear HX hq hm2 hd
            go_wp2
            go_region_with (first
              | (go_at_call 79; (with_reducible refine (CD.out _).mono ?_); rintro e w1 ⟨rfl, p1⟩)
              | fail)
            all_goals
              go_wp2
              go_roundg 3
              case measure => omega
              case rel =>
                refine ⟨1, Z ++ D ++ ByteArray.extract ⟨#[100, 104, 109, 115]⟩ 0 1, rfl, rfl, by rw [HR.out], rfl, ?_, Base.bel_⟩
                rw [HXX.out, ByteArray.data_append, ByteArray.data_append, Array.toList_append, Array.toList_append, HZ.out, List.append_assoc]
                rfl
    · obtain rfl : gk = 3 := by omega
      have CT : Hid (∀ w, Calls Tryz.prog 78 #[.int .u8 ((((⟨#[100, 104, 109, 115]⟩ : ByteArray)[1]'(by decide)).toNat : Nat) : Int)] w fun e w' => e = .returned (.tuple #[.int .i64 3600, .int .i64 2]) ∧ w = w') := Lib.hid (fun w => ticks_any 1 (by decide) w)
      go_wp2_with (first
        | (go_at_call 78; (with_reducible refine (CT.out _).mono ?_); rintro e w' ⟨rfl, rfl⟩)
        | fail)
      go_loopg [0, 9] m.toNat (fun g2 nv cv wy => ∃ c : Nat, nv = .int .i64 (m - 3600 * (c : Int)) ∧ cv = .int .i64 (c : Int) ∧ 0 ≤ m - 3600 * (c : Int) ∧ m - 3600 * (c : Int) ≤ g2 ∧ wr = wy)
      case atStart => exact ⟨0, by simp, rfl, by simp; omega, by simp; omega, rfl⟩
      case round =>
        obtain ⟨c, rfl, rfl, hc0, hcg, rfl⟩ := hrel
        obtain ⟨d, hd⟩ : ∃ d, d = m - 3600 * (c : Int) := ⟨_, rfl⟩
        rw [← hd] at hc0 hcg ⊢
        by_cases hlt : 3600 ≤ d
        · obtain ⟨g2, rfl⟩ : ∃ g2, gk = g2 + 1 := ⟨gk - 1, by omega⟩
          have hdb : d ≤ 1000000 := by omega
          have hcb : (c : Int) ≤ 1000000 := by omega
          have HD := Lib.hid hd
          clear hd
          go_wp2
          go_roundg g2
          case measure => omega
          case rel =>
            have hd := HD.out
            exact ⟨c + 1, by congr 1; omega, by first | rfl | (congr 1; omega), by omega, by omega, rfl⟩
        · have hq : m / 3600 = (c : Int) := by omega
          have hm2 : m % 3600 = d := by omega
          have hcm : (c : Int) ≤ m := by omega
          have HR : Hid (d = rm 2 n) := Lib.hid (by rw [← hm2, HM.out]; rfl)
          have HX := show tx 2 n = tx 1 n ++ pc 1 (rm 1 n) from rfl
          rw [← HM.out] at HX
          unfold pc at HX
          rw [show m / tk 1 = (c : Int) from hq] at HX
          by_cases hz : c = 0
          · rw [if_neg (show ¬ tk 1 ≤ m from by show ¬ (3600 : Int) ≤ m; omega), List.append_nil] at HX
            have HXX := Lib.hid HX
            clear HX hq hm2 hd
            subst hz
            go_wp2
            go_roundg 2
            case measure => omega
            case rel => exact ⟨2, Z, rfl, rfl, by rw [HR.out], rfl, by rw [HXX.out]; exact HZ.out, HB.out⟩
          · rw [if_pos (show tk 1 ≤ m from by show (3600 : Int) ≤ m; omega), itoa_nat _ (by omega), Int.toNat_natCast] at HX
            have CC := fun w => rdigits_nat 7 (by decide) c (by omega) (by decide) (by omega) w
            obtain ⟨D, hD⟩ : ∃ D : ByteArray, D = ⟨(Go.Lib.decDigits c).toArray⟩ := ⟨_, rfl⟩
            have hDl : D.data.toList = Go.Lib.decDigits c := by rw [hD]
            have hDs : D.size ≤ 7 := by rw [Lib.size_eq, hDl]; exact (dec_facts 7 c (by omega) (by decide)).2.2.1
            rw [← hD] at CC
            rw [← hDl] at HX
            have CD := Lib.hid CC
            have HXX := Lib.hid HX
            clear hD CC hDl
            clear HX hq hm2 hd
            go_wp2
            go_region_with (first
              | (go_at_call 79; (with_reducible refine (CD.out _).mono ?_); rintro e w1 ⟨rfl, p1⟩)
              | fail)
            all_goals
              go_wp2
              go_roundg 2
              case measure => omega
              case rel =>
                refine ⟨2, Z ++ D ++ ByteArray.extract ⟨#[100, 104, 109, 115]⟩ 1 2, rfl, rfl, by rw [HR.out], rfl, ?_, Base.bel_⟩
                rw [HXX.out, ByteArray.data_append, ByteArray.data_append, Array.toList_append, Array.toList_append, HZ.out, List.append_assoc]
                rfl
    · obtain rfl : gk = 2 := by omega
      have CT : Hid (∀ w, Calls Tryz.prog 78 #[.int .u8 ((((⟨#[100, 104, 109, 115]⟩ : ByteArray)[2]'(by decide)).toNat : Nat) : Int)] w fun e w' => e = .returned (.tuple #[.int .i64 60, .int .i64 3]) ∧ w = w') := Lib.hid (fun w => ticks_any 2 (by decide) w)
      go_wp2_with (first
        | (go_at_call 78; (with_reducible refine (CT.out _).mono ?_); rintro e w' ⟨rfl, rfl⟩)
        | fail)
      go_loopg [0, 9] m.toNat (fun g2 nv cv wy => ∃ c : Nat, nv = .int .i64 (m - 60 * (c : Int)) ∧ cv = .int .i64 (c : Int) ∧ 0 ≤ m - 60 * (c : Int) ∧ m - 60 * (c : Int) ≤ g2 ∧ wr = wy)
      case atStart => exact ⟨0, by simp, rfl, by simp; omega, by simp; omega, rfl⟩
      case round =>
        obtain ⟨c, rfl, rfl, hc0, hcg, rfl⟩ := hrel
        obtain ⟨d, hd⟩ : ∃ d, d = m - 60 * (c : Int) := ⟨_, rfl⟩
        rw [← hd] at hc0 hcg ⊢
        by_cases hlt : 60 ≤ d
        · obtain ⟨g2, rfl⟩ : ∃ g2, gk = g2 + 1 := ⟨gk - 1, by omega⟩
          have hdb : d ≤ 1000000 := by omega
          have hcb : (c : Int) ≤ 1000000 := by omega
          have HD := Lib.hid hd
          clear hd
          go_wp2
          go_roundg g2
          case measure => omega
          case rel =>
            have hd := HD.out
            exact ⟨c + 1, by congr 1; omega, by first | rfl | (congr 1; omega), by omega, by omega, rfl⟩
        · have hq : m / 60 = (c : Int) := by omega
          have hm2 : m % 60 = d := by omega
          have hcm : (c : Int) ≤ m := by omega
          have HR : Hid (d = rm 3 n) := Lib.hid (by rw [← hm2, HM.out]; rfl)
          have HX := show tx 3 n = tx 2 n ++ pc 2 (rm 2 n) from rfl
          rw [← HM.out] at HX
          unfold pc at HX
          rw [show m / tk 2 = (c : Int) from hq] at HX
          by_cases hz : c = 0
          · rw [if_neg (show ¬ tk 2 ≤ m from by show ¬ (60 : Int) ≤ m; omega), List.append_nil] at HX
            have HXX := Lib.hid HX
            clear HX hq hm2 hd
            subst hz
            go_wp2
            go_roundg 1
            case measure => omega
            case rel => exact ⟨3, Z, rfl, rfl, by rw [HR.out], rfl, by rw [HXX.out]; exact HZ.out, HB.out⟩
          · rw [if_pos (show tk 2 ≤ m from by show (60 : Int) ≤ m; omega), itoa_nat _ (by omega), Int.toNat_natCast] at HX
            have CC := fun w => rdigits_nat 7 (by decide) c (by omega) (by decide) (by omega) w
            obtain ⟨D, hD⟩ : ∃ D : ByteArray, D = ⟨(Go.Lib.decDigits c).toArray⟩ := ⟨_, rfl⟩
            have hDl : D.data.toList = Go.Lib.decDigits c := by rw [hD]
            have hDs : D.size ≤ 7 := by rw [Lib.size_eq, hDl]; exact (dec_facts 7 c (by omega) (by decide)).2.2.1
            rw [← hD] at CC
            rw [← hDl] at HX
            have CD := Lib.hid CC
            have HXX := Lib.hid HX
            clear hD CC hDl
            clear HX hq hm2 hd
            go_wp2
            go_region_with (first
              | (go_at_call 79; (with_reducible refine (CD.out _).mono ?_); rintro e w1 ⟨rfl, p1⟩)
              | fail)
            all_goals
              go_wp2
              go_roundg 1
              case measure => omega
              case rel =>
                refine ⟨3, Z ++ D ++ ByteArray.extract ⟨#[100, 104, 109, 115]⟩ 2 3, rfl, rfl, by rw [HR.out], rfl, ?_, Base.bel_⟩
                rw [HXX.out, ByteArray.data_append, ByteArray.data_append, Array.toList_append, Array.toList_append, HZ.out, List.append_assoc]
                rfl
    · obtain rfl : gk = 1 := by omega
      have CT : Hid (∀ w, Calls Tryz.prog 78 #[.int .u8 ((((⟨#[100, 104, 109, 115]⟩ : ByteArray)[3]'(by decide)).toNat : Nat) : Int)] w fun e w' => e = .returned (.tuple #[.int .i64 1, .int .i64 4]) ∧ w = w') := Lib.hid (fun w => ticks_any 3 (by decide) w)
      go_wp2_with (first
        | (go_at_call 78; (with_reducible refine (CT.out _).mono ?_); rintro e w' ⟨rfl, rfl⟩)
        | fail)
      go_loopg [0, 9] m.toNat (fun g2 nv cv wy => ∃ c : Nat, nv = .int .i64 (m - 1 * (c : Int)) ∧ cv = .int .i64 (c : Int) ∧ 0 ≤ m - 1 * (c : Int) ∧ m - 1 * (c : Int) ≤ g2 ∧ wr = wy)
      case atStart => exact ⟨0, by simp, rfl, by simp; omega, by simp; omega, rfl⟩
      case round =>
        obtain ⟨c, rfl, rfl, hc0, hcg, rfl⟩ := hrel
        obtain ⟨d, hd⟩ : ∃ d, d = m - 1 * (c : Int) := ⟨_, rfl⟩
        rw [← hd] at hc0 hcg ⊢
        by_cases hlt : 1 ≤ d
        · obtain ⟨g2, rfl⟩ : ∃ g2, gk = g2 + 1 := ⟨gk - 1, by omega⟩
          have hdb : d ≤ 1000000 := by omega
          have hcb : (c : Int) ≤ 1000000 := by omega
          have HD := Lib.hid hd
          clear hd
          go_wp2
          go_roundg g2
          case measure => omega
          case rel =>
            have hd := HD.out
            exact ⟨c + 1, by congr 1; omega, by first | rfl | (congr 1; omega), by omega, by omega, rfl⟩
        · have hq : m / 1 = (c : Int) := by omega
          have hm2 : m % 1 = d := by omega
          have hcm : (c : Int) ≤ m := by omega
          have HR : Hid (d = rm 4 n) := Lib.hid (by rw [← hm2, HM.out]; rfl)
          have HX := show tx 4 n = tx 3 n ++ pc 3 (rm 3 n) from rfl
          rw [← HM.out] at HX
          unfold pc at HX
          rw [show m / tk 3 = (c : Int) from hq] at HX
          by_cases hz : c = 0
          · rw [if_neg (show ¬ tk 3 ≤ m from by show ¬ (1 : Int) ≤ m; omega), List.append_nil] at HX
            have HXX := Lib.hid HX
            clear HX hq hm2 hd
            subst hz
            go_wp2
            go_roundg 0
            case measure => omega
            case rel => exact ⟨4, Z, rfl, rfl, by rw [HR.out], rfl, by rw [HXX.out]; exact HZ.out, HB.out⟩
          · rw [if_pos (show tk 3 ≤ m from by show (1 : Int) ≤ m; omega), itoa_nat _ (by omega), Int.toNat_natCast] at HX
            have CC := fun w => rdigits_nat 7 (by decide) c (by omega) (by decide) (by omega) w
            obtain ⟨D, hD⟩ : ∃ D : ByteArray, D = ⟨(Go.Lib.decDigits c).toArray⟩ := ⟨_, rfl⟩
            have hDl : D.data.toList = Go.Lib.decDigits c := by rw [hD]
            have hDs : D.size ≤ 7 := by rw [Lib.size_eq, hDl]; exact (dec_facts 7 c (by omega) (by decide)).2.2.1
            rw [← hD] at CC
            rw [← hDl] at HX
            have CD := Lib.hid CC
            have HXX := Lib.hid HX
            clear hD CC hDl
            clear HX hq hm2 hd
            go_wp2
            go_region_with (first
              | (go_at_call 79; (with_reducible refine (CD.out _).mono ?_); rintro e w1 ⟨rfl, p1⟩)
              | fail)
            all_goals
              go_wp2
              go_roundg 0
              case measure => omega
              case rel =>
                refine ⟨4, Z ++ D ++ ByteArray.extract ⟨#[100, 104, 109, 115]⟩ 3 4, rfl, rfl, by rw [HR.out], rfl, ?_, Base.bel_⟩
                rw [HXX.out, ByteArray.data_append, ByteArray.data_append, Array.toList_append, Array.toList_append, HZ.out, List.append_assoc]
                rfl
    · obtain rfl : gk = 0 := by omega
      go_wp2
      go_ret2
      refine ⟨?_, HB.out⟩
      have e : Z = ⟨(tx 4 n).toArray⟩ := by rw [← HZ.out, Lib.mk_data]
      rw [e]; rfl
set_option maxRecDepth 100000 in
set_option maxHeartbeats 8000000 in
theorem rshow_any (n : Int) (w : World) :
    Calls Tryz.prog 49 #[.int .i64 n] w fun e w' => e = .returned (.tuple #[.string (shB n), .int .i64 (shE n)]) ∧ Below w.heap.size w w' := by
  by_cases ht : cl n 1000000 = n
  · have hb := (cl_time n).1 ht
    by_cases h0 : n = 0
    · subst h0
      have HS : Hid (shB 0 = ⟨#[48, 115]⟩ ∧ shE 0 = 0) := Lib.hid (by unfold shB shE; rw [if_pos ht, if_pos ht]; exact ⟨rfl, rfl⟩)
      clear ht hb
      go_enter Tryz.func49, Tryz.ntmps49
      go_wp2
      go_ret2
      exact ⟨by rw [HS.out.1, HS.out.2]; rfl, Below.refl _ _⟩
    · refine (rshow_ok n (by omega) hb.2 w).mono ?_
      rintro e w' ⟨rfl, hb⟩
      exact ⟨by unfold shB shE; rw [if_pos ht, if_pos ht, showL_ne h0], hb⟩
  · have hn : ¬ (0 ≤ n ∧ n ≤ 1000000) := fun h => ht ((cl_time n).2 h)
    have HS : Hid (shB n = ⟨#[]⟩ ∧ shE n = 153) := Lib.hid (by unfold shB shE; rw [if_neg ht, if_neg ht]; exact ⟨rfl, rfl⟩)
    clear ht
    by_cases hneg : n < 0
    · clear hn
      go_enter Tryz.func49, Tryz.ntmps49
      go_wp2
      go_ret2
      exact ⟨by rw [HS.out.1, HS.out.2]; rfl, Below.refl _ _⟩
    · have hbig : 1000000 < n := by omega
      clear hn
      go_enter Tryz.func49, Tryz.ntmps49
      go_wp2
      go_ret2
      exact ⟨by rw [HS.out.1, HS.out.2]; rfl, Below.refl _ _⟩
end Go.Proofs.YtdkngidangfkiaaGreatDoor.Hours
