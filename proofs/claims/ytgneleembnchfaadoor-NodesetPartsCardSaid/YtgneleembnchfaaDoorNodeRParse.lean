/-
  The walk of the document's own Parse (musterref09).
-/
import Derived.Test.YtgneleembnchfaaDoorNodeRShow
namespace Go.Proofs.YtgneleembnchfaaDoor.Node
open Go.RowKit
open Base
set_option linter.unusedVariables false
set_option linter.unusedSimpArgs false

def fstF (n : Nat) (fr : Int) : Nat := if fr < 0 then n else fr.toNat
def cntF (d : Bool) (n : Nat) (fr : Int) : Nat := if d = true then 0 else min (n + 1) 64 - fstF n fr
theorem flush_eq (d : Bool) (l : List Nat) (n : Nat) (fr : Int) : flush d l n fr = l ++ List.range' (fstF n fr) (cntF d n fr) := by
  unfold flush cntF fstF
  cases d <;> simp
theorem cntF_le (d : Bool) (n : Nat) (fr : Int) : cntF d n fr ≤ 64 := by unfold cntF; split <;> omega
theorem cnt_on {d : Bool} {n : Nat} {fr : Int} {j : Nat} (h : j < cntF d n fr) : d = false ∧ fstF n fr + j ≤ n ∧ fstF n fr + j < 64 := by
  unfold cntF at h
  cases d
  · simp at h; exact ⟨rfl, by omega, by omega⟩
  · simp at h
theorem cnt_off {d : Bool} {n : Nat} {fr : Int} {j : Nat} (h : ¬ j < cntF d n fr) (h1 : fstF n fr + j ≤ n) (h2 : fstF n fr + j < 64) : d = true := by
  unfold cntF at h
  cases d
  · simp at h; omega
  · rfl
theorem fst_neg {n : Nat} {fr : Int} (h : fr < 0) : fstF n fr = n := by unfold fstF; rw [if_pos h]
theorem fst_pos {n : Nat} {fr : Int} (h : ¬ fr < 0) : (fstF n fr : Int) = fr := by unfold fstF; rw [if_neg h]; omega
theorem range_snoc (a j : Nat) : List.range' a (j + 1) = List.range' a j ++ [a + j] := by rw [List.range'_concat, Nat.one_mul]
theorem ints_snoc (l : List Nat) (a j : Nat) : ints (l ++ List.range' a (j + 1)) = ints (l ++ List.range' a j) ++ [((a + j : Nat) : Int)] := by
  rw [range_snoc, ← List.append_assoc, ints_append, ints_one]
theorem le_add_one_iff' (i n : Nat) (h : i < n) : i + 1 ≤ n + 1 := by omega

set_option maxRecDepth 100000 in
set_option maxHeartbeats 16000000 in
theorem rparse_any (T : ByteArray) (hT : T.size ≤ 2000) (w : World) :
    Calls Tryd.prog 24 #[.string T] w fun e w' => e = .returned (.tuple #[.int .u64 (parseS T.data.toList : Int), .int .i64 (parseE T.data.toList)]) ∧ Below w.heap.size w w' := by
  obtain ⟨i0, hi, hz0, hz1, hz2⟩ := info_parts info_int
  have HI := Lib.hid hi
  have HZ0 := Lib.hid hz0
  have HZ1 := Lib.hid hz1
  have HZ2 := Lib.hid hz2
  have HPS := Lib.hid (parse_same T.data.toList)
  obtain ⟨D, hD⟩ : ∃ D, D = isDash T.data.toList := ⟨_, rfl⟩
  have hd : (T.toList == [45]) = D := by
    rw [hD]; unfold isDash; rw [Lib.toList_data, Bool.eq_iff_iff, beq_iff_eq, decide_eq_true_eq]
  have HR0 : Hid (parR D [] 0 (-1) T.data.toList = parN T.data.toList) := Lib.hid (by rw [hD]; rfl)
  obtain ⟨R, hR⟩ : ∃ R, R = parN T.data.toList := ⟨_, rfl⟩
  rw [← hR] at HPS HR0
  obtain ⟨PS, hPS⟩ : ∃ P : Nat, P = parseS T.data.toList := ⟨_, rfl⟩
  obtain ⟨PE, hPE⟩ : ∃ P : Int, P = parseE T.data.toList := ⟨_, rfl⟩
  rw [← hPS, ← hPE] at HPS
  rw [← hPS, ← hPE]
  have HTL : Hid (T.size = T.data.toList.length) := Lib.hid (Lib.size_eq T)
  clear hi hz0 hz1 hz2 hD hR hPS hPE
  go_enter Tryd.func24, Tryd.ntmps24
  go_wp2
  go_loopw [7, 4, 5, 6] (fun iv lv nv fv wr => ∃ (i : Nat) (l : List Nat) (n : Nat) (fr : Int), iv = .int .i64 (i : Int) ∧ nv = .int .i64 (n : Int) ∧ fv = .int .i64 fr ∧ i ≤ T.size + 1 ∧ n ≤ 999 ∧ -1 ≤ fr ∧ fr ≤ 999 ∧ l.length ≤ 64 * i ∧ Own (.int .i64) w.heap.size 3 lv (ints l) wr ∧ Below w.heap.size w wr ∧ (∀ x ∈ l, x < 64) ∧ (i ≤ T.size → parR D l n fr (T.data.toList.drop i) = R) ∧ (i = T.size + 1 → l = R)) (fun iv _ _ _ _ => T.size + 1 - (intOf iv).toNat)
  case atStart => exact ⟨0, [], 0, -1, rfl, rfl, rfl, by omega, by omega, by omega, by omega, by simp, Own.nil (Nat.le_refl _), Below.refl _ _, by simp, fun _ => HR0.out, fun h => by omega⟩
  case round =>
    obtain ⟨i, l, n, fr, rfl, rfl, rfl, hi, hn, hf0, hf1, hll, ho, hb, hx, hp, hq⟩ := hrel
    have HO := Lib.hid ho
    have HB := Lib.hid hb
    have HX := Lib.hid hx
    clear ho hb hx
    by_cases hle : i ≤ T.size
    · have HFE := Lib.hid (flush_eq D l n fr)
      have HFX := Lib.hid (flush_lt D l n fr HX.out)
      have hcn := cntF_le D n fr
      obtain ⟨F, hF⟩ : ∃ F, F = fstF n fr := ⟨_, rfl⟩
      obtain ⟨M, hM⟩ : ∃ M, M = cntF D n fr := ⟨_, rfl⟩
      have HON : Hid (∀ j, j < M → D = false ∧ F + j ≤ n ∧ F + j < 64) := Lib.hid (fun j h => by rw [hF]; exact cnt_on (by rw [← hM]; exact h))
      have HOFF : Hid (∀ j, ¬ j < M → F + j ≤ n → F + j < 64 → D = true) := Lib.hid (fun j h h1 h2 => cnt_off (j := j) (by rw [← hM]; exact h) (by rw [← hF]; exact h1) (by rw [← hF]; exact h2))
      have HFN : Hid (fr < 0 → F = n) := Lib.hid (fun h => by rw [hF]; exact fst_neg h)
      have HFP : Hid (¬ fr < 0 → (F : Int) = fr) := Lib.hid (fun h => by rw [hF]; exact fst_pos h)
      rw [← hF, ← hM] at HFE
      rw [← hM] at hcn
      clear hF hM
      by_cases hlt : i < T.size
      · have hg : i < T.data.toList.length := by have := HTL.out; omega
        have hdr : T.data.toList.drop i = T.data.toList[i] :: T.data.toList.drop (i + 1) := List.drop_eq_getElem_cons hg
        have hbt : T.data.toList[i] = T[i]'hlt := rfl
        rw [hbt] at hdr
        have h1 := hp hle
        rw [hdr, parR] at h1
        obtain ⟨c, hc⟩ : ∃ c, c = T[i]'hlt := ⟨_, rfl⟩
        have hcc : T[i]'hlt = c := hc.symm
        rw [← hc] at h1
        have hcb : c.toNat < 256 := c.toNat_lt
        have HQ : Hid (i + 1 = T.size + 1 → False) := Lib.hid (fun h => by omega)
        have H1 := Lib.hid h1
        have n1 : decide ((i : Int) < ((T.size : Nat) : Int)) = true := decide_eq_true (by omega)
        have n2 : decide (i < T.size) = true := decide_eq_true hlt
        have n3 : (0 : Int) ≤ (i : Int) := by omega
        have n4 : (i : Int) < ((T.size : Nat) : Int) := by omega
        clear h1 hp hq hdr hbt hg hc
        by_cases a1 : 48 ≤ c.toNat
        · have e1 : decide ((48 : Int) ≤ (c.toNat : Int)) = true := decide_eq_true (by omega)
          have e5 : ((c.toNat : Int) == 45) = false := by rw [beq_eq_false_iff_ne]; omega
          by_cases a2 : c.toNat ≤ 57
          · have e2 : decide ((c.toNat : Int) ≤ 57) = true := decide_eq_true (by omega)
            by_cases a3 : n < 100
            · have e3 : decide ((n : Int) < 100) = true := decide_eq_true (by omega)
              have HN : Hid (parR D l (10 * n + (c.toNat - 48)) fr (T.data.toList.drop (i + 1)) = R) := Lib.hid (by have := H1.out; rwa [if_pos ⟨a1, a2, a3⟩] at this)
              have w1 : IntKind.u8.wrap ((c.toNat : Int) - 48) = (c.toNat : Int) - 48 := by simp only [IntKind.wrap_u8]; omega
              have w2 : IntKind.i64.wrap ((c.toNat : Int) - 48) = (c.toNat : Int) - 48 := by simp only [IntKind.wrap_i64]; omega
              clear H1
              go_wp2
              refine ⟨⟨i + 1, l, 10 * n + (c.toNat - 48), fr, by go_num, ?_, rfl, by omega, by omega, by omega, by omega, by omega, HO.out, HB.out, HX.out, fun _ => HN.out, fun h => (HQ.out h).elim⟩, ?_⟩
              · congr 1; omega
              · simp [intOf]; omega
            · have e3 : decide ((n : Int) < 100) = false := decide_eq_false (by omega)
              have HN : Hid (parR D (flush D l n fr) 0 (-1) (T.data.toList.drop (i + 1)) = R) := Lib.hid (by have := H1.out; rwa [if_neg (by omega), if_neg (by intro h; rw [h] at a1; exact absurd a1 (by decide))] at this)
              clear H1 a1 a2 a3
              by_cases hfr : fr < 0
              · skip
                have HF := Lib.hid (HFN.out hfr)
                have f1 : decide (fr < 0) = true := decide_eq_true hfr
                clear hfr HFN HFP
                go_wp2
                go_loopw [8, 4] (fun kv lv wj => ∃ j : Nat, kv = .int .i64 ((F : Int) + (j : Int)) ∧ j ≤ M ∧ Own (.int .i64) w.heap.size 3 lv (ints (l ++ List.range' F j)) wj ∧ Below w.heap.size w wj) (fun kv _ _ => M + F - (intOf kv).toNat)
                case atStart => exact ⟨0, by rw [HF.out]; simp, by omega, by simpa using HO.out, HB.out⟩
                case round =>
                  obtain ⟨j, rfl, hj, hoj, hbj⟩ := hrel
                  have HOJ := Lib.hid hoj
                  have HBJ := Lib.hid hbj
                  clear hoj hbj
                  have hlj : (ints (l ++ List.range' F j)).length ≤ 200000 := by rw [ints_length, List.length_append, List.length_range']; omega
                  by_cases hjm : j < M
                  · obtain ⟨d0, a1, a2⟩ := HON.out j hjm
                    have t1 : decide ((F : Int) + (j : Int) ≤ (n : Int)) = true := decide_eq_true (by omega)
                    have t2 : decide ((F : Int) + (j : Int) < 64) = true := decide_eq_true (by omega)
                    rw [d0] at hd
                    have HE : Hid (ints (l ++ List.range' F (j + 1)) = ints (l ++ List.range' F j) ++ [(F : Int) + (j : Int)]) := Lib.hid (by rw [ints_snoc]; simp)
                    obtain ⟨L, hL⟩ : ∃ L, L = ints (l ++ List.range' F j) := ⟨_, rfl⟩
                    rw [← hL] at HOJ HE hlj
                    clear hL d0
                    go_wp2_with (first
                      | (at_builtin; refine wpList_append_src rfl (.tmp 72) (.tmp 74) 22 rfl i0 _ 8 Tryd.underlying22 HI.out HZ0.out HZ1.out HZ2.out rfl (fun _ => rfl) rfl (HOJ.out.alloc _) _ 1 1 [(F : Int) + (j : Int)] rfl rfl (one_int _ rfl rfl) (by intro h; cases h) (by omega) (by unfold maxLen; omega) ?_; intro v4 w4 o4 b4)
                      | fail)
                    go_roundw
                    case rel => exact ⟨j + 1, by go_num, by omega, by rw [HE.out]; exact o4, (HBJ.out.alloc HBJ.out.size _).trans b4⟩
                    case measure => simp [intOf]; omega
                  · obtain rfl : j = M := by omega
                    have HOF : Hid (ints (l ++ List.range' F j) = ints (flush D l n fr)) := Lib.hid (by rw [HFE.out])
                    have HFL : Hid ((flush D l n fr).length ≤ 64 * (i + 1)) := Lib.hid (by rw [HFE.out, List.length_append, List.length_range']; omega)
                    obtain ⟨L, hL⟩ : ∃ L, L = ints (l ++ List.range' F j) := ⟨_, rfl⟩
                    rw [← hL] at HOJ HOF hlj
                    clear hL
                    by_cases a1 : F + j ≤ n
                    · have t1 : decide ((F : Int) + (j : Int) ≤ (n : Int)) = true := decide_eq_true (by omega)
                      by_cases a2 : F + j < 64
                      · have t2 : decide ((F : Int) + (j : Int) < 64) = true := decide_eq_true (by omega)
                        rw [HOFF.out j hjm a1 a2] at hd
                        go_wp2
                        refine ⟨⟨i + 1, flush D l n fr, 0, -1, by go_num, rfl, rfl, by omega, by omega, by omega, by omega, HFL.out, by rw [← HOF.out]; exact HOJ.out, HBJ.out, HFX.out, fun _ => HN.out, fun h => (HQ.out h).elim⟩, ?_⟩
                        simp [intOf]; omega
                      · have t2 : decide ((F : Int) + (j : Int) < 64) = false := decide_eq_false (by omega)
                        go_wp2
                        refine ⟨⟨i + 1, flush D l n fr, 0, -1, by go_num, rfl, rfl, by omega, by omega, by omega, by omega, HFL.out, by rw [← HOF.out]; exact HOJ.out, HBJ.out, HFX.out, fun _ => HN.out, fun h => (HQ.out h).elim⟩, ?_⟩
                        simp [intOf]; omega
                    · have t1 : decide ((F : Int) + (j : Int) ≤ (n : Int)) = false := decide_eq_false (by omega)
                      go_wp2
                      refine ⟨⟨i + 1, flush D l n fr, 0, -1, by go_num, rfl, rfl, by omega, by omega, by omega, by omega, HFL.out, by rw [← HOF.out]; exact HOJ.out, HBJ.out, HFX.out, fun _ => HN.out, fun h => (HQ.out h).elim⟩, ?_⟩
                      simp [intOf]; omega
              · skip
                have HF := Lib.hid (HFP.out hfr)
                have f1 : decide (fr < 0) = false := decide_eq_false hfr
                clear hfr HFN HFP
                go_wp2
                go_loopw [8, 4] (fun kv lv wj => ∃ j : Nat, kv = .int .i64 ((F : Int) + (j : Int)) ∧ j ≤ M ∧ Own (.int .i64) w.heap.size 3 lv (ints (l ++ List.range' F j)) wj ∧ Below w.heap.size w wj) (fun kv _ _ => M + F - (intOf kv).toNat)
                case atStart => exact ⟨0, by rw [HF.out]; simp, by omega, by simpa using HO.out, HB.out⟩
                case round =>
                  obtain ⟨j, rfl, hj, hoj, hbj⟩ := hrel
                  have HOJ := Lib.hid hoj
                  have HBJ := Lib.hid hbj
                  clear hoj hbj
                  have hlj : (ints (l ++ List.range' F j)).length ≤ 200000 := by rw [ints_length, List.length_append, List.length_range']; omega
                  by_cases hjm : j < M
                  · obtain ⟨d0, a1, a2⟩ := HON.out j hjm
                    have t1 : decide ((F : Int) + (j : Int) ≤ (n : Int)) = true := decide_eq_true (by omega)
                    have t2 : decide ((F : Int) + (j : Int) < 64) = true := decide_eq_true (by omega)
                    rw [d0] at hd
                    have HE : Hid (ints (l ++ List.range' F (j + 1)) = ints (l ++ List.range' F j) ++ [(F : Int) + (j : Int)]) := Lib.hid (by rw [ints_snoc]; simp)
                    obtain ⟨L, hL⟩ : ∃ L, L = ints (l ++ List.range' F j) := ⟨_, rfl⟩
                    rw [← hL] at HOJ HE hlj
                    clear hL d0
                    go_wp2_with (first
                      | (at_builtin; refine wpList_append_src rfl (.tmp 72) (.tmp 74) 22 rfl i0 _ 8 Tryd.underlying22 HI.out HZ0.out HZ1.out HZ2.out rfl (fun _ => rfl) rfl (HOJ.out.alloc _) _ 1 1 [(F : Int) + (j : Int)] rfl rfl (one_int _ rfl rfl) (by intro h; cases h) (by omega) (by unfold maxLen; omega) ?_; intro v4 w4 o4 b4)
                      | fail)
                    go_roundw
                    case rel => exact ⟨j + 1, by go_num, by omega, by rw [HE.out]; exact o4, (HBJ.out.alloc HBJ.out.size _).trans b4⟩
                    case measure => simp [intOf]; omega
                  · obtain rfl : j = M := by omega
                    have HOF : Hid (ints (l ++ List.range' F j) = ints (flush D l n fr)) := Lib.hid (by rw [HFE.out])
                    have HFL : Hid ((flush D l n fr).length ≤ 64 * (i + 1)) := Lib.hid (by rw [HFE.out, List.length_append, List.length_range']; omega)
                    obtain ⟨L, hL⟩ : ∃ L, L = ints (l ++ List.range' F j) := ⟨_, rfl⟩
                    rw [← hL] at HOJ HOF hlj
                    clear hL
                    by_cases a1 : F + j ≤ n
                    · have t1 : decide ((F : Int) + (j : Int) ≤ (n : Int)) = true := decide_eq_true (by omega)
                      by_cases a2 : F + j < 64
                      · have t2 : decide ((F : Int) + (j : Int) < 64) = true := decide_eq_true (by omega)
                        rw [HOFF.out j hjm a1 a2] at hd
                        go_wp2
                        refine ⟨⟨i + 1, flush D l n fr, 0, -1, by go_num, rfl, rfl, by omega, by omega, by omega, by omega, HFL.out, by rw [← HOF.out]; exact HOJ.out, HBJ.out, HFX.out, fun _ => HN.out, fun h => (HQ.out h).elim⟩, ?_⟩
                        simp [intOf]; omega
                      · have t2 : decide ((F : Int) + (j : Int) < 64) = false := decide_eq_false (by omega)
                        go_wp2
                        refine ⟨⟨i + 1, flush D l n fr, 0, -1, by go_num, rfl, rfl, by omega, by omega, by omega, by omega, HFL.out, by rw [← HOF.out]; exact HOJ.out, HBJ.out, HFX.out, fun _ => HN.out, fun h => (HQ.out h).elim⟩, ?_⟩
                        simp [intOf]; omega
                    · have t1 : decide ((F : Int) + (j : Int) ≤ (n : Int)) = false := decide_eq_false (by omega)
                      go_wp2
                      refine ⟨⟨i + 1, flush D l n fr, 0, -1, by go_num, rfl, rfl, by omega, by omega, by omega, by omega, HFL.out, by rw [← HOF.out]; exact HOJ.out, HBJ.out, HFX.out, fun _ => HN.out, fun h => (HQ.out h).elim⟩, ?_⟩
                      simp [intOf]; omega
          · have e2 : decide ((c.toNat : Int) ≤ 57) = false := decide_eq_false (by omega)
            have HN : Hid (parR D (flush D l n fr) 0 (-1) (T.data.toList.drop (i + 1)) = R) := Lib.hid (by have := H1.out; rwa [if_neg (by omega), if_neg (by intro h; rw [h] at a1; exact absurd a1 (by decide))] at this)
            clear H1 a1 a2
            by_cases hfr : fr < 0
            · skip
              have HF := Lib.hid (HFN.out hfr)
              have f1 : decide (fr < 0) = true := decide_eq_true hfr
              clear hfr HFN HFP
              go_wp2
              go_loopw [8, 4] (fun kv lv wj => ∃ j : Nat, kv = .int .i64 ((F : Int) + (j : Int)) ∧ j ≤ M ∧ Own (.int .i64) w.heap.size 3 lv (ints (l ++ List.range' F j)) wj ∧ Below w.heap.size w wj) (fun kv _ _ => M + F - (intOf kv).toNat)
              case atStart => exact ⟨0, by rw [HF.out]; simp, by omega, by simpa using HO.out, HB.out⟩
              case round =>
                obtain ⟨j, rfl, hj, hoj, hbj⟩ := hrel
                have HOJ := Lib.hid hoj
                have HBJ := Lib.hid hbj
                clear hoj hbj
                have hlj : (ints (l ++ List.range' F j)).length ≤ 200000 := by rw [ints_length, List.length_append, List.length_range']; omega
                by_cases hjm : j < M
                · obtain ⟨d0, a1, a2⟩ := HON.out j hjm
                  have t1 : decide ((F : Int) + (j : Int) ≤ (n : Int)) = true := decide_eq_true (by omega)
                  have t2 : decide ((F : Int) + (j : Int) < 64) = true := decide_eq_true (by omega)
                  rw [d0] at hd
                  have HE : Hid (ints (l ++ List.range' F (j + 1)) = ints (l ++ List.range' F j) ++ [(F : Int) + (j : Int)]) := Lib.hid (by rw [ints_snoc]; simp)
                  obtain ⟨L, hL⟩ : ∃ L, L = ints (l ++ List.range' F j) := ⟨_, rfl⟩
                  rw [← hL] at HOJ HE hlj
                  clear hL d0
                  go_wp2_with (first
                    | (at_builtin; refine wpList_append_src rfl (.tmp 72) (.tmp 74) 22 rfl i0 _ 8 Tryd.underlying22 HI.out HZ0.out HZ1.out HZ2.out rfl (fun _ => rfl) rfl (HOJ.out.alloc _) _ 1 1 [(F : Int) + (j : Int)] rfl rfl (one_int _ rfl rfl) (by intro h; cases h) (by omega) (by unfold maxLen; omega) ?_; intro v4 w4 o4 b4)
                    | fail)
                  go_roundw
                  case rel => exact ⟨j + 1, by go_num, by omega, by rw [HE.out]; exact o4, (HBJ.out.alloc HBJ.out.size _).trans b4⟩
                  case measure => simp [intOf]; omega
                · obtain rfl : j = M := by omega
                  have HOF : Hid (ints (l ++ List.range' F j) = ints (flush D l n fr)) := Lib.hid (by rw [HFE.out])
                  have HFL : Hid ((flush D l n fr).length ≤ 64 * (i + 1)) := Lib.hid (by rw [HFE.out, List.length_append, List.length_range']; omega)
                  obtain ⟨L, hL⟩ : ∃ L, L = ints (l ++ List.range' F j) := ⟨_, rfl⟩
                  rw [← hL] at HOJ HOF hlj
                  clear hL
                  by_cases a1 : F + j ≤ n
                  · have t1 : decide ((F : Int) + (j : Int) ≤ (n : Int)) = true := decide_eq_true (by omega)
                    by_cases a2 : F + j < 64
                    · have t2 : decide ((F : Int) + (j : Int) < 64) = true := decide_eq_true (by omega)
                      rw [HOFF.out j hjm a1 a2] at hd
                      go_wp2
                      refine ⟨⟨i + 1, flush D l n fr, 0, -1, by go_num, rfl, rfl, by omega, by omega, by omega, by omega, HFL.out, by rw [← HOF.out]; exact HOJ.out, HBJ.out, HFX.out, fun _ => HN.out, fun h => (HQ.out h).elim⟩, ?_⟩
                      simp [intOf]; omega
                    · have t2 : decide ((F : Int) + (j : Int) < 64) = false := decide_eq_false (by omega)
                      go_wp2
                      refine ⟨⟨i + 1, flush D l n fr, 0, -1, by go_num, rfl, rfl, by omega, by omega, by omega, by omega, HFL.out, by rw [← HOF.out]; exact HOJ.out, HBJ.out, HFX.out, fun _ => HN.out, fun h => (HQ.out h).elim⟩, ?_⟩
                      simp [intOf]; omega
                  · have t1 : decide ((F : Int) + (j : Int) ≤ (n : Int)) = false := decide_eq_false (by omega)
                    go_wp2
                    refine ⟨⟨i + 1, flush D l n fr, 0, -1, by go_num, rfl, rfl, by omega, by omega, by omega, by omega, HFL.out, by rw [← HOF.out]; exact HOJ.out, HBJ.out, HFX.out, fun _ => HN.out, fun h => (HQ.out h).elim⟩, ?_⟩
                    simp [intOf]; omega
            · skip
              have HF := Lib.hid (HFP.out hfr)
              have f1 : decide (fr < 0) = false := decide_eq_false hfr
              clear hfr HFN HFP
              go_wp2
              go_loopw [8, 4] (fun kv lv wj => ∃ j : Nat, kv = .int .i64 ((F : Int) + (j : Int)) ∧ j ≤ M ∧ Own (.int .i64) w.heap.size 3 lv (ints (l ++ List.range' F j)) wj ∧ Below w.heap.size w wj) (fun kv _ _ => M + F - (intOf kv).toNat)
              case atStart => exact ⟨0, by rw [HF.out]; simp, by omega, by simpa using HO.out, HB.out⟩
              case round =>
                obtain ⟨j, rfl, hj, hoj, hbj⟩ := hrel
                have HOJ := Lib.hid hoj
                have HBJ := Lib.hid hbj
                clear hoj hbj
                have hlj : (ints (l ++ List.range' F j)).length ≤ 200000 := by rw [ints_length, List.length_append, List.length_range']; omega
                by_cases hjm : j < M
                · obtain ⟨d0, a1, a2⟩ := HON.out j hjm
                  have t1 : decide ((F : Int) + (j : Int) ≤ (n : Int)) = true := decide_eq_true (by omega)
                  have t2 : decide ((F : Int) + (j : Int) < 64) = true := decide_eq_true (by omega)
                  rw [d0] at hd
                  have HE : Hid (ints (l ++ List.range' F (j + 1)) = ints (l ++ List.range' F j) ++ [(F : Int) + (j : Int)]) := Lib.hid (by rw [ints_snoc]; simp)
                  obtain ⟨L, hL⟩ : ∃ L, L = ints (l ++ List.range' F j) := ⟨_, rfl⟩
                  rw [← hL] at HOJ HE hlj
                  clear hL d0
                  go_wp2_with (first
                    | (at_builtin; refine wpList_append_src rfl (.tmp 72) (.tmp 74) 22 rfl i0 _ 8 Tryd.underlying22 HI.out HZ0.out HZ1.out HZ2.out rfl (fun _ => rfl) rfl (HOJ.out.alloc _) _ 1 1 [(F : Int) + (j : Int)] rfl rfl (one_int _ rfl rfl) (by intro h; cases h) (by omega) (by unfold maxLen; omega) ?_; intro v4 w4 o4 b4)
                    | fail)
                  go_roundw
                  case rel => exact ⟨j + 1, by go_num, by omega, by rw [HE.out]; exact o4, (HBJ.out.alloc HBJ.out.size _).trans b4⟩
                  case measure => simp [intOf]; omega
                · obtain rfl : j = M := by omega
                  have HOF : Hid (ints (l ++ List.range' F j) = ints (flush D l n fr)) := Lib.hid (by rw [HFE.out])
                  have HFL : Hid ((flush D l n fr).length ≤ 64 * (i + 1)) := Lib.hid (by rw [HFE.out, List.length_append, List.length_range']; omega)
                  obtain ⟨L, hL⟩ : ∃ L, L = ints (l ++ List.range' F j) := ⟨_, rfl⟩
                  rw [← hL] at HOJ HOF hlj
                  clear hL
                  by_cases a1 : F + j ≤ n
                  · have t1 : decide ((F : Int) + (j : Int) ≤ (n : Int)) = true := decide_eq_true (by omega)
                    by_cases a2 : F + j < 64
                    · have t2 : decide ((F : Int) + (j : Int) < 64) = true := decide_eq_true (by omega)
                      rw [HOFF.out j hjm a1 a2] at hd
                      go_wp2
                      refine ⟨⟨i + 1, flush D l n fr, 0, -1, by go_num, rfl, rfl, by omega, by omega, by omega, by omega, HFL.out, by rw [← HOF.out]; exact HOJ.out, HBJ.out, HFX.out, fun _ => HN.out, fun h => (HQ.out h).elim⟩, ?_⟩
                      simp [intOf]; omega
                    · have t2 : decide ((F : Int) + (j : Int) < 64) = false := decide_eq_false (by omega)
                      go_wp2
                      refine ⟨⟨i + 1, flush D l n fr, 0, -1, by go_num, rfl, rfl, by omega, by omega, by omega, by omega, HFL.out, by rw [← HOF.out]; exact HOJ.out, HBJ.out, HFX.out, fun _ => HN.out, fun h => (HQ.out h).elim⟩, ?_⟩
                      simp [intOf]; omega
                  · have t1 : decide ((F : Int) + (j : Int) ≤ (n : Int)) = false := decide_eq_false (by omega)
                    go_wp2
                    refine ⟨⟨i + 1, flush D l n fr, 0, -1, by go_num, rfl, rfl, by omega, by omega, by omega, by omega, HFL.out, by rw [← HOF.out]; exact HOJ.out, HBJ.out, HFX.out, fun _ => HN.out, fun h => (HQ.out h).elim⟩, ?_⟩
                    simp [intOf]; omega
        · have e1 : decide ((48 : Int) ≤ (c.toNat : Int)) = false := decide_eq_false (by omega)
          by_cases a5 : c = 45
          · have e5 : ((c.toNat : Int) == 45) = true := by rw [a5]; decide
            have HN : Hid (parR D l 0 (n : Int) (T.data.toList.drop (i + 1)) = R) := Lib.hid (by have := H1.out; rwa [if_neg (by omega), if_pos a5] at this)
            clear H1 a1 a5
            go_wp2
            refine ⟨⟨i + 1, l, 0, (n : Int), by go_num, rfl, rfl, by omega, by omega, by omega, by omega, by omega, HO.out, HB.out, HX.out, fun _ => HN.out, fun h => (HQ.out h).elim⟩, ?_⟩
            simp [intOf]; omega
          · have e5 : ((c.toNat : Int) == 45) = false := by
              rw [beq_eq_false_iff_ne]; intro h; apply a5; apply UInt8.toNat_inj.1; show c.toNat = 45; omega
            have HN : Hid (parR D (flush D l n fr) 0 (-1) (T.data.toList.drop (i + 1)) = R) := Lib.hid (by have := H1.out; rwa [if_neg (by omega), if_neg a5] at this)
            clear H1 a1 a5
            by_cases hfr : fr < 0
            · skip
              have HF := Lib.hid (HFN.out hfr)
              have f1 : decide (fr < 0) = true := decide_eq_true hfr
              clear hfr HFN HFP
              go_wp2
              go_loopw [8, 4] (fun kv lv wj => ∃ j : Nat, kv = .int .i64 ((F : Int) + (j : Int)) ∧ j ≤ M ∧ Own (.int .i64) w.heap.size 3 lv (ints (l ++ List.range' F j)) wj ∧ Below w.heap.size w wj) (fun kv _ _ => M + F - (intOf kv).toNat)
              case atStart => exact ⟨0, by rw [HF.out]; simp, by omega, by simpa using HO.out, HB.out⟩
              case round =>
                obtain ⟨j, rfl, hj, hoj, hbj⟩ := hrel
                have HOJ := Lib.hid hoj
                have HBJ := Lib.hid hbj
                clear hoj hbj
                have hlj : (ints (l ++ List.range' F j)).length ≤ 200000 := by rw [ints_length, List.length_append, List.length_range']; omega
                by_cases hjm : j < M
                · obtain ⟨d0, a1, a2⟩ := HON.out j hjm
                  have t1 : decide ((F : Int) + (j : Int) ≤ (n : Int)) = true := decide_eq_true (by omega)
                  have t2 : decide ((F : Int) + (j : Int) < 64) = true := decide_eq_true (by omega)
                  rw [d0] at hd
                  have HE : Hid (ints (l ++ List.range' F (j + 1)) = ints (l ++ List.range' F j) ++ [(F : Int) + (j : Int)]) := Lib.hid (by rw [ints_snoc]; simp)
                  obtain ⟨L, hL⟩ : ∃ L, L = ints (l ++ List.range' F j) := ⟨_, rfl⟩
                  rw [← hL] at HOJ HE hlj
                  clear hL d0
                  go_wp2_with (first
                    | (at_builtin; refine wpList_append_src rfl (.tmp 72) (.tmp 74) 22 rfl i0 _ 8 Tryd.underlying22 HI.out HZ0.out HZ1.out HZ2.out rfl (fun _ => rfl) rfl (HOJ.out.alloc _) _ 1 1 [(F : Int) + (j : Int)] rfl rfl (one_int _ rfl rfl) (by intro h; cases h) (by omega) (by unfold maxLen; omega) ?_; intro v4 w4 o4 b4)
                    | fail)
                  go_roundw
                  case rel => exact ⟨j + 1, by go_num, by omega, by rw [HE.out]; exact o4, (HBJ.out.alloc HBJ.out.size _).trans b4⟩
                  case measure => simp [intOf]; omega
                · obtain rfl : j = M := by omega
                  have HOF : Hid (ints (l ++ List.range' F j) = ints (flush D l n fr)) := Lib.hid (by rw [HFE.out])
                  have HFL : Hid ((flush D l n fr).length ≤ 64 * (i + 1)) := Lib.hid (by rw [HFE.out, List.length_append, List.length_range']; omega)
                  obtain ⟨L, hL⟩ : ∃ L, L = ints (l ++ List.range' F j) := ⟨_, rfl⟩
                  rw [← hL] at HOJ HOF hlj
                  clear hL
                  by_cases a1 : F + j ≤ n
                  · have t1 : decide ((F : Int) + (j : Int) ≤ (n : Int)) = true := decide_eq_true (by omega)
                    by_cases a2 : F + j < 64
                    · have t2 : decide ((F : Int) + (j : Int) < 64) = true := decide_eq_true (by omega)
                      rw [HOFF.out j hjm a1 a2] at hd
                      go_wp2
                      refine ⟨⟨i + 1, flush D l n fr, 0, -1, by go_num, rfl, rfl, by omega, by omega, by omega, by omega, HFL.out, by rw [← HOF.out]; exact HOJ.out, HBJ.out, HFX.out, fun _ => HN.out, fun h => (HQ.out h).elim⟩, ?_⟩
                      simp [intOf]; omega
                    · have t2 : decide ((F : Int) + (j : Int) < 64) = false := decide_eq_false (by omega)
                      go_wp2
                      refine ⟨⟨i + 1, flush D l n fr, 0, -1, by go_num, rfl, rfl, by omega, by omega, by omega, by omega, HFL.out, by rw [← HOF.out]; exact HOJ.out, HBJ.out, HFX.out, fun _ => HN.out, fun h => (HQ.out h).elim⟩, ?_⟩
                      simp [intOf]; omega
                  · have t1 : decide ((F : Int) + (j : Int) ≤ (n : Int)) = false := decide_eq_false (by omega)
                    go_wp2
                    refine ⟨⟨i + 1, flush D l n fr, 0, -1, by go_num, rfl, rfl, by omega, by omega, by omega, by omega, HFL.out, by rw [← HOF.out]; exact HOJ.out, HBJ.out, HFX.out, fun _ => HN.out, fun h => (HQ.out h).elim⟩, ?_⟩
                    simp [intOf]; omega
            · skip
              have HF := Lib.hid (HFP.out hfr)
              have f1 : decide (fr < 0) = false := decide_eq_false hfr
              clear hfr HFN HFP
              go_wp2
              go_loopw [8, 4] (fun kv lv wj => ∃ j : Nat, kv = .int .i64 ((F : Int) + (j : Int)) ∧ j ≤ M ∧ Own (.int .i64) w.heap.size 3 lv (ints (l ++ List.range' F j)) wj ∧ Below w.heap.size w wj) (fun kv _ _ => M + F - (intOf kv).toNat)
              case atStart => exact ⟨0, by rw [HF.out]; simp, by omega, by simpa using HO.out, HB.out⟩
              case round =>
                obtain ⟨j, rfl, hj, hoj, hbj⟩ := hrel
                have HOJ := Lib.hid hoj
                have HBJ := Lib.hid hbj
                clear hoj hbj
                have hlj : (ints (l ++ List.range' F j)).length ≤ 200000 := by rw [ints_length, List.length_append, List.length_range']; omega
                by_cases hjm : j < M
                · obtain ⟨d0, a1, a2⟩ := HON.out j hjm
                  have t1 : decide ((F : Int) + (j : Int) ≤ (n : Int)) = true := decide_eq_true (by omega)
                  have t2 : decide ((F : Int) + (j : Int) < 64) = true := decide_eq_true (by omega)
                  rw [d0] at hd
                  have HE : Hid (ints (l ++ List.range' F (j + 1)) = ints (l ++ List.range' F j) ++ [(F : Int) + (j : Int)]) := Lib.hid (by rw [ints_snoc]; simp)
                  obtain ⟨L, hL⟩ : ∃ L, L = ints (l ++ List.range' F j) := ⟨_, rfl⟩
                  rw [← hL] at HOJ HE hlj
                  clear hL d0
                  go_wp2_with (first
                    | (at_builtin; refine wpList_append_src rfl (.tmp 72) (.tmp 74) 22 rfl i0 _ 8 Tryd.underlying22 HI.out HZ0.out HZ1.out HZ2.out rfl (fun _ => rfl) rfl (HOJ.out.alloc _) _ 1 1 [(F : Int) + (j : Int)] rfl rfl (one_int _ rfl rfl) (by intro h; cases h) (by omega) (by unfold maxLen; omega) ?_; intro v4 w4 o4 b4)
                    | fail)
                  go_roundw
                  case rel => exact ⟨j + 1, by go_num, by omega, by rw [HE.out]; exact o4, (HBJ.out.alloc HBJ.out.size _).trans b4⟩
                  case measure => simp [intOf]; omega
                · obtain rfl : j = M := by omega
                  have HOF : Hid (ints (l ++ List.range' F j) = ints (flush D l n fr)) := Lib.hid (by rw [HFE.out])
                  have HFL : Hid ((flush D l n fr).length ≤ 64 * (i + 1)) := Lib.hid (by rw [HFE.out, List.length_append, List.length_range']; omega)
                  obtain ⟨L, hL⟩ : ∃ L, L = ints (l ++ List.range' F j) := ⟨_, rfl⟩
                  rw [← hL] at HOJ HOF hlj
                  clear hL
                  by_cases a1 : F + j ≤ n
                  · have t1 : decide ((F : Int) + (j : Int) ≤ (n : Int)) = true := decide_eq_true (by omega)
                    by_cases a2 : F + j < 64
                    · have t2 : decide ((F : Int) + (j : Int) < 64) = true := decide_eq_true (by omega)
                      rw [HOFF.out j hjm a1 a2] at hd
                      go_wp2
                      refine ⟨⟨i + 1, flush D l n fr, 0, -1, by go_num, rfl, rfl, by omega, by omega, by omega, by omega, HFL.out, by rw [← HOF.out]; exact HOJ.out, HBJ.out, HFX.out, fun _ => HN.out, fun h => (HQ.out h).elim⟩, ?_⟩
                      simp [intOf]; omega
                    · have t2 : decide ((F : Int) + (j : Int) < 64) = false := decide_eq_false (by omega)
                      go_wp2
                      refine ⟨⟨i + 1, flush D l n fr, 0, -1, by go_num, rfl, rfl, by omega, by omega, by omega, by omega, HFL.out, by rw [← HOF.out]; exact HOJ.out, HBJ.out, HFX.out, fun _ => HN.out, fun h => (HQ.out h).elim⟩, ?_⟩
                      simp [intOf]; omega
                  · have t1 : decide ((F : Int) + (j : Int) ≤ (n : Int)) = false := decide_eq_false (by omega)
                    go_wp2
                    refine ⟨⟨i + 1, flush D l n fr, 0, -1, by go_num, rfl, rfl, by omega, by omega, by omega, by omega, HFL.out, by rw [← HOF.out]; exact HOJ.out, HBJ.out, HFX.out, fun _ => HN.out, fun h => (HQ.out h).elim⟩, ?_⟩
                    simp [intOf]; omega
      · have hie : i = T.size := by omega
        have HN : Hid (flush D l n fr = R) := Lib.hid (by
          have := hp hle
          rwa [List.drop_of_length_le (by have := HTL.out; omega), parR] at this)
        have HQ : Hid (i + 1 ≤ T.size → False) := Lib.hid (fun h => by omega)
        have n1 : decide ((i : Int) < ((T.size : Nat) : Int)) = false := decide_eq_false (by omega)
        have n2 : decide (i < T.size) = false := decide_eq_false hlt
        clear hp hq hie
        by_cases hfr : fr < 0
        · skip
          have HF := Lib.hid (HFN.out hfr)
          have f1 : decide (fr < 0) = true := decide_eq_true hfr
          clear hfr HFN HFP
          go_wp2
          go_loopw [8, 4] (fun kv lv wj => ∃ j : Nat, kv = .int .i64 ((F : Int) + (j : Int)) ∧ j ≤ M ∧ Own (.int .i64) w.heap.size 3 lv (ints (l ++ List.range' F j)) wj ∧ Below w.heap.size w wj) (fun kv _ _ => M + F - (intOf kv).toNat)
          case atStart => exact ⟨0, by rw [HF.out]; simp, by omega, by simpa using HO.out, HB.out⟩
          case round =>
            obtain ⟨j, rfl, hj, hoj, hbj⟩ := hrel
            have HOJ := Lib.hid hoj
            have HBJ := Lib.hid hbj
            clear hoj hbj
            have hlj : (ints (l ++ List.range' F j)).length ≤ 200000 := by rw [ints_length, List.length_append, List.length_range']; omega
            by_cases hjm : j < M
            · obtain ⟨d0, a1, a2⟩ := HON.out j hjm
              have t1 : decide ((F : Int) + (j : Int) ≤ (n : Int)) = true := decide_eq_true (by omega)
              have t2 : decide ((F : Int) + (j : Int) < 64) = true := decide_eq_true (by omega)
              rw [d0] at hd
              have HE : Hid (ints (l ++ List.range' F (j + 1)) = ints (l ++ List.range' F j) ++ [(F : Int) + (j : Int)]) := Lib.hid (by rw [ints_snoc]; simp)
              obtain ⟨L, hL⟩ : ∃ L, L = ints (l ++ List.range' F j) := ⟨_, rfl⟩
              rw [← hL] at HOJ HE hlj
              clear hL d0
              go_wp2_with (first
                | (at_builtin; refine wpList_append_src rfl (.tmp 72) (.tmp 74) 22 rfl i0 _ 8 Tryd.underlying22 HI.out HZ0.out HZ1.out HZ2.out rfl (fun _ => rfl) rfl (HOJ.out.alloc _) _ 1 1 [(F : Int) + (j : Int)] rfl rfl (one_int _ rfl rfl) (by intro h; cases h) (by omega) (by unfold maxLen; omega) ?_; intro v4 w4 o4 b4)
                | fail)
              go_roundw
              case rel => exact ⟨j + 1, by go_num, by omega, by rw [HE.out]; exact o4, (HBJ.out.alloc HBJ.out.size _).trans b4⟩
              case measure => simp [intOf]; omega
            · obtain rfl : j = M := by omega
              have HOF : Hid (ints (l ++ List.range' F j) = ints (flush D l n fr)) := Lib.hid (by rw [HFE.out])
              have HFL : Hid ((flush D l n fr).length ≤ 64 * (i + 1)) := Lib.hid (by rw [HFE.out, List.length_append, List.length_range']; omega)
              obtain ⟨L, hL⟩ : ∃ L, L = ints (l ++ List.range' F j) := ⟨_, rfl⟩
              rw [← hL] at HOJ HOF hlj
              clear hL
              by_cases a1 : F + j ≤ n
              · have t1 : decide ((F : Int) + (j : Int) ≤ (n : Int)) = true := decide_eq_true (by omega)
                by_cases a2 : F + j < 64
                · have t2 : decide ((F : Int) + (j : Int) < 64) = true := decide_eq_true (by omega)
                  rw [HOFF.out j hjm a1 a2] at hd
                  go_wp2
                  refine ⟨⟨i + 1, flush D l n fr, 0, -1, by go_num, rfl, rfl, by omega, by omega, by omega, by omega, HFL.out, by rw [← HOF.out]; exact HOJ.out, HBJ.out, HFX.out, fun h => (HQ.out h).elim, fun _ => HN.out⟩, ?_⟩
                  simp [intOf]; omega
                · have t2 : decide ((F : Int) + (j : Int) < 64) = false := decide_eq_false (by omega)
                  go_wp2
                  refine ⟨⟨i + 1, flush D l n fr, 0, -1, by go_num, rfl, rfl, by omega, by omega, by omega, by omega, HFL.out, by rw [← HOF.out]; exact HOJ.out, HBJ.out, HFX.out, fun h => (HQ.out h).elim, fun _ => HN.out⟩, ?_⟩
                  simp [intOf]; omega
              · have t1 : decide ((F : Int) + (j : Int) ≤ (n : Int)) = false := decide_eq_false (by omega)
                go_wp2
                refine ⟨⟨i + 1, flush D l n fr, 0, -1, by go_num, rfl, rfl, by omega, by omega, by omega, by omega, HFL.out, by rw [← HOF.out]; exact HOJ.out, HBJ.out, HFX.out, fun h => (HQ.out h).elim, fun _ => HN.out⟩, ?_⟩
                simp [intOf]; omega
        · skip
          have HF := Lib.hid (HFP.out hfr)
          have f1 : decide (fr < 0) = false := decide_eq_false hfr
          clear hfr HFN HFP
          go_wp2
          go_loopw [8, 4] (fun kv lv wj => ∃ j : Nat, kv = .int .i64 ((F : Int) + (j : Int)) ∧ j ≤ M ∧ Own (.int .i64) w.heap.size 3 lv (ints (l ++ List.range' F j)) wj ∧ Below w.heap.size w wj) (fun kv _ _ => M + F - (intOf kv).toNat)
          case atStart => exact ⟨0, by rw [HF.out]; simp, by omega, by simpa using HO.out, HB.out⟩
          case round =>
            obtain ⟨j, rfl, hj, hoj, hbj⟩ := hrel
            have HOJ := Lib.hid hoj
            have HBJ := Lib.hid hbj
            clear hoj hbj
            have hlj : (ints (l ++ List.range' F j)).length ≤ 200000 := by rw [ints_length, List.length_append, List.length_range']; omega
            by_cases hjm : j < M
            · obtain ⟨d0, a1, a2⟩ := HON.out j hjm
              have t1 : decide ((F : Int) + (j : Int) ≤ (n : Int)) = true := decide_eq_true (by omega)
              have t2 : decide ((F : Int) + (j : Int) < 64) = true := decide_eq_true (by omega)
              rw [d0] at hd
              have HE : Hid (ints (l ++ List.range' F (j + 1)) = ints (l ++ List.range' F j) ++ [(F : Int) + (j : Int)]) := Lib.hid (by rw [ints_snoc]; simp)
              obtain ⟨L, hL⟩ : ∃ L, L = ints (l ++ List.range' F j) := ⟨_, rfl⟩
              rw [← hL] at HOJ HE hlj
              clear hL d0
              go_wp2_with (first
                | (at_builtin; refine wpList_append_src rfl (.tmp 72) (.tmp 74) 22 rfl i0 _ 8 Tryd.underlying22 HI.out HZ0.out HZ1.out HZ2.out rfl (fun _ => rfl) rfl (HOJ.out.alloc _) _ 1 1 [(F : Int) + (j : Int)] rfl rfl (one_int _ rfl rfl) (by intro h; cases h) (by omega) (by unfold maxLen; omega) ?_; intro v4 w4 o4 b4)
                | fail)
              go_roundw
              case rel => exact ⟨j + 1, by go_num, by omega, by rw [HE.out]; exact o4, (HBJ.out.alloc HBJ.out.size _).trans b4⟩
              case measure => simp [intOf]; omega
            · obtain rfl : j = M := by omega
              have HOF : Hid (ints (l ++ List.range' F j) = ints (flush D l n fr)) := Lib.hid (by rw [HFE.out])
              have HFL : Hid ((flush D l n fr).length ≤ 64 * (i + 1)) := Lib.hid (by rw [HFE.out, List.length_append, List.length_range']; omega)
              obtain ⟨L, hL⟩ : ∃ L, L = ints (l ++ List.range' F j) := ⟨_, rfl⟩
              rw [← hL] at HOJ HOF hlj
              clear hL
              by_cases a1 : F + j ≤ n
              · have t1 : decide ((F : Int) + (j : Int) ≤ (n : Int)) = true := decide_eq_true (by omega)
                by_cases a2 : F + j < 64
                · have t2 : decide ((F : Int) + (j : Int) < 64) = true := decide_eq_true (by omega)
                  rw [HOFF.out j hjm a1 a2] at hd
                  go_wp2
                  refine ⟨⟨i + 1, flush D l n fr, 0, -1, by go_num, rfl, rfl, by omega, by omega, by omega, by omega, HFL.out, by rw [← HOF.out]; exact HOJ.out, HBJ.out, HFX.out, fun h => (HQ.out h).elim, fun _ => HN.out⟩, ?_⟩
                  simp [intOf]; omega
                · have t2 : decide ((F : Int) + (j : Int) < 64) = false := decide_eq_false (by omega)
                  go_wp2
                  refine ⟨⟨i + 1, flush D l n fr, 0, -1, by go_num, rfl, rfl, by omega, by omega, by omega, by omega, HFL.out, by rw [← HOF.out]; exact HOJ.out, HBJ.out, HFX.out, fun h => (HQ.out h).elim, fun _ => HN.out⟩, ?_⟩
                  simp [intOf]; omega
              · have t1 : decide ((F : Int) + (j : Int) ≤ (n : Int)) = false := decide_eq_false (by omega)
                go_wp2
                refine ⟨⟨i + 1, flush D l n fr, 0, -1, by go_num, rfl, rfl, by omega, by omega, by omega, by omega, HFL.out, by rw [← HOF.out]; exact HOJ.out, HBJ.out, HFX.out, fun h => (HQ.out h).elim, fun _ => HN.out⟩, ?_⟩
                simp [intOf]; omega
    · have hlR : l = R := hq (by omega)
      subst hlR
      have HPS := Lib.hid (HPS.out HX.out)
      clear hp hq
      obtain ⟨ao, cap, rfl, hr, hn2, hc1, hc2⟩ := HO.out.value
      have HRD := Lib.hid hr
      have HBI : Hid (∀ x ∈ ints l, 0 ≤ x ∧ x < 64) := Lib.hid (by
        intro x hx
        obtain ⟨j, hj, rfl⟩ := List.mem_map.1 hx
        have := HX.out j hj
        simp only [Int.ofNat_eq_natCast]
        omega)
      have hln : (ints l).length ≤ 1000000 := by rw [ints_length]; omega
      have HNI : Hid (nats (ints l) = l) := Lib.hid (nats_ints l)
      have C := Lib.hid (fun w1 (h : Reads (.int .i64) w1 ao (ints l)) => rset_any ao (ints l).length cap (ints l) w1 rfl (by omega) h HBI.out)
      rw [HNI.out] at C
      have hS : setOf l < 18446744073709551616 := setOf_lt _ HX.out
      obtain ⟨x, hx⟩ : ∃ x : Int, x = (setOf l : Int) := ⟨_, rfl⟩
      have E := Lib.hid (fun w => rshow_any (setOf l) hS x hx w)
      rw [← hx] at C
      obtain ⟨L, hL⟩ : ∃ L, L = showT (mem (setOf l)) := ⟨_, rfl⟩
      rw [← hL] at E HPS
      obtain ⟨Z, hZ⟩ : ∃ Z, Z = (⟨L.toArray⟩ : ByteArray) := ⟨_, rfl⟩
      rw [← hZ] at E
      have hZd : Z.data.toList = L := by rw [hZ]
      have n1 : decide ((i : Int) ≤ ((T.size : Nat) : Int)) = false := decide_eq_false (by omega)
      by_cases h : L = T.data.toList
      · rw [if_pos h, if_pos h] at HPS
        have t2 : (Z.toList == T.toList) = true := by
          rw [beq_iff_eq, Lib.toList_data, Lib.toList_data, hZd, h]
        have HR : Hid (x = (PS : Int) ∧ 0 = PE) := Lib.hid ⟨by rw [← HPS.out.1, hx], HPS.out.2⟩
        clear hx hL hZ h hZd hr hn2 hc1 HO HPS hd
        go_wp2_with (first
          | (go_at_call 28; (with_reducible refine (C.out _ HRD.out).mono ?_); rintro e w' ⟨rfl, rfl⟩)
          | (go_at_call 26; (with_reducible refine (E.out _).mono ?_); rintro e w2 ⟨rfl, p2⟩)
          | fail)
        go_ret2
        exact ⟨by rw [← HR.out.1, ← HR.out.2]; rfl, p2.from HB.out⟩
      · rw [if_neg h, if_neg h] at HPS
        have t2 : (Z.toList == T.toList) = false := by
          rw [beq_eq_false_iff_ne, Lib.toList_data, Lib.toList_data, hZd]; exact h
        have HR : Hid ((0 : Int) = (PS : Int) ∧ 90 = PE) := Lib.hid ⟨by rw [← HPS.out.1]; rfl, HPS.out.2⟩
        clear hx hL hZ h hZd hr hn2 hc1 HO HPS hd
        go_wp2_with (first
          | (go_at_call 28; (with_reducible refine (C.out _ HRD.out).mono ?_); rintro e w' ⟨rfl, rfl⟩)
          | (go_at_call 26; (with_reducible refine (E.out _).mono ?_); rintro e w2 ⟨rfl, p2⟩)
          | fail)
        go_ret2
        exact ⟨by rw [← HR.out.1, ← HR.out.2]; rfl, p2.from HB.out⟩

end Go.Proofs.YtgneleembnchfaaDoor.Node
