/-
  Joined out of: The walk of the document's own unquoting. Tokens as data: their cells; the same tokens or not. Layer 5, plain: rows of runes, runs, numbers, texts, tokens. The walks of the document's own runs of runes, numbers. The walks of the document's own numbers and texts.
-/
import Derived.Test.YtdkngidangfkiaaGreatDoorJb01
import Derived.BigQuiet
import Derived.Laws.Cover4
namespace Go.Proofs.YtdkngidangfkiaaGreatDoor.Runes
open Go.RowKit
open Base Bld
set_option linter.unusedVariables false
theorem str_eq (a b : ByteArray) : (a.toList == b.toList) = decide (a = b) := by
  rw [Bool.eq_iff_iff, beq_iff_eq, decide_eq_true_iff]
  constructor
  · intro h; rw [Lib.toList_data, Lib.toList_data] at h; apply ByteArray.ext; exact Array.toList_inj.1 h
  · intro h; rw [h]
theorem ckE_good (s : ByteArray) : ckE s = 0 ↔ Good s.data.toList := by
  unfold ckE Good
  rw [← ps_zero]
  rcases chk_good 0 (ps s 0) with ⟨a, _, c⟩ | ⟨a, _, _, d⟩
  · rw [a]; simp; exact fun r p h => c (r, p) h
  · rw [a]; simp only [if_true]
    constructor
    · intro h; omega
    · intro h; exact absurd h d
theorem ofList_data (l : List UInt8) : (⟨l.toArray⟩ : ByteArray).data.toList = l := rfl
def uqS (s : ByteArray) : ByteArray := if ckE s = 0 then ⟨((uq s.data.toList).getD []).toArray⟩ else ⟨#[]⟩
def uqE (s : ByteArray) : Int := if ckE s = 0 then (if (uq s.data.toList).isSome = true then 0 else 50) else 40
theorem uq_bad {s : ByteArray} (h : ckE s = 40) : ⟨#[]⟩ = uqS s ∧ 40 = uqE s := by
  unfold uqS uqE; rw [if_neg (by omega), if_neg (by omega)]; exact ⟨rfl, rfl⟩
theorem uq_no {s : ByteArray} (h : ckE s = 0) (hu : uq s.data.toList = none) : ⟨#[]⟩ = uqS s ∧ 50 = uqE s := by
  unfold uqS uqE; rw [if_pos h, if_pos h, hu]; exact ⟨rfl, rfl⟩
theorem uq_yes {s : ByteArray} {u : List UInt8} (h : ckE s = 0) (hu : uq s.data.toList = some u) : ⟨u.toArray⟩ = uqS s ∧ 0 = uqE s := by
  unfold uqS uqE; rw [if_pos h, if_pos h, hu]; exact ⟨rfl, rfl⟩
def D (s : ByteArray) (j : Nat) : List UInt8 := (s.data.toList.take (s.size - 1)).drop j
theorem D_one (s : ByteArray) : D s 1 = inner s.data.toList := by
  unfold D inner
  rw [Lib.size_eq]
  cases h : s.data.toList with
  | nil => rfl
  | cons b t => simp [List.dropLast_eq_take, List.drop_take]
theorem D_end (s : ByteArray) (j : Nat) (h : ¬ j + 1 < s.size) : D s j = [] := by
  unfold D; exact List.drop_eq_nil_of_le (by simp; omega)
theorem D_step (s : ByteArray) (j : Nat) (h : j + 1 < s.size) : D s j = s[j]'(by omega) :: D s (j + 1) := by
  have hl : j < (s.data.toList.take (s.size - 1)).length := by rw [List.length_take, ← Lib.size_eq]; omega
  unfold D
  rw [List.drop_eq_getElem_cons hl, List.getElem_take]
  rfl
theorem skp_same {s : ByteArray} {zs : List UInt8} (h : zs = skp (inner s.data.toList)) (hE : ckE s = 0) :
    (∃ u, uq s.data.toList = some u ∧ zs = u ∧ ckE ⟨zs.toArray⟩ = 0 ∧ qtS ⟨zs.toArray⟩ = s) ∨ (uq s.data.toList = none ∧ (ckE ⟨zs.toArray⟩ = 40 ∨ ckE ⟨zs.toArray⟩ = 0 ∧ qtS ⟨zs.toArray⟩ ≠ s)) := by
  cases hu : uq s.data.toList with
  | some u =>
    have h1 := uq_some hu
    have h2 := skp_uq hu
    obtain rfl : zs = u := by rw [h, h2]
    have hg : Good zs := by rw [← good_qt, h1, ← ckE_good]; exact hE
    have hz : ckE ⟨zs.toArray⟩ = 0 := by rw [ckE_good]; exact hg
    refine .inl ⟨zs, rfl, rfl, hz, ?_⟩
    unfold qtS
    rw [if_pos hz, ofList_data, h1]
  | none =>
    refine .inr ⟨rfl, ?_⟩
    rcases ckE_or ⟨zs.toArray⟩ with hz | hz
    · refine .inr ⟨hz, fun hq => ?_⟩
      unfold qtS at hq
      rw [if_pos hz, ofList_data] at hq
      have h3 := uq_qt zs
      rw [← hq, ofList_data] at hu
      rw [hu] at h3
      cases h3
    · exact .inl hz
set_option maxRecDepth 100000 in
set_option maxHeartbeats 2000000 in
theorem runquote_any (s : ByteArray) (hs : s.size ≤ 1000000) (w : World) :
    Calls Tryz.prog 179 #[.string s] w fun e w' => e = .returned (.tuple #[.string (uqS s), .int .i64 (uqE s)]) ∧ Below w.heap.size w w' := by
  have c1 := fun w => rcheck_any s hs w
  rcases ckE_or s with hE | hE
  · simp only [hE] at c1
    have C1 := Lib.hid c1
    have HE := Lib.hid hE
    obtain ⟨i0, hi, hz0, hz1, hz2⟩ := info_parts info_u8
    have HI := Lib.hid hi
    have HZ0 := Lib.hid hz0
    have HZ1 := Lib.hid hz1
    have HZ2 := Lib.hid hz2
    clear hi hz0 hz1 hz2 c1 hE
    go_enter Tryz.func179, Tryz.ntmps179
    go_wp2_with (first | (go_at_call 48; (with_reducible refine (C1.out _).mono ?_); rintro e w1 ⟨rfl, p1⟩) | fail)
    have P1 := Lib.hid p1
    clear p1
    go_loopw [6, 7] (fun v i wr => ∃ (j : Nat) (zs : List UInt8), i = .int .i64 (j : Int) ∧ 1 ≤ j ∧ (j = 1 ∨ j + 1 ≤ s.size) ∧ Own Base.u8 w.heap.size 5 v zs wr ∧ zs ++ skp (D s j) = skp (D s 1) ∧ zs.length ≤ j ∧ Below w.heap.size w wr) (fun _ i _ => s.size - (intOf i).toNat)
    case atStart => exact ⟨1, [], rfl, Nat.le_refl _, .inl rfl, Own.nil P1.out.size, rfl, Nat.zero_le _, P1.out⟩
    case round =>
      obtain ⟨j, zs, rfl, hj1, hj, ho, hc, hzl, hb⟩ := hrel
      have HO := Lib.hid ho
      have HB := Lib.hid hb
      obtain ⟨ao, cap, rfl, _, _, _, _⟩ := ho.value
      clear hb
      by_cases hp : j + 1 < s.size
      · rw [D_step s j hp] at hc
        by_cases hA : s[j].toNat = 92
        · have h92 : s[j] = 92 := by apply UInt8.toNat_inj.1; rw [hA]; rfl
          have hb1 : ((s[j].toNat : Int) == 92) = true := by rw [beq_iff_eq]; omega
          by_cases hp2 : j + 2 < s.size
          · rw [D_step s (j + 1) hp2, skp, if_pos h92] at hc
            have HC : Hid ((zs ++ [s[j + 1]]) ++ skp (D s (j + 2)) = skp (D s 1)) := Lib.hid (by rw [← hc]; simp)
            have HX : Hid (Value.int .u8 (s[j + 1].toNat : Int) = Base.u8 s[j + 1]) := Lib.hid rfl
            clear hc ho h92
            go_wp2_with (first
              | (at_builtin; refine wpList_append_src rfl (.tmp 39) (.tmp 43) 44 rfl i0 _ 1 Tryz.underlying44 HI.out HZ0.out HZ1.out HZ2.out rfl (fun _ => rfl) rfl (HO.out.alloc _) _ 1 1 [s[j + 1]] rfl rfl (one_of _ rfl HX.out) (by intro h; cases h) (by omega) (by unfold maxLen; omega) ?_; intro v4 w4 o4 b4)
              | fail)
            refine ⟨⟨j + 2, zs ++ [s[j + 1]], by go_num, by omega, .inr (by omega), o4, HC.out, by simp; omega, (HB.out.alloc HO.out.2 _).trans b4⟩, ?_⟩
            simp [intOf]; omega
          · rw [D_end s (j + 1) (by omega), skp] at hc
            have HC := Lib.hid hc
            have HX : Hid (Value.int .u8 92 = Base.u8 s[j]) := Lib.hid (by rw [h92]; rfl)
            clear hc ho h92
            go_wp2_with (first
              | (at_builtin; refine wpList_append_src rfl (.tmp 39) (.tmp 43) 44 rfl i0 _ 1 Tryz.underlying44 HI.out HZ0.out HZ1.out HZ2.out rfl (fun _ => rfl) rfl (HO.out.alloc _) _ 1 1 [s[j]] rfl rfl (one_of _ rfl HX.out) (by intro h; cases h) (by omega) (by unfold maxLen; omega) ?_; intro v4 w4 o4 b4)
              | fail)
            refine ⟨⟨j + 1, zs ++ [s[j]], by go_num, by omega, .inr (by omega), o4, by rw [D_end s (j + 1) (by omega), skp, List.append_nil]; exact HC.out, by simp; omega, (HB.out.alloc HO.out.2 _).trans b4⟩, ?_⟩
            simp [intOf]; omega
        · have h92 : s[j] ≠ 92 := by intro h; exact hA (by rw [h]; rfl)
          have hb1 : ((s[j].toNat : Int) == 92) = false := by rw [beq_eq_false_iff_ne]; omega
          rw [skp_cons h92] at hc
          have HC : Hid ((zs ++ [s[j]]) ++ skp (D s (j + 1)) = skp (D s 1)) := Lib.hid (by rw [← hc]; simp)
          have HX : Hid (Value.int .u8 (s[j].toNat : Int) = Base.u8 s[j]) := Lib.hid rfl
          clear hc ho h92
          go_wp2_with (first
            | (at_builtin; refine wpList_append_src rfl (.tmp 39) (.tmp 43) 44 rfl i0 _ 1 Tryz.underlying44 HI.out HZ0.out HZ1.out HZ2.out rfl (fun _ => rfl) rfl (HO.out.alloc _) _ 1 1 [s[j]] rfl rfl (one_of _ rfl HX.out) (by intro h; cases h) (by omega) (by unfold maxLen; omega) ?_; intro v4 w4 o4 b4)
            | fail)
          refine ⟨⟨j + 1, zs ++ [s[j]], by go_num, by omega, .inr (by omega), o4, HC.out, by simp; omega, (HB.out.alloc HO.out.2 _).trans b4⟩, ?_⟩
          simp [intOf]; omega
      · rw [D_end s j hp, skp, List.append_nil, D_one] at hc
        have hcv := own_conv (P := Tryz.prog) ho 44 9 5 Tryz.underlying44 Tryz.underlying5 Tryz.underlying9
        obtain ⟨z, hz⟩ : ∃ z : ByteArray, z = ⟨zs.toArray⟩ := ⟨_, rfl⟩
        rw [← hz] at hcv
        have hzs : z.size ≤ 1000000 := by rw [hz, Lib.size_eq, ofList_data]; omega
        have c2 := fun w => rquote_any z hzs w
        rcases skp_same hc HE.out with ⟨u, hu, rfl, hz0, hq⟩ | ⟨hu, hz0⟩
        · have HA := Lib.hid (uq_yes HE.out hu)
          rw [← hz] at HA hz0 hq
          simp only [hz0, hq] at c2
          have C2 := Lib.hid c2
          have hne : (s.toList == s.toList) = true := by rw [beq_iff_eq]
          have HZ := Lib.hid hz
          clear c2 hc ho hz hz0 hq hu
          go_wp2_with (first | (go_at_call 25; (with_reducible refine (C2.out _).mono ?_); rintro e w2 ⟨rfl, p2⟩; have hcv2 := own_conv (P := Tryz.prog) (HO.out.below p2) 44 9 5 Tryz.underlying44 Tryz.underlying5 Tryz.underlying9; rw [← HZ.out] at hcv2) | fail)
          go_ret2
          exact ⟨ret_si HA.out.1 HA.out.2, p2.from HB.out⟩
        · have HA := Lib.hid (uq_no HE.out hu)
          rw [← hz] at hz0
          rcases hz0 with hz0 | ⟨hz0, hq⟩
          · simp only [hz0] at c2
            have C2 := Lib.hid c2
            clear c2 hc ho hz hz0 hu
            go_wp2_with (first | (go_at_call 25; (with_reducible refine (C2.out _).mono ?_); rintro e w2 ⟨rfl, p2⟩) | fail)
            go_ret2
            exact ⟨ret_si HA.out.1 HA.out.2, p2.from HB.out⟩
          · obtain ⟨q, hq2⟩ : ∃ q, q = qtS z := ⟨_, rfl⟩
            rw [← hq2] at hq
            simp only [hz0, ← hq2] at c2
            have C2 := Lib.hid c2
            have hne : (q.toList == s.toList) = false := by rw [str_eq, decide_eq_false hq]
            clear c2 hc ho hz hz0 hu hq hq2
            go_wp2_with (first | (go_at_call 25; (with_reducible refine (C2.out _).mono ?_); rintro e w2 ⟨rfl, p2⟩) | fail)
            go_ret2
            exact ⟨ret_si HA.out.1 HA.out.2, p2.from HB.out⟩
  · have HA := Lib.hid (uq_bad hE)
    simp only [hE] at c1
    have C1 := Lib.hid c1
    clear c1 hE
    go_enter Tryz.func179, Tryz.ntmps179
    go_wp2_with (first | (go_at_call 48; (with_reducible refine (C1.out _).mono ?_); rintro e w1 ⟨rfl, p1⟩) | fail)
    go_ret2
    exact ⟨ret_si HA.out.1 HA.out.2, p1⟩
end Go.Proofs.YtdkngidangfkiaaGreatDoor.Runes
namespace Go.Proofs.YtdkngidangfkiaaGreatDoor.Lex
open Go.RowKit
open Base Runes
set_option linter.unusedVariables false
abbrev Tok := Int × ByteArray × Int × Int
def tkC (t : Tok) : List Value := [.int .i64 t.1, .string t.2.1, .int .i64 t.2.2.1, .int .i64 t.2.2.2]
theorem tkC_length (t : Tok) : (tkC t).length = 4 := rfl
theorem tok_cells {w : World} {a : Option Addr} {zs : List Tok} (h : ReadsS 4 tkC w a zs) {j : Nat} (hj : j < zs.length) :
    ∃ b off, a = some ⟨b, off, none⟩ ∧ w.cell? ⟨b, off + j * 4, none⟩ = some (.int .i64 zs[j].1) ∧ w.cell? ⟨b, off + j * 4 + 1, none⟩ = some (.string zs[j].2.1) ∧
      w.cell? ⟨b, off + j * 4 + 2, none⟩ = some (.int .i64 zs[j].2.2.1) ∧ w.cell? ⟨b, off + j * 4 + 3, none⟩ = some (.int .i64 zs[j].2.2.2) := by
  obtain ⟨b, off, ha, hc⟩ := h.at_ hj
  exact ⟨b, off, ha, hc 0 (by decide), hc 1 (by decide), hc 2 (by decide), hc 3 (by decide)⟩
end Go.Proofs.YtdkngidangfkiaaGreatDoor.Lex
namespace Go.Proofs.YtdkngidangfkiaaGreatDoor.Lex
open Go.RowKit
open Base Runes
set_option linter.unusedVariables false
def rV (r : Nat) : Value := .int .i32 (r : Int)
def rn (s : ByteArray) : List Nat := (ps s 0).map (·.1)
theorem rn_length (s : ByteArray) : (rn s).length = cn s := by unfold rn cn; rw [List.length_map]
def encL (l : List Nat) : List UInt8 := l.flatMap fun r : Nat => Lib.encodeRune (r : Int)
def encB (l : List Nat) : ByteArray := ⟨(encL l).toArray⟩
theorem encL_append (a b : List Nat) : encL (a ++ b) = encL a ++ encL b := by simp [encL, List.flatMap_append]
theorem encL_length (l : List Nat) : (encL l).length ≤ 4 * l.length := by
  induction l with
  | nil => simp [encL]
  | cons r t ih =>
    have h1 : (Lib.encodeRune (r : Int)).length ≤ 4 := by have := (Lib.runeCells_le (r : Int)).2; rw [Lib.runeCells_length] at this; exact this
    unfold encL at ih ⊢
    rw [List.flatMap_cons, List.length_append, List.length_cons]; omega
theorem encB_size (l : List Nat) : (encB l).size ≤ 4 * l.length := by rw [Lib.size_eq]; exact encL_length l
set_option maxRecDepth 100000 in
theorem encode_is (r : Nat) : (Utf8.encode (r : Int)).data.toList = Lib.encodeRune (r : Int) := by
  have hb : ∀ (a : Nat) (z : Int), z = (a : Int) → UInt8.ofNat a = z.toNat.toUInt8 := fun a z h => by subst h; rfl
  unfold Utf8.encode Lib.encodeRune
  by_cases hv : Utf8.valid (r : Int) = true
  · have hv2 := hv
    simp only [Utf8.valid, Bool.or_eq_true, Bool.and_eq_true, decide_eq_true_eq] at hv2
    rw [if_pos hv]
    simp only [Int.toNat_natCast]
    by_cases h1 : r < 128
    · rw [if_pos h1, Lib.encodeRuneZ_one (by omega) (by omega)]
      show [UInt8.ofNat r] = _
      rw [hb r r rfl]; rfl
    · by_cases h2 : r < 2048
      · rw [if_neg h1, if_pos h2, Lib.encodeRuneZ_two (by omega) (by omega)]
        show [UInt8.ofNat (192 + r / 64), UInt8.ofNat (128 + r % 64)] = _
        rw [hb _ (192 + (r : Int) / 64) (by omega), hb _ (128 + (r : Int) % 64) (by omega)]; rfl
      · by_cases h3 : r < 65536
        · rw [if_neg h1, if_neg h2, if_pos h3, Lib.encodeRuneZ_three (by omega)]
          show [UInt8.ofNat (224 + r / 4096), UInt8.ofNat (128 + r / 64 % 64), UInt8.ofNat (128 + r % 64)] = _
          rw [hb _ (224 + (r : Int) / 4096) (by omega), hb _ (128 + (r : Int) / 64 % 64) (by omega), hb _ (128 + (r : Int) % 64) (by omega)]; rfl
        · rw [if_neg h1, if_neg h2, if_neg h3, Lib.encodeRuneZ_four (by omega) (by omega)]
          show [UInt8.ofNat (240 + r / 262144), UInt8.ofNat (128 + r / 4096 % 64), UInt8.ofNat (128 + r / 64 % 64), UInt8.ofNat (128 + r % 64)] = _
          rw [hb _ (240 + (r : Int) / 262144) (by omega), hb _ (128 + (r : Int) / 4096 % 64) (by omega), hb _ (128 + (r : Int) / 64 % 64) (by omega), hb _ (128 + (r : Int) % 64) (by omega)]; rfl
  · have hv2 := hv
    simp only [Utf8.valid, Bool.or_eq_true, Bool.and_eq_true, decide_eq_true_eq] at hv2
    rw [if_neg hv, Lib.encodeRuneZ_bad (by omega)]
    decide
theorem runesBytes_is (l : List Nat) : runesBytes (l.map fun r : Nat => (r : Int)) = encB l := by
  have h : ∀ (l : List Nat) (s : ByteArray), (((l.map fun r : Nat => (r : Int)).foldl (fun r n => r ++ Utf8.encode n) s)).data.toList = s.data.toList ++ encL l := by
    intro l
    induction l with
    | nil => intro s; simp [encL]
    | cons r t ih =>
      intro s
      rw [List.map_cons, List.foldl_cons, ih, ByteArray.data_append, Array.toList_append, encode_is, List.append_assoc]
      rfl
  apply ByteArray.ext
  apply Array.toList_inj.1
  unfold runesBytes encB
  rw [h]; rfl
theorem run_conv_runes {P : Program} {w : World} {ao : Option Addr} {R : List Nat} (h : Reads rV w ao R) (src dst e : TypeId) (hs : P.underlying src = some (.slice e)) (he : P.underlying e = some (.int .i32)) (hd : P.underlying dst = some .string) (n cap : Nat) (hn : R.length = n) :
    (convert src dst (.slice ao n cap)).run P w = .ok (.string (encB R)) w := by
  subst hn
  cases ao with
  | none =>
    have : R = [] := by
      rcases h with h | ⟨b, off, h, _⟩
      · exact h
      · cases h
    subst this
    exact run_convert_runes_nil w src dst e _ _ hs he hd
  | some a =>
    have hc : ∀ j, j < (R.map fun r : Nat => (r : Int)).length → w.cell? (a.add j) = some (.int .i32 ((R.map fun r : Nat => (r : Int)).getD j 0)) := fun j hj => by
      rw [List.length_map] at hj
      obtain ⟨b, off, ha, hc⟩ := h.at_ hj
      obtain rfl : a = ⟨b, off, none⟩ := by simpa using ha
      rw [Go.WideShapes.add_plain, hc]
      simp [rV, List.getD, List.getElem?_eq_getElem hj]
    have := run_convert_runes (P := P) w src dst e a R.length cap (R.map fun r : Nat => (r : Int)) (by simp) hs he hd hc
    rw [List.take_of_length_le (by simp), runesBytes_is] at this
    exact this
def cutR (R : List Nat) (a b : Nat) : List Nat := (R.drop a).take (b - a)
theorem cutR_length (R : List Nat) (a b : Nat) (h : b ≤ R.length) : (cutR R a b).length = b - a := by simp [cutR]; omega
theorem reads_cut {w : World} {b off : Nat} {R : List Nat} (h : Reads rV w (some ⟨b, off, none⟩) R) (i j : Nat) (hj : j ≤ R.length) : Reads rV w (some ⟨b, off + i, none⟩) (cutR R i j) := by
  refine .inr ⟨b, off + i, rfl, fun k hk => ?_⟩
  rw [cutR_length R i j hj] at hk
  obtain ⟨b', off', ha, hc⟩ := h.at_ (k := i + k) (by omega)
  obtain ⟨rfl, rfl⟩ : b = b' ∧ off = off' := by simpa using ha
  rw [Nat.add_assoc, hc]
  simp [cutR]
def wordR (r : Nat) : Bool := decide (cls (r : Int) = 2 ∨ cls (r : Int) = 3 ∨ r = 45 ∨ r = 95)
def smallR (r : Nat) : Bool := decide ((48 ≤ r ∧ r ≤ 57) ∨ (97 ≤ r ∧ r ≤ 122))
def contR (first r : Nat) : Bool := if cls (first : Int) = 2 then wordR r else if cls (first : Int) = 3 then smallR r else true
def runN (q : Nat → Bool) : List Nat → Nat
  | [] => 0
  | r :: t => if q r = true then runN q t + 1 else 0
theorem runN_le (q : Nat → Bool) (l : List Nat) : runN q l ≤ l.length := by
  induction l with
  | nil => simp [runN]
  | cons r t ih => rw [runN, List.length_cons]; split <;> omega
def endR (R : List Nat) (at_ : Nat) : Nat := at_ + 1 + runN (contR (R.getD at_ 0)) (R.drop (at_ + 1))
theorem endR_le (R : List Nat) (at_ : Nat) (h : at_ < R.length) : at_ < endR R at_ ∧ endR R at_ ≤ R.length := by
  have := runN_le (contR (R.getD at_ 0)) (R.drop (at_ + 1))
  rw [List.length_drop] at this
  unfold endR; omega
def anyL (l : List Nat) : Bool := l.any fun r : Nat => decide (97 ≤ r)
def numF : Int → List Nat → Int
  | n, [] => n
  | n, r :: t => if r < 48 ∨ 57 < r then -1 else numF (10 * n + ((r : Int) - 48)) t
def numR (l : List Nat) : Int := if l.length = 0 ∨ 9 < l.length ∨ (1 < l.length ∧ l.getD 0 0 = 48) then -1 else numF 0 l
def scn : List Nat → Nat × Nat
  | [] => (2, 0)
  | [r] => if r = 34 then (0, 0) else if cls (r : Int) = 0 then (1, 0) else (2, 1)
  | r :: c :: t => if r = 34 then (0, 0) else if cls (r : Int) = 0 then (1, 0) else if r = 92 then (if cls (c : Int) = 0 then (1, 1) else ((scn t).1, (scn t).2 + 2)) else ((scn (c :: t)).1, (scn (c :: t)).2 + 1)
def zT : Tok := (0, ⟨#[]⟩, 0, 0)
def textR (R : List Nat) (at_ : Nat) : Tok × Nat × Nat × Int :=
  if (scn (R.drop (at_ + 1))).1 = 1 then (zT, 0, at_ + 1 + (scn (R.drop (at_ + 1))).2, 40)
  else if (scn (R.drop (at_ + 1))).1 = 0 then
    (if uqE (encB (cutR R at_ (at_ + (scn (R.drop (at_ + 1))).2 + 2))) = 0 then ((4, uqS (encB (cutR R at_ (at_ + (scn (R.drop (at_ + 1))).2 + 2))), 0, (at_ : Int)), at_ + (scn (R.drop (at_ + 1))).2 + 2, 0, 0)
     else (zT, 0, at_, 50))
  else (zT, 0, at_, 50)
def oneR (R : List Nat) (at_ : Nat) : Tok × Nat × Nat × Int :=
  if cls (R.getD at_ 0 : Nat) = 0 then (zT, 0, at_, 40)
  else if cls (R.getD at_ 0 : Nat) = 2 then ((1, lowS (encB (cutR R at_ (endR R at_))), 0, (at_ : Int)), endR R at_, 0, 0)
  else if cls (R.getD at_ 0 : Nat) = 3 then
    (if anyL (cutR R at_ (endR R at_)) = true then ((3, encB (cutR R at_ (endR R at_)), 0, (at_ : Int)), endR R at_, 0, 0)
     else if numR (cutR R at_ (endR R at_)) < 0 then (zT, 0, at_, 50) else ((2, ⟨#[]⟩, numR (cutR R at_ (endR R at_)), (at_ : Int)), endR R at_, 0, 0))
  else if R.getD at_ 0 = 34 then textR R at_
  else if R.getD at_ 0 = 61 ∨ R.getD at_ 0 = 58 ∨ R.getD at_ 0 = 44 ∨ R.getD at_ 0 = 45 then ((5, encB (cutR R at_ (at_ + 1)), 0, (at_ : Int)), at_ + 1, 0, 0)
  else (zT, 0, at_, 50)
def toksR : Nat → List Nat → Nat → List Tok → List Tok × Nat × Int
  | 0, R, _, acc => (acc, R.length, 0)
  | f + 1, R, i, acc =>
    if i < R.length then
      (if cls (R.getD i 0 : Nat) = 1 then toksR f R (i + 1) acc
       else if (oneR R i).2.2.2 = 0 then toksR f R (oneR R i).2.1 (acc ++ [(oneR R i).1])
       else ([], (oneR R i).2.2.1, (oneR R i).2.2.2))
    else (acc, R.length, 0)
def tkA (s : ByteArray) : List Tok × Nat × Int := if 400 < s.size then ([], 0, 3) else toksR (rn s).length (rn s) 0 []
end Go.Proofs.YtdkngidangfkiaaGreatDoor.Lex
namespace Go.Proofs.YtdkngidangfkiaaGreatDoor.Lex
open Go.RowKit
open Base Runes
set_option linter.unusedVariables false
theorem info_rune : (Tryz.prog.info? 21).map (fun i => (i.zero, i.size, i.bytes)) = some (some (.int .i32 0), 1, 4) := by kernel_rfl
theorem one_rune {w : World} {n : Nat} {val : Value} (x : Nat) (hn : n = w.heap.size) (hv : val = rV x) : Reads rV (w.alloc (.cells #[val] 21)) (some ⟨n, 0, none⟩) [x] := by
  subst hv; exact reads_one hn x _
set_option maxRecDepth 100000 in
set_option maxHeartbeats 1000000 in
theorem rrunes_any (s : ByteArray) (hs : s.size ≤ 1000000) (w : World) :
    Calls Tryz.prog 114 #[.string s] w fun e w' => ∃ ao cap, e = .returned (.slice ao (rn s).length cap) ∧ Reads rV w' ao (rn s) ∧ (ao = none → cap = 0) ∧ (rn s).length ≤ cap ∧ cap ≤ maxLen ∧ Below w.heap.size w w' := by
  obtain ⟨i0, hi, hz0, hz1, hz2⟩ := info_parts info_rune
  have HI := Lib.hid hi
  have HZ0 := Lib.hid hz0
  have HZ1 := Lib.hid hz1
  have HZ2 := Lib.hid hz2
  clear hi hz0 hz1 hz2
  go_enter Tryz.func114, Tryz.ntmps114
  go_wp2
  go_loopw [3] (fun v wr => ∃ (pos : Nat) (zs : List Nat), wr.heap[w.heap.size]? = some (.stringIter s pos) ∧ Own rV (w.heap.size + 1) 21 v zs wr ∧ Below w.heap.size w wr ∧ zs ++ (ps s pos).map (·.1) = rn s ∧ pos ≤ s.size ∧ zs.length ≤ pos) (fun _ wr => s.size - wr.iterPos w.heap.size)
  case atStart => exact ⟨0, [], World.iter_heap w s 0, Own.nil (by unfold World.iter; simp), below_iter w s 0, rfl, Nat.zero_le _, Nat.le_refl _⟩
  case round =>
    obtain ⟨pos, zs, hit, ho, hb, hc, hp0, hzl⟩ := hrel
    by_cases hp : pos < s.size
    · have hnx : ∀ ty, (Instr.next (.pointer (some ⟨w.heap.size, 0, none⟩)) true ty).run Tryz.prog wr = _ := fun ty => Lib.run_next_any_at wr w.heap.size s pos ty hit hp
      have hwd := ps_width s pos hp
      have hm0 : wr.iterPos w.heap.size = pos := by simp [World.iterPos, hit]
      have ho2 := ho.kept (grown_iterAt wr w.heap.size s (pos + (Utf8.decode s pos).2)) (fun k hk => by cases hk; omega)
      have hit2 := Lib.iterAt_heap wr w.heap.size s pos (pos + (Utf8.decode s pos).2) hit
      have hb2 := Lib.below_iterAt hb (Nat.le_refl _) s (pos + (Utf8.decode s pos).2)
      have hlt := lt_of_heap hit2
      rw [ps_step s pos hp, List.map_cons] at hc
      have HC : Hid ((zs ++ [(Utf8.decode s pos).1]) ++ (ps s (pos + (Utf8.decode s pos).2)).map (·.1) = rn s) := Lib.hid (by rw [← hc]; simp)
      have HO := Lib.hid ho2
      have HT := Lib.hid hit2
      have HB := Lib.hid hb2
      clear hc ho ho2 hit2 hb2 hb
      go_wp2_with (first
        | (at_builtin; refine wpList_append_src rfl (.tmp 11) (.tmp 13) 148 rfl i0 _ 4 Tryz.underlying148 HI.out HZ0.out HZ1.out HZ2.out rfl (fun _ => rfl) rfl (HO.out.alloc _) _ 1 1 [(Utf8.decode s pos).1] rfl rfl (one_rune _ rfl rfl) (by intro h; cases h) (by omega) (by unfold maxLen; omega) ?_; intro v4 w4 o4 b4)
        | fail)
      have ht4 : w4.heap[w.heap.size]? = some (.stringIter s (pos + (Utf8.decode s pos).2)) := by
        rw [b4.block _ (Nat.lt_succ_self _), Lib.alloc_old _ _ _ hlt]; exact HT.out
      refine ⟨⟨_, zs ++ [(Utf8.decode s pos).1], ht4, o4, (HB.out.alloc (by omega) _).trans (b4.mono (by omega)), HC.out, hwd.2.1, by simp; omega⟩, ?_⟩
      have hm4 : w4.iterPos w.heap.size = pos + (Utf8.decode s pos).2 := by simp [World.iterPos, ht4]
      rw [hm0, hm4]; omega
    · have hnx : ∀ ty, (Instr.next (.pointer (some ⟨w.heap.size, 0, none⟩)) true ty).run Tryz.prog wr = _ := fun ty => Lib.run_next_end_at wr w.heap.size s pos ty hit hp
      rw [ps_end s pos hp, List.map_nil, List.append_nil] at hc
      have HB := Lib.hid hb
      have HC := Lib.hid hc
      obtain ⟨ao, cap, rfl, hr, hn, hc1, hc2⟩ := ho.value
      have HR := Lib.hid hr
      have HN := Lib.hid hn
      clear hb hc ho hr hn
      go_wp2
      go_ret
      exact ⟨ao, cap, congrArg (fun n => Ending.returned (.slice ao n cap)) (by rw [HC.out]), by rw [← HC.out]; exact HR.out, HN.out, by rw [← HC.out]; exact hc1, hc2, HB.out⟩
theorem rsmall_any (r : Nat) (w : World) :
    Calls Tryz.prog 178 #[.int .i32 (r : Int)] w fun e w' => e = .returned (.bool (smallR r)) ∧ w = w' := by
  have hsm : smallR r = true ↔ ((48 : Int) ≤ (r : Int) ∧ (r : Int) ≤ 57) ∨ ((97 : Int) ≤ (r : Int) ∧ (r : Int) ≤ 122) := by unfold smallR; rw [decide_eq_true_iff]; omega
  obtain ⟨b, hb⟩ : ∃ b, b = smallR r := ⟨_, rfl⟩
  rw [← hb] at hsm ⊢
  have HS := Lib.hid hsm
  clear hb hsm
  go_enter Tryz.func178, Tryz.ntmps178
  go_wp2
  all_goals
    go_ret
    refine ⟨ret_bool ?_, rfl⟩
    rw [Bool.eq_iff_iff, HS.out]
    first | (simp [*]; done) | (simp [*]; omega) | (simp; omega)
set_option maxHeartbeats 1000000 in
theorem rplain_any (ao : Option Addr) (cap : Nat) (R : List Nat) (w : World) (hl : R.length ≤ maxLen) (hr : Reads rV w ao R) :
    Calls Tryz.prog 153 #[.slice ao R.length cap] w fun e w' => e = .returned (.bool (anyL R)) ∧ w = w' := by
  unfold maxLen at hl
  have HR := Lib.hid hr
  clear hr
  go_enter Tryz.func153, Tryz.ntmps153
  go_wp2
  go_loopw [3] (fun i wr => ∃ k : Nat, i = .int .i64 (k : Int) ∧ k ≤ R.length ∧ anyL (R.drop k) = anyL R ∧ w = wr) (fun i _ => R.length - (intOf i).toNat)
  case atStart => exact ⟨0, rfl, Nat.zero_le _, rfl, rfl⟩
  case round =>
    obtain ⟨k, rfl, hk, ha, rfl⟩ := hrel
    by_cases hp : k < R.length
    · obtain ⟨b, off, rfl, hc⟩ := HR.out.at_ hp
      obtain ⟨x, hx⟩ : ∃ x, x = R[k] := ⟨_, rfl⟩
      rw [← hx] at hc
      unfold rV at hc
      rw [List.drop_eq_getElem_cons hp, ← hx] at ha
      simp only [anyL, List.any_cons] at ha
      by_cases h97 : 97 ≤ x
      · rw [decide_eq_true h97, Bool.true_or] at ha
        have HA : Hid (true = anyL R) := Lib.hid ha
        clear ha
        go_wp2
        go_ret
        exact ⟨ret_bool HA.out, rfl⟩
      · rw [decide_eq_false h97, Bool.false_or] at ha
        have HA : Hid (anyL (R.drop (k + 1)) = anyL R) := Lib.hid ha
        clear ha
        go_wp2
        refine ⟨⟨k + 1, by go_num, by omega, HA.out, by first | rfl | trivial⟩, ?_⟩
        simp [intOf]; omega
    · rw [List.drop_eq_nil_of_le (by omega)] at ha
      have HA : Hid (false = anyL R) := Lib.hid ha
      clear ha
      go_wp2
      go_ret
      exact ⟨ret_bool HA.out, rfl⟩
set_option maxRecDepth 100000 in
set_option maxHeartbeats 2000000 in
theorem rend_any (ao : Option Addr) (cap : Nat) (R : List Nat) (p : Nat) (w : World) (hl : R.length ≤ 1000000) (hp : p < R.length) (hr : Reads rV w ao R) :
    Calls Tryz.prog 151 #[.slice ao R.length cap, .int .i64 (p : Int)] w fun e w' => e = .returned (.int .i64 (endR R p : Nat)) ∧ w = w' := by
  have HR := Lib.hid hr
  clear hr
  obtain ⟨b0, off0, hao, hc0⟩ := HR.out.at_ hp
  obtain ⟨z, hz⟩ : ∃ z, z = R[p] := ⟨_, rfl⟩
  have hgz : R.getD p 0 = z := by rw [hz]; simp [List.getD, List.getElem?_eq_getElem hp]
  rw [← hz] at hc0
  unfold rV at hc0
  subst hao
  have hE : endR R p = p + 1 + runN (contR z) (R.drop (p + 1)) := by unfold endR; rw [hgz]
  obtain ⟨E, hE2⟩ : ∃ E, E = endR R p := ⟨_, rfl⟩
  rw [← hE2] at hE ⊢
  have HE := Lib.hid hE
  clear hE hE2 hz hgz
  go_enter Tryz.func151, Tryz.ntmps151
  go_wp2_with (first | (go_at_call 77; (with_reducible refine (rclass_any _ _).mono ?_); rintro e w' ⟨rfl, rfl⟩) | fail)
  go_loopw [6] (fun i wr => ∃ k : Nat, i = .int .i64 (k : Int) ∧ p + 1 ≤ k ∧ k ≤ R.length ∧ k + runN (contR z) (R.drop k) = E ∧ w = wr) (fun i _ => R.length - (intOf i).toNat)
  case atStart => exact ⟨p + 1, by go_num, Nat.le_refl _, by omega, HE.out.symm, rfl⟩
  case round =>
    obtain ⟨k, rfl, hk1, hk, hE, rfl⟩ := hrel
    by_cases hk2 : k < R.length
    · obtain ⟨b, off, hbo, hc⟩ := HR.out.at_ hk2
      obtain ⟨rfl, rfl⟩ : b0 = b ∧ off0 = off := by simpa using hbo
      obtain ⟨x, hx⟩ : ∃ x, x = R[k] := ⟨_, rfl⟩
      rw [← hx] at hc
      unfold rV at hc
      rw [List.drop_eq_getElem_cons hk2, ← hx, runN] at hE
      have hgo : contR z x = true → k + 1 + runN (contR z) (R.drop (k + 1)) = E := fun h => by rw [if_pos h] at hE; omega
      have hst : contR z x = false → (k : Int) = (E : Nat) := fun h => by rw [h] at hE; simp at hE; omega
      clear hE hx
      by_cases hz2 : cls (z : Int) = 2
      · have hcw : contR z x = wordR x := by unfold contR; rw [if_pos hz2]
        rw [hcw] at hgo hst
        have tz : (cls (z : Int) == 2) = true := by rw [beq_iff_eq]; exact hz2
        have tz3 : (cls (z : Int) == 3) = false := by rw [beq_eq_false_iff_ne]; omega
        by_cases hx2 : cls (x : Int) = 2
        · have HG := Lib.hid (hgo (by unfold wordR; rw [decide_eq_true_iff]; exact .inl hx2))
          have t1 : (cls (x : Int) != 2) = false := by rw [bne_eq_false_iff_eq]; exact hx2
          clear hgo hst hcw hz2
          go_wp2_with (first | (go_at_call 77; (with_reducible refine (rclass_any _ _).mono ?_); rintro e w' ⟨rfl, rfl⟩) | fail)
          refine ⟨⟨k + 1, by go_num, by omega, by omega, HG.out, by first | rfl | trivial⟩, ?_⟩
          simp [intOf]; omega
        · have t1 : (cls (x : Int) != 2) = true := by rw [bne_iff_ne]; exact hx2
          by_cases hx3 : cls (x : Int) = 3
          · have HG := Lib.hid (hgo (by unfold wordR; rw [decide_eq_true_iff]; exact .inr (.inl hx3)))
            have t2 : (cls (x : Int) != 3) = false := by rw [bne_eq_false_iff_eq]; exact hx3
            clear hgo hst hcw hz2
            go_wp2_with (first | (go_at_call 77; (with_reducible refine (rclass_any _ _).mono ?_); rintro e w' ⟨rfl, rfl⟩) | fail)
            refine ⟨⟨k + 1, by go_num, by omega, by omega, HG.out, by first | rfl | trivial⟩, ?_⟩
            simp [intOf]; omega
          · have t2 : (cls (x : Int) != 3) = true := by rw [bne_iff_ne]; exact hx3
            by_cases hx45 : x = 45
            · have HG := Lib.hid (hgo (by unfold wordR; rw [decide_eq_true_iff]; exact .inr (.inr (.inl hx45))))
              have t3 : ((x : Int) != 45) = false := by rw [bne_eq_false_iff_eq]; omega
              clear hgo hst hcw hz2
              go_wp2_with (first | (go_at_call 77; (with_reducible refine (rclass_any _ _).mono ?_); rintro e w' ⟨rfl, rfl⟩) | fail)
              refine ⟨⟨k + 1, by go_num, by omega, by omega, HG.out, by first | rfl | trivial⟩, ?_⟩
              simp [intOf]; omega
            · have t3 : ((x : Int) != 45) = true := by rw [bne_iff_ne]; omega
              by_cases hx95 : x = 95
              · have HG := Lib.hid (hgo (by unfold wordR; rw [decide_eq_true_iff]; exact .inr (.inr (.inr hx95))))
                have t4 : ((x : Int) != 95) = false := by rw [bne_eq_false_iff_eq]; omega
                clear hgo hst hcw hz2
                go_wp2_with (first | (go_at_call 77; (with_reducible refine (rclass_any _ _).mono ?_); rintro e w' ⟨rfl, rfl⟩) | fail)
                refine ⟨⟨k + 1, by go_num, by omega, by omega, HG.out, by first | rfl | trivial⟩, ?_⟩
                simp [intOf]; omega
              · have HS := Lib.hid (hst (by unfold wordR; rw [decide_eq_false_iff_not]; rintro (h | h | h | h) <;> omega))
                have t4 : ((x : Int) != 95) = true := by rw [bne_iff_ne]; omega
                clear hgo hst hcw hz2
                go_wp2_with (first | (go_at_call 77; (with_reducible refine (rclass_any _ _).mono ?_); rintro e w' ⟨rfl, rfl⟩) | fail)
                go_ret
                exact ⟨ret_int HS.out, rfl⟩
      · have tz : (cls (z : Int) == 2) = false := by rw [beq_eq_false_iff_ne]; exact hz2
        by_cases hz3 : cls (z : Int) = 3
        · have tz3 : (cls (z : Int) == 3) = true := by rw [beq_iff_eq]; exact hz3
          have hcw : contR z x = smallR x := by unfold contR; rw [if_neg hz2, if_pos hz3]
          rw [hcw] at hgo hst
          cases hsm : smallR x with
          | true =>
            have HG := Lib.hid (hgo hsm)
            clear hgo hst hcw hz2 hz3
            go_wp2_with (first
              | (go_at_call 77; (with_reducible refine (rclass_any _ _).mono ?_); rintro e w' ⟨rfl, rfl⟩)
              | (go_at_call 178; (with_reducible refine (rsmall_any x _).mono ?_); rintro e w' ⟨rfl, rfl⟩)
              | fail)
            refine ⟨⟨k + 1, by go_num, by omega, by omega, HG.out, by first | rfl | trivial⟩, ?_⟩
            simp [intOf]; omega
          | false =>
            have HS := Lib.hid (hst hsm)
            clear hgo hst hcw hz2 hz3
            go_wp2_with (first
              | (go_at_call 77; (with_reducible refine (rclass_any _ _).mono ?_); rintro e w' ⟨rfl, rfl⟩)
              | (go_at_call 178; (with_reducible refine (rsmall_any x _).mono ?_); rintro e w' ⟨rfl, rfl⟩)
              | fail)
            go_ret
            exact ⟨ret_int HS.out, rfl⟩
        · have tz3 : (cls (z : Int) == 3) = false := by rw [beq_eq_false_iff_ne]; exact hz3
          have HG := Lib.hid (hgo (by unfold contR; rw [if_neg hz2, if_neg hz3]))
          clear hgo hst hz2 hz3
          go_wp2_with (first
            | (go_at_call 77; (with_reducible refine (rclass_any _ _).mono ?_); rintro e w' ⟨rfl, rfl⟩)
            | fail)
          refine ⟨⟨k + 1, by go_num, by omega, by omega, HG.out, by first | rfl | trivial⟩, ?_⟩
          simp [intOf]; omega
    · rw [List.drop_eq_nil_of_le (by omega), runN] at hE
      have HS : Hid ((k : Int) = (E : Nat)) := Lib.hid (by omega)
      clear hE
      go_wp2
      go_ret
      exact ⟨ret_int HS.out, rfl⟩
end Go.Proofs.YtdkngidangfkiaaGreatDoor.Lex
namespace Go.Proofs.YtdkngidangfkiaaGreatDoor.Lex
open Go.RowKit
open Base Runes
set_option linter.unusedVariables false
theorem pow9 (k : Nat) (h : k ≤ 9) : (10 : Int) ^ k ≤ 10 ^ 9 := by
  have : ∀ k : Fin 10, (10 : Int) ^ (k : Nat) ≤ 10 ^ 9 := by decide
  exact this ⟨k, by omega⟩
theorem numF_bound (l : List Nat) (n : Int) (m : Nat) (hn : 0 ≤ n) (hm : n < 10 ^ m) : numF n l < 10 ^ (m + l.length) := by
  induction l generalizing n m with
  | nil => simpa [numF] using hm
  | cons r t ih =>
    rw [numF]
    split
    · have : (0 : Int) < 10 ^ (m + (r :: t).length) := Int.pow_pos (by decide)
      omega
    · have h10 : (10 : Int) ^ (m + 1) = 10 ^ m * 10 := Int.pow_succ ..
      have := ih (10 * n + ((r : Int) - 48)) (m + 1) (by omega) (by omega)
      rw [List.length_cons, show m + (t.length + 1) = m + 1 + t.length by omega]
      exact this
set_option maxRecDepth 100000 in
set_option maxHeartbeats 2000000 in
theorem rnumber_any (ao : Option Addr) (cap : Nat) (R : List Nat) (w : World) (hl : R.length ≤ maxLen) (hr : Reads rV w ao R) :
    Calls Tryz.prog 154 #[.slice ao R.length cap] w fun e w' => e = .returned (.int .i64 (numR R)) ∧ w = w' := by
  unfold maxLen at hl
  have HR := Lib.hid hr
  clear hr
  obtain ⟨N, hN⟩ : ∃ N, N = numR R := ⟨_, rfl⟩
  rw [← hN]
  unfold numR at hN
  by_cases h0 : R.length = 0
  · rw [if_pos (.inl h0)] at hN
    have HN := Lib.hid hN
    clear hN
    go_enter Tryz.func154, Tryz.ntmps154
    go_wp2
    go_ret
    exact ⟨ret_int HN.out.symm, rfl⟩
  · by_cases h9 : 9 < R.length
    · rw [if_pos (.inr (.inl h9))] at hN
      have HN := Lib.hid hN
      clear hN
      go_enter Tryz.func154, Tryz.ntmps154
      go_wp2
      go_ret
      exact ⟨ret_int HN.out.symm, rfl⟩
    · obtain ⟨b, off, rfl, hc⟩ := HR.out.at_ (k := 0) (by omega)
      obtain ⟨z, hz⟩ : ∃ z, z = R[0] := ⟨_, rfl⟩
      have hgz : R.getD 0 0 = z := by rw [hz]; simp [List.getD, List.getElem?_eq_getElem (show 0 < R.length by omega)]
      rw [← hz, Nat.add_zero] at hc
      unfold rV at hc
      rw [hgz] at hN
      have t0 : ((R.length : Int) == 0) = false := by rw [beq_eq_false_iff_ne]; omega
      by_cases h1 : 1 < R.length ∧ z = 48
      · rw [if_pos (.inr (.inr h1))] at hN
        have HN := Lib.hid hN
        have t48 : ((z : Int) == 48) = true := by rw [beq_iff_eq]; omega
        have hlt : (1 : Int) < (R.length : Int) := by omega
        clear hN hz hgz
        go_enter Tryz.func154, Tryz.ntmps154
        go_wp2
        go_ret
        exact ⟨ret_int HN.out.symm, rfl⟩
      · rw [if_neg (by omega)] at hN
        have HN := Lib.hid hN
        have hcase : (1 < R.length ∧ z ≠ 48) ∨ R.length ≤ 1 := by omega
        clear hN hz hgz
        rcases hcase with ⟨hlt, hz48⟩ | hlt
        · have t48 : ((z : Int) == 48) = false := by rw [beq_eq_false_iff_ne]; omega
          have hlt2 : (1 : Int) < (R.length : Int) := by omega
          go_enter Tryz.func154, Tryz.ntmps154
          go_wp2
          go_loopw [3, 4] (fun n i wr => ∃ (k : Nat) (acc : Int), i = .int .i64 (k : Int) ∧ n = .int .i64 acc ∧ k ≤ R.length ∧ numF acc (R.drop k) = N ∧ 0 ≤ acc ∧ acc < 10 ^ k ∧ w = wr) (fun _ i _ => R.length - (intOf i).toNat)
          case atStart => exact ⟨0, 0, rfl, rfl, Nat.zero_le _, by rw [HN.out]; rfl, by decide, by decide, rfl⟩
          case round =>
            obtain ⟨k, acc, rfl, rfl, hk, hA, ha0, ha1, rfl⟩ := hrel
            by_cases hp : k < R.length
            · obtain ⟨b', off', hbo, hcx⟩ := HR.out.at_ hp
              obtain ⟨rfl, rfl⟩ : b = b' ∧ off = off' := by simpa using hbo
              obtain ⟨x, hx⟩ : ∃ x, x = R[k] := ⟨_, rfl⟩
              rw [← hx] at hcx
              unfold rV at hcx
              have hacc : acc < 1000000000 := by
                have := pow9 k (by omega)
                omega
              have hp10 : (10 : Int) ^ (k + 1) = 10 ^ k * 10 := Int.pow_succ ..
              rw [List.drop_eq_getElem_cons hp, ← hx, numF] at hA
              clear hx
              by_cases hxd : x < 48 ∨ 57 < x
              · rw [if_pos hxd] at hA
                have HS := Lib.hid hA
                clear hA hp10 ha1
                by_cases hx48 : x < 48
                · go_wp2
                  go_ret
                  exact ⟨ret_int HS.out, rfl⟩
                · go_wp2
                  go_ret
                  exact ⟨ret_int HS.out, rfl⟩
              · rw [if_neg hxd] at hA
                have HS := Lib.hid hA
                have HB : Hid (10 * acc + ((x : Int) - 48) < 10 ^ (k + 1)) := Lib.hid (by omega)
                clear hA hp10 ha1
                have hx1 : (48 : Int) ≤ (x : Int) := by omega
                have hx2 : (x : Int) ≤ 57 := by omega
                go_wp2
                refine ⟨⟨k + 1, 10 * acc + ((x : Int) - 48), by go_num, by go_num, by omega, HS.out, by omega, HB.out, by first | rfl | trivial⟩, ?_⟩
                simp [intOf]; omega
            · rw [List.drop_eq_nil_of_le (by omega), numF] at hA
              have HS := Lib.hid hA
              clear hA ha1
              go_wp2
              go_ret
              exact ⟨ret_int HS.out, rfl⟩
        · have hlt2 : decide ((1 : Int) < (R.length : Int)) = false := by rw [decide_eq_false_iff_not]; omega
          go_enter Tryz.func154, Tryz.ntmps154
          go_wp2
          go_loopw [3, 4] (fun n i wr => ∃ (k : Nat) (acc : Int), i = .int .i64 (k : Int) ∧ n = .int .i64 acc ∧ k ≤ R.length ∧ numF acc (R.drop k) = N ∧ 0 ≤ acc ∧ acc < 10 ^ k ∧ w = wr) (fun _ i _ => R.length - (intOf i).toNat)
          case atStart => exact ⟨0, 0, rfl, rfl, Nat.zero_le _, by rw [HN.out]; rfl, by decide, by decide, rfl⟩
          case round =>
            obtain ⟨k, acc, rfl, rfl, hk, hA, ha0, ha1, rfl⟩ := hrel
            by_cases hp : k < R.length
            · obtain ⟨b', off', hbo, hcx⟩ := HR.out.at_ hp
              obtain ⟨rfl, rfl⟩ : b = b' ∧ off = off' := by simpa using hbo
              obtain ⟨x, hx⟩ : ∃ x, x = R[k] := ⟨_, rfl⟩
              rw [← hx] at hcx
              unfold rV at hcx
              have hacc : acc < 1000000000 := by
                have := pow9 k (by omega)
                omega
              have hp10 : (10 : Int) ^ (k + 1) = 10 ^ k * 10 := Int.pow_succ ..
              rw [List.drop_eq_getElem_cons hp, ← hx, numF] at hA
              clear hx
              by_cases hxd : x < 48 ∨ 57 < x
              · rw [if_pos hxd] at hA
                have HS := Lib.hid hA
                clear hA hp10 ha1
                by_cases hx48 : x < 48
                · go_wp2
                  go_ret
                  exact ⟨ret_int HS.out, rfl⟩
                · go_wp2
                  go_ret
                  exact ⟨ret_int HS.out, rfl⟩
              · rw [if_neg hxd] at hA
                have HS := Lib.hid hA
                have HB : Hid (10 * acc + ((x : Int) - 48) < 10 ^ (k + 1)) := Lib.hid (by omega)
                clear hA hp10 ha1
                have hx1 : (48 : Int) ≤ (x : Int) := by omega
                have hx2 : (x : Int) ≤ 57 := by omega
                go_wp2
                refine ⟨⟨k + 1, 10 * acc + ((x : Int) - 48), by go_num, by go_num, by omega, HS.out, by omega, HB.out, by first | rfl | trivial⟩, ?_⟩
                simp [intOf]; omega
            · rw [List.drop_eq_nil_of_le (by omega), numF] at hA
              have HS := Lib.hid hA
              clear hA ha1
              go_wp2
              go_ret
              exact ⟨ret_int HS.out, rfl⟩
end Go.Proofs.YtdkngidangfkiaaGreatDoor.Lex
