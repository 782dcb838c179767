/-
  The walks of package nodeset's node, run, guess, Parse.
-/
import Derived.Test.YtgneleembnchfaaDoorNodeShow
namespace Go.Proofs.YtgneleembnchfaaDoor.Node
open Go.RowKit
open Base NodeLib
set_option linter.unusedVariables false
set_option linter.unusedSimpArgs false

def nodV (t : List UInt8) : Value := match nodeN t with
  | some n => .tuple #[.int .i64 (n : Int), .bool true]
  | none => .tuple #[.int .i64 0, .bool false]

set_option maxRecDepth 100000 in
set_option maxHeartbeats 2000000 in
theorem node_any (s : ByteArray) (hs : s.size ≤ 1000000) (w : World) (hT : Tb w) :
    Calls Tryd.prog 44 #[.string s] w fun e w' => e = .returned (nodV s.data.toList) ∧ Below w.heap.size w w' := by
  have HT := Lib.hid hT
  clear hT
  have HV : Hid (nodV s.data.toList = match nodeN s.data.toList with
    | some n => .tuple #[.int .i64 (n : Int), .bool true]
    | none => .tuple #[.int .i64 0, .bool false]) := Lib.hid rfl
  by_cases hok : ∃ v, Go.Lib.atoiAll s.data.toList = .ok v
  · obtain ⟨v, hv⟩ := hok
    have C := Lib.hid (fun w => atoi_ok s hs v hv w)
    have D := Lib.hid (fun w => isNode_any v w)
    have hb := Go.Lib.atoiAll_bounds hv
    by_cases h : 0 ≤ v ∧ v < 64
    · have hn : nodeN s.data.toList = some v.toNat := by unfold nodeN; rw [hv]; simp only [h, and_self, if_true]
      have HE : Hid (nodV s.data.toList = .tuple #[.int .i64 v, .bool true]) := Lib.hid (by rw [HV.out, hn]; simp only; rw [Int.toNat_of_nonneg h.1])
      rw [show nodeB v = true from decide_eq_true h] at D
      clear HV hn hv
      go_enter Tryd.func44, Tryd.ntmps44
      go_wp2_with (first
        | (go_at_call 48; (with_reducible refine (C.out _).mono ?_); rintro e w1 ⟨rfl, p1⟩)
        | (go_at_call 27; (with_reducible refine (D.out _).mono ?_); rintro e w' ⟨rfl, rfl⟩)
        | fail)
      go_ret2
      exact ⟨by rw [HE.out]; rfl, p1⟩
    · have hn : nodeN s.data.toList = none := by unfold nodeN; rw [hv]; simp only [h, if_false]
      have HE : Hid (nodV s.data.toList = .tuple #[.int .i64 0, .bool false]) := Lib.hid (by rw [HV.out, hn])
      rw [show nodeB v = false from decide_eq_false h] at D
      clear HV hn hv
      go_enter Tryd.func44, Tryd.ntmps44
      go_wp2_with (first
        | (go_at_call 48; (with_reducible refine (C.out _).mono ?_); rintro e w1 ⟨rfl, p1⟩)
        | (go_at_call 27; (with_reducible refine (D.out _).mono ?_); rintro e w' ⟨rfl, rfl⟩)
        | fail)
      go_ret2
      exact ⟨by rw [HE.out]; rfl, p1⟩
  · have hno : ∀ v, Go.Lib.atoiAll s.data.toList ≠ .ok v := fun v h => hok ⟨v, h⟩
    have hn : nodeN s.data.toList = none := by
      unfold nodeN
      split
      · rename_i v h; exact absurd h (hno v)
      · rfl
    have HE : Hid (nodV s.data.toList = .tuple #[.int .i64 0, .bool false]) := Lib.hid (by rw [HV.out, hn])
    have C := Lib.hid (fun w hT => atoi_no s hs hno w hT)
    clear HV hn hok hno
    go_enter Tryd.func44, Tryd.ntmps44
    go_wp2_with (first
      | (go_at_call 48; (with_reducible refine (C.out _ HT.out).mono ?_); rintro e w1 ⟨v, N, rfl, p1⟩)
      | fail)
    go_ret2
    exact ⟨by rw [HE.out]; rfl, p1⟩

def runV (t : List UInt8) : Value := match runN t with
  | some n => .tuple #[.int .u64 (n : Int), .bool true]
  | none => .tuple #[.int .u64 0, .bool false]

set_option maxRecDepth 100000 in
set_option maxHeartbeats 2000000 in
theorem run_any (s : ByteArray) (hs : s.size ≤ 1000000) (w : World) (hT : Tb w) :
    Calls Tryd.prog 40 #[.string s] w fun e w' => e = .returned (runV s.data.toList) ∧ Below w.heap.size w w' := by
  have HT := Lib.hid hT
  clear hT
  have C := Lib.hid (fun w hT => cut_any s ⟨#[45]⟩ hs w hT)
  have hlen := cut_shorter 45 s.data.toList
  have HV : Hid (runV s.data.toList = match (match nodeN (Go.Lib.cut s.data.toList [45]).1, nodeN (toT s.data.toList) with
      | some a, some b => some (mask a b)
      | _, _ => none) with
    | some n => .tuple #[.int .u64 (n : Int), .bool true]
    | none => .tuple #[.int .u64 0, .bool false]) := Lib.hid rfl
  have HTo : Hid (toT s.data.toList = if (Go.Lib.cut s.data.toList [45]).2.2 = true then (Go.Lib.cut s.data.toList [45]).2.1 else (Go.Lib.cut s.data.toList [45]).1) := Lib.hid rfl
  rw [show (⟨#[45]⟩ : ByteArray).data.toList = [45] from rfl] at C
  obtain ⟨⟨f, t, j⟩, hc⟩ : ∃ c, c = Go.Lib.cut s.data.toList [45] := ⟨_, rfl⟩
  rw [← hc] at C hlen HV HTo
  obtain ⟨z, hz⟩ : ∃ z, z = toT s.data.toList := ⟨_, rfl⟩
  rw [← hz] at HV HTo
  clear hc hz
  simp only at hlen HV HTo C
  have hsz := Lib.size_eq s
  have hfs : (⟨f.toArray⟩ : ByteArray).size ≤ 1000000 := by rw [Lib.size_eq]; show f.length ≤ _; omega
  have hzs : (⟨z.toArray⟩ : ByteArray).size ≤ 1000000 := by
    rw [Lib.size_eq]; show z.length ≤ _
    have := HTo.out
    split at this
    · subst this; omega
    · subst this; omega
  have NF := Lib.hid (fun w hT => node_any ⟨f.toArray⟩ hfs w hT)
  have NZ := Lib.hid (fun w hT => node_any ⟨z.toArray⟩ hzs w hT)
  rw [toB_list] at NF NZ
  unfold nodV at NF NZ
  have nb : ∀ t n, nodeN t = some n → n < 64 := by
    intro t n h
    unfold nodeN at h
    split at h
    · split at h
      · injection h with h; omega
      · cases h
    · cases h
  have HFZ : Hid (j = false → f = z) := Lib.hid (fun h => by have := HTo.out; rw [h, if_neg (by decide)] at this; rw [this])
  have HTZ : Hid (j = true → t = z) := Lib.hid (fun h => by have := HTo.out; rw [h, if_pos rfl] at this; rw [this])
  obtain ⟨R, hR⟩ : ∃ R, R = runV s.data.toList := ⟨_, rfl⟩
  rw [← hR] at HV ⊢
  clear hR hfs hzs HTo hlen hsz
  cases j with
  | false =>
    obtain rfl := HFZ.out rfl
    clear HFZ HTZ NZ
    obtain ⟨F, hF⟩ : ∃ F, F = (⟨f.toArray⟩ : ByteArray) := ⟨_, rfl⟩
    obtain ⟨Z, hZ⟩ : ∃ Z, Z = (⟨t.toArray⟩ : ByteArray) := ⟨_, rfl⟩
    rw [← hF] at NF C
    rw [← hZ] at C
    clear hF hZ
    cases hn1 : nodeN f with
    | none =>
      rw [hn1] at NF HV
      simp only at NF HV
      clear hn1 nb
      go_enter Tryd.func40, Tryd.ntmps40
      go_wp2_with (first
        | (go_at_call 39; (with_reducible refine (C.out _ HT.out).mono ?_); rintro e w1 ⟨rfl, p1⟩)
        | (go_at_call 44; (with_reducible refine (NF.out _ (HT.out.later p1)).mono ?_); rintro e w2 ⟨rfl, p2⟩)
        | (go_at_call 44; (with_reducible refine (NF.out _ (HT.out.later (p2.from p1))).mono ?_); rintro e w3 ⟨rfl, p3⟩)
        | fail)
      go_ret2
      exact ⟨by rw [HV.out]; rfl, p3.from (p2.from p1)⟩
    | some a =>
      rw [hn1] at NF HV
      simp only at NF HV
      have ha := nb _ _ hn1
      have hb := nb _ _ hn1
      have A1 := Lib.hid (fun w => all_any ((a : Int) + 1) w)
      have A2 := Lib.hid (fun w => all_any (a : Int) w)
      have hw : wrap64 ((a : Int) + 1) = (a : Int) + 1 := by unfold wrap64; omega
      obtain ⟨x, hx⟩ : ∃ x : Int, x = (allN ((a : Int) + 1) : Int) := ⟨_, rfl⟩
      obtain ⟨y, hy⟩ : ∃ y : Int, y = (allN (a : Int) : Int) := ⟨_, rfl⟩
      have q : bits BinOp.andNot IntKind.u64 x y = (mask a a : Int) := andNot_u64 _ _ x y hx hy (allN_lt _) (allN_lt _)
      rw [← hx] at A1
      rw [← hy] at A2
      clear hx hy ha
      clear hn1 nb
      go_enter Tryd.func40, Tryd.ntmps40
      go_wp2_with (first
        | (go_at_call 39; (with_reducible refine (C.out _ HT.out).mono ?_); rintro e w1 ⟨rfl, p1⟩)
        | (go_at_call 44; (with_reducible refine (NF.out _ (HT.out.later p1)).mono ?_); rintro e w2 ⟨rfl, p2⟩)
        | (go_at_call 44; (with_reducible refine (NF.out _ (HT.out.later (p2.from p1))).mono ?_); rintro e w3 ⟨rfl, p3⟩)
        | (go_at_call 17; (with_reducible refine (A1.out _).mono ?_); rintro e w' ⟨rfl, rfl⟩)
        | (go_at_call 17; (with_reducible refine (A2.out _).mono ?_); rintro e w' ⟨rfl, rfl⟩)
        | fail)
      go_ret2
      exact ⟨by rw [HV.out]; rfl, p3.from (p2.from p1)⟩
  | true =>
    obtain rfl := HTZ.out rfl
    clear HFZ HTZ
    obtain ⟨F, hF⟩ : ∃ F, F = (⟨f.toArray⟩ : ByteArray) := ⟨_, rfl⟩
    obtain ⟨Z, hZ⟩ : ∃ Z, Z = (⟨t.toArray⟩ : ByteArray) := ⟨_, rfl⟩
    rw [← hF] at NF C
    rw [← hZ] at NZ C
    clear hF hZ
    cases hn1 : nodeN f with
    | none =>
      rw [hn1] at NF HV
      simp only at NF HV
      cases hn2 : nodeN t with
      | none =>
        rw [hn2] at NZ
        simp only at NZ
        clear hn1 hn2 nb
        go_enter Tryd.func40, Tryd.ntmps40
        go_wp2_with (first
          | (go_at_call 39; (with_reducible refine (C.out _ HT.out).mono ?_); rintro e w1 ⟨rfl, p1⟩)
          | (go_at_call 44; (with_reducible refine (NF.out _ (HT.out.later p1)).mono ?_); rintro e w2 ⟨rfl, p2⟩)
          | (go_at_call 44; (with_reducible refine (NZ.out _ (HT.out.later (p2.from p1))).mono ?_); rintro e w3 ⟨rfl, p3⟩)
          | fail)
        go_ret2
        exact ⟨by rw [HV.out]; rfl, p3.from (p2.from p1)⟩
      | some b =>
        rw [hn2] at NZ
        simp only at NZ
        clear hn1 hn2 nb
        go_enter Tryd.func40, Tryd.ntmps40
        go_wp2_with (first
          | (go_at_call 39; (with_reducible refine (C.out _ HT.out).mono ?_); rintro e w1 ⟨rfl, p1⟩)
          | (go_at_call 44; (with_reducible refine (NF.out _ (HT.out.later p1)).mono ?_); rintro e w2 ⟨rfl, p2⟩)
          | (go_at_call 44; (with_reducible refine (NZ.out _ (HT.out.later (p2.from p1))).mono ?_); rintro e w3 ⟨rfl, p3⟩)
          | fail)
        go_ret2
        exact ⟨by rw [HV.out]; rfl, p3.from (p2.from p1)⟩
    | some a =>
      rw [hn1] at NF HV
      simp only at NF HV
      cases hn2 : nodeN t with
      | none =>
        rw [hn2] at NZ HV
        simp only at NZ HV
        clear hn1 hn2 nb
        go_enter Tryd.func40, Tryd.ntmps40
        go_wp2_with (first
          | (go_at_call 39; (with_reducible refine (C.out _ HT.out).mono ?_); rintro e w1 ⟨rfl, p1⟩)
          | (go_at_call 44; (with_reducible refine (NF.out _ (HT.out.later p1)).mono ?_); rintro e w2 ⟨rfl, p2⟩)
          | (go_at_call 44; (with_reducible refine (NZ.out _ (HT.out.later (p2.from p1))).mono ?_); rintro e w3 ⟨rfl, p3⟩)
          | fail)
        go_ret2
        exact ⟨by rw [HV.out]; rfl, p3.from (p2.from p1)⟩
      | some b =>
        rw [hn2] at NZ HV
        simp only at NZ HV
        have ha := nb _ _ hn1
        have hb := nb _ _ hn2
        have A1 := Lib.hid (fun w => all_any ((b : Int) + 1) w)
        have A2 := Lib.hid (fun w => all_any (a : Int) w)
        have hw : wrap64 ((b : Int) + 1) = (b : Int) + 1 := by unfold wrap64; omega
        obtain ⟨x, hx⟩ : ∃ x : Int, x = (allN ((b : Int) + 1) : Int) := ⟨_, rfl⟩
        obtain ⟨y, hy⟩ : ∃ y : Int, y = (allN (a : Int) : Int) := ⟨_, rfl⟩
        have q : bits BinOp.andNot IntKind.u64 x y = (mask a b : Int) := andNot_u64 _ _ x y hx hy (allN_lt _) (allN_lt _)
        rw [← hx] at A1
        rw [← hy] at A2
        clear hx hy ha
        clear hn1 hn2 nb
        go_enter Tryd.func40, Tryd.ntmps40
        go_wp2_with (first
          | (go_at_call 39; (with_reducible refine (C.out _ HT.out).mono ?_); rintro e w1 ⟨rfl, p1⟩)
          | (go_at_call 44; (with_reducible refine (NF.out _ (HT.out.later p1)).mono ?_); rintro e w2 ⟨rfl, p2⟩)
          | (go_at_call 44; (with_reducible refine (NZ.out _ (HT.out.later (p2.from p1))).mono ?_); rintro e w3 ⟨rfl, p3⟩)
          | (go_at_call 17; (with_reducible refine (A1.out _).mono ?_); rintro e w' ⟨rfl, rfl⟩)
          | (go_at_call 17; (with_reducible refine (A2.out _).mono ?_); rintro e w' ⟨rfl, rfl⟩)
          | fail)
        go_ret2
        exact ⟨by rw [HV.out]; rfl, p3.from (p2.from p1)⟩

def strLen : Value → Nat | .string t => t.size | _ => 0
def boolN : Value → Nat | .bool true => 1 | _ => 0

set_option maxRecDepth 100000 in
set_option maxHeartbeats 4000000 in
theorem guess_any (s : ByteArray) (hs : s.size ≤ 1000000) (w : World) (hT : Tb w) :
    Calls Tryd.prog 32 #[.string s] w fun e w' => e = .returned (.int .u64 (guessN s.data.toList : Int)) ∧ Below w.heap.size w w' := by
  have HT := Lib.hid hT
  clear hT
  have HG0 : Hid (guessF (s.size + 1) 0 s.data.toList = guessN s.data.toList) := Lib.hid (by unfold guessN; rw [Lib.size_eq])
  obtain ⟨G, hG⟩ : ∃ G, G = guessN s.data.toList := ⟨_, rfl⟩
  rw [← hG] at HG0 ⊢
  clear hG
  go_enter Tryd.func32, Tryd.ntmps32
  go_wp2
  go_loopw [0, 3, 4] (fun tv sv mv wr => ∃ (T : ByteArray) (x : Nat) (m : Bool) (f : Nat), tv = .string T ∧ sv = .int .u64 (x : Int) ∧ mv = .bool m ∧ x < 18446744073709551616 ∧ T.size ≤ 1000000 ∧ Below w.heap.size w wr ∧ (m = true → T.size < f ∧ guessF f x T.data.toList = G) ∧ (m = false → x = G)) (fun tv _ mv _ => strLen tv + boolN mv)
  case atStart => exact ⟨s, 0, true, s.size + 1, rfl, rfl, rfl, by omega, hs, Below.refl _ _, fun _ => ⟨by omega, HG0.out⟩, fun h => by cases h⟩
  case round =>
    obtain ⟨T, x, m, f, rfl, rfl, rfl, hx, hTs, hb, h1, h2⟩ := hrel
    have HB := Lib.hid hb
    clear hb
    cases m with
    | false =>
      have HX : Hid ((x : Int) = (G : Int)) := Lib.hid (by rw [h2 rfl])
      clear h1 h2
      obtain ⟨y, hy⟩ : ∃ y : Int, y = (x : Int) := ⟨_, rfl⟩
      rw [← hy] at HX ⊢
      clear hy
      go_wp2
      go_ret
      exact ⟨ret_int HX.out, HB.out⟩
    | true =>
      obtain ⟨hf, hg⟩ := h1 rfl
      clear h1 h2
      obtain ⟨g, rfl⟩ : ∃ g, f = g + 1 := ⟨f - 1, by omega⟩
      have C := Lib.hid (fun w hT => cut_any T ⟨#[44]⟩ hTs w hT)
      rw [show (⟨#[44]⟩ : ByteArray).data.toList = [44] from rfl] at C
      have hlen := cut_shorter 44 T.data.toList
      have hmiss : (Go.Lib.cut T.data.toList [44]).2.2 = false → (Go.Lib.cut T.data.toList [44]).2.1 = [] := by
        unfold Go.Lib.cut; split
        · intro h; cases h
        · intro _; rfl
      rw [guessF] at hg
      obtain ⟨⟨p, t, j⟩, hc⟩ : ∃ c, c = Go.Lib.cut T.data.toList [44] := ⟨_, rfl⟩
      rw [← hc] at C hlen hg hmiss
      simp only at C hlen hg hmiss
      clear hc
      have hsz := Lib.size_eq T
      have hps : (⟨p.toArray⟩ : ByteArray).size ≤ 1000000 := by rw [Lib.size_eq]; show p.length ≤ _; omega
      have R := Lib.hid (fun w hT => run_any ⟨p.toArray⟩ hps w hT)
      rw [toB_list] at R
      unfold runV at R
      obtain ⟨P, hP⟩ : ∃ P, P = (⟨p.toArray⟩ : ByteArray) := ⟨_, rfl⟩
      rw [← hP] at R C
      obtain ⟨Q, hQ⟩ : ∃ Q, Q = (⟨t.toArray⟩ : ByteArray) := ⟨_, rfl⟩
      rw [← hQ] at C
      have hQs : Q.size = t.length := by rw [hQ, Lib.size_eq]
      have hQd : Q.data.toList = t := by rw [hQ]
      obtain ⟨y, hy⟩ : ∃ y : Int, y = (x : Int) := ⟨_, rfl⟩
      rw [← hy]
      cases hr : runN p with
      | none =>
        rw [hr] at R hg
        simp only at R hg
        have HE : Hid ((0 : Int) = (G : Int)) := Lib.hid (by rw [← hg]; rfl)
        clear hg hr hP hQ hQs hQd hlen hmiss hps hy
        go_wp2_with (first
          | (go_at_call 39; (with_reducible refine (C.out _ (HT.out.later HB.out)).mono ?_); rintro e w1 ⟨rfl, p1⟩)
          | (go_at_call 40; (with_reducible refine (R.out _ (HT.out.later (p1.from HB.out))).mono ?_); rintro e w2 ⟨rfl, p2⟩)
          | fail)
        go_ret
        exact ⟨ret_int HE.out, p2.from (p1.from HB.out)⟩
      | some r =>
        rw [hr] at R hg
        simp only at R hg
        have hr2 := runN_lt hr
        have ho : x ||| r < 18446744073709551616 := by
          have : x ||| r < 2 ^ 64 := Nat.or_lt_two_pow (by simpa using hx) (by simpa using hr2)
          simpa using this
        obtain ⟨z, hz⟩ : ∃ z : Int, z = (r : Int) := ⟨_, rfl⟩
        rw [← hz] at R
        have HO : Hid (bits BinOp.or IntKind.u64 y z = ((x ||| r : Nat) : Int)) := Lib.hid (by rw [hy, hz, bits_or_u64_nat _ _ hx hr2])
        have HOl := Lib.hid ho
        have HQd := Lib.hid hQd
        have HL : Hid (Q.size ≤ T.size ∧ (j = true → Q.size < T.size) ∧ (j = false → Q.size = 0)) := Lib.hid ⟨by omega, fun h => by have := hlen.2.2 h; omega, fun h => by rw [hQs, hmiss h]; rfl⟩
        have HGG := Lib.hid hg
        clear hg hr hP hQ hQs hQd hps hy hz ho hr2 hmiss hlen hx hsz
        go_wp2_with (first
          | (go_at_call 39; (with_reducible refine (C.out _ (HT.out.later HB.out)).mono ?_); rintro e w1 ⟨rfl, p1⟩)
          | (go_at_call 40; (with_reducible refine (R.out _ (HT.out.later (p1.from HB.out))).mono ?_); rintro e w2 ⟨rfl, p2⟩)
          | fail)
        go_roundw
        case rel =>
          refine ⟨Q, x ||| r, j, g, rfl, by rw [HO.out], rfl, HOl.out, ?_, p2.from (p1.from HB.out), ?_, ?_⟩
          · have := HL.out.1; omega
          · intro hj
            have h := HGG.out
            rw [if_pos hj] at h
            refine ⟨?_, by rw [HQd.out]; exact h⟩
            have := HL.out.2.1 hj; omega
          · intro hj
            have h := HGG.out
            rw [if_neg (by rw [hj]; decide)] at h
            exact h
        case measure =>
          have h3 := HL.out
          cases j with
          | true => have := h3.2.1 rfl; simp only [strLen, boolN]; omega
          | false => have := h3.2.2 rfl; simp only [strLen, boolN]; omega

set_option maxRecDepth 100000 in
set_option maxHeartbeats 2000000 in
theorem parse_any (s : ByteArray) (hs : s.size ≤ 1000000) (w : World) (hT : Tb w) :
    Calls Tryd.prog 23 #[.string s] w fun e w' => e = .returned (.tuple #[.int .u64 (parseS s.data.toList : Int), .int .i64 (parseE s.data.toList)]) ∧ Below w.heap.size w w' := by
  have HT := Lib.hid hT
  clear hT
  have C := Lib.hid (fun w hT => guess_any s hs w hT)
  obtain ⟨x, hx⟩ : ∃ x : Int, x = (guessN s.data.toList : Int) := ⟨_, rfl⟩
  have D := Lib.hid (fun w hT => show_any (guessN s.data.toList) (guessN_lt _) x hx w hT)
  have HS : Hid (parseS s.data.toList = if showT (mem (guessN s.data.toList)) = s.data.toList then guessN s.data.toList else 0) := Lib.hid rfl
  have HE : Hid (parseE s.data.toList = if showT (mem (guessN s.data.toList)) = s.data.toList then 0 else 90) := Lib.hid rfl
  obtain ⟨L, hL⟩ : ∃ L, L = showT (mem (guessN s.data.toList)) := ⟨_, rfl⟩
  rw [← hL] at D HS HE
  rw [← hx] at C
  obtain ⟨Z, hZ⟩ : ∃ Z, Z = (⟨L.toArray⟩ : ByteArray) := ⟨_, rfl⟩
  rw [← hZ] at D
  have hZd : Z.data.toList = L := by rw [hZ]
  by_cases h : L = s.data.toList
  · rw [if_pos h] at HS HE
    have t2 : (Z.toList == s.toList) = true := by
      rw [beq_iff_eq, Lib.toList_data, Lib.toList_data, hZd, h]
    have HR : Hid (x = (parseS s.data.toList : Int) ∧ 0 = parseE s.data.toList) := Lib.hid ⟨by rw [HS.out, hx], HE.out.symm⟩
    clear hx hL hZ HS HE h hZd
    go_enter Tryd.func23, Tryd.ntmps23
    go_wp2_with (first
      | (go_at_call 32; (with_reducible refine (C.out _ HT.out).mono ?_); rintro e w1 ⟨rfl, p1⟩)
      | (go_at_call 25; (with_reducible refine (D.out _ (HT.out.later p1)).mono ?_); rintro e w2 ⟨rfl, p2⟩)
      | fail)
    go_ret2
    exact ⟨by rw [← HR.out.1, ← HR.out.2]; rfl, p2.from p1⟩
  · rw [if_neg h] at HS HE
    have t2 : (Z.toList == s.toList) = false := by
      rw [beq_eq_false_iff_ne, Lib.toList_data, Lib.toList_data, hZd]; exact h
    have HR : Hid (0 = (parseS s.data.toList : Int) ∧ 90 = parseE s.data.toList) := Lib.hid ⟨by rw [HS.out]; rfl, HE.out.symm⟩
    clear hx hL hZ HS HE h hZd
    go_enter Tryd.func23, Tryd.ntmps23
    go_wp2_with (first
      | (go_at_call 32; (with_reducible refine (C.out _ HT.out).mono ?_); rintro e w1 ⟨rfl, p1⟩)
      | (go_at_call 25; (with_reducible refine (D.out _ (HT.out.later p1)).mono ?_); rintro e w2 ⟨rfl, p2⟩)
      | fail)
    go_ret2
    exact ⟨by rw [← HR.out.1, ← HR.out.2]; rfl, p2.from p1⟩

end Go.Proofs.YtgneleembnchfaaDoor.Node
