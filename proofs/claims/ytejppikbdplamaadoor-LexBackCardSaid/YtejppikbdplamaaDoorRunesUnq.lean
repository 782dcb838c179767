/-
  The walks of layer 4's unquoting.
-/
import Derived.Test.YtejppikbdplamaaDoorRunesQuote
namespace Go.Proofs.YtejppikbdplamaaDoor.Runes
open Go.RowKit
open Base Bld
set_option linter.unusedVariables false

def umS (s : ByteArray) : ByteArray := ⟨((unR (ps s 0) false).getD []).toArray⟩
def umE (s : ByteArray) : Int := if (unR (ps s 0) false).isSome = true then 0 else 50
theorem um_no {s : ByteArray} (h : unR (ps s 0) false = none) : ⟨#[]⟩ = umS s ∧ 50 = umE s := by unfold umS umE; rw [h]; exact ⟨rfl, rfl⟩
theorem um_yes {s : ByteArray} {u : List UInt8} (h : unR (ps s 0) false = some u) : ⟨u.toArray⟩ = umS s ∧ 0 = umE s := by unfold umS umE; rw [h]; exact ⟨rfl, rfl⟩
theorem or_eq_false {a b : Bool} (h : (a || b) = false) : a = false ∧ b = false := by cases a <;> cases b <;> simp at h ⊢

set_option maxRecDepth 100000 in
set_option maxHeartbeats 2000000 in
theorem unmark_any (s : ByteArray) (hs : s.size ≤ 1000000) (w : World) :
    Calls Tryd.prog 56 #[.string s] w fun e w' => e = .returned (.tuple #[.string (umS s), .int .i64 (umE s)]) ∧ Below w.heap.size w w' := by
  go_enter Tryd.func56, Tryd.ntmps56
  go_wp2
  go_loopw [5] (fun m wr => ∃ (pos : Nat) (acc : List UInt8) (mb : Bool), m = .bool mb ∧ wr.heap[w.heap.size + 1]? = some (.stringIter s pos) ∧ BldR w w.heap.size w.heap.size acc wr ∧ (unR (ps s pos) mb).map (acc ++ ·) = unR (ps s 0) false ∧ pos ≤ s.size ∧ acc.length ≤ 4 * pos) (fun _ wr => s.size - wr.iterPos (w.heap.size + 1))
  case atStart =>
    refine ⟨0, [], false, rfl, ?_, (bldR_new w w (Below.refl _ _) _ rfl).alloc _, by simp, Nat.zero_le _, Nat.le_refl _⟩
    have := World.iter_heap (w.alloc (.cells #[.pointer none, .slice none 0 0] 55)) s 0
    simpa using this
  case round =>
    obtain ⟨pos, acc, mb, rfl, hit, hI, hc, hp0, hal⟩ := hrel
    by_cases hp : pos < s.size
    · have hnx : ∀ ty, (Instr.next (.pointer (some ⟨w.heap.size + 1, 0, none⟩)) true ty).run Tryd.prog wr = _ := fun ty => Lib.run_next_any_at wr (w.heap.size + 1) s pos ty hit hp
      have hwd := ps_width s pos hp
      have hd1 := decode_le s pos
      have hm0 : wr.iterPos (w.heap.size + 1) = pos := by simp [World.iterPos, hit]
      have hI2 := hI.iterAt hit (by omega) (pos + (Utf8.decode s pos).2)
      have hit2 := Lib.iterAt_heap wr (w.heap.size + 1) s pos (pos + (Utf8.decode s pos).2) hit
      have he4 := encodeRune_le ((Utf8.decode s pos).1 : Int)
      have hdm := mkR_dec (Utf8.decode s pos).1
      rw [ps_step s pos hp, unR] at hc
      have HI := Lib.hid hI2
      have HT := Lib.hid hit2
      have HE4 := Lib.hid he4
      have HB : Hid (Below w.heap.size w (wr.iterAt (w.heap.size + 1) s (pos + (Utf8.decode s pos).2))) := Lib.hid hI2.2.1
      have hm2 : (wr.iterAt (w.heap.size + 1) s (pos + (Utf8.decode s pos).2)).iterPos (w.heap.size + 1) = pos + (Utf8.decode s pos).2 := by simp [World.iterPos, hit2]
      have HM2 := Lib.hid hm2
      clear hI hI2 hit2 he4 hm2
      cases mb with
      | false =>
        by_cases h92 : (Utf8.decode s pos).1 = 92
        · rw [if_pos ⟨h92, rfl⟩] at hc
          have HC := Lib.hid hc
          have hb1 : (((Utf8.decode s pos).1 : Int) == 92) = true := by rw [beq_iff_eq]; omega
          clear hc hdm
          go_wp2
          refine ⟨⟨_, acc, true, rfl, HT.out, HI.out, HC.out, hwd.2.1, by omega⟩, ?_⟩
          rw [hm0, HM2.out]; omega
        · have hb1 : (((Utf8.decode s pos).1 : Int) == 92) = false := by rw [beq_eq_false_iff_ne]; omega
          rw [if_neg (fun x => h92 x.1)] at hc
          cases hmk : mkR (Utf8.decode s pos).1 with
          | true =>
            rw [hmk, if_pos (by simp)] at hc
            rw [hmk] at hdm
            have HA := Lib.hid (um_no hc.symm)
            clear hc hmk
            go_wp2_with (first
              | (go_at_call 68; (with_reducible refine (isMark_any _ _).mono ?_); rintro e w' ⟨rfl, rfl⟩)
              | fail)
            go_ret2
            exact ⟨ret_si HA.out.1 HA.out.2, HB.out⟩
          | false =>
            rw [hmk, if_neg (by simp)] at hc
            rw [hmk] at hdm
            have HC : Hid ((unR (ps s (pos + (Utf8.decode s pos).2)) false).map ((acc ++ Lib.encodeRune ((Utf8.decode s pos).1 : Int)) ++ ·) = unR (ps s 0) false) := Lib.hid (by rw [← hc, Option.map_map]; congr 1; funext x; simp)
            clear hc hmk
            go_wp2_with (first
              | (go_at_call 68; (with_reducible refine (isMark_any _ _).mono ?_); rintro e w' ⟨rfl, rfl⟩)
              | (go_at_call 69; (with_reducible refine (writeRune_r _ _ _ _ acc _ (by omega) (by omega) HI.out (by omega)).mono ?_); rintro e w4 ⟨rfl, h4, k4⟩)
              | fail)
            have ht4 := k4.iter HT.out (by omega)
            refine ⟨⟨_, _, false, rfl, ht4, h4, HC.out, hwd.2.1, by have := HE4.out; simp only [List.length_append]; omega⟩, ?_⟩
            rw [hm0]; simp only [World.iterPos, ht4]; omega
      | true =>
        rw [if_neg (by simp)] at hc
        cases hmk : mkR (Utf8.decode s pos).1 with
        | false =>
          have hb1 : (((Utf8.decode s pos).1 : Int) == 92) = false := by rw [beq_eq_false_iff_ne]; intro h; simp only [mkR, Bool.or_eq_false_iff, beq_eq_false_iff_ne] at hmk; omega
          rw [hmk, if_pos (by simp)] at hc
          rw [hmk] at hdm
          have HA := Lib.hid (um_no hc.symm)
          clear hc hmk
          go_wp2_with (first
            | (go_at_call 68; (with_reducible refine (isMark_any _ _).mono ?_); rintro e w' ⟨rfl, rfl⟩)
            | fail)
          go_ret2
          exact ⟨ret_si HA.out.1 HA.out.2, HB.out⟩
        | true =>
          rw [hmk, if_neg (by simp)] at hc
          rw [hmk] at hdm
          have HC : Hid ((unR (ps s (pos + (Utf8.decode s pos).2)) false).map ((acc ++ Lib.encodeRune ((Utf8.decode s pos).1 : Int)) ++ ·) = unR (ps s 0) false) := Lib.hid (by rw [← hc, Option.map_map]; congr 1; funext x; simp)
          clear hc hmk
          by_cases h92 : (Utf8.decode s pos).1 = 92
          · have hb1 : (((Utf8.decode s pos).1 : Int) == 92) = true := by rw [beq_iff_eq]; omega
            have hr : ((Utf8.decode s pos).1 : Int) = 92 := by omega
            rw [hr] at HC HE4
            clear hdm
            go_wp2_with (first
              | (go_at_call 68; (with_reducible refine (isMark_any _ _).mono ?_); rintro e w' ⟨rfl, rfl⟩)
              | (go_at_call 69; (with_reducible refine (writeRune_r _ _ _ _ acc 92 (by omega) (by omega) HI.out (by omega)).mono ?_); rintro e w4 ⟨rfl, h4, k4⟩)
              | fail)
            have ht4 := k4.iter HT.out (by omega)
            refine ⟨⟨_, _, false, rfl, ht4, h4, HC.out, hwd.2.1, by have := HE4.out; simp only [List.length_append]; omega⟩, ?_⟩
            rw [hm0]; simp only [World.iterPos, ht4]; omega
          · have hb1 : (((Utf8.decode s pos).1 : Int) == 92) = false := by rw [beq_eq_false_iff_ne]; omega
            go_wp2_with (first
              | (go_at_call 68; (with_reducible refine (isMark_any _ _).mono ?_); rintro e w' ⟨rfl, rfl⟩)
              | (go_at_call 69; (with_reducible refine (writeRune_r _ _ _ _ acc _ (by omega) (by omega) HI.out (by omega)).mono ?_); rintro e w4 ⟨rfl, h4, k4⟩)
              | fail)
            have ht4 := k4.iter HT.out (by omega)
            refine ⟨⟨_, _, false, rfl, ht4, h4, HC.out, hwd.2.1, by have := HE4.out; simp only [List.length_append]; omega⟩, ?_⟩
            rw [hm0]; simp only [World.iterPos, ht4]; omega
    · have hnx : ∀ ty, (Instr.next (.pointer (some ⟨w.heap.size + 1, 0, none⟩)) true ty).run Tryd.prog wr = _ := fun ty => Lib.run_next_end_at wr (w.heap.size + 1) s pos ty hit hp
      rw [ps_end s pos hp, unR] at hc
      have HI := Lib.hid hI
      clear hI
      cases mb with
      | true =>
        have HA := Lib.hid (um_no (s := s) (by rw [← hc]; rfl))
        clear hc
        go_wp2
        go_ret2
        exact ⟨ret_si HA.out.1 HA.out.2, HI.out.2.1⟩
      | false =>
        have HA := Lib.hid (um_yes (s := s) (u := acc) (by rw [← hc]; simp))
        clear hc
        go_wp2_with (first
          | (go_at_call 24; (with_reducible refine (string_r _ _ _ _ acc HI.out).mono ?_); rintro e w4 ⟨rfl, p4⟩)
          | fail)
        go_ret2
        exact ⟨ret_si HA.out.1 HA.out.2, p4⟩

theorem hasPrefix_one (l : List UInt8) : Lib.hasPrefix l [34] = (l.head? == some 34) := by
  cases l with
  | nil => rfl
  | cons b t =>
    unfold Lib.hasPrefix
    simp only [List.isPrefixOf, Bool.and_true, List.head?_cons]
    rw [Bool.eq_iff_iff, beq_iff_eq, beq_iff_eq, Option.some.injEq]
    exact eq_comm
theorem hasSuffix_one (l : List UInt8) : Lib.hasSuffix l [34] = (l.getLast? == some 34) := by
  rw [List.getLast?_eq_head?_reverse, ← hasPrefix_one]
  rfl
theorem cut_first {l : List UInt8} (h : (l.head? == some 34) = true) : Lib.trimPrefix l [34] = l.tail := by
  unfold Lib.trimPrefix; rw [hasPrefix_one, if_pos h]; exact List.drop_one
theorem cut_last {l : List UInt8} (h : (l.getLast? == some 34) = true) : Lib.trimSuffix l [34] = l.dropLast := by
  unfold Lib.trimSuffix; rw [hasSuffix_one, if_pos h, List.dropLast_eq_take]; rfl

/-- What stands within the quotes, unmarked, is the answer. -/
theorem um_uq {s : ByteArray} (hE : ckE s = 0) (hs : shut s.data.toList = true) : umS ⟨(inner s.data.toList).toArray⟩ = uqS s ∧ umE ⟨(inner s.data.toList).toArray⟩ = uqE s := by
  have hg := good_inner hs ((ckE_good s).1 hE)
  have e : unR (ps ⟨(inner s.data.toList).toArray⟩ 0) false = uq s.data.toList := by
    unfold uq
    rw [if_pos hs, ps_zero, ofList_data, un_good _ hg]
  unfold umS umE uqS uqE
  rw [e, if_pos hE, if_pos hE]
  exact ⟨rfl, rfl⟩
theorem uq_unshut {s : ByteArray} (hE : ckE s = 0) (hs : shut s.data.toList = false) : ⟨#[]⟩ = uqS s ∧ 50 = uqE s :=
  uq_no hE (by unfold uq; rw [hs]; rfl)

abbrev x34 : ByteArray := ⟨#[34]⟩
theorem cutPrefix_one (s : ByteArray) (w : World) :
    Calls Tryd.prog 54 #[.string s, .string x34] w fun e w' => e = .returned (.tuple #[.string ⟨(Lib.trimPrefix s.data.toList [34]).toArray⟩, .bool (s.data.toList.head? == some 34)]) ∧ w' = w := by
  rw [← hasPrefix_one]; exact cutPrefix_at s ⟨#[34]⟩ w
theorem cutSuffix_one (s : ByteArray) (w : World) (h : s.size ≤ 9223372036854775807) :
    Calls Tryd.prog 55 #[.string s, .string x34] w fun e w' => e = .returned (.tuple #[.string ⟨(Lib.trimSuffix s.data.toList [34]).toArray⟩, .bool (s.data.toList.getLast? == some 34)]) ∧ w' = w := by
  rw [← hasSuffix_one]; exact cutSuffix_at s ⟨#[34]⟩ w h

set_option maxRecDepth 100000 in
set_option maxHeartbeats 2000000 in
theorem unquote_any (s : ByteArray) (hs : s.size ≤ 1000000) (w : World) :
    Calls Tryd.prog 34 #[.string s] w fun e w' => e = .returned (.tuple #[.string (uqS s), .int .i64 (uqE s)]) ∧ Below w.heap.size w w' := by
  have c1 := fun w => check_any s hs w
  rcases ckE_or s with hE | hE
  · simp only [hE] at c1
    have C1 := Lib.hid c1
    clear c1
    have c2 := fun w => cutPrefix_one s w
    obtain ⟨t, ht⟩ : ∃ t : ByteArray, t = ⟨(Lib.trimPrefix s.data.toList [34]).toArray⟩ := ⟨_, rfl⟩
    have hts : t.size ≤ s.size := by
      rw [ht, Lib.size_eq, Lib.size_eq, ofList_data]; unfold Lib.trimPrefix; split
      · rw [List.length_drop]; omega
      · exact Nat.le_refl _
    have c3 := fun w => cutSuffix_one t w (by omega)
    obtain ⟨z, hz⟩ : ∃ z : ByteArray, z = ⟨(Lib.trimSuffix t.data.toList [34]).toArray⟩ := ⟨_, rfl⟩
    have hzs : z.size ≤ t.size := by
      rw [hz, Lib.size_eq, Lib.size_eq, ofList_data]; unfold Lib.trimSuffix; split
      · rw [List.length_take]; omega
      · exact Nat.le_refl _
    simp only [← ht] at c2
    simp only [← hz] at c3
    have hsh : shut s.data.toList = (s.data.toList.head? == some 34 && s.data.toList.tail.getLast? == some 34) := rfl
    cases ho : (s.data.toList.head? == some 34) with
    | false =>
      rw [ho, Bool.false_and] at hsh
      have HA := Lib.hid (uq_unshut hE hsh)
      simp only [ho] at c2
      have C2 := Lib.hid c2
      obtain ⟨b, hb⟩ : ∃ b, b = (t.data.toList.getLast? == some 34) := ⟨_, rfl⟩
      simp only [← hb] at c3
      have C3 := Lib.hid c3
      clear c2 c3 ht hts hz hzs ho hsh hE hb
      go_enter Tryd.func34, Tryd.ntmps34
      go_wp2_with (first
        | (go_at_call 27; (with_reducible refine (C1.out _).mono ?_); rintro e w1 ⟨rfl, p1⟩)
        | (go_at_call 54; (with_reducible refine (C2.out _).mono ?_); rintro e w2 ⟨rfl, rfl⟩)
        | (go_at_call 55; (with_reducible refine (C3.out _).mono ?_); rintro e w3 ⟨rfl, rfl⟩)
        | fail)
      go_ret2
      exact ⟨ret_si HA.out.1 HA.out.2, p1⟩
    | true =>
      rw [ho, Bool.true_and] at hsh
      have hta : t.data.toList = s.data.toList.tail := by rw [ht, ofList_data, cut_first ho]
      simp only [ho] at c2
      have C2 := Lib.hid c2
      rw [← hta] at hsh
      cases hc : (t.data.toList.getLast? == some 34) with
      | false =>
        rw [hc] at hsh
        have HA := Lib.hid (uq_unshut hE hsh)
        simp only [hc] at c3
        have C3 := Lib.hid c3
        clear c2 c3 ht hts hz hzs ho hsh hE hc hta
        go_enter Tryd.func34, Tryd.ntmps34
        go_wp2_with (first
          | (go_at_call 27; (with_reducible refine (C1.out _).mono ?_); rintro e w1 ⟨rfl, p1⟩)
          | (go_at_call 54; (with_reducible refine (C2.out _).mono ?_); rintro e w2 ⟨rfl, rfl⟩)
          | (go_at_call 55; (with_reducible refine (C3.out _).mono ?_); rintro e w3 ⟨rfl, rfl⟩)
          | fail)
        go_ret2
        exact ⟨ret_si HA.out.1 HA.out.2, p1⟩
      | true =>
        have hzi : z = ⟨(inner s.data.toList).toArray⟩ := by
          rw [hz, cut_last hc, hta]; rfl
        rw [hc] at hsh
        have hum := um_uq hE hsh
        rw [← hzi] at hum
        have c4 := fun w => unmark_any z (by omega) w
        simp only [hum.1, hum.2] at c4
        have C4 := Lib.hid c4
        simp only [hc] at c3
        have C3 := Lib.hid c3
        clear c2 c3 c4 ht hts hz hzs ho hsh hE hc hta hzi hum
        go_enter Tryd.func34, Tryd.ntmps34
        go_wp2_with (first
          | (go_at_call 27; (with_reducible refine (C1.out _).mono ?_); rintro e w1 ⟨rfl, p1⟩)
          | (go_at_call 54; (with_reducible refine (C2.out _).mono ?_); rintro e w2 ⟨rfl, rfl⟩)
          | (go_at_call 55; (with_reducible refine (C3.out _).mono ?_); rintro e w3 ⟨rfl, rfl⟩)
          | (go_at_call 56; (with_reducible refine (C4.out _).mono ?_); rintro e w4 ⟨rfl, p4⟩)
          | fail)
        go_ret2
        exact ⟨rfl, p4.from p1⟩
  · have HA := Lib.hid (uq_bad hE)
    simp only [hE] at c1
    have C1 := Lib.hid c1
    clear c1 hE
    go_enter Tryd.func34, Tryd.ntmps34
    go_wp2_with (first | (go_at_call 27; (with_reducible refine (C1.out _).mono ?_); rintro e w1 ⟨rfl, p1⟩) | fail)
    go_ret2
    exact ⟨ret_si HA.out.1 HA.out.2, p1⟩

end Go.Proofs.YtejppikbdplamaaDoor.Runes
