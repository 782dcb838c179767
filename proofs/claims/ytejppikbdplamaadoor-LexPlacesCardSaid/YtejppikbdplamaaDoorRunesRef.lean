/-
  The walks of the document's own answers of layer 4 that go byte by byte.
-/
import Derived.Test.YtejppikbdplamaaDoorRunesLow
namespace Go.Proofs.YtejppikbdplamaaDoor.Runes
open Go.RowKit
open Base Bld
set_option linter.unusedVariables false

/-- 'string(b)' of a slice of the call's own, empty or not. -/
theorem own_conv {P : Program} {w : World} {B : Nat} {t : TypeId} {v : Value} {zs : List UInt8} (h : Own Base.u8 B t v zs w) (src dst e : TypeId) (hs : P.underlying src = some (.slice e)) (he : P.underlying e = some (.int .u8)) (hd : P.underlying dst = some .string) :
    (convert src dst v).run P w = .ok (.string ⟨zs.toArray⟩) w := by
  obtain ⟨ao, cap, rfl, hr, hn, _, _⟩ := h.value
  by_cases h0 : zs = []
  · subst h0
    cases ao with
    | none => exact run_convert_bytes_nil w src e hs he _ _ dst hd
    | some a =>
      rcases h.1.2 with ⟨h1, _⟩ | ⟨g, c, cur, h1, _⟩
      · cases h1
      · injection h1 with h1
        rw [h1]
        have := run_convert_bytes_arg (P := P) w src e hs he g 0 0 cap [] rfl (fun i hi => absurd hi (Nat.not_lt_zero i)) dst hd
        rw [List.length_nil]
        exact this
  · obtain ⟨g, rfl, hl, hb⟩ := h.byteRow h0
    exact run_conv_row hb src dst e hs he hd _ _ rfl

theorem info_u8 : (Tryd.prog.info? 5).map (fun i => (i.zero, i.size, i.bytes)) = some (some (.int .u8 0), 1, 1) := by kernel_rfl
theorem one_of {w : World} {n : Nat} {val : Value} (x : UInt8) (hn : n = w.heap.size) (hv : val = Base.u8 x) : Reads Base.u8 (w.alloc (.cells #[val] 5)) (some ⟨n, 0, none⟩) [x] := by
  subst hv; exact reads_one hn x _

def lowK (s : ByteArray) (k : Nat) : List UInt8 := (s.data.toList.take k).map lowB

set_option maxRecDepth 100000 in
set_option maxHeartbeats 1000000 in
theorem rlower_any (s : ByteArray) (hs : s.size ≤ 1000000) (w : World) :
    Calls Tryd.prog 37 #[.string s] w fun e w' => e = .returned (.string (lowS s)) ∧ Below w.heap.size w w' := by
  obtain ⟨i0, hi, hz0, hz1, hz2⟩ := info_parts info_u8
  have HI := Lib.hid hi
  have HZ0 := Lib.hid hz0
  have HZ1 := Lib.hid hz1
  have HZ2 := Lib.hid hz2
  clear hi hz0 hz1 hz2
  go_enter Tryd.func37, Tryd.ntmps37
  go_wp2
  go_loopw [3, 4] (fun v i wr => ∃ k : Nat, i = .int .i64 (k : Int) ∧ k ≤ s.size ∧ Own Base.u8 w.heap.size 5 v (lowK s k) wr ∧ Below w.heap.size w wr) (fun _ i _ => s.size - (intOf i).toNat)
  case atStart => exact ⟨0, rfl, Nat.zero_le _, Own.nil (Nat.le_refl _), Below.refl _ _⟩
  case round =>
    obtain ⟨k, rfl, hk, ho, hb⟩ := hrel
    have HO := Lib.hid ho
    have HB := Lib.hid hb
    by_cases hp : k < s.size
    · have hl : k < s.data.toList.length := by rw [← Lib.size_eq]; exact hp
      have hx : s.data.toList[k] = s[k] := Array.getElem_toList hp
      have HN : Hid (lowK s k ++ [lowB s[k]] = lowK s (k + 1)) := Lib.hid (by unfold lowK; rw [List.take_succ_eq_append_getElem hl, List.map_append, hx]; rfl)
      have HL : Hid ((lowK s k).length = k) := Lib.hid (by unfold lowK; simp; omega)
      obtain ⟨ao, cap, rfl, _, _, _, _⟩ := ho.value
      have hx255 := s[k].toNat_lt
      clear ho hb hx
      by_cases hA : 64 < s[k].toNat ∧ s[k].toNat < 91
      · have HV : Hid (Value.int .u8 ((s[k].toNat : Int) + 32) = Base.u8 (lowB s[k])) := Lib.hid (by
          unfold Base.u8 lowB; rw [if_pos hA, UInt8.toNat_add]
          congr 1
          show _ = (((s[k].toNat + 32) % 256 : Nat) : Int)
          omega)
        go_wp2_with (first
          | (at_builtin; refine wpList_append_src rfl (.tmp 21) (.tmp 26) 53 rfl i0 _ 1 Tryd.underlying53 HI.out HZ0.out HZ1.out HZ2.out rfl (fun _ => rfl) rfl (HO.out.alloc _) _ 1 1 [lowB s[k]] rfl rfl (one_of _ rfl HV.out) (by intro h; cases h) (by have := HL.out; omega) (by have := HL.out; unfold maxLen; omega) ?_; intro v4 w4 o4 b4)
          | fail)
        refine ⟨⟨k + 1, by go_num, by omega, by rw [← HN.out]; exact o4, (HB.out.alloc HO.out.2 _).trans b4⟩, ?_⟩
        simp [intOf]; omega
      · have HV : Hid (Value.int .u8 (s[k].toNat : Int) = Base.u8 (lowB s[k])) := Lib.hid (by unfold Base.u8 lowB; rw [if_neg hA])
        go_wp2_with (first
          | (at_builtin; refine wpList_append_src rfl (.tmp 28) (.tmp 32) 53 rfl i0 _ 1 Tryd.underlying53 HI.out HZ0.out HZ1.out HZ2.out rfl (fun _ => rfl) rfl (HO.out.alloc _) _ 1 1 [lowB s[k]] rfl rfl (one_of _ rfl HV.out) (by intro h; cases h) (by have := HL.out; omega) (by have := HL.out; unfold maxLen; omega) ?_; intro v4 w4 o4 b4)
          | fail)
        all_goals
          refine ⟨⟨k + 1, by go_num, by omega, by rw [← HN.out]; exact o4, (HB.out.alloc HO.out.2 _).trans b4⟩, ?_⟩
          simp [intOf]; omega
    · obtain rfl : k = s.size := by omega
      have hcv := own_conv (P := Tryd.prog) ho 53 9 5 Tryd.underlying53 Tryd.underlying5 Tryd.underlying9
      have HA : Hid ((⟨(lowK s s.size).toArray⟩ : ByteArray) = lowS s) := Lib.hid (by unfold lowK; rw [List.take_of_length_le (by rw [← Lib.size_eq]; exact Nat.le_refl _)]; rfl)
      clear ho hb
      go_wp2
      go_ret
      exact ⟨ret_str HA.out, HB.out⟩

/-! Quoting, by the document. -/

def qtS (s : ByteArray) : ByteArray := if ckE s = 0 then ⟨(qt s.data.toList).toArray⟩ else ⟨#[]⟩
def qtK (s : ByteArray) (k : Nat) : List UInt8 := 34 :: mk (s.data.toList.take k)
theorem qtK_le (s : ByteArray) (k : Nat) : (qtK s k).length ≤ 2 * k + 1 := by
  unfold qtK; have := mk_length (s.data.toList.take k); simp at this ⊢; omega
theorem qtK_next (s : ByteArray) (k : Nat) (h : k < s.size) : qtK s (k + 1) = if mkB s[k] = true then (qtK s k ++ [92]) ++ [s[k]] else qtK s k ++ [s[k]] := by
  have hl : k < s.data.toList.length := by rw [← Lib.size_eq]; exact h
  have hx : s.data.toList[k] = s[k] := Array.getElem_toList h
  unfold qtK
  rw [List.take_succ_eq_append_getElem hl, mk_append, mk_cons, hx, mk_nil, List.append_nil]
  split <;> simp
theorem qtK_all (s : ByteArray) : qtK s s.size ++ [34] = qt s.data.toList := by
  unfold qtK qt; rw [List.take_of_length_le (by rw [← Lib.size_eq]; exact Nat.le_refl _)]; rfl
theorem ckE_or (s : ByteArray) : ckE s = 0 ∨ ckE s = 40 := by unfold ckE; split; exact .inr rfl; exact .inl rfl
theorem ret_si {a a' : ByteArray} {e e' : Int} (h : a = a') (h1 : e = e') : Ending.returned (.tuple #[.string a, .int .i64 e]) = .returned (.tuple #[.string a', .int .i64 e']) := by rw [h, h1]
theorem own_eq {B : Nat} {e : TypeId} {v : Value} {zs zs' : List UInt8} {w : World} (h : Own Base.u8 B e v zs w) (hz : zs = zs') : Own Base.u8 B e v zs' w := by rw [← hz]; exact h

set_option maxRecDepth 100000 in
set_option maxHeartbeats 1000000 in
theorem rquote_any (s : ByteArray) (hs : s.size ≤ 1000000) (w : World) :
    Calls Tryd.prog 71 #[.string s] w fun e w' => e = .returned (.tuple #[.string (qtS s), .int .i64 (ckE s)]) ∧ Below w.heap.size w w' := by
  have c1 := fun w => rcheck_any s hs w
  rcases ckE_or s with hE | hE
  · have HA : Hid ((⟨(qt s.data.toList).toArray⟩ : ByteArray) = qtS s) := Lib.hid (by unfold qtS; rw [if_pos hE])
    simp only [hE] at c1 ⊢
    have C1 := Lib.hid c1
    obtain ⟨i0, hi, hz0, hz1, hz2⟩ := info_parts info_u8
    have HI := Lib.hid hi
    have HZ0 := Lib.hid hz0
    have HZ1 := Lib.hid hz1
    have HZ2 := Lib.hid hz2
    clear hi hz0 hz1 hz2 c1
    go_enter Tryd.func71, Tryd.ntmps71
    go_wp2_with (first | (go_at_call 70; (with_reducible refine (C1.out _).mono ?_); rintro e w1 ⟨rfl, p1⟩) | fail)
    have P1 := Lib.hid p1
    go_loopw [6, 7] (fun v i wr => ∃ k : Nat, i = .int .i64 (k : Int) ∧ k ≤ s.size ∧ Own Base.u8 w.heap.size 5 v (qtK s k) wr ∧ Below w.heap.size w wr) (fun _ i _ => s.size - (intOf i).toNat)
    case atStart => exact ⟨0, rfl, Nat.zero_le _, Own.one P1.out.size 34 rfl, (below_one _).from p1⟩
    case round =>
      obtain ⟨k, rfl, hk, ho, hb⟩ := hrel
      have HO := Lib.hid ho
      have HB := Lib.hid hb
      have HL := Lib.hid (qtK_le s k)
      obtain ⟨ao, cap, rfl, _, _, _, _⟩ := ho.value
      clear ho hb p1
      by_cases hp : k < s.size
      · have hnx := qtK_next s k hp
        obtain ⟨z4, hz4⟩ : ∃ z, qtK s k ++ [92] = z := ⟨_, rfl⟩
        have HL4 : Hid (z4.length ≤ 2 * k + 2) := Lib.hid (by have := HL.out; rw [← hz4, List.length_append, List.length_singleton]; omega)
        rw [hz4] at hnx
        have HZ4 := Lib.hid hz4
        clear hz4
        have H92 : Hid (Value.int .u8 92 = Base.u8 92) := Lib.hid rfl
        by_cases hA : s[k].toNat = 34
        · have hb1 : ((s[k].toNat : Int) == 34) = true := by rw [beq_iff_eq]; omega
          have HX : Hid (Value.int .u8 34 = Base.u8 s[k]) := Lib.hid (by unfold Base.u8; rw [hA]; rfl)
          rw [if_pos (by rw [mkB_nat]; simp [mkR]; omega)] at hnx
          have HN := Lib.hid hnx
          clear hnx
          go_wp2_with (first
            | (at_builtin; refine wpList_append_src rfl (.tmp 33) (.tmp 34) 53 rfl i0 _ 1 Tryd.underlying53 HI.out HZ0.out HZ1.out HZ2.out rfl (fun _ => rfl) rfl (HO.out.alloc _) _ 1 1 [92] rfl rfl (one_of _ rfl H92.out) (by intro h; cases h) (by have := HL.out; omega) (by have := HL.out; unfold maxLen; omega) ?_; intro v4 w4 o4 b4; replace o4 := own_eq o4 HZ4.out)
            | (at_builtin; refine wpList_append_src rfl (.tmp 36) (.tmp 40) 53 rfl i0 _ 1 Tryd.underlying53 HI.out HZ0.out HZ1.out HZ2.out rfl (fun _ => rfl) rfl (o4.alloc _) _ 1 1 [s[k]] rfl rfl (one_of _ rfl HX.out) (by intro h; cases h) (by have := HL4.out; omega) (by have := HL4.out; unfold maxLen; omega) ?_; intro v5 w5 o5 b5)
            | fail)
          refine ⟨⟨k + 1, by go_num, by omega, own_eq o5 HN.out.symm, ((HB.out.alloc HO.out.2 _).trans b4).trans (((Below.refl _ w4).alloc o4.2 _).trans b5)⟩, ?_⟩
          simp [intOf]; omega
        · by_cases hA2 : s[k].toNat = 92
          · have hb1 : ((s[k].toNat : Int) == 34) = false := by rw [beq_eq_false_iff_ne]; omega
            have hb2 : ((s[k].toNat : Int) == 92) = true := by rw [beq_iff_eq]; omega
            have HX : Hid (Value.int .u8 92 = Base.u8 s[k]) := Lib.hid (by unfold Base.u8; rw [hA2]; rfl)
            rw [if_pos (by rw [mkB_nat]; simp [mkR]; omega)] at hnx
            have HN := Lib.hid hnx
            clear hnx
            go_wp2_with (first
              | (at_builtin; refine wpList_append_src rfl (.tmp 33) (.tmp 34) 53 rfl i0 _ 1 Tryd.underlying53 HI.out HZ0.out HZ1.out HZ2.out rfl (fun _ => rfl) rfl (HO.out.alloc _) _ 1 1 [92] rfl rfl (one_of _ rfl H92.out) (by intro h; cases h) (by have := HL.out; omega) (by have := HL.out; unfold maxLen; omega) ?_; intro v4 w4 o4 b4; replace o4 := own_eq o4 HZ4.out)
              | (at_builtin; refine wpList_append_src rfl (.tmp 36) (.tmp 40) 53 rfl i0 _ 1 Tryd.underlying53 HI.out HZ0.out HZ1.out HZ2.out rfl (fun _ => rfl) rfl (o4.alloc _) _ 1 1 [s[k]] rfl rfl (one_of _ rfl HX.out) (by intro h; cases h) (by have := HL4.out; omega) (by have := HL4.out; unfold maxLen; omega) ?_; intro v5 w5 o5 b5)
              | fail)
            refine ⟨⟨k + 1, by go_num, by omega, own_eq o5 HN.out.symm, ((HB.out.alloc HO.out.2 _).trans b4).trans (((Below.refl _ w4).alloc o4.2 _).trans b5)⟩, ?_⟩
            simp [intOf]; omega
          · have hb1 : ((s[k].toNat : Int) == 34) = false := by rw [beq_eq_false_iff_ne]; omega
            have hb2 : ((s[k].toNat : Int) == 92) = false := by rw [beq_eq_false_iff_ne]; omega
            have HX : Hid (Value.int .u8 (s[k].toNat : Int) = Base.u8 s[k]) := Lib.hid rfl
            rw [if_neg (by rw [mkB_nat]; simp [mkR]; omega)] at hnx
            have HN := Lib.hid hnx
            clear hnx
            go_wp2_with (first
              | (at_builtin; refine wpList_append_src rfl (.tmp 36) (.tmp 40) 53 rfl i0 _ 1 Tryd.underlying53 HI.out HZ0.out HZ1.out HZ2.out rfl (fun _ => rfl) rfl (HO.out.alloc _) _ 1 1 [s[k]] rfl rfl (one_of _ rfl HX.out) (by intro h; cases h) (by have := HL.out; omega) (by have := HL.out; unfold maxLen; omega) ?_; intro v4 w4 o4 b4)
              | fail)
            refine ⟨⟨k + 1, by go_num, by omega, own_eq o4 HN.out.symm, (HB.out.alloc HO.out.2 _).trans b4⟩, ?_⟩
            simp [intOf]; omega
      · obtain rfl : k = s.size := by omega
        go_wp2_with (first
          | (at_builtin; refine wpList_append_src rfl (.tmp 42) (.tmp 43) 53 rfl i0 _ 1 Tryd.underlying53 HI.out HZ0.out HZ1.out HZ2.out rfl (fun _ => rfl) rfl (HO.out.alloc _) _ 1 1 [34] rfl rfl (one_of _ rfl rfl) (by intro h; cases h) (by have := HL.out; omega) (by have := HL.out; unfold maxLen; omega) ?_; intro v4 w4 o4 b4; rw [qtK_all] at o4; have hcv := own_conv (P := Tryd.prog) o4 53 9 5 Tryd.underlying53 Tryd.underlying5 Tryd.underlying9; clear o4)
          | fail)
        go_ret2
        exact ⟨ret_si HA.out rfl, (HB.out.alloc HO.out.2 _).trans b4⟩
  · have HA : Hid ((⟨#[]⟩ : ByteArray) = qtS s) := Lib.hid (by unfold qtS; rw [if_neg (by omega)])
    simp only [hE] at c1 ⊢
    have C1 := Lib.hid c1
    clear c1
    go_enter Tryd.func71, Tryd.ntmps71
    go_wp2_with (first | (go_at_call 70; (with_reducible refine (C1.out _).mono ?_); rintro e w1 ⟨rfl, p1⟩) | fail)
    go_ret2
    exact ⟨ret_si HA.out rfl, p1⟩

end Go.Proofs.YtejppikbdplamaaDoor.Runes
