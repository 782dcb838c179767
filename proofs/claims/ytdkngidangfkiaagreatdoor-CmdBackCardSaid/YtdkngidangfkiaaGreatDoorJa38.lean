/-
  Joined out of: The walk of Show: a command that may be; all commands.
-/
import Derived.Test.YtdkngidangfkiaaGreatDoorJa37
import Derived.Deep.LoopGhost
namespace Go.Proofs.YtdkngidangfkiaaGreatDoor.Cmd
open Go.RowKit
open Base
open HoursLib (BldR Kept)
open Shape (altC altC_length)
set_option linter.unusedVariables false
set_option linter.unusedSimpArgs false
theorem own_kept {b4 b : Nat} {v : Value} {F : List Fd} {W U : World} (o : OwnS 2 fdC b4 57 v F W) (k : Kept b W U) (hb : b < b4) (hF : 0 < F.length) : OwnS 2 fdC b4 57 v F U := by
  rcases o.1.2 with ⟨rfl, hn⟩ | ⟨x, cap, cur, rfl, q1, q2, q3⟩
  · omega
  · have h := k x _ q2 (by intro e; injection e with e; omega) (by intro c fz e; injection e with _ e; revert e; decide)
    have hl := (Array.getElem?_eq_some_iff.1 h).1
    exact ⟨⟨o.1.1, .inr ⟨x, cap, cur, rfl, q1, h, q3⟩⟩, by omega⟩
structure SwAt (w W : World) (b b4 : Nat) (v : Value) (HL : List UInt8) (F : List Fd) (k : Nat) : Prop where
  le : k ≤ F.length
  bld : BldR w w.heap.size b (HL ++ fldT (F.take k)) W
  own : OwnS 2 fdC b4 57 v F W
set_option maxRecDepth 100000 in
set_option maxHeartbeats 4000000 in
theorem show_yes (c : Co) (va vd : Value) (w : World) (hT : Tb w) (h1 : Row w va c.alts) (h2 : Row w vd c.after) (hn : c.name.size ≤ 1000000) (hu : c.user.size ≤ 1000000) (ha : c.account.size ≤ 1000000) (hm : mayC c = true) :
    Calls Tryz.prog 9 #[cmdV c va vd] w fun e w' => e = .returned (.tuple #[.string (showC c).1, .int .i64 (showC c).2]) ∧ Below w.heap.size w w' := by
  have mn := may_n hm
  have c1 := fun w2 (hb : Below w.heap.size w w2) => check_any c va vd w2 (hT.later hb) (h1.below hb) (h2.below hb) hn hu ha
  have c2 := fun w2 (hb : Below w.heap.size w w2) => head_any c va vd w2 (hT.later hb) (h1.below hb) (h2.below hb) mn.kind hn mn.node mn.job
  have c3 := fun w2 (hb : Below w.heap.size w w2) => fields_any c va vd w2 (hT.later hb) (h1.below hb) (h2.below hb) mn.alts mn.few1 mn.few2 mn.deps
  have hs : showC c = if 400 < (lineT c).length then (nil_, 3) else (lineB c, 0) := by unfold showC; rw [if_pos hm]
  have hc : chkC c = 0 := by unfold chkC; rw [hm]; rfl
  rw [hc] at c1
  have hfs := fds_small hm
  have hff := fds_few hm
  have hhl := head_len hm
  have hlt : lineT c = headT c ++ fldT (fieldsC c) := rfl
  have hlb : lineB c = ⟨(lineT c).toArray⟩ := rfl
  rw [hlb, hlt] at hs
  obtain ⟨F, hF⟩ : ∃ F, F = fieldsC c := ⟨_, rfl⟩
  rw [← hF] at hfs hff hs c3
  obtain ⟨HL, hHL⟩ : ∃ l, l = headT c := ⟨_, rfl⟩
  have hhb : headB c = ⟨HL.toArray⟩ := by unfold headB; rw [hHL]
  rw [← hHL] at hhl hs
  rw [hhb] at c2
  obtain ⟨SB, hSB⟩ : ∃ x, x = showC c := ⟨_, rfl⟩
  rw [← hSB] at hs ⊢
  obtain ⟨pd, qd, rfl, l2, m2, r2, n2⟩ := h2
  obtain ⟨pa, qa, rfl, l1, m1, r1, n1⟩ := h1
  have hbx : ∀ w2, Below (w.alloc (.cells #[.int .i64 c.kind, .int .i64 c.job, .string c.name, .string c.user, .string c.account, .int .i64 c.sk, .slice pa c.alts.length qa, .int .i64 c.mn, .int .i64 c.mx, .int .i64 c.wl, .int .i64 c.prio, .bool c.hasPrio, .int .i64 c.time, .bool c.hasTime, .slice pd c.after.length qd, .int .i64 c.node, .int .i64 c.nodes, .int .i64 c.frm] 27)).heap.size (w.alloc (.cells #[.int .i64 c.kind, .int .i64 c.job, .string c.name, .string c.user, .string c.account, .int .i64 c.sk, .slice pa c.alts.length qa, .int .i64 c.mn, .int .i64 c.mx, .int .i64 c.wl, .int .i64 c.prio, .bool c.hasPrio, .int .i64 c.time, .bool c.hasTime, .slice pd c.after.length qd, .int .i64 c.node, .int .i64 c.nodes, .int .i64 c.frm] 27)) w2 → w2.heap[w.heap.size]? = some (.cells #[.int .i64 c.kind, .int .i64 c.job, .string c.name, .string c.user, .string c.account, .int .i64 c.sk, .slice pa c.alts.length qa, .int .i64 c.mn, .int .i64 c.mx, .int .i64 c.wl, .int .i64 c.prio, .bool c.hasPrio, .int .i64 c.time, .bool c.hasTime, .slice pd c.after.length qd, .int .i64 c.node, .int .i64 c.nodes, .int .i64 c.frm] 27) := fun w2 hb => box_cmd hb
  unfold cmdV at c1 c2 c3 ⊢
  have C1 := Lib.hid c1
  have C2 := Lib.hid c2
  have C3 := Lib.hid c3
  have HBX := Lib.hid hbx
  have HB0 := Lib.hid (below_one (w := w) (.cells #[.int .i64 c.kind, .int .i64 c.job, .string c.name, .string c.user, .string c.account, .int .i64 c.sk, .slice pa c.alts.length qa, .int .i64 c.mn, .int .i64 c.mx, .int .i64 c.wl, .int .i64 c.prio, .bool c.hasPrio, .int .i64 c.time, .bool c.hasTime, .slice pd c.after.length qd, .int .i64 c.node, .int .i64 c.nodes, .int .i64 c.frm] 27))
  have HFS := Lib.hid hfs
  have HS := Lib.hid hs
  have HT := Lib.hid hT
  have HHL := Lib.hid hhl
  clear c1 c2 c3 hs hc hT r1 r2 n1 n2 hm hfs hlt hlb hF hHL hhb hSB hhl hbx mn hn hu ha
  go_enter Tryz.func9, Tryz.ntmps9
  go_wp2_with (first
    | (go_at_call 11; go_loud ((with_reducible refine (C1.out _ HB0.out).mono ?_); rintro e w1 ⟨rfl, p1⟩; have X1 := Lib.hid (HBX.out w1 p1); have Q1 := Lib.hid (HB0.out.trans (p1.mono HB0.out.size)); have hq1 := HoursLib.bldR_new w w1 Q1.out _ rfl; have R1 := Lib.hid hq1; have X1b := Lib.hid ((Lib.alloc_old w1 (.cells #[.pointer none, .slice none 0 0] 46) w.heap.size (Array.getElem?_eq_some_iff.1 X1.out).1).trans X1.out); clear hq1 p1))
    | (go_at_call 19; go_loud ((with_reducible refine (C2.out _ (Hours.bldBel R1.out)).mono ?_); rintro e w2 ⟨rfl, p2⟩; have R2 := Lib.hid (R1.out.below p2); have X2 := Lib.hid ((p2.block w.heap.size (Array.getElem?_eq_some_iff.1 X1b.out).1).trans X1b.out)))
    | (go_at_call 18; go_loud ((with_reducible refine (HoursLib.writeString_r w w2 w.heap.size w1.heap.size [] ⟨HL.toArray⟩ R2.out (by have h9 := HHL.out; have h8 : (⟨HL.toArray⟩ : ByteArray).size = HL.length := Lib.size_eq _; rw [h8]; simp only [List.length_nil]; omega)).mono ?_); rintro e w3 ⟨rfl, r3, k3⟩; have R3 := Lib.hid r3; have X3 := Lib.hid (k3 w.heap.size _ X2.out (by intro e; injection e with e; have := X1.out; have := (Array.getElem?_eq_some_iff.1 this).1; omega) (by intro c fz e; injection e with _ e; revert e; decide))))
    | (go_at_call 20; go_loud ((with_reducible refine (C3.out _ (Hours.bldBel R3.out)).mono ?_); rintro e w4 ⟨v4, b4, rfl, hb4, ho4, p4⟩; obtain ⟨o4, q4, rfl, hr4, _, _, hm4⟩ := ho4.value fdC_length; have R4 := Lib.hid (R3.out.below p4)))
    | (refine ld_cmd rfl (.tmp 1) rfl w.heap.size _ _ rfl X3.out rfl ?_)
    | (refine ld_cmd rfl (.tmp 1) rfl w.heap.size _ _ rfl X1b.out rfl ?_)
    | (refine ld_cmd rfl (.tmp 1) rfl w.heap.size _ _ rfl (heap_alloc_new w _) rfl ?_)
    | fail)
  clear hr4 hm4
  have hst : SwAt w w4 w1.heap.size b4 (.slice o4 F.length q4) HL F 0 := ⟨Nat.zero_le _, by have := R4.out; rw [List.nil_append] at this; rw [List.take_zero]; show BldR w w.heap.size w1.heap.size (HL ++ []) w4; rw [List.append_nil]; exact this, ho4⟩
  have HST := Lib.hid hst
  have hbb : w1.heap.size < b4 := by
    rcases R3.out.1 with ⟨_, v, h, _⟩ | ⟨_, v, h, _⟩
    · have := (Array.getElem?_eq_some_iff.1 h).1; omega
    · have := (Array.getElem?_eq_some_iff.1 h).1; omega
  have HBB := Lib.hid hbb
  clear hst hbb ho4 R1 R2 R3 r3 k3 R4 hb4 p4 X1 X1b X2 X3 C1 C2 C3 HBX HB0
  go_loopw [19] (fun i wr => ∃ k : Nat, i = .int .i64 (k : Int) ∧ SwAt w wr w1.heap.size b4 (.slice o4 F.length q4) HL F k) (fun i _ => F.length - (intOf i).toNat)
  case atStart => exact ⟨0, rfl, HST.out⟩
  case round =>
    obtain ⟨k, rfl, hs⟩ := hrel
    have hk := hs.le
    have HS0 := Lib.hid hs
    by_cases hp : k < F.length
    · obtain ⟨_, _, e1, hr, _, _, _⟩ := hs.own.value fdC_length
      injection e1 with e1 _ e2
      subst e1
      obtain ⟨bb, off, rfl, y0, y1⟩ := fd_cells hr hp
      have hft := fld_take F k hp
      have hfs := HFS.out _ (List.getElem_mem hp)
      have hll := fld_len (F.take k) (fun f hf => (HFS.out f (List.mem_of_mem_take hf)).2.2.2)
      obtain ⟨⟨s, v⟩, hf⟩ : ∃ f : Fd, f = F[k] := ⟨_, rfl⟩
      rw [← hf] at y0 y1 hft hfs
      dsimp only at y0 y1 hfs
      obtain ⟨T, y, hv⟩ := vl_cases v
      rw [hv] at y1
      have HV := Lib.hid hv
      have HFT := Lib.hid hft
      have HF2 := Lib.hid hfs
      have HLL := Lib.hid hll
      have hlow : (0 : Int) ≤ (k : Int) := by omega
      have hup : (k : Int) < ((F.length : Nat) : Int) := by omega
      clear hft hfs hll hf hs hr e2 hv
      go_upto_region 9 with fail
      have hnb : wr.heap.size ≠ w1.heap.size := by
        rcases HS0.out.bld.1 with ⟨_, v, h, _⟩ | ⟨_, v, h, _⟩
        · have := (Array.getElem?_eq_some_iff.1 h).1; omega
        · have := (Array.getElem?_eq_some_iff.1 h).1; omega
      have HNB := Lib.hid hnb
      clear hnb
      refine show_r9 w w.heap.size w1.heap.size wr.heap.size (HL ++ fldT (F.take k)) s v _ (HS0.out.bld.alloc _) (by rw [HV.out]; exact heap_alloc_new wr _) HNB.out (HT.out.later (Hours.bldBel (HS0.out.bld.alloc _))) HF2.out.1 HF2.out.2.1 HF2.out.2.2.1 (by have h7 := HLL.out; have h8 := HHL.out; rw [List.length_append]; rw [List.length_take] at h7; omega) _ _ _ _ _ _ _ _ _ _ _ _ _ _ _ _ _ _ _ _ _ _ _ _ _ _ _ _ _ _ _ _ _ _ _ (fun _ _ _ _ _ h => h) (fun W2 u23 u24 u25 u26 u27 u28 u29 u30 u31 hB2 hK2 => ?_)
      have HB2 := Lib.hid hB2
      have HK2 := Lib.hid hK2
      clear hB2 hK2
      go_wp2
      refine ⟨⟨k + 1, by go_num, ⟨by omega, ?_, ?_⟩⟩, ?_⟩
      · rw [HFT.out, ← List.append_assoc]; exact HB2.out
      · exact own_kept (HS0.out.own.alloc _) HK2.out HBB.out (by omega)
      · simp [intOf]; omega
    · have hlow : ¬ (k : Int) < ((F.length : Nat) : Int) := by omega
      have hbl := hs.bld
      rw [List.take_of_length_le (by omega)] at hbl
      obtain ⟨L, hL⟩ : ∃ l, l = HL ++ fldT F := ⟨_, rfl⟩
      rw [← hL] at hbl HS
      have HBL := Lib.hid hbl
      clear hL hbl hs HS0 HST
      by_cases h4 : 400 < L.length
      · have h5 : (400 : Int) < ((L.length : Nat) : Int) := by omega
        have hsb : SB = (nil_, 3) := by have := HS.out; rw [if_pos h4] at this; exact this
        subst hsb
        clear HS h4
        go_wp2_with (first
          | (go_at_call 21; go_loud ((with_reducible refine (len_r w _ w.heap.size w1.heap.size L HBL.out).mono ?_); rintro e w5 ⟨rfl, rfl⟩))
          | fail)
        go_ret2
        exact ⟨rfl, Hours.bldBel HBL.out⟩
      · have h5 : ¬ (400 : Int) < ((L.length : Nat) : Int) := by omega
        have hsb : SB = (⟨L.toArray⟩, 0) := by have := HS.out; rw [if_neg h4] at this; exact this
        subst hsb
        clear HS h4
        go_wp2_with (first
          | (go_at_call 21; go_loud ((with_reducible refine (len_r w _ w.heap.size w1.heap.size L HBL.out).mono ?_); rintro e w5 ⟨rfl, rfl⟩))
          | (go_at_call 22; go_loud ((with_reducible refine (HoursLib.string_r w _ w.heap.size w1.heap.size L HBL.out).mono ?_); rintro e w6 ⟨rfl, p6⟩))
          | fail)
        go_ret2
        exact ⟨rfl, p6⟩
theorem show_any (c : Co) (va vd : Value) (w : World) (hT : Tb w) (h1 : Row w va c.alts) (h2 : Row w vd c.after) (hn : c.name.size ≤ 1000000) (hu : c.user.size ≤ 1000000) (ha : c.account.size ≤ 1000000) :
    Calls Tryz.prog 9 #[cmdV c va vd] w fun e w' => e = .returned (.tuple #[.string (showC c).1, .int .i64 (showC c).2]) ∧ Below w.heap.size w w' := by
  cases hm : mayC c with
  | true => exact show_yes c va vd w hT h1 h2 hn hu ha hm
  | false => exact show_no c va vd w hT h1 h2 hn hu ha hm
end Go.Proofs.YtdkngidangfkiaaGreatDoor.Cmd
