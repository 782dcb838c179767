/-
  The walks of layer 4's small letters.
-/
import Derived.Test.YtejppikbdplamaaGreatDoorRunesCut
namespace Go.Proofs.YtejppikbdplamaaGreatDoor.Runes
open Go.RowKit
open Base Bld
set_option linter.unusedVariables false

def lowS (s : ByteArray) : ByteArray := ⟨(s.data.toList.map lowB).toArray⟩
/-- The bytes, those up to a place already turned. -/
def lowTo (l : List UInt8) (pos : Nat) : List UInt8 := (l.take pos).map lowB ++ l.drop pos

theorem lowTo_zero (l : List UInt8) : lowTo l 0 = l := by simp [lowTo]
theorem lowTo_all (l : List UInt8) (pos : Nat) (h : l.length ≤ pos) : lowTo l pos = l.map lowB := by simp [lowTo, List.take_of_length_le h, List.drop_eq_nil_of_le h]
theorem lowTo_length (l : List UInt8) (pos : Nat) : (lowTo l pos).length = l.length := by simp [lowTo]; omega
theorem lowTo_at (l : List UInt8) (pos : Nat) (h : pos < l.length) (h' : pos < (lowTo l pos).length) : (lowTo l pos)[pos] = l[pos] := by
  have e : (lowTo l pos)[pos]? = l[pos]? := by
    unfold lowTo
    rw [List.getElem?_append_right (by simp; omega), List.length_map, List.length_take, Nat.min_eq_left (by omega), Nat.sub_self, List.getElem?_drop, Nat.add_zero]
  rw [List.getElem?_eq_getElem h, List.getElem?_eq_getElem h', Option.some.injEq] at e
  exact e
theorem set_mid {α : Type} (A t : List α) (x y : α) (p : Nat) (h : A.length = p) : (A ++ x :: t).set p y = A ++ y :: t := by subst h; simp
theorem lowTo_next (l : List UInt8) (pos : Nat) (h : pos < l.length) : lowTo l (pos + 1) = (lowTo l pos).set pos (lowB l[pos]) := by
  have hl : ((l.take pos).map lowB).length = pos := by simp; omega
  unfold lowTo
  rw [List.take_succ_eq_append_getElem h, List.map_append, List.drop_eq_getElem_cons h, List.append_assoc, set_mid _ _ _ _ _ hl]
  rfl

/-- One of A to Z: its byte is turned. -/
theorem lowTo_one (s : ByteArray) (pos : Nat) (hp : pos < s.size) (hl : pos < s.data.toList.length) (h1 : 65 ≤ (Utf8.decode s pos).1) (h2 : (Utf8.decode s pos).1 ≤ 90) :
    (Utf8.decode s pos).2 = 1 ∧ s.data.toList[pos].toNat = (Utf8.decode s pos).1 ∧ (lowB s.data.toList[pos]).toNat = (Utf8.decode s pos).1 + 32 := by
  have hd := low_head _ (drop_ne s pos hp)
  rw [Lib.decodeL_drop] at hd
  rcases hd with ⟨_, _, h3, h4⟩ | ⟨h3, _⟩
  · have h5 : s.data.toList[pos].toNat = (Utf8.decode s pos).1 := by
      rw [← h4]; congr 1
      simp [List.getD, List.getElem?_drop, List.getElem?_eq_getElem hl]
    refine ⟨h3, h5, ?_⟩
    unfold lowB
    rw [if_pos ⟨by omega, by omega⟩, UInt8.toNat_add, h5]
    show ((Utf8.decode s pos).1 + 32) % 256 = _
    omega
  · exact absurd ⟨h1, h2⟩ h3

theorem lowTo_more (s : ByteArray) (pos : Nat) (hp : pos < s.size) (h : ¬ (65 ≤ (Utf8.decode s pos).1 ∧ (Utf8.decode s pos).1 ≤ 90)) : lowTo s.data.toList (pos + (Utf8.decode s pos).2) = lowTo s.data.toList pos := by
  have hd := low_head _ (drop_ne s pos hp)
  rw [Lib.decodeL_drop] at hd
  rcases hd with ⟨h1, h2, _⟩ | ⟨_, h4⟩
  · exact absurd ⟨h1, h2⟩ h
  · unfold lowTo
    rw [List.take_add, List.map_append, h4, ← List.drop_drop, List.append_assoc, List.take_append_drop]

theorem byteRow_other {w w' : World} {b : Nat} {l : List UInt8} (h : ByteRow w b l) (hh : w'.heap[b]? = w.heap[b]?) : ByteRow w' b l := fun i hi => by
  have := h i hi
  simp only [World.cell?, World.frozen?, hh] at this ⊢
  exact this

set_option maxRecDepth 100000 in
set_option maxHeartbeats 1000000 in
theorem lower_any (s : ByteArray) (hs : s.size ≤ 1000000) (w : World) :
    Calls Tryz.prog 36 #[.string s] w fun e w' => e = .returned (.string (lowS s)) ∧ Below w.heap.size w w' := by
  obtain ⟨W, C, hcv, hR, hB, hsz⟩ := conv_at (P := Tryz.prog) w 9 40 5 s Tryz.underlying9 Tryz.underlying40 Tryz.underlying5
  have HRW := Lib.hid hR
  have HBW := Lib.hid hB
  clear hR hB
  go_enter Tryz.func36, Tryz.ntmps36
  go_wp2
  go_loopw [] (fun wr => ∃ pos : Nat, wr.heap[W.heap.size]? = some (.stringIter s pos) ∧ ByteRow wr w.heap.size (lowTo s.data.toList pos) ∧ Below w.heap.size w wr ∧ pos ≤ s.size) (fun wr => s.size - wr.iterPos W.heap.size)
  case atStart => exact ⟨0, World.iter_heap W s 0, by rw [lowTo_zero]; exact HRW.out.below (below_iter W s 0), (below_iter W s 0).from HBW.out, Nat.zero_le _⟩
  case round =>
    obtain ⟨pos, hit, hr, hb, hp0⟩ := hrel
    by_cases hp : pos < s.size
    · have hnx : ∀ ty, (Instr.next (.pointer (some ⟨W.heap.size, 0, none⟩)) true ty).run Tryz.prog wr = _ := fun ty => Lib.run_next_any_at wr W.heap.size s pos ty hit hp
      have hwd := ps_width s pos hp
      have hm0 : wr.iterPos W.heap.size = pos := by simp [World.iterPos, hit]
      have hit2 := Lib.iterAt_heap wr W.heap.size s pos (pos + (Utf8.decode s pos).2) hit
      have hr2 := byteRow_other hr (Lib.iterAt_other wr W.heap.size w.heap.size s (pos + (Utf8.decode s pos).2) (by omega))
      have hb2 := Lib.below_iterAt hb (k := W.heap.size) (by omega) s (pos + (Utf8.decode s pos).2)
      have hm2 : (wr.iterAt W.heap.size s (pos + (Utf8.decode s pos).2)).iterPos W.heap.size = pos + (Utf8.decode s pos).2 := by simp [World.iterPos, hit2]
      by_cases hA : 65 ≤ (Utf8.decode s pos).1 ∧ (Utf8.decode s pos).1 ≤ 90
      · have hl : pos < s.data.toList.length := by rw [← Lib.size_eq]; exact hp
        have hl' : pos < (lowTo s.data.toList pos).length := by rw [lowTo_length]; exact hl
        obtain ⟨h1, h2, h3⟩ := lowTo_one s pos hp hl hA.1 hA.2
        obtain ⟨hc, hz⟩ := hr2 pos hl'
        rw [lowTo_at _ _ hl, h2] at hc
        have hst := hr2.set pos (lowB s.data.toList[pos])
        rw [h3, ← lowTo_next _ _ hl, show (((Utf8.decode s pos).1 + 32 : Nat) : Int) = ((Utf8.decode s pos).1 : Int) + 32 by omega, show pos + 1 = pos + (Utf8.decode s pos).2 by omega] at hst
        have HST := Lib.hid hst
        have HIT := Lib.hid hit2
        have HB2 := Lib.hid hb2
        have HM2 := Lib.hid hm2
        have H1 := Lib.hid h1
        clear hst hit2 hb2 hm2 h1 hr2 hr hb
        go_wp2_with (first | (go_at_call 60; (with_reducible refine (within_any _ _ _ _).mono ?_); rintro e w' ⟨rfl, rfl⟩) | fail)
        have hit3 : ((wr.iterAt W.heap.size s (pos + (Utf8.decode s pos).2)).setCell ⟨w.heap.size, pos, none⟩ (.int .u8 (((Utf8.decode s pos).1 : Int) + 32))).heap[W.heap.size]? = some (.stringIter s (pos + (Utf8.decode s pos).2)) := by
          rw [Below.heap_setCell _ _ _ _ (by simp; omega)]; exact HIT.out
        refine ⟨⟨_, hit3, HST.out, HB2.out.setCell (p := ⟨w.heap.size, pos, none⟩) (Nat.le_refl _) _, hwd.2.1⟩, ?_⟩
        rw [hm0]
        simp only [World.iterPos, hit3]
        omega
      · have HR2 := Lib.hid hr2
        have HIT := Lib.hid hit2
        have HB2 := Lib.hid hb2
        have HM2 := Lib.hid hm2
        have HM := Lib.hid (lowTo_more s pos hp hA)
        have hAf : decide ((65 : Int) ≤ ((Utf8.decode s pos).1 : Int) ∧ ((Utf8.decode s pos).1 : Int) ≤ 90) = false := by rw [decide_eq_false_iff_not]; omega
        clear hr2 hr hb hb2 hit2 hm2
        go_wp2_with (first | (go_at_call 60; (with_reducible refine (within_any _ _ _ _).mono ?_); rintro e w' ⟨rfl, rfl⟩) | fail)
        refine ⟨⟨_, HIT.out, by rw [HM.out]; exact HR2.out, HB2.out, hwd.2.1⟩, ?_⟩
        rw [hm0, HM2.out]; omega
    · have hnx : ∀ ty, (Instr.next (.pointer (some ⟨W.heap.size, 0, none⟩)) true ty).run Tryz.prog wr = _ := fun ty => Lib.run_next_end_at wr W.heap.size s pos ty hit hp
      have hcv2 := run_conv_row (P := Tryz.prog) hr 40 9 5 Tryz.underlying40 Tryz.underlying5 Tryz.underlying9 s.size C (by rw [lowTo_length, Lib.size_eq])
      have HA : Hid ((⟨(lowTo s.data.toList pos).toArray⟩ : ByteArray) = lowS s) := Lib.hid (by rw [lowTo_all _ _ (by rw [← Lib.size_eq]; omega)]; rfl)
      have HB := Lib.hid hb
      clear hr hb
      go_wp2
      go_ret
      exact ⟨ret_str HA.out, HB.out⟩

end Go.Proofs.YtejppikbdplamaaGreatDoor.Runes
