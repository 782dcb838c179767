/-
  Joined out of: The walk of what tells the fields of a command.
-/
import Derived.Test.YtdkngidangfkiaaGreatDoorJa30
import Derived.Test.YtdkngidangfkiaaGreatDoorJa11
import Derived.Test.YtdkngidangfkiaaGreatDoorJa27
import Derived.Test.YtdkngidangfkiaaGreatDoorJa28
namespace Go.Proofs.YtdkngidangfkiaaGreatDoor.Cmd
open Go.RowKit
open Base
open Shape (altC altC_length)
set_option linter.unusedVariables false
set_option linter.unusedSimpArgs false
structure FS (U W : World) (zs : List Fd) (n : Nat) : Prop where
  low : Below U.heap.size U W
  own : FOwn W U.heap.size zs
  few : zs.length ≤ n
  cap : n ≤ 900
section
variable {U W W' : World} {zs : List Fd} {n : Nat}
theorem FS.le (h : FS U W zs n) : zs.length ≤ 1000 := by have := h.few; have := h.cap; omega
theorem onF_len (b : Bool) (s : ByteArray) (v : Vl) : (onF b s v).length ≤ 1 := by unfold onF; split <;> simp
theorem FS.more {b : Bool} {s : ByteArray} {v : Vl} (h : FS U W zs n) (ho : FOwn W' U.heap.size (zs ++ onF b s v)) (hb : Below U.heap.size W W') (hn : n + 1 ≤ 900) : FS U W' (zs ++ onF b s v) (n + 1) :=
  ⟨h.low.trans hb, ho, by have := h.few; have := onF_len b s v; rw [List.length_append]; omega, hn⟩
theorem FS.start (U : World) : FS U (U.alloc (.cells #[.slice none 0 0] 52)) [] 0 := ⟨below_one _, ⟨_, heap_alloc_new U _, OwnS.nil (by simp)⟩, Nat.le_refl _, Nat.zero_le _⟩
theorem FS.alloc (h : FS U W zs n) (o : Obj) : FS U (W.alloc o) zs n := by
  obtain ⟨h1, ⟨v, h2, h3⟩, h4, h5⟩ := h
  have hlt : U.heap.size < W.heap.size := (Array.getElem?_eq_some_iff.1 h2).1
  exact ⟨h1.alloc h1.size _, ⟨v, (Lib.alloc_old W o _ hlt).trans h2, h3.below (below_one o)⟩, h4, h5⟩
theorem FS.drew (h : FS U W zs n) : FS U W.drew zs n := by
  obtain ⟨h1, ⟨v, h2, h3⟩, h4, h5⟩ := h
  exact ⟨h1.drew, ⟨v, h2, h3.below ((Below.refl W.heap.size W).drew)⟩, h4, h5⟩
end
theorem ne_nil (s : ByteArray) : (!s.toList.isEmpty) = decide (s ≠ nil_) := by
  have h := key_is s nil_ [] rfl
  have e : (s.toList == []) = s.toList.isEmpty := by cases s.toList <;> rfl
  rw [e] at h
  rw [h]
  by_cases hs : s = nil_ <;> simp [hs]
theorem pair_cells {W : World} {B : Nat} {x y : Value} {T : TypeId} (h : W.heap[B]? = some (.cells #[x, y] T)) : W.cell? ⟨B, 0, none⟩ = some x ∧ W.cell? ⟨B, 1, none⟩ = some y := by simp [World.cell?, h]
theorem bne_dec (n : Int) : (n != 0) = decide (n ≠ 0) := by by_cases h : n = 0 <;> simp [h]
theorem own_cast {b : Nat} {v : Value} {zs zs2 : List Fd} {W : World} (h : OwnS 2 fdC b 57 v zs W) (e : zs = zs2) : OwnS 2 fdC b 57 v zs2 W := e ▸ h
theorem take_map {α β : Type} (f : α → β) (l : List α) (k : Nat) (h : k < l.length) : (l.take (k + 1)).map f = (l.take k).map f ++ [f l[k]] := by
  rw [List.take_succ_eq_append_getElem h, List.map_append, List.map_singleton]
theorem hows_at {w : World} (h : WordsAt w 1 howL) {k : Int} (hk : 0 ≤ k ∧ k ≤ 3) : w.cell? ⟨1, k.toNat, none⟩ = some (.string (howW k)) := h k.toNat (by show k.toNat < 4; omega)
set_option maxRecDepth 100000 in
set_option maxHeartbeats 2000000 in
theorem fields_any (c : Co) (va vd : Value) (w : World) (hT : Tb w) (h1 : Row w va c.alts) (h2 : Row w vd c.after) (hm : c.sk = 1 → c.alts ≠ []) (hl1 : c.alts.length ≤ 100) (hl2 : c.after.length ≤ 100) (hd : ∀ d ∈ c.after, 0 ≤ d.1 ∧ d.1 ≤ 3) :
    Calls Tryz.prog 20 #[cmdV c va vd] w fun e w' => ∃ v b, e = .returned v ∧ w.heap.size ≤ b ∧ OwnS 2 fdC b 57 v (fieldsC c) w' ∧ Below w.heap.size w w' := by
  obtain ⟨pd, qd, rfl, l2, m2, r2, n2⟩ := h2
  obtain ⟨pa, qa, rfl, l1, m1, r1, n1⟩ := id h1
  have cS := fun w2 (hb : Below w.heap.size w w2) => spread_any c _ pd c.after.length qd w2 (h1.below hb) hm
  have hF : fieldsC c = fieldsS (spreadC c) := rfl
  have hSa : (spreadC c).after = c.after := by unfold spreadC; split; rfl; split <;> rfl
  have hSx : (spreadC c).alts = c.alts ∨ (spreadC c).alts = [] := by unfold spreadC; split; exact .inr rfl; split <;> exact .inl rfl
  have hSl : (spreadC c).alts.length ≤ 100 := by unfold spreadC; split; exact Nat.zero_le _; split <;> exact hl1
  rw [hF]
  obtain ⟨S, hS⟩ : ∃ S, S = spreadC c := ⟨_, rfl⟩
  rw [← hS] at cS hSa hSl hSx ⊢
  unfold CoSays at cS
  unfold cmdV at cS ⊢
  obtain ⟨AF, hAF⟩ : ∃ l, l = c.after := ⟨_, rfl⟩
  rw [← hAF] at cS hSa hl2 l2 r2 hd ⊢
  clear hAF
  have C1 := Lib.hid cS
  have HB0 := Lib.hid (below_one (w := w) (.cells #[.int .i64 c.kind, .int .i64 c.job, .string c.name, .string c.user, .string c.account, .int .i64 c.sk, .slice pa c.alts.length qa, .int .i64 c.mn, .int .i64 c.mx, .int .i64 c.wl, .int .i64 c.prio, .bool c.hasPrio, .int .i64 c.time, .bool c.hasTime, .slice pd AF.length qd, .int .i64 c.node, .int .i64 c.nodes, .int .i64 c.frm] 27))
  have HT := Lib.hid hT
  have H1R := Lib.hid h1
  have R2 := Lib.hid r2
  have HSA := Lib.hid hSa
  have HD := Lib.hid hd
  clear cS hT h1 r1 r2 hS hSa hd hF
  go_enter Tryz.func20, Tryz.ntmps20
  go_upto_region 2 with (first
    | (refine ld_cmd rfl (.tmp 1) rfl w.heap.size _ _ rfl (heap_alloc_new w _) rfl ?_)
    | (go_at_call 45; go_loud ((with_reducible refine (C1.out _ HB0.out).mono ?_); rintro e w5 ⟨va5, rfl, r5, p5, n5⟩; obtain ⟨pa5, qa5, rfl, _, _, _, _⟩ := id r5; have hb5 := box_cmd p5))
    | (refine st_cmd rfl (.tmp 1) (.tmp 10) rfl w.heap.size _ _ _ rfl rfl hb5 rfl rfl (by kernel_rfl) ?_)
    | fail)
  have hB5 : Below w.heap.size w w5 := HB0.out.trans (p5.mono HB0.out.size)
  have hU : (w5.setRow w.heap.size #[.int .i64 S.kind, .int .i64 S.job, .string S.name, .string S.user, .string S.account, .int .i64 S.sk, .slice pa5 S.alts.length qa5, .int .i64 S.mn, .int .i64 S.mx, .int .i64 S.wl, .int .i64 S.prio, .bool S.hasPrio, .int .i64 S.time, .bool S.hasTime, .slice pd AF.length qd, .int .i64 S.node, .int .i64 S.nodes, .int .i64 S.frm]).heap[w.heap.size]? = some (.cells #[.int .i64 S.kind, .int .i64 S.job, .string S.name, .string S.user, .string S.account, .int .i64 S.sk, .slice pa5 S.alts.length qa5, .int .i64 S.mn, .int .i64 S.mx, .int .i64 S.wl, .int .i64 S.prio, .bool S.hasPrio, .int .i64 S.time, .bool S.hasTime, .slice pd AF.length qd, .int .i64 S.node, .int .i64 S.nodes, .int .i64 S.frm] 27) := setRow_heap _ _ _ _ _ _ hb5
  have hBU : Below w.heap.size w (w5.setRow w.heap.size #[.int .i64 S.kind, .int .i64 S.job, .string S.name, .string S.user, .string S.account, .int .i64 S.sk, .slice pa5 S.alts.length qa5, .int .i64 S.mn, .int .i64 S.mx, .int .i64 S.wl, .int .i64 S.prio, .bool S.hasPrio, .int .i64 S.time, .bool S.hasTime, .slice pd AF.length qd, .int .i64 S.node, .int .i64 S.nodes, .int .i64 S.frm]) := below_setRow hB5 _ _ (Nat.le_refl _)
  have hRU : Row (w5.setRow w.heap.size #[.int .i64 S.kind, .int .i64 S.job, .string S.name, .string S.user, .string S.account, .int .i64 S.sk, .slice pa5 S.alts.length qa5, .int .i64 S.mn, .int .i64 S.mx, .int .i64 S.wl, .int .i64 S.prio, .bool S.hasPrio, .int .i64 S.time, .bool S.hasTime, .slice pd AF.length qd, .int .i64 S.node, .int .i64 S.nodes, .int .i64 S.frm]) (.slice pa5 S.alts.length qa5) S.alts := by
    rcases n5 with e | n5
    · rcases hSx with hSx | hSx
      · have h : Row w (.slice pa5 S.alts.length qa5) S.alts := by rw [e, hSx]; exact H1R.out
        exact h.below hBU
      · obtain ⟨ao, cap, q1, q2, q3, q4, q5⟩ := r5
        exact ⟨ao, cap, q1, q2, q3, .inl hSx, q5⟩
    · exact r5.setRow _ _ (by rw [World.size_alloc] at n5; exact n5)
  obtain ⟨U, hUU⟩ : ∃ U, U = w5.setRow w.heap.size #[.int .i64 S.kind, .int .i64 S.job, .string S.name, .string S.user, .string S.account, .int .i64 S.sk, .slice pa5 S.alts.length qa5, .int .i64 S.mn, .int .i64 S.mx, .int .i64 S.wl, .int .i64 S.prio, .bool S.hasPrio, .int .i64 S.time, .bool S.hasTime, .slice pd AF.length qd, .int .i64 S.node, .int .i64 S.nodes, .int .i64 S.frm] := ⟨_, rfl⟩
  rw [← hUU] at hU hBU hRU ⊢
  have hRD := R2.out.below altC_length hBU
  have hCU : w.heap.size < U.heap.size := (Array.getElem?_eq_some_iff.1 hU).1
  have hC : ∀ W, Below U.heap.size U W → W.heap[w.heap.size]? = some (.cells #[.int .i64 S.kind, .int .i64 S.job, .string S.name, .string S.user, .string S.account, .int .i64 S.sk, .slice pa5 S.alts.length qa5, .int .i64 S.mn, .int .i64 S.mx, .int .i64 S.wl, .int .i64 S.prio, .bool S.hasPrio, .int .i64 S.time, .bool S.hasTime, .slice pd AF.length qd, .int .i64 S.node, .int .i64 S.nodes, .int .i64 S.frm] 27) := fun W hb => (hb.block _ hCU).trans hU
  have HC := Lib.hid hC
  have HBU := Lib.hid hBU
  have HRU := Lib.hid hRU
  have HRD := Lib.hid hRD
  have hs0 := FS.start U
  have H0 := Lib.hid hs0
  obtain ⟨x0, x1, x2, x3, x4, x5, x6, x7, x8, x9, x10, x11, x12, x13, x14, x15, x16, x17⟩ := all18 (hC _ hs0.low)
  have a1 := fun has W zs (h : FOwn W U.heap.size zs) (hz : zs.length ≤ 1000) => add_any U.heap.size zs has kUser (.word S.user) W h hz
  have a2 := fun has W zs (h : FOwn W U.heap.size zs) (hz : zs.length ≤ 1000) => add_any U.heap.size zs has kAccount (.word S.account) W h hz
  have a3 := fun has W zs (h : FOwn W U.heap.size zs) (hz : zs.length ≤ 1000) => add_any U.heap.size zs has kPrio (.num S.prio) W h hz
  unfold kUser vlV at a1
  unfold kAccount vlV at a2
  unfold kPrio vlV at a3
  dsimp only at a1 a2 a3
  have A1 := Lib.hid a1
  have A2 := Lib.hid a2
  have A3 := Lib.hid a3
  clear a1 a2 a3 hUU hU hBU hRU hRD hC hs0 p5 r5 n5 hb5 hB5 
  go_upto_region 7 with (first
    | (go_at_call 46; go_loud ((with_reducible refine (A1.out _ _ _ H0.out.own H0.out.le).mono ?_); rintro e V1 ⟨rfl, o1, b1, _⟩; have H1 := Lib.hid (H0.out.more o1 b1 (by omega)); (try clear x0 x1 x2 x3 x4 x5 x6 x7 x8 x9 x10 x11 x12 x13 x14 x15 x16 x17); obtain ⟨x0, x1, x2, x3, x4, x5, x6, x7, x8, x9, x10, x11, x12, x13, x14, x15, x16, x17⟩ := all18 (HC.out V1 H1.out.low); clear o1 b1))
    | (go_at_call 46; go_loud ((with_reducible refine (A2.out _ _ _ H1.out.own H1.out.le).mono ?_); rintro e V2 ⟨rfl, o2, b2, _⟩; have H2 := Lib.hid (H1.out.more o2 b2 (by omega)); (try clear x0 x1 x2 x3 x4 x5 x6 x7 x8 x9 x10 x11 x12 x13 x14 x15 x16 x17); obtain ⟨x0, x1, x2, x3, x4, x5, x6, x7, x8, x9, x10, x11, x12, x13, x14, x15, x16, x17⟩ := all18 (HC.out V2 H2.out.low); clear o2 b2))
    | (go_at_call 46; go_loud ((with_reducible refine (A3.out _ _ _ H2.out.own H2.out.le).mono ?_); rintro e V3 ⟨rfl, o3, b3, _⟩; have H3 := Lib.hid (H2.out.more o3 b3 (by omega)); (try clear x0 x1 x2 x3 x4 x5 x6 x7 x8 x9 x10 x11 x12 x13 x14 x15 x16 x17); obtain ⟨x0, x1, x2, x3, x4, x5, x6, x7, x8, x9, x10, x11, x12, x13, x14, x15, x16, x17⟩ := all18 (HC.out V3 H3.out.low); clear o3 b3))
    | fail)
  obtain ⟨P3, hP3⟩ : ∃ P, P = onF (decide (S.user ≠ nil_)) kUser (.word S.user) ++ onF (decide (S.account ≠ nil_)) kAccount (.word S.account) ++ onF S.hasPrio kPrio (.num S.prio) := ⟨_, rfl⟩
  have h3 : FS U V3 P3 3 := by have := H3.out; rw [ne_nil, ne_nil, List.nil_append] at this; rw [hP3]; exact this
  have HP3 := Lib.hid hP3
  have HH3 := Lib.hid h3
  clear h3 hP3 H1 H2 H3
  go_wp2
  go_loopw [38] (fun i wr => ∃ k : Nat, i = .int .i64 (k : Int) ∧ k ≤ AF.length ∧ FS U wr (P3 ++ (AF.take k).map depF) (3 + k)) (fun i _ => AF.length - (intOf i).toNat)
  case atStart => exact ⟨0, rfl, Nat.zero_le _, by simpa using HH3.out⟩
  case round =>
    obtain ⟨k, rfl, hk, hs⟩ := hrel
    have HS := Lib.hid hs
    by_cases hp : k < AF.length
    · obtain ⟨bb, off, rfl, y0, y1⟩ := Shape.alt_cells (HRD.out.below altC_length hs.low) hp
      have hdd := HD.out _ (List.getElem_mem hp)
      have htm := take_map depF AF k hp
      obtain ⟨⟨d1, d2⟩, hdk⟩ : ∃ d, d = AF[k] := ⟨_, rfl⟩
      rw [← hdk] at y0 y1 hdd htm
      dsimp only at y0 y1 hdd
      have HTM := Lib.hid htm
      have hlow : (0 : Int) ≤ (k : Int) := by omega
      have hup : (k : Int) < ((AF.length : Nat) : Int) := by omega
      have a4 := fun W zs (h : FOwn W U.heap.size zs) (hz : zs.length ≤ 1000) => add_any U.heap.size zs true (howW d1) (.id d2) W h hz
      unfold vlV at a4
      dsimp only at a4
      have A4 := Lib.hid a4
      have HDD := Lib.hid hdd
      clear a4 hs hdk htm hdd
      go_upto_region 10 with fail
      have hx := (HS.out.alloc (.cells #[.int .i64 d1, .int .i64 d2] 64)).drew
      have hbw : Below w.heap.size w U := HBU.out
      have hdb : (wr.alloc (.cells #[.int .i64 d1, .int .i64 d2] 64)).heap[wr.heap.size]? = some (.cells #[.int .i64 d1, .int .i64 d2] 64) := heap_alloc_new _ _
      have hlw := (HS.out.alloc (.cells #[.int .i64 d1, .int .i64 d2] 64)).low
      have hUw : U.heap.size ≤ wr.heap.size := HS.out.low.size
      have hUn : U.heap.size < wr.heap.size := by obtain ⟨_, ⟨v, hv, _⟩, _, _⟩ := HS.out; exact (Array.getElem?_eq_some_iff.1 hv).1
      obtain ⟨W0, hW0⟩ : ∃ W0, W0 = wr.alloc (.cells #[.int .i64 d1, .int .i64 d2] 64) := ⟨_, rfl⟩
      rw [← hW0] at hx hdb hlw ⊢
      have HX := Lib.hid hx
      have HDB := Lib.hid hdb
      have hww := fun (W : World) (h : Below U.heap.size U W) => hows_at (HT.out.later (hbw.trans (h.mono hbw.size))).hows HDD.out
      have HWW := Lib.hid hww
      have hd0 := HDD.out.1
      have hd1 : d1 < 4 := by have := HDD.out.2; omega
      have HLW := Lib.hid hlw
      clear hx hbw hW0 hww y0 y1 n2 l2 x0 x1 x2 x3 x4 x5 x6 x7 x8 x9 x10 x11 x12 x13 x14 x15 x16 x17 hdb hlw
      refine wp_region_held_drew (S := fun W => Below U.heap.size U W ∧ W.heap[wr.heap.size]? = some (.cells #[.int .i64 d1, .int .i64 d2] 64)) (by kernel_rfl) (⟨HLW.out.drew, HDB.out⟩) (fun hHeld => ?_)
      refine takeL (i := 0) (v := ?_) rfl (by kernel_rfl) (by kernel_rfl) (by kernel_rfl) (by first | exact fun c a w h => hP c a _ _ w h | exact fun _ _ _ h => h) (Or.inl ⟨by rfl, ?_⟩) (by assumption) ?_
      rotate_left
      · intro W hS; go_simp; (try with_reducible rfl)
      simp only [Act.put, List.setIfInBounds_toArray, List.set_cons_zero, List.set_cons_succ]
      refine takeL (i := 1) (v := ?_) rfl (by kernel_rfl) (by kernel_rfl) (by kernel_rfl) (by first | exact fun c a w h => hP c a _ _ w h | exact fun _ _ _ h => h) (Or.inl ⟨by rfl, ?_⟩) (by assumption) ?_
      rotate_left
      · intro W hS; go_simp; (try with_reducible rfl)
      simp only [Act.put, List.setIfInBounds_toArray, List.set_cons_zero, List.set_cons_succ]
      refine takeL (i := 2) (v := ?_) rfl (by kernel_rfl) (by kernel_rfl) (by kernel_rfl) (by first | exact fun c a w h => hP c a _ _ w h | exact fun _ _ _ h => h) (Or.inl ⟨by rfl, ?_⟩) (by assumption) ?_
      rotate_left
      · intro W hS; have := (pair_cells hS.2).1; go_simp; (try with_reducible rfl)
      simp only [Act.put, List.setIfInBounds_toArray, List.set_cons_zero, List.set_cons_succ]
      refine takeL (i := 3) (v := ?_) rfl (by kernel_rfl) (by kernel_rfl) (by kernel_rfl) (by first | exact fun c a w h => hP c a _ _ w h | exact fun _ _ _ h => h) (Or.inl ⟨by rfl, ?_⟩) (by assumption) ?_
      rotate_left
      · intro W hS; go_simp; (try with_reducible rfl)
      simp only [Act.put, List.setIfInBounds_toArray, List.set_cons_zero, List.set_cons_succ]
      refine takeL (i := 4) (v := ?_) rfl (by kernel_rfl) (by kernel_rfl) (by kernel_rfl) (by first | exact fun c a w h => hP c a _ _ w h | exact fun _ _ _ h => h) (Or.inl ⟨by rfl, ?_⟩) (by assumption) ?_
      rotate_left
      · intro W hS; have := HWW.out W hS.1; go_simp; (try with_reducible rfl)
      simp only [Act.put, List.setIfInBounds_toArray, List.set_cons_zero, List.set_cons_succ]
      refine takeL (i := 5) (v := ?_) rfl (by kernel_rfl) (by kernel_rfl) (by kernel_rfl) (by first | exact fun c a w h => hP c a _ _ w h | exact fun _ _ _ h => h) (Or.inl ⟨by rfl, ?_⟩) (by assumption) ?_
      rotate_left
      · intro W hS; go_simp; (try with_reducible rfl)
      simp only [Act.put, List.setIfInBounds_toArray, List.set_cons_zero, List.set_cons_succ]
      refine takeL (i := 6) (v := ?_) rfl (by kernel_rfl) (by kernel_rfl) (by kernel_rfl) (by first | exact fun c a w h => hP c a _ _ w h | exact fun _ _ _ h => h) (Or.inl ⟨by rfl, ?_⟩) (by assumption) ?_
      rotate_left
      · intro W hS; have := (pair_cells hS.2).2; go_simp; (try with_reducible rfl)
      simp only [Act.put, List.setIfInBounds_toArray, List.set_cons_zero, List.set_cons_succ]
      refine takeL (i := 7) (v := ?_) rfl (by kernel_rfl) (by kernel_rfl) (by kernel_rfl) (by first | exact fun c a w h => hP c a _ _ w h | exact fun _ _ _ h => h) (Or.inl ⟨by rfl, ?_⟩) (by assumption) ?_
      rotate_left
      · intro W hS; go_simp; (try with_reducible rfl)
      simp only [Act.put, List.setIfInBounds_toArray, List.set_cons_zero, List.set_cons_succ]
      refine wpAnyH_ready (rs := [8]) (by kernel_rfl) (by simp) ?_
      refine readyL rfl ?_ ?_
      rotate_left
      · exact AllReadyH.nil
      intro K hK
      go_simp
      go_wp2_with (first
        | (go_at_call 46; go_loud ((with_reducible refine (A4.out _ _ HX.out.own HX.out.le).mono ?_); rintro e w1 ⟨rfl, o1, b1, k1⟩))
        | fail)
      have hs1 := HX.out.more o1 b1 (by omega)
      refine hK.out _ _ (⟨hs1.low, k1 _ _ _ HDB.out (by omega) (by decide)⟩) (fun hNew => ?_)
      clear hK K
      replace hHeld := hNew
      clear hNew
      refine wpAnyH_done (by kernel_rfl) ?_ _
      go_wp2
      refine ⟨⟨k + 1, by go_num, by omega, ?_⟩, ?_⟩
      · rw [HTM.out, ← List.append_assoc]
        exact hs1
      · simp [intOf]; omega
    · obtain rfl : k = AF.length := by omega
      rw [List.take_length] at hs HS
      obtain ⟨P4, hP4⟩ : ∃ P, P = P3 ++ AF.map depF := ⟨_, rfl⟩
      rw [← hP4] at hs HS
      have HP4 := Lib.hid hP4
      obtain ⟨n4, hn4⟩ : ∃ n, n = 3 + AF.length := ⟨_, rfl⟩
      rw [← hn4] at hs HS
      have hn4b : n4 ≤ 103 := by omega
      have H4 := Lib.hid hs
      clear x0 x1 x2 x3 x4 x5 x6 x7 x8 x9 x10 x11 x12 x13 x14 x15 x16 x17 HH3 HS hP4 hn4
      obtain ⟨x0, x1, x2, x3, x4, x5, x6, x7, x8, x9, x10, x11, x12, x13, x14, x15, x16, x17⟩ := all18 (HC.out _ hs.low)
      clear hs
      have a5 := fun has W zs (h : FOwn W U.heap.size zs) (hz : zs.length ≤ 1000) => add_any U.heap.size zs has kFrom (.num S.frm) W h hz
      unfold kFrom vlV at a5
      dsimp only at a5
      have A5 := Lib.hid a5
      clear a5
      have a6 := fun has W zs (h : FOwn W U.heap.size zs) (hz : zs.length ≤ 1000) => add_any U.heap.size zs has kNodes (.num S.nodes) W h hz
      unfold kNodes vlV at a6
      dsimp only at a6
      have A6 := Lib.hid a6
      clear a6
      go_upto_region 14 with (first
        | (go_at_call 46; go_loud ((with_reducible refine (A5.out _ _ _ H4.out.own H4.out.le).mono ?_); rintro e V5 ⟨rfl, o5, b5, _⟩; have H5 := Lib.hid (H4.out.more o5 b5 (by omega)); (try clear x0 x1 x2 x3 x4 x5 x6 x7 x8 x9 x10 x11 x12 x13 x14 x15 x16 x17); obtain ⟨x0, x1, x2, x3, x4, x5, x6, x7, x8, x9, x10, x11, x12, x13, x14, x15, x16, x17⟩ := all18 (HC.out V5 H5.out.low); clear o5 b5))
        | (go_at_call 46; go_loud ((with_reducible refine (A6.out _ _ _ H5.out.own H5.out.le).mono ?_); rintro e V6 ⟨rfl, o6, b6, _⟩; have H6 := Lib.hid (H5.out.more o6 b6 (by omega)); (try clear x0 x1 x2 x3 x4 x5 x6 x7 x8 x9 x10 x11 x12 x13 x14 x15 x16 x17); obtain ⟨x0, x1, x2, x3, x4, x5, x6, x7, x8, x9, x10, x11, x12, x13, x14, x15, x16, x17⟩ := all18 (HC.out V6 H6.out.low); clear o6 b6))
        | fail)
      obtain ⟨P6, hP6⟩ : ∃ P, P = P4 ++ onF (S.kind == 10) kFrom (.num S.frm) ++ onF (decide (S.nodes ≠ 0)) kNodes (.num S.nodes) := ⟨_, rfl⟩
      have h6 : FS U V6 P6 (n4 + 2) := by have := H6.out; rw [bne_dec] at this; rw [hP6]; exact this
      obtain ⟨n6, hn6⟩ : ∃ n, n = n4 + 2 := ⟨_, rfl⟩
      rw [← hn6] at h6
      have hn6b : n6 ≤ 105 := by omega
      have HP6 := Lib.hid hP6
      have HH6 := Lib.hid h6
      clear h6 hP6 hn6 H4 H5 H6
      go_wp2
      obtain ⟨AL, hAL⟩ : ∃ l, l = S.alts := ⟨_, rfl⟩
      have HAL := Lib.hid hAL
      have hRA : Row U (.slice pa5 AL.length qa5) AL := by rw [hAL]; exact HRU.out
      obtain ⟨ra, rq, hre, hra1, hra2, hra3, hra4⟩ := hRA
      obtain ⟨rfl, _, rfl⟩ : pa5 = ra ∧ AL.length = AL.length ∧ qa5 = rq := by injection hre with e1 e2 e3; exact ⟨e1, rfl, e3⟩
      have HRA := Lib.hid hra3
      rw [← hAL] at hSl ⊢
      clear hAL hre hra3 hra4
      go_loopw [72] (fun i wz => ∃ k : Nat, i = .int .i64 (k : Int) ∧ k ≤ AL.length ∧ FS U wz (P6 ++ (AL.take k).map altF) (n6 + k)) (fun i _ => AL.length - (intOf i).toNat)
      case atStart => exact ⟨0, rfl, Nat.zero_le _, by simpa using HH6.out⟩
      case round =>
        obtain ⟨k, rfl, hk2, hs⟩ := hrel
        have HS := Lib.hid hs
        by_cases hp2 : k < AL.length
        · obtain ⟨bb, off, rfl, y0, y1⟩ := Shape.alt_cells (HRA.out.below altC_length hs.low) hp2
          have htm := take_map altF AL k hp2
          obtain ⟨⟨d1, d2⟩, hdk⟩ : ∃ d, d = AL[k] := ⟨_, rfl⟩
          rw [← hdk] at y0 y1 htm
          dsimp only at y0 y1
          have HTM := Lib.hid htm
          have hlow : (0 : Int) ≤ (k : Int) := by omega
          have hup : (k : Int) < ((AL.length : Nat) : Int) := by omega
          have a7 := fun has W zs (h : FOwn W U.heap.size zs) (hz : zs.length ≤ 1000) => add_any U.heap.size zs has kAlt (.opt d1 d2) W h hz
          unfold kAlt vlV at a7
          dsimp only at a7
          have A7 := Lib.hid a7
          clear a7
          have H7 := Lib.hid (hs.alloc (.cells #[.int .i64 d1, .int .i64 d2] 88))
          clear hs hdk htm
          go_wp2_with (first
            | (go_at_call 46; go_loud ((with_reducible refine (A7.out _ _ _ H7.out.own H7.out.le).mono ?_); rintro e w1 ⟨rfl, o1, b1, _⟩; have h8 := H7.out.more o1 b1 (by omega)))
            | fail)
          refine ⟨⟨k + 1, by go_num, by omega, ?_⟩, ?_⟩
          · rw [HTM.out, ← List.append_assoc]
            exact h8
          · simp [intOf]; omega
        · obtain rfl : k = AL.length := by omega
          rw [List.take_length] at hs HS
          have H7 := Lib.hid hs
          obtain ⟨x0, x1, x2, x3, x4, x5, x6, x7, x8, x9, x10, x11, x12, x13, x14, x15, x16, x17⟩ := all18 (HC.out _ hs.low)
          clear hs HS
          have a8 := fun has W zs (h : FOwn W U.heap.size zs) (hz : zs.length ≤ 1000) => add_any U.heap.size zs has kRange (.span S.mn S.mx) W h hz
          unfold kRange vlV at a8
          dsimp only at a8
          have A8 := Lib.hid a8
          clear a8
          have a9 := fun has W zs (h : FOwn W U.heap.size zs) (hz : zs.length ≤ 1000) => add_any U.heap.size zs has kTime (.tk S.time) W h hz
          unfold kTime vlV at a9
          dsimp only at a9
          have A9 := Lib.hid a9
          clear a9
          go_upto_region 21 with (first
            | (go_at_call 46; go_loud ((with_reducible refine (A8.out _ _ _ H7.out.own H7.out.le).mono ?_); rintro e V8 ⟨rfl, o8, b8, _⟩; have H8 := Lib.hid (H7.out.more o8 b8 (by omega)); (try clear x0 x1 x2 x3 x4 x5 x6 x7 x8 x9 x10 x11 x12 x13 x14 x15 x16 x17); obtain ⟨x0, x1, x2, x3, x4, x5, x6, x7, x8, x9, x10, x11, x12, x13, x14, x15, x16, x17⟩ := all18 (HC.out V8 H8.out.low); clear o8 b8))
            | (go_at_call 46; go_loud ((with_reducible refine (A9.out _ _ _ H8.out.own H8.out.le).mono ?_); rintro e V9 ⟨rfl, o9, b9, _⟩; have H9 := Lib.hid (H8.out.more o9 b9 (by omega)); (try clear x0 x1 x2 x3 x4 x5 x6 x7 x8 x9 x10 x11 x12 x13 x14 x15 x16 x17); obtain ⟨x0, x1, x2, x3, x4, x5, x6, x7, x8, x9, x10, x11, x12, x13, x14, x15, x16, x17⟩ := all18 (HC.out V9 H9.out.low); clear o9 b9))
            | fail)
          obtain ⟨hl9, ⟨v9, hv9, ho9⟩, _, _⟩ := H9.out
          obtain ⟨o9, c9, hv9e, _, _, _, _⟩ := ho9.value fdC_length
          revert hv9e
          generalize List.length (P6 ++ AL.map altF ++ onF (S.mx != 0) ⟨#[114, 97, 110, 103, 101]⟩ (.span S.mn S.mx) ++ onF S.hasTime ⟨#[116, 105, 109, 101]⟩ (.tk S.time)) = n9
          rintro rfl
          have hc9 := cell_of1 hv9
          have hfin : P6 ++ AL.map altF ++ onF (S.mx != 0) kRange (.span S.mn S.mx) ++ onF S.hasTime kTime (.tk S.time) = fieldsS S := by
            rw [bne_dec, HAL.out, HP6.out, HP4.out, HP3.out, ← HSA.out]; rfl
          have HFIN := Lib.hid hfin
          have HO9 := Lib.hid ho9
          have HL9 := Lib.hid hl9
          clear hfin ho9 hl9 hv9 x0 x1 x2 x3 x4 x5 x6 x7 x8 x9 x10 x11 x12 x13 x14 x15 x16 x17
          go_wp2
          go_ret
          exact ⟨_, U.heap.size + 1, rfl, by have := HBU.out.size; omega, own_cast HO9.out HFIN.out, HBU.out.trans (HL9.out.mono HBU.out.size)⟩
end Go.Proofs.YtdkngidangfkiaaGreatDoor.Cmd
