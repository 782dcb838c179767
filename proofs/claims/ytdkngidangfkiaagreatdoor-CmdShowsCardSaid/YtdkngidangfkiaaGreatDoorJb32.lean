/-
  Joined out of: The walk of Parse.
-/
import Derived.Test.YtdkngidangfkiaaGreatDoorJb31
import Derived.Test.YtdkngidangfkiaaGreatDoorJb28
namespace Go.Proofs.YtdkngidangfkiaaGreatDoor.Cmd
open Go.RowKit
open Base
open Lex (Tok tkC tkC_length tokV zT tkA LineNew)
set_option linter.unusedVariables false
set_option linter.unusedSimpArgs false
def ParseSays (s : ByteArray) (w : World) (e : Ending) (w' : World) : Prop :=
  ∃ va vd, e = .returned (.tuple #[cmdV (parseC s).1 va vd, .int .i64 (parseC s).2.1, .int .i64 (parseC s).2.2]) ∧ Row w' va (parseC s).1.alts ∧ Row w' vd (parseC s).1.after ∧ Below w.heap.size w w'
theorem res_cmd3 {fn : Func} {p q r : Tmp} (h : fn.results = #[.cell p 27, .tmp q, .tmp r]) (tmps : Array Value) (w : World) (g : Nat) (T : TypeId) (cs : Array Value) (v z : Value) (hp : tmps.getD p undef = .pointer (some ⟨g, 0, none⟩)) (hq : tmps.getD q undef = v) (hr : tmps.getD r undef = z) (hg : w.heap[g]? = some (.cells cs T)) (hs : cs.size = 18) :
    (results fn tmps).run Tryz.prog w = .ok (.tuple #[.agg cs, v, z]) w := by
  have hp' : tmps[p]?.getD undef = .pointer (some ⟨g, 0, none⟩) := by simpa using hp
  have hq' : tmps[q]?.getD undef = v := by simpa using hq
  have hr' : tmps[r]?.getD undef = z := by simpa using hr
  simp [results, h, hp', hq', hr', asAddr, run_loadVar_row w g T 27 cs (0, 0) _ hg Tryz.underlying27 rfl (by rw [hs]; exact info_cmd)]
set_option maxRecDepth 100000 in
set_option maxHeartbeats 2000000 in
theorem parse_lex (s : ByteArray) (hs : s.size ≤ maxLen) (w : World) (hT : Tb w) (h0 : (tkA s).2.2 ≠ 0) :
    Calls Tryz.prog 15 #[.string s] w fun e w' => ParseSays s w e w' := by
  have hP : parseC s = (zCo 0, ((tkA s).2.1 : Int), (tkA s).2.2) := by unfold parseC; rw [if_pos h0]
  unfold ParseSays
  rw [hP]
  have hA := Lex.tkA_bad h0
  have c1 := Lex.tokens_any s hs (w.alloc (.cells zArr 27)) (hT.later (below_one _)).lex
  clear hP
  generalize tkA s = TK at hA h0 c1 ⊢
  obtain ⟨A1, N1, E1⟩ := TK
  dsimp only at hA h0 c1 ⊢
  subst hA
  have hne : (E1 != 0) = true := by simpa using h0
  have C1 := Lib.hid c1
  have hz0 : ZAt (w.alloc (.cells zArr 27)) w.heap.size := heap_alloc_new w _
  have HZ := Lib.hid hz0
  clear c1 h0 hT hz0
  unfold Lex.LineSays zArr at *
  go_enter Tryz.func15, Tryz.ntmps15
  go_wp2_with (first
    | (go_at_call 39; go_loud ((with_reducible refine C1.out.mono ?_); rintro e w2 ⟨ao, cap, rfl, _, _, _, _, p2⟩; have hz2 := HZ.out.below p2))
    | (refine st_zero rfl (.tmp 2) (.tmp 20) rfl w.heap.size rfl rfl hz2 ?_)
    | fail)
  exact bodyPost_ret (v := .tuple #[.agg zArr, .int .i64 (N1 : Int), .int .i64 E1]) (res_cmd3 Tryz.results15 _ _ w.heap.size 27 _ _ _ rfl rfl rfl hz2 rfl) rfl ⟨.slice none 0 0, .slice none 0 0, rfl, Row.nil _, Row.nil _, Below.from p2 (below_one _)⟩
theorem grown_low {u w w' : World} {B : Nat} (g : w.grownBy w' (some B)) (hu : Below u.heap.size u w) (hB : u.heap.size ≤ B) : Below u.heap.size u w' :=
  hu.trans (Base.below_grown g hu.size (fun k hk => by injection hk with hk; subst hk; exact hB))
set_option maxRecDepth 100000 in
set_option maxHeartbeats 2000000 in
theorem parse_none (s : ByteArray) (hs : s.size ≤ maxLen) (w : World) (hT : Tb w) (h0 : (tkA s).2.2 = 0) (h1 : (rdCmd (tkA s).1).1 = none) :
    Calls Tryz.prog 15 #[.string s] w fun e w' => ParseSays s w e w' := by
  have hP : parseC s = (zCo 0, placeR (rdCmd (tkA s).1).2 (tkA s).2.1, 80) := by
    unfold parseC
    rw [if_neg (by omega)]
    rcases hc : rdCmd (tkA s).1 with ⟨_ | c, r⟩
    · rfl
    · rw [hc] at h1; cases h1
  unfold ParseSays
  rw [hP]
  obtain ⟨_, hl, hsm⟩ := Lex.line_small h0
  have hsm2 : ∀ t ∈ (tkA s).1, t.2.1.size ≤ 1000000 := fun t ht => by have := (hsm t ht).1; omega
  have c1 := Lex.tokens_at s hs (w.alloc (.cells zArr 27)) (hT.later (below_one _)).lex
  have hz0 : ZAt (w.alloc (.cells zArr 27)) w.heap.size := heap_alloc_new w _
  have hT1 := hT.later (below_one (.cells zArr 27) (w := w))
  have HZ := Lib.hid hz0
  have HT := Lib.hid hT1
  clear hP hT hT1 hz0
  generalize tkA s = TK at h0 h1 hl hsm2 c1 ⊢
  obtain ⟨l, N1, E1⟩ := TK
  dsimp only at h0 h1 hl hsm2 c1 ⊢
  subst h0
  have c2 := fun (w2 : World) (B : Nat) (hR : RdAt w2 B l N1) (u : World) (hC : Ctx u w2 B) => command_any u B N1 l w2 hR hsm2 (by omega) hC
  unfold CmdSays at c2
  rw [h1] at c2
  obtain ⟨r, hr⟩ : ∃ r, r = (rdCmd l).2 := ⟨_, rfl⟩
  rw [← hr] at c2 ⊢
  unfold cmdV at c2
  have C1 := Lib.hid c1
  have C2 := Lib.hid c2
  clear c1 c2 hsm hsm2 h1 hr hl
  unfold Lex.LineAt zArr at *
  go_enter Tryz.func15, Tryz.ntmps15
  go_wp2_with (first
    | (go_at_call 39; go_loud ((with_reducible refine C1.out.mono ?_); rintro e w2 ⟨ao, cap, rfl, hr2, hn2, hc2, hm2, p2, ha2⟩; have R2 := Lib.hid (show RdAt (w2.alloc (.cells #[.slice ao l.length cap, .int .i64 (N1 : Int)] 77)) w2.heap.size l N1 from ⟨ao, cap, heap_alloc_new _ _, hc2, hm2, hr2.below tkC_length (below_one _), fun a h => (ha2 a h).2⟩); have X2 := Lib.hid (show Ctx w2 (w2.alloc (.cells #[.slice ao l.length cap, .int .i64 (N1 : Int)] 77)) w2.heap.size from ⟨HT.out.later p2, below_one _, Nat.le_refl _⟩); have Z2 := Lib.hid (HZ.out.below p2); have P2 := Lib.hid (Below.from p2 (below_one _)); have HS2 := Lib.hid (show w.heap.size + 1 ≤ w2.heap.size from by have := p2.size; rw [World.size_alloc] at this; exact this); clear hr2 hn2 hc2 ha2 p2))
    | (go_at_call 40; go_loud ((with_reducible refine (C2.out _ _ R2.out _ X2.out).mono ?_); rintro e w4 ⟨c, va, vd, rfl, ra, rd, r4, g4, _, _⟩; obtain ⟨pa, qa, rfl, _, _, _, _⟩ := ra; obtain ⟨pd, qd, rfl, _, _, _, _⟩ := rd; have R4 := Lib.hid r4; have G4 := Lib.hid g4; have Z4 := Lib.hid ((Z2.out.alloc _).grown g4 (by have := HS2.out; omega)); clear r4 g4))
    | (go_at_call 41; go_loud ((with_reducible refine (place_any _ _ _ _ (R4.out.below (below_one _))).mono ?_); rintro e w5 ⟨rfl, rfl⟩; have hz5 := Z4.out.alloc (.cells #[.int .i64 c.kind, .int .i64 c.job, .string c.name, .string c.user, .string c.account, .int .i64 c.sk, .slice pa c.alts.length qa, .int .i64 c.mn, .int .i64 c.mx, .int .i64 c.wl, .int .i64 c.prio, .bool c.hasPrio, .int .i64 c.time, .bool c.hasTime, .slice pd c.after.length qd, .int .i64 c.node, .int .i64 c.nodes, .int .i64 c.frm] 27)))
    | (refine st_zero rfl (.tmp 2) (.tmp 32) rfl w.heap.size rfl rfl hz5 ?_)
    | fail)
  have hb4 := grown_low G4.out (Below.refl _ _ |>.trans (below_one _)) (Nat.le_refl _)
  exact bodyPost_ret (v := .tuple #[.agg zArr, .int .i64 (placeR r N1), .int .i64 80]) (res_cmd3 Tryz.results15 _ _ w.heap.size 27 _ _ _ rfl rfl rfl hz5 rfl) rfl ⟨.slice none 0 0, .slice none 0 0, rfl, Row.nil _, Row.nil _, (P2.out.trans (hb4.mono P2.out.size)).alloc (by have := hb4.size; have := P2.out.size; omega) _⟩
set_option maxRecDepth 100000 in
set_option maxHeartbeats 2000000 in
theorem parse_not (s : ByteArray) (hs : s.size ≤ maxLen) (w : World) (hT : Tb w) (h0 : (tkA s).2.2 = 0) (c : Co) (h1 : (rdCmd (tkA s).1).1 = some c) (hm : mayC c = false) :
    Calls Tryz.prog 15 #[.string s] w fun e w' => ParseSays s w e w' := by
  have hP : parseC s = (zCo 0, 0, 80) := by
    unfold parseC
    rw [if_neg (by omega)]
    rcases hc : rdCmd (tkA s).1 with ⟨_ | c2, r⟩
    · rw [hc] at h1; cases h1
    · rw [hc] at h1
      obtain rfl : c2 = c := Option.some.inj h1
      dsimp only
      rw [hm]; rfl
  unfold ParseSays
  rw [hP]
  obtain ⟨_, hl, hsm⟩ := Lex.line_small h0
  have hsm2 : ∀ t ∈ (tkA s).1, t.2.1.size ≤ 1000000 := fun t ht => by have := (hsm t ht).1; omega
  obtain ⟨u1, u2, u3⟩ := rdCmd_small hsm2 (Prod.ext h1 rfl : rdCmd (tkA s).1 = (some c, (rdCmd (tkA s).1).2))
  have c1 := Lex.tokens_at s hs (w.alloc (.cells zArr 27)) (hT.later (below_one _)).lex
  have hz0 : ZAt (w.alloc (.cells zArr 27)) w.heap.size := heap_alloc_new w _
  have hT1 := hT.later (below_one (.cells zArr 27) (w := w))
  have HZ := Lib.hid hz0
  have HT := Lib.hid hT1
  clear hP hT hT1 hz0
  generalize tkA s = TK at h0 h1 hl hsm2 c1 ⊢
  obtain ⟨l, N1, E1⟩ := TK
  dsimp only at h0 h1 hl hsm2 c1 ⊢
  subst h0
  have c2 := fun (w2 : World) (B : Nat) (hR : RdAt w2 B l N1) (u : World) (hC : Ctx u w2 B) => command_any u B N1 l w2 hR hsm2 (by omega) hC
  have c3 := fun va vd (w6 : World) (hT : Tb w6) (r1 : Row w6 va c.alts) (r2 : Row w6 vd c.after) => check_any c va vd w6 hT r1 r2 u1 u2 u3
  unfold CmdSays at c2
  rw [h1] at c2
  obtain ⟨r, hr⟩ : ∃ r, r = (rdCmd l).2 := ⟨_, rfl⟩
  rw [← hr] at c2
  have hch : chkC c = 80 := by unfold chkC; rw [hm]; rfl
  rw [hch] at c3
  unfold cmdV at c2 c3
  have C1 := Lib.hid c1
  have C2 := Lib.hid c2
  have C3 := Lib.hid c3
  clear c1 c2 c3 hsm hsm2 h1 hr hl hch hm u1 u2 u3
  unfold Lex.LineAt zArr at *
  go_enter Tryz.func15, Tryz.ntmps15
  go_wp2_with (first
    | (go_at_call 39; go_loud ((with_reducible refine C1.out.mono ?_); rintro e w2 ⟨ao, cap, rfl, hr2, hn2, hc2, hm2, p2, ha2⟩; have R2 := Lib.hid (show RdAt (w2.alloc (.cells #[.slice ao l.length cap, .int .i64 (N1 : Int)] 77)) w2.heap.size l N1 from ⟨ao, cap, heap_alloc_new _ _, hc2, hm2, hr2.below tkC_length (below_one _), fun a h => (ha2 a h).2⟩); have X2 := Lib.hid (show Ctx w2 (w2.alloc (.cells #[.slice ao l.length cap, .int .i64 (N1 : Int)] 77)) w2.heap.size from ⟨HT.out.later p2, below_one _, Nat.le_refl _⟩); have Z2 := Lib.hid (HZ.out.below p2); have P2 := Lib.hid (Below.from p2 (below_one _)); have HS2 := Lib.hid (show w.heap.size + 1 ≤ w2.heap.size from by have := p2.size; rw [World.size_alloc] at this; exact this); have T2 := Lib.hid (HT.out.later p2); clear hr2 hn2 hc2 ha2 p2))
    | (go_at_call 40; go_loud ((with_reducible refine (C2.out _ _ R2.out _ X2.out).mono ?_); rintro e w4 ⟨c4, va, vd, rfl, ra, rd, r4, g4, _, e4⟩; obtain rfl := e4 c rfl; have RA := Lib.hid ra; have RD := Lib.hid rd; obtain ⟨pa, qa, rfl, _, _, _, _⟩ := ra; obtain ⟨pd, qd, rfl, _, _, _, _⟩ := rd; have G4 := Lib.hid (grown_low g4 (Below.refl _ _ |>.trans (below_one _)) (Nat.le_refl _)); have Z4 := Lib.hid ((Z2.out.alloc _).grown g4 (by have := HS2.out; omega)); clear r4 g4))
    | (go_at_call 11; go_loud ((with_reducible refine (C3.out _ _ _ (T2.out.later (G4.out.alloc G4.out.size _)) (RA.out.below (below_one _)) (RD.out.below (below_one _))).mono ?_); rintro e w6 ⟨rfl, p6⟩; have hz6 := (Z4.out.alloc (.cells #[.int .i64 c4.kind, .int .i64 c4.job, .string c4.name, .string c4.user, .string c4.account, .int .i64 c4.sk, .slice pa c4.alts.length qa, .int .i64 c4.mn, .int .i64 c4.mx, .int .i64 c4.wl, .int .i64 c4.prio, .bool c4.hasPrio, .int .i64 c4.time, .bool c4.hasTime, .slice pd c4.after.length qd, .int .i64 c4.node, .int .i64 c4.nodes, .int .i64 c4.frm] 27)).below p6; have hc6 := box_cmd p6; have P6 := Lib.hid p6))
    | (refine ld_cmd rfl (.tmp 9) rfl w4.heap.size _ _ rfl hc6 rfl ?_)
    | (refine ld_cmd rfl (.tmp 9) rfl w4.heap.size _ _ rfl (heap_alloc_new w4 _) rfl ?_)
    | (refine st_zero rfl (.tmp 2) (.tmp 38) rfl w.heap.size rfl rfl hz6 ?_)
    | (refine st_cmd rfl (.tmp 2) (.tmp 40) rfl w.heap.size _ _ _ rfl rfl hz6 rfl rfl (by kernel_rfl) ?_)
    | fail)
  have hb4 := P2.out.trans (G4.out.mono P2.out.size)
  have hb5 := hb4.alloc hb4.size (.cells #[.int .i64 c4.kind, .int .i64 c4.job, .string c4.name, .string c4.user, .string c4.account, .int .i64 c4.sk, .slice pa c4.alts.length qa, .int .i64 c4.mn, .int .i64 c4.mx, .int .i64 c4.wl, .int .i64 c4.prio, .bool c4.hasPrio, .int .i64 c4.time, .bool c4.hasTime, .slice pd c4.after.length qd, .int .i64 c4.node, .int .i64 c4.nodes, .int .i64 c4.frm] 27)
  exact bodyPost_ret (v := .tuple #[.agg zArr, .int .i64 0, .int .i64 80]) (res_cmd3 Tryz.results15 _ _ w.heap.size 27 _ _ _ rfl rfl rfl hz6 rfl) rfl ⟨.slice none 0 0, .slice none 0 0, rfl, Row.nil _, Row.nil _, hb5.trans (P6.out.mono hb5.size)⟩
end Go.Proofs.YtdkngidangfkiaaGreatDoor.Cmd
