/-
  Joined out of: The walk of what takes a whole command.
-/
import Derived.Test.YtdkngidangfkiaaGreatDoorJa24
import Derived.Laws.CopyRow
namespace Go.Proofs.YtdkngidangfkiaaGreatDoor.Cmd
open Go.RowKit
open Base
open Lex (Tok tkC tkC_length tokV zT)
open Shape (altC altC_length)
set_option linter.unusedVariables false
set_option linter.unusedSimpArgs false
theorem rdLoop_fuel : ∀ (m : Nat) (l : List Tok) (c : Co) (st : List Fd) (f : Nat), l.length ≤ m → l.length ≤ f → rdLoop f c st l = rdLoop l.length c st l := by
  intro m
  induction m with
  | zero =>
    intro l c st f h1 h2
    obtain rfl : l = [] := List.eq_nil_of_length_eq_zero (by omega)
    cases f with
    | zero => rfl
    | succ f => simp [rdLoop]
  | succ m ih =>
    intro l c st f h1 h2
    cases l with
    | nil =>
      cases f with
      | zero => rfl
      | succ f => simp [rdLoop]
    | cons t r =>
      obtain ⟨f, rfl⟩ : ∃ g, f = g + 1 := ⟨f - 1, by simp at h2; omega⟩
      rw [List.length_cons, rdLoop, rdLoop]
      have h3 := (rdFd_suffix c.kind st (t :: r)).2
      rcases h : rdFd c.kind st (t :: r) with ⟨_ | x, r2⟩
      · simp
      · have h4 := h3 x r2 h
        simp only [List.length_cons] at h1 h2 h4
        simp only [List.length_cons, Nat.add_eq_zero_iff, Nat.one_ne_zero, and_false, if_false]
        rw [ih r2 _ _ f (by omega) (by omega), ih r2 _ _ r.length (by omega) (by omega)]
theorem rdLoop_some {c : Co} {st : List Fd} {l r : List Tok} {x : Fd} (h : rdFd c.kind st l = (some x, r)) : rdLoop l.length c st l = rdLoop r.length (layC c x) (st ++ [x]) r := by
  have h3 := (rdFd_suffix c.kind st l).2 x r h
  obtain ⟨k, hk⟩ : ∃ k, l.length = k + 1 := ⟨l.length - 1, by omega⟩
  rw [hk, rdLoop, if_neg (by omega), h]
  exact rdLoop_fuel k r _ _ k (by omega) (by omega)
theorem rdLoop_none {c : Co} {st : List Fd} {l r : List Tok} (hl : l ≠ []) (h : rdFd c.kind st l = (none, r)) : rdLoop l.length c st l = (none, r) := by
  obtain ⟨k, hk⟩ : ∃ k, l.length = k + 1 := ⟨l.length - 1, by have := List.length_pos_iff.2 hl; omega⟩
  rw [hk, rdLoop, if_neg (by omega), h]
theorem layC_kind (c : Co) (x : Fd) : (layC c x).kind = c.kind := by
  unfold layC
  repeat' split
  all_goals rfl
theorem layC_alts (c : Co) (x : Fd) : (layC c x).alts.length ≤ c.alts.length + 1 := by
  unfold layC
  repeat' split
  all_goals simp
theorem layC_after (c : Co) (x : Fd) : (layC c x).after.length ≤ c.after.length + 1 := by
  unfold layC
  repeat' split
  all_goals simp
def CmdSays (B n : Nat) (o : Option Co) (r : List Tok) (w : World) (e : Ending) (w' : World) : Prop :=
  ∃ c va vd, e = .returned (.tuple #[cmdV c va vd, .bool o.isSome]) ∧ Row w' va c.alts ∧ Row w' vd c.after ∧ RdAt w' B r n ∧ w.grownBy w' (some B) ∧ (New w.heap.size va ∧ New w.heap.size vd) ∧ ∀ c1, o = some c1 → c = c1
theorem res_cmd2 {fn : Func} {p q : Tmp} (h : fn.results = #[.cell p 27, .tmp q]) (tmps : Array Value) (w : World) (g : Nat) (T : TypeId) (cs : Array Value) (v : Value) (hp : tmps.getD p undef = .pointer (some ⟨g, 0, none⟩)) (hq : tmps.getD q undef = v) (hg : w.heap[g]? = some (.cells cs T)) (hs : cs.size = 18) :
    (results fn tmps).run Tryz.prog w = .ok (.tuple #[.agg cs, v]) w := by
  have hp' : tmps[p]?.getD undef = .pointer (some ⟨g, 0, none⟩) := by simpa using hp
  have hq' : tmps[q]?.getD undef = v := by simpa using hq
  simp [results, h, hp', hq', asAddr, run_loadVar_row w g T 27 cs (0, 0) _ hg Tryz.underlying27 rfl (by rw [hs]; exact info_cmd)]
abbrev zArr : Array Value := #[.int .i64 0, .int .i64 0, .string ⟨#[]⟩, .string ⟨#[]⟩, .string ⟨#[]⟩, .int .i64 0, .slice none 0 0, .int .i64 0, .int .i64 0, .int .i64 0, .int .i64 0, .bool false, .int .i64 0, .bool false, .slice none 0 0, .int .i64 0, .int .i64 0, .int .i64 0]
abbrev kArr (k : Int) : Array Value := #[.int .i64 k, .int .i64 0, .string ⟨#[]⟩, .string ⟨#[]⟩, .string ⟨#[]⟩, .int .i64 0, .slice none 0 0, .int .i64 0, .int .i64 0, .int .i64 0, .int .i64 0, .bool false, .int .i64 0, .bool false, .slice none 0 0, .int .i64 0, .int .i64 0, .int .i64 0]
abbrev qK (s : ByteArray) : Bool := decide (kindN s ≠ 0)
def ZAt (w : World) (R : Nat) : Prop := w.heap[R]? = some (.cells zArr 27)
theorem ZAt.alloc {w : World} {R : Nat} (h : ZAt w R) (o : Obj) : ZAt (w.alloc o) R := by
  have hl : R < w.heap.size := (Array.getElem?_eq_some_iff.1 h).1
  unfold ZAt
  rw [Lib.alloc_old _ _ _ hl]; exact h
theorem ZAt.grown {w w' : World} {R B : Nat} (h : ZAt w R) (g : w.grownBy w' (some B)) (hB : B ≠ R) : ZAt w' R := by
  have hl : R < w.heap.size := (Array.getElem?_eq_some_iff.1 h).1
  unfold ZAt
  rw [g.block R hl (by intro e; injection e with e; exact hB e.symm)]; exact h
theorem ZAt.below {w w' : World} {R : Nat} (h : ZAt w R) (hb : Below w.heap.size w w') : ZAt w' R := by
  have hl : R < w.heap.size := (Array.getElem?_eq_some_iff.1 h).1
  unfold ZAt
  rw [hb.block R hl]; exact h
theorem st_zero {ops : Array Oper} {rest : List Oper} {o : Oper} {a : Act} {w : World} {Q : Exit → Act → World → Prop} (hgd : o.guard = none) (x y : Operand) (ho : o.op = .store 27 x y)
    (g : Nat) (hx : a.eval x = .pointer (some ⟨g, 0, none⟩)) (hy : a.eval y = .agg zArr) (hg : ZAt w g)
    (h : wpList Tryz.prog ops Q rest (a.put o.dst undef) w) : wpList Tryz.prog ops Q (o :: rest) a w :=
  st_cmd hgd x y ho g zArr _ _ hx hy hg rfl rfl (by kernel_rfl) (by rw [setRow_self w g zArr _ _ hg]; exact h)
theorem z_kept {w w2 : World} {B : Nat} (hB : B < w.heap.size) (g : (w.alloc (.cells zArr 27)).grownBy w2 (some B)) : ZAt w2 w.heap.size :=
  ZAt.grown (heap_alloc_new w _) g (by omega)
theorem ZAt.tgk {w w' : World} {R B C : Nat} (h : ZAt w R) (k : TgK B C w w') (hB : B ≠ R) (hC : C ≠ R) : ZAt w' R := by
  have hl : R < w.heap.size := (Array.getElem?_eq_some_iff.1 h).1
  unfold ZAt
  rw [k.block R hl (fun e => hB e.symm) (fun e => hC e.symm)]; exact h
theorem TgK.up {B C : Nat} {w w3 w4 : World} (h : TgK B C w3 w4) (g : w.grownBy w3 (some B)) (hC : w.heap.size ≤ C) : w.grownBy w4 (some B) :=
  ⟨h.os.trans g.os, h.tape.trans g.tape, h.output.trans g.output, Nat.le_trans g.size h.size, fun k hk hn => (h.block k (Nat.lt_of_lt_of_le hk g.size) (by intro e; exact hn (by rw [e])) (by omega)).trans (g.block k hk hn)⟩
theorem run_start {B n : Nat} {T : List Tok} {w w2 : World} (hB : B < w.heap.size) (g : (w.alloc (.cells zArr 27)).grownBy w2 (some B)) (r : RdAt w2 B T n) (k : Int) :
    ZAt (w2.alloc (.cells (kArr k) 27)) w.heap.size ∧ Hid (RdAt (w2.alloc (.cells (kArr k) 27)) B T n) ∧ Hid (w.grownBy (w2.alloc (.cells (kArr k) 27)) (some B)) ∧
      Hid (COwn (w2.alloc (.cells (kArr k) 27)) (w2.heap.size + 1) w2.heap.size (zCo k) (.slice none 0 0) (.slice none 0 0)) ∧ w.heap.size < w2.heap.size ∧ B < w2.heap.size := by
  have hz := z_kept hB g
  have h1 : w.heap.size < w2.heap.size := (Array.getElem?_eq_some_iff.1 hz).1
  refine ⟨hz.alloc _, Lib.hid (r.below (below_one _)), Lib.hid (grown_trans (grown_of_below (below_one _) _) (kp_alloc g _)), Lib.hid ⟨heap_alloc_new _ _, Nat.lt_succ_self _, OwnS.nil (by simp), OwnS.nil (by simp)⟩, h1, r.lt⟩
theorem grown_setRow (w : World) (g : Nat) (cs : Array Value) : w.grownBy (w.setRow g cs) (some g) :=
  ⟨rfl, rfl, rfl, Nat.le_of_eq (setRow_size w g cs).symm, fun k hk hn => setRow_other _ _ _ _ (fun e => hn (by rw [e]))⟩
theorem Row.setRow {w : World} {v : Value} {zs : List (Int × Int)} (h : Row w v zs) (g : Nat) (cs : Array Value) (hn : New (g + 1) v) : Row (w.setRow g cs) v zs := by
  obtain ⟨ao, cap, rfl, h2, h3, h4, h5⟩ := h
  refine ⟨ao, cap, rfl, h2, h3, ?_, h5⟩
  rcases h4 with h | ⟨b, off, rfl, hc⟩
  · exact .inl h
  · refine .inr ⟨b, off, rfl, fun j hj i hi => ?_⟩
    rw [← hc j hj i hi]
    have := hn _ _ _ rfl
    exact cell_setRow_other _ _ _ _ (by show b ≠ g; have : g + 1 ≤ b := this; omega)
theorem OwnS.new {α : Type} {k : Nat} {f : α → List Value} {b : Nat} {e : TypeId} {v : Value} {zs : List α} {w : World} (h : OwnS k f b e v zs w) : New b v := by
  intro a m c hv
  subst hv
  exact (own_at h a.block rfl).1
theorem OwnS.row {b : Nat} {e : TypeId} {v : Value} {zs : List (Int × Int)} {w : World} (h : OwnS 2 altC b e v zs w) : Row w v zs := by
  obtain ⟨ao, cap, h1, h2, h3, h4, h5⟩ := h.value altC_length
  exact ⟨ao, cap, h1, h4, h5, h2, h3⟩
theorem RdAt.other {B n : Nat} {l : List Tok} {w w' : World} {r : Option Nat} (h : RdAt w B l n) (g : w.grownBy w' r) (hr : ∀ x, r = some x → B < x) : RdAt w' B l n := by
  have hlt := h.lt
  obtain ⟨ao, cap, h1, h2, h3, h4, h5⟩ := h
  have hk : ∀ k, k ≤ B → w'.heap[k]? = w.heap[k]? := fun k hk => g.block k (by omega) (by intro e; have := hr k e.symm; omega)
  refine ⟨ao, cap, by rw [hk B (Nat.le_refl _)]; exact h1, h2, h3, ?_, h5⟩
  rcases h4 with h | ⟨b, off, rfl, hc⟩
  · exact .inl h
  · refine .inr ⟨b, off, rfl, fun j hj i hi => ?_⟩
    rw [← hc j hj i hi]
    exact World.cell?_of_block (hk b (Nat.le_of_lt (h5 _ rfl)))
theorem RdAt.lay {B C b n : Nat} {l : List Tok} {w w' : World} (h : RdAt w B l n) (g : LayK b C w w') (hBC : B < C) (hb : C < b) : RdAt w' B l n := by
  have hlt := h.lt
  obtain ⟨ao, cap, h1, h2, h3, h4, h5⟩ := h
  have hk : ∀ k, k ≤ B → w'.heap[k]? = w.heap[k]? := fun k hk => g.block k (by omega) (by omega) (.inl (by omega))
  refine ⟨ao, cap, by rw [hk B (Nat.le_refl _)]; exact h1, h2, h3, ?_, h5⟩
  rcases h4 with h | ⟨b, off, rfl, hc⟩
  · exact .inl h
  · refine .inr ⟨b, off, rfl, fun j hj i hi => ?_⟩
    rw [← hc j hj i hi]
    exact World.cell?_of_block (hk b (Nat.le_of_lt (h5 _ rfl)))
theorem COwn.beside {b C : Nat} {c : Co} {va vd v : Value} {st : List Fd} {X w7 : World} (h : COwn X b C c va vd) (o : OwnS 2 fdC b 57 v st X) (g : X.grownBy w7 v.ownBlock) : COwn w7 b C c va vd := by
  have ho : ∀ x, v.ownBlock = some x → b ≤ x ∧ x < X.heap.size ∧ ∃ cur, X.heap[x]? = some (.cells cur 57) := own_at o
  refine ⟨?_, h.lt, own_other h.alts g (fun x hx => ?_), own_other h.after g (fun x hx => ?_)⟩
  · rw [g.block C h.isLt (by intro e; have := (ho C e.symm).1; have := h.lt; omega)]; exact h.blk
  · obtain ⟨_, _, cur, hc⟩ := ho x hx
    exact .inr ⟨cur, _, hc, by decide⟩
  · obtain ⟨_, _, cur, hc⟩ := ho x hx
    exact .inr ⟨cur, _, hc, by decide⟩
theorem OwnS.lay {b C : Nat} {v : Value} {st : List Fd} {w7 w8 : World} (o : OwnS 2 fdC b 57 v st w7) (g : LayK b C w7 w8) (hb : C < b) : OwnS 2 fdC b 57 v st w8 := by
  cases hv : v.ownBlock with
  | none =>
    rcases o.1.2 with ⟨rfl, hn⟩ | ⟨x, cap, cur, rfl, _⟩
    · exact ⟨⟨o.1.1, .inl ⟨rfl, hn⟩⟩, Nat.le_trans o.2 g.size⟩
    · cases hv
  | some x =>
    obtain ⟨h1, h2, cur, h3⟩ := own_at o x hv
    have hk := g.block x h2 (by omega) (.inr fun a T hT => by rw [h3] at hT; injection hT with hT; injection hT with _ hT; subst hT; exact ⟨by decide, by decide⟩)
    rcases o.1.2 with ⟨rfl, hn⟩ | ⟨x2, cap, cur2, rfl, q1, q2, q3⟩
    · cases hv
    · injection hv with hv
      have hv : x2 = x := hv
      subst hv
      exact ⟨⟨o.1.1, .inr ⟨x2, cap, cur2, rfl, q1, by rw [hk]; exact q2, q3⟩⟩, Nat.le_trans o.2 g.size⟩
theorem ZAt.lay {w w' : World} {R b C : Nat} (h : ZAt w R) (g : LayK b C w w') (hR : R < C) (hb : C < b) : ZAt w' R := by
  have hl : R < w.heap.size := (Array.getElem?_eq_some_iff.1 h).1
  unfold ZAt
  rw [g.block R hl (by omega) (.inl (by omega))]; exact h
theorem ZAt.other {w w' : World} {R : Nat} {r : Option Nat} (h : ZAt w R) (g : w.grownBy w' r) (hr : ∀ x, r = some x → R < x) : ZAt w' R := by
  have hl : R < w.heap.size := (Array.getElem?_eq_some_iff.1 h).1
  unfold ZAt
  rw [g.block R hl (by intro e; have := hr R e.symm; omega)]; exact h
theorem up_own {B : Nat} {w X w7 : World} {r : Option Nat} (h : w.grownBy X (some B)) (g : X.grownBy w7 r) (hr : ∀ x, r = some x → w.heap.size ≤ x) : w.grownBy w7 (some B) :=
  ⟨g.os.trans h.os, g.tape.trans h.tape, g.output.trans h.output, Nat.le_trans h.size g.size, fun k hk hn => (g.block k (Nat.lt_of_lt_of_le hk h.size) (by intro e; have := hr k e.symm; omega)).trans (h.block k hk hn)⟩
theorem up_lay {B C b : Nat} {w X w7 : World} (h : w.grownBy X (some B)) (g : LayK b C X w7) (hC : w.heap.size ≤ C) (hb : C < b) : w.grownBy w7 (some B) :=
  ⟨g.os.trans h.os, g.tape.trans h.tape, g.output.trans h.output, Nat.le_trans h.size g.size, fun k hk hn => (g.block k (Nat.lt_of_lt_of_le hk h.size) (by omega) (.inl (by omega))).trans (h.block k hk hn)⟩
set_option maxRecDepth 100000 in
set_option maxHeartbeats 1000000 in
theorem command_none (u : World) (B n : Nat) (l : List Tok) (w : World) (hR : RdAt w B l n) (hC : Ctx u w B) (r : List Tok) (h0 : nx (qWord qK) l = (none, r)) :
    Calls Tryz.prog 40 #[.pointer (some ⟨B, 0, none⟩)] w fun e w' => CmdSays B n none r w e w' := by
  have hlt := hR.lt
  have hb0 : Below w.heap.size w (w.alloc (.cells zArr 27)) := below_one _
  have c1 := word_any 64 #[] qK B n l (w.alloc (.cells zArr 27)) (hR.below hb0) (fun t ht P w2 hb hP => wordc_cmd t P w2 ((hC.below hb0).below hb).now hP)
  have hC0 := hC.below hb0
  have hC1 : ∀ w2, (w.alloc (.cells zArr 27)).grownBy w2 (some B) → Tb w2 := fun w2 g => (hC0.grown g).now
  rw [h0] at c1
  unfold RSays at c1
  dsimp only [Option.getD, Option.isSome, zT] at c1
  have C1 := Lib.hid c1
  have HC1 := Lib.hid hC1
  have HB := Lib.hid hlt
  clear c1 hC1 hC0 hb0 hR hC h0
  unfold zArr at *
  go_enter Tryz.func40, Tryz.ntmps40
  go_upto_region 4 with (first
    | (go_at_call 63; (with_reducible refine C1.out.mono ?_); rintro e w2 ⟨rfl, r2, g2⟩; have R2 := Lib.hid r2; have G2 := Lib.hid g2; clear r2 g2)
    | (go_at_call 65; (with_reducible refine (kindOf_any _ _ (HC1.out _ G2.out)).mono ?_); rintro e w3 ⟨rfl, rfl⟩)
    | fail)
  have hz := z_kept HB.out G2.out
  have R3 := Lib.hid (R2.out.below (below_one (.cells (kArr (kindN ⟨#[]⟩ : Nat)) 27)))
  have G3 := Lib.hid (grown_trans (grown_of_below (below_one (.cells zArr 27)) _) (kp_alloc G2.out (.cells (kArr (kindN ⟨#[]⟩ : Nat)) 27)))
  have hz3 := hz.alloc (.cells (kArr (kindN ⟨#[]⟩ : Nat)) 27)
  unfold kArr at R3 G3 hz3
  obtain ⟨W3, hW⟩ : ∃ W3, W3 = (w2.alloc (.cells #[.int .i64 (kindN ⟨#[]⟩ : Nat), .int .i64 0, .string ⟨#[]⟩, .string ⟨#[]⟩, .string ⟨#[]⟩, .int .i64 0, .slice none 0 0, .int .i64 0, .int .i64 0, .int .i64 0, .int .i64 0, .bool false, .int .i64 0, .bool false, .slice none 0 0, .int .i64 0, .int .i64 0, .int .i64 0] 27)) := ⟨_, rfl⟩
  rw [← hW] at R3 G3 hz3 ⊢
  clear hW
  go_wp2_with (first
    | (refine st_zero rfl (.tmp 2) (.tmp 25) rfl w.heap.size rfl rfl hz3 ?_)
    | fail)
  exact bodyPost_ret (v := .tuple #[.agg zArr, .bool false]) (res_cmd2 Tryz.results40 _ _ w.heap.size 27 _ _ rfl rfl hz3 rfl) rfl ⟨zCo 0, .slice none 0 0, .slice none 0 0, rfl, Row.nil _, Row.nil _, R3.out, G3.out, ⟨New.nil _, New.nil _⟩, fun c1 h => by cases h⟩
end Go.Proofs.YtdkngidangfkiaaGreatDoor.Cmd
