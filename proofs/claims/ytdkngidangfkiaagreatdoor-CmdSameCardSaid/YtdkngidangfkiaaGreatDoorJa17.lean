/-
  Joined out of: Fields as they lie in memory: their values behind an interface, told apart; how many of a row answer a question.
-/
import Derived.Test.YtdkngidangfkiaaGreatDoorJa16
namespace Go.Proofs.YtdkngidangfkiaaGreatDoor.Cmd
open Go.RowKit
open Base
open Lex (Tok tkC tkC_length tokV zT)
open Shape (frB sizeB)
set_option linter.unusedVariables false
set_option linter.unusedSimpArgs false
def vlV : Vl → Value
  | .word s => .iface 83 (.string s)
  | .num n => .iface 84 (.int .i64 n)
  | .id n => .iface 86 (.int .i64 n)
  | .tk n => .iface 92 (.int .i64 n)
  | .opt a b => .iface 89 (.agg #[.int .i64 a, .int .i64 b])
  | .span a b => .iface 91 (.agg #[.int .i64 a, .int .i64 b])
def fdC (f : Fd) : List Value := [.string f.1, vlV f.2]
theorem fdC_length (f : Fd) : (fdC f).length = 2 := rfl
def fdV (f : Fd) : Value := .agg #[.string f.1, vlV f.2]
theorem as_word_word (v : Value) (W : World) : (Instr.typeAssert (.iface 83 v) 55 83 true).run Tryz.prog W = .ok (.tuple #[v, .bool true]) W := by kernel_rfl
theorem as_word_id (v : Value) (W : World) : (Instr.typeAssert (.iface 83 v) 55 86 true).run Tryz.prog W = .ok (.tuple #[.int .i64 0, .bool false]) W := by kernel_rfl
theorem as_num_word (v : Value) (W : World) : (Instr.typeAssert (.iface 84 v) 55 83 true).run Tryz.prog W = .ok (.tuple #[.string ⟨#[]⟩, .bool false]) W := by kernel_rfl
theorem as_num_num (v : Value) (W : World) : (Instr.typeAssert (.iface 84 v) 55 84 true).run Tryz.prog W = .ok (.tuple #[v, .bool true]) W := by kernel_rfl
theorem as_num_id (v : Value) (W : World) : (Instr.typeAssert (.iface 84 v) 55 86 true).run Tryz.prog W = .ok (.tuple #[.int .i64 0, .bool false]) W := by kernel_rfl
theorem as_id_word (v : Value) (W : World) : (Instr.typeAssert (.iface 86 v) 55 83 true).run Tryz.prog W = .ok (.tuple #[.string ⟨#[]⟩, .bool false]) W := by kernel_rfl
theorem as_id_num (v : Value) (W : World) : (Instr.typeAssert (.iface 86 v) 55 84 true).run Tryz.prog W = .ok (.tuple #[.int .i64 0, .bool false]) W := by kernel_rfl
theorem as_id_id (v : Value) (W : World) : (Instr.typeAssert (.iface 86 v) 55 86 true).run Tryz.prog W = .ok (.tuple #[v, .bool true]) W := by kernel_rfl
theorem as_tk_word (v : Value) (W : World) : (Instr.typeAssert (.iface 92 v) 55 83 true).run Tryz.prog W = .ok (.tuple #[.string ⟨#[]⟩, .bool false]) W := by kernel_rfl
theorem as_tk_num (v : Value) (W : World) : (Instr.typeAssert (.iface 92 v) 55 84 true).run Tryz.prog W = .ok (.tuple #[.int .i64 0, .bool false]) W := by kernel_rfl
theorem as_tk_id (v : Value) (W : World) : (Instr.typeAssert (.iface 92 v) 55 86 true).run Tryz.prog W = .ok (.tuple #[.int .i64 0, .bool false]) W := by kernel_rfl
theorem as_tk_tk (v : Value) (W : World) : (Instr.typeAssert (.iface 92 v) 55 92 true).run Tryz.prog W = .ok (.tuple #[v, .bool true]) W := by kernel_rfl
theorem as_opt_word (v : Value) (W : World) : (Instr.typeAssert (.iface 89 v) 55 83 true).run Tryz.prog W = .ok (.tuple #[.string ⟨#[]⟩, .bool false]) W := by kernel_rfl
theorem as_opt_num (v : Value) (W : World) : (Instr.typeAssert (.iface 89 v) 55 84 true).run Tryz.prog W = .ok (.tuple #[.int .i64 0, .bool false]) W := by kernel_rfl
theorem as_opt_id (v : Value) (W : World) : (Instr.typeAssert (.iface 89 v) 55 86 true).run Tryz.prog W = .ok (.tuple #[.int .i64 0, .bool false]) W := by kernel_rfl
theorem as_opt_tk (v : Value) (W : World) : (Instr.typeAssert (.iface 89 v) 55 92 true).run Tryz.prog W = .ok (.tuple #[.int .i64 0, .bool false]) W := by kernel_rfl
theorem as_opt_opt (v : Value) (W : World) : (Instr.typeAssert (.iface 89 v) 55 89 true).run Tryz.prog W = .ok (.tuple #[v, .bool true]) W := by kernel_rfl
theorem as_span_word (v : Value) (W : World) : (Instr.typeAssert (.iface 91 v) 55 83 true).run Tryz.prog W = .ok (.tuple #[.string ⟨#[]⟩, .bool false]) W := by kernel_rfl
theorem as_span_num (v : Value) (W : World) : (Instr.typeAssert (.iface 91 v) 55 84 true).run Tryz.prog W = .ok (.tuple #[.int .i64 0, .bool false]) W := by kernel_rfl
theorem as_span_id (v : Value) (W : World) : (Instr.typeAssert (.iface 91 v) 55 86 true).run Tryz.prog W = .ok (.tuple #[.int .i64 0, .bool false]) W := by kernel_rfl
theorem as_span_tk (v : Value) (W : World) : (Instr.typeAssert (.iface 91 v) 55 92 true).run Tryz.prog W = .ok (.tuple #[.int .i64 0, .bool false]) W := by kernel_rfl
theorem as_span_opt (v : Value) (W : World) : (Instr.typeAssert (.iface 91 v) 55 89 true).run Tryz.prog W = .ok (.tuple #[.agg #[.int .i64 0, .int .i64 0], .bool false]) W := by kernel_rfl
theorem as_span_span (v : Value) (W : World) : (Instr.typeAssert (.iface 91 v) 55 91 true).run Tryz.prog W = .ok (.tuple #[v, .bool true]) W := by kernel_rfl
theorem fd_cells {w : World} {a : Option Addr} {l : List Fd} (h : ReadsS 2 fdC w a l) {j : Nat} (hj : j < l.length) :
    ∃ b off, a = some ⟨b, off, none⟩ ∧ w.cell? ⟨b, off + j * 2, none⟩ = some (.string l[j].1) ∧ w.cell? ⟨b, off + j * 2 + 1, none⟩ = some (vlV l[j].2) := by
  obtain ⟨b, off, ha, hc⟩ := h.at_ hj
  exact ⟨b, off, ha, hc 0 (by decide), hc 1 (by decide)⟩
theorem vl_cases (v : Vl) : ∃ T x, vlV v = .iface T x := by cases v <;> exact ⟨_, _, rfl⟩
set_option maxRecDepth 100000 in
set_option maxHeartbeats 1000000 in
theorem namedq_any (f : Fd) (P : Nat) (s : ByteArray) (w : World) (hP : w.cell? ⟨P, 0, none⟩ = some (.string s)) :
    Calls Tryz.prog 145 #[fdV f, .pointer (some ⟨P, 0, none⟩)] w fun e w' => e = .returned (.bool (nmd s f)) ∧ Below w.heap.size w w' := by
  obtain ⟨x, v⟩ := f
  unfold fdV nmd
  dsimp only
  obtain ⟨T, y, hv⟩ := vl_cases v
  rw [hv]
  clear hv
  have hlt := lt_of_cell hP
  have tx := Runes.str_eq x s
  go_enter Tryz.func145, Tryz.ntmps145
  go_wp2
  go_ret
  exact ⟨ret_bool (by first | rfl | exact tx), by (focus repeat (first | exact Below.refl _ _ | assumption | (exact Hid.out (by assumption)) | (with_reducible refine Below.drew ?_) | (with_reducible refine Base.below_drewN ?_ _) | (refine Below.from (below_one _) ?_) | (refine Below.from (below_conv _ _ _) ?_) | (refine Below.setCell ?_ (by simp <;> omega) _) | (refine Below.from (by assumption) ?_)))⟩
set_option maxRecDepth 100000 in
set_option maxHeartbeats 1000000 in
theorem depq_any (f : Fd) (w : World) :
    Calls Tryz.prog 139 #[fdV f] w fun e w' => e = .returned (.bool (isDep f)) ∧ Below w.heap.size w w' := by
  obtain ⟨x, v⟩ := f
  unfold fdV isDep
  cases v
  · dsimp only [vlV]
    have h1 := as_word_id
    go_enter Tryz.func139, Tryz.ntmps139
    go_wp2
    go_ret
    exact ⟨rfl, by (focus repeat (first | exact Below.refl _ _ | assumption | (exact Hid.out (by assumption)) | (with_reducible refine Below.drew ?_) | (with_reducible refine Base.below_drewN ?_ _) | (refine Below.from (below_one _) ?_) | (refine Below.from (below_conv _ _ _) ?_) | (refine Below.setCell ?_ (by simp <;> omega) _) | (refine Below.from (by assumption) ?_)))⟩
  · dsimp only [vlV]
    have h1 := as_num_id
    go_enter Tryz.func139, Tryz.ntmps139
    go_wp2
    go_ret
    exact ⟨rfl, by (focus repeat (first | exact Below.refl _ _ | assumption | (exact Hid.out (by assumption)) | (with_reducible refine Below.drew ?_) | (with_reducible refine Base.below_drewN ?_ _) | (refine Below.from (below_one _) ?_) | (refine Below.from (below_conv _ _ _) ?_) | (refine Below.setCell ?_ (by simp <;> omega) _) | (refine Below.from (by assumption) ?_)))⟩
  · dsimp only [vlV]
    have h1 := as_id_id
    go_enter Tryz.func139, Tryz.ntmps139
    go_wp2
    go_ret
    exact ⟨rfl, by (focus repeat (first | exact Below.refl _ _ | assumption | (exact Hid.out (by assumption)) | (with_reducible refine Below.drew ?_) | (with_reducible refine Base.below_drewN ?_ _) | (refine Below.from (below_one _) ?_) | (refine Below.from (below_conv _ _ _) ?_) | (refine Below.setCell ?_ (by simp <;> omega) _) | (refine Below.from (by assumption) ?_)))⟩
  · dsimp only [vlV]
    have h1 := as_tk_id
    go_enter Tryz.func139, Tryz.ntmps139
    go_wp2
    go_ret
    exact ⟨rfl, by (focus repeat (first | exact Below.refl _ _ | assumption | (exact Hid.out (by assumption)) | (with_reducible refine Below.drew ?_) | (with_reducible refine Base.below_drewN ?_ _) | (refine Below.from (below_one _) ?_) | (refine Below.from (below_conv _ _ _) ?_) | (refine Below.setCell ?_ (by simp <;> omega) _) | (refine Below.from (by assumption) ?_)))⟩
  · dsimp only [vlV]
    have h1 := as_opt_id
    go_enter Tryz.func139, Tryz.ntmps139
    go_wp2
    go_ret
    exact ⟨rfl, by (focus repeat (first | exact Below.refl _ _ | assumption | (exact Hid.out (by assumption)) | (with_reducible refine Below.drew ?_) | (with_reducible refine Base.below_drewN ?_ _) | (refine Below.from (below_one _) ?_) | (refine Below.from (below_conv _ _ _) ?_) | (refine Below.setCell ?_ (by simp <;> omega) _) | (refine Below.from (by assumption) ?_)))⟩
  · dsimp only [vlV]
    have h1 := as_span_id
    go_enter Tryz.func139, Tryz.ntmps139
    go_wp2
    go_ret
    exact ⟨rfl, by (focus repeat (first | exact Below.refl _ _ | assumption | (exact Hid.out (by assumption)) | (with_reducible refine Below.drew ?_) | (with_reducible refine Base.below_drewN ?_ _) | (refine Below.from (below_one _) ?_) | (refine Below.from (below_conv _ _ _) ?_) | (refine Below.setCell ?_ (by simp <;> omega) _) | (refine Below.from (by assumption) ?_)))⟩
set_option maxRecDepth 100000 in
set_option maxHeartbeats 1000000 in
theorem onq_any (f : Fd) (P : Nat) (j : Int) (w : World) (hP : w.cell? ⟨P, 0, none⟩ = some (.int .i64 j)) :
    Calls Tryz.prog 190 #[fdV f, .pointer (some ⟨P, 0, none⟩)] w fun e w' => e = .returned (.bool (depOn j f)) ∧ Below w.heap.size w w' := by
  obtain ⟨x, v⟩ := f
  unfold fdV depOn
  have hlt := lt_of_cell hP
  cases v
  · dsimp only [vlV]
    have h1 := as_word_id
    go_enter Tryz.func190, Tryz.ntmps190
    go_wp2
    go_ret
    exact ⟨rfl, by (focus repeat (first | exact Below.refl _ _ | assumption | (exact Hid.out (by assumption)) | (with_reducible refine Below.drew ?_) | (with_reducible refine Base.below_drewN ?_ _) | (refine Below.from (below_one _) ?_) | (refine Below.from (below_conv _ _ _) ?_) | (refine Below.setCell ?_ (by simp <;> omega) _) | (refine Below.from (by assumption) ?_)))⟩
  · dsimp only [vlV]
    have h1 := as_num_id
    go_enter Tryz.func190, Tryz.ntmps190
    go_wp2
    go_ret
    exact ⟨rfl, by (focus repeat (first | exact Below.refl _ _ | assumption | (exact Hid.out (by assumption)) | (with_reducible refine Below.drew ?_) | (with_reducible refine Base.below_drewN ?_ _) | (refine Below.from (below_one _) ?_) | (refine Below.from (below_conv _ _ _) ?_) | (refine Below.setCell ?_ (by simp <;> omega) _) | (refine Below.from (by assumption) ?_)))⟩
  · dsimp only [vlV]
    have h1 := as_id_id
    go_enter Tryz.func190, Tryz.ntmps190
    go_wp2
    go_ret
    exact ⟨rfl, by (focus repeat (first | exact Below.refl _ _ | assumption | (exact Hid.out (by assumption)) | (with_reducible refine Below.drew ?_) | (with_reducible refine Base.below_drewN ?_ _) | (refine Below.from (below_one _) ?_) | (refine Below.from (below_conv _ _ _) ?_) | (refine Below.setCell ?_ (by simp <;> omega) _) | (refine Below.from (by assumption) ?_)))⟩
  · dsimp only [vlV]
    have h1 := as_tk_id
    go_enter Tryz.func190, Tryz.ntmps190
    go_wp2
    go_ret
    exact ⟨rfl, by (focus repeat (first | exact Below.refl _ _ | assumption | (exact Hid.out (by assumption)) | (with_reducible refine Below.drew ?_) | (with_reducible refine Base.below_drewN ?_ _) | (refine Below.from (below_one _) ?_) | (refine Below.from (below_conv _ _ _) ?_) | (refine Below.setCell ?_ (by simp <;> omega) _) | (refine Below.from (by assumption) ?_)))⟩
  · dsimp only [vlV]
    have h1 := as_opt_id
    go_enter Tryz.func190, Tryz.ntmps190
    go_wp2
    go_ret
    exact ⟨rfl, by (focus repeat (first | exact Below.refl _ _ | assumption | (exact Hid.out (by assumption)) | (with_reducible refine Below.drew ?_) | (with_reducible refine Base.below_drewN ?_ _) | (refine Below.from (below_one _) ?_) | (refine Below.from (below_conv _ _ _) ?_) | (refine Below.setCell ?_ (by simp <;> omega) _) | (refine Below.from (by assumption) ?_)))⟩
  · dsimp only [vlV]
    have h1 := as_span_id
    go_enter Tryz.func190, Tryz.ntmps190
    go_wp2
    go_ret
    exact ⟨rfl, by (focus repeat (first | exact Below.refl _ _ | assumption | (exact Hid.out (by assumption)) | (with_reducible refine Below.drew ?_) | (with_reducible refine Base.below_drewN ?_ _) | (refine Below.from (below_one _) ?_) | (refine Below.from (below_conv _ _ _) ?_) | (refine Below.setCell ?_ (by simp <;> omega) _) | (refine Below.from (by assumption) ?_)))⟩
set_option maxHeartbeats 1000000 in
theorem named_any (s : ByteArray) (w : World) :
    Calls Tryz.prog 110 #[.string s] w fun e w' => e = .returned (.func (.func 145) #[] #[.pointer (some ⟨w.heap.size, 0, none⟩)]) ∧ w' = w.alloc (.cells #[.string s] 9) := by
  go_enter Tryz.func110, Tryz.ntmps110
  go_wp2
  go_ret
  exact ⟨rfl, rfl⟩
set_option maxHeartbeats 1000000 in
theorem dependsOn_any (j : Int) (w : World) :
    Calls Tryz.prog 171 #[.int .i64 j] w fun e w' => e = .returned (.func (.func 190) #[] #[.pointer (some ⟨w.heap.size, 0, none⟩)]) ∧ w' = w.alloc (.cells #[.int .i64 j] 3) := by
  go_enter Tryz.func171, Tryz.ntmps171
  go_wp2
  go_ret
  exact ⟨rfl, rfl⟩
theorem cnt_step (q : Fd → Bool) (l : List Fd) (k : Nat) (h : k < l.length) : cntL q (l.take (k + 1)) = cntL q (l.take k) + if q l[k] = true then 1 else 0 := by
  unfold cntL
  rw [List.take_succ_eq_append_getElem h, List.countP_append, List.countP_singleton]
theorem cnt_le (q : Fd → Bool) (l : List Fd) : cntL q l ≤ l.length := List.countP_le_length
set_option maxRecDepth 100000 in
set_option maxHeartbeats 2000000 in
theorem count_named (P : Nat) (s : ByteArray) (ao : Option Addr) (cap : Nat) (l : List Fd) (w : World) (hl : l.length ≤ 100000) (hr : ReadsS 2 fdC w ao l) (hP : w.cell? ⟨P, 0, none⟩ = some (.string s)) :
    Calls Tryz.prog 109 #[.slice ao l.length cap, .func (.func 145) #[] #[.pointer (some ⟨P, 0, none⟩)]] w fun e w' => e = .returned (.int .i64 (cntL (nmd s) l : Nat)) ∧ Below w.heap.size w w' := by
  have HR := Lib.hid hr
  clear hr
  obtain ⟨Q, hQ⟩ : ∃ Q, Q = nmd s := ⟨_, rfl⟩
  rw [← hQ]
  have c1 := fun (f : Fd) w2 (hb : Below w.heap.size w w2) => namedq_any f P s w2 (cell_below hP hb)
  rw [← hQ] at c1
  clear hP
  have C1 := Lib.hid c1
  clear c1 hQ
  go_enter Tryz.func109, Tryz.ntmps109
  go_wp2
  go_loopw [10, 5] (fun i c wr => ∃ k : Nat, i = .int .i64 (k : Int) ∧ c = .int .i64 (cntL Q (l.take k) : Nat) ∧ k ≤ l.length ∧ Below w.heap.size w wr) (fun i _ _ => l.length - (intOf i).toNat)
  case atStart => exact ⟨0, rfl, rfl, Nat.zero_le _, Below.refl _ _⟩
  case round =>
    obtain ⟨k, rfl, rfl, hk, hb⟩ := hrel
    have HB := Lib.hid hb
    have hcl := cnt_le Q (l.take k)
    rw [List.length_take] at hcl
    by_cases hp : k < l.length
    · obtain ⟨b, off, rfl, c0, c1⟩ := fd_cells (HR.out.below fdC_length hb) hp
      have hst := cnt_step Q l k hp
      have hlow : (0 : Int) ≤ (k : Int) := by omega
      have hup : (k : Int) < ((l.length : Nat) : Int) := by omega
      obtain ⟨⟨x, v⟩, hf⟩ : ∃ f : Fd, f = l[k] := ⟨_, rfl⟩
      rw [← hf] at c0 c1 hst
      dsimp only at c0 c1
      obtain ⟨T, y, hv⟩ := vl_cases v
      have C2 := C1.out (x, v)
      unfold fdV at C2
      dsimp only at C2
      rw [hv] at c1 C2
      obtain ⟨m, hm⟩ : ∃ m, m = cntL Q (l.take k) := ⟨_, rfl⟩
      obtain ⟨z, hz⟩ : ∃ z, z = Q (x, v) := ⟨_, rfl⟩
      rw [← hm] at hst hcl ⊢
      rw [← hz] at hst C2
      have HS := Lib.hid hst
      have HC2 := Lib.hid C2
      clear hf hv hm hz hb hst C2
      cases z with
      | false =>
        go_wp2_with (first
          | (go_at_call 145; (with_reducible refine (HC2.out _ (Hid.out HB |>.trans (by first | exact Below.refl _ _ | exact ((Below.refl _ _).alloc (Nat.le_trans HB.out.size (Nat.le_refl _)) _)))).mono ?_); rintro e w1 ⟨rfl, p1⟩)
          | fail)
        refine ⟨⟨k + 1, by go_num, ?_, by omega, p1.from (Below.trans HB.out ((Below.refl _ _).alloc HB.out.size _))⟩, ?_⟩
        · rw [HS.out]; simp
        · simp [intOf]; omega
      | true =>
        go_wp2_with (first
          | (go_at_call 145; (with_reducible refine (HC2.out _ (Hid.out HB |>.trans (by first | exact Below.refl _ _ | exact ((Below.refl _ _).alloc (Nat.le_trans HB.out.size (Nat.le_refl _)) _)))).mono ?_); rintro e w1 ⟨rfl, p1⟩)
          | fail)
        refine ⟨⟨k + 1, by go_num, ?_, by omega, p1.from (Below.trans HB.out ((Below.refl _ _).alloc HB.out.size _))⟩, ?_⟩
        · rw [HS.out]; go_num
        · simp [intOf]; omega
    · obtain rfl : k = l.length := by omega
      have HN : Hid (cntL Q (l.take l.length) = cntL Q l) := Lib.hid (by rw [List.take_length])
      go_wp2
      go_ret
      exact ⟨ret_i64 (by rw [HN.out]), HB.out⟩
set_option maxRecDepth 100000 in
set_option maxHeartbeats 2000000 in
theorem count_dep (ao : Option Addr) (cap : Nat) (l : List Fd) (w : World) (hl : l.length ≤ 100000) (hr : ReadsS 2 fdC w ao l) :
    Calls Tryz.prog 109 #[.slice ao l.length cap, .func (.func 139) #[] #[]] w fun e w' => e = .returned (.int .i64 (cntL (isDep) l : Nat)) ∧ Below w.heap.size w w' := by
  have HR := Lib.hid hr
  clear hr
  obtain ⟨Q, hQ⟩ : ∃ Q, Q = isDep := ⟨_, rfl⟩
  rw [← hQ]
  have c1 := fun (f : Fd) w2 (hb : Below w.heap.size w w2) => depq_any f w2
  rw [← hQ] at c1
  have C1 := Lib.hid c1
  clear c1 hQ
  go_enter Tryz.func109, Tryz.ntmps109
  go_wp2
  go_loopw [10, 5] (fun i c wr => ∃ k : Nat, i = .int .i64 (k : Int) ∧ c = .int .i64 (cntL Q (l.take k) : Nat) ∧ k ≤ l.length ∧ Below w.heap.size w wr) (fun i _ _ => l.length - (intOf i).toNat)
  case atStart => exact ⟨0, rfl, rfl, Nat.zero_le _, Below.refl _ _⟩
  case round =>
    obtain ⟨k, rfl, rfl, hk, hb⟩ := hrel
    have HB := Lib.hid hb
    have hcl := cnt_le Q (l.take k)
    rw [List.length_take] at hcl
    by_cases hp : k < l.length
    · obtain ⟨b, off, rfl, c0, c1⟩ := fd_cells (HR.out.below fdC_length hb) hp
      have hst := cnt_step Q l k hp
      have hlow : (0 : Int) ≤ (k : Int) := by omega
      have hup : (k : Int) < ((l.length : Nat) : Int) := by omega
      obtain ⟨⟨x, v⟩, hf⟩ : ∃ f : Fd, f = l[k] := ⟨_, rfl⟩
      rw [← hf] at c0 c1 hst
      dsimp only at c0 c1
      obtain ⟨T, y, hv⟩ := vl_cases v
      have C2 := C1.out (x, v)
      unfold fdV at C2
      dsimp only at C2
      rw [hv] at c1 C2
      obtain ⟨m, hm⟩ : ∃ m, m = cntL Q (l.take k) := ⟨_, rfl⟩
      obtain ⟨z, hz⟩ : ∃ z, z = Q (x, v) := ⟨_, rfl⟩
      rw [← hm] at hst hcl ⊢
      rw [← hz] at hst C2
      have HS := Lib.hid hst
      have HC2 := Lib.hid C2
      clear hf hv hm hz hb hst C2
      cases z with
      | false =>
        go_wp2_with (first
          | (go_at_call 139; (with_reducible refine (HC2.out _ (Hid.out HB |>.trans (by first | exact Below.refl _ _ | exact ((Below.refl _ _).alloc (Nat.le_trans HB.out.size (Nat.le_refl _)) _)))).mono ?_); rintro e w1 ⟨rfl, p1⟩)
          | fail)
        refine ⟨⟨k + 1, by go_num, ?_, by omega, p1.from (Below.trans HB.out ((Below.refl _ _).alloc HB.out.size _))⟩, ?_⟩
        · rw [HS.out]; simp
        · simp [intOf]; omega
      | true =>
        go_wp2_with (first
          | (go_at_call 139; (with_reducible refine (HC2.out _ (Hid.out HB |>.trans (by first | exact Below.refl _ _ | exact ((Below.refl _ _).alloc (Nat.le_trans HB.out.size (Nat.le_refl _)) _)))).mono ?_); rintro e w1 ⟨rfl, p1⟩)
          | fail)
        refine ⟨⟨k + 1, by go_num, ?_, by omega, p1.from (Below.trans HB.out ((Below.refl _ _).alloc HB.out.size _))⟩, ?_⟩
        · rw [HS.out]; go_num
        · simp [intOf]; omega
    · obtain rfl : k = l.length := by omega
      have HN : Hid (cntL Q (l.take l.length) = cntL Q l) := Lib.hid (by rw [List.take_length])
      go_wp2
      go_ret
      exact ⟨ret_i64 (by rw [HN.out]), HB.out⟩
set_option maxRecDepth 100000 in
set_option maxHeartbeats 2000000 in
theorem count_on (P : Nat) (j : Int) (ao : Option Addr) (cap : Nat) (l : List Fd) (w : World) (hl : l.length ≤ 100000) (hr : ReadsS 2 fdC w ao l) (hP : w.cell? ⟨P, 0, none⟩ = some (.int .i64 j)) :
    Calls Tryz.prog 109 #[.slice ao l.length cap, .func (.func 190) #[] #[.pointer (some ⟨P, 0, none⟩)]] w fun e w' => e = .returned (.int .i64 (cntL (depOn j) l : Nat)) ∧ Below w.heap.size w w' := by
  have HR := Lib.hid hr
  clear hr
  obtain ⟨Q, hQ⟩ : ∃ Q, Q = depOn j := ⟨_, rfl⟩
  rw [← hQ]
  have c1 := fun (f : Fd) w2 (hb : Below w.heap.size w w2) => onq_any f P j w2 (cell_below hP hb)
  rw [← hQ] at c1
  clear hP
  have C1 := Lib.hid c1
  clear c1 hQ
  go_enter Tryz.func109, Tryz.ntmps109
  go_wp2
  go_loopw [10, 5] (fun i c wr => ∃ k : Nat, i = .int .i64 (k : Int) ∧ c = .int .i64 (cntL Q (l.take k) : Nat) ∧ k ≤ l.length ∧ Below w.heap.size w wr) (fun i _ _ => l.length - (intOf i).toNat)
  case atStart => exact ⟨0, rfl, rfl, Nat.zero_le _, Below.refl _ _⟩
  case round =>
    obtain ⟨k, rfl, rfl, hk, hb⟩ := hrel
    have HB := Lib.hid hb
    have hcl := cnt_le Q (l.take k)
    rw [List.length_take] at hcl
    by_cases hp : k < l.length
    · obtain ⟨b, off, rfl, c0, c1⟩ := fd_cells (HR.out.below fdC_length hb) hp
      have hst := cnt_step Q l k hp
      have hlow : (0 : Int) ≤ (k : Int) := by omega
      have hup : (k : Int) < ((l.length : Nat) : Int) := by omega
      obtain ⟨⟨x, v⟩, hf⟩ : ∃ f : Fd, f = l[k] := ⟨_, rfl⟩
      rw [← hf] at c0 c1 hst
      dsimp only at c0 c1
      obtain ⟨T, y, hv⟩ := vl_cases v
      have C2 := C1.out (x, v)
      unfold fdV at C2
      dsimp only at C2
      rw [hv] at c1 C2
      obtain ⟨m, hm⟩ : ∃ m, m = cntL Q (l.take k) := ⟨_, rfl⟩
      obtain ⟨z, hz⟩ : ∃ z, z = Q (x, v) := ⟨_, rfl⟩
      rw [← hm] at hst hcl ⊢
      rw [← hz] at hst C2
      have HS := Lib.hid hst
      have HC2 := Lib.hid C2
      clear hf hv hm hz hb hst C2
      cases z with
      | false =>
        go_wp2_with (first
          | (go_at_call 190; (with_reducible refine (HC2.out _ (Hid.out HB |>.trans (by first | exact Below.refl _ _ | exact ((Below.refl _ _).alloc (Nat.le_trans HB.out.size (Nat.le_refl _)) _)))).mono ?_); rintro e w1 ⟨rfl, p1⟩)
          | fail)
        refine ⟨⟨k + 1, by go_num, ?_, by omega, p1.from (Below.trans HB.out ((Below.refl _ _).alloc HB.out.size _))⟩, ?_⟩
        · rw [HS.out]; simp
        · simp [intOf]; omega
      | true =>
        go_wp2_with (first
          | (go_at_call 190; (with_reducible refine (HC2.out _ (Hid.out HB |>.trans (by first | exact Below.refl _ _ | exact ((Below.refl _ _).alloc (Nat.le_trans HB.out.size (Nat.le_refl _)) _)))).mono ?_); rintro e w1 ⟨rfl, p1⟩)
          | fail)
        refine ⟨⟨k + 1, by go_num, ?_, by omega, p1.from (Below.trans HB.out ((Below.refl _ _).alloc HB.out.size _))⟩, ?_⟩
        · rw [HS.out]; go_num
        · simp [intOf]; omega
    · obtain rfl : k = l.length := by omega
      have HN : Hid (cntL Q (l.take l.length) = cntL Q l) := Lib.hid (by rw [List.take_length])
      go_wp2
      go_ret
      exact ⟨ret_i64 (by rw [HN.out]), HB.out⟩
end Go.Proofs.YtdkngidangfkiaaGreatDoor.Cmd
