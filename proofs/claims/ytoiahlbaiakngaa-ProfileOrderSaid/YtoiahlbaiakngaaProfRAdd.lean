/-
  The walk of the document's own Add.
-/
import Derived.Test.YtoiahlbaiakngaaProfTick
import Derived.Test.YtoiahlbaiakngaaProfRef
import Derived.Test.YtoiahlbaiakngaaProfAddR
namespace Go.Proofs.Ytoiahlbaiakngaa.Prof
open Go.RowKit
open Base
set_option linter.unusedVariables false
set_option linter.unusedSimpArgs false

theorem readsI_one (w : World) (a : Int) (t : TypeId) : Reads iV (w.alloc (.cells #[.int .i64 a] t)) (some ⟨w.heap.size, 0, none⟩) [a] := reads_one (f := iV) rfl a t
theorem lay_take {f : Int → Int} {l : List Int} {k : Nat} (h : k < l.length) : outF f (l.take (k + 1)) [] = layL (outF f (l.take k) []) l[k] (f l[k]) := by
  rw [List.take_add_one, List.getElem?_eq_getElem h]
  exact outF_snoc _ _ _ _

set_option maxRecDepth 100000 in
set_option maxHeartbeats 8000000 in
/-- The loop that lays, from where its ticks are there. -/
theorem radd_any (ao : Option Addr) (len cap : Nat) (p : List St) (a b n : Int) (w : World) (hlen : p.length = len) (hl : len ≤ maxLen) (hr : ReadsS 2 stC w ao p) :
    Calls Try.prog 20 #[.slice ao len cap, .int .i64 a, .int .i64 b, .int .i64 n] w fun e w' => AddSays w (addR p a b n) e w' := by
  subst hlen
  have cC := rcheck_any ao p.length cap p w rfl hl hr
  by_cases hp : Prof p
  · rw [chkE_0 hp] at cC
    have CC := Lib.hid cC
    by_cases h1 : a < 0
    · have th1 : decide (a < 0) = true := decide_eq_true h1
      have HR := Lib.hid (addR_bad (a := a) (b := b) (n := n) hp (fun h => by omega))
      clear cC hp hr h1
      go_enter Try.func20, Try.ntmps20
      go_wp2_with (first
        | (go_at_call 11; (with_reducible refine (CC.out).mono ?_); rintro e w1 ⟨rfl, p1⟩)
        | fail)
      go_ret2
      exact AddSays.nil HR.out p1
    have th1 : decide (a < 0) = false := decide_eq_false h1
    by_cases h2 : 1000000 < a
    · have th2 : decide (1000000 < a) = true := decide_eq_true h2
      have HR := Lib.hid (addR_bad (a := a) (b := b) (n := n) hp (fun h => by omega))
      clear cC hp hr h1 h2
      go_enter Try.func20, Try.ntmps20
      go_wp2_with (first
        | (go_at_call 11; (with_reducible refine (CC.out).mono ?_); rintro e w1 ⟨rfl, p1⟩)
        | fail)
      go_ret2
      exact AddSays.nil HR.out p1
    have th2 : decide (1000000 < a) = false := decide_eq_false h2
    by_cases h3 : b < a
    · have th3 : decide (b < a) = true := decide_eq_true h3
      have HR := Lib.hid (addR_bad (a := a) (b := b) (n := n) hp (fun h => by omega))
      clear cC hp hr h1 h2 h3
      go_enter Try.func20, Try.ntmps20
      go_wp2_with (first
        | (go_at_call 11; (with_reducible refine (CC.out).mono ?_); rintro e w1 ⟨rfl, p1⟩)
        | fail)
      go_ret2
      exact AddSays.nil HR.out p1
    have th3 : decide (b < a) = false := decide_eq_false h3
    by_cases h4 : n < -1000000
    · have th4 : decide (n < -1000000) = true := decide_eq_true h4
      have HR := Lib.hid (addR_bad (a := a) (b := b) (n := n) hp (fun h => by omega))
      clear cC hp hr h1 h2 h3 h4
      go_enter Try.func20, Try.ntmps20
      go_wp2_with (first
        | (go_at_call 11; (with_reducible refine (CC.out).mono ?_); rintro e w1 ⟨rfl, p1⟩)
        | fail)
      go_ret2
      exact AddSays.nil HR.out p1
    have th4 : decide (n < -1000000) = false := decide_eq_false h4
    by_cases h5 : 1000000 < n
    · have th5 : decide (1000000 < n) = true := decide_eq_true h5
      have HR := Lib.hid (addR_bad (a := a) (b := b) (n := n) hp (fun h => by omega))
      clear cC hp hr h1 h2 h3 h4 h5
      go_enter Try.func20, Try.ntmps20
      go_wp2_with (first
        | (go_at_call 11; (with_reducible refine (CC.out).mono ?_); rintro e w1 ⟨rfl, p1⟩)
        | fail)
      go_ret2
      exact AddSays.nil HR.out p1
    have th5 : decide (1000000 < n) = false := decide_eq_false h5
    have hnb : ¬ badA a b n := fun h => h ⟨by omega, by omega, by omega, by omega, by omega⟩
    have hl1 := hp.1.2.1
    have hou := outF_same hp hnb
    have hn0 : -1000000 ≤ n := by omega
    have hn1 : n ≤ 1000000 := by omega
    have cT := fun (a2 : Option Addr) (len2 c2 : Nat) (xs : List Int) (w2 : World) (hb : Below w.heap.size w w2) (hlen2 : xs.length = len2) (hl2 : len2 ≤ 1000) (hx : Reads iV w2 a2 xs) => ticks_any ao p.length cap p a2 len2 c2 xs w2 rfl hl1 (hr.below stC_length hb) hlen2 hl2 hx
    have cN := fun (t : Int) (w2 : World) (hb : Below w.heap.size w w2) => rnow_any ao p.length cap p t w2 rfl hl (hr.below stC_length hb)
    have hnow := fun t => now_bd hp t
    have HOK := Lib.hid (addR_ok hp hnb)
    have HBIG := Lib.hid (addR_big hp hnb)
    rw [← hou] at HOK HBIG
    have hml : (mores a b).length ≤ 2 := by unfold mores; split <;> simp
    have htl := ticks_le p (mores a b)
    obtain ⟨l, hlq⟩ : ∃ l, l = ticksL p (mores a b) := ⟨_, rfl⟩
    obtain ⟨f, hf⟩ : ∃ f : Int → Int, f = fun t => now p t + bump a b n t := ⟨_, rfl⟩
    rw [← hlq, ← hf] at HOK HBIG
    rw [← hlq] at htl
    have hll : l.length ≤ 1002 := by omega
    have hfv : ∀ x, (a ≤ x → x < b → f x = now p x + n) ∧ ((¬ a ≤ x ∨ ¬ x < b) → f x = now p x) := fun x => by
      rw [hf]
      constructor
      · intro c1 c2; simp only [bump]; rw [if_pos ⟨c1, c2⟩]
      · intro c; simp only [bump]; rw [if_neg (by omega)]; omega
    have HLQ := Lib.hid hlq
    have HFV := Lib.hid hfv
    have HNOW := Lib.hid hnow
    have CT := Lib.hid cT
    have CN := Lib.hid cN
    obtain ⟨i0, hi, hz0, hz1, hz2⟩ := info_parts2 info_int
    have HI := Lib.hid hi
    have HZ0 := Lib.hid hz0
    have HZ1 := Lib.hid hz1
    have HZ2 := Lib.hid hz2
    obtain ⟨i1, si, sz0, sz1, sz2⟩ := info_parts' info_st
    have SI := Lib.hid si
    have SZ0 := Lib.hid sz0
    have SZ1 := Lib.hid sz1
    have SZ2 := Lib.hid sz2
    have HR2 : Hid (∀ R, addR p a b n = R → ∀ e w', AddSays w R e w' → AddSays w (addR p a b n) e w') := Lib.hid (fun R h e w' k => by rw [h]; exact k)
    clear hi hz0 hz1 hz2 si sz0 sz1 sz2 cT cN cC hnow hou hnb hr hfv hf hlq htl hml h1 h2 h3 h4 h5
    by_cases hb6 : b ≤ 1000000
    · have t6 : decide (b ≤ 1000000) = true := decide_eq_true hb6
      have HM : Hid (ticksL p [a, b] = l) := Lib.hid (by rw [HLQ.out]; unfold mores; rw [if_pos hb6])
      clear hb6
      go_enter Try.func20, Try.ntmps20
      go_wp2_with (first
        | (go_at_call 11; (with_reducible refine (CC.out).mono ?_); rintro e w1 ⟨rfl, p1⟩)
        | (at_builtin; go_loud (refine wpList_append_src rfl (.tmp 41) (.tmp 43) 51 rfl i0 _ 8 Try.underlying51 HI.out HZ0.out HZ1.out HZ2.out rfl (fun _ => rfl) rfl (Base.Own.alloc (Base.Own.one (f := iV) (B := w1.heap.size) (w := w1) (Nat.le_refl _) a rfl) _) (some ⟨w1.heap.size + 1, 0, none⟩) 1 1 [b] (by first | rfl | (simp [Act.eval, Act.put]; done)) rfl (reads_one (by simp) b _) (fun h => by cases h) (by simp) (by simp; unfold maxLen; omega) ?_; intro v7 w7 o7 b7; obtain ⟨ao7, c7, rfl, s1, s2, s3, s4⟩ := o7.value; have S1 := Lib.hid s1; have B7 := Lib.hid (p1.trans ((((below_two _ _).trans (b7.mono (Nat.le_refl _))).mono p1.size))); clear s1 o7 b7))
        | (go_at_call 29; go_loud ((with_reducible refine (CT.out _ 2 _ [a, b] _ (by (focus repeat (first | exact Below.refl _ _ | assumption | (exact Hid.out (by assumption)) | (with_reducible refine Below.drew ?_) | (with_reducible refine Base.below_drewN ?_ _) | (refine Below.from (below_one _) ?_) | (refine Below.from (below_conv _ _ _) ?_) | (refine Below.setCell ?_ (by simp <;> omega) _) | (refine Below.from (by assumption) ?_)))) rfl (by simp) S1.out).mono ?_); rintro e w3 ⟨v3, rfl, r3, p3⟩; rw [HM.out] at r3; obtain ⟨ao3, c3, rfl, r4, r5, r6, r7, r8⟩ := r3; have RL := Lib.hid r4; have P3 := Lib.hid (p3.from B7.out); clear r4 r5 r6 r7 r8 p3))
        | fail)
      have hLn : l.length ≤ 9223372036854775807 := by omega
      go_loopw [12, 13] (fun v i wr => ∃ k : Nat, i = .int .i64 (k : Int) ∧ k ≤ l.length ∧ OwnS 2 stC w3.heap.size 43 v (outF f (l.take k) []) wr ∧ Below w3.heap.size w3 wr) (fun _ i _ => l.length - (intOf i).toNat)
      case atStart => exact ⟨0, rfl, Nat.zero_le _, OwnS.nil (Nat.le_refl _), Below.refl _ _⟩
      case round =>
        obtain ⟨k, rfl, hk, hown, hb⟩ := hrel
        have HB := Lib.hid hb
        have HO := Lib.hid hown
        have hql := outF_le f (l.take k) []
        rw [List.length_take, List.length_nil] at hql
        obtain ⟨vo, vcap, rfl, q1, q2, q3, q4⟩ := hown.value stC_length
        by_cases hpk : k < l.length
        · obtain ⟨lb, lo, hlo, b0⟩ := (RL.out.below hb).at_ hpk
          unfold iV at b0
          have hst := lay_take (f := f) hpk
          obtain ⟨x, hxx⟩ : ∃ x, x = l[k] := ⟨_, rfl⟩
          rw [← hxx] at b0 hst
          obtain ⟨Z, hZ⟩ : ∃ Z, Z = outF f (l.take k) [] := ⟨_, rfl⟩
          rw [← hZ] at HO q1 q3 hst hql ⊢
          have cn := CN.out x wr (HB.out.from P3.out)
          have hfx := HFV.out x
          have hnx := HNOW.out x
          obtain ⟨N, hN⟩ : ∃ N, N = now p x := ⟨_, rfl⟩
          rw [← hN] at cn hfx hnx
          have CNX := Lib.hid cn
          have HQL := Lib.hid hql
          have HST := Lib.hid hst
          have hzl : Z.length ≤ 9223372036854775807 := by omega
          obtain ⟨hn2, hn3⟩ := hnx
          subst hlo
          clear cn hxx hZ hN hb hown hst hql q2 q4
          by_cases c1 : a ≤ x
          · have s1 : decide (a ≤ x) = true := decide_eq_true c1
            by_cases c2 : x < b
            · have s2 : decide (x < b) = true := decide_eq_true c2
              have hF := hfx.1 c1 c2
              clear hfx
              by_cases h0 : Z = []
              · have u1 : ((Z.length : Int) == 0) = true := by rw [beq_iff_eq, h0]; rfl
                have u1' : (Z.length == 0) = true := by rw [beq_iff_eq, h0]; rfl
                have HSN : Hid (outF f (l.take (k + 1)) [] = Z ++ [(x, (N + n))]) := Lib.hid (by rw [HST.out, hF]; exact layL_new (fun h => h.1 h0))
                clear h0 hF
                go_wp2_with (first
                  | (go_at_call 25; (with_reducible refine (CNX.out).mono ?_); rintro e w5 ⟨rfl, rfl⟩)
                  | (at_builtin; refine wpList_append_srcS rfl (.tmp 91) (.tmp 98) 22 rfl stC_length (by decide) i1 _ 16 Try.underlying22 SI.out SZ0.out SZ1.out SZ2.out rfl stC_one rfl (HO.out.alloc _) (some ⟨wr.heap.size, 0, none⟩) 1 1 [(x, (N + n))] rfl rfl (readsSt_one rfl (x, (N + n)) _) (fun h => by cases h) (by have := HQL.out; simp; omega) (by have := HQL.out; simp; unfold maxLen; omega) ?_; intro v7 w7 o7 b7; have O7 := Lib.hid o7; have B7 := Lib.hid b7; clear o7 b7)
                  | fail)
                refine ⟨⟨k + 1, by go_num, by omega, by rw [HSN.out]; exact O7.out, (HB.out.alloc HB.out.size _).trans B7.out⟩, ?_⟩
                simp [intOf]; omega
              · have hpos : 0 < Z.length := List.length_pos_iff.2 h0
                have u1 : ((Z.length : Int) == 0) = false := by rw [beq_eq_false_iff_ne]; omega
                have u1' : (Z.length == 0) = false := by rw [beq_eq_false_iff_ne]; omega
                obtain ⟨m, hm⟩ : ∃ m, Z.length = m + 1 := ⟨Z.length - 1, by omega⟩
                obtain ⟨g0, o0, hvo, d0, d1⟩ := st_cells q1 (j := m) (by omega)
                subst hvo
                have hlow : (0 : Int) ≤ (m : Int) := by omega
                have hup : (m : Int) < ((Z.length : Nat) : Int) := by omega
                have hwm : IntKind.i64.wrap ((Z.length : Int) - 1) = (m : Int) := by simp only [IntKind.wrap_i64]; omega
                have hgd : Z.getD (Z.length - 1) (0, 0) = Z[m]'(by omega) := by rw [show Z.length - 1 = m from (by omega)]; exact getD_eq _
                obtain ⟨⟨y, z⟩, hX⟩ : ∃ A : St, A = Z[m]'(by omega) := ⟨_, rfl⟩
                rw [← hX] at d1 hgd
                dsimp only at d1
                by_cases hy : z = (N + n)
                · have u2 : (z != (N + n)) = false := by rw [bne_eq_false_iff_eq]; exact hy
                  have HSN : Hid (outF f (l.take (k + 1)) [] = Z) := Lib.hid (by rw [HST.out, hF]; exact layL_same h0 (by rw [hgd]; exact hy))
                  clear q1 h0 hm hX hgd d0 hy hF
                  go_wp2_with (first
                    | (go_at_call 25; (with_reducible refine (CNX.out).mono ?_); rintro e w5 ⟨rfl, rfl⟩)
                    | fail)
                  refine ⟨⟨k + 1, by go_num, by omega, by rw [HSN.out]; exact HO.out, HB.out⟩, ?_⟩
                  simp [intOf]; omega
                · have u2 : (z != (N + n)) = true := by rw [bne_iff_ne]; exact hy
                  have HSN : Hid (outF f (l.take (k + 1)) [] = Z ++ [(x, (N + n))]) := Lib.hid (by rw [HST.out, hF]; exact layL_new (fun h => hy (by rw [hgd] at h; exact h.2)))
                  clear q1 h0 hm hX hgd d0 hy hF
                  go_wp2_with (first
                    | (go_at_call 25; (with_reducible refine (CNX.out).mono ?_); rintro e w5 ⟨rfl, rfl⟩)
                    | (at_builtin; refine wpList_append_srcS rfl (.tmp 91) (.tmp 98) 22 rfl stC_length (by decide) i1 _ 16 Try.underlying22 SI.out SZ0.out SZ1.out SZ2.out rfl stC_one rfl (HO.out.alloc _) (some ⟨wr.heap.size, 0, none⟩) 1 1 [(x, (N + n))] rfl rfl (readsSt_one rfl (x, (N + n)) _) (fun h => by cases h) (by have := HQL.out; simp; omega) (by have := HQL.out; simp; unfold maxLen; omega) ?_; intro v7 w7 o7 b7; have O7 := Lib.hid o7; have B7 := Lib.hid b7; clear o7 b7)
                    | fail)
                  refine ⟨⟨k + 1, by go_num, by omega, by rw [HSN.out]; exact O7.out, (HB.out.alloc HB.out.size _).trans B7.out⟩, ?_⟩
                  simp [intOf]; omega
            · have s2 : decide (x < b) = false := decide_eq_false c2
              have hF := hfx.2 (.inr (by omega))
              clear hfx
              by_cases h0 : Z = []
              · have u1 : ((Z.length : Int) == 0) = true := by rw [beq_iff_eq, h0]; rfl
                have u1' : (Z.length == 0) = true := by rw [beq_iff_eq, h0]; rfl
                have HSN : Hid (outF f (l.take (k + 1)) [] = Z ++ [(x, N)]) := Lib.hid (by rw [HST.out, hF]; exact layL_new (fun h => h.1 h0))
                clear h0 hF
                go_wp2_with (first
                  | (go_at_call 25; (with_reducible refine (CNX.out).mono ?_); rintro e w5 ⟨rfl, rfl⟩)
                  | (at_builtin; refine wpList_append_srcS rfl (.tmp 91) (.tmp 98) 22 rfl stC_length (by decide) i1 _ 16 Try.underlying22 SI.out SZ0.out SZ1.out SZ2.out rfl stC_one rfl (HO.out.alloc _) (some ⟨wr.heap.size, 0, none⟩) 1 1 [(x, N)] rfl rfl (readsSt_one rfl (x, N) _) (fun h => by cases h) (by have := HQL.out; simp; omega) (by have := HQL.out; simp; unfold maxLen; omega) ?_; intro v7 w7 o7 b7; have O7 := Lib.hid o7; have B7 := Lib.hid b7; clear o7 b7)
                  | fail)
                refine ⟨⟨k + 1, by go_num, by omega, by rw [HSN.out]; exact O7.out, (HB.out.alloc HB.out.size _).trans B7.out⟩, ?_⟩
                simp [intOf]; omega
              · have hpos : 0 < Z.length := List.length_pos_iff.2 h0
                have u1 : ((Z.length : Int) == 0) = false := by rw [beq_eq_false_iff_ne]; omega
                have u1' : (Z.length == 0) = false := by rw [beq_eq_false_iff_ne]; omega
                obtain ⟨m, hm⟩ : ∃ m, Z.length = m + 1 := ⟨Z.length - 1, by omega⟩
                obtain ⟨g0, o0, hvo, d0, d1⟩ := st_cells q1 (j := m) (by omega)
                subst hvo
                have hlow : (0 : Int) ≤ (m : Int) := by omega
                have hup : (m : Int) < ((Z.length : Nat) : Int) := by omega
                have hwm : IntKind.i64.wrap ((Z.length : Int) - 1) = (m : Int) := by simp only [IntKind.wrap_i64]; omega
                have hgd : Z.getD (Z.length - 1) (0, 0) = Z[m]'(by omega) := by rw [show Z.length - 1 = m from (by omega)]; exact getD_eq _
                obtain ⟨⟨y, z⟩, hX⟩ : ∃ A : St, A = Z[m]'(by omega) := ⟨_, rfl⟩
                rw [← hX] at d1 hgd
                dsimp only at d1
                by_cases hy : z = N
                · have u2 : (z != N) = false := by rw [bne_eq_false_iff_eq]; exact hy
                  have HSN : Hid (outF f (l.take (k + 1)) [] = Z) := Lib.hid (by rw [HST.out, hF]; exact layL_same h0 (by rw [hgd]; exact hy))
                  clear q1 h0 hm hX hgd d0 hy hF
                  go_wp2_with (first
                    | (go_at_call 25; (with_reducible refine (CNX.out).mono ?_); rintro e w5 ⟨rfl, rfl⟩)
                    | fail)
                  refine ⟨⟨k + 1, by go_num, by omega, by rw [HSN.out]; exact HO.out, HB.out⟩, ?_⟩
                  simp [intOf]; omega
                · have u2 : (z != N) = true := by rw [bne_iff_ne]; exact hy
                  have HSN : Hid (outF f (l.take (k + 1)) [] = Z ++ [(x, N)]) := Lib.hid (by rw [HST.out, hF]; exact layL_new (fun h => hy (by rw [hgd] at h; exact h.2)))
                  clear q1 h0 hm hX hgd d0 hy hF
                  go_wp2_with (first
                    | (go_at_call 25; (with_reducible refine (CNX.out).mono ?_); rintro e w5 ⟨rfl, rfl⟩)
                    | (at_builtin; refine wpList_append_srcS rfl (.tmp 91) (.tmp 98) 22 rfl stC_length (by decide) i1 _ 16 Try.underlying22 SI.out SZ0.out SZ1.out SZ2.out rfl stC_one rfl (HO.out.alloc _) (some ⟨wr.heap.size, 0, none⟩) 1 1 [(x, N)] rfl rfl (readsSt_one rfl (x, N) _) (fun h => by cases h) (by have := HQL.out; simp; omega) (by have := HQL.out; simp; unfold maxLen; omega) ?_; intro v7 w7 o7 b7; have O7 := Lib.hid o7; have B7 := Lib.hid b7; clear o7 b7)
                    | fail)
                  refine ⟨⟨k + 1, by go_num, by omega, by rw [HSN.out]; exact O7.out, (HB.out.alloc HB.out.size _).trans B7.out⟩, ?_⟩
                  simp [intOf]; omega
          · have s1 : decide (a ≤ x) = false := decide_eq_false c1
            have hF := hfx.2 (.inl (by omega))
            clear hfx
            by_cases h0 : Z = []
            · have u1 : ((Z.length : Int) == 0) = true := by rw [beq_iff_eq, h0]; rfl
              have u1' : (Z.length == 0) = true := by rw [beq_iff_eq, h0]; rfl
              have HSN : Hid (outF f (l.take (k + 1)) [] = Z ++ [(x, N)]) := Lib.hid (by rw [HST.out, hF]; exact layL_new (fun h => h.1 h0))
              clear h0 hF
              go_wp2_with (first
                | (go_at_call 25; (with_reducible refine (CNX.out).mono ?_); rintro e w5 ⟨rfl, rfl⟩)
                | (at_builtin; refine wpList_append_srcS rfl (.tmp 91) (.tmp 98) 22 rfl stC_length (by decide) i1 _ 16 Try.underlying22 SI.out SZ0.out SZ1.out SZ2.out rfl stC_one rfl (HO.out.alloc _) (some ⟨wr.heap.size, 0, none⟩) 1 1 [(x, N)] rfl rfl (readsSt_one rfl (x, N) _) (fun h => by cases h) (by have := HQL.out; simp; omega) (by have := HQL.out; simp; unfold maxLen; omega) ?_; intro v7 w7 o7 b7; have O7 := Lib.hid o7; have B7 := Lib.hid b7; clear o7 b7)
                | fail)
              refine ⟨⟨k + 1, by go_num, by omega, by rw [HSN.out]; exact O7.out, (HB.out.alloc HB.out.size _).trans B7.out⟩, ?_⟩
              simp [intOf]; omega
            · have hpos : 0 < Z.length := List.length_pos_iff.2 h0
              have u1 : ((Z.length : Int) == 0) = false := by rw [beq_eq_false_iff_ne]; omega
              have u1' : (Z.length == 0) = false := by rw [beq_eq_false_iff_ne]; omega
              obtain ⟨m, hm⟩ : ∃ m, Z.length = m + 1 := ⟨Z.length - 1, by omega⟩
              obtain ⟨g0, o0, hvo, d0, d1⟩ := st_cells q1 (j := m) (by omega)
              subst hvo
              have hlow : (0 : Int) ≤ (m : Int) := by omega
              have hup : (m : Int) < ((Z.length : Nat) : Int) := by omega
              have hwm : IntKind.i64.wrap ((Z.length : Int) - 1) = (m : Int) := by simp only [IntKind.wrap_i64]; omega
              have hgd : Z.getD (Z.length - 1) (0, 0) = Z[m]'(by omega) := by rw [show Z.length - 1 = m from (by omega)]; exact getD_eq _
              obtain ⟨⟨y, z⟩, hX⟩ : ∃ A : St, A = Z[m]'(by omega) := ⟨_, rfl⟩
              rw [← hX] at d1 hgd
              dsimp only at d1
              by_cases hy : z = N
              · have u2 : (z != N) = false := by rw [bne_eq_false_iff_eq]; exact hy
                have HSN : Hid (outF f (l.take (k + 1)) [] = Z) := Lib.hid (by rw [HST.out, hF]; exact layL_same h0 (by rw [hgd]; exact hy))
                clear q1 h0 hm hX hgd d0 hy hF
                go_wp2_with (first
                  | (go_at_call 25; (with_reducible refine (CNX.out).mono ?_); rintro e w5 ⟨rfl, rfl⟩)
                  | fail)
                refine ⟨⟨k + 1, by go_num, by omega, by rw [HSN.out]; exact HO.out, HB.out⟩, ?_⟩
                simp [intOf]; omega
              · have u2 : (z != N) = true := by rw [bne_iff_ne]; exact hy
                have HSN : Hid (outF f (l.take (k + 1)) [] = Z ++ [(x, N)]) := Lib.hid (by rw [HST.out, hF]; exact layL_new (fun h => hy (by rw [hgd] at h; exact h.2)))
                clear q1 h0 hm hX hgd d0 hy hF
                go_wp2_with (first
                  | (go_at_call 25; (with_reducible refine (CNX.out).mono ?_); rintro e w5 ⟨rfl, rfl⟩)
                  | (at_builtin; refine wpList_append_srcS rfl (.tmp 91) (.tmp 98) 22 rfl stC_length (by decide) i1 _ 16 Try.underlying22 SI.out SZ0.out SZ1.out SZ2.out rfl stC_one rfl (HO.out.alloc _) (some ⟨wr.heap.size, 0, none⟩) 1 1 [(x, N)] rfl rfl (readsSt_one rfl (x, N) _) (fun h => by cases h) (by have := HQL.out; simp; omega) (by have := HQL.out; simp; unfold maxLen; omega) ?_; intro v7 w7 o7 b7; have O7 := Lib.hid o7; have B7 := Lib.hid b7; clear o7 b7)
                  | fail)
                refine ⟨⟨k + 1, by go_num, by omega, by rw [HSN.out]; exact O7.out, (HB.out.alloc HB.out.size _).trans B7.out⟩, ?_⟩
                simp [intOf]; omega
        · have hall : outF f (l.take k) [] = outF f l [] := by rw [List.take_of_length_le (by omega)]
          rw [hall] at HO q1 q3 hql ⊢
          obtain ⟨Z, hZ⟩ : ∃ Z, Z = outF f l [] := ⟨_, rfl⟩
          rw [← hZ] at HO q1 q3 hql HOK HBIG ⊢
          have cQ := rcheck_any vo Z.length vcap Z wr rfl (by unfold maxLen; omega) q1
          have hzl : Z.length ≤ 9223372036854775807 := by omega
          have Q1 := Lib.hid q1
          clear hall hZ hb hown q1
          by_cases hq : Prof Z
          · rw [chkE_0 hq] at cQ
            have CQ := Lib.hid cQ
            have HRR := Lib.hid (HOK.out hq)
            clear cQ hq HOK HBIG
            go_wp2_with (first
              | (go_at_call 11; (with_reducible refine (CQ.out).mono ?_); rintro e w5 ⟨rfl, p5⟩)
              | fail)
            go_ret2
            exact HR2.out _ HRR.out _ _ ⟨vo, vcap, rfl, Q1.out.below stC_length p5, q2, q3, q4, p5.from (HB.out.from P3.out)⟩
          · rw [chkE_100 hq] at cQ
            have CQ := Lib.hid cQ
            have HRR := Lib.hid (HBIG.out hq)
            clear cQ hq HOK HBIG
            go_wp2_with (first
              | (go_at_call 11; (with_reducible refine (CQ.out).mono ?_); rintro e w5 ⟨rfl, p5⟩)
              | fail)
            go_ret2
            exact HR2.out _ HRR.out _ _ (AddSays.nil rfl (p5.from (HB.out.from P3.out)))
    · have t6 : decide (b ≤ 1000000) = false := decide_eq_false hb6
      have HM : Hid (ticksL p [a] = l) := Lib.hid (by rw [HLQ.out]; unfold mores; rw [if_neg hb6])
      clear hb6
      go_enter Try.func20, Try.ntmps20
      go_wp2_with (first
        | (go_at_call 11; (with_reducible refine (CC.out).mono ?_); rintro e w1 ⟨rfl, p1⟩)
        | (go_at_call 29; go_loud ((with_reducible refine (CT.out _ 1 _ [a] _ (by (focus repeat (first | exact Below.refl _ _ | assumption | (exact Hid.out (by assumption)) | (with_reducible refine Below.drew ?_) | (with_reducible refine Base.below_drewN ?_ _) | (refine Below.from (below_one _) ?_) | (refine Below.from (below_conv _ _ _) ?_) | (refine Below.setCell ?_ (by simp <;> omega) _) | (refine Below.from (by assumption) ?_)))) rfl (by simp) (readsI_one w1 a _)).mono ?_); rintro e w3 ⟨v3, rfl, r3, p3⟩; rw [HM.out] at r3; obtain ⟨ao3, c3, rfl, r4, r5, r6, r7, r8⟩ := r3; have RL := Lib.hid r4; have P3 := Lib.hid (p3.from (p1.trans ((below_one _).mono p1.size))); clear r4 r5 r6 r7 r8 p3))
        | fail)
      have hLn : l.length ≤ 9223372036854775807 := by omega
      go_loopw [12, 13] (fun v i wr => ∃ k : Nat, i = .int .i64 (k : Int) ∧ k ≤ l.length ∧ OwnS 2 stC w3.heap.size 43 v (outF f (l.take k) []) wr ∧ Below w3.heap.size w3 wr) (fun _ i _ => l.length - (intOf i).toNat)
      case atStart => exact ⟨0, rfl, Nat.zero_le _, OwnS.nil (Nat.le_refl _), Below.refl _ _⟩
      case round =>
        obtain ⟨k, rfl, hk, hown, hb⟩ := hrel
        have HB := Lib.hid hb
        have HO := Lib.hid hown
        have hql := outF_le f (l.take k) []
        rw [List.length_take, List.length_nil] at hql
        obtain ⟨vo, vcap, rfl, q1, q2, q3, q4⟩ := hown.value stC_length
        by_cases hpk : k < l.length
        · obtain ⟨lb, lo, hlo, b0⟩ := (RL.out.below hb).at_ hpk
          unfold iV at b0
          have hst := lay_take (f := f) hpk
          obtain ⟨x, hxx⟩ : ∃ x, x = l[k] := ⟨_, rfl⟩
          rw [← hxx] at b0 hst
          obtain ⟨Z, hZ⟩ : ∃ Z, Z = outF f (l.take k) [] := ⟨_, rfl⟩
          rw [← hZ] at HO q1 q3 hst hql ⊢
          have cn := CN.out x wr (HB.out.from P3.out)
          have hfx := HFV.out x
          have hnx := HNOW.out x
          obtain ⟨N, hN⟩ : ∃ N, N = now p x := ⟨_, rfl⟩
          rw [← hN] at cn hfx hnx
          have CNX := Lib.hid cn
          have HQL := Lib.hid hql
          have HST := Lib.hid hst
          have hzl : Z.length ≤ 9223372036854775807 := by omega
          obtain ⟨hn2, hn3⟩ := hnx
          subst hlo
          clear cn hxx hZ hN hb hown hst hql q2 q4
          by_cases c1 : a ≤ x
          · have s1 : decide (a ≤ x) = true := decide_eq_true c1
            by_cases c2 : x < b
            · have s2 : decide (x < b) = true := decide_eq_true c2
              have hF := hfx.1 c1 c2
              clear hfx
              by_cases h0 : Z = []
              · have u1 : ((Z.length : Int) == 0) = true := by rw [beq_iff_eq, h0]; rfl
                have u1' : (Z.length == 0) = true := by rw [beq_iff_eq, h0]; rfl
                have HSN : Hid (outF f (l.take (k + 1)) [] = Z ++ [(x, (N + n))]) := Lib.hid (by rw [HST.out, hF]; exact layL_new (fun h => h.1 h0))
                clear h0 hF
                go_wp2_with (first
                  | (go_at_call 25; (with_reducible refine (CNX.out).mono ?_); rintro e w5 ⟨rfl, rfl⟩)
                  | (at_builtin; refine wpList_append_srcS rfl (.tmp 91) (.tmp 98) 22 rfl stC_length (by decide) i1 _ 16 Try.underlying22 SI.out SZ0.out SZ1.out SZ2.out rfl stC_one rfl (HO.out.alloc _) (some ⟨wr.heap.size, 0, none⟩) 1 1 [(x, (N + n))] rfl rfl (readsSt_one rfl (x, (N + n)) _) (fun h => by cases h) (by have := HQL.out; simp; omega) (by have := HQL.out; simp; unfold maxLen; omega) ?_; intro v7 w7 o7 b7; have O7 := Lib.hid o7; have B7 := Lib.hid b7; clear o7 b7)
                  | fail)
                refine ⟨⟨k + 1, by go_num, by omega, by rw [HSN.out]; exact O7.out, (HB.out.alloc HB.out.size _).trans B7.out⟩, ?_⟩
                simp [intOf]; omega
              · have hpos : 0 < Z.length := List.length_pos_iff.2 h0
                have u1 : ((Z.length : Int) == 0) = false := by rw [beq_eq_false_iff_ne]; omega
                have u1' : (Z.length == 0) = false := by rw [beq_eq_false_iff_ne]; omega
                obtain ⟨m, hm⟩ : ∃ m, Z.length = m + 1 := ⟨Z.length - 1, by omega⟩
                obtain ⟨g0, o0, hvo, d0, d1⟩ := st_cells q1 (j := m) (by omega)
                subst hvo
                have hlow : (0 : Int) ≤ (m : Int) := by omega
                have hup : (m : Int) < ((Z.length : Nat) : Int) := by omega
                have hwm : IntKind.i64.wrap ((Z.length : Int) - 1) = (m : Int) := by simp only [IntKind.wrap_i64]; omega
                have hgd : Z.getD (Z.length - 1) (0, 0) = Z[m]'(by omega) := by rw [show Z.length - 1 = m from (by omega)]; exact getD_eq _
                obtain ⟨⟨y, z⟩, hX⟩ : ∃ A : St, A = Z[m]'(by omega) := ⟨_, rfl⟩
                rw [← hX] at d1 hgd
                dsimp only at d1
                by_cases hy : z = (N + n)
                · have u2 : (z != (N + n)) = false := by rw [bne_eq_false_iff_eq]; exact hy
                  have HSN : Hid (outF f (l.take (k + 1)) [] = Z) := Lib.hid (by rw [HST.out, hF]; exact layL_same h0 (by rw [hgd]; exact hy))
                  clear q1 h0 hm hX hgd d0 hy hF
                  go_wp2_with (first
                    | (go_at_call 25; (with_reducible refine (CNX.out).mono ?_); rintro e w5 ⟨rfl, rfl⟩)
                    | fail)
                  refine ⟨⟨k + 1, by go_num, by omega, by rw [HSN.out]; exact HO.out, HB.out⟩, ?_⟩
                  simp [intOf]; omega
                · have u2 : (z != (N + n)) = true := by rw [bne_iff_ne]; exact hy
                  have HSN : Hid (outF f (l.take (k + 1)) [] = Z ++ [(x, (N + n))]) := Lib.hid (by rw [HST.out, hF]; exact layL_new (fun h => hy (by rw [hgd] at h; exact h.2)))
                  clear q1 h0 hm hX hgd d0 hy hF
                  go_wp2_with (first
                    | (go_at_call 25; (with_reducible refine (CNX.out).mono ?_); rintro e w5 ⟨rfl, rfl⟩)
                    | (at_builtin; refine wpList_append_srcS rfl (.tmp 91) (.tmp 98) 22 rfl stC_length (by decide) i1 _ 16 Try.underlying22 SI.out SZ0.out SZ1.out SZ2.out rfl stC_one rfl (HO.out.alloc _) (some ⟨wr.heap.size, 0, none⟩) 1 1 [(x, (N + n))] rfl rfl (readsSt_one rfl (x, (N + n)) _) (fun h => by cases h) (by have := HQL.out; simp; omega) (by have := HQL.out; simp; unfold maxLen; omega) ?_; intro v7 w7 o7 b7; have O7 := Lib.hid o7; have B7 := Lib.hid b7; clear o7 b7)
                    | fail)
                  refine ⟨⟨k + 1, by go_num, by omega, by rw [HSN.out]; exact O7.out, (HB.out.alloc HB.out.size _).trans B7.out⟩, ?_⟩
                  simp [intOf]; omega
            · have s2 : decide (x < b) = false := decide_eq_false c2
              have hF := hfx.2 (.inr (by omega))
              clear hfx
              by_cases h0 : Z = []
              · have u1 : ((Z.length : Int) == 0) = true := by rw [beq_iff_eq, h0]; rfl
                have u1' : (Z.length == 0) = true := by rw [beq_iff_eq, h0]; rfl
                have HSN : Hid (outF f (l.take (k + 1)) [] = Z ++ [(x, N)]) := Lib.hid (by rw [HST.out, hF]; exact layL_new (fun h => h.1 h0))
                clear h0 hF
                go_wp2_with (first
                  | (go_at_call 25; (with_reducible refine (CNX.out).mono ?_); rintro e w5 ⟨rfl, rfl⟩)
                  | (at_builtin; refine wpList_append_srcS rfl (.tmp 91) (.tmp 98) 22 rfl stC_length (by decide) i1 _ 16 Try.underlying22 SI.out SZ0.out SZ1.out SZ2.out rfl stC_one rfl (HO.out.alloc _) (some ⟨wr.heap.size, 0, none⟩) 1 1 [(x, N)] rfl rfl (readsSt_one rfl (x, N) _) (fun h => by cases h) (by have := HQL.out; simp; omega) (by have := HQL.out; simp; unfold maxLen; omega) ?_; intro v7 w7 o7 b7; have O7 := Lib.hid o7; have B7 := Lib.hid b7; clear o7 b7)
                  | fail)
                refine ⟨⟨k + 1, by go_num, by omega, by rw [HSN.out]; exact O7.out, (HB.out.alloc HB.out.size _).trans B7.out⟩, ?_⟩
                simp [intOf]; omega
              · have hpos : 0 < Z.length := List.length_pos_iff.2 h0
                have u1 : ((Z.length : Int) == 0) = false := by rw [beq_eq_false_iff_ne]; omega
                have u1' : (Z.length == 0) = false := by rw [beq_eq_false_iff_ne]; omega
                obtain ⟨m, hm⟩ : ∃ m, Z.length = m + 1 := ⟨Z.length - 1, by omega⟩
                obtain ⟨g0, o0, hvo, d0, d1⟩ := st_cells q1 (j := m) (by omega)
                subst hvo
                have hlow : (0 : Int) ≤ (m : Int) := by omega
                have hup : (m : Int) < ((Z.length : Nat) : Int) := by omega
                have hwm : IntKind.i64.wrap ((Z.length : Int) - 1) = (m : Int) := by simp only [IntKind.wrap_i64]; omega
                have hgd : Z.getD (Z.length - 1) (0, 0) = Z[m]'(by omega) := by rw [show Z.length - 1 = m from (by omega)]; exact getD_eq _
                obtain ⟨⟨y, z⟩, hX⟩ : ∃ A : St, A = Z[m]'(by omega) := ⟨_, rfl⟩
                rw [← hX] at d1 hgd
                dsimp only at d1
                by_cases hy : z = N
                · have u2 : (z != N) = false := by rw [bne_eq_false_iff_eq]; exact hy
                  have HSN : Hid (outF f (l.take (k + 1)) [] = Z) := Lib.hid (by rw [HST.out, hF]; exact layL_same h0 (by rw [hgd]; exact hy))
                  clear q1 h0 hm hX hgd d0 hy hF
                  go_wp2_with (first
                    | (go_at_call 25; (with_reducible refine (CNX.out).mono ?_); rintro e w5 ⟨rfl, rfl⟩)
                    | fail)
                  refine ⟨⟨k + 1, by go_num, by omega, by rw [HSN.out]; exact HO.out, HB.out⟩, ?_⟩
                  simp [intOf]; omega
                · have u2 : (z != N) = true := by rw [bne_iff_ne]; exact hy
                  have HSN : Hid (outF f (l.take (k + 1)) [] = Z ++ [(x, N)]) := Lib.hid (by rw [HST.out, hF]; exact layL_new (fun h => hy (by rw [hgd] at h; exact h.2)))
                  clear q1 h0 hm hX hgd d0 hy hF
                  go_wp2_with (first
                    | (go_at_call 25; (with_reducible refine (CNX.out).mono ?_); rintro e w5 ⟨rfl, rfl⟩)
                    | (at_builtin; refine wpList_append_srcS rfl (.tmp 91) (.tmp 98) 22 rfl stC_length (by decide) i1 _ 16 Try.underlying22 SI.out SZ0.out SZ1.out SZ2.out rfl stC_one rfl (HO.out.alloc _) (some ⟨wr.heap.size, 0, none⟩) 1 1 [(x, N)] rfl rfl (readsSt_one rfl (x, N) _) (fun h => by cases h) (by have := HQL.out; simp; omega) (by have := HQL.out; simp; unfold maxLen; omega) ?_; intro v7 w7 o7 b7; have O7 := Lib.hid o7; have B7 := Lib.hid b7; clear o7 b7)
                    | fail)
                  refine ⟨⟨k + 1, by go_num, by omega, by rw [HSN.out]; exact O7.out, (HB.out.alloc HB.out.size _).trans B7.out⟩, ?_⟩
                  simp [intOf]; omega
          · have s1 : decide (a ≤ x) = false := decide_eq_false c1
            have hF := hfx.2 (.inl (by omega))
            clear hfx
            by_cases h0 : Z = []
            · have u1 : ((Z.length : Int) == 0) = true := by rw [beq_iff_eq, h0]; rfl
              have u1' : (Z.length == 0) = true := by rw [beq_iff_eq, h0]; rfl
              have HSN : Hid (outF f (l.take (k + 1)) [] = Z ++ [(x, N)]) := Lib.hid (by rw [HST.out, hF]; exact layL_new (fun h => h.1 h0))
              clear h0 hF
              go_wp2_with (first
                | (go_at_call 25; (with_reducible refine (CNX.out).mono ?_); rintro e w5 ⟨rfl, rfl⟩)
                | (at_builtin; refine wpList_append_srcS rfl (.tmp 91) (.tmp 98) 22 rfl stC_length (by decide) i1 _ 16 Try.underlying22 SI.out SZ0.out SZ1.out SZ2.out rfl stC_one rfl (HO.out.alloc _) (some ⟨wr.heap.size, 0, none⟩) 1 1 [(x, N)] rfl rfl (readsSt_one rfl (x, N) _) (fun h => by cases h) (by have := HQL.out; simp; omega) (by have := HQL.out; simp; unfold maxLen; omega) ?_; intro v7 w7 o7 b7; have O7 := Lib.hid o7; have B7 := Lib.hid b7; clear o7 b7)
                | fail)
              refine ⟨⟨k + 1, by go_num, by omega, by rw [HSN.out]; exact O7.out, (HB.out.alloc HB.out.size _).trans B7.out⟩, ?_⟩
              simp [intOf]; omega
            · have hpos : 0 < Z.length := List.length_pos_iff.2 h0
              have u1 : ((Z.length : Int) == 0) = false := by rw [beq_eq_false_iff_ne]; omega
              have u1' : (Z.length == 0) = false := by rw [beq_eq_false_iff_ne]; omega
              obtain ⟨m, hm⟩ : ∃ m, Z.length = m + 1 := ⟨Z.length - 1, by omega⟩
              obtain ⟨g0, o0, hvo, d0, d1⟩ := st_cells q1 (j := m) (by omega)
              subst hvo
              have hlow : (0 : Int) ≤ (m : Int) := by omega
              have hup : (m : Int) < ((Z.length : Nat) : Int) := by omega
              have hwm : IntKind.i64.wrap ((Z.length : Int) - 1) = (m : Int) := by simp only [IntKind.wrap_i64]; omega
              have hgd : Z.getD (Z.length - 1) (0, 0) = Z[m]'(by omega) := by rw [show Z.length - 1 = m from (by omega)]; exact getD_eq _
              obtain ⟨⟨y, z⟩, hX⟩ : ∃ A : St, A = Z[m]'(by omega) := ⟨_, rfl⟩
              rw [← hX] at d1 hgd
              dsimp only at d1
              by_cases hy : z = N
              · have u2 : (z != N) = false := by rw [bne_eq_false_iff_eq]; exact hy
                have HSN : Hid (outF f (l.take (k + 1)) [] = Z) := Lib.hid (by rw [HST.out, hF]; exact layL_same h0 (by rw [hgd]; exact hy))
                clear q1 h0 hm hX hgd d0 hy hF
                go_wp2_with (first
                  | (go_at_call 25; (with_reducible refine (CNX.out).mono ?_); rintro e w5 ⟨rfl, rfl⟩)
                  | fail)
                refine ⟨⟨k + 1, by go_num, by omega, by rw [HSN.out]; exact HO.out, HB.out⟩, ?_⟩
                simp [intOf]; omega
              · have u2 : (z != N) = true := by rw [bne_iff_ne]; exact hy
                have HSN : Hid (outF f (l.take (k + 1)) [] = Z ++ [(x, N)]) := Lib.hid (by rw [HST.out, hF]; exact layL_new (fun h => hy (by rw [hgd] at h; exact h.2)))
                clear q1 h0 hm hX hgd d0 hy hF
                go_wp2_with (first
                  | (go_at_call 25; (with_reducible refine (CNX.out).mono ?_); rintro e w5 ⟨rfl, rfl⟩)
                  | (at_builtin; refine wpList_append_srcS rfl (.tmp 91) (.tmp 98) 22 rfl stC_length (by decide) i1 _ 16 Try.underlying22 SI.out SZ0.out SZ1.out SZ2.out rfl stC_one rfl (HO.out.alloc _) (some ⟨wr.heap.size, 0, none⟩) 1 1 [(x, N)] rfl rfl (readsSt_one rfl (x, N) _) (fun h => by cases h) (by have := HQL.out; simp; omega) (by have := HQL.out; simp; unfold maxLen; omega) ?_; intro v7 w7 o7 b7; have O7 := Lib.hid o7; have B7 := Lib.hid b7; clear o7 b7)
                  | fail)
                refine ⟨⟨k + 1, by go_num, by omega, by rw [HSN.out]; exact O7.out, (HB.out.alloc HB.out.size _).trans B7.out⟩, ?_⟩
                simp [intOf]; omega
        · have hall : outF f (l.take k) [] = outF f l [] := by rw [List.take_of_length_le (by omega)]
          rw [hall] at HO q1 q3 hql ⊢
          obtain ⟨Z, hZ⟩ : ∃ Z, Z = outF f l [] := ⟨_, rfl⟩
          rw [← hZ] at HO q1 q3 hql HOK HBIG ⊢
          have cQ := rcheck_any vo Z.length vcap Z wr rfl (by unfold maxLen; omega) q1
          have hzl : Z.length ≤ 9223372036854775807 := by omega
          have Q1 := Lib.hid q1
          clear hall hZ hb hown q1
          by_cases hq : Prof Z
          · rw [chkE_0 hq] at cQ
            have CQ := Lib.hid cQ
            have HRR := Lib.hid (HOK.out hq)
            clear cQ hq HOK HBIG
            go_wp2_with (first
              | (go_at_call 11; (with_reducible refine (CQ.out).mono ?_); rintro e w5 ⟨rfl, p5⟩)
              | fail)
            go_ret2
            exact HR2.out _ HRR.out _ _ ⟨vo, vcap, rfl, Q1.out.below stC_length p5, q2, q3, q4, p5.from (HB.out.from P3.out)⟩
          · rw [chkE_100 hq] at cQ
            have CQ := Lib.hid cQ
            have HRR := Lib.hid (HBIG.out hq)
            clear cQ hq HOK HBIG
            go_wp2_with (first
              | (go_at_call 11; (with_reducible refine (CQ.out).mono ?_); rintro e w5 ⟨rfl, p5⟩)
              | fail)
            go_ret2
            exact HR2.out _ HRR.out _ _ (AddSays.nil rfl (p5.from (HB.out.from P3.out)))
  · rw [chkE_100 hp] at cC
    have HR := Lib.hid (addR_prof (a := a) (b := b) (n := n) hp)
    have CC := Lib.hid cC
    clear cC hp hr
    go_enter Try.func20, Try.ntmps20
    go_wp2_with (first
      | (go_at_call 11; (with_reducible refine (CC.out).mono ?_); rintro e w1 ⟨rfl, p1⟩)
      | fail)
    go_ret2
    exact AddSays.nil HR.out p1

end Go.Proofs.Ytoiahlbaiakngaa.Prof
