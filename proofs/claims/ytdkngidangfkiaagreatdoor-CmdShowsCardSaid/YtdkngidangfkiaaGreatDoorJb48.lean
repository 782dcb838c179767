/-
  Joined out of: The walks of the document's own answer for layer 8: how a command is written (written by gen_rshow2.py). The document's own answer for layer 8: how a command is written.
-/
import Derived.Test.YtdkngidangfkiaaGreatDoorJb39
import Derived.Test.YtdkngidangfkiaaGreatDoorJb46
import Derived.Test.YtdkngidangfkiaaGreatDoorJb01
import Derived.Test.YtdkngidangfkiaaGreatDoorJb47
namespace Go.Proofs.YtdkngidangfkiaaGreatDoor.Cmd
open Go.RowKit
open Base Runes Lex
open Shape (frB frB_iff sameL sameB chkB goodB altOk sizeB sizeB_iff wallB altC_length altC alt_cells)
set_option linter.unusedVariables false
set_option linter.unusedSimpArgs false
set_option maxRecDepth 100000 in
set_option maxHeartbeats 16000000 in
theorem rshow_oth (c : Co) (va vd : Value) (w : World) (h1 : Row w va c.alts) (h2 : Row w vd c.after) (hm : mayC c = true) (hk1 : c.kind ≠ 1) :
    Calls Tryz.prog 10 #[cmdV c va vd] w fun e w' => e = .returned (.tuple #[.string (showC c).1, .int .i64 (showC c).2]) ∧ Below w.heap.size w w' := by
  obtain ⟨z3, z4, z5⟩ := may_small hm
  have hck : chkC c = 0 := by unfold chkC; rw [if_pos hm]
  have c0 := fun w2 (hb : Below w.heap.size w w2) => rcheck8_any c va vd w2 (h1.below hb) (h2.below hb) (by omega) (by omega) (by omega)
  simp only [hck] at c0
  have hline := line_oth hm hk1
  obtain ⟨s1, s2, f3, f4, f5, g1, g2, g3, g4, g5, g6, g7, g8⟩ := other_ok hm hk1
  obtain ⟨f1, p2, p3, p4, p5, p6, p7⟩ := alone_facts ((mayC_iff c).1 hm).2
  obtain ⟨b3, b4, b5, b6, b7, b8, b9, b10, b11⟩ := f1 hk1
  have cS := fun w2 (hb : Below w.heap.size w w2) => rshapeO c.sk c.mn c.mx c.wl (by omega) (by omega) w2 va c.alts (h1.below hb) (by rw [f5]; decide) (fun a ha => by rw [f5] at ha; simp at ha)
  have cV := fun w => rverb_any c.kind (by omega) w
  have hvl := verb_len c.kind
  have qJ : 0 ≤ c.job ∧ c.job ≤ 99999 := by
    by_cases e : c.kind = 12
    · rcases g7 e with h | h <;> omega
    · by_cases e2 : c.kind = 7 ∨ c.kind = 8 ∨ c.kind = 9 ∨ c.kind = 10
      · have := p7 (by omega); omega
      · have := g2 (by omega); omega
  have qP : 0 ≤ c.prio ∧ c.prio ≤ 100 := by
    cases hP : c.hasPrio with
    | true => exact (frB_iff _ _ _).1 (s1.prio hP).2
    | false => have := s2.prio hP; omega
  have qI : 0 ≤ c.node ∧ c.node ≤ 47 := by
    by_cases e : c.kind = 7 ∨ c.kind = 8 ∨ c.kind = 9
    · exact g5 e
    · have := p6 (by omega) (by omega) (by omega); omega
  have qF : 0 ≤ c.frm ∧ c.frm ≤ 1000000 := by
    by_cases e : c.kind = 10
    · exact (frB_iff _ _ _).1 (s1.frm e).2
    · have := p4 e; omega
  have qM : 0 ≤ c.nodes ∧ c.nodes ≤ 48 := by
    by_cases e : c.nodes = 0
    · omega
    · have := (sizeB_iff _).1 (s1.nodes e).2; omega
  have cT := fun w => rspan_any c.time w
  have hT0 := tim_short c.time
  have cJ := fun w => rdig_any c.job (by omega) (by omega) w
  have lJ := num_short c.job (by unfold fitI; omega)
  obtain ⟨J, e_J⟩ : ∃ x : ByteArray, x = ⟨(numT c.job).toArray⟩ := ⟨_, rfl⟩
  simp only [← e_J] at cJ
  have zJ : J.size ≤ 30 := by rw [e_J, Lib.size_eq]; show (numT c.job).length ≤ 30; omega
  have cP := fun w => rdig_any c.prio (by omega) (by omega) w
  have lP := num_short c.prio (by unfold fitI; omega)
  obtain ⟨P, e_P⟩ : ∃ x : ByteArray, x = ⟨(numT c.prio).toArray⟩ := ⟨_, rfl⟩
  simp only [← e_P] at cP
  have zP : P.size ≤ 30 := by rw [e_P, Lib.size_eq]; show (numT c.prio).length ≤ 30; omega
  have cI := fun w => rdig_any c.node (by omega) (by omega) w
  have lI := num_short c.node (by unfold fitI; omega)
  obtain ⟨I, e_I⟩ : ∃ x : ByteArray, x = ⟨(numT c.node).toArray⟩ := ⟨_, rfl⟩
  simp only [← e_I] at cI
  have zI : I.size ≤ 30 := by rw [e_I, Lib.size_eq]; show (numT c.node).length ≤ 30; omega
  have cF := fun w => rdig_any c.frm (by omega) (by omega) w
  have lF := num_short c.frm (by unfold fitI; omega)
  obtain ⟨F, e_F⟩ : ∃ x : ByteArray, x = ⟨(numT c.frm).toArray⟩ := ⟨_, rfl⟩
  simp only [← e_F] at cF
  have zF : F.size ≤ 30 := by rw [e_F, Lib.size_eq]; show (numT c.frm).length ≤ 30; omega
  have cM := fun w => rdig_any c.nodes (by omega) (by omega) w
  have lM := num_short c.nodes (by unfold fitI; omega)
  obtain ⟨M, e_M⟩ : ∃ x : ByteArray, x = ⟨(numT c.nodes).toArray⟩ := ⟨_, rfl⟩
  simp only [← e_M] at cM
  have zM : M.size ≤ 30 := by rw [e_M, Lib.size_eq]; show (numT c.nodes).length ≤ 30; omega
  obtain ⟨V, hV⟩ : ∃ x : ByteArray, x = verb c.kind := ⟨_, rfl⟩
  obtain ⟨S, hS⟩ : ∃ x : ByteArray, x = ⟨(fldT (c.alts.map altF)).toArray⟩ := ⟨_, rfl⟩
  obtain ⟨T, hT⟩ : ∃ x : ByteArray, x = Hours.shB c.time := ⟨_, rfl⟩
  simp only [← hV] at cV
  simp only [← hS] at cS
  simp only [← hT] at cT
  have hSe : S = ⟨#[]⟩ := by rw [hS, f5]; rfl
  have zV : V.size ≤ 20 := by rw [hV]; exact hvl
  have zS : S.size ≤ 20000 := by rw [hSe]; decide
  have zT : T.size ≤ 40 := by rw [hT, Lib.size_eq]; show (timT c.time).length ≤ 40; omega
  obtain ⟨O0, hO0⟩ : ∃ x : ByteArray, x = ⟨(headT c ++ priT c).toArray⟩ := ⟨_, rfl⟩
  obtain ⟨R, E, hRE⟩ : ∃ (R : ByteArray) (E : Int), (R, E) = showC c := ⟨_, _, rfl⟩
  have e1 : (showC c).1 = R := by rw [← hRE]
  have e2 : (showC c).2 = E := by rw [← hRE]
  rw [e1, e2]
  obtain ⟨LB, hLB⟩ : ∃ x, x = lineB c := ⟨_, rfl⟩
  have hshow : showC c = if 400 < (lineB c).size then (nil_, 3) else (lineB c, 0) := by unfold showC; rw [if_pos hm, line_size]
  rw [hshow, ← hLB] at hRE
  have hbig : 400 < LB.size → (⟨#[]⟩ : ByteArray) = R ∧ (3 : Int) = E := by
    intro h; rw [if_pos h] at hRE; injection hRE with a b; exact ⟨a.symm, b.symm⟩
  have hfit : ¬ 400 < LB.size → LB = R ∧ (0 : Int) = E := by
    intro h; rw [if_neg h] at hRE; injection hRE with a b; exact ⟨a.symm, b.symm⟩
  clear hRE e1 e2 hshow
  have hline : lineT c = headT c ++ priT c ++ fldT (onF (c.kind == 10) kFrom (.num c.frm)) ++ fldT (onF (decide (c.nodes ≠ 0)) kNodes (.num c.nodes)) ++ fldT (onF c.hasTime kTime (.tk c.time)) := by
    rw [hline]; unfold headT; rw [if_neg hk1]
  have hOz : c.kind = c.kind ∧ O0.size ≤ 2000 := by
    refine ⟨rfl, ?_⟩
    have h1 := head_len hm
    have h2 : (priT c).length ≤ 50 := by
      unfold priT
      cases c.hasPrio
      · rw [onF_no]; decide
      · rw [onF_yes, fldT_one]; unfold fdT valT kPrio; simp only [List.length_cons, List.length_append, List.length_nil]; omega
    rw [hO0, Lib.size_eq]; show (headT c ++ priT c).length ≤ 2000
    rw [List.length_append]; omega
  have nn : ∀ n : Int, c.kind ≠ n → (c.kind == n) = false := fun n h => by simpa using h
  have ee : ∀ n : Int, c.kind = n → (c.kind == n) = true := fun n h => by simpa using h
  have noN : c.kind ≠ 6 → c.kind ≠ 10 → c.nodes = 0 := p5
  have hcase : ((c.kind == 7) = true ∧ (c.kind == 8) = false ∧ (c.kind == 9) = false ∧ (c.kind == 10) = false ∧ ¬ (0 : Int) < c.job ∧ c.hasPrio = false ∧ ¬ (0 : Int) < c.nodes ∧ c.hasTime = false ∧ O0 = V ++ (⟨#[32]⟩ : ByteArray) ++ I ∧ ∀ O, O = O0 → LB = O ++ S) ∨ ((c.kind == 7) = false ∧ (c.kind == 8) = true ∧ (c.kind == 9) = false ∧ (c.kind == 10) = false ∧ ¬ (0 : Int) < c.job ∧ c.hasPrio = false ∧ ¬ (0 : Int) < c.nodes ∧ c.hasTime = false ∧ O0 = V ++ (⟨#[32]⟩ : ByteArray) ++ I ∧ ∀ O, O = O0 → LB = O ++ S) ∨ ((c.kind == 7) = false ∧ (c.kind == 8) = false ∧ (c.kind == 9) = true ∧ (c.kind == 10) = false ∧ ¬ (0 : Int) < c.job ∧ c.hasPrio = false ∧ ¬ (0 : Int) < c.nodes ∧ c.hasTime = false ∧ O0 = V ++ (⟨#[32]⟩ : ByteArray) ++ I ∧ ∀ O, O = O0 → LB = O ++ S) ∨ ((c.kind == 7) = false ∧ (c.kind == 8) = false ∧ (c.kind == 9) = false ∧ (c.kind == 10) = true ∧ ¬ (0 : Int) < c.job ∧ c.hasPrio = false ∧ (0 : Int) < c.nodes ∧ c.hasTime = true ∧ O0 = V ∧ ∀ O, O = O0 → LB = O ++ (⟨#[32, 102, 114, 111, 109, 61]⟩ : ByteArray) ++ F ++ (⟨#[32, 110, 111, 100, 101, 115, 61]⟩ : ByteArray) ++ M ++ S ++ (⟨#[32, 116, 105, 109, 101, 61]⟩ : ByteArray) ++ T) ∨ ((c.kind == 7) = false ∧ (c.kind == 8) = false ∧ (c.kind == 9) = false ∧ (c.kind == 10) = false ∧ (0 : Int) < c.job ∧ c.hasPrio = false ∧ ¬ (0 : Int) < c.nodes ∧ c.hasTime = true ∧ O0 = V ++ (⟨#[32]⟩ : ByteArray) ++ J ∧ ∀ O, O = O0 → LB = O ++ S ++ (⟨#[32, 116, 105, 109, 101, 61]⟩ : ByteArray) ++ T) ∨ ((c.kind == 7) = false ∧ (c.kind == 8) = false ∧ (c.kind == 9) = false ∧ (c.kind == 10) = false ∧ (0 : Int) < c.job ∧ c.hasPrio = true ∧ ¬ (0 : Int) < c.nodes ∧ c.hasTime = false ∧ O0 = V ++ (⟨#[32]⟩ : ByteArray) ++ J ++ (⟨#[32, 112, 114, 105, 111, 61]⟩ : ByteArray) ++ P ∧ ∀ O, O = O0 → LB = O ++ S) ∨ ((c.kind == 7) = false ∧ (c.kind == 8) = false ∧ (c.kind == 9) = false ∧ (c.kind == 10) = false ∧ (0 : Int) < c.job ∧ c.hasPrio = true ∧ ¬ (0 : Int) < c.nodes ∧ c.hasTime = true ∧ O0 = V ++ (⟨#[32]⟩ : ByteArray) ++ J ++ (⟨#[32, 112, 114, 105, 111, 61]⟩ : ByteArray) ++ P ∧ ∀ O, O = O0 → LB = O ++ S ++ (⟨#[32, 116, 105, 109, 101, 61]⟩ : ByteArray) ++ T) ∨ ((c.kind == 7) = false ∧ (c.kind == 8) = false ∧ (c.kind == 9) = false ∧ (c.kind == 10) = false ∧ (0 : Int) < c.job ∧ c.hasPrio = false ∧ (0 : Int) < c.nodes ∧ c.hasTime = false ∧ O0 = V ++ (⟨#[32]⟩ : ByteArray) ++ J ∧ ∀ O, O = O0 → LB = O ++ (⟨#[32, 110, 111, 100, 101, 115, 61]⟩ : ByteArray) ++ M ++ S) ∨ ((c.kind == 7) = false ∧ (c.kind == 8) = false ∧ (c.kind == 9) = false ∧ (c.kind == 10) = false ∧ (0 : Int) < c.job ∧ c.hasPrio = false ∧ ¬ (0 : Int) < c.nodes ∧ c.hasTime = false ∧ O0 = V ++ (⟨#[32]⟩ : ByteArray) ++ J ∧ ∀ O, O = O0 → LB = O ++ S) ∨ ((c.kind == 7) = false ∧ (c.kind == 8) = false ∧ (c.kind == 9) = false ∧ (c.kind == 10) = false ∧ ¬ (0 : Int) < c.job ∧ c.hasPrio = false ∧ ¬ (0 : Int) < c.nodes ∧ c.hasTime = false ∧ O0 = V ∧ ∀ O, O = O0 → LB = O ++ S) := by
    by_cases k7 : c.kind = 7
    · have j0 := p7 (by omega)
      have n0 := noN (by omega) (by omega)
      have pp := (p2 (by omega) (by omega)).2
      have tt := (p3 (by omega) (by omega)).2
      exact .inl (⟨(ee 7 k7), (nn 8 (by omega)), (nn 9 (by omega)), (nn 10 (by omega)), (by omega), pp, (by omega), tt, by rw [hO0]; apply ByteArray.ext; apply Array.toList_inj.1; simp [ByteArray.data_append, hk1, headT, priT, fdT, valT, kPrio, kFrom, kNodes, kTime, timT, onF_yes, onF_no, fldT_one, fldT_nil, hV, hSe, hT, e_J, e_P, e_I, e_F, e_M, k7, n0, pp, tt], fun O hO => by rw [hO, hLB, hO0]; unfold lineB; rw [hline]; apply ByteArray.ext; apply Array.toList_inj.1; simp [ByteArray.data_append, hk1, headT, priT, fdT, valT, kPrio, kFrom, kNodes, kTime, timT, onF_yes, onF_no, fldT_one, fldT_nil, hV, hSe, hT, e_J, e_P, e_I, e_F, e_M, k7, n0, pp, tt]⟩)
    by_cases k8 : c.kind = 8
    · have j0 := p7 (by omega)
      have n0 := noN (by omega) (by omega)
      have pp := (p2 (by omega) (by omega)).2
      have tt := (p3 (by omega) (by omega)).2
      exact .inr (.inl (⟨(nn 7 (by omega)), (ee 8 k8), (nn 9 (by omega)), (nn 10 (by omega)), (by omega), pp, (by omega), tt, by rw [hO0]; apply ByteArray.ext; apply Array.toList_inj.1; simp [ByteArray.data_append, hk1, headT, priT, fdT, valT, kPrio, kFrom, kNodes, kTime, timT, onF_yes, onF_no, fldT_one, fldT_nil, hV, hSe, hT, e_J, e_P, e_I, e_F, e_M, k8, n0, pp, tt], fun O hO => by rw [hO, hLB, hO0]; unfold lineB; rw [hline]; apply ByteArray.ext; apply Array.toList_inj.1; simp [ByteArray.data_append, hk1, headT, priT, fdT, valT, kPrio, kFrom, kNodes, kTime, timT, onF_yes, onF_no, fldT_one, fldT_nil, hV, hSe, hT, e_J, e_P, e_I, e_F, e_M, k8, n0, pp, tt]⟩))
    by_cases k9 : c.kind = 9
    · have j0 := p7 (by omega)
      have n0 := noN (by omega) (by omega)
      have pp := (p2 (by omega) (by omega)).2
      have tt := (p3 (by omega) (by omega)).2
      exact .inr (.inr (.inl (⟨(nn 7 (by omega)), (nn 8 (by omega)), (ee 9 k9), (nn 10 (by omega)), (by omega), pp, (by omega), tt, by rw [hO0]; apply ByteArray.ext; apply Array.toList_inj.1; simp [ByteArray.data_append, hk1, headT, priT, fdT, valT, kPrio, kFrom, kNodes, kTime, timT, onF_yes, onF_no, fldT_one, fldT_nil, hV, hSe, hT, e_J, e_P, e_I, e_F, e_M, k9, n0, pp, tt], fun O hO => by rw [hO, hLB, hO0]; unfold lineB; rw [hline]; apply ByteArray.ext; apply Array.toList_inj.1; simp [ByteArray.data_append, hk1, headT, priT, fdT, valT, kPrio, kFrom, kNodes, kTime, timT, onF_yes, onF_no, fldT_one, fldT_nil, hV, hSe, hT, e_J, e_P, e_I, e_F, e_M, k9, n0, pp, tt]⟩)))
    by_cases k10 : c.kind = 10
    · have j0 := p7 (by omega)
      obtain ⟨n0, tt⟩ := g6 k10
      have pp := (p2 (by omega) (by omega)).2
      exact .inr (.inr (.inr (.inl (⟨(nn 7 (by omega)), (nn 8 (by omega)), (nn 9 (by omega)), (ee 10 k10), (by omega), pp, (by omega), tt, by rw [hO0]; apply ByteArray.ext; apply Array.toList_inj.1; simp [ByteArray.data_append, hk1, headT, priT, fdT, valT, kPrio, kFrom, kNodes, kTime, timT, onF_yes, onF_no, fldT_one, fldT_nil, hV, hSe, hT, e_J, e_P, e_I, e_F, e_M, k10, j0, n0, pp, tt], fun O hO => by rw [hO, hLB, hO0]; unfold lineB; rw [hline]; apply ByteArray.ext; apply Array.toList_inj.1; simp [ByteArray.data_append, hk1, headT, priT, fdT, valT, kPrio, kFrom, kNodes, kTime, timT, onF_yes, onF_no, fldT_one, fldT_nil, hV, hSe, hT, e_J, e_P, e_I, e_F, e_M, k10, j0, n0, pp, tt]⟩))))
    have N0 : ∀ k : Int, k = 7 ∨ k = 8 ∨ k = 9 ∨ k = 10 → c.kind ≠ k := fun k h => by omega
    by_cases k5 : c.kind = 5
    · have jj : c.job ≠ 0 := by have := g2 (by omega); omega
      have n0 := noN (by omega) (by omega)
      cases pp : c.hasPrio with
      | false =>
        have tt : c.hasTime = true := by rcases g3 k5 with h | h; rw [pp] at h; cases h; exact h
        exact .inr (.inr (.inr (.inr (.inl (⟨(nn 7 (by omega)), (nn 8 (by omega)), (nn 9 (by omega)), (nn 10 (by omega)), (by omega), rfl, (by omega), tt, by rw [hO0]; apply ByteArray.ext; apply Array.toList_inj.1; simp [ByteArray.data_append, hk1, headT, priT, fdT, valT, kPrio, kFrom, kNodes, kTime, timT, onF_yes, onF_no, fldT_one, fldT_nil, hV, hSe, hT, e_J, e_P, e_I, e_F, e_M, k5, jj, n0, pp, tt], fun O hO => by rw [hO, hLB, hO0]; unfold lineB; rw [hline]; apply ByteArray.ext; apply Array.toList_inj.1; simp [ByteArray.data_append, hk1, headT, priT, fdT, valT, kPrio, kFrom, kNodes, kTime, timT, onF_yes, onF_no, fldT_one, fldT_nil, hV, hSe, hT, e_J, e_P, e_I, e_F, e_M, k5, jj, n0, pp, tt]⟩)))))
      | true =>
        cases tt : c.hasTime with
        | false => exact .inr (.inr (.inr (.inr (.inr (.inl (⟨(nn 7 (by omega)), (nn 8 (by omega)), (nn 9 (by omega)), (nn 10 (by omega)), (by omega), rfl, (by omega), rfl, by rw [hO0]; apply ByteArray.ext; apply Array.toList_inj.1; simp [ByteArray.data_append, hk1, headT, priT, fdT, valT, kPrio, kFrom, kNodes, kTime, timT, onF_yes, onF_no, fldT_one, fldT_nil, hV, hSe, hT, e_J, e_P, e_I, e_F, e_M, k5, jj, n0, pp, tt], fun O hO => by rw [hO, hLB, hO0]; unfold lineB; rw [hline]; apply ByteArray.ext; apply Array.toList_inj.1; simp [ByteArray.data_append, hk1, headT, priT, fdT, valT, kPrio, kFrom, kNodes, kTime, timT, onF_yes, onF_no, fldT_one, fldT_nil, hV, hSe, hT, e_J, e_P, e_I, e_F, e_M, k5, jj, n0, pp, tt]⟩))))))
        | true => exact .inr (.inr (.inr (.inr (.inr (.inr (.inl (⟨(nn 7 (by omega)), (nn 8 (by omega)), (nn 9 (by omega)), (nn 10 (by omega)), (by omega), rfl, (by omega), rfl, by rw [hO0]; apply ByteArray.ext; apply Array.toList_inj.1; simp [ByteArray.data_append, hk1, headT, priT, fdT, valT, kPrio, kFrom, kNodes, kTime, timT, onF_yes, onF_no, fldT_one, fldT_nil, hV, hSe, hT, e_J, e_P, e_I, e_F, e_M, k5, jj, n0, pp, tt], fun O hO => by rw [hO, hLB, hO0]; unfold lineB; rw [hline]; apply ByteArray.ext; apply Array.toList_inj.1; simp [ByteArray.data_append, hk1, headT, priT, fdT, valT, kPrio, kFrom, kNodes, kTime, timT, onF_yes, onF_no, fldT_one, fldT_nil, hV, hSe, hT, e_J, e_P, e_I, e_F, e_M, k5, jj, n0, pp, tt]⟩)))))))
    have pp := (p2 hk1 k5).2
    have tt := (p3 k5 k10).2
    by_cases k6 : c.kind = 6
    · have jj : c.job ≠ 0 := by have := g2 (by omega); omega
      have n0 := g4 k6
      exact .inr (.inr (.inr (.inr (.inr (.inr (.inr (.inl (⟨(nn 7 (by omega)), (nn 8 (by omega)), (nn 9 (by omega)), (nn 10 (by omega)), (by omega), pp, (by omega), tt, by rw [hO0]; apply ByteArray.ext; apply Array.toList_inj.1; simp [ByteArray.data_append, hk1, headT, priT, fdT, valT, kPrio, kFrom, kNodes, kTime, timT, onF_yes, onF_no, fldT_one, fldT_nil, hV, hSe, hT, e_J, e_P, e_I, e_F, e_M, k6, jj, n0, pp, tt], fun O hO => by rw [hO, hLB, hO0]; unfold lineB; rw [hline]; apply ByteArray.ext; apply Array.toList_inj.1; simp [ByteArray.data_append, hk1, headT, priT, fdT, valT, kPrio, kFrom, kNodes, kTime, timT, onF_yes, onF_no, fldT_one, fldT_nil, hV, hSe, hT, e_J, e_P, e_I, e_F, e_M, k6, jj, n0, pp, tt]⟩))))))))
    have n0 := noN k6 k10
    by_cases jj : c.job = 0
    · exact .inr (.inr (.inr (.inr (.inr (.inr (.inr (.inr (.inr (⟨(nn 7 (by omega)), (nn 8 (by omega)), (nn 9 (by omega)), (nn 10 (by omega)), (by omega), pp, (by omega), tt, by rw [hO0]; apply ByteArray.ext; apply Array.toList_inj.1; simp [ByteArray.data_append, hk1, headT, priT, fdT, valT, kPrio, kFrom, kNodes, kTime, timT, onF_yes, onF_no, fldT_one, fldT_nil, hV, hSe, hT, e_J, e_P, e_I, e_F, e_M, k7, k8, k9, k10, nn 10 k10, jj, n0, pp, tt], fun O hO => by rw [hO, hLB, hO0]; unfold lineB; rw [hline]; apply ByteArray.ext; apply Array.toList_inj.1; simp [ByteArray.data_append, hk1, headT, priT, fdT, valT, kPrio, kFrom, kNodes, kTime, timT, onF_yes, onF_no, fldT_one, fldT_nil, hV, hSe, hT, e_J, e_P, e_I, e_F, e_M, k7, k8, k9, k10, nn 10 k10, jj, n0, pp, tt]⟩)))))))))
    · exact .inr (.inr (.inr (.inr (.inr (.inr (.inr (.inr (.inl (⟨(nn 7 (by omega)), (nn 8 (by omega)), (nn 9 (by omega)), (nn 10 (by omega)), (by omega), pp, (by omega), tt, by rw [hO0]; apply ByteArray.ext; apply Array.toList_inj.1; simp [ByteArray.data_append, hk1, headT, priT, fdT, valT, kPrio, kFrom, kNodes, kTime, timT, onF_yes, onF_no, fldT_one, fldT_nil, hV, hSe, hT, e_J, e_P, e_I, e_F, e_M, k7, k8, k9, k10, nn 10 k10, jj, n0, pp, tt], fun O hO => by rw [hO, hLB, hO0]; unfold lineB; rw [hline]; apply ByteArray.ext; apply Array.toList_inj.1; simp [ByteArray.data_append, hk1, headT, priT, fdT, valT, kPrio, kFrom, kNodes, kTime, timT, onF_yes, onF_no, fldT_one, fldT_nil, hV, hSe, hT, e_J, e_P, e_I, e_F, e_M, k7, k8, k9, k10, nn 10 k10, jj, n0, pp, tt]⟩)))))))))
  have t1 : (c.kind == 1) = false := nn 1 hk1
  clear hline hck hLB nn ee noN hk1 s1 s2 f1 f3 f4 f5 g1 g2 g3 g4 g5 g6 g7 g8 p2 p3 p4 p5 p6 p7 b3 b4 b5 b6 b7 b8 b9 b10 hO0 hSe hV hS hT e_J e_P e_I e_F e_M lJ lP lI lF lM qJ qP qI qF qM hT0 hvl
  have zO := hOz.2
  clear hOz
  obtain ⟨a1, a2, a3, a4, a5, a6, a7, a8, a9, a10, a11, a12, a13, a14, a15, a16, a17, a18⟩ := c
  dsimp only at *
  obtain ⟨pa, qa, rfl, l1, m1, r1, n1⟩ := h1
  obtain ⟨pd, qd, rfl, l2, m2, r2, n2⟩ := h2
  unfold cmdV at c0 ⊢
  dsimp only at *
  obtain ⟨BX, hBX⟩ : ∃ W, W = w.alloc (.cells #[.int .i64 a1, .int .i64 a2, .string a3, .string a4, .string a5, .int .i64 a6, .slice pa a7.length qa, .int .i64 a8, .int .i64 a9, .int .i64 a10, .int .i64 a11, .bool a12, .int .i64 a13, .bool a14, .slice pd a15.length qd, .int .i64 a16, .int .i64 a17, .int .i64 a18] 27) := ⟨_, rfl⟩
  have hbx : ∀ w2, Below BX.heap.size BX w2 → w2.heap[w.heap.size]? = some (.cells #[.int .i64 a1, .int .i64 a2, .string a3, .string a4, .string a5, .int .i64 a6, .slice pa a7.length qa, .int .i64 a8, .int .i64 a9, .int .i64 a10, .int .i64 a11, .bool a12, .int .i64 a13, .bool a14, .slice pd a15.length qd, .int .i64 a16, .int .i64 a17, .int .i64 a18] 27) := by rw [hBX]; exact fun w2 hb => box_cmd hb
  have hb0 : Below w.heap.size w BX := by rw [hBX]; exact below_one _
  have gd0 : ¬ 9223372036854775807 < V.size + 6 := by omega
  have gd1 : ¬ 9223372036854775807 < V.size + 6 + P.size := by omega
  have gd2 : ¬ 9223372036854775807 < V.size + 1 := by omega
  have gd3 : ¬ 9223372036854775807 < V.size + 1 + I.size := by omega
  have gd4 : ¬ 9223372036854775807 < V.size + 1 + I.size + 6 := by omega
  have gd5 : ¬ 9223372036854775807 < V.size + 1 + I.size + 6 + P.size := by omega
  have gd6 : ¬ 9223372036854775807 < V.size + 1 + J.size := by omega
  have gd7 : ¬ 9223372036854775807 < V.size + 1 + J.size + 6 := by omega
  have gd8 : ¬ 9223372036854775807 < V.size + 1 + J.size + 6 + P.size := by omega
  have H_c0 := Lib.hid c0
  have H_cS := Lib.hid cS
  have H_cV := Lib.hid cV
  have H_cJ := Lib.hid cJ
  have H_cP := Lib.hid cP
  have H_cI := Lib.hid cI
  have H_cF := Lib.hid cF
  have H_cM := Lib.hid cM
  have H_cT := Lib.hid cT
  have H_hbig := Lib.hid hbig
  have H_hfit := Lib.hid hfit
  have H_hBX := Lib.hid hBX
  have H_b11 := Lib.hid b11
  have HC := Lib.hid hbx
  have HB0 := Lib.hid hb0
  clear c0 cS cV cJ cP cI cF cM cT hbig hfit hBX b11 hbx hb0
  clear l1 m1 r1 n1 l2 m2 r2 n2 z3 z4 z5
  rcases hcase with ⟨t7, t8, t9, t10, hj, rfl, hn, rfl, hO0, hx⟩ | ⟨t7, t8, t9, t10, hj, rfl, hn, rfl, hO0, hx⟩ | ⟨t7, t8, t9, t10, hj, rfl, hn, rfl, hO0, hx⟩ | ⟨t7, t8, t9, t10, hj, rfl, hn, rfl, hO0, hx⟩ | ⟨t7, t8, t9, t10, hj, rfl, hn, rfl, hO0, hx⟩ | ⟨t7, t8, t9, t10, hj, rfl, hn, rfl, hO0, hx⟩ | ⟨t7, t8, t9, t10, hj, rfl, hn, rfl, hO0, hx⟩ | ⟨t7, t8, t9, t10, hj, rfl, hn, rfl, hO0, hx⟩ | ⟨t7, t8, t9, t10, hj, rfl, hn, rfl, hO0, hx⟩ | ⟨t7, t8, t9, t10, hj, rfl, hn, rfl, hO0, hx⟩
  all_goals
    have H_hO0 := Lib.hid hO0
    have H_hx := Lib.hid hx
    clear hO0 hx
    go_enter Tryz.func10, Tryz.ntmps10
    go_wp2_with (first
      | (refine ld_cmd rfl (.tmp 1) rfl w.heap.size _ _ rfl (heap_alloc_new w _) rfl ?_)
      | (go_at_call 12; (with_reducible refine (H_c0.out _ (H_hBX.out ▸ HB0.out)).mono ?_); rintro e w1 ⟨rfl, p⟩; rw [← H_hBX.out] at p; have PL := Lib.hid p; clear p; obtain ⟨x0, x1, x2, x3, x4, x5, x6, x7, x8, x9, x10, x11, x12, x13, x14, x15, x16, x17⟩ := all18 (HC.out _ PL.out))
      | (go_at_call 23; (with_reducible refine (H_cV.out _).mono ?_); rintro e w1 ⟨rfl, p⟩; have PN := Lib.hid (PL.out.trans (p.mono PL.out.size)); clear PL; have PL := PN; clear PN p; (try clear x0 x1 x2 x3 x4 x5 x6 x7 x8 x9 x10 x11 x12 x13 x14 x15 x16 x17); obtain ⟨x0, x1, x2, x3, x4, x5, x6, x7, x8, x9, x10, x11, x12, x13, x14, x15, x16, x17⟩ := all18 (HC.out _ PL.out))
      | (go_at_call 26; (with_reducible refine (H_cI.out _).mono ?_); rintro e w1 ⟨rfl, p⟩; have PN := Lib.hid (PL.out.trans (p.mono PL.out.size)); clear PL; have PL := PN; clear PN p; (try clear x0 x1 x2 x3 x4 x5 x6 x7 x8 x9 x10 x11 x12 x13 x14 x15 x16 x17); obtain ⟨x0, x1, x2, x3, x4, x5, x6, x7, x8, x9, x10, x11, x12, x13, x14, x15, x16, x17⟩ := all18 (HC.out _ PL.out))
      | (go_at_call 26; (with_reducible refine (H_cJ.out _).mono ?_); rintro e w1 ⟨rfl, p⟩; have PN := Lib.hid (PL.out.trans (p.mono PL.out.size)); clear PL; have PL := PN; clear PN p; (try clear x0 x1 x2 x3 x4 x5 x6 x7 x8 x9 x10 x11 x12 x13 x14 x15 x16 x17); obtain ⟨x0, x1, x2, x3, x4, x5, x6, x7, x8, x9, x10, x11, x12, x13, x14, x15, x16, x17⟩ := all18 (HC.out _ PL.out))
      | (go_at_call 26; (with_reducible refine (H_cP.out _).mono ?_); rintro e w1 ⟨rfl, p⟩; have PN := Lib.hid (PL.out.trans (p.mono PL.out.size)); clear PL; have PL := PN; clear PN p; (try clear x0 x1 x2 x3 x4 x5 x6 x7 x8 x9 x10 x11 x12 x13 x14 x15 x16 x17); obtain ⟨x0, x1, x2, x3, x4, x5, x6, x7, x8, x9, x10, x11, x12, x13, x14, x15, x16, x17⟩ := all18 (HC.out _ PL.out))
      | fail)
    clear gd0 gd1 gd2 gd3 gd4 gd5 gd6 gd7 gd8
    go_loopw [6, 4] (fun i o wr => i = .int .i64 0 ∧ o = .string O0 ∧ Below BX.heap.size BX wr) (fun _ _ _ => 0)
    case atStart => exact ⟨rfl, by rw [H_hO0.out], PL.out⟩
    case round =>
      obtain ⟨rfl, rfl, hpl⟩ := hrel
      obtain ⟨x0, x1, x2, x3, x4, x5, x6, x7, x8, x9, x10, x11, x12, x13, x14, x15, x16, x17⟩ := all18 (HC.out _ hpl)
      have PL := Lib.hid hpl
      have hz15 : ¬ (0 : Int) < ((a15.length : Nat) : Int) := by rw [H_b11.out]; simp
      obtain ⟨O, hO⟩ : ∃ x : ByteArray, x = O0 := ⟨_, rfl⟩
      have hx := H_hx.out O hO
      rw [← hO] at zO ⊢
      have HX := Lib.hid hx
      have ge0 : ¬ 9223372036854775807 < O.size + S.size := by omega
      have ge1 : ¬ 9223372036854775807 < O.size + S.size + 6 := by omega
      have ge2 : ¬ 9223372036854775807 < O.size + S.size + 6 + T.size := by omega
      have ge3 : ¬ 9223372036854775807 < O.size + 7 := by omega
      have ge4 : ¬ 9223372036854775807 < O.size + 7 + M.size := by omega
      have ge5 : ¬ 9223372036854775807 < O.size + 7 + M.size + S.size := by omega
      have ge6 : ¬ 9223372036854775807 < O.size + 7 + M.size + S.size + 6 := by omega
      have ge7 : ¬ 9223372036854775807 < O.size + 7 + M.size + S.size + 6 + T.size := by omega
      have ge8 : ¬ 9223372036854775807 < O.size + 6 := by omega
      have ge9 : ¬ 9223372036854775807 < O.size + 6 + F.size := by omega
      have ge10 : ¬ 9223372036854775807 < O.size + 6 + F.size + S.size := by omega
      have ge11 : ¬ 9223372036854775807 < O.size + 6 + F.size + S.size + 6 := by omega
      have ge12 : ¬ 9223372036854775807 < O.size + 6 + F.size + S.size + 6 + T.size := by omega
      have ge13 : ¬ 9223372036854775807 < O.size + 6 + F.size + 7 := by omega
      have ge14 : ¬ 9223372036854775807 < O.size + 6 + F.size + 7 + M.size := by omega
      have ge15 : ¬ 9223372036854775807 < O.size + 6 + F.size + 7 + M.size + S.size := by omega
      have ge16 : ¬ 9223372036854775807 < O.size + 6 + F.size + 7 + M.size + S.size + 6 := by omega
      have ge17 : ¬ 9223372036854775807 < O.size + 6 + F.size + 7 + M.size + S.size + 6 + T.size := by omega
      clear hO hpl hx
      go_wp2_with (first
        | (go_at_call 26; (with_reducible refine (H_cF.out _).mono ?_); rintro e w1 ⟨rfl, p⟩; have PN := Lib.hid (PL.out.trans (p.mono PL.out.size)); clear PL; have PL := PN; clear PN p; (try clear x0 x1 x2 x3 x4 x5 x6 x7 x8 x9 x10 x11 x12 x13 x14 x15 x16 x17); obtain ⟨x0, x1, x2, x3, x4, x5, x6, x7, x8, x9, x10, x11, x12, x13, x14, x15, x16, x17⟩ := all18 (HC.out _ PL.out))
        | (go_at_call 26; (with_reducible refine (H_cM.out _).mono ?_); rintro e w1 ⟨rfl, p⟩; have PN := Lib.hid (PL.out.trans (p.mono PL.out.size)); clear PL; have PL := PN; clear PN p; (try clear x0 x1 x2 x3 x4 x5 x6 x7 x8 x9 x10 x11 x12 x13 x14 x15 x16 x17); obtain ⟨x0, x1, x2, x3, x4, x5, x6, x7, x8, x9, x10, x11, x12, x13, x14, x15, x16, x17⟩ := all18 (HC.out _ PL.out))
        | (go_at_call 27; (with_reducible refine (H_cS.out _ (HB0.out.trans (PL.out.mono HB0.out.size))).mono ?_); rintro e w1 ⟨rfl, p⟩; have PN := Lib.hid (PL.out.trans (p.mono PL.out.size)); clear PL; have PL := PN; clear PN p; (try clear x0 x1 x2 x3 x4 x5 x6 x7 x8 x9 x10 x11 x12 x13 x14 x15 x16 x17); obtain ⟨x0, x1, x2, x3, x4, x5, x6, x7, x8, x9, x10, x11, x12, x13, x14, x15, x16, x17⟩ := all18 (HC.out _ PL.out))
        | (go_at_call 28; (with_reducible refine (H_cT.out _).mono ?_); rintro e w1 ⟨rfl, p⟩; have PN := Lib.hid (PL.out.trans (p.mono PL.out.size)); clear PL; have PL := PN; clear PN p; (try clear x0 x1 x2 x3 x4 x5 x6 x7 x8 x9 x10 x11 x12 x13 x14 x15 x16 x17); obtain ⟨x0, x1, x2, x3, x4, x5, x6, x7, x8, x9, x10, x11, x12, x13, x14, x15, x16, x17⟩ := all18 (HC.out _ PL.out))
        | fail)
      all_goals first
        | (go_ret2; refine ⟨ret_si (H_hbig.out (by rw [HX.out]; simp only [ByteArray.size_append, show (⟨#[32, 102, 114, 111, 109, 61]⟩ : ByteArray).size = 6 from rfl, show (⟨#[32, 110, 111, 100, 101, 115, 61]⟩ : ByteArray).size = 7 from rfl, show (⟨#[32, 116, 105, 109, 101, 61]⟩ : ByteArray).size = 6 from rfl]; omega)).1 (H_hbig.out (by rw [HX.out]; simp only [ByteArray.size_append, show (⟨#[32, 102, 114, 111, 109, 61]⟩ : ByteArray).size = 6 from rfl, show (⟨#[32, 110, 111, 100, 101, 115, 61]⟩ : ByteArray).size = 7 from rfl, show (⟨#[32, 116, 105, 109, 101, 61]⟩ : ByteArray).size = 6 from rfl]; omega)).2, HB0.out.trans (PL.out.mono HB0.out.size)⟩; done)
        | (go_ret2; refine ⟨ret_si (HX.out.symm.trans (H_hfit.out (by rw [HX.out]; simp only [ByteArray.size_append, show (⟨#[32, 102, 114, 111, 109, 61]⟩ : ByteArray).size = 6 from rfl, show (⟨#[32, 110, 111, 100, 101, 115, 61]⟩ : ByteArray).size = 7 from rfl, show (⟨#[32, 116, 105, 109, 101, 61]⟩ : ByteArray).size = 6 from rfl]; omega)).1) (H_hfit.out (by rw [HX.out]; simp only [ByteArray.size_append, show (⟨#[32, 102, 114, 111, 109, 61]⟩ : ByteArray).size = 6 from rfl, show (⟨#[32, 110, 111, 100, 101, 115, 61]⟩ : ByteArray).size = 7 from rfl, show (⟨#[32, 116, 105, 109, 101, 61]⟩ : ByteArray).size = 6 from rfl]; omega)).2, HB0.out.trans (PL.out.mono HB0.out.size)⟩; done)
end Go.Proofs.YtdkngidangfkiaaGreatDoor.Cmd
namespace Go.Proofs.YtdkngidangfkiaaGreatDoor.Cmd
open Go.RowKit
open Base Runes Lex
set_option linter.unusedVariables false
set_option linter.unusedSimpArgs false
set_option maxRecDepth 100000 in
set_option maxHeartbeats 4000000 in
theorem rshow_no (c : Co) (va vd : Value) (w : World) (h1 : Row w va c.alts) (h2 : Row w vd c.after) (hn : c.name.size ≤ 1000000) (hu : c.user.size ≤ 1000000) (ha : c.account.size ≤ 1000000) (hm : mayC c = false) :
    Calls Tryz.prog 10 #[cmdV c va vd] w fun e w' => e = .returned (.tuple #[.string (showC c).1, .int .i64 (showC c).2]) ∧ Below w.heap.size w w' := by
  have hck : chkC c = 80 := by unfold chkC; rw [hm]; rfl
  have hsh : showC c = (nil_, 80) := by unfold showC; rw [hm]; rfl
  have c0 := fun w2 (hb : Below w.heap.size w w2) => rcheck8_any c va vd w2 (h1.below hb) (h2.below hb) hn hu ha
  simp only [hck] at c0
  rw [hsh]
  obtain ⟨a1, a2, a3, a4, a5, a6, a7, a8, a9, a10, a11, a12, a13, a14, a15, a16, a17, a18⟩ := c
  obtain ⟨pa, qa, rfl, l1, m1, r1, n1⟩ := h1
  obtain ⟨pd, qd, rfl, l2, m2, r2, n2⟩ := h2
  unfold cmdV at c0 ⊢
  dsimp only at *
  have C0 := Lib.hid c0
  have HB0 := Lib.hid (below_one (w := w) (.cells #[.int .i64 a1, .int .i64 a2, .string a3, .string a4, .string a5, .int .i64 a6, .slice pa a7.length qa, .int .i64 a8, .int .i64 a9, .int .i64 a10, .int .i64 a11, .bool a12, .int .i64 a13, .bool a14, .slice pd a15.length qd, .int .i64 a16, .int .i64 a17, .int .i64 a18] 27))
  clear c0 l1 m1 r1 n1 l2 m2 r2 n2 hn hu ha hm hck hsh
  go_enter Tryz.func10, Tryz.ntmps10
  go_wp2_with (first
    | (refine ld_cmd rfl (.tmp 1) rfl w.heap.size _ _ rfl (heap_alloc_new w _) rfl ?_)
    | (go_at_call 12; (with_reducible refine (C0.out _ HB0.out).mono ?_); rintro e w1 ⟨rfl, p⟩)
    | fail)
  go_ret2
  exact ⟨rfl, HB0.out.trans (p.mono HB0.out.size)⟩
theorem rshow8_any (c : Co) (va vd : Value) (w : World) (h1 : Row w va c.alts) (h2 : Row w vd c.after) (hn : c.name.size ≤ 1000000) (hu : c.user.size ≤ 1000000) (ha : c.account.size ≤ 1000000) :
    Calls Tryz.prog 10 #[cmdV c va vd] w fun e w' => e = .returned (.tuple #[.string (showC c).1, .int .i64 (showC c).2]) ∧ Below w.heap.size w w' := by
  cases hm : mayC c with
  | false => exact rshow_no c va vd w h1 h2 hn hu ha hm
  | true =>
    by_cases hk : c.kind = 1
    · exact rshow_sub c va vd w h1 h2 hm hk
    · exact rshow_oth c va vd w h1 h2 hm hk
end Go.Proofs.YtdkngidangfkiaaGreatDoor.Cmd
