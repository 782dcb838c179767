/-
  Joined out of: The walk of what takes a command, where what stands behind its word may not.
-/
import Derived.Test.YtdkngidangfkiaaGreatDoorJb18
import Derived.Deep.LoopGhost
namespace Go.Proofs.YtdkngidangfkiaaGreatDoor.Cmd
open Go.RowKit
open Base
open Lex (Tok tkC tkC_length tokV zT)
open Shape (altC altC_length)
set_option linter.unusedVariables false
set_option linter.unusedSimpArgs false
set_option maxRecDepth 100000 in
set_option maxHeartbeats 1000000 in
theorem command_miss (u : World) (B n : Nat) (l : List Tok) (w : World) (hR : RdAt w B l n) (hs : ∀ t ∈ l, t.2.1.size ≤ 1000000) (hC : Ctx u w B) (t : Tok) (r r2 : List Tok) (h0 : nx (qWord qK) l = (some t, r)) (h1 : rdTgt (zCo (kindN t.2.1 : Nat)) r = (none, r2)) :
    Calls Tryz.prog 40 #[.pointer (some ⟨B, 0, none⟩)] w fun e w' => CmdSays B n none r2 w e w' := by
  have hlt := hR.lt
  have hb0 : Below w.heap.size w (w.alloc (.cells zArr 27)) := below_one _
  have c1 := word_any 64 #[] qK B n l (w.alloc (.cells zArr 27)) (hR.below hb0) (fun t ht P w2 hb hP => wordc_cmd t P w2 ((hC.below hb0).below hb).now hP)
  have hC0 := hC.below hb0
  have hC1 : ∀ w2, (w.alloc (.cells zArr 27)).grownBy w2 (some B) → Tb w2 := fun w2 g => (hC0.grown g).now
  have s1 := nx_suffix (qWord qK) l
  rw [h0] at c1 s1
  have hs2 : ∀ t ∈ r, t.2.1.size ≤ 1000000 := fun t ht => hs t (s1.mem ht)
  unfold RSays at c1
  dsimp only [Option.getD, Option.isSome] at c1
  obtain ⟨s, hs0⟩ : ∃ s, s = t.2.1 := ⟨_, rfl⟩
  rw [← hs0] at c1 h1
  obtain ⟨k, hk⟩ : ∃ k : Nat, k = kindN s := ⟨_, rfl⟩
  rw [← hk] at h1
  have C1 := Lib.hid c1
  have HC1 := Lib.hid hC1
  have HB := Lib.hid hlt
  have H1 := Lib.hid h1
  have HS2 := Lib.hid hs2
  have HK := Lib.hid hk
  clear c1 hC1 hC0 hb0 hR hC h0 h1 hs hs2 s1 hs0 hk
  unfold zArr at *
  go_enter Tryz.func40, Tryz.ntmps40
  go_upto_region 3 with (first
    | (go_at_call 63; (with_reducible refine C1.out.mono ?_); rintro e w2 ⟨rfl, r2, g2⟩; have R2 := Lib.hid r2; have G2 := Lib.hid g2; clear r2 g2)
    | (go_at_call 65; (with_reducible refine (kindOf_any _ _ (HC1.out _ G2.out)).mono ?_); rw [← HK.out]; rintro e w3 ⟨rfl, rfl⟩)
    | fail)
  obtain ⟨hz3, R3, G3, O3, hlt3⟩ := run_start (T := r) HB.out G2.out R2.out (k : Int)
  unfold kArr at R3 G3 hz3 O3
  obtain ⟨W3, hW⟩ : ∃ W3, W3 = (w2.alloc (.cells #[.int .i64 (k : Nat), .int .i64 0, .string ⟨#[]⟩, .string ⟨#[]⟩, .string ⟨#[]⟩, .int .i64 0, .slice none 0 0, .int .i64 0, .int .i64 0, .int .i64 0, .int .i64 0, .bool false, .int .i64 0, .bool false, .slice none 0 0, .int .i64 0, .int .i64 0, .int .i64 0] 27)) := ⟨_, rfl⟩
  rw [← hW] at R3 G3 hz3 O3 ⊢
  clear hW
  have cT := target_any (w2.heap.size + 1) B w2.heap.size n (zCo k) _ _ r W3 R3.out HS2.out O3.out hlt3.2
  unfold TgSays at cT
  rw [H1.out] at cT
  dsimp only [Option.isSome] at cT
  have CT := Lib.hid cT
  clear cT
  go_wp2_with (first
    | (go_at_call 66; (with_reducible refine CT.out.mono ?_); rintro e w4 ⟨rfl, r4, ⟨c4, o4, q4⟩, k4⟩; have hz4 : ZAt w4 w.heap.size := hz3.tgk k4 (by omega) (by omega); have R4 := Lib.hid r4; have K4 := Lib.hid k4; clear r4 k4 o4 q4)
    | (refine st_zero rfl (.tmp 2) (.tmp 25) rfl w.heap.size rfl rfl hz4 ?_)
    | fail)
  exact bodyPost_ret (v := .tuple #[.agg zArr, .bool false]) (res_cmd2 Tryz.results40 _ _ w.heap.size 27 _ _ rfl rfl hz4 rfl) rfl ⟨zCo 0, .slice none 0 0, .slice none 0 0, rfl, Row.nil _, Row.nil _, R4.out, K4.out.up G3.out (Nat.le_of_lt hlt3.1), ⟨New.nil _, New.nil _⟩, fun c1 h => by cases h⟩
end Go.Proofs.YtdkngidangfkiaaGreatDoor.Cmd
