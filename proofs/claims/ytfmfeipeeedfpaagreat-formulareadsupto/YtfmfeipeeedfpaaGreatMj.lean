/-
  The law FormulaReads.
-/
import Derived.Test.YtfmfeipeeedfpaaGreatMi
namespace Go.Proofs.YtfmfeipeeedfpaaGreat
open S Go.Sort Go.Lib
set_option maxRecDepth 20000 in
theorem t_fitB {d : Nat} {x : Ex} {w : World} (hL : LT w d x) : Calls Tryz.prog 10 #[.agg x.c.toArray] w fun e W => e = .returned (.bool (decide (szX 60 x ≤ 2000))) ∧ Mb w W := by
  by_cases h : szX 60 x ≤ 2000
  · rw [decide_eq_true h]
    exact fn_pure [.agg (x.c.map rel1).toArray] Tryz.func10 rfl rfl rfl (run_ok (st mo ⟨_, fun nn => r_call (t := .int .i64 (szX 60 x)) rfl rfl Tryz.func28 (fun W M E => t_size 60 x W (by decide) ((hL.mono E).lx 60)), st mo ⟨fun _ => st mo rfl, fun h' => absurd h (by omega)⟩⟩))
  · rw [decide_eq_false h]
    exact fn_pure [.agg (x.c.map rel1).toArray] Tryz.func10 rfl rfl rfl (run_ok (st mo ⟨_, fun nn => r_call (t := .int .i64 (szX 60 x)) rfl rfl Tryz.func28 (fun W M E => t_size 60 x W (by decide) ((hL.mono E).lx 60)), st mo ⟨fun h' => absurd h' h, fun _ => st mo rfl⟩⟩))
set_option maxRecDepth 20000 in
theorem rea_n (d : Nat) (x : Ex) (w : World) (hL : LT w d x) (hb : nds d x ≤ 1000000000) : Calls Tryz.prog 5 #[.agg x.c.toArray] w fun e W => e = .returned (.bool true) ∧ Mb w W := by
  refine fn_pure [.agg (x.c.map rel1).toArray] Tryz.func5 rfl rfl rfl (run_ok (st mo ?_))
  cases hf : decide (szX 60 x ≤ 2000) with
  | false =>
    refine ⟨_, fun nn => r_call (t := litF) rfl rfl Tryz.func10 (fun W M E => by have := t_fitB (hL.mono E); rw [hf] at this; exact this), st mo ?_⟩
    exact ⟨_, fun nn => r_call (t := litT) rfl rfl Tryz.func11 (fun W M E => t_live W), st mo rfl⟩
  | true =>
    refine ⟨_, fun nn => r_call (t := litT) rfl rfl Tryz.func10 (fun W M E => by have := t_fitB (hL.mono E); rw [hf] at this; exact this), st mo ?_⟩
    refine ⟨_, fun nn => r_call (t := litT) rfl rfl Tryz.func11 (fun W M E => t_live W), st mo ?_⟩
    have g1 := names_n d w x hL hb
    have g2 := qnames_n d w x hL hb
    have g3 := cols_n d w x hL hb
    have g4 := qcols_n d w x hL hb
    have l1 := (gtD_len kxN ltb d x []).1
    have l2 := (gtD_len kxC ltcb d x []).1
    rw [same_s] at g1
    rw [same_c] at g3
    generalize gtD kxN ltb d x [] = N at g1 g2 l1
    generalize gtD kxC ltcb d x [] = K at g3 g4 l2
    rcases N with _ | ⟨n0, N⟩
    · rcases K with _ | ⟨k0, K⟩
      · refine ⟨_, fun nn => r_c (tc := .slice none 0 0) [] [] [] rfl rfl g1 (by exact fitL_cons fv rfl) trivial uv trivial, st mo ?_⟩
        refine ⟨_, fun nn => r_c (tc := .slice none 0 0) [] [] [] rfl rfl g2 (by exact fitL_cons fv rfl) trivial uv trivial, st mo ?_⟩
        refine ⟨_, fun nn => r_call (t := litT) rfl rfl Tryz.func16 (fun W M E => eqs_0 W), st mo ?_⟩
        refine ⟨_, fun nn => r_c (tc := .slice none 0 0) [] [] [] rfl rfl g3 (by exact fitL_cons fv rfl) trivial uv trivial, st mo ?_⟩
        refine ⟨_, fun nn => r_c (tc := .slice none 0 0) [] [] [] rfl rfl g4 (by exact fitL_cons fv rfl) trivial uv trivial, st mo ?_⟩
        refine ⟨_, fun nn => r_call (t := litT) rfl rfl Tryz.func19 (fun W M E => eqc_0 W), st mo ?_⟩
        refine ⟨_, fun nn => r_call (t := .int .i64 (nX d x)) rfl rfl Tryz.func22 (fun W M E => t_nodes d x W (hL.mono E)), st mo ?_⟩
        refine ⟨_, fun nn => r_call (t := .int .i64 (nX d x)) rfl rfl Tryz.func23 (fun W M E => q_nodes d x W (hL.mono E)), st mo ?_⟩
        exact ⟨fun _ => st mo ⟨dk, st mo rfl⟩, fun h => absurd rfl h⟩
      · refine ⟨_, fun nn => r_c (tc := .slice none 0 0) [] [] [] rfl rfl g1 (by exact fitL_cons fv rfl) trivial uv trivial, st mo ?_⟩
        refine ⟨_, fun nn => r_c (tc := .slice none 0 0) [] [] [] rfl rfl g2 (by exact fitL_cons fv rfl) trivial uv trivial, st mo ?_⟩
        refine ⟨_, fun nn => r_call (t := litT) rfl rfl Tryz.func16 (fun W M E => eqs_0 W), st mo ?_⟩
        refine ⟨_, fun nn => r_c (tc := .slice (some ⟨1, 0, none⟩) (K.length + 1) 2) [] [some ((cv (k0 :: K)).map rel1)] [1] rfl rfl g3 (by exact fitL_cons fv rfl) trivial us ⟨ulr rfl, trivial⟩, st mo ?_⟩
        refine ⟨_, fun nn => r_c (tc := .slice (some ⟨2, 0, none⟩) (K.length + 1) 2) [] [some ((cv (k0 :: K)).map rel1)] [2] rfl rfl g4 (by exact fitL_cons fv rfl) trivial us ⟨ulr rfl, trivial⟩, st mo ?_⟩
        refine ⟨_, fun nn => r_c (tc := litT) [1, 2] [some ((cv (k0 :: K)).map rel1), some ((cv (k0 :: K)).map rel1)] [1, 2] rfl rfl (eqc_1 w (k0 :: K) (by simp at l2 ⊢; omega)) (by exact fitL_cons fs (fitL_cons fs rfl)) ⟨trivial, flr rfl, trivial, flr rfl, trivial⟩ uv ⟨ulr rfl, ulr rfl, trivial⟩, st mo ?_⟩
        refine ⟨_, fun nn => r_call (t := .int .i64 (nX d x)) rfl rfl Tryz.func22 (fun W M E => t_nodes d x W (hL.mono E)), st mo ?_⟩
        refine ⟨_, fun nn => r_call (t := .int .i64 (nX d x)) rfl rfl Tryz.func23 (fun W M E => q_nodes d x W (hL.mono E)), st mo ?_⟩
        exact ⟨fun _ => st mo ⟨dk, st mo rfl⟩, fun h => absurd rfl h⟩
    · rcases K with _ | ⟨k0, K⟩
      · refine ⟨_, fun nn => r_c (tc := .slice (some ⟨1, 0, none⟩) (N.length + 1) 1) [] [some ((sv (n0 :: N)).map rel1)] [1] rfl rfl g1 (by exact fitL_cons fv rfl) trivial us ⟨ulr rfl, trivial⟩, st mo ?_⟩
        refine ⟨_, fun nn => r_c (tc := .slice (some ⟨2, 0, none⟩) (N.length + 1) 1) [] [some ((sv (n0 :: N)).map rel1)] [2] rfl rfl g2 (by exact fitL_cons fv rfl) trivial us ⟨ulr rfl, trivial⟩, st mo ?_⟩
        refine ⟨_, fun nn => r_c (tc := litT) [1, 2] [some ((sv (n0 :: N)).map rel1), some ((sv (n0 :: N)).map rel1)] [1, 2] rfl rfl (eqs_1 w (n0 :: N) (by simp at l1 ⊢; omega)) (by exact fitL_cons fs (fitL_cons fs rfl)) ⟨trivial, flr rfl, trivial, flr rfl, trivial⟩ uv ⟨ulr rfl, ulr rfl, trivial⟩, st mo ?_⟩
        refine ⟨_, fun nn => r_c (tc := .slice none 0 0) [] [] [] rfl rfl g3 (by exact fitL_cons fv rfl) trivial uv trivial, st mo ?_⟩
        refine ⟨_, fun nn => r_c (tc := .slice none 0 0) [] [] [] rfl rfl g4 (by exact fitL_cons fv rfl) trivial uv trivial, st mo ?_⟩
        refine ⟨_, fun nn => r_call (t := litT) rfl rfl Tryz.func19 (fun W M E => eqc_0 W), st mo ?_⟩
        refine ⟨_, fun nn => r_call (t := .int .i64 (nX d x)) rfl rfl Tryz.func22 (fun W M E => t_nodes d x W (hL.mono E)), st mo ?_⟩
        refine ⟨_, fun nn => r_call (t := .int .i64 (nX d x)) rfl rfl Tryz.func23 (fun W M E => q_nodes d x W (hL.mono E)), st mo ?_⟩
        exact ⟨fun _ => st mo ⟨dk, st mo rfl⟩, fun h => absurd rfl h⟩
      · refine ⟨_, fun nn => r_c (tc := .slice (some ⟨1, 0, none⟩) (N.length + 1) 1) [] [some ((sv (n0 :: N)).map rel1)] [1] rfl rfl g1 (by exact fitL_cons fv rfl) trivial us ⟨ulr rfl, trivial⟩, st mo ?_⟩
        refine ⟨_, fun nn => r_c (tc := .slice (some ⟨2, 0, none⟩) (N.length + 1) 1) [] [some ((sv (n0 :: N)).map rel1)] [2] rfl rfl g2 (by exact fitL_cons fv rfl) trivial us ⟨ulr rfl, trivial⟩, st mo ?_⟩
        refine ⟨_, fun nn => r_c (tc := litT) [1, 2] [some ((sv (n0 :: N)).map rel1), some ((sv (n0 :: N)).map rel1)] [1, 2] rfl rfl (eqs_1 w (n0 :: N) (by simp at l1 ⊢; omega)) (by exact fitL_cons fs (fitL_cons fs rfl)) ⟨trivial, flr rfl, trivial, flr rfl, trivial⟩ uv ⟨ulr rfl, ulr rfl, trivial⟩, st mo ?_⟩
        refine ⟨_, fun nn => r_c (tc := .slice (some ⟨3, 0, none⟩) (K.length + 1) 2) [] [some ((cv (k0 :: K)).map rel1)] [3] rfl rfl g3 (by exact fitL_cons fv rfl) trivial us ⟨ulr rfl, trivial⟩, st mo ?_⟩
        refine ⟨_, fun nn => r_c (tc := .slice (some ⟨4, 0, none⟩) (K.length + 1) 2) [] [some ((cv (k0 :: K)).map rel1)] [4] rfl rfl g4 (by exact fitL_cons fv rfl) trivial us ⟨ulr rfl, trivial⟩, st mo ?_⟩
        refine ⟨_, fun nn => r_c (tc := litT) [3, 4] [some ((cv (k0 :: K)).map rel1), some ((cv (k0 :: K)).map rel1)] [3, 4] rfl rfl (eqc_1 w (k0 :: K) (by simp at l2 ⊢; omega)) (by exact fitL_cons fs (fitL_cons fs rfl)) ⟨trivial, flr rfl, trivial, flr rfl, trivial⟩ uv ⟨ulr rfl, ulr rfl, trivial⟩, st mo ?_⟩
        refine ⟨_, fun nn => r_call (t := .int .i64 (nX d x)) rfl rfl Tryz.func22 (fun W M E => t_nodes d x W (hL.mono E)), st mo ?_⟩
        refine ⟨_, fun nn => r_call (t := .int .i64 (nX d x)) rfl rfl Tryz.func23 (fun W M E => q_nodes d x W (hL.mono E)), st mo ?_⟩
        exact ⟨fun _ => st mo ⟨dk, st mo rfl⟩, fun h => absurd rfl h⟩
end Go.Proofs.YtfmfeipeeedfpaaGreat
