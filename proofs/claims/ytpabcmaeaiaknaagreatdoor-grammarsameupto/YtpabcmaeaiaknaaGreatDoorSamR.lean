/-
  For every two definitions and every two expressions, where what is read is of bulk at most 1048576, exciselaw08.GrammarSame returns true, and its arguments read behind the call as they read before; the listed tables lie as the program's text lays them.
-/
import Derived.Test.YtpabcmaeaiaknaaGreatDoorYf
import Derived.Test.YtpabcmaeaiaknaaGreatDoorYg
import Derived.Test.YtpabcmaeaiaknaaGreatDoorCards
import Derived.Test.YtpabcmaeaiaknaaGreatDoorTie
import Derived.SevenTiedAt
namespace Go.Proofs.YtpabcmaeaiaknaaGreatDoor
open Go.ChangeShapes Go.WideShapes Go.ChangeAt Go.RowKit Go.ChangeMaps
set_option maxRecDepth 100000 in
theorem laidWorld_same (os : Os) (args : Array Value) : laidMetH Tryz.prog Rows.grammarSameUptoRow.laid ((layW (World.holding Tryz.prog os ⟨#[], #[], []⟩)).forCall (fun _ _ => 0) ⟨#[], args, []⟩).memory := by
  show laidMet Tryz.prog [("unicode/utf8.acceptRanges", Rows.laid_unicode_utf8_acceptRanges), ("excise/grammar.operators", Rows.laid_excise_grammar_operators), ("excise/grammar.policies", Rows.laid_excise_grammar_policies), ("unicode/utf8.first", Rows.laid_unicode_utf8_first)] _
  exact (LaidIn.of_run (0 :: 1 :: 3 :: 6 :: 7 :: 8 :: 9 :: (World.holding Tryz.prog default ⟨#[], #[], []⟩).heap.size :: ((World.holding Tryz.prog default ⟨#[], #[], []⟩).heap.size + 1) :: []) 8 (by kernel_rfl) (by kernel_rfl) (by kernel_rfl) (by kernel_rfl)).met
set_option maxHeartbeats 1000000 in
set_option maxRecDepth 100000 in
theorem grammarSame_lifted (os : Os) (started : os.Started) (H : Type) (enc : TypeId × Value → H) (F : Stop.Interp) :
    ReturnsInHanded {} Tryz.checked os 5 .any (fun w args => ((Rows.OpenSpec.upto Rows.grammarSameSpec).pre enc Tryz.prog Tryz.f5 [] false w args ∧ laidMetH Tryz.prog Rows.grammarSameUptoRow.laid w) ∧ sizedMet enc Tryz.prog Tryz.f5 (Rows.OpenSpec.upto Rows.grammarSameSpec) false w args)
      (((Rows.OpenSpec.upto Rows.grammarSameSpec).at F).post enc Tryz.prog Tryz.f5 false true false false) := by
  refine rih_cond (C := Tryz.checked) (s := Rows.OpenSpec.upto Rows.grammarSameSpec) (k := Rows.uptoSmall) rfl (X := fun w _ => laidMetH Tryz.prog Rows.grammarSameUptoRow.laid w) (fun _ _ _ hh h => h.of_heap hh) Tryz.own started (by kernel_rfl) Tryz.func5
    (wit_cond (enc := enc) (C := Tryz.checked) (os := os) (s := Rows.OpenSpec.upto Rows.grammarSameSpec) (k := Rows.uptoSmall) rfl (X := fun w _ => laidMetH Tryz.prog Rows.grammarSameUptoRow.laid w) false (layW (World.holding Tryz.prog os ⟨#[], #[], []⟩)) #[.agg #[.string ⟨#[]⟩, .string ⟨#[]⟩, .int .i64 0, .slice none 0 0, .slice none 0 0, .slice none 0 0, .slice none 0 0], .agg #[.string ⟨#[]⟩, .string ⟨#[]⟩, .int .i64 0, .slice none 0 0, .slice none 0 0, .slice none 0 0, .slice none 0 0], .agg #[.int .i64 0, .int .i64 0, .string ⟨#[]⟩, .string ⟨#[]⟩, .int .i64 0, .bool false, .int .u64 0, .int .u64 0, .int .u64 0, .int .u64 0, .int .i64 0, .bool false, .string ⟨#[]⟩, .int .i64 0, .int .i64 0, .int .i64 0, .slice none 0 0], .agg #[.int .i64 0, .int .i64 0, .string ⟨#[]⟩, .string ⟨#[]⟩, .int .i64 0, .bool false, .int .u64 0, .int .u64 0, .int .u64 0, .int .u64 0, .int .i64 0, .bool false, .string ⟨#[]⟩, .int .i64 0, .int .i64 0, .int .i64 0, .slice none 0 0]] 12 rfl (by kernel_rfl) (by kernel_rfl) (by kernel_rfl)
      (x := ([.agg [.lit (.string []), .agg [.lit (.string []), .lit (.int .i64 0), .nil, .nil], .nil, .nil], .agg [.lit (.string []), .agg [.lit (.string []), .lit (.int .i64 0), .nil, .nil], .nil, .nil], .agg [.lit (.int .i64 0), .lit (.int .i64 0), .lit (.string []), .lit (.string []), .agg [.lit (.int .i64 0), .agg [.lit (.bool false), .agg [.lit (.int .u64 0), .lit (.int .u64 0), .lit (.int .u64 0), .lit (.int .u64 0)], .lit (.int .i64 0)], .lit (.bool false), .lit (.string []), .lit (.int .i64 0)], .lit (.int .i64 0), .lit (.int .i64 0), .nil], .agg [.lit (.int .i64 0), .lit (.int .i64 0), .lit (.string []), .lit (.string []), .agg [.lit (.int .i64 0), .agg [.lit (.bool false), .agg [.lit (.int .u64 0), .lit (.int .u64 0), .lit (.int .u64 0), .lit (.int .u64 0)], .lit (.int .i64 0)], .lit (.bool false), .lit (.string []), .lit (.int .i64 0)], .lit (.int .i64 0), .lit (.int .i64 0), .nil]], [], [])) (by kernel_rfl) rfl (by kernel_rfl) (by kernel_rfl) (laidWorld_same os _)) ?_
  intro W base args ds gs before hval hW hkk hL
  exact same_owes F W base args ds gs before hval hW hkk hL
set_option maxRecDepth 100000 in
theorem grammarSame_row : Rows.GrammarSameUptoSaid :=
  OpenClaim.holds_of_cond 5 Tryz.f5 rfl rfl rfl rfl rfl rfl rfl ⟨rfl, rfl, rfl, rfl, rfl⟩ rfl rfl rfl rfl rfl (by kernel_rfl) Tryz.func5 (by kernel_rfl)
    (of_decide_eq_true (by kernel_rfl)) (by unfold Func.isWrapper; rw [if_neg (of_decide_eq_false (by kernel_rfl))]; exact ⟨rfl, rfl⟩)
    (fun os started H enc _ F => grammarSame_lifted os started H enc F)
set_option maxRecDepth 100000 in
theorem grammarSame_holds : Rows.GrammarSameUptoCardSaid :=
  Claim7.holds_tied_plain_at .later [] [.data, .data, .data, .pinned] true (true, "d47767161f3d1e7d65e3da2718d7db94a0f457f75bd02237f9ae23fb5ee60a82") false
    grammarSame_row (fun _ h => by cases h) (by kernel_rfl) (fun _ h => by cases h) grammarSameUpto_row_tie rfl ⟨rfl, rfl⟩ (by kernel_rfl) rfl
    (fun f fn hf hfn => by
      obtain rfl : f = 5 := Option.some.inj ((show Tryz.prog.funcNamed "excise/exciselaw08.GrammarSame" = some 5 by kernel_rfl).symm.trans hf) |>.symm
      obtain rfl : fn = Tryz.f5 := (Option.some.inj (Tryz.func5.symm.trans hfn)).symm
      exact ⟨by kernel_rfl, fun j t ht => by
        rw [Tryz.params5] at ht
        have h3 : t = 45 ∨ t = 31 := by
          rcases j with _ | (_ | (_ | (_ | j)))
          · have e : t = 45 := (by simpa using ht.symm); subst e; simp
          · have e : t = 45 := (by simpa using ht.symm); subst e; simp
          · have e : t = 31 := (by simpa using ht.symm); subst e; simp
          · have e : t = 31 := (by simpa using ht.symm); subst e; simp
          · simp at ht
        rcases h3 with rfl | rfl
        · exact (show Tryz.prog.wantsStandIn 45 = false by kernel_rfl)
        · exact (show Tryz.prog.wantsStandIn 31 = false by kernel_rfl)⟩)
    (by kernel_rfl)
#print axioms grammarSame_holds
end Go.Proofs.YtpabcmaeaiaknaaGreatDoor
