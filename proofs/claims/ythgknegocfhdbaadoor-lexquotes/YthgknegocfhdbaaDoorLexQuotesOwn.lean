/-
 For every text exciselaw07.LexQuotes returns true, and its argument reads behind the call as it read before; where what is read is of bulk at most 1048576; the two tables of unicode/utf8 lie as the program's text lays them.
-/
import Derived.Test.YthgknegocfhdbaaDoorC5
import Derived.Test.YthgknegocfhdbaaDoorC6
import Derived.Test.YthgknegocfhdbaaDoorCards
import Derived.Test.YthgknegocfhdbaaDoorTie
import Derived.SevenTiedAt
namespace Go.Proofs.YthgknegocfhdbaaDoor
open Go.ChangeShapes Go.WideShapes Go.ChangeAt Go.RowKit Go.ChangeMaps
set_option maxHeartbeats 1000000 in
set_option maxRecDepth 100000 in
theorem lexQuotes_lifted (os : Os) (started : os.Started) (H : Type) (enc : TypeId × Value → H) (F : Stop.Interp) :
  ReturnsInHanded {} Tryd.checked os 5 .any (fun w args => ((Rows.OpenSpec.upto Rows.lexQuotesSpec).pre enc Tryd.prog Tryd.f5 [] false w args ∧ laidMetH Tryd.prog Rows.lexQuotesUptoRow.laid w) ∧ sizedMet enc Tryd.prog Tryd.f5 (Rows.OpenSpec.upto Rows.lexQuotesSpec) false w args)
   (((Rows.OpenSpec.upto Rows.lexQuotesSpec).at F).post enc Tryd.prog Tryd.f5 false true false false) := by
 refine rih_cond (C := Tryd.checked) (s := Rows.OpenSpec.upto Rows.lexQuotesSpec) (k := Rows.uptoSmall) rfl (X := fun w _ => laidMetH Tryd.prog Rows.lexQuotesUptoRow.laid w) (fun _ _ _ hh h => h.of_heap hh) Tryd.own started (by kernel_rfl) Tryd.func5
  (wit_cond (enc := enc) (C := Tryd.checked) (os := os) (s := Rows.OpenSpec.upto Rows.lexQuotesSpec) (k := Rows.uptoSmall) rfl (X := fun w _ => laidMetH Tryd.prog Rows.lexQuotesUptoRow.laid w) false (layW (World.holding Tryd.prog os ⟨#[], #[], []⟩)) #[.string ⟨#[]⟩] 8 rfl (by kernel_rfl) (by kernel_rfl) (by kernel_rfl)
   (x := ([.lit (.string [])], [], [])) (by kernel_rfl) rfl (by kernel_rfl) (by kernel_rfl) (laidWorld_met os _)) ?_
 intro W base args ds gs before hval0 hW hkk hL
 have hval : ∀ (j : Nat) t v, Tryd.f5.params[j]? = some t → args[j]? = some v → Value.okWide Tryd.prog W .any base t v := hval0
 have hW' := hW
 obtain ⟨p, q, hA0, hV, rfl, hfz, hnd⟩ := hW
 have hA : DataW.TrodAll enc Tryd.prog W 0 (fun _ => true) true Tryd.f5.params.toList args.toList ds p := hA0
 rw [Tryd.params5] at hA hval
 obtain ⟨v0, d0, rfl, rfl, h0⟩ := trodAll_one hA
 obtain ⟨rfl, rfl⟩ := trodVars_none hV
 obtain ⟨s0, rfl, rfl, rfl, sb0⟩ := open_string Tryd.underlying9 (hval 0 9 v0 rfl rfl) h0
 have r0 : ∀ (W' : World) (sp : Nat → Bool), DataW.Trod enc Tryd.prog W' 0 sp true 9 (.string s0) (.lit (.string s0.data.toList)) [] := fun _ _ => shut_string Tryd.underlying9 sb0
 have z0 : s0.size ≤ 1048576 := by
  have h := bulk_str hkk
  rw [by8_len] at h
  exact h
 clear hA0 hval0
 simp only [List.append_nil] at hW'
 refine (V.quotes_n s0 W (by omega)).mono fun e W' ⟨he, hg⟩ => ?_
 subst he
 exact ⟨_, rfl, post_mw (s := (Rows.OpenSpec.upto Rows.lexQuotesSpec).at F) hW' (fun _ _ _ => trodAll_mk1 (shut_bool Tryd.underlying4 _)) (fun sp => trodAll_mk1 (r0 _ sp)) (fun _ => rfl) hg⟩
set_option maxRecDepth 100000 in
theorem lexQuotes_row : Rows.LexQuotesUptoSaid :=
 OpenClaim.holds_of_cond 5 Tryd.f5 rfl rfl rfl rfl rfl rfl rfl ⟨rfl, rfl, rfl, rfl, rfl⟩ rfl rfl rfl rfl rfl (by kernel_rfl) Tryd.func5 (by kernel_rfl)
  (of_decide_eq_true (by kernel_rfl)) (by unfold Func.isWrapper; rw [if_neg (of_decide_eq_false (by kernel_rfl))]; exact ⟨rfl, rfl⟩)
  (fun os started H enc _ F => lexQuotes_lifted os started H enc F)
set_option maxRecDepth 100000 in
theorem lexQuotes_holds : Rows.LexQuotesUptoCardSaid :=
 Claim7.holds_tied_plain_at .later [] [.data, .pinned] true (true, "7b55f4e80142719671550dcc48402ccabb014877c5aead897605f38fae564688") false
  lexQuotes_row (fun _ h => by cases h) (by kernel_rfl) (fun _ h => by cases h) lexQuotesUpto_row_tie rfl ⟨rfl, rfl⟩ (by kernel_rfl) rfl
  (fun f fn hf hfn => by
   obtain rfl : f = 5 := Option.some.inj ((show Tryd.prog.funcNamed "excise/exciselaw07.LexQuotes" = some 5 by kernel_rfl).symm.trans hf) |>.symm
   obtain rfl : fn = Tryd.f5 := (Option.some.inj (Tryd.func5.symm.trans hfn)).symm
   exact ⟨by kernel_rfl, fun j t ht => by
    rw [Tryd.params5] at ht
    have h3 : t = 9 := by
     rcases j with _ | j
     ·simpa using ht.symm
     ·simp at ht
    subst h3
    exact (show Tryd.prog.wantsStandIn 9 = false by kernel_rfl)⟩)
  (by kernel_rfl)
#print axioms lexQuotes_holds

end Go.Proofs.YthgknegocfhdbaaDoor
