/-
 For every text and every int exciselaw07.LexNext returns true, and its arguments read behind the call as they read before; where what is read is of bulk at most 1048576; the two tables of unicode/utf8 lie as the program's text lays them.
-/
import Derived.Test.YthgknegocfhdbaaDoorC12
import Derived.Test.YthgknegocfhdbaaDoorCards
import Derived.Test.YthgknegocfhdbaaDoorTie
import Derived.SevenTiedAt
namespace Go.Proofs.YthgknegocfhdbaaDoor
open Go.ChangeShapes Go.WideShapes Go.ChangeAt Go.RowKit Go.ChangeMaps
set_option maxHeartbeats 1000000 in
set_option maxRecDepth 100000 in
theorem lexNext_lifted (os : Os) (started : os.Started) (H : Type) (enc : TypeId × Value → H) (F : Stop.Interp) :
  ReturnsInHanded {} Tryd.checked os 4 .any (fun w args => ((Rows.OpenSpec.upto Rows.lexNextSpec).pre enc Tryd.prog Tryd.f4 [] false w args ∧ laidMetH Tryd.prog Rows.lexNextUptoRow.laid w) ∧ sizedMet enc Tryd.prog Tryd.f4 (Rows.OpenSpec.upto Rows.lexNextSpec) false w args)
   (((Rows.OpenSpec.upto Rows.lexNextSpec).at F).post enc Tryd.prog Tryd.f4 false true false false) := by
 refine rih_cond (C := Tryd.checked) (s := Rows.OpenSpec.upto Rows.lexNextSpec) (k := Rows.uptoSmall) rfl (X := fun w _ => laidMetH Tryd.prog Rows.lexNextUptoRow.laid w) (fun _ _ _ hh h => h.of_heap hh) Tryd.own started (by kernel_rfl) Tryd.func4
  (wit_cond (enc := enc) (C := Tryd.checked) (os := os) (s := Rows.OpenSpec.upto Rows.lexNextSpec) (k := Rows.uptoSmall) rfl (X := fun w _ => laidMetH Tryd.prog Rows.lexNextUptoRow.laid w) false (layW (World.holding Tryd.prog os ⟨#[], #[], []⟩)) #[.string ⟨#[]⟩, .int .i64 0] 8 rfl (by kernel_rfl) (by kernel_rfl) (by kernel_rfl)
   (x := ([.lit (.string []), .lit (.int .i64 0)], [], [])) (by kernel_rfl) rfl (by kernel_rfl) (by kernel_rfl) (laidWorld_met os _)) ?_
 intro W base args ds gs before hval0 hW hkk hL
 have hval : ∀ (j : Nat) t v, Tryd.f4.params[j]? = some t → args[j]? = some v → Value.okWide Tryd.prog W .any base t v := hval0
 have hW' := hW
 obtain ⟨p, q, hA0, hV, rfl, hfz, hnd⟩ := hW
 have hA : DataW.TrodAll enc Tryd.prog W 0 (fun _ => true) true Tryd.f4.params.toList args.toList ds p := hA0
 rw [Tryd.params4] at hA hval
 obtain ⟨v0, v1, d0, d1, p0, p1, rfl, rfl, rfl, h0, h1⟩ := trodAll_two hA
 obtain ⟨rfl, rfl⟩ := trodVars_none hV
 obtain ⟨s0, rfl, rfl, rfl, sb0⟩ := open_string Tryd.underlying9 (hval 0 9 v0 rfl rfl) h0
 have r0 : ∀ (W' : World) (sp : Nat → Bool), DataW.Trod enc Tryd.prog W' 0 sp true 9 (.string s0) (.lit (.string s0.data.toList)) [] := fun _ _ => shut_string Tryd.underlying9 sb0
 have z0 : s0.size ≤ 1048576 := by
  have h := bulk_str hkk
  rw [by8_len] at h
  exact h
 obtain ⟨x1, rfl, rfl, r1⟩ := open_i64 Tryd.underlying3 (hval 1 3 v1 rfl rfl) h1
 clear hA0 hval0
 simp only [List.append_nil] at hW'
 refine (V.lnext_n s0 x1 W (by omega)).mono fun e W' ⟨he, hg⟩ => ?_
 subst he
 exact ⟨_, rfl, post_mw (s := (Rows.OpenSpec.upto Rows.lexNextSpec).at F) hW' (fun _ _ _ => trodAll_mk1 (shut_bool Tryd.underlying4 _)) (fun sp => trodAll_mk2 (r0 _ sp) (r1 _ sp)) (fun _ => rfl) hg⟩
set_option maxRecDepth 100000 in
theorem lexNext_row : Rows.LexNextUptoSaid :=
 OpenClaim.holds_of_cond 4 Tryd.f4 rfl rfl rfl rfl rfl rfl rfl ⟨rfl, rfl, rfl, rfl, rfl⟩ rfl rfl rfl rfl rfl (by kernel_rfl) Tryd.func4 (by kernel_rfl)
  (of_decide_eq_true (by kernel_rfl)) (by unfold Func.isWrapper; rw [if_neg (of_decide_eq_false (by kernel_rfl))]; exact ⟨rfl, rfl⟩)
  (fun os started H enc _ F => lexNext_lifted os started H enc F)
set_option maxRecDepth 100000 in
theorem lexNext_holds : Rows.LexNextUptoCardSaid :=
 Claim7.holds_tied_plain_at .later [] [.data, .pinned] true (true, "7b55f4e80142719671550dcc48402ccabb014877c5aead897605f38fae564688") false
  lexNext_row (fun _ h => by cases h) (by kernel_rfl) (fun _ h => by cases h) lexNextUpto_row_tie rfl ⟨rfl, rfl⟩ (by kernel_rfl) rfl
  (fun f fn hf hfn => by
   obtain rfl : f = 4 := Option.some.inj ((show Tryd.prog.funcNamed "excise/exciselaw07.LexNext" = some 4 by kernel_rfl).symm.trans hf) |>.symm
   obtain rfl : fn = Tryd.f4 := (Option.some.inj (Tryd.func4.symm.trans hfn)).symm
   exact ⟨by kernel_rfl, fun j t ht => by
    rw [Tryd.params4] at ht
    have h3 : t = 9 ∨ t = 3 := by
     rcases j with _ | _ | j
     ·left; simpa using ht.symm
     ·right; simpa using ht.symm
     ·simp at ht
    rcases h3 with rfl | rfl
    ·exact (show Tryd.prog.wantsStandIn 9 = false by kernel_rfl)
    ·exact (show Tryd.prog.wantsStandIn 3 = false by kernel_rfl)⟩)
  (by kernel_rfl)
#print axioms lexNext_holds

end Go.Proofs.YthgknegocfhdbaaDoor
