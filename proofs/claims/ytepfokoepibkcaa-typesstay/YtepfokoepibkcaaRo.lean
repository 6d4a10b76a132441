/-
  Values and types that came in.
-/
import Derived.Test.YtepfokoepibkcaaDat
import Derived.Test.YtepfokoepibkcaaB1
import Derived.ReadAgain
import Derived.WideKeyArgs
namespace Go.Proofs.Ytepfokoepibkcaa
open Go.ChangeShapes Go.WideShapes Go.ChangeAt Go.RowKit
namespace D
theorem laidOut : laidOutB Try.prog = true := by kernel_rfl
/-- What came in reads as it did, where its places are the same. -/
theorem trodAll_stays {H : Type} {enc : TypeId × Value → H} {W W' : World} {sp' : Nat → Bool} : ∀ {ts : List TypeId} {vs : List Value} {ds : List (DataW H)} {ps : List MemPlace}, (∀ t ∈ ts, Try.prog.readableRec t = true ∧ t < Try.prog.types.size) → DataW.TrodAll enc Try.prog W 0 (fun _ => true) true ts vs ds ps → (∀ p ∈ ps, W.sameAt W' p) → (∀ p ∈ ps, sp' p.block = true) → DataW.TrodAll enc Try.prog W' 0 sp' true ts vs ds ps
  | [], [], [], _, _, h, _, _ => h
  | _ :: _, _ :: _, _ :: _, _, hT, ⟨p, q, h1, h2, e⟩, hm, hs => ⟨p, q, WideElems.Trod_stays laidOut (hT _ (List.mem_cons.2 (Or.inl rfl))).1 (hT _ (List.mem_cons.2 (Or.inl rfl))).2 h1 (fun x hx => hm x (by rw [e]; exact List.mem_append_left _ hx)) (fun x hx => hs x (by rw [e]; exact List.mem_append_left _ hx)),
      trodAll_stays (fun t ht => hT t (List.mem_cons.2 (Or.inr ht))) h2 (fun x hx => hm x (by rw [e]; exact List.mem_append_right _ hx)) (fun x hx => hs x (by rw [e]; exact List.mem_append_right _ hx)), e⟩
section
variable {H : Type} {enc : TypeId × Value → H} {W : World} {base : Nat} {v : Value} {d : DataW H} {p : List MemPlace}
set_option maxRecDepth 100000 in
theorem open_val (hv : Value.okWide Try.prog W .any base 28 v) (h : DataW.Trod enc Try.prog W 0 (fun _ => true) true 28 v d p) : ∃ x : Vl, v = .agg x.cells.toArray := by
  obtain ⟨a, rfl, _⟩ := okWide_struct Try.underlying28 hv
  obtain ⟨fuel, hf⟩ := h
  obtain ⟨x, e⟩ := cut_val hf
  exact ⟨x, by have e2 : a = x.cells.toArray := (by rw [← e]; simp [Value.cells]); rw [e2]⟩
set_option maxRecDepth 100000 in
theorem open_type (hv : Value.okWide Try.prog W .any base 30 v) (h : DataW.Trod enc Try.prog W 0 (fun _ => true) true 30 v d p) : ∃ k s : Int, v = .agg #[.int .i64 k, .int .i64 s] := by
  obtain ⟨a, rfl, _⟩ := okWide_struct Try.underlying30 hv
  obtain ⟨fuel, hf⟩ := h
  obtain ⟨k, s, e⟩ := cut_type hf
  exact ⟨k, s, by have e2 : a = #[.int .i64 k, .int .i64 s] := (by have := congrArg List.toArray e; simpa [Value.cells] using this); rw [e2]⟩
end
end D
end Go.Proofs.Ytepfokoepibkcaa
