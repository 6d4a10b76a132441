/-
  A tree in a law that collects ids; cuts within a fence; what there and back leaves.
-/
import Derived.Test.YtbmbldloeblbbaaNn
import Derived.Test.YtbmbldloeblbbaaScr
namespace Go.Proofs.Ytbmbldloeblbbaa
open Go.RowKit
/-- The block of a slice, as a list. -/
def oks (v : Value) : List Nat := match v.ownBlock with
  | some g => [g]
  | none => []
theorem mem_oks {v : Value} {k : Nat} : k ∈ oks v ↔ v.ownBlock = some k := by
  unfold oks
  cases v.ownBlock with
  | none => simp
  | some g => simp; exact eq_comm
section
variable {n0 : Nat} {ks : List Nat} {w w' : World} {t mb : Nat} {tr : T} {lk : Int}
theorem GT.kept {E : Nat → Prop} (h : GT n0 ks w t mb tr lk) (m : Mk E w w') (hE : ∀ j, E j → j ∈ ks) : GT n0 ks w' t mb tr lk := by
  obtain ⟨h1, h2, D, h3, h4⟩ := h
  obtain ⟨R, root, hS, hC, hR, hn⟩ := h3.ts
  exact ⟨Nat.le_trans h1 m.size, fun j e => Nat.lt_of_lt_of_le (h2 j e) m.size, D, ⟨⟨R, root, hS.kept m (fun j e q => (h4 j (Or.inl e)).2 (hE j q)), hC, hR, hn⟩, h3.om.mk m (fun q => (h4 mb (Or.inr rfl)).2 (hE mb q)), h3.ok, h3.nd, h3.rg, h3.le, h3.l0⟩, h4⟩
theorem GT.mbl (h : GT n0 ks w t mb tr lk) : mb < w.heap.size := by
  obtain ⟨_, _, D, h3, _⟩ := h
  exact h3.om.lt
theorem GT.grown {B : Nat} {row : Option Nat} (h : GT n0 ks w t mb tr lk) (hg : w.grownBy w' row) (hf : ∀ a, w'.frozen? a = w.frozen? a) (hr : ∀ r, row = some r → B ≤ r ∧ ∃ o : Obj, w.heap[r]? = some o ∧ o.isCells = false) (hB : mb < B) : GT n0 ks w' t mb tr lk := by
  obtain ⟨h1, h2, D, h3, h4⟩ := h
  obtain ⟨R, root, hS, hC, hR, hn⟩ := h3.ts
  have m : Mk (fun j => row = some j) w w' := ⟨hg.os, hg.tape, hg.output, hg.size, fun k hk hn => hg.block k hk (fun e => hn e.symm), hf⟩
  exact ⟨Nat.le_trans h1 m.size, fun j e => Nat.lt_of_lt_of_le (h2 j e) m.size, D, ⟨⟨R, root, hS.grown hg (fun r e => (hr r e).2), hC, hR, hn⟩, h3.om.mk m (fun q => by have := (hr mb q).1; omega), h3.ok, h3.nd, h3.rg, h3.le, h3.l0⟩, h4⟩
theorem AppW.mkk {v : Value} (a : AppW v w w') : Mk (fun j => v.ownBlock = some j) w w' := ⟨a.os, a.tape, a.output, a.size, fun k hk hn => a.block k hk hn, a.fz⟩
theorem GT.app {v v' : Value} (h : GT n0 (oks v ++ ks) w t mb tr lk) (a : AppW v w w') (hob : v'.ownBlock = v.ownBlock ∨ v'.ownBlock = some w.heap.size) (hl : ∀ g, v'.ownBlock = some g → g < w'.heap.size) : GT n0 (oks v' ++ ks) w' t mb tr lk := by
  obtain ⟨h1, h2, D, h3, h4⟩ := h
  obtain ⟨R, root, hS, hC, hR, hn⟩ := h3.ts
  have m := a.mkk
  have hE : ∀ j, v.ownBlock = some j → j ∈ oks v ++ ks := fun j e => List.mem_append.2 (Or.inl (mem_oks.2 e))
  have hjl : ∀ j, D j ∨ j = mb → j < w.heap.size := fun j e => by
    rcases e with e | rfl
    · exact hS.lt e
    · exact h3.om.lt
  refine ⟨Nat.le_trans h1 m.size, fun j e => ?_, D, ⟨⟨R, root, hS.kept m (fun j e q => (h4 j (Or.inl e)).2 (hE j q)), hC, hR, hn⟩, h3.om.mk m (fun q => (h4 mb (Or.inr rfl)).2 (hE mb q)), h3.ok, h3.nd, h3.rg, h3.le, h3.l0⟩, fun j e => ⟨(h4 j e).1, fun q => ?_⟩⟩
  · rcases List.mem_append.1 e with e | e
    · exact hl j (mem_oks.1 e)
    · exact Nat.lt_of_lt_of_le (h2 j (List.mem_append.2 (Or.inr e))) m.size
  · rcases List.mem_append.1 q with q | q
    · rcases hob with hob | hob
      · exact (h4 j e).2 (hE j (hob ▸ mem_oks.1 q))
      · have h9 := mem_oks.1 q
        rw [hob] at h9; cases h9
        have := hjl _ e
        omega
    · exact (h4 j e).2 (List.mem_append.2 (Or.inr q))
/-- A mark's block is none of the tree's. -/
theorem GT.pushD {Dd : Nat} (h : GT n0 ks w t mb tr lk) (hK : w.heap[Dd]? = some (.deferred (some []))) : GT n0 (Dd :: ks) w t mb tr lk := by
  obtain ⟨h1, h2, D, h3, h4⟩ := h
  obtain ⟨R, root, hS, hC, hR, hn⟩ := h3.ts
  have hne : ∀ j, D j ∨ j = mb → j ≠ Dd := fun j e q => by
    subst q
    rcases e with e | rfl
    · rcases (hS.dm j).1 e with rfl | e
      · exact Go.Proofs.Ytbmbldloeblbbaa.R.dk_ne hK rfl hS.tr rfl
      · cases hq : R j with
        | none => exact e hq
        | some r => have hA := hS.rc j r hq; unfold Rc.cells at hA; exact Go.Proofs.Ytbmbldloeblbbaa.R.dk_ne hK rfl hA rfl
    · obtain ⟨D0, ⟨es, clock, hb, _⟩, _⟩ := h3.om
      rw [hb] at hK; cases hK
  refine ⟨h1, fun j e => ?_, D, h3, fun j e => ⟨(h4 j e).1, fun q => ?_⟩⟩
  · rcases List.mem_cons.1 e with rfl | e
    · exact (Array.getElem?_eq_some_iff.1 hK).1
    · exact h2 j e
  · rcases List.mem_cons.1 q with q | q
    · exact hne j e q
    · exact (h4 j e).2 q
end
theorem SI.mk {w w' : World} {E : Nat → Prop} {p : Option Addr} {L : List Int} (h : SI w p L) (m : Mk E w w') (hE : ∀ j, pb p j → ¬ E j) : SI w' p L := fun i x e => by
  obtain ⟨b, off, h1, h2, h3⟩ := h i x e
  exact ⟨b, off, h1, Nat.lt_of_lt_of_le h2 m.size, (World.cell?_of_block (m.block b h2 (hE b ⟨off, h1⟩))).trans h3⟩
theorem idx_mid {A B : List Int} {x : Int} {p : Nat} (hn : (A ++ x :: B).Nodup) (h : (A ++ x :: B)[p]? = some x) : p = A.length := by
  have h2 : (A ++ x :: B)[A.length]? = some x := by simp
  obtain ⟨p1, q1⟩ := List.getElem?_eq_some_iff.1 h
  obtain ⟨p2, q2⟩ := List.getElem?_eq_some_iff.1 h2
  exact (List.getElem_inj hn).1 (q1.trans q2.symm)
theorem app_cut {A B A' B' : List Int} (h : A ++ B = A' ++ B') (hl : A.length = A'.length) : A = A' ∧ B = B' := List.append_inj h hl
/-- Put in and taken out. -/
theorem ins_del {tr tr1 tr2 : T} {a x p : Int} {kn : Nat} (hI : Ins tr a x kn tr1) (hn : tr1.ids.Nodup) (hp : 0 ≤ p) (hx : tr1.ids[p.toNat]? = some x) (hD : Del tr1 x p tr2) : p = a ∧ tr2.ids = tr.ids := by
  obtain ⟨A, B, h1, h2, h3⟩ := hI.ids
  obtain ⟨C, E, h4, h5, h6⟩ := hD.ids
  rw [h3] at hx hn
  have e1 := idx_mid hn hx
  have hC : C.length = A.length := by omega
  rw [h3] at h4
  obtain ⟨rfl, h8⟩ := app_cut h4.symm hC
  cases h8
  exact ⟨by omega, by rw [h6, h1]⟩
/-- Moved there and back. -/
theorem mov_mov {tr tr1 tr2 tr3 tr4 : T} {x a p q : Int} {k1 k2 : Nat} (hD : Del tr x p tr1) (hI : Ins tr1 a x k1 tr2) (hn2 : tr2.ids.Nodup) (hq0 : 0 ≤ q) (hx2 : tr2.ids[q.toNat]? = some x) (hD2 : Del tr2 x q tr3) (hI2 : Ins tr3 p x k2 tr4) : q = a ∧ tr4.ids = tr.ids := by
  obtain ⟨X, Y, h1, h2, h3⟩ := hD.ids
  obtain ⟨e1, e2⟩ := ins_del hI hn2 hq0 hx2 hD2
  obtain ⟨A, B, h4, h5, h6⟩ := hI2.ids
  refine ⟨e1, ?_⟩
  rw [e2, h3] at h4
  obtain ⟨rfl, rfl⟩ := app_cut h4.symm (by omega)
  rw [h6, h1]
theorem del_len {tr tr1 tr2 : T} {x a p : Int} {k : Nat} (hD : Del tr x p tr1) (hI : Ins tr1 a x k tr2) : tr2.sz = tr.sz ∧ p < tr.sz ∧ x ∈ tr2.ids := by
  obtain ⟨X, Y, h1, h2, h3⟩ := hD.ids
  obtain ⟨A, B, h4, h5, h6⟩ := hI.ids
  have a1 := tr.sz_ids
  have a2 := tr2.sz_ids
  rw [h1, List.length_append, List.length_cons] at a1
  have h7 := congrArg List.length h4
  rw [h3, List.length_append, List.length_append] at h7
  rw [h6, List.length_append, List.length_cons] at a2
  exact ⟨by omega, by omega, by rw [h6]; simp⟩
theorem ins_mem {tr tr1 : T} {a x : Int} {k : Nat} (hI : Ins tr a x k tr1) : x ∈ tr1.ids := by
  obtain ⟨A, B, _, _, h3⟩ := hI.ids
  rw [h3]; simp
namespace R
section
variable {ro : Option Nat} {m : Nat} {ds : List Deferred} {P : Program} {n : Nat} {l : List (Nat × Value)} {w : World} {Q : Exit → Act → World → Prop}
theorem w_cut {x y : Code} (I : List (Nat × Value) → World → Prop) (h2 : ∀ l w, I l w → RC ro m ds P y Q n l w) (h : RC ro m ds P x (Exit.then (fun a w' => ∃ l', a = wd (fr n l') ds ∧ I l' w') Q) n l w) : RC ro m ds P (Code.seq x y) Q n l w :=
  w_seq ⟨Go.wpIn_mono h.out fun e a w' hq => by
    cases e with
    | normal => obtain ⟨l', rfl, hI⟩ := hq; exact (h2 l' w' hI).out
    | _ => exact hq⟩
theorem xn_cut {I : List (Nat × Value) → World → Prop} (h : I l w) : WX (Wd ds (Exit.then (fun a w' => ∃ l', a = wd (fr n l') ds ∧ I l' w') Q)) .normal n l w := ⟨⟨l, rfl, h⟩⟩
end
end R
end Go.Proofs.Ytbmbldloeblbbaa
