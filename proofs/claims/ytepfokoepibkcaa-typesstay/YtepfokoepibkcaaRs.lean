/-
  The list under way, and both functions that go on with it.
-/
import Derived.Test.YtepfokoepibkcaaRm
namespace Go.Proofs.Ytepfokoepibkcaa
open Go.RowKit D
theorem at_ne {w : World} {k b : Nat} {v : Value} {vs : List Value} {o : List Rd} (h : At w k (v :: vs)) (hO : OR w b o) : k ≠ b := fun e => by
  have h1 := h.1 0 v rfl
  rw [e, hO.nocell] at h1
  cases h1
theorem own_ne {w : World} {N e sz k b : Nat} {v : Value} {n : Nat} {xs : List Value} {o : List Rd} (h : w.ownsRow N e sz v n xs) (hk : v.ownBlock = some k) (hO : OR w b o) : k ≠ b := fun q => by
  subst q
  obtain ⟨es, c, hb, _⟩ := hO
  rcases h.2 with ⟨rfl, rfl⟩ | ⟨g, cap, cur, rfl, hg, hb2, _⟩
  · cases hk
  · cases hk; rw [hb] at hb2; cases hb2
/-- The list under way: a map's block, the list's own slice in a cell; S: what may be written. -/
structure ST (S : Nat → Prop) (w : World) (N kM kO mb : Nat) (o : List Rd) : Prop where
  aM : At w kM [.map (some mb)]
  nM : ¬ S kM
  om : OR w mb o
  sm : S mb
  so : S kO
  ow : ∃ v, At w kO [v] ∧ w.ownsRow N 42 2 v o.length (o.flatMap rdc) ∧ ∀ k, v.ownBlock = some k → S k ∧ k ≠ kO
  nN : ∀ k, S k → N ≤ k
  lt : ∀ k, S k → k < w.heap.size
theorem ST.mo {S : Nat → Prop} {w w' : World} {N kM kO mb : Nat} {o : List Rd} (h : ST S w N kM kO mb o) (m : Mo w w') : ST S w' N kM kO mb o := by
  obtain ⟨v, h1, h2, h3⟩ := h.ow
  exact ⟨h.aM.mo m, h.nM, h.om.mo m, h.sm, h.so, ⟨v, h1.mo m, own_mo h2 m, h3⟩, h.nN, fun k s => Nat.lt_of_lt_of_le (h.lt k s) m.size⟩
theorem kp_mk {w0 w w' : World} {S : Nat → Prop} (h : Kp w0 w) (m : Mk S w w') (hS : ∀ k, S k → w0.heap.size ≤ k) : Kp w0 w' :=
  ⟨Nat.le_trans h.size m.size, fun k o v e => by
    have h1 := h.cell k o v e
    have hk := cell_lt e
    exact (World.cell?_of_block (a := ⟨k, o, none⟩) (m.block k (cell_lt h1) (fun s => by have := hS k s; omega))).trans h1⟩
/-- The same with both functions, over a world that came in. -/
structure VS (w0 : World) (S : Nat → Prop) (w : World) (kM kO kA kV mb : Nat) (o : List Rd) : Prop where
  st : ST S w w0.heap.size kM kO mb o
  aA : At w kA [.func (.func 33) #[] #[pt kM 0, pt kO 0]]
  nA : ¬ S kA
  aV : At w kV [.func (.func 34) #[] #[pt kA 0, pt kV 0]]
  nV : ¬ S kV
  kp : Kp w0 w
theorem VS.mo {w0 w w' : World} {S : Nat → Prop} {kM kO kA kV mb : Nat} {o : List Rd} (h : VS w0 S w kM kO kA kV mb o) (m : Mo w w') : VS w0 S w' kM kO kA kV mb o :=
  ⟨h.st.mo m, h.aA.mo m, h.nA, h.aV.mo m, h.nV, h.kp.trans m.kp⟩
/-- What a call leaves. -/
def VR (w0 : World) (S : Nat → Prop) (w : World) (kM kO kA kV mb : Nat) (w' : World) (o : List Rd) : Prop :=
  ∃ S', VS w0 S' w' kM kO kA kV mb o ∧ Mk S w w' ∧ ∀ k, k < w.heap.size → S' k → S k
theorem VR.of {w0 w w' : World} {S : Nat → Prop} {kM kO kA kV mb : Nat} {o : List Rd} (h : VS w0 S w kM kO kA kV mb o) (m : Mo w w') : VR w0 S w kM kO kA kV mb w' o := ⟨S, h.mo m, Mk.of S m, fun _ _ s => s⟩
theorem VR.mo {w0 w w' w2 : World} {S : Nat → Prop} {kM kO kA kV mb : Nat} {o : List Rd} (h : VR w0 S w kM kO kA kV mb w' o) (m : Mo w' w2) : VR w0 S w kM kO kA kV mb w2 o := by
  obtain ⟨S', h1, h2, h3⟩ := h
  exact ⟨S', h1.mo m, h2.trans m, h3⟩
theorem VR.tr {w0 w w1 w2 : World} {S S1 : Nat → Prop} {kM kO kA kV mb : Nat} {o : List Rd} (m : Mk S w w1) (hs : ∀ k, k < w.heap.size → S1 k → S k) (h : VR w0 S1 w1 kM kO kA kV mb w2 o) : VR w0 S w kM kO kA kV mb w2 o := by
  obtain ⟨S2, h1, h2, h3⟩ := h
  exact ⟨S2, h1, m.tr h2 (fun j hj e => hs j hj e), fun k hk s => hs k hk (h3 k (Nat.lt_of_lt_of_le hk m.size) s)⟩
theorem VS.call {w0 w w' : World} {S S' : Nat → Prop} {kM kO kA kV mb : Nat} {o o' : List Rd} (h : VS w0 S w kM kO kA kV mb o) (hs : ST S' w' w0.heap.size kM kO mb o') (m : Mk S w w') (hl : ∀ k, k < w.heap.size → S' k → S k) : VR w0 S w kM kO kA kV mb w' o' :=
  ⟨S', ⟨hs, m.at h.aA h.nA, fun s => h.nA (hl _ h.aA.2.2 s), m.at h.aV h.nV, fun s => h.nV (hl _ h.aV.2.2 s), kp_mk h.kp m h.st.nN⟩, m, hl⟩
section
variable {o : Oper} {n : Nat} {l : List (Nat × Value)} {w : World} {ops : Array Oper} {rest : List Oper} {Q : Exit → Act → World → Prop}
theorem wl_mupR (m x v : Operand) (b : Nat) (p : Rd) (k : Int) {L : List Rd} (hM : OR w b L) (hf : hasR L p = false) (ho : o.op = .mapUpdate 84 m x v) (hd : o.dst = none) (hm : evl n l m = .map (some b)) (hx : evl n l x = rdv p) (hv : evl n l v = .int .i64 k) (hg : wnt n l ops o = true)
    (hk : ∀ w', OR w' b (L ++ [p]) → Mk (fun j => j = b) w w' → WL Try.prog ops Q rest n l w') : WL Try.prog ops Q (o :: rest) n l w := by
  obtain ⟨w', hr, h1, h2⟩ := hM.put hf k
  refine ⟨l_step hg ?_⟩
  have e : (execOp (evl n l) o).run Try.prog w = .ok .skip w' := by simp [execOp, ho, hm, hx, hv, hr]
  unfold Oper.wp; rw [fr_eval, e, Oper.upon_skip, hd]; exact (hk w' h1 h2).out
theorem wl_mmR (ho : o.op = .makeMap 84 none) (hg : wnt n l ops o = true)
    (hk : ∀ b w', w.heap.size = b → w'.heap.size = b + 1 → Mo w w' → OR w' b [] → WL Try.prog ops Q rest n (ext l o.dst (.map (some b))) w') : WL Try.prog ops Q (o :: rest) n l w := by
  refine ⟨l_step hg (o_val (.map (some w.heap.size)) (w' := w.alloc (.map #[] 0)) ?_ (hk _ _ rfl (by simp) (Mo.allocm w) (OR.new w)).out)⟩
  simp [execOp, ho, mm_run]
end
/-- A list of one's own, one more. -/
theorem ST.add {S : Nat → Prop} {w u1 u2 u3 u4 : World} {N kM kO mb : Nat} {L : List Rd} {p : Rd} {v v' : Value} (h : ST S w N kM kO mb L) (hown : w.ownsRow N 42 2 v L.length (L.flatMap rdc)) (hv : ∀ k, v.ownBlock = some k → S k ∧ k ≠ kO)
    (m1 : Mo w u1) (hO : OR u2 mb (L ++ [p])) (m2 : Mk (fun j => j = mb) u1 u2) (m3 : Mo u2 u3) (m4 : Mk (fun j => v.ownBlock = some j) u3 u4) (hw4 : u4.ownsRow N 42 2 v' (L.length + 1) (L.flatMap rdc ++ rdc p)) (hv' : v'.ownBlock = v.ownBlock ∨ v'.ownBlock = some u3.heap.size) {u5 : World} (m5 : Mk (fun j => j = kO) u4 u5) (hA : At u5 kO [v']) :
    ∃ S', ST S' u5 N kM kO mb (L ++ [p]) ∧ Mk S w u5 ∧ ∀ k, k < w.heap.size → S' k → S k := by
  have h13 : w.heap.size ≤ u3.heap.size := Nat.le_trans m1.size (Nat.le_trans m2.size m3.size)
  have hkM : kM < w.heap.size := h.aM.2.2
  obtain ⟨v0, hA0, _, _⟩ := h.ow
  have hkO : kO < w.heap.size := hA0.2.2
  have hnew : ∀ k, k < w.heap.size → v'.ownBlock = some k → S k ∧ k ≠ kO := fun k hk e => by
    rcases hv' with q | q
    · exact hv k (q ▸ e)
    · rw [q] at e; cases e; omega
  have hne : ∀ k, v'.ownBlock = some k → k ≠ kO := fun k e q => by subst q; exact (hnew _ hkO e).2 rfl
  have hmbn : ∀ k, v.ownBlock = some k → k ≠ mb := fun k e => own_ne hown e h.om
  have hkOm : kO ≠ mb := at_ne hA0 h.om
  refine ⟨fun k => S k ∨ v'.ownBlock = some k, ⟨?_, ?_, ?_, Or.inl h.sm, Or.inl h.so, ⟨v', hA, ?_, fun k e => ⟨Or.inr e, hne k e⟩⟩, ?_, ?_⟩, ?_, ?_⟩
  · have a1 := h.aM.mo m1
    have a2 := m2.at a1 (at_ne h.aM h.om)
    have a3 := a2.mo m3
    have a4 := m4.at a3 (fun e => h.nM (hv _ e).1)
    exact m5.at a4 (fun e => h.nM (e ▸ h.so))
  · rintro (s | e)
    · exact h.nM s
    · exact h.nM (hnew kM hkM e).1
  · exact ((hO.mo m3).mk m4 (fun e => hmbn _ e rfl)).mk m5 (fun e => hkOm e.symm)
  · have := own_mk hw4 m5 (fun k e => hne k e)
    simpa using this
  · rintro k (s | e)
    · exact h.nN k s
    · exact (own_lt hw4 e).2
  · rintro k (s | e)
    · have := h.lt k s; have := m4.size; have := m5.size; omega
    · have := (own_lt hw4 e).1; have := m5.size; omega
  · have a1 : Mk S w u1 := Mk.of S m1
    have a2 := a1.tr m2 (fun j _ e => e ▸ h.sm)
    have a3 := a2.trans m3
    have a4 := a3.tr m4 (fun j _ e => (hv j e).1)
    exact a4.tr m5 (fun j _ e => e ▸ h.so)
  · rintro k hk (s | e)
    · exact s
    · exact (hnew k hk e).1
theorem vb {x a : Ex} {L : List Rd} {B i : Nat} (h : L.length + nd x ≤ B) (ha : x.args[i]? = some a) : ((x.args.take i).foldl (fun o a => vis a o) ((ownR x.k x.nm x.se).foldl ins L)).length + nd a ≤ B := by
  have h0 : ((ownR x.k x.nm x.se).foldl ins L).length ≤ L.length + 1 := Nat.le_trans (insl_len _ _) (by have := ownR_len x.k x.nm x.se; omega)
  have h1 := visl_len (x.args.take i) _ 1 L.length h0
  have h2 := sum_take x.args i a 1 ha
  rw [← nd_eq] at h2
  omega
theorem nd_pos (x : Ex) : 0 < nd x := by
  rw [nd_eq]
  have : ∀ (l : List Ex) (b : Nat), b ≤ l.foldl (fun n a => n + nd a) b := by
    intro l
    induction l with
    | nil => intro b; exact Nat.le_refl _
    | cons a l ih => intro b; have := ih (b + nd a); simp only [List.foldl_cons]; omega
  exact this x.args 1
theorem nd_arg {x a : Ex} {i : Nat} (ha : x.args[i]? = some a) : nd a < nd x := by
  have h2 := sum_take x.args i a 1 ha
  rw [← nd_eq] at h2
  have : ∀ (l : List Ex) (b : Nat), b ≤ l.foldl (fun n a => n + nd a) b := by
    intro l
    induction l with
    | nil => intro b; exact Nat.le_refl _
    | cons a l ih => intro b; have := ih (b + nd a); simp only [List.foldl_cons]; omega
  have := this (x.args.take i) 1
  omega
end Go.Proofs.Ytepfokoepibkcaa
