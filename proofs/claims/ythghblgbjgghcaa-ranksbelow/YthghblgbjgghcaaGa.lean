/-
  What a node's parts read; a list under way.
-/
import Derived.Test.YthghblgbjgghcaaSr
namespace Go.Proofs.Ythghblgbjgghcaa
open Go.RowKit D
/-- How many nodes. -/
def nd : Ex → Nat
  | .mk _ _ _ _ _ _ _ _ _ args => args.foldl (fun n a => n + nd a) 1
theorem nd_eq : ∀ x : Ex, nd x = x.args.foldl (fun n a => n + nd a) 1
  | .mk k op nm se v sc po pa cap args => by
    rw [nd]
/-- The number that a node reads itself. -/
def rdN (l : List S5) (s : Int) (F : Fn) (x : Ex) : List Nat := if rdO l s F x.k x.op x.nm x.se = -1 then [] else [(rdO l s F x.k x.op x.nm x.se).toNat]
/-- All that an expression's nodes read. -/
def gth (l : List S5) (s : Int) (F : Fn) : Ex → List Nat
  | .mk k op nm se v sc po pa cap args => rdN l s F (.mk k op nm se v sc po pa cap args) ++ args.flatMap (fun a => gth l s F a)
theorem gth_eq (l : List S5) (s : Int) (F : Fn) : ∀ x : Ex, gth l s F x = rdN l s F x ++ x.args.flatMap (gth l s F)
  | .mk k op nm se v sc po pa cap args => by
    rw [gth]
theorem rdN_len (l : List S5) (s : Int) (F : Fn) (x : Ex) : (rdN l s F x).length ≤ 1 := by unfold rdN; split <;> simp
theorem sum_mono : ∀ (l : List Ex) (b : Nat), b ≤ l.foldl (fun n a => n + nd a) b
  | [], b => Nat.le_refl _
  | a :: l, b => by have := sum_mono l (b + nd a); simp only [List.foldl_cons]; omega
theorem sum_take : ∀ (L : List Ex) (i : Nat) (x : Ex) (b : Nat), L[i]? = some x → (L.take i).foldl (fun n a => n + nd a) b + nd x ≤ L.foldl (fun n a => n + nd a) b
  | [], i, x, b, h => by simp at h
  | a :: L, 0, x, b, h => by simp at h; subst h; simpa using sum_mono L (b + nd a)
  | a :: L, i + 1, x, b, h => by simp at h; simpa using sum_take L i x (b + nd a) h
theorem gth_len (l : List S5) (s : Int) (F : Fn) : ∀ x : Ex, (gth l s F x).length ≤ nd x := by
  refine Ex.ind2 ?_
  intro x ih
  rw [gth_eq, nd_eq, List.length_append]
  have h0 := rdN_len l s F x
  have key : ∀ (L : List Ex), (∀ a ∈ L, a ∈ x.args) → ∀ b, b + (L.flatMap (gth l s F)).length ≤ L.foldl (fun n a => n + nd a) b := by
    intro L
    induction L with
    | nil => intro _ b; simp
    | cons a L il =>
      intro hm b
      have h1 := il (fun y hy => hm y (List.mem_cons_of_mem _ hy)) (b + nd a)
      have h2 := ih a (hm a (List.mem_cons_self ..))
      simp only [List.flatMap_cons, List.length_append, List.foldl_cons]; omega
  have := key x.args (fun _ h => h) 1
  omega
theorem gth_tk {l : List S5} {s : Int} {F : Fn} {x a : Ex} {B i : Nat} {L : List Nat} (h : L.length + nd x ≤ B) (ha : x.args[i]? = some a) : (L ++ rdN l s F x ++ (x.args.take i).flatMap (gth l s F)).length + nd a ≤ B := by
  have h0 := rdN_len l s F x
  have key : ∀ (M : List Ex) (b : Nat), b + (M.flatMap (gth l s F)).length ≤ M.foldl (fun n a => n + nd a) b := by
    intro M
    induction M with
    | nil => intro b; simp
    | cons c M il => intro b; have h1 := il (b + nd c); have h2 := gth_len l s F c; simp only [List.flatMap_cons, List.length_append, List.foldl_cons]; omega
  have h1 := key (x.args.take i) 1
  have h2 := sum_take x.args i a 1 ha
  rw [← nd_eq] at h2
  simp only [List.length_append]; omega
theorem flat_s {α β : Type} {f : α → List β} {L : List α} {i : Nat} {x : α} (h : L[i]? = some x) : (L.take (i + 1)).flatMap f = (L.take i).flatMap f ++ f x := by rw [List.take_add_one, h, List.flatMap_append]; simp
theorem nd_pos (x : Ex) : 0 < nd x := by rw [nd_eq]; exact sum_mono x.args 1
/-- What names mean: numbers, or nothing. -/
def Fok (l : List S5) (F : Fn) : Prop := ∀ nm, F nm = -1 ∨ ∃ k : Nat, F nm = (k : Int) ∧ k < nI l
theorem Fok.F0 (l : List S5) : Fok l F0 := fun _ => Or.inl rfl
theorem Fok.FM (l : List S5) (s : Int) : Fok l (FM l s) := fun nm => by
  unfold Ythghblgbjgghcaa.FM
  have key : ∀ f s k, mean l f s nm = some k → k < nI l := by
    intro f
    induction f with
    | zero => intro s k h; cases h
    | succ f ih =>
      intro s k h
      unfold mean at h
      split at h
      · cases e : ownN l s.toNat nm with
        | some j => rw [e] at h; cases h; exact ownN_lt e
        | none => rw [e] at h; exact ih _ _ h
      · cases h
  cases e : mean l (l.length + 1) s nm with
  | none => exact Or.inl rfl
  | some k => exact Or.inr ⟨k, rfl, key _ _ _ e⟩
theorem rdO_ok {l : List S5} {F : Fn} (h : Fok l F) (s : Int) (k op : Int) (nm se : ByteArray) : rdO l s F k op nm se = -1 ∨ ∃ j : Nat, rdO l s F k op nm se = (j : Int) ∧ j < nI l := by
  unfold rdO
  split
  · exact h nm
  · split
    · unfold col
      cases kidN l s se with
      | none => exact Or.inl rfl
      | some q =>
        simp only []
        cases e : ownN l q nm with
        | none => exact Or.inl rfl
        | some j => exact Or.inr ⟨j, rfl, ownN_lt e⟩
    · exact Or.inl rfl
theorem gth_lt {l : List S5} {F : Fn} (h : Fok l F) (s : Int) : ∀ x : Ex, ∀ k ∈ gth l s F x, k < nI l := by
  refine Ex.ind2 ?_
  intro x ih k hk
  rw [gth_eq, List.mem_append] at hk
  rcases hk with q | q
  · unfold rdN at q
    rcases rdO_ok h s x.k x.op x.nm x.se with e | ⟨j, e, hj⟩
    · rw [e] at q; simp at q
    · rw [e, if_neg (by omega)] at q; simp at q; omega
  · obtain ⟨a, ha, q⟩ := List.mem_flatMap.1 q
    exact ih a ha k q
abbrev gaF (kR kS kF kG : Nat) : Value := .func (.func 57) #[] #[pt kR 0, pt kS 0, pt kF 0, pt kG 0]
/-- The list under way, and the function that goes on with it; w1: where the call began. -/
structure Fs (A : Ra) (s : Nat) (w1 : World) (S : Nat → Prop) (w : World) (kR kS kF kG : Nat) (L : List Nat) : Prop where
  aR : At w kR [pt A.r 0]
  nR : ¬ S kR
  aS : At w kS [.int .i64 ((s : Nat) : Int)]
  nS : ¬ S kS
  aG : At w kG [gaF kR kS kF kG]
  nG : ¬ S kG
  so : S kF
  ow : ∃ v, At w kF [v] ∧ w.ownsRow w1.heap.size 3 1 v L.length (L.flatMap ic) ∧ ∀ k, v.ownBlock = some k → S k ∧ k ≠ kF
  nN : ∀ k, S k → w1.heap.size ≤ k
  lt : ∀ k, S k → k < w.heap.size
  me : Mo w1 w
section
variable {A : Ra} {s : Nat} {w1 w w' w2 : World} {S S1 : Nat → Prop} {kR kS kF kG : Nat} {L L' : List Nat}
theorem Fs.mo (h : Fs A s w1 S w kR kS kF kG L) (m : Mo w w') : Fs A s w1 S w' kR kS kF kG L := by
  obtain ⟨v, h1, h2, h3⟩ := h.ow
  exact ⟨h.aR.mo m, h.nR, h.aS.mo m, h.nS, h.aG.mo m, h.nG, h.so, ⟨v, h1.mo m, own_mo h2 m, h3⟩, h.nN, fun k s => Nat.lt_of_lt_of_le (h.lt k s) m.size, h.me.trans m⟩
/-- What a call leaves. -/
def Fr (A : Ra) (s : Nat) (w1 : World) (S : Nat → Prop) (w : World) (kR kS kF kG : Nat) (w' : World) (L : List Nat) : Prop := ∃ S', Fs A s w1 S' w' kR kS kF kG L ∧ Mk S w w' ∧ ∀ k, k < w.heap.size → S' k → S k
theorem Fr.of (h : Fs A s w1 S w kR kS kF kG L) (m : Mo w w') : Fr A s w1 S w kR kS kF kG w' L := ⟨S, h.mo m, Mk.of S m, fun _ _ s => s⟩
theorem Fr.mo (h : Fr A s w1 S w kR kS kF kG w' L) (m : Mo w' w2) : Fr A s w1 S w kR kS kF kG w2 L := by
  obtain ⟨S', h1, h2, h3⟩ := h
  exact ⟨S', h1.mo m, h2.trans m, h3⟩
theorem Fr.tr {u : World} (m : Mk S w u) (hs : ∀ k, k < w.heap.size → S1 k → S k) (h : Fr A s w1 S1 u kR kS kF kG w2 L) : Fr A s w1 S w kR kS kF kG w2 L := by
  obtain ⟨S2, h1, h2, h3⟩ := h
  exact ⟨S2, h1, m.tr h2 (fun j hj e => hs j hj e), fun k hk s => hs k hk (h3 k (Nat.lt_of_lt_of_le hk m.size) s)⟩
/-- One more: the append, then the store. -/
theorem Fs.add {u u' : World} {pv pv2 : Option Addr} {cv cv2 y : Nat} (h : Fs A s w1 S w kR kS kF kG L) (hA : At w kF [.slice pv L.length cv]) (hv : ∀ k, obk pv L.length cv = some k → S k ∧ k ≠ kF)
    (m1 : Mk (fun j => obk pv L.length cv = some j) w u) (h1 : Ow w1.heap.size 3 1 ic u pv2 cv2 (L ++ [y])) (h2 : obk pv2 (L ++ [y]).length cv2 = obk pv L.length cv ∨ obk pv2 (L ++ [y]).length cv2 = some w.heap.size) (m2 : Mk (fun j => j = kF) u u') (hA2 : At u' kF [.slice pv2 (L ++ [y]).length cv2]) : Fr A s w1 S w kR kS kF kG u' (L ++ [y]) := by
  have hkF := hA.2.2
  have mS : Mk S w u' := (m1.mono (fun j e => (hv j e).1)).tr m2 (fun j _ e => e ▸ h.so)
  have hnew : ∀ k, k < w.heap.size → obk pv2 (L ++ [y]).length cv2 = some k → S k ∧ k ≠ kF := fun k hk e => by
    rcases h2 with q | q
    · exact hv k (q ▸ e)
    · rw [q] at e; cases e; omega
  have hne : ∀ k, obk pv2 (L ++ [y]).length cv2 = some k → k ≠ kF := fun k e q => by subst q; exact (hnew _ hkF e).2 rfl
  refine ⟨fun k => S k ∨ obk pv2 (L ++ [y]).length cv2 = some k, ⟨mS.at h.aR h.nR, ?_, mS.at h.aS h.nS, ?_, mS.at h.aG h.nG, ?_, Or.inl h.so, ⟨_, hA2, own_mk h1 m2 (fun k e => hne k e), fun k e => ⟨Or.inr e, hne k e⟩⟩, ?_, ?_, mS.mo h.me h.nN⟩, mS, ?_⟩
  · rintro (q | q)
    · exact h.nR q
    · exact h.nR (hnew kR h.aR.2.2 q).1
  · rintro (q | q)
    · exact h.nS q
    · exact h.nS (hnew kS h.aS.2.2 q).1
  · rintro (q | q)
    · exact h.nG q
    · exact h.nG (hnew kG h.aG.2.2 q).1
  · rintro k (q | q)
    · exact h.nN k q
    · exact (own_lt h1 q).2
  · rintro k (q | q)
    · exact Nat.lt_of_lt_of_le (h.lt k q) mS.size
    · exact Nat.lt_of_lt_of_le (own_lt h1 q).1 m2.size
  · rintro k hk (q | q)
    · exact q
    · exact (hnew k hk q).1
end
end Go.Proofs.Ythghblgbjgghcaa
