/-
  A range over a function: the law, where nothing is frozen on the way.
-/
import Derived.Test.YtbmbldloeblbbaaRn
namespace Go.Proofs.Ytbmbldloeblbbaa
open Go.RowKit
namespace R
/-- What the loop says between two rounds abides new blocks, and turns of the loop's own. -/
def OwnF {β : Type} (B : Nat) (I : β → World → Prop) : Prop :=
  ∀ s W W' row, I s W → W.grownBy W' row → (∀ a, W'.frozen? a = W.frozen? a) → (∀ r, row = some r → B ≤ r ∧ ∃ o : Obj, W.heap[r]? = some o ∧ o.isCells = false) → I s W'
/-- It abides new blocks. -/
def AbF {β : Type} (J : β → World → Prop) : Prop := ∀ s W W', J s W → Mo W W' → J s W'
theorem mo_grown {W W' : World} (m : Mo W W') : W.grownBy W' none := ⟨m.1.os, m.1.tape, m.1.output, m.1.size, fun k hk _ => m.1.block k hk⟩
theorem OwnF.mo {β : Type} {B : Nat} {I : β → World → Prop} (h : OwnF B I) {s : β} {W W' : World} (hs : I s W) (m : Mo W W') : I s W' := h s W W' none hs (mo_grown m) m.2 (fun _ e => by cases e)
theorem frozen_not {w : World} {o : Obj} {a : Addr} (h : w.heap[a.block]? = some o) (ho : o.isCells = false) : w.frozen? a = false := by
  unfold World.frozen?
  rw [h]
  cases o <;> first | rfl | cases ho
theorem frozen_put {W : World} {l : Nat} {o o' : Obj} (hl : W.heap[l]? = some o) (ho : o.isCells = false) (ho' : o'.isCells = false) (a : Addr) : (W.putObj l o').frozen? a = W.frozen? a := by
  by_cases e : a.block = l
  · have h1 : (W.putObj l o').heap[a.block]? = some o' := by rw [e]; exact World.putObj_heap_same (Array.getElem?_eq_some_iff.1 hl).1
    have h2 : W.heap[a.block]? = some o := by rw [e]; exact hl
    rw [frozen_not h1 ho', frozen_not h2 ho]
  · exact World.frozen?_of_block (World.putObj_heap_other (fun q => e q))
theorem OwnF.putObj {β : Type} {B : Nat} {I : β → World → Prop} (h : OwnF B I) {s : β} {W : World} {l : Nat} {o : Obj} (o' : Obj) (hs : I s W) (hB : B ≤ l) (hl : W.heap[l]? = some o) (ho : o.isCells = false) (ho' : o'.isCells = false) : I s (W.putObj l o') :=
  h s W _ (some l) hs (grownBy_putObj' W l o') (frozen_put hl ho ho') (fun r e => by cases e; exact ⟨hB, o, hl, ho⟩)
theorem frozen_alloc {W : World} {o : Obj} (ho : o.isCells = false) (a : Addr) : (W.alloc o).frozen? a = W.frozen? a := by
  by_cases e : a.block = W.heap.size
  · have h1 : (W.alloc o).heap[a.block]? = some o := by rw [e]; exact World.alloc_heap_new W o
    rw [frozen_not h1 ho]
    unfold World.frozen?
    rw [Array.getElem?_eq_none (by omega)]
  · refine World.frozen?_of_block ?_
    rcases Nat.lt_or_ge a.block W.heap.size with h | h
    · exact Below.heap_alloc W o _ h
    · rw [Array.getElem?_eq_none (by simp; omega), Array.getElem?_eq_none (by omega)]
theorem Mo.allocO {W : World} {o : Obj} (ho : o.isCells = false) : Mo W (W.alloc o) := ⟨(Below.refl _ W).alloc (Nat.le_refl _) _, frozen_alloc ho⟩
/-- An iterator: what it hands to the rounds, where each round keeps Kp. -/
def SeqF {α : Type} (m : Nat) (P : Program) (g : Nat) (ra lb : Array Value) (encs : α → Array Value) (Kp : World → World → Prop) (S Sp : List α → Prop) (N : Nat) (w : World) : Prop :=
  ∀ (l : Nat) (J Jx : List α → World → Prop) (W : World), Mo w W → AbF J → AbF Jx →
    (∀ pre x W1, J pre W1 → pre.length < N → YieldAt (Fw none) (m - 1) P l (encs x) W1 fun e W' =>
      (e = .returned (.bool true) ∧ J (pre ++ [x]) W' ∧ Kp W1 W') ∨ (e = .returned (.bool false) ∧ Jx (pre ++ [x]) W')) →
    J [] W →
    CallsIn (Fw none) m P g (ra ++ #[.func (.yield l) #[] #[]] ++ lb) W fun e W' => (∃ v, e = .returned v) ∧ ((∃ xs, S xs ∧ J xs W') ∨ (∃ pre, Sp pre ∧ Jx pre W'))
section
variable {m : Nat} {ds : List Deferred} {P : Program} {n : Nat} {l : List (Nat × Value)} {w : World} {Q : Exit → Act → World → Prop}
theorem w_rf {α : Type} {g : Operand} {ps : Array Tmp} {assign body : Code} (gf : Nat) (ra lb : Array Value) (hg : evl n l g = .func (.func gf) ra lb) (eg : ∀ args w, (callFunc gf args).run P w = .ok (.enter gf args) w)
    (encs : α → Array Value) (Kp : World → World → Prop) (S Sp : List α → Prop) (N : Nat) (hseq : SeqF (m - 1) P gf ra lb encs Kp S Sp N w)
    (hKt : ∀ {A B C : World}, Kp A B → Kp B C → Kp A C) (hKb : ∀ (W : World) (l : Nat) (o o' : Obj), w.heap.size ≤ l → W.heap[l]? = some o → o.isCells = false → o'.isCells = false → Kp W (W.putObj l o')) (hps : ∀ x, (encs x).size = ps.size)
    (I : List α → World → Prop) (Ix : Code → List α → World → Prop) (hI : OwnF w.heap.size I) (hIx : ∀ c, OwnF w.heap.size (Ix c)) (h0 : I [] w) (la lx : α → List (Nat × Value))
    (hfr : ∀ x, ({ tmps := (ps.zip (encs x)).foldl (fun t (p, v) => t.setIfInBounds p v) (fr n l).tmps, defers := [] } : Act) = fr n (la x))
    (hassign : ∀ (lp : Nat) (x : α) (W : World) (K : Act → World → Prop), WX (Wd [] (Exit.then K (fun _ _ _ => False))) .normal n (lx x) W → RC (some lp) (m - 1 - 1) [] P assign (Exit.then K (fun _ _ _ => False)) n (la x) W)
    (hbody : ∀ (lp : Nat) (pre : List α) (x : α) (W : World), I pre W → pre.length < N → RC (some lp) (m - 1 - 1) [] P body (ownPostG w.heap.size Kp I Ix (pre ++ [x]) W) n (lx x) W)
    (hdone : ∀ (D : Nat) (xs : List α) (W : World), w.heap.size ≤ D → S xs → I xs W → W.heap[D]? = some (.deferred (some [])) → WX (Wd ({ target := .collected D, args := #[] } :: ds) Q) .normal n l W)
    (hstop : ∀ (D : Nat) (c : Code) (pre : List α) (W : World), w.heap.size ≤ D → Sp pre → Ix c pre W → W.heap[D]? = some (.deferred (some [])) → RC none m ({ target := .collected D, args := #[] } :: ds) P c Q n l W) :
    RC none m ds P (Code.rangeFunc g ps assign body) Q n l w := by
  refine ⟨wpIn_rangeFunc ?_⟩
  intro fn hfn
  have hro : (Fw none).round = none := rfl
  rw [hro]
  have hg' : (wd (fr n l) ds).eval g = .func (.func gf) ra lb := (ev_wd g).trans hg
  have htm : (wd (fr n l) ds).tmps = (fr n l).tmps := rfl
  obtain ⟨rec, hrec⟩ : ∃ rec : LoopState → Option Code → Loop, rec = fun st pe => { state := st, pending := pe, fn, tmps := (fr n l).tmps, params := ps, assign, body, defers := w.heap.size } := ⟨_, rfl⟩
  obtain ⟨W1, hW1⟩ : ∃ W1, (w.alloc (.deferred (some []))).alloc (.loop (rec .ready none)) = W1 := ⟨_, rfl⟩
  have hm1 : Mo w W1 := by rw [← hW1]; exact (Mo.allocO rfl).trans (Mo.allocO rfl)
  have hL1 : W1.heap[w.heap.size + 1]? = some (.loop (rec .ready none)) := by
    rw [← hW1]; have := World.alloc_heap_new (w.alloc (.deferred (some []))) (.loop (rec .ready none)); rwa [World.size_alloc] at this
  have hK1 : W1.heap[w.heap.size]? = some (.deferred (some [])) := by
    rw [← hW1]; exact (Below.heap_alloc _ _ _ (by simp)).trans (World.alloc_heap_new w _)
  have hI1 : I [] W1 := hI.mo h0 hm1
  refine ⟨w.heap.size + 1, [{ target := .collected w.heap.size, args := #[] }], W1, { target := .fn (.func gf) lb, args := ra ++ #[.func (.yield (w.heap.size + 1)) #[] #[]] }, W1, gf,
    ra ++ #[.func (.yield (w.heap.size + 1)) #[] #[]] ++ lb, W1, ?_, ?_, ?_, ?_, (fun e => by cases e), ?_⟩
  · rw [← hW1, hrec]; exact run_enterLoop_outer _ _ _ _ _
  · simp only [resolve, hg']
    simp [go_sem]
  · intro f' hf'; trivial
  · simp [invoke, go_sem, eg]
  · refine (hseq (w.heap.size + 1)
      (fun pre W => I pre W ∧ W.heap[w.heap.size + 1]? = some (.loop (rec .ready none)) ∧ W.heap[w.heap.size]? = some (.deferred (some [])))
      (fun pre W => ∃ c, Ix c pre W ∧ W.heap[w.heap.size + 1]? = some (.loop (rec .done (some c))) ∧ W.heap[w.heap.size]? = some (.deferred (some [])))
      W1 hm1
      (fun s A B hs mo => ⟨hI.mo hs.1 mo, (mo.1.block _ (Array.getElem?_eq_some_iff.1 hs.2.1).1).trans hs.2.1, (mo.1.block _ (Array.getElem?_eq_some_iff.1 hs.2.2).1).trans hs.2.2⟩)
      (fun s A B hs mo => by
        obtain ⟨c, hc, hl, hk⟩ := hs
        exact ⟨c, (hIx c).mo hc mo, (mo.1.block _ (Array.getElem?_eq_some_iff.1 hl).1).trans hl, (mo.1.block _ (Array.getElem?_eq_some_iff.1 hk).1).trans hk⟩)
      ?_ ⟨hI1, hL1, hK1⟩).mono ?_
    · rintro pre x W ⟨hi, hl, hk⟩ hlen
      have hlt : w.heap.size + 1 < W.heap.size := (Array.getElem?_eq_some_iff.1 hl).1
      have hy := run_yield (P := P) (args := encs x) hl (by rw [hrec]; exact hps x)
      rw [hrec] at hy
      have ha : ∀ K : Act → World → Prop, K (fr n (lx x)) W → assign.wpIn ((Fw none).inRound (w.heap.size + 1)) (m - 1 - 1) P (Exit.then K (fun _ _ _ => False)) { tmps := (ps.zip (encs x)).foldl (fun t (p, v) => t.setIfInBounds p v) (fr n l).tmps, defers := [] } W := fun K hK => by
        rw [hfr x]
        exact (hassign (w.heap.size + 1) x W K ⟨hK⟩).out
      refine ⟨fn, _, assign, body, hy, roundIn_of_wpIn hfn (ha _ ⟨_, run_beginRound hl (by rw [hrec]), ?_⟩)⟩
      have hl2 : (W.putObj (w.heap.size + 1) (.loop { rec .ready none with state := .busy })).heap[w.heap.size + 1]? = some (.loop { rec .ready none with state := .busy }) := World.putObj_heap_same hlt
      have hk2 : (W.putObj (w.heap.size + 1) (.loop { rec .ready none with state := .busy })).heap[w.heap.size]? = some (.deferred (some [])) := (World.putObj_heap_other (by omega)).trans hk
      have hw2 : Kp W (W.putObj (w.heap.size + 1) (.loop { rec .ready none with state := .busy })) := hKb _ _ _ _ (by omega) hl rfl rfl
      refine Go.wpIn_mono (hbody _ pre x _ (hI.putObj _ hi (by omega) hl rfl rfl) hlen).out ?_
      have fin : ∀ (jump : Option Code) (W3 : World), KeepsFrom w.heap.size (W.putObj (w.heap.size + 1) (.loop { rec .ready none with state := .busy })) W3 →
          (Instr.endRound (w.heap.size + 1) jump).run P W3 = .ok (.bool jump.isNone) (W3.putObj (w.heap.size + 1) (.loop (rec (if jump.isNone then .ready else .done) jump))) ∧
          W3.heap[w.heap.size + 1]? = some (.loop { rec .ready none with state := .busy }) ∧
          (W3.putObj (w.heap.size + 1) (.loop (rec (if jump.isNone then .ready else .done) jump))).heap[w.heap.size + 1]? = some (.loop (rec (if jump.isNone then .ready else .done) jump)) ∧
          (W3.putObj (w.heap.size + 1) (.loop (rec (if jump.isNone then .ready else .done) jump))).heap[w.heap.size]? = some (.deferred (some [])) := fun jump W3 hk3 => by
        have hl3 := hk3.same _ _ (by omega) hl2 rfl
        have := run_endRound (P := P) jump hl3
        rw [hrec] at this ⊢
        exact ⟨this, by rw [hrec] at hl3; exact hl3, World.putObj_heap_same (Array.getElem?_eq_some_iff.1 hl3).1, (World.putObj_heap_other (by omega)).trans (hk3.same _ _ (Nat.le_refl _) hk2 rfl)⟩
      rintro e a3 W3 hp
      cases e with
      | normal =>
        obtain ⟨hk3, hkp3, hi3⟩ := hp
        obtain ⟨hr, hl3, hl4, hk4⟩ := fin none W3 hk3
        exact ⟨_, _, hr, .inl ⟨rfl, ⟨hI.putObj _ hi3 (by omega) hl3 rfl rfl, hl4, hk4⟩, hKt (hKt hw2 hkp3) (hKb _ _ _ _ (by omega) hl3 rfl rfl)⟩⟩
      | ret =>
        obtain ⟨hk3, hi3⟩ := hp
        obtain ⟨hr, hl3, hl4, hk4⟩ := fin (some .ret) W3 hk3
        exact ⟨_, _, hr, .inr ⟨rfl, .ret, (hIx _).putObj _ hi3 (by omega) hl3 rfl rfl, hl4, hk4⟩⟩
      | exit id =>
        obtain ⟨hk3, hi3⟩ := hp
        obtain ⟨hr, hl3, hl4, hk4⟩ := fin (some (.exit id)) W3 hk3
        exact ⟨_, _, hr, .inr ⟨rfl, .exit id, (hIx _).putObj _ hi3 (by omega) hl3 rfl rfl, hl4, hk4⟩⟩
      | goto t =>
        obtain ⟨hk3, hi3⟩ := hp
        obtain ⟨hr, hl3, hl4, hk4⟩ := fin (some (.goto t)) W3 hk3
        exact ⟨_, _, hr, .inr ⟨rfl, .goto t, (hIx _).putObj _ hi3 (by omega) hl3 rfl rfl, hl4, hk4⟩⟩
      | panic ch => exact hp.elim
      | outgrown => exact hp.elim
    · rintro e W2 ⟨⟨v, rfl⟩, (⟨xs, hS, hi, hl, hk⟩ | ⟨pre, hSp, c, hi, hl, hk⟩)⟩
      · exact ⟨none, _, by have := run_endLoop (P := P) hl (by rw [hrec]; simp); rw [hrec] at this; exact this, (hdone _ xs _ (Nat.le_refl _) hS (hI.putObj _ hi (by omega) hl rfl rfl) ((World.putObj_heap_other (by omega)).trans hk)).out⟩
      · exact ⟨some c, _, by have := run_endLoop (P := P) hl (by rw [hrec]; simp); rw [hrec] at this; exact this, (hstop _ c pre _ (Nat.le_refl _) hSp ((hIx c).putObj _ hi (by omega) hl rfl rfl) ((World.putObj_heap_other (by omega)).trans hk)).out⟩
end
end R
end Go.Proofs.Ytbmbldloeblbbaa
