/-
  A part of the proof.
-/
import Derived.Maps.AppendAt
import Derived.Deep.AppendLies
import Derived.Laws.BytesString
import Derived.Test.YtdcojpbgijkmgaaDoorRmul
import Derived.Test.YtdcojpbgijkmgaaDoorU4
/-
  Bytes put behind a slice of one's own, and a slice's bytes as a text: the laws of the steps.
-/
namespace Go.Proofs.YtdcojpbgijkmgaaDoor
open Go.RowKit
theorem bsl (c : Int) (w : World) : (Instr.buildSlice 51 1 #[(0, .int .u8 c)]).run Tryd.prog w = .ok (.slice (some ⟨w.heap.size, 0, none⟩) 1 1) (w.alloc (.cells #[.int .u8 c] 5)) := by kernel_rfl
theorem ixs (g j n c : Nat) (h : j < n) (w : World) : (Instr.indexAt 51 (.slice (some ⟨g, 0, none⟩) n c) (.int .i64 (j : Int))).run Tryd.prog w = .ok (pt g j) w := by
  simp [go_sem, h]
theorem inf5 : ∃ i, Tryd.prog.info? 5 = some i ∧ i.zero = some (.int .u8 0) ∧ i.size = 1 ∧ i.bytes = 1 := by
  have h : (Tryd.prog.info? 5).map (fun i => (i.zero, i.size, i.bytes)) = some (some (.int .u8 0), 1, 1) := by kernel_rfl
  cases hi : Tryd.prog.info? 5 with
  | none => rw [hi] at h; cases h
  | some i =>
    rw [hi] at h
    simp at h
    exact ⟨i, rfl, h.1, h.2.1, h.2.2⟩
/-- What an append leaves as it was. -/
structure AppW (v : Value) (w w' : World) : Prop where
  os : w'.os = w.os
  tape : w'.tape = w.tape
  output : w'.output = w.output
  size : w.heap.size ≤ w'.heap.size
  block : ∀ k, k < w.heap.size → v.ownBlock ≠ some k → w'.heap[k]? = w.heap[k]?
  fz : ∀ a, w'.frozen? a = w.frozen? a
theorem AppW.at {v : Value} {w w' : World} (h : AppW v w w') {j : Nat} {vs : List Value} (hA : At w j vs) (hn : v.ownBlock ≠ some j) : At w' j vs :=
  ⟨fun i u hu => (World.cell?_of_block (a := ⟨j, 0 + i, none⟩) (h.block j hA.2.2 hn)).trans (hA.1 i u hu), fun o => (h.fz _).trans (hA.2.1 o), Nat.lt_of_lt_of_le hA.2.2 h.size⟩
theorem AppW.mo {v : Value} {w w' a : World} (h : AppW v w w') (hM : Mo a w) (hn : ∀ k, v.ownBlock = some k → a.heap.size ≤ k) : Mo a w' :=
  ⟨⟨h.os.trans hM.1.os, h.tape.trans hM.1.tape, h.output.trans hM.1.output, Nat.le_trans hM.1.size h.size, fun k hk => (h.block k (Nat.lt_of_lt_of_le hk hM.1.size) (fun e => by have := hn k e; omega)).trans (hM.1.block k hk)⟩, fun x => (h.fz x).trans (hM.2 x)⟩
/-- What a store into the block k leaves as it was, block by block. -/
structure St2 (k : Nat) (w w' : World) : Prop extends St k w w' where
  os : w'.os = w.os
  tape : w'.tape = w.tape
  output : w'.output = w.output
  block : ∀ j, j ≠ k → w'.heap[j]? = w.heap[j]?
theorem heap_setCells (k j : Nat) (hj : j ≠ k) : ∀ (l : List Value) (o : Nat) (w : World), (w.setCells k o l).heap[j]? = w.heap[j]? ∧ (w.setCells k o l).os = w.os ∧ (w.setCells k o l).tape = w.tape ∧ (w.setCells k o l).output = w.output
  | [], _, _ => ⟨rfl, rfl, rfl, rfl⟩
  | v :: r, o, w => by
    have h := heap_setCells k j hj r (o + 1) (w.setCell ⟨k, o, none⟩ v)
    rw [World.setCells]
    refine ⟨h.1.trans ?_, h.2.1.trans rfl, h.2.2.1.trans rfl, h.2.2.2.trans rfl⟩
    simp [World.setCell, Array.getElem?_modify, Ne.symm hj]
theorem St2.mk2 (w : World) (k o : Nat) (l : List Value) : St2 k w (w.setCells k o l) :=
  { St.mk' w k o l with
    os := (heap_setCells k (k + 1) (by omega) l o w).2.1
    tape := (heap_setCells k (k + 1) (by omega) l o w).2.2.1
    output := (heap_setCells k (k + 1) (by omega) l o w).2.2.2
    block := fun j hj => (heap_setCells k j hj l o w).1 }
theorem own_st {w w' : World} {N k : Nat} {v : Value} {n : Nat} {xs : List Value} (m : St2 k w w') (h : w.ownsRow N 5 1 v n xs) (hne : v.ownBlock ≠ some k) : w'.ownsRow N 5 1 v n xs :=
  h.kept (row := some k) ⟨m.os, m.tape, m.output, Nat.le_of_eq m.size.symm, fun j _ hj => m.block j (fun e => hj (by rw [e]))⟩ (Or.inr hne)
section
variable {P : Program} {o : Oper} {n : Nat} {l : List (Nat × Value)} {w : World} {ops : Array Oper} {rest : List Oper} {Q : Exit → Act → World → Prop}
theorem wl_stx (ty : TypeId) (x y : Operand) (k off : Nat) (us : Array Value) (vs vs' : List Value) (hA : At w k vs) (ho : o.op = .store ty x y) (hd : o.dst = none) (hx : evl n l x = pt k off) (hy : evl n l y = .agg us)
    (hl : Nat.ble (off + us.size) vs.length = true) (hi : (P.info? ty).map (·.size) = some us.size) (h1 : us.toList.all (·.oneCell') = true) (hvs : vs' = vs.take off ++ us.toList ++ vs.drop (off + us.toList.length)) (hg : wnt n l ops o = true)
    (hk : ∀ w', St2 k w w' → At w' k vs' → WL P ops Q rest n l w') : WL P ops Q (o :: rest) n l w :=
  ⟨l_step hg (o_store ty x y _ _ ho hd hx hy (run_put hA ty off us (Nat.le_of_ble_eq_true hl) hi (by rw [← Array.all_toList]; exact h1)) (hk _ (St2.mk2 w k off us.toList) (hA.set off us.toList (by have := Nat.le_of_ble_eq_true hl; simpa using this) vs' hvs)).out)⟩
end
theorem own_mo {w w' : World} {N : Nat} {v : Value} {n : Nat} {xs : List Value} (h : w.ownsRow N 5 1 v n xs) (m : Mo w w') : w'.ownsRow N 5 1 v n xs :=
  h.kept (row := none) ⟨m.1.os, m.1.tape, m.1.output, m.1.size, fun k hk _ => m.1.block k hk⟩ (by cases e : v.ownBlock <;> simp)
theorem app1 (w : World) (ty : TypeId) (N : Nat) (v : Value) (n : Nat) (xs : List Value) (hown : w.ownsRow N 5 1 v n xs) (k : Nat) (c : Int) (hA : At w k [.int .u8 c]) (hn : n ≤ 1000) (hN : N ≤ w.heap.size) :
    ∃ v' w', (Builtin.append_ #[51, 51] ty #[v, .slice (some ⟨k, 0, none⟩) 1 1]).run Tryd.prog w = .ok v' w' ∧ w'.ownsRow N 5 1 v' (n + 1) (xs ++ [.int .u8 c]) ∧ AppW v w w' ∧ (v'.ownBlock = v.ownBlock ∨ v'.ownBlock = some w.heap.size) := by
  obtain ⟨i, hi, hz, hs, hby⟩ := inf5
  have hnews : ∀ j u, ([Value.int .u8 c] : List Value)[j]? = some u → w.cell? ((⟨k, 0, none⟩ : Addr).add j) = some u := fun j u hu => by
    rw [Addr.add_mid]; have := hA.1 j u hu; simpa using this
  obtain ⟨v', w', hr, h2, h3, _, h5⟩ := run_append_own_at (P := Tryd.prog) w N 51 ty 5 i (.int .u8 0) 1 1 Tryd.underlying51 hi hz hs hby rfl (by decide) v n xs hown ⟨k, 0, none⟩ 1 1 [.int .u8 c] rfl hnews (by simp [Value.oneCell']) (by unfold maxLen; omega) (by omega) hN
  refine ⟨v', w', hr, h2, ⟨h3.os, h3.tape, h3.output, h3.size, fun j hj hne => h3.block j hj (fun e => hne e.symm), ?_⟩, h5⟩
  -- the marks: arm by arm
  rcases hown.2 with ⟨rfl, rfl⟩ | ⟨g, cap, cur, rfl, hbg, hg, hnc, hcm, hcs, htake⟩
  · have hr2 := run_append_nil (P := Tryd.prog) w 51 ty 5 i (.int .u8 0) Tryd.underlying51 hi hz ⟨k, 0, none⟩ 1 1 [.int .u8 c] (by rw [hs]; rfl) hnews (by decide) (by decide) (by omega)
    rw [hr2] at hr
    cases hr
    exact ((Mo.refl w).drew.alloc _ _).2
  · by_cases hroom : n + 1 ≤ cap
    · have hr2 := run_append_room (P := Tryd.prog) w 51 ty 5 i Tryd.underlying51 hi g n cap cur hg ⟨k, 0, none⟩ 1 1 [.int .u8 c] (by rw [hs]; rfl) hnews (by simp [Value.oneCell']) hroom (by rw [hs]; simp; omega)
      rw [hr2] at hr
      cases hr
      intro a
      by_cases e : a.block = g
      · have h1 := setRow_heap w g cur (cur.toList.take (n * i.size) ++ [Value.int .u8 c] ++ cur.toList.drop (n * i.size + [Value.int .u8 c].length)).toArray 5 (0, 0) hg
        simp only [World.frozen?, e, h1, hg]
      · exact World.frozen?_of_block (setRow_other w g a.block _ e)
    · have hr2 := run_append_grow (P := Tryd.prog) w 51 ty 5 i (.int .u8 0) Tryd.underlying51 hi hz ⟨g, 0, none⟩ n cap xs (by rw [hs]; exact hown.1) (hown.cells (g := g) rfl) ⟨k, 0, none⟩ 1 1 [.int .u8 c] (by rw [hs]; rfl) hnews (by omega) (by omega) (by rw [hby]; exact growslice_fits (by omega) (by omega))
      rw [hr2] at hr
      cases hr
      exact ((Mo.refl w).drew.alloc _ _).2
section
variable {o : Oper} {n : Nat} {l : List (Nat × Value)} {w : World} {ops : Array Oper} {rest : List Oper} {Q : Exit → Act → World → Prop}
theorem wl_bsl (x : Operand) (c : Int) (ho : o.op = .buildSlice 51 1 #[(0, x)]) (hx : evl n l x = .int .u8 c) (hg : wnt n l ops o = true)
    (hk : ∀ k w', w.heap.size = k → w'.heap.size = k + 1 → Mo w w' → At w' k [.int .u8 c] → WL Tryd.prog ops Q rest n (ext l o.dst (.slice (some ⟨k, 0, none⟩) 1 1)) w') : WL Tryd.prog ops Q (o :: rest) n l w :=
  ⟨l_step hg (o_val (.slice (some ⟨w.heap.size, 0, none⟩) 1 1) (w' := w.alloc (.cells #[.int .u8 c] 5)) (by simp [execOp, ho, hx, bsl]) (hk _ _ rfl (by simp) ((Mo.refl _).alloc _ _) (At.new w #[.int .u8 c] 5)).out)⟩
theorem wl_app (s x : Operand) (N : Nat) (v : Value) (m : Nat) (xs : List Value) (k : Nat) (c : Int) (ho : o.op = .call { callee := .builtin .append, args := #[s, x], argTypes := #[51, 51] }) (hs : evl n l s = v) (hx : evl n l x = .slice (some ⟨k, 0, none⟩) 1 1)
    (hown : w.ownsRow N 5 1 v m xs) (hA : At w k [.int .u8 c]) (hm : m ≤ 1000) (hN : N ≤ w.heap.size) (hg : wnt n l ops o = true)
    (hk : ∀ v' w', w'.ownsRow N 5 1 v' (m + 1) (xs ++ [.int .u8 c]) → AppW v w w' → (v'.ownBlock = v.ownBlock ∨ v'.ownBlock = some w.heap.size) → WL Tryd.prog ops Q rest n (ext l o.dst v') w') : WL Tryd.prog ops Q (o :: rest) n l w := by
  obtain ⟨v', w', hr, h2, h3, h4⟩ := app1 w o.type N v m xs hown k c hA hm hN
  refine ⟨l_step hg (o_val v' (w' := w') ?_ (hk v' w' h2 h3 h4).out)⟩
  unfold execOp
  simp only [ho, resolve, invoke, builtin, Sem.run_bind, Sem.run_pure, Result.andThen_ok, List.map_toArray, List.map_cons, List.map_nil, hs, hx, hr]
end
theorem own_at {w : World} {N g cap n : Nat} {xs : List Value} (h : w.ownsRow N 5 1 (.slice (some ⟨g, 0, none⟩) n cap) n xs) : At w g xs := by
  have hl := h.1
  refine ⟨fun j v hv => ?_, fun o => h.frozenAt o, (h.lt g rfl).2⟩
  have hj : j < xs.length := (List.getElem?_eq_some_iff.1 hv).1
  rw [Nat.zero_add, h.cellAt j (by omega)]; exact hv
theorem set_tk {vs : List Value} {i : Nat} {v : Value} (h : i < vs.length) : vs.set i v = vs.take i ++ [v] ++ vs.drop (i + 1) := by
  rw [List.set_eq_take_append_cons_drop, if_pos h]; simp
theorem blt_t {a b : Nat} (h : a < b) : Nat.blt a b = true := by rw [Nat.blt_eq]; exact h
/-- The digits from the last on. -/
def dRev : Nat → Int → List Int
  | 0, _ => []
  | f + 1, n => if n = 0 then [] else (48 + n % 10) :: dRev f (n / 10)
theorem dRev_decF : ∀ (f : Nat) (n : Int), 0 < n → n < 10 ^ (f + 1) → (dRev (f + 1) n).reverse = decF (f + 1) n
  | 0, n, h0, h => by
    have : n / 10 = 0 := by simp at h; omega
    unfold dRev decF
    rw [if_neg (by omega), if_pos this]
    simp [dRev]
  | f + 1, n, h0, h => by
    unfold dRev decF
    rw [if_neg (by omega)]
    by_cases hz : n / 10 = 0
    · rw [if_pos hz, hz]
      have : dRev (f + 1) 0 = [] := by unfold dRev; rw [if_pos rfl]
      rw [this]; simp
    · rw [if_neg hz, List.reverse_cons, dRev_decF f (n / 10) (by omega) (by rw [Int.pow_succ] at h; omega)]
theorem dRev_len : ∀ (f : Nat) (n : Int), (dRev f n).length ≤ f
  | 0, _ => by simp [dRev]
  | f + 1, n => by
    unfold dRev; split
    · simp
    · have := dRev_len f (n / 10); simp; omega
theorem dRev_step {f : Nat} {n : Int} (h : n ≠ 0) : dRev (f + 1) n = (48 + n % 10) :: dRev f (n / 10) := by
  show (if n = 0 then [] else (48 + n % 10) :: dRev f (n / 10)) = _
  rw [if_neg h]
theorem dRev_zero (f : Nat) : dRev f 0 = [] := by cases f with | zero => rfl | succ f => unfold dRev; rw [if_pos rfl]
/-- The first i and the last i are exchanged. -/
def RvI (xs : List Int) (i : Nat) (zs : List Int) : Prop := zs.length = xs.length ∧ ∀ p, p < xs.length → zs.getD p 0 = if p < i ∨ xs.length - i ≤ p then xs.getD (xs.length - 1 - p) 0 else xs.getD p 0
theorem RvI.start (xs : List Int) : RvI xs 0 xs := ⟨rfl, fun p hp => by rw [if_neg (by omega)]⟩
theorem RvI.step {xs zs : List Int} {i j : Nat} (h : RvI xs i zs) (hij : i < j) (hl : i + j + 1 = xs.length) : RvI xs (i + 1) ((zs.set i (zs.getD j 0)).set j (zs.getD i 0)) := by
  obtain ⟨h1, h2⟩ := h
  refine ⟨by simp [h1], fun p hp => ?_⟩
  have hi := h2 i (by omega)
  have hj := h2 j (by omega)
  rw [if_neg (by omega)] at hi hj
  simp only [List.getD_eq_getElem?_getD] at *
  rw [List.getElem?_set, List.getElem?_set]
  by_cases e1 : j = p
  · subst e1
    rw [if_pos rfl, if_pos (by simp; omega), if_pos (by omega)]
    simp only [Option.getD_some]
    rw [hi, show xs.length - 1 - j = i by omega]
  · rw [if_neg e1]
    by_cases e2 : i = p
    · subst e2
      rw [if_pos rfl, if_pos (by omega), if_pos (by omega)]
      simp only [Option.getD_some]
      rw [hj, show xs.length - 1 - i = j by omega]
    · rw [if_neg e2, h2 p hp]
      by_cases c : p < i ∨ xs.length - i ≤ p
      · rw [if_pos c, if_pos (by omega)]
      · rw [if_neg c, if_neg (by omega)]
theorem RvI.done {xs zs : List Int} {i j : Nat} (h : RvI xs i zs) (hij : ¬ i < j) (hl : i + j + 1 = xs.length) : zs = xs.reverse := by
  obtain ⟨h1, h2⟩ := h
  apply List.ext_getElem
  · simp [h1]
  · intro p a b
    have hp : p < xs.length := by omega
    have := h2 p hp
    simp only [List.getD_eq_getElem?_getD, List.getElem?_eq_getElem a, Option.getD_some] at this
    rw [this, List.getElem_reverse]
    by_cases c : p < i ∨ xs.length - i ≤ p
    · rw [if_pos c, List.getElem?_eq_getElem (by omega), Option.getD_some]
    · rw [if_neg c, List.getElem?_eq_getElem (by omega), Option.getD_some]
      congr 1; omega
theorem str_run (w : World) (g c : Nat) (ns : List Int) (hA : At w g (ns.map (Value.int .u8))) (m : Nat) (hm : m = ns.length) : (convert 51 9 (.slice (some ⟨g, 0, none⟩) m c)).run Tryd.prog w = .ok (.string (strOf ns)) w := by
  subst hm
  rw [run_convert_bytes_string w 51 9 5 _ _ _ Tryd.underlying51 Tryd.underlying5 Tryd.underlying9, run_bytesToString w _ _ _ ns]
  · rfl
  · have := run_loadCells_list (P := Tryd.prog) w ⟨g, 0, none⟩ (ns.map (Value.int .u8)) (fun j v hv => by rw [Addr.add_mid]; exact hA.1 j v hv)
    simpa using this
end Go.Proofs.YtdcojpbgijkmgaaDoor
/-
  exciseref03.Parse: the number of a text.
-/
namespace Go.Proofs.YtdcojpbgijkmgaaDoor
open Go.RowKit
theorem app2 (w : World) (ty : TypeId) (N : Nat) (v : Value) (n : Nat) (xs : List Value) (hown : w.ownsRow N 5 1 v n xs) (k : Nat) (c : Int) (hA : At w k [.int .u8 c]) (hn : n + 1 ≤ 140737488355328) (hN : N ≤ w.heap.size) :
    ∃ v' w', (Builtin.append_ #[51, 51] ty #[v, .slice (some ⟨k, 0, none⟩) 1 1]).run Tryd.prog w = .ok v' w' ∧ w'.ownsRow N 5 1 v' (n + 1) (xs ++ [.int .u8 c]) ∧ AppW v w w' ∧ (v'.ownBlock = v.ownBlock ∨ v'.ownBlock = some w.heap.size) := by
  obtain ⟨i, hi, hz, hs, hby⟩ := inf5
  have hnews : ∀ j u, ([Value.int .u8 c] : List Value)[j]? = some u → w.cell? ((⟨k, 0, none⟩ : Addr).add j) = some u := fun j u hu => by
    rw [Addr.add_mid]; have := hA.1 j u hu; simpa using this
  obtain ⟨v', w', hr, h2, h3, _, h5⟩ := run_append_own_at (P := Tryd.prog) w N 51 ty 5 i (.int .u8 0) 1 1 Tryd.underlying51 hi hz hs hby rfl (by decide) v n xs hown ⟨k, 0, none⟩ 1 1 [.int .u8 c] rfl hnews (by simp [Value.oneCell']) (by unfold maxLen; omega) (by omega) hN
  refine ⟨v', w', hr, h2, ⟨h3.os, h3.tape, h3.output, h3.size, fun j hj hne => h3.block j hj (fun e => hne e.symm), ?_⟩, h5⟩
  -- the marks: arm by arm
  rcases hown.2 with ⟨rfl, rfl⟩ | ⟨g, cap, cur, rfl, hbg, hg, hnc, hcm, hcs, htake⟩
  · have hr2 := run_append_nil (P := Tryd.prog) w 51 ty 5 i (.int .u8 0) Tryd.underlying51 hi hz ⟨k, 0, none⟩ 1 1 [.int .u8 c] (by rw [hs]; rfl) hnews (by decide) (by decide) (by omega)
    rw [hr2] at hr
    cases hr
    exact ((Mo.refl w).drew.alloc _ _).2
  · by_cases hroom : n + 1 ≤ cap
    · have hr2 := run_append_room (P := Tryd.prog) w 51 ty 5 i Tryd.underlying51 hi g n cap cur hg ⟨k, 0, none⟩ 1 1 [.int .u8 c] (by rw [hs]; rfl) hnews (by simp [Value.oneCell']) hroom (by rw [hs]; simp; omega)
      rw [hr2] at hr
      cases hr
      intro a
      by_cases e : a.block = g
      · have h1 := setRow_heap w g cur (cur.toList.take (n * i.size) ++ [Value.int .u8 c] ++ cur.toList.drop (n * i.size + [Value.int .u8 c].length)).toArray 5 (0, 0) hg
        simp only [World.frozen?, e, h1, hg]
      · exact World.frozen?_of_block (setRow_other w g a.block _ e)
    · have hr2 := run_append_grow (P := Tryd.prog) w 51 ty 5 i (.int .u8 0) Tryd.underlying51 hi hz ⟨g, 0, none⟩ n cap xs (by rw [hs]; exact hown.1) (hown.cells (g := g) rfl) ⟨k, 0, none⟩ 1 1 [.int .u8 c] (by rw [hs]; rfl) hnews (by omega) (by omega) (by rw [hby]; exact growslice_fits (by omega) (by omega))
      rw [hr2] at hr
      cases hr
      exact ((Mo.refl w).drew.alloc _ _).2
section
variable {o : Oper} {n : Nat} {l : List (Nat × Value)} {w : World} {ops : Array Oper} {rest : List Oper} {Q : Exit → Act → World → Prop}
theorem wl_app2 (s x : Operand) (N : Nat) (v : Value) (m : Nat) (xs : List Value) (k : Nat) (c : Int) (ho : o.op = .call { callee := .builtin .append, args := #[s, x], argTypes := #[51, 51] }) (hs : evl n l s = v) (hx : evl n l x = .slice (some ⟨k, 0, none⟩) 1 1)
    (hown : w.ownsRow N 5 1 v m xs) (hA : At w k [.int .u8 c]) (hm : m + 1 ≤ 140737488355328) (hN : N ≤ w.heap.size) (hg : wnt n l ops o = true)
    (hk : ∀ v' w', w'.ownsRow N 5 1 v' (m + 1) (xs ++ [.int .u8 c]) → AppW v w w' → (v'.ownBlock = v.ownBlock ∨ v'.ownBlock = some w.heap.size) → WL Tryd.prog ops Q rest n (ext l o.dst v') w') : WL Tryd.prog ops Q (o :: rest) n l w := by
  obtain ⟨v', w', hr, h2, h3, h4⟩ := app2 w o.type N v m xs hown k c hA hm hN
  refine ⟨l_step hg (o_val v' (w' := w') ?_ (hk v' w' h2 h3 h4).out)⟩
  unfold execOp
  simp only [ho, resolve, invoke, builtin, Sem.run_bind, Sem.run_pure, Result.andThen_ok, List.map_toArray, List.map_cons, List.map_nil, hs, hx, hr]
end
theorem lens_r2 (ρ : Operand → Value) (x : Operand) (p : Option Addr) (m c : Nat) (hx : ρ x = .slice p m c) (dst : Option Tmp) (type : TypeId) (pos : String) (after : Array Edge) (guard : Option (Nat × Bool)) (w : World) : (execOp ρ { dst, op := .call { callee := .builtin .len, args := #[x], argTypes := #[51] }, type, pos, after, guard }).run Tryd.prog w = .ok (.value (.int .i64 (m : Int))) w := by
  simp [go_sem, hx]
theorem own_form {w : World} {N n : Nat} {v : Value} {xs : List Value} (h : w.ownsRow N 5 1 v n xs) : ∃ p c, v = .slice p n c := by
  rcases h.2 with ⟨rfl, rfl⟩ | ⟨g, cap, cur, rfl, _⟩
  · exact ⟨none, 0, rfl⟩
  · exact ⟨_, cap, rfl⟩
/-- The document's way to a text's digits: those that count, and how many stand behind the point. -/
def pr (s : ByteArray) (i : Nat) (a : List Int) (h : Nat) (q : Bool) : List Int × Nat :=
  if _h : i < s.size then
    if bt s i == 46 then pr s (i + 1) a h true
    else if dgt (bt s i) then pr s (i + 1) (if decide (0 < a.length) || !(bt s i == 48) then a ++ [bt s i] else a) (if q then h + 1 else h) q
    else pr s (i + 1) a h q
  else (a, h)
termination_by s.size - i
theorem pr_out {s : ByteArray} {i : Nat} {a : List Int} {h : Nat} {q : Bool} (hi : ¬ i < s.size) : pr s i a h q = (a, h) := by rw [pr, dif_neg hi]
theorem pr_in {s : ByteArray} {i : Nat} {a : List Int} {h : Nat} {q : Bool} (hi : i < s.size) : pr s i a h q = if bt s i == 46 then pr s (i + 1) a h true
    else if dgt (bt s i) then pr s (i + 1) (if decide (0 < a.length) || !(bt s i == 48) then a ++ [bt s i] else a) (if q then h + 1 else h) q
    else pr s (i + 1) a h q := by rw [pr, dif_pos hi]
abbrev prs (s : ByteArray) : List Int × Nat := pr s 0 [] 0 false
/-- What Parse answers, where N and E are what the digits' Parse does. -/
def rps (s : ByteArray) (N E : Int) : Value :=
  if whl s = false then er 30 else if 18 < (prs s).2 then er 31 else if (prs s).1.length = 0 then .tuple #[dc (bt s 0 == 45) 0 ((prs s).2 : Int), .int .i64 0]
  else if (E == 0) = false then er E else .tuple #[dc (bt s 0 == 45) N ((prs s).2 : Int), .int .i64 0]
theorem whl_pos {s : ByteArray} (h : whl s = true) : 0 < s.size := by
  rw [whl_dec] at h
  unfold isDec at h
  rw [emp_iff] at h
  by_cases h0 : s.size = 0
  · rw [decide_eq_true h0] at h; cases h
  · omega
theorem whole_c {s : ByteArray} {r : Bool} (hs : s.size ≤ maxLen) (h : whl s = r) (w : World) : Calls Tryd.prog 31 #[.string s] w fun e w' => e = .returned (.bool r) ∧ Mo w w' := h ▸ whole_n s w hs
theorem ne30 {a b : Int} {r : Bool} (h : (a == b) = r) (x y : Operand) (w : World) : (do eqGuard .neq 30 x y (.int .i64 a) (.int .i64 b); binOp .neq 30 (.int .i64 a) (.int .i64 b)).run Tryd.prog w = .ok (.bool (!r)) w := by
  subst h; kernel_rfl
theorem eqz5 {a b : Int} (x y : Operand) (w : World) : (do eqGuard .eql 5 x y (.int .u8 a) (.int .u8 b); binOp .eql 5 (.int .u8 a) (.int .u8 b)).run Tryd.prog w = .ok (.bool (a == b)) w := by kernel_rfl
theorem rpa_n (s : ByteArray) (N E : Int) (w : World) (hs : s.size ≤ maxLen) (hsz0 : s.size ≤ 140737488355328) (hrp : (prs s).1 ≠ [] → ∀ w, Calls Tryd.prog 33 #[.string (strOf (prs s).1)] w fun e w' => e = .returned (.tuple #[nv N, .int .i64 E]) ∧ Mo w w') : Calls Tryd.prog 14 #[.string s] w fun e w' => e = .returned (rps s N E) ∧ Mo w w' := by
  refine w_enter 75 Tryd.func14 Tryd.ntmps14 rfl rfl ?_
  have M : Mo w w := Mo.refl _
  refine w_seq ?_
  refine w_reg ?_
  refine wl_alloc 26 #[.bool false, .int .u64 0, .int .u64 0, .int .u64 0, .int .u64 0, .int .i64 0] rfl (fun _ => by kernel_rfl) rfl ?_
  intro k1 w1 hk hz hq Q1
  have N_k1 : w.heap.size ≤ k1 := by have := M.size; omega
  replace M := M.trans hq
  clear hk hz hq
  refine wl_mv (.const (.int .i64 (0))) (.int .i64 (0)) (fun _ => rfl) rfl rfl ?_
  refine w_nil ?_
  refine xn_then ?_
  refine w_seq ?_
  refine w_seq ?_
  cases hf0 : whl s with
  | true =>
    refine w_reg ?_
    refine wl_mv (.tmp 0) (.string s) (fun _ => rfl) rfl rfl ?_
    refine wl_call 31 [(.tmp 11)] _ [.string s] (.bool true) rfl rfl (fun _ _ => by kernel_rfl) (whole_c hs hf0 _) rfl ?_
    intro w2 hq
    replace Q1 := Q1.mo hq
    replace M := M.trans hq
    clear hq
    refine wl_un (fun v => Op.unary .not v) (.tmp 12) (.bool true) (.bool false) (fun _ => rfl) rfl (by kernel_rfl) rfl ?_
    refine w_nil ?_
    refine xn_then ?_
    refine w_condF rfl ?_
    refine w_skip ?_
    refine xn_then ?_
    refine w_seq ?_
    refine w_reg ?_
    refine wl_mv (.tmp 0) (.string s) (fun _ => rfl) rfl rfl ?_
    refine wl_bin (fun x y => Instr.index 9 x y) (.tmp 15) (.const (.int .i64 (0))) (.string s) (.int .i64 (0)) (.int .u8 (bt s 0)) (fun _ => rfl) rfl rfl (idx_b (k := 0) (whl_pos hf0) _) rfl ?_
    refine wl_bin (fun x y => do eqGuard .eql 5 (.tmp 16) (.const (.int .u8 (45))) x y; binOp .eql 5 x y) (.tmp 16) (.const (.int .u8 (45))) (.int .u8 (bt s 0)) (.int .u8 (45)) (.bool (bt s 0 == 45)) (fun _ => rfl) rfl rfl (eqz5 _ _ _) rfl ?_
    refine wl_build 26 [(0, (.tmp 17))] [(0, .bool (bt s 0 == 45))] (.agg #[.bool (bt s 0 == 45), .int .u64 0, .int .u64 0, .int .u64 0, .int .u64 0, .int .i64 0]) rfl rfl (by kernel_rfl) rfl ?_
    refine wl_alloc 26 #[.bool false, .int .u64 0, .int .u64 0, .int .u64 0, .int .u64 0, .int .i64 0] rfl (fun _ => by kernel_rfl) rfl ?_
    intro k2 w3 hk hz hq Q2
    have ne_k1_k2 : k1 ≠ k2 := by have := Q1.lt; omega
    have N_k2 : w.heap.size ≤ k2 := by have := M.size; omega
    replace Q1 := Q1.mo hq
    replace M := M.trans hq
    clear hk hz hq
    refine wl_st 26 (.tmp 4) (.tmp 18) k2 0 #[.bool (bt s 0 == 45), .int .u64 0, .int .u64 0, .int .u64 0, .int .u64 0, .int .i64 0] [.bool false, .int .u64 0, .int .u64 0, .int .u64 0, .int .u64 0, .int .i64 0] [.bool (bt s 0 == 45), .int .u64 0, .int .u64 0, .int .u64 0, .int .u64 0, .int .i64 0] Q2 rfl rfl rfl rfl rfl sz26 rfl rfl rfl ?_
    intro w4 hS Qn
    replace Q2 := Qn
    clear Qn
    replace Q1 := hS.other _ _ ne_k1_k2 Q1
    replace M := hS.mo _ N_k2 M
    clear hS
    refine w_nil ?_
    refine xn_then ?_
    refine w_seq ?_
    refine w_reg ?_
    refine wl_mv (.const (.slice none 0 0)) (.slice none 0 0) (fun _ => rfl) rfl rfl ?_
    refine w_nil ?_
    refine xn_then ?_
    refine w_seq ?_
    refine w_reg ?_
    refine wl_mv (.const (.int .i64 (0))) (.int .i64 (0)) (fun _ => rfl) rfl rfl ?_
    refine w_nil ?_
    refine xn_then ?_
    refine w_seq ?_
    refine w_reg ?_
    refine wl_mv (.const (.bool false)) (.bool false) (fun _ => rfl) rfl rfl ?_
    refine w_nil ?_
    refine xn_then ?_
    refine w_cut (fun l w1 => ∃ (p : Option Addr) (cv h : Nat) (xs : List Int), look l 2 = pt k1 0 ∧ look l 4 = pt k2 0 ∧ look l 5 = .slice p xs.length cv ∧ look l 6 = .int .i64 (h : Int) ∧ (xs ≠ [] → ∃ g, p = some ⟨g, 0, none⟩ ∧ g ≠ k1 ∧ g ≠ k2 ∧ At w1 g (xs.map (Value.int .u8)) ∧ w.heap.size ≤ g) ∧ At w1 k1 z40l ∧ At w1 k2 [.bool (bt s 0 == 45), .int .u64 0, .int .u64 0, .int .u64 0, .int .u64 0, .int .i64 (0)] ∧ prs s = (xs, h) ∧ Mo w w1) ?_ ?_
    · skip
      clear M Q1 Q2
      rintro l wc ⟨p, cv, h, xs, e2, e4, e5, e6, hg, Q1, Q2, hR, M⟩
      by_cases hx : xs = []
      · have hxl : decide (xs.length = 0) = true := by rw [hx]; rfl
        refine w_seq ?_
        refine w_seq ?_
        cases hf1 : decide (18 < h) with
        | true =>
          have hf1p := of_decide_eq_true hf1
          refine w_reg ?_
          refine wl_mv (.tmp 6) (.int .i64 ((h : Nat) : Int)) (fun _ => rfl) e6 rfl ?_
          refine wl_bin (fun x y => do eqGuard .gtr 3 (.tmp 53) (.const (.int .i64 (18))) x y; binOp .gtr 3 x y) (.tmp 53) (.const (.int .i64 (18))) (.int .i64 ((h : Nat) : Int)) (.int .i64 (18)) (.bool true) (fun _ => rfl) rfl rfl (gtN hf1 _ _ _) rfl ?_
          refine w_nil ?_
          refine xn_then ?_
          refine w_condT rfl ?_
          refine w_seq ?_
          refine w_reg ?_
          refine wl_build 26 [] [] (.agg #[.bool false, .int .u64 0, .int .u64 0, .int .u64 0, .int .u64 0, .int .i64 0]) rfl rfl (by kernel_rfl) rfl ?_
          refine wl_st 26 (.tmp 2) (.tmp 55) k1 0 #[.bool false, .int .u64 0, .int .u64 0, .int .u64 0, .int .u64 0, .int .i64 0] [.bool false, .int .u64 0, .int .u64 0, .int .u64 0, .int .u64 0, .int .i64 0] [.bool false, .int .u64 0, .int .u64 0, .int .u64 0, .int .u64 0, .int .i64 0] Q1 rfl rfl e2 rfl rfl sz26 rfl rfl rfl ?_
          intro w41 hS Qn
          replace Q1 := Qn
          clear Qn
          replace Q2 := hS.other _ _ ne_k1_k2.symm Q2
          replace M := hS.mo _ N_k1 M
          clear hS
          refine wl_mv (.const (.int .i64 (31))) (.int .i64 (31)) (fun _ => rfl) rfl rfl ?_
          refine w_nil ?_
          refine xn_then ?_
          refine w_ret ?_
          refine xr_then ?_
          have hfin : rps s N E = .tuple #[.agg #[.bool false, .int .u64 0, .int .u64 0, .int .u64 0, .int .u64 0, .int .i64 0], .int .i64 (31)] := by unfold rps; rw [if_neg (by rw [hf0]; simp), hR, if_pos (of_decide_eq_true hf1)]; try rfl
          exact w_ret2 _ _ (.agg #[.bool false, .int .u64 0, .int .u64 0, .int .u64 0, .int .u64 0, .int .i64 0]) (.int .i64 (31)) rfl ⟨k1, e2, (run_row Q1 26 0 6 [.bool false, .int .u64 0, .int .u64 0, .int .u64 0, .int .u64 0, .int .i64 0] rfl Tryd.underlying26 rfl sz26)⟩ rfl ⟨by rw [hfin], M⟩
        | false =>
          have hf1p := of_decide_eq_false hf1
          refine w_reg ?_
          refine wl_mv (.tmp 6) (.int .i64 ((h : Nat) : Int)) (fun _ => rfl) e6 rfl ?_
          refine wl_bin (fun x y => do eqGuard .gtr 3 (.tmp 53) (.const (.int .i64 (18))) x y; binOp .gtr 3 x y) (.tmp 53) (.const (.int .i64 (18))) (.int .i64 ((h : Nat) : Int)) (.int .i64 (18)) (.bool false) (fun _ => rfl) rfl rfl (gtN hf1 _ _ _) rfl ?_
          refine w_nil ?_
          refine xn_then ?_
          refine w_condF rfl ?_
          refine w_skip ?_
          refine xn_then ?_
          refine w_seq ?_
          refine w_reg ?_
          refine wl_mv (.tmp 6) (.int .i64 ((h : Nat) : Int)) (fun _ => rfl) e6 rfl ?_
          refine wl_un (fun v => Instr.fieldAt 26 v 2) (.tmp 4) (pt k2 0) (pt k2 5) (fun _ => rfl) e4 (by kernel_rfl) rfl ?_
          refine wl_st1 3 (.tmp 57) (.tmp 56) k2 5 (.int .i64 ((h : Nat) : Int)) [.bool (bt s 0 == 45), .int .u64 0, .int .u64 0, .int .u64 0, .int .u64 0, .int .i64 (0)] [.bool (bt s 0 == 45), .int .u64 0, .int .u64 0, .int .u64 0, .int .u64 0, .int .i64 ((h : Nat) : Int)] Q2 rfl rfl rfl rfl rfl sz3 rfl rfl rfl rfl ?_
          intro w41 hS Qn
          replace Q2 := Qn
          clear Qn
          replace Q1 := hS.other _ _ ne_k1_k2 Q1
          replace M := hS.mo _ N_k2 M
          clear hS
          refine w_nil ?_
          refine xn_then ?_
          refine w_seq ?_
          refine w_seq ?_
          refine w_reg ?_
          refine wl_mv (.tmp 5) (.slice p xs.length cv) (fun _ => rfl) e5 rfl ?_
          refine wl_val (.int .i64 ((xs.length : Nat) : Int)) (lens_r2 _ _ _ _ cv (by exact rfl) _ _ _ _ _ _) rfl ?_
          refine wl_bin (fun x y => do eqGuard .eql 3 (.tmp 59) (.const (.int .i64 (0))) x y; binOp .eql 3 x y) (.tmp 59) (.const (.int .i64 (0))) (.int .i64 ((xs.length : Nat) : Int)) (.int .i64 (0)) (.bool true) (fun _ => rfl) rfl rfl (eqN hxl _ _ _) rfl ?_
          refine w_nil ?_
          refine xn_then ?_
          refine w_condT rfl ?_
          refine w_seq ?_
          refine w_reg ?_
          refine wl_load 26 (.tmp 4) (pt k2 0) (.agg #[.bool (bt s 0 == 45), .int .u64 0, .int .u64 0, .int .u64 0, .int .u64 0, .int .i64 ((h : Nat) : Int)]) rfl e4 (run_row Q2 26 0 6 [.bool (bt s 0 == 45), .int .u64 0, .int .u64 0, .int .u64 0, .int .u64 0, .int .i64 ((h : Nat) : Int)] rfl Tryd.underlying26 rfl sz26) rfl ?_
          refine wl_st 26 (.tmp 2) (.tmp 61) k1 0 #[.bool (bt s 0 == 45), .int .u64 0, .int .u64 0, .int .u64 0, .int .u64 0, .int .i64 ((h : Nat) : Int)] [.bool false, .int .u64 0, .int .u64 0, .int .u64 0, .int .u64 0, .int .i64 0] [.bool (bt s 0 == 45), .int .u64 0, .int .u64 0, .int .u64 0, .int .u64 0, .int .i64 ((h : Nat) : Int)] Q1 rfl rfl e2 rfl rfl sz26 rfl rfl rfl ?_
          intro w42 hS Qn
          replace Q1 := Qn
          clear Qn
          replace Q2 := hS.other _ _ ne_k1_k2.symm Q2
          replace M := hS.mo _ N_k1 M
          clear hS
          refine wl_mv (.const (.int .i64 (0))) (.int .i64 (0)) (fun _ => rfl) rfl rfl ?_
          refine w_nil ?_
          refine xn_then ?_
          refine w_ret ?_
          refine xr_then ?_
          have hfin : rps s N E = .tuple #[.agg #[.bool (bt s 0 == 45), .int .u64 0, .int .u64 0, .int .u64 0, .int .u64 0, .int .i64 ((h : Nat) : Int)], .int .i64 (0)] := by unfold rps; rw [if_neg (by rw [hf0]; simp), hR, if_neg (of_decide_eq_false hf1), if_pos (of_decide_eq_true hxl)]; try rfl
          exact w_ret2 _ _ (.agg #[.bool (bt s 0 == 45), .int .u64 0, .int .u64 0, .int .u64 0, .int .u64 0, .int .i64 ((h : Nat) : Int)]) (.int .i64 (0)) rfl ⟨k1, e2, (run_row Q1 26 0 6 [.bool (bt s 0 == 45), .int .u64 0, .int .u64 0, .int .u64 0, .int .u64 0, .int .i64 ((h : Nat) : Int)] rfl Tryd.underlying26 rfl sz26)⟩ rfl ⟨by rw [hfin], M⟩
      · obtain ⟨g, rfl, ne_g_k1, ne_g_k2, Qg, hgN⟩ := hg hx
        have hxl : decide (xs.length = 0) = false := decide_eq_false (fun e => hx (List.eq_nil_of_length_eq_zero e))
        have hrp2 : ∀ w, Calls Tryd.prog 33 #[.string (strOf xs)] w fun e w' => e = .returned (.tuple #[nv N, .int .i64 E]) ∧ Mo w w' := by have := hrp (by rw [hR]; exact hx); rw [hR] at this; exact this
        refine w_seq ?_
        refine w_seq ?_
        cases hf1 : decide (18 < h) with
        | true =>
          have hf1p := of_decide_eq_true hf1
          refine w_reg ?_
          refine wl_mv (.tmp 6) (.int .i64 ((h : Nat) : Int)) (fun _ => rfl) e6 rfl ?_
          refine wl_bin (fun x y => do eqGuard .gtr 3 (.tmp 53) (.const (.int .i64 (18))) x y; binOp .gtr 3 x y) (.tmp 53) (.const (.int .i64 (18))) (.int .i64 ((h : Nat) : Int)) (.int .i64 (18)) (.bool true) (fun _ => rfl) rfl rfl (gtN hf1 _ _ _) rfl ?_
          refine w_nil ?_
          refine xn_then ?_
          refine w_condT rfl ?_
          refine w_seq ?_
          refine w_reg ?_
          refine wl_build 26 [] [] (.agg #[.bool false, .int .u64 0, .int .u64 0, .int .u64 0, .int .u64 0, .int .i64 0]) rfl rfl (by kernel_rfl) rfl ?_
          refine wl_st 26 (.tmp 2) (.tmp 55) k1 0 #[.bool false, .int .u64 0, .int .u64 0, .int .u64 0, .int .u64 0, .int .i64 0] [.bool false, .int .u64 0, .int .u64 0, .int .u64 0, .int .u64 0, .int .i64 0] [.bool false, .int .u64 0, .int .u64 0, .int .u64 0, .int .u64 0, .int .i64 0] Q1 rfl rfl e2 rfl rfl sz26 rfl rfl rfl ?_
          intro w41 hS Qn
          replace Q1 := Qn
          clear Qn
          replace Q2 := hS.other _ _ ne_k1_k2.symm Q2
          replace Qg := hS.other _ _ ne_g_k1 Qg
          replace M := hS.mo _ N_k1 M
          clear hS
          refine wl_mv (.const (.int .i64 (31))) (.int .i64 (31)) (fun _ => rfl) rfl rfl ?_
          refine w_nil ?_
          refine xn_then ?_
          refine w_ret ?_
          refine xr_then ?_
          have hfin : rps s N E = .tuple #[.agg #[.bool false, .int .u64 0, .int .u64 0, .int .u64 0, .int .u64 0, .int .i64 0], .int .i64 (31)] := by unfold rps; rw [if_neg (by rw [hf0]; simp), hR, if_pos (of_decide_eq_true hf1)]; try rfl
          exact w_ret2 _ _ (.agg #[.bool false, .int .u64 0, .int .u64 0, .int .u64 0, .int .u64 0, .int .i64 0]) (.int .i64 (31)) rfl ⟨k1, e2, (run_row Q1 26 0 6 [.bool false, .int .u64 0, .int .u64 0, .int .u64 0, .int .u64 0, .int .i64 0] rfl Tryd.underlying26 rfl sz26)⟩ rfl ⟨by rw [hfin], M⟩
        | false =>
          have hf1p := of_decide_eq_false hf1
          refine w_reg ?_
          refine wl_mv (.tmp 6) (.int .i64 ((h : Nat) : Int)) (fun _ => rfl) e6 rfl ?_
          refine wl_bin (fun x y => do eqGuard .gtr 3 (.tmp 53) (.const (.int .i64 (18))) x y; binOp .gtr 3 x y) (.tmp 53) (.const (.int .i64 (18))) (.int .i64 ((h : Nat) : Int)) (.int .i64 (18)) (.bool false) (fun _ => rfl) rfl rfl (gtN hf1 _ _ _) rfl ?_
          refine w_nil ?_
          refine xn_then ?_
          refine w_condF rfl ?_
          refine w_skip ?_
          refine xn_then ?_
          refine w_seq ?_
          refine w_reg ?_
          refine wl_mv (.tmp 6) (.int .i64 ((h : Nat) : Int)) (fun _ => rfl) e6 rfl ?_
          refine wl_un (fun v => Instr.fieldAt 26 v 2) (.tmp 4) (pt k2 0) (pt k2 5) (fun _ => rfl) e4 (by kernel_rfl) rfl ?_
          refine wl_st1 3 (.tmp 57) (.tmp 56) k2 5 (.int .i64 ((h : Nat) : Int)) [.bool (bt s 0 == 45), .int .u64 0, .int .u64 0, .int .u64 0, .int .u64 0, .int .i64 (0)] [.bool (bt s 0 == 45), .int .u64 0, .int .u64 0, .int .u64 0, .int .u64 0, .int .i64 ((h : Nat) : Int)] Q2 rfl rfl rfl rfl rfl sz3 rfl rfl rfl rfl ?_
          intro w41 hS Qn
          replace Q2 := Qn
          clear Qn
          replace Q1 := hS.other _ _ ne_k1_k2 Q1
          replace Qg := hS.other _ _ ne_g_k2 Qg
          replace M := hS.mo _ N_k2 M
          clear hS
          refine w_nil ?_
          refine xn_then ?_
          refine w_seq ?_
          refine w_seq ?_
          refine w_reg ?_
          refine wl_mv (.tmp 5) (.slice (some ⟨g, 0, none⟩) xs.length cv) (fun _ => rfl) e5 rfl ?_
          refine wl_val (.int .i64 ((xs.length : Nat) : Int)) (lens_r2 _ _ _ _ cv (by exact rfl) _ _ _ _ _ _) rfl ?_
          refine wl_bin (fun x y => do eqGuard .eql 3 (.tmp 59) (.const (.int .i64 (0))) x y; binOp .eql 3 x y) (.tmp 59) (.const (.int .i64 (0))) (.int .i64 ((xs.length : Nat) : Int)) (.int .i64 (0)) (.bool false) (fun _ => rfl) rfl rfl (eqN hxl _ _ _) rfl ?_
          refine w_nil ?_
          refine xn_then ?_
          refine w_condF rfl ?_
          refine w_skip ?_
          refine xn_then ?_
          refine w_seq ?_
          refine w_reg ?_
          refine wl_mv (.tmp 5) (.slice (some ⟨g, 0, none⟩) xs.length cv) (fun _ => rfl) e5 rfl ?_
          refine wl_un (fun v => convert 51 9 v) (.tmp 63) (.slice (some ⟨g, 0, none⟩) xs.length cv) (.string (strOf xs)) (fun _ => rfl) rfl (str_run _ g cv xs Qg _ rfl) rfl ?_
          refine wl_call 33 [(.tmp 64)] _ [.string (strOf xs)] (.tuple #[.agg #[.int .u64 (l0 N), .int .u64 (l1 N), .int .u64 (l2 N), .int .u64 (l3 N)], .int .i64 (E)]) rfl rfl (fun _ _ => by kernel_rfl) (hrp2 _) rfl ?_
          intro w42 hq
          replace Q1 := Q1.mo hq
          replace Q2 := Q2.mo hq
          replace Qg := Qg.mo hq
          replace M := M.trans hq
          clear hq
          refine wl_mv (.tmp 65) (.tuple #[.agg #[.int .u64 (l0 N), .int .u64 (l1 N), .int .u64 (l2 N), .int .u64 (l3 N)], .int .i64 (E)]) (fun _ => rfl) rfl rfl ?_
          refine wl_un (fun v => Instr.extract v 0) (.tmp 62) (.tuple #[.agg #[.int .u64 (l0 N), .int .u64 (l1 N), .int .u64 (l2 N), .int .u64 (l3 N)], .int .i64 (E)]) (.agg #[.int .u64 (l0 N), .int .u64 (l1 N), .int .u64 (l2 N), .int .u64 (l3 N)]) (fun _ => rfl) rfl (by kernel_rfl) rfl ?_
          refine wl_un (fun v => Instr.extract v 1) (.tmp 62) (.tuple #[.agg #[.int .u64 (l0 N), .int .u64 (l1 N), .int .u64 (l2 N), .int .u64 (l3 N)], .int .i64 (E)]) (.int .i64 (E)) (fun _ => rfl) rfl (by kernel_rfl) rfl ?_
          refine wl_alloc 24 #[.int .u64 0, .int .u64 0, .int .u64 0, .int .u64 0] rfl (fun _ => by kernel_rfl) rfl ?_
          intro k3 w43 hk hz hq Q3
          have ne_k1_k3 : k1 ≠ k3 := by have := Q1.lt; omega
          have ne_k2_k3 : k2 ≠ k3 := by have := Q2.lt; omega
          have ne_g_k3 : g ≠ k3 := by have := Qg.lt; omega
          have N_k3 : w.heap.size ≤ k3 := by have := M.size; omega
          replace Q1 := Q1.mo hq
          replace Q2 := Q2.mo hq
          replace Qg := Qg.mo hq
          replace M := M.trans hq
          clear hk hz hq
          refine wl_st 24 (.tmp 9) (.tmp 66) k3 0 #[.int .u64 (l0 N), .int .u64 (l1 N), .int .u64 (l2 N), .int .u64 (l3 N)] [.int .u64 0, .int .u64 0, .int .u64 0, .int .u64 0] [.int .u64 (l0 N), .int .u64 (l1 N), .int .u64 (l2 N), .int .u64 (l3 N)] Q3 rfl rfl rfl rfl rfl sz24 rfl rfl rfl ?_
          intro w44 hS Qn
          replace Q3 := Qn
          clear Qn
          replace Q1 := hS.other _ _ ne_k1_k3 Q1
          replace Q2 := hS.other _ _ ne_k2_k3 Q2
          replace Qg := hS.other _ _ ne_g_k3 Qg
          replace M := hS.mo _ N_k3 M
          clear hS
          refine wl_mv (.tmp 67) (.int .i64 (E)) (fun _ => rfl) rfl rfl ?_
          refine w_nil ?_
          refine xn_then ?_
          refine w_seq ?_
          refine w_seq ?_
          cases hf2 : (E == 0) with
          | true =>
            refine w_reg ?_
            refine wl_mv (.tmp 10) (.int .i64 (E)) (fun _ => rfl) rfl rfl ?_
            refine wl_bin (fun x y => do eqGuard .neq 30 (.tmp 68) (.const (.int .i64 (0))) x y; binOp .neq 30 x y) (.tmp 68) (.const (.int .i64 (0))) (.int .i64 (E)) (.int .i64 (0)) (.bool false) (fun _ => rfl) rfl rfl (ne30 hf2 _ _ _) rfl ?_
            refine w_nil ?_
            refine xn_then ?_
            refine w_condF rfl ?_
            refine w_skip ?_
            refine xn_then ?_
            refine w_seq ?_
            refine w_reg ?_
            refine wl_load 24 (.tmp 9) (pt k3 0) (.agg #[.int .u64 (l0 N), .int .u64 (l1 N), .int .u64 (l2 N), .int .u64 (l3 N)]) rfl rfl (run_row Q3 24 0 4 [.int .u64 (l0 N), .int .u64 (l1 N), .int .u64 (l2 N), .int .u64 (l3 N)] rfl Tryd.underlying24 rfl sz24) rfl ?_
            refine wl_un (fun v => Instr.fieldAt 26 v 1) (.tmp 4) (pt k2 0) (pt k2 1) (fun _ => rfl) e4 (by kernel_rfl) rfl ?_
            refine wl_st 24 (.tmp 73) (.tmp 72) k2 1 #[.int .u64 (l0 N), .int .u64 (l1 N), .int .u64 (l2 N), .int .u64 (l3 N)] [.bool (bt s 0 == 45), .int .u64 0, .int .u64 0, .int .u64 0, .int .u64 0, .int .i64 ((h : Nat) : Int)] [.bool (bt s 0 == 45), .int .u64 (l0 N), .int .u64 (l1 N), .int .u64 (l2 N), .int .u64 (l3 N), .int .i64 ((h : Nat) : Int)] Q2 rfl rfl rfl rfl rfl sz24 rfl rfl rfl ?_
            intro w45 hS Qn
            replace Q2 := Qn
            clear Qn
            replace Q1 := hS.other _ _ ne_k1_k2 Q1
            replace Qg := hS.other _ _ ne_g_k2 Qg
            replace Q3 := hS.other _ _ ne_k2_k3.symm Q3
            replace M := hS.mo _ N_k2 M
            clear hS
            refine w_nil ?_
            refine xn_then ?_
            refine w_seq ?_
            refine w_reg ?_
            refine wl_load 26 (.tmp 4) (pt k2 0) (.agg #[.bool (bt s 0 == 45), .int .u64 (l0 N), .int .u64 (l1 N), .int .u64 (l2 N), .int .u64 (l3 N), .int .i64 ((h : Nat) : Int)]) rfl e4 (run_row Q2 26 0 6 [.bool (bt s 0 == 45), .int .u64 (l0 N), .int .u64 (l1 N), .int .u64 (l2 N), .int .u64 (l3 N), .int .i64 ((h : Nat) : Int)] rfl Tryd.underlying26 rfl sz26) rfl ?_
            refine wl_st 26 (.tmp 2) (.tmp 74) k1 0 #[.bool (bt s 0 == 45), .int .u64 (l0 N), .int .u64 (l1 N), .int .u64 (l2 N), .int .u64 (l3 N), .int .i64 ((h : Nat) : Int)] [.bool false, .int .u64 0, .int .u64 0, .int .u64 0, .int .u64 0, .int .i64 0] [.bool (bt s 0 == 45), .int .u64 (l0 N), .int .u64 (l1 N), .int .u64 (l2 N), .int .u64 (l3 N), .int .i64 ((h : Nat) : Int)] Q1 rfl rfl e2 rfl rfl sz26 rfl rfl rfl ?_
            intro w46 hS Qn
            replace Q1 := Qn
            clear Qn
            replace Q2 := hS.other _ _ ne_k1_k2.symm Q2
            replace Qg := hS.other _ _ ne_g_k1 Qg
            replace Q3 := hS.other _ _ ne_k1_k3.symm Q3
            replace M := hS.mo _ N_k1 M
            clear hS
            refine wl_mv (.const (.int .i64 (0))) (.int .i64 (0)) (fun _ => rfl) rfl rfl ?_
            refine w_nil ?_
            refine xn_then ?_
            refine w_ret ?_
            have hfin : rps s N E = .tuple #[.agg #[.bool (bt s 0 == 45), .int .u64 (l0 N), .int .u64 (l1 N), .int .u64 (l2 N), .int .u64 (l3 N), .int .i64 ((h : Nat) : Int)], .int .i64 (0)] := by unfold rps; rw [if_neg (by rw [hf0]; simp), hR, if_neg (of_decide_eq_false hf1), if_neg (of_decide_eq_false hxl), if_neg (by rw [hf2]; simp)]; try rfl
            exact w_ret2 _ _ (.agg #[.bool (bt s 0 == 45), .int .u64 (l0 N), .int .u64 (l1 N), .int .u64 (l2 N), .int .u64 (l3 N), .int .i64 ((h : Nat) : Int)]) (.int .i64 (0)) rfl ⟨k1, e2, (run_row Q1 26 0 6 [.bool (bt s 0 == 45), .int .u64 (l0 N), .int .u64 (l1 N), .int .u64 (l2 N), .int .u64 (l3 N), .int .i64 ((h : Nat) : Int)] rfl Tryd.underlying26 rfl sz26)⟩ rfl ⟨by rw [hfin], M⟩
          | false =>
            refine w_reg ?_
            refine wl_mv (.tmp 10) (.int .i64 (E)) (fun _ => rfl) rfl rfl ?_
            refine wl_bin (fun x y => do eqGuard .neq 30 (.tmp 68) (.const (.int .i64 (0))) x y; binOp .neq 30 x y) (.tmp 68) (.const (.int .i64 (0))) (.int .i64 (E)) (.int .i64 (0)) (.bool true) (fun _ => rfl) rfl rfl (ne30 hf2 _ _ _) rfl ?_
            refine w_nil ?_
            refine xn_then ?_
            refine w_condT rfl ?_
            refine w_seq ?_
            refine w_reg ?_
            refine wl_build 26 [] [] (.agg #[.bool false, .int .u64 0, .int .u64 0, .int .u64 0, .int .u64 0, .int .i64 0]) rfl rfl (by kernel_rfl) rfl ?_
            refine wl_mv (.tmp 10) (.int .i64 (E)) (fun _ => rfl) rfl rfl ?_
            refine wl_st 26 (.tmp 2) (.tmp 70) k1 0 #[.bool false, .int .u64 0, .int .u64 0, .int .u64 0, .int .u64 0, .int .i64 0] [.bool false, .int .u64 0, .int .u64 0, .int .u64 0, .int .u64 0, .int .i64 0] [.bool false, .int .u64 0, .int .u64 0, .int .u64 0, .int .u64 0, .int .i64 0] Q1 rfl rfl e2 rfl rfl sz26 rfl rfl rfl ?_
            intro w45 hS Qn
            replace Q1 := Qn
            clear Qn
            replace Q2 := hS.other _ _ ne_k1_k2.symm Q2
            replace Qg := hS.other _ _ ne_g_k1 Qg
            replace Q3 := hS.other _ _ ne_k1_k3.symm Q3
            replace M := hS.mo _ N_k1 M
            clear hS
            refine wl_mv (.tmp 71) (.int .i64 (E)) (fun _ => rfl) rfl rfl ?_
            refine w_nil ?_
            refine xn_then ?_
            refine w_ret ?_
            refine xr_then ?_
            have hfin : rps s N E = .tuple #[.agg #[.bool false, .int .u64 0, .int .u64 0, .int .u64 0, .int .u64 0, .int .i64 0], .int .i64 (E)] := by unfold rps; rw [if_neg (by rw [hf0]; simp), hR, if_neg (of_decide_eq_false hf1), if_neg (of_decide_eq_false hxl), if_pos hf2]; try rfl
            exact w_ret2 _ _ (.agg #[.bool false, .int .u64 0, .int .u64 0, .int .u64 0, .int .u64 0, .int .i64 0]) (.int .i64 (E)) rfl ⟨k1, e2, (run_row Q1 26 0 6 [.bool false, .int .u64 0, .int .u64 0, .int .u64 0, .int .u64 0, .int .i64 0] rfl Tryd.underlying26 rfl sz26)⟩ rfl ⟨by rw [hfin], M⟩
    · skip
      refine w_seq ?_
      refine w_reg ?_
      refine wl_mv (.const (.int .i64 (0))) (.int .i64 (0)) (fun _ => rfl) rfl rfl ?_
      refine w_nil ?_
      refine xn_then ?_
      refine w_block ?_
      refine w_loop (fun m l w1 => ∃ (i h : Nat) (q : Bool) (xs : List Int) (v : Value), m = s.size - i ∧ look l 0 = .string s ∧ look l 2 = pt k1 0 ∧ look l 4 = pt k2 0 ∧ look l 5 = v ∧ look l 6 = .int .i64 (h : Int) ∧ look l 7 = .bool q ∧ look l 8 = .int .i64 (i : Int) ∧ i ≤ s.size ∧ xs.length ≤ i ∧ h ≤ i ∧ At w1 k1 z40l ∧ At w1 k2 [.bool (bt s 0 == 45), .int .u64 0, .int .u64 0, .int .u64 0, .int .u64 0, .int .i64 (0)] ∧ w1.ownsRow w.heap.size 5 1 v xs.length (xs.map (Value.int .u8)) ∧ v.ownBlock ≠ some k1 ∧ v.ownBlock ≠ some k2 ∧ pr s i xs h q = prs s ∧ Mo w w1) _ ⟨0, 0, false, [], .slice none 0 0, rfl, rfl, rfl, rfl, rfl, rfl, rfl, rfl, by omega, by simp, by omega, Q1, Q2, World.ownsRow_nil _ _ _ _, by simp [Value.ownBlock], by simp [Value.ownBlock], rfl, M⟩ ?_
      clear M Q1 Q2
      rintro m l wl ⟨i, h, q, xs, v, rfl, e0, e2, e4, e5, e6, e7, e8, his, hxi, hhi, Q1, Q2, hown, on_k1, on_k2, hR, M⟩
      obtain ⟨pv, cv, hv⟩ := own_form hown
      have hsz := M.size
      refine w_seq ?_
      refine w_seq ?_
      cases hf1 : decide (i < s.size) with
      | true =>
        have hf1p := of_decide_eq_true hf1
        refine w_reg ?_
        refine wl_mv (.tmp 8) (.int .i64 ((i : Nat) : Int)) (fun _ => rfl) e8 rfl ?_
        refine wl_mv (.tmp 0) (.string s) (fun _ => rfl) e0 rfl ?_
        refine wl_val (.int .i64 ((s.size : Nat) : Int)) (len_s _ _ s (by exact rfl) _ _ _ _ _ _) rfl ?_
        refine wl_bin (fun x y => do eqGuard .lss 3 (.tmp 19) (.tmp 21) x y; binOp .lss 3 x y) (.tmp 19) (.tmp 21) (.int .i64 ((i : Nat) : Int)) (.int .i64 ((s.size : Nat) : Int)) (.bool true) (fun _ => rfl) rfl rfl (ltN hf1 _ _ _) rfl ?_
        refine w_nil ?_
        refine xn_then ?_
        refine w_condT rfl ?_
        refine w_skip ?_
        refine xn_then ?_
        refine w_seq ?_
        refine w_block ?_
        refine w_block ?_
        refine w_seq ?_
        cases hf2 : (bt s (i) == 46) with
        | true =>
          refine w_reg ?_
          refine wl_mv (.tmp 0) (.string s) (fun _ => rfl) e0 rfl ?_
          refine wl_mv (.tmp 8) (.int .i64 ((i : Nat) : Int)) (fun _ => rfl) e8 rfl ?_
          refine wl_bin (fun x y => Instr.index 9 x y) (.tmp 26) (.tmp 27) (.string s) (.int .i64 ((i : Nat) : Int)) (.int .u8 (bt s (i))) (fun _ => rfl) rfl rfl (idx_b (by omega) _) rfl ?_
          refine wl_bin (fun x y => do eqGuard .eql 5 (.tmp 28) (.const (.int .u8 (46))) x y; binOp .eql 5 x y) (.tmp 28) (.const (.int .u8 (46))) (.int .u8 (bt s (i))) (.int .u8 (46)) (.bool true) (fun _ => rfl) rfl rfl (eq5r hf2 _ _ _) rfl ?_
          refine wl_mv (.tmp 29) (.bool true) (fun _ => rfl) rfl rfl ?_
          refine w_nil ?_
          refine xn_then ?_
          refine w_condT rfl ?_
          refine w_reg ?_
          refine wl_mv (.const (.bool true)) (.bool true) (fun _ => rfl) rfl rfl ?_
          refine w_nil ?_
          refine xn_blk ?_
          refine xn_blk ?_
          refine xn_then ?_
          refine w_reg ?_
          refine wl_mv (.tmp 8) (.int .i64 ((i : Nat) : Int)) (fun _ => rfl) e8 rfl ?_
          refine wl_bin (fun x y => do eqGuard .add 3 (.tmp 23) (.const (.int .i64 (1))) x y; binOp .add 3 x y) (.tmp 23) (.const (.int .i64 (1))) (.int .i64 ((i : Nat) : Int)) (.int .i64 (1)) (.int .i64 ((i + 1 : Nat) : Int)) (fun _ => rfl) rfl rfl (add1r (k := i) (by omega) _ _ _) rfl ?_
          refine wl_mv (.tmp 24) (.int .i64 ((i + 1 : Nat) : Int)) (fun _ => rfl) rfl rfl ?_
          refine w_nil ?_
          exact xn_loop (s.size - (i + 1)) (by omega) ⟨i + 1, h, true, xs, v, rfl, e0, e2, e4, e5, e6, rfl, rfl, by omega, by first | omega | (simp; omega), by omega, Q1, Q2, hown, on_k1, on_k2, by rw [← hR, pr_in (of_decide_eq_true hf1)]; simp [hf2], M⟩
        | false =>
          refine w_reg ?_
          refine wl_mv (.tmp 0) (.string s) (fun _ => rfl) e0 rfl ?_
          refine wl_mv (.tmp 8) (.int .i64 ((i : Nat) : Int)) (fun _ => rfl) e8 rfl ?_
          refine wl_bin (fun x y => Instr.index 9 x y) (.tmp 26) (.tmp 27) (.string s) (.int .i64 ((i : Nat) : Int)) (.int .u8 (bt s (i))) (fun _ => rfl) rfl rfl (idx_b (by omega) _) rfl ?_
          refine wl_bin (fun x y => do eqGuard .eql 5 (.tmp 28) (.const (.int .u8 (46))) x y; binOp .eql 5 x y) (.tmp 28) (.const (.int .u8 (46))) (.int .u8 (bt s (i))) (.int .u8 (46)) (.bool false) (fun _ => rfl) rfl rfl (eq5r hf2 _ _ _) rfl ?_
          refine wl_mv (.tmp 29) (.bool false) (fun _ => rfl) rfl rfl ?_
          refine w_nil ?_
          refine xn_then ?_
          refine w_condF rfl ?_
          refine w_seq ?_
          cases hf3 : dgt (bt s (i)) with
          | true =>
            refine w_reg ?_
            refine wl_mv (.tmp 0) (.string s) (fun _ => rfl) e0 rfl ?_
            refine wl_mv (.tmp 8) (.int .i64 ((i : Nat) : Int)) (fun _ => rfl) e8 rfl ?_
            refine wl_bin (fun x y => Instr.index 9 x y) (.tmp 31) (.tmp 32) (.string s) (.int .i64 ((i : Nat) : Int)) (.int .u8 (bt s (i))) (fun _ => rfl) rfl rfl (idx_b (by omega) _) rfl ?_
            refine wl_call 32 [(.tmp 33)] _ [.int .u8 (bt s (i))] (.bool true) rfl rfl (fun _ _ => by kernel_rfl) (digit_c hf3 _) rfl ?_
            intro w21 hq
            replace hown := own_mo hown hq
            replace Q1 := Q1.mo hq
            replace Q2 := Q2.mo hq
            replace M := M.trans hq
            clear hq
            refine wl_mv (.tmp 34) (.bool true) (fun _ => rfl) rfl rfl ?_
            refine w_nil ?_
            refine xn_then ?_
            refine w_condT rfl ?_
            refine w_seq ?_
            refine w_seq ?_
            refine w_reg ?_
            refine wl_mv (.tmp 7) (.bool q) (fun _ => rfl) e7 rfl ?_
            refine w_nil ?_
            refine xn_then ?_
            cases q with
            | true =>
              refine w_condT rfl ?_
              refine w_reg ?_
              refine wl_mv (.tmp 6) (.int .i64 ((h : Nat) : Int)) (fun _ => rfl) e6 rfl ?_
              refine wl_bin (fun x y => do eqGuard .add 3 (.tmp 36) (.const (.int .i64 (1))) x y; binOp .add 3 x y) (.tmp 36) (.const (.int .i64 (1))) (.int .i64 ((h : Nat) : Int)) (.int .i64 (1)) (.int .i64 ((h + 1 : Nat) : Int)) (fun _ => rfl) rfl rfl (add1r (k := h) (by omega) _ _ _) rfl ?_
              refine wl_mv (.tmp 37) (.int .i64 ((h + 1 : Nat) : Int)) (fun _ => rfl) rfl rfl ?_
              refine w_nil ?_
              refine xn_then ?_
              refine w_seq ?_
              cases hf4 : decide (0 < xs.length) with
              | true =>
                have hf4p := of_decide_eq_true hf4
                refine w_reg ?_
                refine wl_mv (.tmp 5) (v) (fun _ => rfl) e5 rfl ?_
                refine wl_val (.int .i64 ((xs.length : Nat) : Int)) (lens_r2 _ _ pv _ cv (Eq.trans (b := v) (by exact rfl) hv) _ _ _ _ _ _) rfl ?_
                refine wl_bin (fun x y => do eqGuard .gtr 3 (.tmp 39) (.const (.int .i64 (0))) x y; binOp .gtr 3 x y) (.tmp 39) (.const (.int .i64 (0))) (.int .i64 ((xs.length : Nat) : Int)) (.int .i64 (0)) (.bool true) (fun _ => rfl) rfl rfl (gtN hf4 _ _ _) rfl ?_
                refine wl_mv (.tmp 40) (.bool true) (fun _ => rfl) rfl rfl ?_
                refine wl_skip rfl ?_
                refine wl_skip rfl ?_
                refine wl_skip rfl ?_
                refine wl_skip rfl ?_
                refine wl_pick (.tmp 41) (.const (.bool true)) (.tmp 45) true (.bool true) (fun _ => rfl) rfl rfl rfl ?_
                refine w_nil ?_
                refine xn_then ?_
                refine w_condT rfl ?_
                refine w_reg ?_
                refine wl_mv (.tmp 5) (v) (fun _ => rfl) e5 rfl ?_
                refine wl_mv (.tmp 0) (.string s) (fun _ => rfl) e0 rfl ?_
                refine wl_mv (.tmp 8) (.int .i64 ((i : Nat) : Int)) (fun _ => rfl) e8 rfl ?_
                refine wl_bin (fun x y => Instr.index 9 x y) (.tmp 48) (.tmp 49) (.string s) (.int .i64 ((i : Nat) : Int)) (.int .u8 (bt s (i))) (fun _ => rfl) rfl rfl (idx_b (by omega) _) rfl ?_
                refine wl_bsl (.tmp 50) (bt s (i)) rfl rfl rfl ?_
                intro k21 w22 hk hz2 hq Q21
                have ne_k1_k21 : k1 ≠ k21 := by have := Q1.lt; omega
                have ne_k2_k21 : k2 ≠ k21 := by have := Q2.lt; omega
                have on_k21 : v.ownBlock ≠ some k21 := fun e => by have := (hown.lt _ e).2; omega
                have N_k21 : w.heap.size ≤ k21 := by have := M.size; omega
                replace hown := own_mo hown hq
                replace Q1 := Q1.mo hq
                replace Q2 := Q2.mo hq
                replace M := M.trans hq
                clear hk hz2 hq
                refine wl_app2 (.tmp 47) (.tmp 51) w.heap.size v xs.length (xs.map (Value.int .u8)) k21 (bt s (i)) rfl rfl rfl hown Q21 (by omega) (by have := M.size; omega) rfl ?_
                intro v' w23 hown2 hW hat
                have hne_k1 : v'.ownBlock ≠ some k1 := by rcases hat with h | h <;> rw [h]; exact on_k1; intro e; cases e; have := Q1.lt; omega
                have hne_k2 : v'.ownBlock ≠ some k2 := by rcases hat with h | h <;> rw [h]; exact on_k2; intro e; cases e; have := Q2.lt; omega
                replace M := hW.mo M (fun j e => (hown.lt _ e).1)
                replace Q1 := hW.at Q1 on_k1
                replace Q2 := hW.at Q2 on_k2
                replace Q21 := hW.at Q21 on_k21
                clear hown hW hat
                have hown := hown2
                clear hown2
                replace on_k1 := hne_k1
                replace on_k2 := hne_k2
                refine wl_mv (.tmp 52) (v') (fun _ => rfl) rfl rfl ?_
                refine w_nil ?_
                refine xn_blk ?_
                refine xn_blk ?_
                refine xn_then ?_
                refine w_reg ?_
                refine wl_mv (.tmp 8) (.int .i64 ((i : Nat) : Int)) (fun _ => rfl) e8 rfl ?_
                refine wl_bin (fun x y => do eqGuard .add 3 (.tmp 23) (.const (.int .i64 (1))) x y; binOp .add 3 x y) (.tmp 23) (.const (.int .i64 (1))) (.int .i64 ((i : Nat) : Int)) (.int .i64 (1)) (.int .i64 ((i + 1 : Nat) : Int)) (fun _ => rfl) rfl rfl (add1r (k := i) (by omega) _ _ _) rfl ?_
                refine wl_mv (.tmp 24) (.int .i64 ((i + 1 : Nat) : Int)) (fun _ => rfl) rfl rfl ?_
                refine w_nil ?_
                exact xn_loop (s.size - (i + 1)) (by omega) ⟨i + 1, h + 1, true, (xs ++ [bt s i]), v', rfl, e0, e2, e4, rfl, rfl, e7, rfl, by omega, by first | omega | (simp; omega), by omega, Q1, Q2, by rw [List.length_append, List.map_append]; exact hown, on_k1, on_k2, by rw [← hR, pr_in (of_decide_eq_true hf1)]; simp [hf2, hf3, hf4p], M⟩
              | false =>
                have hf4p := of_decide_eq_false hf4
                cases hf5 : (bt s (i) == 48) with
                | true =>
                  refine w_reg ?_
                  refine wl_mv (.tmp 5) (v) (fun _ => rfl) e5 rfl ?_
                  refine wl_val (.int .i64 ((xs.length : Nat) : Int)) (lens_r2 _ _ pv _ cv (Eq.trans (b := v) (by exact rfl) hv) _ _ _ _ _ _) rfl ?_
                  refine wl_bin (fun x y => do eqGuard .gtr 3 (.tmp 39) (.const (.int .i64 (0))) x y; binOp .gtr 3 x y) (.tmp 39) (.const (.int .i64 (0))) (.int .i64 ((xs.length : Nat) : Int)) (.int .i64 (0)) (.bool false) (fun _ => rfl) rfl rfl (gtN hf4 _ _ _) rfl ?_
                  refine wl_mv (.tmp 40) (.bool false) (fun _ => rfl) rfl rfl ?_
                  refine wl_mv (.tmp 0) (.string s) (fun _ => rfl) e0 rfl ?_
                  refine wl_mv (.tmp 8) (.int .i64 ((i : Nat) : Int)) (fun _ => rfl) e8 rfl ?_
                  refine wl_bin (fun x y => Instr.index 9 x y) (.tmp 42) (.tmp 43) (.string s) (.int .i64 ((i : Nat) : Int)) (.int .u8 (bt s (i))) (fun _ => rfl) rfl rfl (idx_b (by omega) _) rfl ?_
                  refine wl_bin (fun x y => do eqGuard .neq 5 (.tmp 44) (.const (.int .u8 (48))) x y; binOp .neq 5 x y) (.tmp 44) (.const (.int .u8 (48))) (.int .u8 (bt s (i))) (.int .u8 (48)) (.bool false) (fun _ => rfl) rfl rfl (ne5r hf5 _ _ _) rfl ?_
                  refine wl_pick (.tmp 41) (.const (.bool true)) (.tmp 45) false (.bool false) (fun _ => rfl) rfl rfl rfl ?_
                  refine w_nil ?_
                  refine xn_then ?_
                  refine w_condF rfl ?_
                  refine w_skip ?_
                  refine xn_blk ?_
                  refine xn_blk ?_
                  refine xn_then ?_
                  refine w_reg ?_
                  refine wl_mv (.tmp 8) (.int .i64 ((i : Nat) : Int)) (fun _ => rfl) e8 rfl ?_
                  refine wl_bin (fun x y => do eqGuard .add 3 (.tmp 23) (.const (.int .i64 (1))) x y; binOp .add 3 x y) (.tmp 23) (.const (.int .i64 (1))) (.int .i64 ((i : Nat) : Int)) (.int .i64 (1)) (.int .i64 ((i + 1 : Nat) : Int)) (fun _ => rfl) rfl rfl (add1r (k := i) (by omega) _ _ _) rfl ?_
                  refine wl_mv (.tmp 24) (.int .i64 ((i + 1 : Nat) : Int)) (fun _ => rfl) rfl rfl ?_
                  refine w_nil ?_
                  exact xn_loop (s.size - (i + 1)) (by omega) ⟨i + 1, h + 1, true, xs, v, rfl, e0, e2, e4, e5, rfl, e7, rfl, by omega, by first | omega | (simp; omega), by omega, Q1, Q2, hown, on_k1, on_k2, by rw [← hR, pr_in (of_decide_eq_true hf1)]; simp [hf2, hf3, hf4p, hf5], M⟩
                | false =>
                  refine w_reg ?_
                  refine wl_mv (.tmp 5) (v) (fun _ => rfl) e5 rfl ?_
                  refine wl_val (.int .i64 ((xs.length : Nat) : Int)) (lens_r2 _ _ pv _ cv (Eq.trans (b := v) (by exact rfl) hv) _ _ _ _ _ _) rfl ?_
                  refine wl_bin (fun x y => do eqGuard .gtr 3 (.tmp 39) (.const (.int .i64 (0))) x y; binOp .gtr 3 x y) (.tmp 39) (.const (.int .i64 (0))) (.int .i64 ((xs.length : Nat) : Int)) (.int .i64 (0)) (.bool false) (fun _ => rfl) rfl rfl (gtN hf4 _ _ _) rfl ?_
                  refine wl_mv (.tmp 40) (.bool false) (fun _ => rfl) rfl rfl ?_
                  refine wl_mv (.tmp 0) (.string s) (fun _ => rfl) e0 rfl ?_
                  refine wl_mv (.tmp 8) (.int .i64 ((i : Nat) : Int)) (fun _ => rfl) e8 rfl ?_
                  refine wl_bin (fun x y => Instr.index 9 x y) (.tmp 42) (.tmp 43) (.string s) (.int .i64 ((i : Nat) : Int)) (.int .u8 (bt s (i))) (fun _ => rfl) rfl rfl (idx_b (by omega) _) rfl ?_
                  refine wl_bin (fun x y => do eqGuard .neq 5 (.tmp 44) (.const (.int .u8 (48))) x y; binOp .neq 5 x y) (.tmp 44) (.const (.int .u8 (48))) (.int .u8 (bt s (i))) (.int .u8 (48)) (.bool true) (fun _ => rfl) rfl rfl (ne5r hf5 _ _ _) rfl ?_
                  refine wl_pick (.tmp 41) (.const (.bool true)) (.tmp 45) false (.bool true) (fun _ => rfl) rfl rfl rfl ?_
                  refine w_nil ?_
                  refine xn_then ?_
                  refine w_condT rfl ?_
                  refine w_reg ?_
                  refine wl_mv (.tmp 5) (v) (fun _ => rfl) e5 rfl ?_
                  refine wl_mv (.tmp 0) (.string s) (fun _ => rfl) e0 rfl ?_
                  refine wl_mv (.tmp 8) (.int .i64 ((i : Nat) : Int)) (fun _ => rfl) e8 rfl ?_
                  refine wl_bin (fun x y => Instr.index 9 x y) (.tmp 48) (.tmp 49) (.string s) (.int .i64 ((i : Nat) : Int)) (.int .u8 (bt s (i))) (fun _ => rfl) rfl rfl (idx_b (by omega) _) rfl ?_
                  refine wl_bsl (.tmp 50) (bt s (i)) rfl rfl rfl ?_
                  intro k21 w22 hk hz2 hq Q21
                  have ne_k1_k21 : k1 ≠ k21 := by have := Q1.lt; omega
                  have ne_k2_k21 : k2 ≠ k21 := by have := Q2.lt; omega
                  have on_k21 : v.ownBlock ≠ some k21 := fun e => by have := (hown.lt _ e).2; omega
                  have N_k21 : w.heap.size ≤ k21 := by have := M.size; omega
                  replace hown := own_mo hown hq
                  replace Q1 := Q1.mo hq
                  replace Q2 := Q2.mo hq
                  replace M := M.trans hq
                  clear hk hz2 hq
                  refine wl_app2 (.tmp 47) (.tmp 51) w.heap.size v xs.length (xs.map (Value.int .u8)) k21 (bt s (i)) rfl rfl rfl hown Q21 (by omega) (by have := M.size; omega) rfl ?_
                  intro v' w23 hown2 hW hat
                  have hne_k1 : v'.ownBlock ≠ some k1 := by rcases hat with h | h <;> rw [h]; exact on_k1; intro e; cases e; have := Q1.lt; omega
                  have hne_k2 : v'.ownBlock ≠ some k2 := by rcases hat with h | h <;> rw [h]; exact on_k2; intro e; cases e; have := Q2.lt; omega
                  replace M := hW.mo M (fun j e => (hown.lt _ e).1)
                  replace Q1 := hW.at Q1 on_k1
                  replace Q2 := hW.at Q2 on_k2
                  replace Q21 := hW.at Q21 on_k21
                  clear hown hW hat
                  have hown := hown2
                  clear hown2
                  replace on_k1 := hne_k1
                  replace on_k2 := hne_k2
                  refine wl_mv (.tmp 52) (v') (fun _ => rfl) rfl rfl ?_
                  refine w_nil ?_
                  refine xn_blk ?_
                  refine xn_blk ?_
                  refine xn_then ?_
                  refine w_reg ?_
                  refine wl_mv (.tmp 8) (.int .i64 ((i : Nat) : Int)) (fun _ => rfl) e8 rfl ?_
                  refine wl_bin (fun x y => do eqGuard .add 3 (.tmp 23) (.const (.int .i64 (1))) x y; binOp .add 3 x y) (.tmp 23) (.const (.int .i64 (1))) (.int .i64 ((i : Nat) : Int)) (.int .i64 (1)) (.int .i64 ((i + 1 : Nat) : Int)) (fun _ => rfl) rfl rfl (add1r (k := i) (by omega) _ _ _) rfl ?_
                  refine wl_mv (.tmp 24) (.int .i64 ((i + 1 : Nat) : Int)) (fun _ => rfl) rfl rfl ?_
                  refine w_nil ?_
                  exact xn_loop (s.size - (i + 1)) (by omega) ⟨i + 1, h + 1, true, (xs ++ [bt s i]), v', rfl, e0, e2, e4, rfl, rfl, e7, rfl, by omega, by first | omega | (simp; omega), by omega, Q1, Q2, by rw [List.length_append, List.map_append]; exact hown, on_k1, on_k2, by rw [← hR, pr_in (of_decide_eq_true hf1)]; simp [hf2, hf3, hf4p, hf5], M⟩
            | false =>
              refine w_condF rfl ?_
              refine w_skip ?_
              refine xn_then ?_
              refine w_seq ?_
              cases hf4 : decide (0 < xs.length) with
              | true =>
                have hf4p := of_decide_eq_true hf4
                refine w_reg ?_
                refine wl_mv (.tmp 5) (v) (fun _ => rfl) e5 rfl ?_
                refine wl_val (.int .i64 ((xs.length : Nat) : Int)) (lens_r2 _ _ pv _ cv (Eq.trans (b := v) (by exact rfl) hv) _ _ _ _ _ _) rfl ?_
                refine wl_bin (fun x y => do eqGuard .gtr 3 (.tmp 39) (.const (.int .i64 (0))) x y; binOp .gtr 3 x y) (.tmp 39) (.const (.int .i64 (0))) (.int .i64 ((xs.length : Nat) : Int)) (.int .i64 (0)) (.bool true) (fun _ => rfl) rfl rfl (gtN hf4 _ _ _) rfl ?_
                refine wl_mv (.tmp 40) (.bool true) (fun _ => rfl) rfl rfl ?_
                refine wl_skip rfl ?_
                refine wl_skip rfl ?_
                refine wl_skip rfl ?_
                refine wl_skip rfl ?_
                refine wl_pick (.tmp 41) (.const (.bool true)) (.tmp 45) true (.bool true) (fun _ => rfl) rfl rfl rfl ?_
                refine w_nil ?_
                refine xn_then ?_
                refine w_condT rfl ?_
                refine w_reg ?_
                refine wl_mv (.tmp 5) (v) (fun _ => rfl) e5 rfl ?_
                refine wl_mv (.tmp 0) (.string s) (fun _ => rfl) e0 rfl ?_
                refine wl_mv (.tmp 8) (.int .i64 ((i : Nat) : Int)) (fun _ => rfl) e8 rfl ?_
                refine wl_bin (fun x y => Instr.index 9 x y) (.tmp 48) (.tmp 49) (.string s) (.int .i64 ((i : Nat) : Int)) (.int .u8 (bt s (i))) (fun _ => rfl) rfl rfl (idx_b (by omega) _) rfl ?_
                refine wl_bsl (.tmp 50) (bt s (i)) rfl rfl rfl ?_
                intro k21 w22 hk hz2 hq Q21
                have ne_k1_k21 : k1 ≠ k21 := by have := Q1.lt; omega
                have ne_k2_k21 : k2 ≠ k21 := by have := Q2.lt; omega
                have on_k21 : v.ownBlock ≠ some k21 := fun e => by have := (hown.lt _ e).2; omega
                have N_k21 : w.heap.size ≤ k21 := by have := M.size; omega
                replace hown := own_mo hown hq
                replace Q1 := Q1.mo hq
                replace Q2 := Q2.mo hq
                replace M := M.trans hq
                clear hk hz2 hq
                refine wl_app2 (.tmp 47) (.tmp 51) w.heap.size v xs.length (xs.map (Value.int .u8)) k21 (bt s (i)) rfl rfl rfl hown Q21 (by omega) (by have := M.size; omega) rfl ?_
                intro v' w23 hown2 hW hat
                have hne_k1 : v'.ownBlock ≠ some k1 := by rcases hat with h | h <;> rw [h]; exact on_k1; intro e; cases e; have := Q1.lt; omega
                have hne_k2 : v'.ownBlock ≠ some k2 := by rcases hat with h | h <;> rw [h]; exact on_k2; intro e; cases e; have := Q2.lt; omega
                replace M := hW.mo M (fun j e => (hown.lt _ e).1)
                replace Q1 := hW.at Q1 on_k1
                replace Q2 := hW.at Q2 on_k2
                replace Q21 := hW.at Q21 on_k21
                clear hown hW hat
                have hown := hown2
                clear hown2
                replace on_k1 := hne_k1
                replace on_k2 := hne_k2
                refine wl_mv (.tmp 52) (v') (fun _ => rfl) rfl rfl ?_
                refine w_nil ?_
                refine xn_blk ?_
                refine xn_blk ?_
                refine xn_then ?_
                refine w_reg ?_
                refine wl_mv (.tmp 8) (.int .i64 ((i : Nat) : Int)) (fun _ => rfl) e8 rfl ?_
                refine wl_bin (fun x y => do eqGuard .add 3 (.tmp 23) (.const (.int .i64 (1))) x y; binOp .add 3 x y) (.tmp 23) (.const (.int .i64 (1))) (.int .i64 ((i : Nat) : Int)) (.int .i64 (1)) (.int .i64 ((i + 1 : Nat) : Int)) (fun _ => rfl) rfl rfl (add1r (k := i) (by omega) _ _ _) rfl ?_
                refine wl_mv (.tmp 24) (.int .i64 ((i + 1 : Nat) : Int)) (fun _ => rfl) rfl rfl ?_
                refine w_nil ?_
                exact xn_loop (s.size - (i + 1)) (by omega) ⟨i + 1, h, false, (xs ++ [bt s i]), v', rfl, e0, e2, e4, rfl, e6, e7, rfl, by omega, by first | omega | (simp; omega), by omega, Q1, Q2, by rw [List.length_append, List.map_append]; exact hown, on_k1, on_k2, by rw [← hR, pr_in (of_decide_eq_true hf1)]; simp [hf2, hf3, hf4p], M⟩
              | false =>
                have hf4p := of_decide_eq_false hf4
                cases hf5 : (bt s (i) == 48) with
                | true =>
                  refine w_reg ?_
                  refine wl_mv (.tmp 5) (v) (fun _ => rfl) e5 rfl ?_
                  refine wl_val (.int .i64 ((xs.length : Nat) : Int)) (lens_r2 _ _ pv _ cv (Eq.trans (b := v) (by exact rfl) hv) _ _ _ _ _ _) rfl ?_
                  refine wl_bin (fun x y => do eqGuard .gtr 3 (.tmp 39) (.const (.int .i64 (0))) x y; binOp .gtr 3 x y) (.tmp 39) (.const (.int .i64 (0))) (.int .i64 ((xs.length : Nat) : Int)) (.int .i64 (0)) (.bool false) (fun _ => rfl) rfl rfl (gtN hf4 _ _ _) rfl ?_
                  refine wl_mv (.tmp 40) (.bool false) (fun _ => rfl) rfl rfl ?_
                  refine wl_mv (.tmp 0) (.string s) (fun _ => rfl) e0 rfl ?_
                  refine wl_mv (.tmp 8) (.int .i64 ((i : Nat) : Int)) (fun _ => rfl) e8 rfl ?_
                  refine wl_bin (fun x y => Instr.index 9 x y) (.tmp 42) (.tmp 43) (.string s) (.int .i64 ((i : Nat) : Int)) (.int .u8 (bt s (i))) (fun _ => rfl) rfl rfl (idx_b (by omega) _) rfl ?_
                  refine wl_bin (fun x y => do eqGuard .neq 5 (.tmp 44) (.const (.int .u8 (48))) x y; binOp .neq 5 x y) (.tmp 44) (.const (.int .u8 (48))) (.int .u8 (bt s (i))) (.int .u8 (48)) (.bool false) (fun _ => rfl) rfl rfl (ne5r hf5 _ _ _) rfl ?_
                  refine wl_pick (.tmp 41) (.const (.bool true)) (.tmp 45) false (.bool false) (fun _ => rfl) rfl rfl rfl ?_
                  refine w_nil ?_
                  refine xn_then ?_
                  refine w_condF rfl ?_
                  refine w_skip ?_
                  refine xn_blk ?_
                  refine xn_blk ?_
                  refine xn_then ?_
                  refine w_reg ?_
                  refine wl_mv (.tmp 8) (.int .i64 ((i : Nat) : Int)) (fun _ => rfl) e8 rfl ?_
                  refine wl_bin (fun x y => do eqGuard .add 3 (.tmp 23) (.const (.int .i64 (1))) x y; binOp .add 3 x y) (.tmp 23) (.const (.int .i64 (1))) (.int .i64 ((i : Nat) : Int)) (.int .i64 (1)) (.int .i64 ((i + 1 : Nat) : Int)) (fun _ => rfl) rfl rfl (add1r (k := i) (by omega) _ _ _) rfl ?_
                  refine wl_mv (.tmp 24) (.int .i64 ((i + 1 : Nat) : Int)) (fun _ => rfl) rfl rfl ?_
                  refine w_nil ?_
                  exact xn_loop (s.size - (i + 1)) (by omega) ⟨i + 1, h, false, xs, v, rfl, e0, e2, e4, e5, e6, e7, rfl, by omega, by first | omega | (simp; omega), by omega, Q1, Q2, hown, on_k1, on_k2, by rw [← hR, pr_in (of_decide_eq_true hf1)]; simp [hf2, hf3, hf4p, hf5], M⟩
                | false =>
                  refine w_reg ?_
                  refine wl_mv (.tmp 5) (v) (fun _ => rfl) e5 rfl ?_
                  refine wl_val (.int .i64 ((xs.length : Nat) : Int)) (lens_r2 _ _ pv _ cv (Eq.trans (b := v) (by exact rfl) hv) _ _ _ _ _ _) rfl ?_
                  refine wl_bin (fun x y => do eqGuard .gtr 3 (.tmp 39) (.const (.int .i64 (0))) x y; binOp .gtr 3 x y) (.tmp 39) (.const (.int .i64 (0))) (.int .i64 ((xs.length : Nat) : Int)) (.int .i64 (0)) (.bool false) (fun _ => rfl) rfl rfl (gtN hf4 _ _ _) rfl ?_
                  refine wl_mv (.tmp 40) (.bool false) (fun _ => rfl) rfl rfl ?_
                  refine wl_mv (.tmp 0) (.string s) (fun _ => rfl) e0 rfl ?_
                  refine wl_mv (.tmp 8) (.int .i64 ((i : Nat) : Int)) (fun _ => rfl) e8 rfl ?_
                  refine wl_bin (fun x y => Instr.index 9 x y) (.tmp 42) (.tmp 43) (.string s) (.int .i64 ((i : Nat) : Int)) (.int .u8 (bt s (i))) (fun _ => rfl) rfl rfl (idx_b (by omega) _) rfl ?_
                  refine wl_bin (fun x y => do eqGuard .neq 5 (.tmp 44) (.const (.int .u8 (48))) x y; binOp .neq 5 x y) (.tmp 44) (.const (.int .u8 (48))) (.int .u8 (bt s (i))) (.int .u8 (48)) (.bool true) (fun _ => rfl) rfl rfl (ne5r hf5 _ _ _) rfl ?_
                  refine wl_pick (.tmp 41) (.const (.bool true)) (.tmp 45) false (.bool true) (fun _ => rfl) rfl rfl rfl ?_
                  refine w_nil ?_
                  refine xn_then ?_
                  refine w_condT rfl ?_
                  refine w_reg ?_
                  refine wl_mv (.tmp 5) (v) (fun _ => rfl) e5 rfl ?_
                  refine wl_mv (.tmp 0) (.string s) (fun _ => rfl) e0 rfl ?_
                  refine wl_mv (.tmp 8) (.int .i64 ((i : Nat) : Int)) (fun _ => rfl) e8 rfl ?_
                  refine wl_bin (fun x y => Instr.index 9 x y) (.tmp 48) (.tmp 49) (.string s) (.int .i64 ((i : Nat) : Int)) (.int .u8 (bt s (i))) (fun _ => rfl) rfl rfl (idx_b (by omega) _) rfl ?_
                  refine wl_bsl (.tmp 50) (bt s (i)) rfl rfl rfl ?_
                  intro k21 w22 hk hz2 hq Q21
                  have ne_k1_k21 : k1 ≠ k21 := by have := Q1.lt; omega
                  have ne_k2_k21 : k2 ≠ k21 := by have := Q2.lt; omega
                  have on_k21 : v.ownBlock ≠ some k21 := fun e => by have := (hown.lt _ e).2; omega
                  have N_k21 : w.heap.size ≤ k21 := by have := M.size; omega
                  replace hown := own_mo hown hq
                  replace Q1 := Q1.mo hq
                  replace Q2 := Q2.mo hq
                  replace M := M.trans hq
                  clear hk hz2 hq
                  refine wl_app2 (.tmp 47) (.tmp 51) w.heap.size v xs.length (xs.map (Value.int .u8)) k21 (bt s (i)) rfl rfl rfl hown Q21 (by omega) (by have := M.size; omega) rfl ?_
                  intro v' w23 hown2 hW hat
                  have hne_k1 : v'.ownBlock ≠ some k1 := by rcases hat with h | h <;> rw [h]; exact on_k1; intro e; cases e; have := Q1.lt; omega
                  have hne_k2 : v'.ownBlock ≠ some k2 := by rcases hat with h | h <;> rw [h]; exact on_k2; intro e; cases e; have := Q2.lt; omega
                  replace M := hW.mo M (fun j e => (hown.lt _ e).1)
                  replace Q1 := hW.at Q1 on_k1
                  replace Q2 := hW.at Q2 on_k2
                  replace Q21 := hW.at Q21 on_k21
                  clear hown hW hat
                  have hown := hown2
                  clear hown2
                  replace on_k1 := hne_k1
                  replace on_k2 := hne_k2
                  refine wl_mv (.tmp 52) (v') (fun _ => rfl) rfl rfl ?_
                  refine w_nil ?_
                  refine xn_blk ?_
                  refine xn_blk ?_
                  refine xn_then ?_
                  refine w_reg ?_
                  refine wl_mv (.tmp 8) (.int .i64 ((i : Nat) : Int)) (fun _ => rfl) e8 rfl ?_
                  refine wl_bin (fun x y => do eqGuard .add 3 (.tmp 23) (.const (.int .i64 (1))) x y; binOp .add 3 x y) (.tmp 23) (.const (.int .i64 (1))) (.int .i64 ((i : Nat) : Int)) (.int .i64 (1)) (.int .i64 ((i + 1 : Nat) : Int)) (fun _ => rfl) rfl rfl (add1r (k := i) (by omega) _ _ _) rfl ?_
                  refine wl_mv (.tmp 24) (.int .i64 ((i + 1 : Nat) : Int)) (fun _ => rfl) rfl rfl ?_
                  refine w_nil ?_
                  exact xn_loop (s.size - (i + 1)) (by omega) ⟨i + 1, h, false, (xs ++ [bt s i]), v', rfl, e0, e2, e4, rfl, e6, e7, rfl, by omega, by first | omega | (simp; omega), by omega, Q1, Q2, by rw [List.length_append, List.map_append]; exact hown, on_k1, on_k2, by rw [← hR, pr_in (of_decide_eq_true hf1)]; simp [hf2, hf3, hf4p, hf5], M⟩
          | false =>
            refine w_reg ?_
            refine wl_mv (.tmp 0) (.string s) (fun _ => rfl) e0 rfl ?_
            refine wl_mv (.tmp 8) (.int .i64 ((i : Nat) : Int)) (fun _ => rfl) e8 rfl ?_
            refine wl_bin (fun x y => Instr.index 9 x y) (.tmp 31) (.tmp 32) (.string s) (.int .i64 ((i : Nat) : Int)) (.int .u8 (bt s (i))) (fun _ => rfl) rfl rfl (idx_b (by omega) _) rfl ?_
            refine wl_call 32 [(.tmp 33)] _ [.int .u8 (bt s (i))] (.bool false) rfl rfl (fun _ _ => by kernel_rfl) (digit_c hf3 _) rfl ?_
            intro w21 hq
            replace hown := own_mo hown hq
            replace Q1 := Q1.mo hq
            replace Q2 := Q2.mo hq
            replace M := M.trans hq
            clear hq
            refine wl_mv (.tmp 34) (.bool false) (fun _ => rfl) rfl rfl ?_
            refine w_nil ?_
            refine xn_then ?_
            refine w_condF rfl ?_
            refine w_skip ?_
            refine xn_blk ?_
            refine xn_blk ?_
            refine xn_then ?_
            refine w_reg ?_
            refine wl_mv (.tmp 8) (.int .i64 ((i : Nat) : Int)) (fun _ => rfl) e8 rfl ?_
            refine wl_bin (fun x y => do eqGuard .add 3 (.tmp 23) (.const (.int .i64 (1))) x y; binOp .add 3 x y) (.tmp 23) (.const (.int .i64 (1))) (.int .i64 ((i : Nat) : Int)) (.int .i64 (1)) (.int .i64 ((i + 1 : Nat) : Int)) (fun _ => rfl) rfl rfl (add1r (k := i) (by omega) _ _ _) rfl ?_
            refine wl_mv (.tmp 24) (.int .i64 ((i + 1 : Nat) : Int)) (fun _ => rfl) rfl rfl ?_
            refine w_nil ?_
            exact xn_loop (s.size - (i + 1)) (by omega) ⟨i + 1, h, q, xs, v, rfl, e0, e2, e4, e5, e6, e7, rfl, by omega, by first | omega | (simp; omega), by omega, Q1, Q2, hown, on_k1, on_k2, by rw [← hR, pr_in (of_decide_eq_true hf1)]; simp [hf2, hf3], M⟩
      | false =>
        have hf1p := of_decide_eq_false hf1
        refine w_reg ?_
        refine wl_mv (.tmp 8) (.int .i64 ((i : Nat) : Int)) (fun _ => rfl) e8 rfl ?_
        refine wl_mv (.tmp 0) (.string s) (fun _ => rfl) e0 rfl ?_
        refine wl_val (.int .i64 ((s.size : Nat) : Int)) (len_s _ _ s (by exact rfl) _ _ _ _ _ _) rfl ?_
        refine wl_bin (fun x y => do eqGuard .lss 3 (.tmp 19) (.tmp 21) x y; binOp .lss 3 x y) (.tmp 19) (.tmp 21) (.int .i64 ((i : Nat) : Int)) (.int .i64 ((s.size : Nat) : Int)) (.bool false) (fun _ => rfl) rfl rfl (ltN hf1 _ _ _) rfl ?_
        refine w_nil ?_
        refine xn_then ?_
        refine w_condF rfl ?_
        refine w_exit ?_
        refine xx_then ?_
        refine xx_then ?_
        refine xx_blk ?_
        refine xn_cut ⟨pv, cv, h, xs, e2, e4, e5.trans hv, e6, fun hx => ?_, Q1, Q2, by rw [← hR, pr_out (of_decide_eq_false hf1)], M⟩
        obtain ⟨g, cap, rfl, hgN, hglt⟩ := hown.form (List.length_pos_iff.2 hx)
        cases hv
        exact ⟨g, rfl, fun e => on_k1 (by rw [e]; rfl), fun e => on_k2 (by rw [e]; rfl), own_at hown, hgN⟩
  | false =>
    refine w_reg ?_
    refine wl_mv (.tmp 0) (.string s) (fun _ => rfl) rfl rfl ?_
    refine wl_call 31 [(.tmp 11)] _ [.string s] (.bool false) rfl rfl (fun _ _ => by kernel_rfl) (whole_c hs hf0 _) rfl ?_
    intro w2 hq
    replace Q1 := Q1.mo hq
    replace M := M.trans hq
    clear hq
    refine wl_un (fun v => Op.unary .not v) (.tmp 12) (.bool false) (.bool true) (fun _ => rfl) rfl (by kernel_rfl) rfl ?_
    refine w_nil ?_
    refine xn_then ?_
    refine w_condT rfl ?_
    refine w_seq ?_
    refine w_reg ?_
    refine wl_build 26 [] [] (.agg #[.bool false, .int .u64 0, .int .u64 0, .int .u64 0, .int .u64 0, .int .i64 0]) rfl rfl (by kernel_rfl) rfl ?_
    refine wl_st 26 (.tmp 2) (.tmp 14) k1 0 #[.bool false, .int .u64 0, .int .u64 0, .int .u64 0, .int .u64 0, .int .i64 0] [.bool false, .int .u64 0, .int .u64 0, .int .u64 0, .int .u64 0, .int .i64 0] [.bool false, .int .u64 0, .int .u64 0, .int .u64 0, .int .u64 0, .int .i64 0] Q1 rfl rfl rfl rfl rfl sz26 rfl rfl rfl ?_
    intro w3 hS Qn
    replace Q1 := Qn
    clear Qn
    replace M := hS.mo _ N_k1 M
    clear hS
    refine wl_mv (.const (.int .i64 (30))) (.int .i64 (30)) (fun _ => rfl) rfl rfl ?_
    refine w_nil ?_
    refine xn_then ?_
    refine w_ret ?_
    refine xr_then ?_
    have hfin : rps s N E = .tuple #[.agg #[.bool false, .int .u64 0, .int .u64 0, .int .u64 0, .int .u64 0, .int .i64 0], .int .i64 (30)] := by unfold rps; rw [if_pos hf0]; try rfl
    exact w_ret2 _ _ (.agg #[.bool false, .int .u64 0, .int .u64 0, .int .u64 0, .int .u64 0, .int .i64 0]) (.int .i64 (30)) rfl ⟨k1, rfl, (run_row Q1 26 0 6 [.bool false, .int .u64 0, .int .u64 0, .int .u64 0, .int .u64 0, .int .i64 0] rfl Tryd.underlying26 rfl sz26)⟩ rfl ⟨by rw [hfin], M⟩
theorem rpa_no (s : ByteArray) (w : World) (hs : s.size ≤ maxLen) (hw : whl s = false) : Calls Tryd.prog 14 #[.string s] w fun e w' => e = .returned (er 30) ∧ Mo w w' := by
  refine w_enter 75 Tryd.func14 Tryd.ntmps14 rfl rfl ?_
  have M : Mo w w := Mo.refl _
  refine w_seq ?_
  refine w_reg ?_
  refine wl_alloc 26 #[.bool false, .int .u64 0, .int .u64 0, .int .u64 0, .int .u64 0, .int .i64 0] rfl (fun _ => by kernel_rfl) rfl ?_
  intro k1 w1 hk hz hq Q1
  have N_k1 : w.heap.size ≤ k1 := by have := M.size; omega
  replace M := M.trans hq
  clear hk hz hq
  refine wl_mv (.const (.int .i64 (0))) (.int .i64 (0)) (fun _ => rfl) rfl rfl ?_
  refine w_nil ?_
  refine xn_then ?_
  refine w_seq ?_
  refine w_seq ?_
  refine w_reg ?_
  refine wl_mv (.tmp 0) (.string s) (fun _ => rfl) rfl rfl ?_
  refine wl_call 31 [(.tmp 11)] _ [.string s] (.bool false) rfl rfl (fun _ _ => by kernel_rfl) (whole_c hs hw _) rfl ?_
  intro w2 hq
  replace Q1 := Q1.mo hq
  replace M := M.trans hq
  clear hq
  refine wl_un (fun v => Op.unary .not v) (.tmp 12) (.bool false) (.bool true) (fun _ => rfl) rfl (by kernel_rfl) rfl ?_
  refine w_nil ?_
  refine xn_then ?_
  refine w_condT rfl ?_
  refine w_seq ?_
  refine w_reg ?_
  refine wl_build 26 [] [] (.agg #[.bool false, .int .u64 0, .int .u64 0, .int .u64 0, .int .u64 0, .int .i64 0]) rfl rfl (by kernel_rfl) rfl ?_
  refine wl_st 26 (.tmp 2) (.tmp 14) k1 0 #[.bool false, .int .u64 0, .int .u64 0, .int .u64 0, .int .u64 0, .int .i64 0] [.bool false, .int .u64 0, .int .u64 0, .int .u64 0, .int .u64 0, .int .i64 0] [.bool false, .int .u64 0, .int .u64 0, .int .u64 0, .int .u64 0, .int .i64 0] Q1 rfl rfl rfl rfl rfl sz26 rfl rfl rfl ?_
  intro w3 hS Qn
  replace Q1 := Qn
  clear Qn
  replace M := hS.mo _ N_k1 M
  clear hS
  refine wl_mv (.const (.int .i64 (30))) (.int .i64 (30)) (fun _ => rfl) rfl rfl ?_
  refine w_nil ?_
  refine xn_then ?_
  refine w_ret ?_
  refine xr_then ?_
  exact w_ret2 _ _ (.agg #[.bool false, .int .u64 0, .int .u64 0, .int .u64 0, .int .u64 0, .int .i64 0]) (.int .i64 (30)) rfl ⟨k1, rfl, (run_row Q1 26 0 6 [.bool false, .int .u64 0, .int .u64 0, .int .u64 0, .int .u64 0, .int .i64 0] rfl Tryd.underlying26 rfl sz26)⟩ rfl ⟨rfl, M⟩
end Go.Proofs.YtdcojpbgijkmgaaDoor
/-
  What the document's reading makes of a decimal text's parts.
-/
namespace Go.Proofs.YtdcojpbgijkmgaaDoor
open Go.RowKit
/-! The document's digits. -/
def prl : List UInt8 → List Int → Nat → Bool → List Int × Nat
  | [], a, h, _ => (a, h)
  | x :: r, a, h, q => if (x.toNat : Int) == 46 then prl r a h true
    else if isD x then prl r (if decide (0 < a.length) || !((x.toNat : Int) == 48) then a ++ [(x.toNat : Int)] else a) (if q then h + 1 else h) q
    else prl r a h q
theorem prl_cons (x : UInt8) (r : List UInt8) (a : List Int) (h : Nat) (q : Bool) : prl (x :: r) a h q = if (x.toNat : Int) == 46 then prl r a h true
    else if isD x then prl r (if decide (0 < a.length) || !((x.toNat : Int) == 48) then a ++ [(x.toNat : Int)] else a) (if q then h + 1 else h) q
    else prl r a h q := by rw [prl]
theorem pr_prl (s : ByteArray) (i : Nat) (a : List Int) (h : Nat) (q : Bool) : pr s i a h q = prl ((by8 s).drop i) a h q := by
  by_cases hi : i < s.size
  · have hl : i < (by8 s).length := by rw [by8_len]; exact hi
    rw [pr_in hi, List.drop_eq_getElem_cons hl]
    have e : bt s i = (((by8 s)[i]).toNat : Int) := by rw [bt_tn, List.getElem?_eq_getElem hl]; rfl
    rw [e]
    unfold prl
    have ed : dgt (((by8 s)[i]).toNat : Int) = isD (by8 s)[i] := rfl
    rw [ed, pr_prl s (i + 1), pr_prl s (i + 1), pr_prl s (i + 1)]
  · rw [pr_out hi, List.drop_eq_nil_of_le (by rw [by8_len]; omega)]
    rfl
termination_by s.size - i
def apz (a : List UInt8) (D : List UInt8) : List UInt8 := if a = [] then dw0 D else a ++ D
theorem prl_run : ∀ (D r : List UInt8) (a : List UInt8) (h : Nat) (q : Bool), (∀ x ∈ D, isD x = true) → prl (D ++ r) (nl a) h q = prl r (nl (apz a D)) (if q then h + D.length else h) q
  | [], r, a, h, q, _ => by
    have : apz a [] = a := by unfold apz; split <;> simp_all
    rw [this]
    cases q <;> simp
  | x :: D, r, a, h, q, hd => by
    have hx := hd x (by simp)
    have h46 : ((x.toNat : Int) == 46) = false := beq_eq_false_iff_ne.2 (by have := isD_b hx; omega)
    have e48 : ((x.toNat : Int) == 48) = (x == 48) := by
      rw [Bool.eq_iff_iff, beq_iff_eq, beq_iff_eq, ← UInt8.toNat_inj]
      have : (48 : UInt8).toNat = 48 := rfl
      omega
    rw [List.cons_append, prl_cons, h46, if_neg (by simp), hx, if_pos rfl, e48]
    have ha : (if (decide (0 < (nl a).length) || !(x == 48)) = true then nl a ++ [(x.toNat : Int)] else nl a) = nl (if decide (a = []) && (x == 48) then a else a ++ [x]) := by
      cases a <;> cases (x == 48) <;> simp
    rw [ha, prl_run D r _ _ q (fun y hy => hd y (by simp [hy]))]
    have e2 : apz (if decide (a = []) && (x == 48) then a else a ++ [x]) D = apz a (x :: D) := by
      unfold apz
      cases a with
      | nil =>
        cases hz : (x == 48) with
        | true => simp [dw0, hz]
        | false => simp [dw0, hz]
      | cons y t => simp
    rw [e2]
    have e3 : (if q = true then (if q = true then h + 1 else h) + D.length else (if q = true then h + 1 else h)) = if q = true then h + (x :: D).length else h := by
      cases q with
      | false => rfl
      | true => simp; omega
    rw [e3]
theorem apz_apz (A B : List UInt8) : apz (apz [] A) B = dw0 (A ++ B) := by
  show (if A.dropWhile (· == 48) = [] then B.dropWhile (· == 48) else A.dropWhile (· == 48) ++ B) = (A ++ B).dropWhile (· == 48)
  rw [List.dropWhile_append]
  cases h : A.dropWhile (· == 48) <;> simp
theorem prs_df {s : ByteArray} {b : Bool} {A B : List UInt8} (h : Df (by8 s) b A B) : prs s = (nl (dw0 (A ++ B)), B.length) := by
  unfold prs
  rw [pr_prl, List.drop_zero, h.eq]
  have h0 : ∀ t, prl (sg8 b ++ t) [] 0 false = prl t (nl []) 0 false := fun t => by
    cases b with
    | false => rfl
    | true => rfl
  rw [h0, prl_run A _ [] 0 false h.ad]
  by_cases hB : B = []
  · rw [if_pos hB, hB]
    unfold prl
    rw [List.append_nil]
    rfl
  · rw [if_neg hB]
    unfold prl
    rw [if_pos (by rfl)]
    have := prl_run B [] (apz [] A) 0 true h.bd
    rw [List.append_nil] at this
    simp only [Bool.false_eq_true, if_false]
    rw [this, apz_apz]
    unfold prl
    simp
theorem sgn_df {s : ByteArray} {b : Bool} {A B : List UInt8} (h : Df (by8 s) b A B) : (bt s 0 == 45) = b := by
  rw [bt_tn, h.eq]
  cases b with
  | true => rfl
  | false =>
    cases hA : A with
    | nil => exact absurd hA h.ne
    | cons a r =>
      have h1 := isD_b (h.ad a (by rw [hA]; simp))
      refine beq_eq_false_iff_ne.2 fun e => ?_
      have e2 : (a.toNat : Int) = 45 := e
      omega
end Go.Proofs.YtdcojpbgijkmgaaDoor
/-
  exciseref03.ParseAt, by cases.
-/
namespace Go.Proofs.YtdcojpbgijkmgaaDoor
open Go.RowKit
theorem sub3z {k j : Nat} (h : k + j ≤ 18) (x y : Operand) (w : World) : (do eqGuard .sub 3 x y (.int .i64 ((k + j : Nat) : Int)) (.int .i64 (k : Int)); binOp .sub 3 (.int .i64 ((k + j : Nat) : Int)) (.int .i64 (k : Int))).run Tryd.prog w = .ok (.int .i64 (j : Int)) w :=
  sub3_run rfl (by omega) _ _ _
theorem rpat_lo (s : ByteArray) (w : World) (z : Int) (h0 : decide (z < 0) = true) : Calls Tryd.prog 16 #[.string s, .int .i64 (z)] w fun e w' => e = .returned (er 1) ∧ Mo w w' := by
  refine w_enter 57 Tryd.func16 Tryd.ntmps16 rfl rfl ?_
  have M : Mo w w := Mo.refl _
  refine w_seq ?_
  refine w_reg ?_
  refine wl_alloc 26 #[.bool false, .int .u64 0, .int .u64 0, .int .u64 0, .int .u64 0, .int .i64 0] rfl (fun _ => by kernel_rfl) rfl ?_
  intro k1 w1 hk hz hq Q1
  have N_k1 : w.heap.size ≤ k1 := by have := M.size; omega
  replace M := M.trans hq
  clear hk hz hq
  refine wl_mv (.const (.int .i64 (0))) (.int .i64 (0)) (fun _ => rfl) rfl rfl ?_
  refine w_nil ?_
  refine xn_then ?_
  refine w_seq ?_
  refine w_seq ?_
  refine w_reg ?_
  refine wl_mv (.tmp 1) (.int .i64 (z)) (fun _ => rfl) rfl rfl ?_
  refine wl_bin (fun x y => do eqGuard .lss 3 (.tmp 12) (.const (.int .i64 (0))) x y; binOp .lss 3 x y) (.tmp 12) (.const (.int .i64 (0))) (.int .i64 (z)) (.int .i64 (0)) (.bool true) (fun _ => rfl) rfl rfl (lt3_run h0 _ _ _) rfl ?_
  refine wl_mv (.tmp 13) (.bool true) (fun _ => rfl) rfl rfl ?_
  refine wl_skip rfl ?_
  refine wl_skip rfl ?_
  refine wl_pick (.tmp 14) (.const (.bool true)) (.tmp 16) true (.bool true) (fun _ => rfl) rfl rfl rfl ?_
  refine w_nil ?_
  refine xn_then ?_
  refine w_condT rfl ?_
  refine w_seq ?_
  refine w_reg ?_
  refine wl_build 26 [] [] (.agg #[.bool false, .int .u64 0, .int .u64 0, .int .u64 0, .int .u64 0, .int .i64 0]) rfl rfl (by kernel_rfl) rfl ?_
  refine wl_st 26 (.tmp 4) (.tmp 18) k1 0 #[.bool false, .int .u64 0, .int .u64 0, .int .u64 0, .int .u64 0, .int .i64 0] [.bool false, .int .u64 0, .int .u64 0, .int .u64 0, .int .u64 0, .int .i64 0] [.bool false, .int .u64 0, .int .u64 0, .int .u64 0, .int .u64 0, .int .i64 0] Q1 rfl rfl rfl rfl rfl sz26 rfl rfl rfl ?_
  intro w2 hS Qn
  replace Q1 := Qn
  clear Qn
  replace M := hS.mo _ N_k1 M
  clear hS
  refine wl_mv (.const (.int .i64 (1))) (.int .i64 (1)) (fun _ => rfl) rfl rfl ?_
  refine w_nil ?_
  refine xn_then ?_
  refine w_ret ?_
  refine xr_then ?_
  exact w_ret2 _ _ (.agg #[.bool false, .int .u64 0, .int .u64 0, .int .u64 0, .int .u64 0, .int .i64 0]) (.int .i64 (1)) rfl ⟨k1, rfl, (run_row Q1 26 0 6 [.bool false, .int .u64 0, .int .u64 0, .int .u64 0, .int .u64 0, .int .i64 0] rfl Tryd.underlying26 rfl sz26)⟩ rfl ⟨rfl, M⟩
theorem rpat_hi (s : ByteArray) (w : World) (z : Int) (h0 : decide (z < 0) = false) (h1 : decide (z > 18) = true) : Calls Tryd.prog 16 #[.string s, .int .i64 (z)] w fun e w' => e = .returned (er 1) ∧ Mo w w' := by
  refine w_enter 57 Tryd.func16 Tryd.ntmps16 rfl rfl ?_
  have M : Mo w w := Mo.refl _
  refine w_seq ?_
  refine w_reg ?_
  refine wl_alloc 26 #[.bool false, .int .u64 0, .int .u64 0, .int .u64 0, .int .u64 0, .int .i64 0] rfl (fun _ => by kernel_rfl) rfl ?_
  intro k1 w1 hk hz hq Q1
  have N_k1 : w.heap.size ≤ k1 := by have := M.size; omega
  replace M := M.trans hq
  clear hk hz hq
  refine wl_mv (.const (.int .i64 (0))) (.int .i64 (0)) (fun _ => rfl) rfl rfl ?_
  refine w_nil ?_
  refine xn_then ?_
  refine w_seq ?_
  refine w_seq ?_
  refine w_reg ?_
  refine wl_mv (.tmp 1) (.int .i64 (z)) (fun _ => rfl) rfl rfl ?_
  refine wl_bin (fun x y => do eqGuard .lss 3 (.tmp 12) (.const (.int .i64 (0))) x y; binOp .lss 3 x y) (.tmp 12) (.const (.int .i64 (0))) (.int .i64 (z)) (.int .i64 (0)) (.bool false) (fun _ => rfl) rfl rfl (lt3_run h0 _ _ _) rfl ?_
  refine wl_mv (.tmp 13) (.bool false) (fun _ => rfl) rfl rfl ?_
  refine wl_mv (.tmp 1) (.int .i64 (z)) (fun _ => rfl) rfl rfl ?_
  refine wl_bin (fun x y => do eqGuard .gtr 3 (.tmp 15) (.const (.int .i64 (18))) x y; binOp .gtr 3 x y) (.tmp 15) (.const (.int .i64 (18))) (.int .i64 (z)) (.int .i64 (18)) (.bool true) (fun _ => rfl) rfl rfl (gt3_run h1 _ _ _) rfl ?_
  refine wl_pick (.tmp 14) (.const (.bool true)) (.tmp 16) false (.bool true) (fun _ => rfl) rfl rfl rfl ?_
  refine w_nil ?_
  refine xn_then ?_
  refine w_condT rfl ?_
  refine w_seq ?_
  refine w_reg ?_
  refine wl_build 26 [] [] (.agg #[.bool false, .int .u64 0, .int .u64 0, .int .u64 0, .int .u64 0, .int .i64 0]) rfl rfl (by kernel_rfl) rfl ?_
  refine wl_st 26 (.tmp 4) (.tmp 18) k1 0 #[.bool false, .int .u64 0, .int .u64 0, .int .u64 0, .int .u64 0, .int .i64 0] [.bool false, .int .u64 0, .int .u64 0, .int .u64 0, .int .u64 0, .int .i64 0] [.bool false, .int .u64 0, .int .u64 0, .int .u64 0, .int .u64 0, .int .i64 0] Q1 rfl rfl rfl rfl rfl sz26 rfl rfl rfl ?_
  intro w2 hS Qn
  replace Q1 := Qn
  clear Qn
  replace M := hS.mo _ N_k1 M
  clear hS
  refine wl_mv (.const (.int .i64 (1))) (.int .i64 (1)) (fun _ => rfl) rfl rfl ?_
  refine w_nil ?_
  refine xn_then ?_
  refine w_ret ?_
  refine xr_then ?_
  exact w_ret2 _ _ (.agg #[.bool false, .int .u64 0, .int .u64 0, .int .u64 0, .int .u64 0, .int .i64 0]) (.int .i64 (1)) rfl ⟨k1, rfl, (run_row Q1 26 0 6 [.bool false, .int .u64 0, .int .u64 0, .int .u64 0, .int .u64 0, .int .i64 0] rfl Tryd.underlying26 rfl sz26)⟩ rfl ⟨rfl, M⟩
theorem rpat_e (s : ByteArray) (w : World) (z : Int) (h0 : decide (z < 0) = false) (h1 : decide (z > 18) = false) (b : Bool) (N E : Int) (k : Nat) (hp : ∀ w, Calls Tryd.prog 14 #[.string s] w fun e w' => e = .returned (.tuple #[dc b N (k : Int), .int .i64 E]) ∧ Mo w w') (hE : (E == 0) = false) : Calls Tryd.prog 16 #[.string s, .int .i64 (z)] w fun e w' => e = .returned (er E) ∧ Mo w w' := by
  refine w_enter 57 Tryd.func16 Tryd.ntmps16 rfl rfl ?_
  have M : Mo w w := Mo.refl _
  refine w_seq ?_
  refine w_reg ?_
  refine wl_alloc 26 #[.bool false, .int .u64 0, .int .u64 0, .int .u64 0, .int .u64 0, .int .i64 0] rfl (fun _ => by kernel_rfl) rfl ?_
  intro k1 w1 hk hz hq Q1
  have N_k1 : w.heap.size ≤ k1 := by have := M.size; omega
  replace M := M.trans hq
  clear hk hz hq
  refine wl_mv (.const (.int .i64 (0))) (.int .i64 (0)) (fun _ => rfl) rfl rfl ?_
  refine w_nil ?_
  refine xn_then ?_
  refine w_seq ?_
  refine w_seq ?_
  refine w_reg ?_
  refine wl_mv (.tmp 1) (.int .i64 (z)) (fun _ => rfl) rfl rfl ?_
  refine wl_bin (fun x y => do eqGuard .lss 3 (.tmp 12) (.const (.int .i64 (0))) x y; binOp .lss 3 x y) (.tmp 12) (.const (.int .i64 (0))) (.int .i64 (z)) (.int .i64 (0)) (.bool false) (fun _ => rfl) rfl rfl (lt3_run h0 _ _ _) rfl ?_
  refine wl_mv (.tmp 13) (.bool false) (fun _ => rfl) rfl rfl ?_
  refine wl_mv (.tmp 1) (.int .i64 (z)) (fun _ => rfl) rfl rfl ?_
  refine wl_bin (fun x y => do eqGuard .gtr 3 (.tmp 15) (.const (.int .i64 (18))) x y; binOp .gtr 3 x y) (.tmp 15) (.const (.int .i64 (18))) (.int .i64 (z)) (.int .i64 (18)) (.bool false) (fun _ => rfl) rfl rfl (gt3_run h1 _ _ _) rfl ?_
  refine wl_pick (.tmp 14) (.const (.bool true)) (.tmp 16) false (.bool false) (fun _ => rfl) rfl rfl rfl ?_
  refine w_nil ?_
  refine xn_then ?_
  refine w_condF rfl ?_
  refine w_skip ?_
  refine xn_then ?_
  refine w_seq ?_
  refine w_reg ?_
  refine wl_mv (.tmp 0) (.string s) (fun _ => rfl) rfl rfl ?_
  refine wl_call 14 [(.tmp 20)] _ [.string s] (.tuple #[.agg #[.bool b, .int .u64 (l0 N), .int .u64 (l1 N), .int .u64 (l2 N), .int .u64 (l3 N), .int .i64 (k : Int)], .int .i64 (E)]) rfl rfl (fun _ _ => by kernel_rfl) (hp _) rfl ?_
  intro w2 hq
  replace Q1 := Q1.mo hq
  replace M := M.trans hq
  clear hq
  refine wl_mv (.tmp 21) (.tuple #[.agg #[.bool b, .int .u64 (l0 N), .int .u64 (l1 N), .int .u64 (l2 N), .int .u64 (l3 N), .int .i64 (k : Int)], .int .i64 (E)]) (fun _ => rfl) rfl rfl ?_
  refine wl_un (fun v => Instr.extract v 0) (.tmp 19) (.tuple #[.agg #[.bool b, .int .u64 (l0 N), .int .u64 (l1 N), .int .u64 (l2 N), .int .u64 (l3 N), .int .i64 (k : Int)], .int .i64 (E)]) (.agg #[.bool b, .int .u64 (l0 N), .int .u64 (l1 N), .int .u64 (l2 N), .int .u64 (l3 N), .int .i64 (k : Int)]) (fun _ => rfl) rfl (by kernel_rfl) rfl ?_
  refine wl_un (fun v => Instr.extract v 1) (.tmp 19) (.tuple #[.agg #[.bool b, .int .u64 (l0 N), .int .u64 (l1 N), .int .u64 (l2 N), .int .u64 (l3 N), .int .i64 (k : Int)], .int .i64 (E)]) (.int .i64 (E)) (fun _ => rfl) rfl (by kernel_rfl) rfl ?_
  refine wl_alloc 26 #[.bool false, .int .u64 0, .int .u64 0, .int .u64 0, .int .u64 0, .int .i64 0] rfl (fun _ => by kernel_rfl) rfl ?_
  intro k2 w3 hk hz hq Q2
  have ne_k1_k2 : k1 ≠ k2 := by have := Q1.lt; omega
  have N_k2 : w.heap.size ≤ k2 := by have := M.size; omega
  replace Q1 := Q1.mo hq
  replace M := M.trans hq
  clear hk hz hq
  refine wl_st 26 (.tmp 6) (.tmp 22) k2 0 #[.bool b, .int .u64 (l0 N), .int .u64 (l1 N), .int .u64 (l2 N), .int .u64 (l3 N), .int .i64 (k : Int)] [.bool false, .int .u64 0, .int .u64 0, .int .u64 0, .int .u64 0, .int .i64 0] [.bool b, .int .u64 (l0 N), .int .u64 (l1 N), .int .u64 (l2 N), .int .u64 (l3 N), .int .i64 (k : Int)] Q2 rfl rfl rfl rfl rfl sz26 rfl rfl rfl ?_
  intro w4 hS Qn
  replace Q2 := Qn
  clear Qn
  replace Q1 := hS.other _ _ ne_k1_k2 Q1
  replace M := hS.mo _ N_k2 M
  clear hS
  refine wl_mv (.tmp 23) (.int .i64 (E)) (fun _ => rfl) rfl rfl ?_
  refine w_nil ?_
  refine xn_then ?_
  refine w_seq ?_
  refine w_seq ?_
  refine w_reg ?_
  refine wl_mv (.tmp 7) (.int .i64 (E)) (fun _ => rfl) rfl rfl ?_
  refine wl_bin (fun x y => do eqGuard .neq 30 (.tmp 24) (.const (.int .i64 (0))) x y; binOp .neq 30 x y) (.tmp 24) (.const (.int .i64 (0))) (.int .i64 (E)) (.int .i64 (0)) (.bool true) (fun _ => rfl) rfl rfl (ne30 hE _ _ _) rfl ?_
  refine w_nil ?_
  refine xn_then ?_
  refine w_condT rfl ?_
  refine w_seq ?_
  refine w_reg ?_
  refine wl_build 26 [] [] (.agg #[.bool false, .int .u64 0, .int .u64 0, .int .u64 0, .int .u64 0, .int .i64 0]) rfl rfl (by kernel_rfl) rfl ?_
  refine wl_mv (.tmp 7) (.int .i64 (E)) (fun _ => rfl) rfl rfl ?_
  refine wl_st 26 (.tmp 4) (.tmp 26) k1 0 #[.bool false, .int .u64 0, .int .u64 0, .int .u64 0, .int .u64 0, .int .i64 0] [.bool false, .int .u64 0, .int .u64 0, .int .u64 0, .int .u64 0, .int .i64 0] [.bool false, .int .u64 0, .int .u64 0, .int .u64 0, .int .u64 0, .int .i64 0] Q1 rfl rfl rfl rfl rfl sz26 rfl rfl rfl ?_
  intro w5 hS Qn
  replace Q1 := Qn
  clear Qn
  replace Q2 := hS.other _ _ ne_k1_k2.symm Q2
  replace M := hS.mo _ N_k1 M
  clear hS
  refine wl_mv (.tmp 27) (.int .i64 (E)) (fun _ => rfl) rfl rfl ?_
  refine w_nil ?_
  refine xn_then ?_
  refine w_ret ?_
  refine xr_then ?_
  exact w_ret2 _ _ (.agg #[.bool false, .int .u64 0, .int .u64 0, .int .u64 0, .int .u64 0, .int .i64 0]) (.int .i64 (E)) rfl ⟨k1, rfl, (run_row Q1 26 0 6 [.bool false, .int .u64 0, .int .u64 0, .int .u64 0, .int .u64 0, .int .i64 0] rfl Tryd.underlying26 rfl sz26)⟩ rfl ⟨rfl, M⟩
theorem rpat_p (s : ByteArray) (w : World) (z : Int) (h0 : decide (z < 0) = false) (h1 : decide (z > 18) = false) (b : Bool) (N E : Int) (k : Nat) (hp : ∀ w, Calls Tryd.prog 14 #[.string s] w fun e w' => e = .returned (.tuple #[dc b N (k : Int), .int .i64 E]) ∧ Mo w w') (hE : (E == 0) = true) (hg : decide ((k : Int) > z) = true) : Calls Tryd.prog 16 #[.string s, .int .i64 (z)] w fun e w' => e = .returned (er 31) ∧ Mo w w' := by
  refine w_enter 57 Tryd.func16 Tryd.ntmps16 rfl rfl ?_
  have M : Mo w w := Mo.refl _
  refine w_seq ?_
  refine w_reg ?_
  refine wl_alloc 26 #[.bool false, .int .u64 0, .int .u64 0, .int .u64 0, .int .u64 0, .int .i64 0] rfl (fun _ => by kernel_rfl) rfl ?_
  intro k1 w1 hk hz hq Q1
  have N_k1 : w.heap.size ≤ k1 := by have := M.size; omega
  replace M := M.trans hq
  clear hk hz hq
  refine wl_mv (.const (.int .i64 (0))) (.int .i64 (0)) (fun _ => rfl) rfl rfl ?_
  refine w_nil ?_
  refine xn_then ?_
  refine w_seq ?_
  refine w_seq ?_
  refine w_reg ?_
  refine wl_mv (.tmp 1) (.int .i64 (z)) (fun _ => rfl) rfl rfl ?_
  refine wl_bin (fun x y => do eqGuard .lss 3 (.tmp 12) (.const (.int .i64 (0))) x y; binOp .lss 3 x y) (.tmp 12) (.const (.int .i64 (0))) (.int .i64 (z)) (.int .i64 (0)) (.bool false) (fun _ => rfl) rfl rfl (lt3_run h0 _ _ _) rfl ?_
  refine wl_mv (.tmp 13) (.bool false) (fun _ => rfl) rfl rfl ?_
  refine wl_mv (.tmp 1) (.int .i64 (z)) (fun _ => rfl) rfl rfl ?_
  refine wl_bin (fun x y => do eqGuard .gtr 3 (.tmp 15) (.const (.int .i64 (18))) x y; binOp .gtr 3 x y) (.tmp 15) (.const (.int .i64 (18))) (.int .i64 (z)) (.int .i64 (18)) (.bool false) (fun _ => rfl) rfl rfl (gt3_run h1 _ _ _) rfl ?_
  refine wl_pick (.tmp 14) (.const (.bool true)) (.tmp 16) false (.bool false) (fun _ => rfl) rfl rfl rfl ?_
  refine w_nil ?_
  refine xn_then ?_
  refine w_condF rfl ?_
  refine w_skip ?_
  refine xn_then ?_
  refine w_seq ?_
  refine w_reg ?_
  refine wl_mv (.tmp 0) (.string s) (fun _ => rfl) rfl rfl ?_
  refine wl_call 14 [(.tmp 20)] _ [.string s] (.tuple #[.agg #[.bool b, .int .u64 (l0 N), .int .u64 (l1 N), .int .u64 (l2 N), .int .u64 (l3 N), .int .i64 (k : Int)], .int .i64 (E)]) rfl rfl (fun _ _ => by kernel_rfl) (hp _) rfl ?_
  intro w2 hq
  replace Q1 := Q1.mo hq
  replace M := M.trans hq
  clear hq
  refine wl_mv (.tmp 21) (.tuple #[.agg #[.bool b, .int .u64 (l0 N), .int .u64 (l1 N), .int .u64 (l2 N), .int .u64 (l3 N), .int .i64 (k : Int)], .int .i64 (E)]) (fun _ => rfl) rfl rfl ?_
  refine wl_un (fun v => Instr.extract v 0) (.tmp 19) (.tuple #[.agg #[.bool b, .int .u64 (l0 N), .int .u64 (l1 N), .int .u64 (l2 N), .int .u64 (l3 N), .int .i64 (k : Int)], .int .i64 (E)]) (.agg #[.bool b, .int .u64 (l0 N), .int .u64 (l1 N), .int .u64 (l2 N), .int .u64 (l3 N), .int .i64 (k : Int)]) (fun _ => rfl) rfl (by kernel_rfl) rfl ?_
  refine wl_un (fun v => Instr.extract v 1) (.tmp 19) (.tuple #[.agg #[.bool b, .int .u64 (l0 N), .int .u64 (l1 N), .int .u64 (l2 N), .int .u64 (l3 N), .int .i64 (k : Int)], .int .i64 (E)]) (.int .i64 (E)) (fun _ => rfl) rfl (by kernel_rfl) rfl ?_
  refine wl_alloc 26 #[.bool false, .int .u64 0, .int .u64 0, .int .u64 0, .int .u64 0, .int .i64 0] rfl (fun _ => by kernel_rfl) rfl ?_
  intro k2 w3 hk hz hq Q2
  have ne_k1_k2 : k1 ≠ k2 := by have := Q1.lt; omega
  have N_k2 : w.heap.size ≤ k2 := by have := M.size; omega
  replace Q1 := Q1.mo hq
  replace M := M.trans hq
  clear hk hz hq
  refine wl_st 26 (.tmp 6) (.tmp 22) k2 0 #[.bool b, .int .u64 (l0 N), .int .u64 (l1 N), .int .u64 (l2 N), .int .u64 (l3 N), .int .i64 (k : Int)] [.bool false, .int .u64 0, .int .u64 0, .int .u64 0, .int .u64 0, .int .i64 0] [.bool b, .int .u64 (l0 N), .int .u64 (l1 N), .int .u64 (l2 N), .int .u64 (l3 N), .int .i64 (k : Int)] Q2 rfl rfl rfl rfl rfl sz26 rfl rfl rfl ?_
  intro w4 hS Qn
  replace Q2 := Qn
  clear Qn
  replace Q1 := hS.other _ _ ne_k1_k2 Q1
  replace M := hS.mo _ N_k2 M
  clear hS
  refine wl_mv (.tmp 23) (.int .i64 (E)) (fun _ => rfl) rfl rfl ?_
  refine w_nil ?_
  refine xn_then ?_
  refine w_seq ?_
  refine w_seq ?_
  refine w_reg ?_
  refine wl_mv (.tmp 7) (.int .i64 (E)) (fun _ => rfl) rfl rfl ?_
  refine wl_bin (fun x y => do eqGuard .neq 30 (.tmp 24) (.const (.int .i64 (0))) x y; binOp .neq 30 x y) (.tmp 24) (.const (.int .i64 (0))) (.int .i64 (E)) (.int .i64 (0)) (.bool false) (fun _ => rfl) rfl rfl (ne30 hE _ _ _) rfl ?_
  refine w_nil ?_
  refine xn_then ?_
  refine w_condF rfl ?_
  refine w_skip ?_
  refine xn_then ?_
  refine w_seq ?_
  refine w_seq ?_
  refine w_reg ?_
  refine wl_un (fun v => Instr.fieldAt 26 v 2) (.tmp 6) (pt k2 0) (pt k2 5) (fun _ => rfl) rfl (by kernel_rfl) rfl ?_
  refine wl_load 3 (.tmp 28) (pt k2 5) (.int .i64 (k : Int)) rfl rfl (run_one Q2 3 5 rfl Tryd.underlying3 rfl) rfl ?_
  refine wl_mv (.tmp 1) (.int .i64 (z)) (fun _ => rfl) rfl rfl ?_
  refine wl_bin (fun x y => do eqGuard .gtr 3 (.tmp 29) (.tmp 30) x y; binOp .gtr 3 x y) (.tmp 29) (.tmp 30) (.int .i64 (k : Int)) (.int .i64 (z)) (.bool true) (fun _ => rfl) rfl rfl (gt3_run hg _ _ _) rfl ?_
  refine w_nil ?_
  refine xn_then ?_
  refine w_condT rfl ?_
  refine w_seq ?_
  refine w_reg ?_
  refine wl_build 26 [] [] (.agg #[.bool false, .int .u64 0, .int .u64 0, .int .u64 0, .int .u64 0, .int .i64 0]) rfl rfl (by kernel_rfl) rfl ?_
  refine wl_st 26 (.tmp 4) (.tmp 32) k1 0 #[.bool false, .int .u64 0, .int .u64 0, .int .u64 0, .int .u64 0, .int .i64 0] [.bool false, .int .u64 0, .int .u64 0, .int .u64 0, .int .u64 0, .int .i64 0] [.bool false, .int .u64 0, .int .u64 0, .int .u64 0, .int .u64 0, .int .i64 0] Q1 rfl rfl rfl rfl rfl sz26 rfl rfl rfl ?_
  intro w5 hS Qn
  replace Q1 := Qn
  clear Qn
  replace Q2 := hS.other _ _ ne_k1_k2.symm Q2
  replace M := hS.mo _ N_k1 M
  clear hS
  refine wl_mv (.const (.int .i64 (31))) (.int .i64 (31)) (fun _ => rfl) rfl rfl ?_
  refine w_nil ?_
  refine xn_then ?_
  refine w_ret ?_
  refine xr_then ?_
  exact w_ret2 _ _ (.agg #[.bool false, .int .u64 0, .int .u64 0, .int .u64 0, .int .u64 0, .int .i64 0]) (.int .i64 (31)) rfl ⟨k1, rfl, (run_row Q1 26 0 6 [.bool false, .int .u64 0, .int .u64 0, .int .u64 0, .int .u64 0, .int .i64 0] rfl Tryd.underlying26 rfl sz26)⟩ rfl ⟨rfl, M⟩
theorem rpat_o (s : ByteArray) (w : World) (b : Bool) (N E : Int) (k j : Nat) (hp : ∀ w, Calls Tryd.prog 14 #[.string s] w fun e w' => e = .returned (.tuple #[dc b N (k : Int), .int .i64 E]) ∧ Mo w w') (hE : (E == 0) = true) (hkj : k + j ≤ 18) (hN0 : 0 ≤ N) (hNM : N < MM) (hi : (l0 (N * 10 ^ j / MM) == 0 && (l1 (N * 10 ^ j / MM) == 0 && (l2 (N * 10 ^ j / MM) == 0 && l3 (N * 10 ^ j / MM) == 0))) = false) : Calls Tryd.prog 16 #[.string s, .int .i64 (((k + j : Nat) : Int))] w fun e w' => e = .returned (er 7) ∧ Mo w w' := by
  have h0 : decide (((k + j : Nat) : Int) < 0) = false := decide_eq_false (by omega)
  have h1 : decide (((k + j : Nat) : Int) > 18) = false := decide_eq_false (by omega)
  have hg : decide ((k : Int) > ((k + j : Nat) : Int)) = false := decide_eq_false (by omega)
  have hT0 : (0 : Int) ≤ 10 ^ j := Int.le_of_lt (pow_lt j (by omega)).1
  have hTM : (10 : Int) ^ j < MM := (pow_lt j (by omega)).2
  refine w_enter 57 Tryd.func16 Tryd.ntmps16 rfl rfl ?_
  have M : Mo w w := Mo.refl _
  refine w_seq ?_
  refine w_reg ?_
  refine wl_alloc 26 #[.bool false, .int .u64 0, .int .u64 0, .int .u64 0, .int .u64 0, .int .i64 0] rfl (fun _ => by kernel_rfl) rfl ?_
  intro k1 w1 hk hz hq Q1
  have N_k1 : w.heap.size ≤ k1 := by have := M.size; omega
  replace M := M.trans hq
  clear hk hz hq
  refine wl_mv (.const (.int .i64 (0))) (.int .i64 (0)) (fun _ => rfl) rfl rfl ?_
  refine w_nil ?_
  refine xn_then ?_
  refine w_seq ?_
  refine w_seq ?_
  refine w_reg ?_
  refine wl_mv (.tmp 1) (.int .i64 (((k + j : Nat) : Int))) (fun _ => rfl) rfl rfl ?_
  refine wl_bin (fun x y => do eqGuard .lss 3 (.tmp 12) (.const (.int .i64 (0))) x y; binOp .lss 3 x y) (.tmp 12) (.const (.int .i64 (0))) (.int .i64 (((k + j : Nat) : Int))) (.int .i64 (0)) (.bool false) (fun _ => rfl) rfl rfl (lt3_run h0 _ _ _) rfl ?_
  refine wl_mv (.tmp 13) (.bool false) (fun _ => rfl) rfl rfl ?_
  refine wl_mv (.tmp 1) (.int .i64 (((k + j : Nat) : Int))) (fun _ => rfl) rfl rfl ?_
  refine wl_bin (fun x y => do eqGuard .gtr 3 (.tmp 15) (.const (.int .i64 (18))) x y; binOp .gtr 3 x y) (.tmp 15) (.const (.int .i64 (18))) (.int .i64 (((k + j : Nat) : Int))) (.int .i64 (18)) (.bool false) (fun _ => rfl) rfl rfl (gt3_run h1 _ _ _) rfl ?_
  refine wl_pick (.tmp 14) (.const (.bool true)) (.tmp 16) false (.bool false) (fun _ => rfl) rfl rfl rfl ?_
  refine w_nil ?_
  refine xn_then ?_
  refine w_condF rfl ?_
  refine w_skip ?_
  refine xn_then ?_
  refine w_seq ?_
  refine w_reg ?_
  refine wl_mv (.tmp 0) (.string s) (fun _ => rfl) rfl rfl ?_
  refine wl_call 14 [(.tmp 20)] _ [.string s] (.tuple #[.agg #[.bool b, .int .u64 (l0 N), .int .u64 (l1 N), .int .u64 (l2 N), .int .u64 (l3 N), .int .i64 (k : Int)], .int .i64 (E)]) rfl rfl (fun _ _ => by kernel_rfl) (hp _) rfl ?_
  intro w2 hq
  replace Q1 := Q1.mo hq
  replace M := M.trans hq
  clear hq
  refine wl_mv (.tmp 21) (.tuple #[.agg #[.bool b, .int .u64 (l0 N), .int .u64 (l1 N), .int .u64 (l2 N), .int .u64 (l3 N), .int .i64 (k : Int)], .int .i64 (E)]) (fun _ => rfl) rfl rfl ?_
  refine wl_un (fun v => Instr.extract v 0) (.tmp 19) (.tuple #[.agg #[.bool b, .int .u64 (l0 N), .int .u64 (l1 N), .int .u64 (l2 N), .int .u64 (l3 N), .int .i64 (k : Int)], .int .i64 (E)]) (.agg #[.bool b, .int .u64 (l0 N), .int .u64 (l1 N), .int .u64 (l2 N), .int .u64 (l3 N), .int .i64 (k : Int)]) (fun _ => rfl) rfl (by kernel_rfl) rfl ?_
  refine wl_un (fun v => Instr.extract v 1) (.tmp 19) (.tuple #[.agg #[.bool b, .int .u64 (l0 N), .int .u64 (l1 N), .int .u64 (l2 N), .int .u64 (l3 N), .int .i64 (k : Int)], .int .i64 (E)]) (.int .i64 (E)) (fun _ => rfl) rfl (by kernel_rfl) rfl ?_
  refine wl_alloc 26 #[.bool false, .int .u64 0, .int .u64 0, .int .u64 0, .int .u64 0, .int .i64 0] rfl (fun _ => by kernel_rfl) rfl ?_
  intro k2 w3 hk hz hq Q2
  have ne_k1_k2 : k1 ≠ k2 := by have := Q1.lt; omega
  have N_k2 : w.heap.size ≤ k2 := by have := M.size; omega
  replace Q1 := Q1.mo hq
  replace M := M.trans hq
  clear hk hz hq
  refine wl_st 26 (.tmp 6) (.tmp 22) k2 0 #[.bool b, .int .u64 (l0 N), .int .u64 (l1 N), .int .u64 (l2 N), .int .u64 (l3 N), .int .i64 (k : Int)] [.bool false, .int .u64 0, .int .u64 0, .int .u64 0, .int .u64 0, .int .i64 0] [.bool b, .int .u64 (l0 N), .int .u64 (l1 N), .int .u64 (l2 N), .int .u64 (l3 N), .int .i64 (k : Int)] Q2 rfl rfl rfl rfl rfl sz26 rfl rfl rfl ?_
  intro w4 hS Qn
  replace Q2 := Qn
  clear Qn
  replace Q1 := hS.other _ _ ne_k1_k2 Q1
  replace M := hS.mo _ N_k2 M
  clear hS
  refine wl_mv (.tmp 23) (.int .i64 (E)) (fun _ => rfl) rfl rfl ?_
  refine w_nil ?_
  refine xn_then ?_
  refine w_seq ?_
  refine w_seq ?_
  refine w_reg ?_
  refine wl_mv (.tmp 7) (.int .i64 (E)) (fun _ => rfl) rfl rfl ?_
  refine wl_bin (fun x y => do eqGuard .neq 30 (.tmp 24) (.const (.int .i64 (0))) x y; binOp .neq 30 x y) (.tmp 24) (.const (.int .i64 (0))) (.int .i64 (E)) (.int .i64 (0)) (.bool false) (fun _ => rfl) rfl rfl (ne30 hE _ _ _) rfl ?_
  refine w_nil ?_
  refine xn_then ?_
  refine w_condF rfl ?_
  refine w_skip ?_
  refine xn_then ?_
  refine w_seq ?_
  refine w_seq ?_
  refine w_reg ?_
  refine wl_un (fun v => Instr.fieldAt 26 v 2) (.tmp 6) (pt k2 0) (pt k2 5) (fun _ => rfl) rfl (by kernel_rfl) rfl ?_
  refine wl_load 3 (.tmp 28) (pt k2 5) (.int .i64 (k : Int)) rfl rfl (run_one Q2 3 5 rfl Tryd.underlying3 rfl) rfl ?_
  refine wl_mv (.tmp 1) (.int .i64 (((k + j : Nat) : Int))) (fun _ => rfl) rfl rfl ?_
  refine wl_bin (fun x y => do eqGuard .gtr 3 (.tmp 29) (.tmp 30) x y; binOp .gtr 3 x y) (.tmp 29) (.tmp 30) (.int .i64 (k : Int)) (.int .i64 (((k + j : Nat) : Int))) (.bool false) (fun _ => rfl) rfl rfl (gt3_run hg _ _ _) rfl ?_
  refine w_nil ?_
  refine xn_then ?_
  refine w_condF rfl ?_
  refine w_skip ?_
  refine xn_then ?_
  refine w_seq ?_
  refine w_reg ?_
  refine wl_mv (.tmp 1) (.int .i64 (((k + j : Nat) : Int))) (fun _ => rfl) rfl rfl ?_
  refine wl_un (fun v => Instr.fieldAt 26 v 2) (.tmp 6) (pt k2 0) (pt k2 5) (fun _ => rfl) rfl (by kernel_rfl) rfl ?_
  refine wl_load 3 (.tmp 35) (pt k2 5) (.int .i64 (k : Int)) rfl rfl (run_one Q2 3 5 rfl Tryd.underlying3 rfl) rfl ?_
  refine wl_bin (fun x y => do eqGuard .sub 3 (.tmp 34) (.tmp 36) x y; binOp .sub 3 x y) (.tmp 34) (.tmp 36) (.int .i64 (((k + j : Nat) : Int))) (.int .i64 (k : Int)) (.int .i64 ((j : Int))) (fun _ => rfl) rfl rfl (sub3z hkj _ _ _) rfl ?_
  refine wl_call 35 [(.tmp 37)] _ [.int .i64 ((j : Int))] (.tuple #[.agg #[.int .u64 (l0 (10 ^ j)), .int .u64 (l1 (10 ^ j)), .int .u64 (l2 (10 ^ j)), .int .u64 (l3 (10 ^ j))], .bool true]) rfl rfl (fun _ _ => by kernel_rfl) (rten_yes j _ (by omega)) rfl ?_
  intro w5 hq
  replace Q1 := Q1.mo hq
  replace Q2 := Q2.mo hq
  replace M := M.trans hq
  clear hq
  refine wl_mv (.tmp 38) (.tuple #[.agg #[.int .u64 (l0 (10 ^ j)), .int .u64 (l1 (10 ^ j)), .int .u64 (l2 (10 ^ j)), .int .u64 (l3 (10 ^ j))], .bool true]) (fun _ => rfl) rfl rfl ?_
  refine wl_un (fun v => Instr.extract v 0) (.tmp 33) (.tuple #[.agg #[.int .u64 (l0 (10 ^ j)), .int .u64 (l1 (10 ^ j)), .int .u64 (l2 (10 ^ j)), .int .u64 (l3 (10 ^ j))], .bool true]) (.agg #[.int .u64 (l0 (10 ^ j)), .int .u64 (l1 (10 ^ j)), .int .u64 (l2 (10 ^ j)), .int .u64 (l3 (10 ^ j))]) (fun _ => rfl) rfl (by kernel_rfl) rfl ?_
  refine wl_un (fun v => Instr.extract v 1) (.tmp 33) (.tuple #[.agg #[.int .u64 (l0 (10 ^ j)), .int .u64 (l1 (10 ^ j)), .int .u64 (l2 (10 ^ j)), .int .u64 (l3 (10 ^ j))], .bool true]) (.bool true) (fun _ => rfl) rfl (by kernel_rfl) rfl ?_
  refine wl_alloc 24 #[.int .u64 0, .int .u64 0, .int .u64 0, .int .u64 0] rfl (fun _ => by kernel_rfl) rfl ?_
  intro k3 w6 hk hz hq Q3
  have ne_k1_k3 : k1 ≠ k3 := by have := Q1.lt; omega
  have ne_k2_k3 : k2 ≠ k3 := by have := Q2.lt; omega
  have N_k3 : w.heap.size ≤ k3 := by have := M.size; omega
  replace Q1 := Q1.mo hq
  replace Q2 := Q2.mo hq
  replace M := M.trans hq
  clear hk hz hq
  refine wl_st 24 (.tmp 8) (.tmp 39) k3 0 #[.int .u64 (l0 (10 ^ j)), .int .u64 (l1 (10 ^ j)), .int .u64 (l2 (10 ^ j)), .int .u64 (l3 (10 ^ j))] [.int .u64 0, .int .u64 0, .int .u64 0, .int .u64 0] [.int .u64 (l0 (10 ^ j)), .int .u64 (l1 (10 ^ j)), .int .u64 (l2 (10 ^ j)), .int .u64 (l3 (10 ^ j))] Q3 rfl rfl rfl rfl rfl sz24 rfl rfl rfl ?_
  intro w7 hS Qn
  replace Q3 := Qn
  clear Qn
  replace Q1 := hS.other _ _ ne_k1_k3 Q1
  replace Q2 := hS.other _ _ ne_k2_k3 Q2
  replace M := hS.mo _ N_k3 M
  clear hS
  refine wl_mv (.tmp 40) (.bool true) (fun _ => rfl) rfl rfl ?_
  refine w_nil ?_
  refine xn_then ?_
  refine w_seq ?_
  refine w_reg ?_
  refine wl_un (fun v => Instr.fieldAt 26 v 1) (.tmp 6) (pt k2 0) (pt k2 1) (fun _ => rfl) rfl (by kernel_rfl) rfl ?_
  refine wl_load 24 (.tmp 42) (pt k2 1) (.agg #[.int .u64 (l0 N), .int .u64 (l1 N), .int .u64 (l2 N), .int .u64 (l3 N)]) rfl rfl (run_row Q2 24 1 4 [.int .u64 (l0 N), .int .u64 (l1 N), .int .u64 (l2 N), .int .u64 (l3 N)] rfl Tryd.underlying24 rfl sz24) rfl ?_
  refine wl_load 24 (.tmp 8) (pt k3 0) (.agg #[.int .u64 (l0 (10 ^ j)), .int .u64 (l1 (10 ^ j)), .int .u64 (l2 (10 ^ j)), .int .u64 (l3 (10 ^ j))]) rfl rfl (run_row Q3 24 0 4 [.int .u64 (l0 (10 ^ j)), .int .u64 (l1 (10 ^ j)), .int .u64 (l2 (10 ^ j)), .int .u64 (l3 (10 ^ j))] rfl Tryd.underlying24 rfl sz24) rfl ?_
  refine wl_call 36 [(.tmp 43), (.tmp 44)] _ [.agg #[.int .u64 (l0 N), .int .u64 (l1 N), .int .u64 (l2 N), .int .u64 (l3 N)], .agg #[.int .u64 (l0 (10 ^ j)), .int .u64 (l1 (10 ^ j)), .int .u64 (l2 (10 ^ j)), .int .u64 (l3 (10 ^ j))]] (.tuple #[.agg #[.int .u64 (l0 (N * 10 ^ j / MM)), .int .u64 (l1 (N * 10 ^ j / MM)), .int .u64 (l2 (N * 10 ^ j / MM)), .int .u64 (l3 (N * 10 ^ j / MM))], .agg #[.int .u64 (l0 (N * 10 ^ j)), .int .u64 (l1 (N * 10 ^ j)), .int .u64 (l2 (N * 10 ^ j)), .int .u64 (l3 (N * 10 ^ j))]]) rfl rfl (fun _ _ => by kernel_rfl) (rmul_n N (10 ^ j) _ hN0 hNM hT0 hTM) rfl ?_
  intro w8 hq
  replace Q1 := Q1.mo hq
  replace Q2 := Q2.mo hq
  replace Q3 := Q3.mo hq
  replace M := M.trans hq
  clear hq
  refine wl_mv (.tmp 45) (.tuple #[.agg #[.int .u64 (l0 (N * 10 ^ j / MM)), .int .u64 (l1 (N * 10 ^ j / MM)), .int .u64 (l2 (N * 10 ^ j / MM)), .int .u64 (l3 (N * 10 ^ j / MM))], .agg #[.int .u64 (l0 (N * 10 ^ j)), .int .u64 (l1 (N * 10 ^ j)), .int .u64 (l2 (N * 10 ^ j)), .int .u64 (l3 (N * 10 ^ j))]]) (fun _ => rfl) rfl rfl ?_
  refine wl_un (fun v => Instr.extract v 0) (.tmp 41) (.tuple #[.agg #[.int .u64 (l0 (N * 10 ^ j / MM)), .int .u64 (l1 (N * 10 ^ j / MM)), .int .u64 (l2 (N * 10 ^ j / MM)), .int .u64 (l3 (N * 10 ^ j / MM))], .agg #[.int .u64 (l0 (N * 10 ^ j)), .int .u64 (l1 (N * 10 ^ j)), .int .u64 (l2 (N * 10 ^ j)), .int .u64 (l3 (N * 10 ^ j))]]) (.agg #[.int .u64 (l0 (N * 10 ^ j / MM)), .int .u64 (l1 (N * 10 ^ j / MM)), .int .u64 (l2 (N * 10 ^ j / MM)), .int .u64 (l3 (N * 10 ^ j / MM))]) (fun _ => rfl) rfl (by kernel_rfl) rfl ?_
  refine wl_un (fun v => Instr.extract v 1) (.tmp 41) (.tuple #[.agg #[.int .u64 (l0 (N * 10 ^ j / MM)), .int .u64 (l1 (N * 10 ^ j / MM)), .int .u64 (l2 (N * 10 ^ j / MM)), .int .u64 (l3 (N * 10 ^ j / MM))], .agg #[.int .u64 (l0 (N * 10 ^ j)), .int .u64 (l1 (N * 10 ^ j)), .int .u64 (l2 (N * 10 ^ j)), .int .u64 (l3 (N * 10 ^ j))]]) (.agg #[.int .u64 (l0 (N * 10 ^ j)), .int .u64 (l1 (N * 10 ^ j)), .int .u64 (l2 (N * 10 ^ j)), .int .u64 (l3 (N * 10 ^ j))]) (fun _ => rfl) rfl (by kernel_rfl) rfl ?_
  refine wl_alloc 24 #[.int .u64 0, .int .u64 0, .int .u64 0, .int .u64 0] rfl (fun _ => by kernel_rfl) rfl ?_
  intro k4 w9 hk hz hq Q4
  have ne_k1_k4 : k1 ≠ k4 := by have := Q1.lt; omega
  have ne_k2_k4 : k2 ≠ k4 := by have := Q2.lt; omega
  have ne_k3_k4 : k3 ≠ k4 := by have := Q3.lt; omega
  have N_k4 : w.heap.size ≤ k4 := by have := M.size; omega
  replace Q1 := Q1.mo hq
  replace Q2 := Q2.mo hq
  replace Q3 := Q3.mo hq
  replace M := M.trans hq
  clear hk hz hq
  refine wl_alloc 24 #[.int .u64 0, .int .u64 0, .int .u64 0, .int .u64 0] rfl (fun _ => by kernel_rfl) rfl ?_
  intro k5 w10 hk hz hq Q5
  have ne_k1_k5 : k1 ≠ k5 := by have := Q1.lt; omega
  have ne_k2_k5 : k2 ≠ k5 := by have := Q2.lt; omega
  have ne_k3_k5 : k3 ≠ k5 := by have := Q3.lt; omega
  have ne_k4_k5 : k4 ≠ k5 := by have := Q4.lt; omega
  have N_k5 : w.heap.size ≤ k5 := by have := M.size; omega
  replace Q1 := Q1.mo hq
  replace Q2 := Q2.mo hq
  replace Q3 := Q3.mo hq
  replace Q4 := Q4.mo hq
  replace M := M.trans hq
  clear hk hz hq
  refine wl_st 24 (.tmp 10) (.tmp 46) k4 0 #[.int .u64 (l0 (N * 10 ^ j / MM)), .int .u64 (l1 (N * 10 ^ j / MM)), .int .u64 (l2 (N * 10 ^ j / MM)), .int .u64 (l3 (N * 10 ^ j / MM))] [.int .u64 0, .int .u64 0, .int .u64 0, .int .u64 0] [.int .u64 (l0 (N * 10 ^ j / MM)), .int .u64 (l1 (N * 10 ^ j / MM)), .int .u64 (l2 (N * 10 ^ j / MM)), .int .u64 (l3 (N * 10 ^ j / MM))] Q4 rfl rfl rfl rfl rfl sz24 rfl rfl rfl ?_
  intro w11 hS Qn
  replace Q4 := Qn
  clear Qn
  replace Q1 := hS.other _ _ ne_k1_k4 Q1
  replace Q2 := hS.other _ _ ne_k2_k4 Q2
  replace Q3 := hS.other _ _ ne_k3_k4 Q3
  replace Q5 := hS.other _ _ ne_k4_k5.symm Q5
  replace M := hS.mo _ N_k4 M
  clear hS
  refine wl_st 24 (.tmp 11) (.tmp 47) k5 0 #[.int .u64 (l0 (N * 10 ^ j)), .int .u64 (l1 (N * 10 ^ j)), .int .u64 (l2 (N * 10 ^ j)), .int .u64 (l3 (N * 10 ^ j))] [.int .u64 0, .int .u64 0, .int .u64 0, .int .u64 0] [.int .u64 (l0 (N * 10 ^ j)), .int .u64 (l1 (N * 10 ^ j)), .int .u64 (l2 (N * 10 ^ j)), .int .u64 (l3 (N * 10 ^ j))] Q5 rfl rfl rfl rfl rfl sz24 rfl rfl rfl ?_
  intro w12 hS Qn
  replace Q5 := Qn
  clear Qn
  replace Q1 := hS.other _ _ ne_k1_k5 Q1
  replace Q2 := hS.other _ _ ne_k2_k5 Q2
  replace Q3 := hS.other _ _ ne_k3_k5 Q3
  replace Q4 := hS.other _ _ ne_k4_k5 Q4
  replace M := hS.mo _ N_k5 M
  clear hS
  refine w_nil ?_
  refine xn_then ?_
  refine w_seq ?_
  refine w_seq ?_
  refine w_reg ?_
  refine wl_load 24 (.tmp 10) (pt k4 0) (.agg #[.int .u64 (l0 (N * 10 ^ j / MM)), .int .u64 (l1 (N * 10 ^ j / MM)), .int .u64 (l2 (N * 10 ^ j / MM)), .int .u64 (l3 (N * 10 ^ j / MM))]) rfl rfl (run_row Q4 24 0 4 [.int .u64 (l0 (N * 10 ^ j / MM)), .int .u64 (l1 (N * 10 ^ j / MM)), .int .u64 (l2 (N * 10 ^ j / MM)), .int .u64 (l3 (N * 10 ^ j / MM))] rfl Tryd.underlying24 rfl sz24) rfl ?_
  refine wl_build 24 [] [] (.agg #[.int .u64 0, .int .u64 0, .int .u64 0, .int .u64 0]) rfl rfl (by kernel_rfl) rfl ?_
  refine wl_bin (fun x y => do eqGuard .neq 24 (.tmp 48) (.tmp 49) x y; binOp .neq 24 x y) (.tmp 48) (.tmp 49) (.agg #[.int .u64 (l0 (N * 10 ^ j / MM)), .int .u64 (l1 (N * 10 ^ j / MM)), .int .u64 (l2 (N * 10 ^ j / MM)), .int .u64 (l3 (N * 10 ^ j / MM))]) (.agg #[.int .u64 0, .int .u64 0, .int .u64 0, .int .u64 0]) (.bool true) (fun _ => rfl) rfl rfl (nen_run (r := false) hi _ _ _) rfl ?_
  refine w_nil ?_
  refine xn_then ?_
  refine w_condT rfl ?_
  refine w_seq ?_
  refine w_reg ?_
  refine wl_build 26 [] [] (.agg #[.bool false, .int .u64 0, .int .u64 0, .int .u64 0, .int .u64 0, .int .i64 0]) rfl rfl (by kernel_rfl) rfl ?_
  refine wl_st 26 (.tmp 4) (.tmp 51) k1 0 #[.bool false, .int .u64 0, .int .u64 0, .int .u64 0, .int .u64 0, .int .i64 0] [.bool false, .int .u64 0, .int .u64 0, .int .u64 0, .int .u64 0, .int .i64 0] [.bool false, .int .u64 0, .int .u64 0, .int .u64 0, .int .u64 0, .int .i64 0] Q1 rfl rfl rfl rfl rfl sz26 rfl rfl rfl ?_
  intro w13 hS Qn
  replace Q1 := Qn
  clear Qn
  replace Q2 := hS.other _ _ ne_k1_k2.symm Q2
  replace Q3 := hS.other _ _ ne_k1_k3.symm Q3
  replace Q4 := hS.other _ _ ne_k1_k4.symm Q4
  replace Q5 := hS.other _ _ ne_k1_k5.symm Q5
  replace M := hS.mo _ N_k1 M
  clear hS
  refine wl_mv (.const (.int .i64 (7))) (.int .i64 (7)) (fun _ => rfl) rfl rfl ?_
  refine w_nil ?_
  refine xn_then ?_
  refine w_ret ?_
  refine xr_then ?_
  exact w_ret2 _ _ (.agg #[.bool false, .int .u64 0, .int .u64 0, .int .u64 0, .int .u64 0, .int .i64 0]) (.int .i64 (7)) rfl ⟨k1, rfl, (run_row Q1 26 0 6 [.bool false, .int .u64 0, .int .u64 0, .int .u64 0, .int .u64 0, .int .i64 0] rfl Tryd.underlying26 rfl sz26)⟩ rfl ⟨rfl, M⟩
theorem rpat_r (s : ByteArray) (w : World) (b : Bool) (N E : Int) (k j : Nat) (hp : ∀ w, Calls Tryd.prog 14 #[.string s] w fun e w' => e = .returned (.tuple #[dc b N (k : Int), .int .i64 E]) ∧ Mo w w') (hE : (E == 0) = true) (hkj : k + j ≤ 18) (hN0 : 0 ≤ N) (hNM : N < MM) (hi : (l0 (N * 10 ^ j / MM) == 0 && (l1 (N * 10 ^ j / MM) == 0 && (l2 (N * 10 ^ j / MM) == 0 && l3 (N * 10 ^ j / MM) == 0))) = true) : Calls Tryd.prog 16 #[.string s, .int .i64 (((k + j : Nat) : Int))] w fun e w' => e = .returned (.tuple #[dc b (N * 10 ^ j) ((k + j : Nat) : Int), .int .i64 0]) ∧ Mo w w' := by
  have h0 : decide (((k + j : Nat) : Int) < 0) = false := decide_eq_false (by omega)
  have h1 : decide (((k + j : Nat) : Int) > 18) = false := decide_eq_false (by omega)
  have hg : decide ((k : Int) > ((k + j : Nat) : Int)) = false := decide_eq_false (by omega)
  have hT0 : (0 : Int) ≤ 10 ^ j := Int.le_of_lt (pow_lt j (by omega)).1
  have hTM : (10 : Int) ^ j < MM := (pow_lt j (by omega)).2
  refine w_enter 57 Tryd.func16 Tryd.ntmps16 rfl rfl ?_
  have M : Mo w w := Mo.refl _
  refine w_seq ?_
  refine w_reg ?_
  refine wl_alloc 26 #[.bool false, .int .u64 0, .int .u64 0, .int .u64 0, .int .u64 0, .int .i64 0] rfl (fun _ => by kernel_rfl) rfl ?_
  intro k1 w1 hk hz hq Q1
  have N_k1 : w.heap.size ≤ k1 := by have := M.size; omega
  replace M := M.trans hq
  clear hk hz hq
  refine wl_mv (.const (.int .i64 (0))) (.int .i64 (0)) (fun _ => rfl) rfl rfl ?_
  refine w_nil ?_
  refine xn_then ?_
  refine w_seq ?_
  refine w_seq ?_
  refine w_reg ?_
  refine wl_mv (.tmp 1) (.int .i64 (((k + j : Nat) : Int))) (fun _ => rfl) rfl rfl ?_
  refine wl_bin (fun x y => do eqGuard .lss 3 (.tmp 12) (.const (.int .i64 (0))) x y; binOp .lss 3 x y) (.tmp 12) (.const (.int .i64 (0))) (.int .i64 (((k + j : Nat) : Int))) (.int .i64 (0)) (.bool false) (fun _ => rfl) rfl rfl (lt3_run h0 _ _ _) rfl ?_
  refine wl_mv (.tmp 13) (.bool false) (fun _ => rfl) rfl rfl ?_
  refine wl_mv (.tmp 1) (.int .i64 (((k + j : Nat) : Int))) (fun _ => rfl) rfl rfl ?_
  refine wl_bin (fun x y => do eqGuard .gtr 3 (.tmp 15) (.const (.int .i64 (18))) x y; binOp .gtr 3 x y) (.tmp 15) (.const (.int .i64 (18))) (.int .i64 (((k + j : Nat) : Int))) (.int .i64 (18)) (.bool false) (fun _ => rfl) rfl rfl (gt3_run h1 _ _ _) rfl ?_
  refine wl_pick (.tmp 14) (.const (.bool true)) (.tmp 16) false (.bool false) (fun _ => rfl) rfl rfl rfl ?_
  refine w_nil ?_
  refine xn_then ?_
  refine w_condF rfl ?_
  refine w_skip ?_
  refine xn_then ?_
  refine w_seq ?_
  refine w_reg ?_
  refine wl_mv (.tmp 0) (.string s) (fun _ => rfl) rfl rfl ?_
  refine wl_call 14 [(.tmp 20)] _ [.string s] (.tuple #[.agg #[.bool b, .int .u64 (l0 N), .int .u64 (l1 N), .int .u64 (l2 N), .int .u64 (l3 N), .int .i64 (k : Int)], .int .i64 (E)]) rfl rfl (fun _ _ => by kernel_rfl) (hp _) rfl ?_
  intro w2 hq
  replace Q1 := Q1.mo hq
  replace M := M.trans hq
  clear hq
  refine wl_mv (.tmp 21) (.tuple #[.agg #[.bool b, .int .u64 (l0 N), .int .u64 (l1 N), .int .u64 (l2 N), .int .u64 (l3 N), .int .i64 (k : Int)], .int .i64 (E)]) (fun _ => rfl) rfl rfl ?_
  refine wl_un (fun v => Instr.extract v 0) (.tmp 19) (.tuple #[.agg #[.bool b, .int .u64 (l0 N), .int .u64 (l1 N), .int .u64 (l2 N), .int .u64 (l3 N), .int .i64 (k : Int)], .int .i64 (E)]) (.agg #[.bool b, .int .u64 (l0 N), .int .u64 (l1 N), .int .u64 (l2 N), .int .u64 (l3 N), .int .i64 (k : Int)]) (fun _ => rfl) rfl (by kernel_rfl) rfl ?_
  refine wl_un (fun v => Instr.extract v 1) (.tmp 19) (.tuple #[.agg #[.bool b, .int .u64 (l0 N), .int .u64 (l1 N), .int .u64 (l2 N), .int .u64 (l3 N), .int .i64 (k : Int)], .int .i64 (E)]) (.int .i64 (E)) (fun _ => rfl) rfl (by kernel_rfl) rfl ?_
  refine wl_alloc 26 #[.bool false, .int .u64 0, .int .u64 0, .int .u64 0, .int .u64 0, .int .i64 0] rfl (fun _ => by kernel_rfl) rfl ?_
  intro k2 w3 hk hz hq Q2
  have ne_k1_k2 : k1 ≠ k2 := by have := Q1.lt; omega
  have N_k2 : w.heap.size ≤ k2 := by have := M.size; omega
  replace Q1 := Q1.mo hq
  replace M := M.trans hq
  clear hk hz hq
  refine wl_st 26 (.tmp 6) (.tmp 22) k2 0 #[.bool b, .int .u64 (l0 N), .int .u64 (l1 N), .int .u64 (l2 N), .int .u64 (l3 N), .int .i64 (k : Int)] [.bool false, .int .u64 0, .int .u64 0, .int .u64 0, .int .u64 0, .int .i64 0] [.bool b, .int .u64 (l0 N), .int .u64 (l1 N), .int .u64 (l2 N), .int .u64 (l3 N), .int .i64 (k : Int)] Q2 rfl rfl rfl rfl rfl sz26 rfl rfl rfl ?_
  intro w4 hS Qn
  replace Q2 := Qn
  clear Qn
  replace Q1 := hS.other _ _ ne_k1_k2 Q1
  replace M := hS.mo _ N_k2 M
  clear hS
  refine wl_mv (.tmp 23) (.int .i64 (E)) (fun _ => rfl) rfl rfl ?_
  refine w_nil ?_
  refine xn_then ?_
  refine w_seq ?_
  refine w_seq ?_
  refine w_reg ?_
  refine wl_mv (.tmp 7) (.int .i64 (E)) (fun _ => rfl) rfl rfl ?_
  refine wl_bin (fun x y => do eqGuard .neq 30 (.tmp 24) (.const (.int .i64 (0))) x y; binOp .neq 30 x y) (.tmp 24) (.const (.int .i64 (0))) (.int .i64 (E)) (.int .i64 (0)) (.bool false) (fun _ => rfl) rfl rfl (ne30 hE _ _ _) rfl ?_
  refine w_nil ?_
  refine xn_then ?_
  refine w_condF rfl ?_
  refine w_skip ?_
  refine xn_then ?_
  refine w_seq ?_
  refine w_seq ?_
  refine w_reg ?_
  refine wl_un (fun v => Instr.fieldAt 26 v 2) (.tmp 6) (pt k2 0) (pt k2 5) (fun _ => rfl) rfl (by kernel_rfl) rfl ?_
  refine wl_load 3 (.tmp 28) (pt k2 5) (.int .i64 (k : Int)) rfl rfl (run_one Q2 3 5 rfl Tryd.underlying3 rfl) rfl ?_
  refine wl_mv (.tmp 1) (.int .i64 (((k + j : Nat) : Int))) (fun _ => rfl) rfl rfl ?_
  refine wl_bin (fun x y => do eqGuard .gtr 3 (.tmp 29) (.tmp 30) x y; binOp .gtr 3 x y) (.tmp 29) (.tmp 30) (.int .i64 (k : Int)) (.int .i64 (((k + j : Nat) : Int))) (.bool false) (fun _ => rfl) rfl rfl (gt3_run hg _ _ _) rfl ?_
  refine w_nil ?_
  refine xn_then ?_
  refine w_condF rfl ?_
  refine w_skip ?_
  refine xn_then ?_
  refine w_seq ?_
  refine w_reg ?_
  refine wl_mv (.tmp 1) (.int .i64 (((k + j : Nat) : Int))) (fun _ => rfl) rfl rfl ?_
  refine wl_un (fun v => Instr.fieldAt 26 v 2) (.tmp 6) (pt k2 0) (pt k2 5) (fun _ => rfl) rfl (by kernel_rfl) rfl ?_
  refine wl_load 3 (.tmp 35) (pt k2 5) (.int .i64 (k : Int)) rfl rfl (run_one Q2 3 5 rfl Tryd.underlying3 rfl) rfl ?_
  refine wl_bin (fun x y => do eqGuard .sub 3 (.tmp 34) (.tmp 36) x y; binOp .sub 3 x y) (.tmp 34) (.tmp 36) (.int .i64 (((k + j : Nat) : Int))) (.int .i64 (k : Int)) (.int .i64 ((j : Int))) (fun _ => rfl) rfl rfl (sub3z hkj _ _ _) rfl ?_
  refine wl_call 35 [(.tmp 37)] _ [.int .i64 ((j : Int))] (.tuple #[.agg #[.int .u64 (l0 (10 ^ j)), .int .u64 (l1 (10 ^ j)), .int .u64 (l2 (10 ^ j)), .int .u64 (l3 (10 ^ j))], .bool true]) rfl rfl (fun _ _ => by kernel_rfl) (rten_yes j _ (by omega)) rfl ?_
  intro w5 hq
  replace Q1 := Q1.mo hq
  replace Q2 := Q2.mo hq
  replace M := M.trans hq
  clear hq
  refine wl_mv (.tmp 38) (.tuple #[.agg #[.int .u64 (l0 (10 ^ j)), .int .u64 (l1 (10 ^ j)), .int .u64 (l2 (10 ^ j)), .int .u64 (l3 (10 ^ j))], .bool true]) (fun _ => rfl) rfl rfl ?_
  refine wl_un (fun v => Instr.extract v 0) (.tmp 33) (.tuple #[.agg #[.int .u64 (l0 (10 ^ j)), .int .u64 (l1 (10 ^ j)), .int .u64 (l2 (10 ^ j)), .int .u64 (l3 (10 ^ j))], .bool true]) (.agg #[.int .u64 (l0 (10 ^ j)), .int .u64 (l1 (10 ^ j)), .int .u64 (l2 (10 ^ j)), .int .u64 (l3 (10 ^ j))]) (fun _ => rfl) rfl (by kernel_rfl) rfl ?_
  refine wl_un (fun v => Instr.extract v 1) (.tmp 33) (.tuple #[.agg #[.int .u64 (l0 (10 ^ j)), .int .u64 (l1 (10 ^ j)), .int .u64 (l2 (10 ^ j)), .int .u64 (l3 (10 ^ j))], .bool true]) (.bool true) (fun _ => rfl) rfl (by kernel_rfl) rfl ?_
  refine wl_alloc 24 #[.int .u64 0, .int .u64 0, .int .u64 0, .int .u64 0] rfl (fun _ => by kernel_rfl) rfl ?_
  intro k3 w6 hk hz hq Q3
  have ne_k1_k3 : k1 ≠ k3 := by have := Q1.lt; omega
  have ne_k2_k3 : k2 ≠ k3 := by have := Q2.lt; omega
  have N_k3 : w.heap.size ≤ k3 := by have := M.size; omega
  replace Q1 := Q1.mo hq
  replace Q2 := Q2.mo hq
  replace M := M.trans hq
  clear hk hz hq
  refine wl_st 24 (.tmp 8) (.tmp 39) k3 0 #[.int .u64 (l0 (10 ^ j)), .int .u64 (l1 (10 ^ j)), .int .u64 (l2 (10 ^ j)), .int .u64 (l3 (10 ^ j))] [.int .u64 0, .int .u64 0, .int .u64 0, .int .u64 0] [.int .u64 (l0 (10 ^ j)), .int .u64 (l1 (10 ^ j)), .int .u64 (l2 (10 ^ j)), .int .u64 (l3 (10 ^ j))] Q3 rfl rfl rfl rfl rfl sz24 rfl rfl rfl ?_
  intro w7 hS Qn
  replace Q3 := Qn
  clear Qn
  replace Q1 := hS.other _ _ ne_k1_k3 Q1
  replace Q2 := hS.other _ _ ne_k2_k3 Q2
  replace M := hS.mo _ N_k3 M
  clear hS
  refine wl_mv (.tmp 40) (.bool true) (fun _ => rfl) rfl rfl ?_
  refine w_nil ?_
  refine xn_then ?_
  refine w_seq ?_
  refine w_reg ?_
  refine wl_un (fun v => Instr.fieldAt 26 v 1) (.tmp 6) (pt k2 0) (pt k2 1) (fun _ => rfl) rfl (by kernel_rfl) rfl ?_
  refine wl_load 24 (.tmp 42) (pt k2 1) (.agg #[.int .u64 (l0 N), .int .u64 (l1 N), .int .u64 (l2 N), .int .u64 (l3 N)]) rfl rfl (run_row Q2 24 1 4 [.int .u64 (l0 N), .int .u64 (l1 N), .int .u64 (l2 N), .int .u64 (l3 N)] rfl Tryd.underlying24 rfl sz24) rfl ?_
  refine wl_load 24 (.tmp 8) (pt k3 0) (.agg #[.int .u64 (l0 (10 ^ j)), .int .u64 (l1 (10 ^ j)), .int .u64 (l2 (10 ^ j)), .int .u64 (l3 (10 ^ j))]) rfl rfl (run_row Q3 24 0 4 [.int .u64 (l0 (10 ^ j)), .int .u64 (l1 (10 ^ j)), .int .u64 (l2 (10 ^ j)), .int .u64 (l3 (10 ^ j))] rfl Tryd.underlying24 rfl sz24) rfl ?_
  refine wl_call 36 [(.tmp 43), (.tmp 44)] _ [.agg #[.int .u64 (l0 N), .int .u64 (l1 N), .int .u64 (l2 N), .int .u64 (l3 N)], .agg #[.int .u64 (l0 (10 ^ j)), .int .u64 (l1 (10 ^ j)), .int .u64 (l2 (10 ^ j)), .int .u64 (l3 (10 ^ j))]] (.tuple #[.agg #[.int .u64 (l0 (N * 10 ^ j / MM)), .int .u64 (l1 (N * 10 ^ j / MM)), .int .u64 (l2 (N * 10 ^ j / MM)), .int .u64 (l3 (N * 10 ^ j / MM))], .agg #[.int .u64 (l0 (N * 10 ^ j)), .int .u64 (l1 (N * 10 ^ j)), .int .u64 (l2 (N * 10 ^ j)), .int .u64 (l3 (N * 10 ^ j))]]) rfl rfl (fun _ _ => by kernel_rfl) (rmul_n N (10 ^ j) _ hN0 hNM hT0 hTM) rfl ?_
  intro w8 hq
  replace Q1 := Q1.mo hq
  replace Q2 := Q2.mo hq
  replace Q3 := Q3.mo hq
  replace M := M.trans hq
  clear hq
  refine wl_mv (.tmp 45) (.tuple #[.agg #[.int .u64 (l0 (N * 10 ^ j / MM)), .int .u64 (l1 (N * 10 ^ j / MM)), .int .u64 (l2 (N * 10 ^ j / MM)), .int .u64 (l3 (N * 10 ^ j / MM))], .agg #[.int .u64 (l0 (N * 10 ^ j)), .int .u64 (l1 (N * 10 ^ j)), .int .u64 (l2 (N * 10 ^ j)), .int .u64 (l3 (N * 10 ^ j))]]) (fun _ => rfl) rfl rfl ?_
  refine wl_un (fun v => Instr.extract v 0) (.tmp 41) (.tuple #[.agg #[.int .u64 (l0 (N * 10 ^ j / MM)), .int .u64 (l1 (N * 10 ^ j / MM)), .int .u64 (l2 (N * 10 ^ j / MM)), .int .u64 (l3 (N * 10 ^ j / MM))], .agg #[.int .u64 (l0 (N * 10 ^ j)), .int .u64 (l1 (N * 10 ^ j)), .int .u64 (l2 (N * 10 ^ j)), .int .u64 (l3 (N * 10 ^ j))]]) (.agg #[.int .u64 (l0 (N * 10 ^ j / MM)), .int .u64 (l1 (N * 10 ^ j / MM)), .int .u64 (l2 (N * 10 ^ j / MM)), .int .u64 (l3 (N * 10 ^ j / MM))]) (fun _ => rfl) rfl (by kernel_rfl) rfl ?_
  refine wl_un (fun v => Instr.extract v 1) (.tmp 41) (.tuple #[.agg #[.int .u64 (l0 (N * 10 ^ j / MM)), .int .u64 (l1 (N * 10 ^ j / MM)), .int .u64 (l2 (N * 10 ^ j / MM)), .int .u64 (l3 (N * 10 ^ j / MM))], .agg #[.int .u64 (l0 (N * 10 ^ j)), .int .u64 (l1 (N * 10 ^ j)), .int .u64 (l2 (N * 10 ^ j)), .int .u64 (l3 (N * 10 ^ j))]]) (.agg #[.int .u64 (l0 (N * 10 ^ j)), .int .u64 (l1 (N * 10 ^ j)), .int .u64 (l2 (N * 10 ^ j)), .int .u64 (l3 (N * 10 ^ j))]) (fun _ => rfl) rfl (by kernel_rfl) rfl ?_
  refine wl_alloc 24 #[.int .u64 0, .int .u64 0, .int .u64 0, .int .u64 0] rfl (fun _ => by kernel_rfl) rfl ?_
  intro k4 w9 hk hz hq Q4
  have ne_k1_k4 : k1 ≠ k4 := by have := Q1.lt; omega
  have ne_k2_k4 : k2 ≠ k4 := by have := Q2.lt; omega
  have ne_k3_k4 : k3 ≠ k4 := by have := Q3.lt; omega
  have N_k4 : w.heap.size ≤ k4 := by have := M.size; omega
  replace Q1 := Q1.mo hq
  replace Q2 := Q2.mo hq
  replace Q3 := Q3.mo hq
  replace M := M.trans hq
  clear hk hz hq
  refine wl_alloc 24 #[.int .u64 0, .int .u64 0, .int .u64 0, .int .u64 0] rfl (fun _ => by kernel_rfl) rfl ?_
  intro k5 w10 hk hz hq Q5
  have ne_k1_k5 : k1 ≠ k5 := by have := Q1.lt; omega
  have ne_k2_k5 : k2 ≠ k5 := by have := Q2.lt; omega
  have ne_k3_k5 : k3 ≠ k5 := by have := Q3.lt; omega
  have ne_k4_k5 : k4 ≠ k5 := by have := Q4.lt; omega
  have N_k5 : w.heap.size ≤ k5 := by have := M.size; omega
  replace Q1 := Q1.mo hq
  replace Q2 := Q2.mo hq
  replace Q3 := Q3.mo hq
  replace Q4 := Q4.mo hq
  replace M := M.trans hq
  clear hk hz hq
  refine wl_st 24 (.tmp 10) (.tmp 46) k4 0 #[.int .u64 (l0 (N * 10 ^ j / MM)), .int .u64 (l1 (N * 10 ^ j / MM)), .int .u64 (l2 (N * 10 ^ j / MM)), .int .u64 (l3 (N * 10 ^ j / MM))] [.int .u64 0, .int .u64 0, .int .u64 0, .int .u64 0] [.int .u64 (l0 (N * 10 ^ j / MM)), .int .u64 (l1 (N * 10 ^ j / MM)), .int .u64 (l2 (N * 10 ^ j / MM)), .int .u64 (l3 (N * 10 ^ j / MM))] Q4 rfl rfl rfl rfl rfl sz24 rfl rfl rfl ?_
  intro w11 hS Qn
  replace Q4 := Qn
  clear Qn
  replace Q1 := hS.other _ _ ne_k1_k4 Q1
  replace Q2 := hS.other _ _ ne_k2_k4 Q2
  replace Q3 := hS.other _ _ ne_k3_k4 Q3
  replace Q5 := hS.other _ _ ne_k4_k5.symm Q5
  replace M := hS.mo _ N_k4 M
  clear hS
  refine wl_st 24 (.tmp 11) (.tmp 47) k5 0 #[.int .u64 (l0 (N * 10 ^ j)), .int .u64 (l1 (N * 10 ^ j)), .int .u64 (l2 (N * 10 ^ j)), .int .u64 (l3 (N * 10 ^ j))] [.int .u64 0, .int .u64 0, .int .u64 0, .int .u64 0] [.int .u64 (l0 (N * 10 ^ j)), .int .u64 (l1 (N * 10 ^ j)), .int .u64 (l2 (N * 10 ^ j)), .int .u64 (l3 (N * 10 ^ j))] Q5 rfl rfl rfl rfl rfl sz24 rfl rfl rfl ?_
  intro w12 hS Qn
  replace Q5 := Qn
  clear Qn
  replace Q1 := hS.other _ _ ne_k1_k5 Q1
  replace Q2 := hS.other _ _ ne_k2_k5 Q2
  replace Q3 := hS.other _ _ ne_k3_k5 Q3
  replace Q4 := hS.other _ _ ne_k4_k5 Q4
  replace M := hS.mo _ N_k5 M
  clear hS
  refine w_nil ?_
  refine xn_then ?_
  refine w_seq ?_
  refine w_seq ?_
  refine w_reg ?_
  refine wl_load 24 (.tmp 10) (pt k4 0) (.agg #[.int .u64 (l0 (N * 10 ^ j / MM)), .int .u64 (l1 (N * 10 ^ j / MM)), .int .u64 (l2 (N * 10 ^ j / MM)), .int .u64 (l3 (N * 10 ^ j / MM))]) rfl rfl (run_row Q4 24 0 4 [.int .u64 (l0 (N * 10 ^ j / MM)), .int .u64 (l1 (N * 10 ^ j / MM)), .int .u64 (l2 (N * 10 ^ j / MM)), .int .u64 (l3 (N * 10 ^ j / MM))] rfl Tryd.underlying24 rfl sz24) rfl ?_
  refine wl_build 24 [] [] (.agg #[.int .u64 0, .int .u64 0, .int .u64 0, .int .u64 0]) rfl rfl (by kernel_rfl) rfl ?_
  refine wl_bin (fun x y => do eqGuard .neq 24 (.tmp 48) (.tmp 49) x y; binOp .neq 24 x y) (.tmp 48) (.tmp 49) (.agg #[.int .u64 (l0 (N * 10 ^ j / MM)), .int .u64 (l1 (N * 10 ^ j / MM)), .int .u64 (l2 (N * 10 ^ j / MM)), .int .u64 (l3 (N * 10 ^ j / MM))]) (.agg #[.int .u64 0, .int .u64 0, .int .u64 0, .int .u64 0]) (.bool false) (fun _ => rfl) rfl rfl (nen_run (r := true) hi _ _ _) rfl ?_
  refine w_nil ?_
  refine xn_then ?_
  refine w_condF rfl ?_
  refine w_skip ?_
  refine xn_then ?_
  refine w_seq ?_
  refine w_reg ?_
  refine wl_load 24 (.tmp 11) (pt k5 0) (.agg #[.int .u64 (l0 (N * 10 ^ j)), .int .u64 (l1 (N * 10 ^ j)), .int .u64 (l2 (N * 10 ^ j)), .int .u64 (l3 (N * 10 ^ j))]) rfl rfl (run_row Q5 24 0 4 [.int .u64 (l0 (N * 10 ^ j)), .int .u64 (l1 (N * 10 ^ j)), .int .u64 (l2 (N * 10 ^ j)), .int .u64 (l3 (N * 10 ^ j))] rfl Tryd.underlying24 rfl sz24) rfl ?_
  refine wl_mv (.tmp 1) (.int .i64 (((k + j : Nat) : Int))) (fun _ => rfl) rfl rfl ?_
  refine wl_un (fun v => Instr.fieldAt 26 v 1) (.tmp 6) (pt k2 0) (pt k2 1) (fun _ => rfl) rfl (by kernel_rfl) rfl ?_
  refine wl_st 24 (.tmp 54) (.tmp 52) k2 1 #[.int .u64 (l0 (N * 10 ^ j)), .int .u64 (l1 (N * 10 ^ j)), .int .u64 (l2 (N * 10 ^ j)), .int .u64 (l3 (N * 10 ^ j))] [.bool b, .int .u64 (l0 N), .int .u64 (l1 N), .int .u64 (l2 N), .int .u64 (l3 N), .int .i64 (k : Int)] [.bool b, .int .u64 (l0 (N * 10 ^ j)), .int .u64 (l1 (N * 10 ^ j)), .int .u64 (l2 (N * 10 ^ j)), .int .u64 (l3 (N * 10 ^ j)), .int .i64 (k : Int)] Q2 rfl rfl rfl rfl rfl sz24 rfl rfl rfl ?_
  intro w13 hS Qn
  replace Q2 := Qn
  clear Qn
  replace Q1 := hS.other _ _ ne_k1_k2 Q1
  replace Q3 := hS.other _ _ ne_k2_k3.symm Q3
  replace Q4 := hS.other _ _ ne_k2_k4.symm Q4
  replace Q5 := hS.other _ _ ne_k2_k5.symm Q5
  replace M := hS.mo _ N_k2 M
  clear hS
  refine wl_un (fun v => Instr.fieldAt 26 v 2) (.tmp 6) (pt k2 0) (pt k2 5) (fun _ => rfl) rfl (by kernel_rfl) rfl ?_
  refine wl_st1 3 (.tmp 55) (.tmp 53) k2 5 (.int .i64 (((k + j : Nat) : Int))) [.bool b, .int .u64 (l0 (N * 10 ^ j)), .int .u64 (l1 (N * 10 ^ j)), .int .u64 (l2 (N * 10 ^ j)), .int .u64 (l3 (N * 10 ^ j)), .int .i64 (k : Int)] [.bool b, .int .u64 (l0 (N * 10 ^ j)), .int .u64 (l1 (N * 10 ^ j)), .int .u64 (l2 (N * 10 ^ j)), .int .u64 (l3 (N * 10 ^ j)), .int .i64 (((k + j : Nat) : Int))] Q2 rfl rfl rfl rfl rfl sz3 rfl rfl rfl rfl ?_
  intro w14 hS Qn
  replace Q2 := Qn
  clear Qn
  replace Q1 := hS.other _ _ ne_k1_k2 Q1
  replace Q3 := hS.other _ _ ne_k2_k3.symm Q3
  replace Q4 := hS.other _ _ ne_k2_k4.symm Q4
  replace Q5 := hS.other _ _ ne_k2_k5.symm Q5
  replace M := hS.mo _ N_k2 M
  clear hS
  refine w_nil ?_
  refine xn_then ?_
  refine w_seq ?_
  refine w_reg ?_
  refine wl_load 26 (.tmp 6) (pt k2 0) (.agg #[.bool b, .int .u64 (l0 (N * 10 ^ j)), .int .u64 (l1 (N * 10 ^ j)), .int .u64 (l2 (N * 10 ^ j)), .int .u64 (l3 (N * 10 ^ j)), .int .i64 (((k + j : Nat) : Int))]) rfl rfl (run_row Q2 26 0 6 [.bool b, .int .u64 (l0 (N * 10 ^ j)), .int .u64 (l1 (N * 10 ^ j)), .int .u64 (l2 (N * 10 ^ j)), .int .u64 (l3 (N * 10 ^ j)), .int .i64 (((k + j : Nat) : Int))] rfl Tryd.underlying26 rfl sz26) rfl ?_
  refine wl_st 26 (.tmp 4) (.tmp 56) k1 0 #[.bool b, .int .u64 (l0 (N * 10 ^ j)), .int .u64 (l1 (N * 10 ^ j)), .int .u64 (l2 (N * 10 ^ j)), .int .u64 (l3 (N * 10 ^ j)), .int .i64 (((k + j : Nat) : Int))] [.bool false, .int .u64 0, .int .u64 0, .int .u64 0, .int .u64 0, .int .i64 0] [.bool b, .int .u64 (l0 (N * 10 ^ j)), .int .u64 (l1 (N * 10 ^ j)), .int .u64 (l2 (N * 10 ^ j)), .int .u64 (l3 (N * 10 ^ j)), .int .i64 (((k + j : Nat) : Int))] Q1 rfl rfl rfl rfl rfl sz26 rfl rfl rfl ?_
  intro w15 hS Qn
  replace Q1 := Qn
  clear Qn
  replace Q2 := hS.other _ _ ne_k1_k2.symm Q2
  replace Q3 := hS.other _ _ ne_k1_k3.symm Q3
  replace Q4 := hS.other _ _ ne_k1_k4.symm Q4
  replace Q5 := hS.other _ _ ne_k1_k5.symm Q5
  replace M := hS.mo _ N_k1 M
  clear hS
  refine wl_mv (.const (.int .i64 (0))) (.int .i64 (0)) (fun _ => rfl) rfl rfl ?_
  refine w_nil ?_
  refine xn_then ?_
  refine w_ret ?_
  exact w_ret2 _ _ (.agg #[.bool b, .int .u64 (l0 (N * 10 ^ j)), .int .u64 (l1 (N * 10 ^ j)), .int .u64 (l2 (N * 10 ^ j)), .int .u64 (l3 (N * 10 ^ j)), .int .i64 (((k + j : Nat) : Int))]) (.int .i64 (0)) rfl ⟨k1, rfl, (run_row Q1 26 0 6 [.bool b, .int .u64 (l0 (N * 10 ^ j)), .int .u64 (l1 (N * 10 ^ j)), .int .u64 (l2 (N * 10 ^ j)), .int .u64 (l3 (N * 10 ^ j)), .int .i64 (((k + j : Nat) : Int))] rfl Tryd.underlying26 rfl sz26)⟩ rfl ⟨rfl, M⟩
end Go.Proofs.YtdcojpbgijkmgaaDoor
/-
  Parse and ParseAt: the program's and the document's say the same.
-/
namespace Go.Proofs.YtdcojpbgijkmgaaDoor
open Go.RowKit
theorem rlp_n {z : List UInt8} (hc : Cn z) (hl : z.length ≤ maxLen) (w : World) : Calls Tryd.prog 33 #[tx z] w fun e w' => e = .returned (.tuple #[nv (if pv z < MM then pv z else 0), .int .i64 (if pv z < MM then 0 else 7)]) ∧ Mo w w' := by
  haveI := Classical.propDecidable (isT ⟨z.toArray⟩)
  refine (rparse_n ⟨z.toArray⟩ w (by rw [tx_size]; exact hl)).mono fun e w' ⟨he, hm⟩ => ⟨?_, hm⟩
  rw [he, if_pos (cn_isT hc)]
  unfold resP
  rw [pvk_z8]
  by_cases h : pv z < MM
  · rw [if_pos h, if_pos h, if_pos h]
  · rw [if_neg h, if_neg h, if_neg h]; rfl
theorem dw0_woz {L : List UInt8} (h : dw0 L ≠ []) : woz L = dw0 L := by unfold woz; rw [if_neg h]
theorem parse14_df {s : ByteArray} {b : Bool} {A B : List UInt8} (h : Df (by8 s) b A B) (hsz : s.size ≤ 140737488355328) (w : World) : Calls Tryd.prog 14 #[.string s] w fun e w' => e = .returned (pva b A B) ∧ Mo w w' := by
  have hs : s.size ≤ maxLen := by unfold maxLen; omega
  have hpr := prs_df h
  have hlen := h.len
  rw [by8_len] at hlen
  have hwl := woz_len2 (L := A ++ B) (by simp [h.ne])
  simp only [List.length_append] at hwl
  have hw : whl s = true := by rw [whl_dec]; exact dec_df h
  refine (rpa_n s (if nof A B < MM then nof A B else 0) (if nof A B < MM then 0 else 7) w hs hsz (fun hne w => ?_)).mono fun e w' ⟨he, hm⟩ => ⟨?_, hm⟩
  · rw [hpr] at hne ⊢
    have hne' : dw0 (A ++ B) ≠ [] := fun e => hne (by simp only [e]; rfl)
    rw [show (nl (dw0 (A ++ B)), B.length).1 = nl (dw0 (A ++ B)) from rfl, nl_str, ← dw0_woz hne']
    exact rlp_n (cn_woz h.dg) (by unfold maxLen; omega) w
  · rw [he]
    congr 1
    unfold rps pva pe
    rw [if_neg (by rw [hw]; simp), hpr, sgn_df h]
    by_cases h18 : 18 < B.length
    · rw [if_pos h18, if_pos h18, if_neg (by decide)]
    · rw [if_neg h18, if_neg h18]
      by_cases hz : dw0 (A ++ B) = []
      · have hn : nof A B = 0 := by
          unfold nof woz
          rw [if_pos hz]; rfl
        rw [if_pos (by rw [hz]; rfl), hn, if_pos (by decide)] <;> rfl
      · rw [if_neg (by simp only [List.length_map]; exact fun e => hz (List.eq_nil_of_length_eq_zero e))]
        by_cases hM : nof A B < MM
        · simp only [if_pos hM]
          rfl
        · simp only [if_neg hM]
          rfl
theorem parse14_no {s : ByteArray} (h : isDec s = false) (hs : s.size ≤ maxLen) (w : World) : Calls Tryd.prog 14 #[.string s] w fun e w' => e = .returned (er 30) ∧ Mo w w' :=
  rpa_no s w hs (by rw [whl_dec]; exact h)
/-- Both Parses say the same. -/
theorem parse_both (s : ByteArray) (hsz : s.size ≤ 140737488355328) : ∃ (b : Bool) (N E : Int) (k : Nat), 0 ≤ N ∧ N < MM ∧ k ≤ 18 ∧ (E = 0 → ck b N (k : Int) = 0) ∧ (E == 30) = !isDec s ∧
    (∀ w, Calls Tryd.prog 13 #[.string s] w fun e w' => e = .returned (.tuple #[dc b N (k : Int), .int .i64 E]) ∧ Mo w w') ∧ (∀ w, Calls Tryd.prog 14 #[.string s] w fun e w' => e = .returned (.tuple #[dc b N (k : Int), .int .i64 E]) ∧ Mo w w') := by
  have hs : s.size ≤ maxLen := by unfold maxLen; omega
  cases hd : isDec s with
  | false => exact ⟨false, 0, 30, 0, by omega, by decide, by omega, fun e => (by cases e), rfl, fun w => parse13_no hd hs w, fun w => parse14_no hd hs w⟩
  | true =>
    obtain ⟨b, A, B, h⟩ := df_dec hd
    have h3 := fun w => parse13_df h hs w
    have h4 := fun w => parse14_df h hsz w
    unfold pva at h3 h4
    by_cases hE : pe A B = 0
    · simp only [if_pos hE] at h3 h4
      unfold pe at hE
      by_cases h18 : 18 < B.length
      · rw [if_pos h18] at hE; cases hE
      · rw [if_neg h18] at hE
        by_cases hM : nof A B < MM
        · exact ⟨b, nof A B, 0, B.length, h.n0, hM, by omega, fun _ => h.ck (by omega), rfl, h3, h4⟩
        · rw [if_neg hM] at hE; cases hE
    · simp only [if_neg hE] at h3 h4
      have h30 : (pe A B == 30) = false := by
        unfold pe
        split
        · rfl
        · split <;> rfl
      exact ⟨false, 0, pe A B, 0, by omega, by decide, by omega, fun e => absurd e hE, h30, h3, h4⟩
theorem div0 {P : Int} (e : P / MM = 0) : P < MM := by unfold MM at *; omega
theorem zbn {v : Int} (h0 : 0 ≤ v) (hM : v < MM) : (l0 v == 0 && (l1 v == 0 && (l2 v == 0 && l3 v == 0))) = decide (v = 0) := by
  have := limbs_eq h0 hM (m := 0) (by decide) (by decide)
  exact this
theorem dz_dc {b : Bool} {N : Int} {v k : Int} (h1 : ab v = N) (h2 : decide (v < 0) = b) : dz v k = dc b N k := by unfold dz; rw [h1, h2]
/-- Both ParseAts say the same. -/
theorem parseAt_both (s : ByteArray) (z : Int) (hsz : s.size ≤ 140737488355328) : ∃ (b : Bool) (N S E : Int),
    (∀ w, Calls Tryd.prog 15 #[.string s, .int .i64 z] w fun e w' => e = .returned (.tuple #[dc b N S, .int .i64 E]) ∧ Mo w w') ∧ (∀ w, Calls Tryd.prog 16 #[.string s, .int .i64 z] w fun e w' => e = .returned (.tuple #[dc b N S, .int .i64 E]) ∧ Mo w w') := by
  obtain ⟨b, N, E, k, hN0, hNM, hk, hck, _, h3, h4⟩ := parse_both s hsz
  cases h0 : decide (z < 0) with
  | true => exact ⟨false, 0, 0, 1, fun w => parseAt_lo s z w h0, fun w => rpat_lo s w z h0⟩
  | false =>
    cases h1 : decide (z > 18) with
    | true => exact ⟨false, 0, 0, 1, fun w => parseAt_hi s z w h0 h1, fun w => rpat_hi s w z h0 h1⟩
    | false =>
      cases hE : (E == 0) with
      | false => exact ⟨false, 0, 0, E, fun w => parseAt_e s z w h0 h1 b N (k : Int) E h3 hE, fun w => rpat_e s w z h0 h1 b N E k h4 hE⟩
      | true =>
        cases hg : decide ((k : Int) > z) with
        | true => exact ⟨false, 0, 0, 31, fun w => parseAt_p s z w h0 h1 b N (k : Int) E h3 hE hg, fun w => rpat_p s w z h0 h1 b N E k h4 hE hg⟩
        | false =>
          have q0 := of_decide_eq_false h0
          have q1 := of_decide_eq_false h1
          have qg := of_decide_eq_false hg
          obtain ⟨j, rfl⟩ : ∃ j : Nat, z = ((k + j : Nat) : Int) := ⟨(z - k).toNat, by omega⟩
          have hkj : k + j ≤ 18 := by omega
          have hck' := hck (eq_of_beq hE)
          obtain ⟨hsc, v, hv1, hv2⟩ := dz_of hN0 hck'
          have hT := pow_lt j (by omega)
          have hr := fun w => rescale_z v (k : Int) ((k + j : Nat) : Int) 3 w (by rw [hv1]; exact hNM) hsc (sc_iff.2 ⟨by omega, by omega⟩) (by decide) (by decide)
          have hrs : rsV v (k : Int) ((k + j : Nat) : Int) 3 = v * 10 ^ j := by
            unfold rsV
            rw [if_neg (by omega)]
            congr 1
            rw [show ((k + j : Nat) : Int) - (k : Int) = (j : Int) by omega]
            rfl
          have hab : ab (v * 10 ^ j) = N * 10 ^ j := by
            rw [← hv1, ab_mul hT.1]
          have hdec : decide (v * 10 ^ j < 0) = b := by
            rw [← hv2]
            apply decide_eq_decide.2
            constructor
            · intro h
              by_cases hv0 : v < 0
              · exact hv0
              · have := Int.mul_nonneg (show 0 ≤ v by omega) (Int.le_of_lt hT.1); omega
            · intro h
              exact Int.mul_neg_of_neg_of_pos h hT.1
          simp only [hrs, dz_dc hv1 hv2] at hr
          have hP0 : 0 ≤ N * 10 ^ j := Int.mul_nonneg hN0 (Int.le_of_lt hT.1)
          have hPM : N * 10 ^ j < MM * MM := Int.lt_of_lt_of_le (Int.mul_lt_mul_of_pos_right hNM hT.1) (Int.mul_le_mul_of_nonneg_left (Int.le_of_lt hT.2) (by decide))
          have hH0 : 0 ≤ N * 10 ^ j / MM := Int.ediv_nonneg hP0 (by decide)
          have hHM : N * 10 ^ j / MM < MM := Int.ediv_lt_of_lt_mul (by decide) hPM
          have hz := zbn hH0 hHM
          by_cases hM : N * 10 ^ j < MM
          · have hi : N * 10 ^ j / MM = 0 := Int.ediv_eq_zero_of_lt hP0 hM
            rw [decide_eq_true hi] at hz
            have hf : fz (v * 10 ^ j) ((k + j : Nat) : Int) = .tuple #[dc b (N * 10 ^ j) ((k + j : Nat) : Int), .int .i64 0] := by
              rw [fz_yes (by rw [hab]; exact hM), dz_dc hab hdec]
            simp only [hf] at hr
            exact ⟨b, N * 10 ^ j, ((k + j : Nat) : Int), 0, fun w => parseAt_r s _ w h0 h1 b N (k : Int) E h3 hE hg b (N * 10 ^ j) _ 0 hr, fun w => rpat_r s w b N E k j h4 hE hkj hN0 hNM hz⟩
          · have hi : ¬ N * 10 ^ j / MM = 0 := fun e => hM (div0 e)
            rw [decide_eq_false hi] at hz
            have hf : fz (v * 10 ^ j) ((k + j : Nat) : Int) = er 7 := fz_no (by rw [hab]; exact hM)
            simp only [hf] at hr
            exact ⟨false, 0, 0, 7, fun w => parseAt_r s _ w h0 h1 b N (k : Int) E h3 hE hg false 0 0 7 hr, fun w => rpat_o s w b N E k j h4 hE hkj hN0 hNM hz⟩
end Go.Proofs.YtdcojpbgijkmgaaDoor
