/-
  For every number of four limbs, every text and every int exciselaw01.LimbTexts returns true, and its arguments read behind the call as they read before; no conditions.
-/
import Derived.Maps.AppendAt
import Derived.Deep.AppendLies
import Derived.Laws.BytesString
import Derived.Carry
import Derived.ChangeMaps5
import Derived.Test.YtoiiekmkcpcbgaaLimbTexts2
/-
  Bytes put behind a slice of one's own, and a slice's bytes as a text: the laws of the steps.
-/
namespace Go.Proofs.Ytoiiekmkcpcbgaa
open Go.RowKit
theorem bsl (c : Int) (w : World) : (Instr.buildSlice 75 1 #[(0, .int .u8 c)]).run Try.prog w = .ok (.slice (some ⟨w.heap.size, 0, none⟩) 1 1) (w.alloc (.cells #[.int .u8 c] 5)) := by kernel_rfl
theorem ixs (g j n c : Nat) (h : j < n) (w : World) : (Instr.indexAt 75 (.slice (some ⟨g, 0, none⟩) n c) (.int .i64 (j : Int))).run Try.prog w = .ok (pt g j) w := by
  simp [go_sem, h]
theorem inf5 : ∃ i, Try.prog.info? 5 = some i ∧ i.zero = some (.int .u8 0) ∧ i.size = 1 ∧ i.bytes = 1 := by
  have h : (Try.prog.info? 5).map (fun i => (i.zero, i.size, i.bytes)) = some (some (.int .u8 0), 1, 1) := by kernel_rfl
  cases hi : Try.prog.info? 5 with
  | none => rw [hi] at h; cases h
  | some i =>
    rw [hi] at h
    simp at h
    exact ⟨i, rfl, h.1, h.2.1, h.2.2⟩
/-- What an append leaves as it was. -/
structure AppW (v : Value) (w w' : World) : Prop where
  os : w'.os = w.os
  tape : w'.tape = w.tape
  output : w'.output = w.output
  size : w.heap.size ≤ w'.heap.size
  block : ∀ k, k < w.heap.size → v.ownBlock ≠ some k → w'.heap[k]? = w.heap[k]?
  fz : ∀ a, w'.frozen? a = w.frozen? a
theorem AppW.at {v : Value} {w w' : World} (h : AppW v w w') {j : Nat} {vs : List Value} (hA : At w j vs) (hn : v.ownBlock ≠ some j) : At w' j vs :=
  ⟨fun i u hu => (World.cell?_of_block (a := ⟨j, 0 + i, none⟩) (h.block j hA.2.2 hn)).trans (hA.1 i u hu), fun o => (h.fz _).trans (hA.2.1 o), Nat.lt_of_lt_of_le hA.2.2 h.size⟩
theorem AppW.mo {v : Value} {w w' a : World} (h : AppW v w w') (hM : Mo a w) (hn : ∀ k, v.ownBlock = some k → a.heap.size ≤ k) : Mo a w' :=
  ⟨⟨h.os.trans hM.1.os, h.tape.trans hM.1.tape, h.output.trans hM.1.output, Nat.le_trans hM.1.size h.size, fun k hk => (h.block k (Nat.lt_of_lt_of_le hk hM.1.size) (fun e => by have := hn k e; omega)).trans (hM.1.block k hk)⟩, fun x => (h.fz x).trans (hM.2 x)⟩
/-- What a store into the block k leaves as it was, block by block. -/
structure St2 (k : Nat) (w w' : World) : Prop extends St k w w' where
  os : w'.os = w.os
  tape : w'.tape = w.tape
  output : w'.output = w.output
  block : ∀ j, j ≠ k → w'.heap[j]? = w.heap[j]?
theorem heap_setCells (k j : Nat) (hj : j ≠ k) : ∀ (l : List Value) (o : Nat) (w : World), (w.setCells k o l).heap[j]? = w.heap[j]? ∧ (w.setCells k o l).os = w.os ∧ (w.setCells k o l).tape = w.tape ∧ (w.setCells k o l).output = w.output
  | [], _, _ => ⟨rfl, rfl, rfl, rfl⟩
  | v :: r, o, w => by
    have h := heap_setCells k j hj r (o + 1) (w.setCell ⟨k, o, none⟩ v)
    rw [World.setCells]
    refine ⟨h.1.trans ?_, h.2.1.trans rfl, h.2.2.1.trans rfl, h.2.2.2.trans rfl⟩
    simp [World.setCell, Array.getElem?_modify, Ne.symm hj]
theorem St2.mk2 (w : World) (k o : Nat) (l : List Value) : St2 k w (w.setCells k o l) :=
  { St.mk' w k o l with
    os := (heap_setCells k (k + 1) (by omega) l o w).2.1
    tape := (heap_setCells k (k + 1) (by omega) l o w).2.2.1
    output := (heap_setCells k (k + 1) (by omega) l o w).2.2.2
    block := fun j hj => (heap_setCells k j hj l o w).1 }
theorem own_st {w w' : World} {N k : Nat} {v : Value} {n : Nat} {xs : List Value} (m : St2 k w w') (h : w.ownsRow N 5 1 v n xs) (hne : v.ownBlock ≠ some k) : w'.ownsRow N 5 1 v n xs :=
  h.kept (row := some k) ⟨m.os, m.tape, m.output, Nat.le_of_eq m.size.symm, fun j _ hj => m.block j (fun e => hj (by rw [e]))⟩ (Or.inr hne)
section
variable {P : Program} {o : Oper} {n : Nat} {l : List (Nat × Value)} {w : World} {ops : Array Oper} {rest : List Oper} {Q : Exit → Act → World → Prop}
theorem wl_stx (ty : TypeId) (x y : Operand) (k off : Nat) (us : Array Value) (vs vs' : List Value) (hA : At w k vs) (ho : o.op = .store ty x y) (hd : o.dst = none) (hx : evl n l x = pt k off) (hy : evl n l y = .agg us)
    (hl : Nat.ble (off + us.size) vs.length = true) (hi : (P.info? ty).map (·.size) = some us.size) (h1 : us.toList.all (·.oneCell') = true) (hvs : vs' = vs.take off ++ us.toList ++ vs.drop (off + us.toList.length)) (hg : wnt n l ops o = true)
    (hk : ∀ w', St2 k w w' → At w' k vs' → WL P ops Q rest n l w') : WL P ops Q (o :: rest) n l w :=
  ⟨l_step hg (o_store ty x y _ _ ho hd hx hy (run_put hA ty off us (Nat.le_of_ble_eq_true hl) hi (by rw [← Array.all_toList]; exact h1)) (hk _ (St2.mk2 w k off us.toList) (hA.set off us.toList (by have := Nat.le_of_ble_eq_true hl; simpa using this) vs' hvs)).out)⟩
end
theorem own_mo {w w' : World} {N : Nat} {v : Value} {n : Nat} {xs : List Value} (h : w.ownsRow N 5 1 v n xs) (m : Mo w w') : w'.ownsRow N 5 1 v n xs :=
  h.kept (row := none) ⟨m.1.os, m.1.tape, m.1.output, m.1.size, fun k hk _ => m.1.block k hk⟩ (by cases e : v.ownBlock <;> simp)
theorem app1 (w : World) (ty : TypeId) (N : Nat) (v : Value) (n : Nat) (xs : List Value) (hown : w.ownsRow N 5 1 v n xs) (k : Nat) (c : Int) (hA : At w k [.int .u8 c]) (hn : n ≤ 1000) (hN : N ≤ w.heap.size) :
    ∃ v' w', (Builtin.append_ #[75, 75] ty #[v, .slice (some ⟨k, 0, none⟩) 1 1]).run Try.prog w = .ok v' w' ∧ w'.ownsRow N 5 1 v' (n + 1) (xs ++ [.int .u8 c]) ∧ AppW v w w' ∧ (v'.ownBlock = v.ownBlock ∨ v'.ownBlock = some w.heap.size) := by
  obtain ⟨i, hi, hz, hs, hby⟩ := inf5
  have hnews : ∀ j u, ([Value.int .u8 c] : List Value)[j]? = some u → w.cell? ((⟨k, 0, none⟩ : Addr).add j) = some u := fun j u hu => by
    rw [Addr.add_mid]; have := hA.1 j u hu; simpa using this
  obtain ⟨v', w', hr, h2, h3, _, h5⟩ := run_append_own_at (P := Try.prog) w N 75 ty 5 i (.int .u8 0) 1 1 Try.underlying75 hi hz hs hby rfl (by decide) v n xs hown ⟨k, 0, none⟩ 1 1 [.int .u8 c] rfl hnews (by simp [Value.oneCell']) (by unfold maxLen; omega) (by omega) hN
  refine ⟨v', w', hr, h2, ⟨h3.os, h3.tape, h3.output, h3.size, fun j hj hne => h3.block j hj (fun e => hne e.symm), ?_⟩, h5⟩
  -- the marks: arm by arm
  rcases hown.2 with ⟨rfl, rfl⟩ | ⟨g, cap, cur, rfl, hbg, hg, hnc, hcm, hcs, htake⟩
  · have hr2 := run_append_nil (P := Try.prog) w 75 ty 5 i (.int .u8 0) Try.underlying75 hi hz ⟨k, 0, none⟩ 1 1 [.int .u8 c] (by rw [hs]; rfl) hnews (by decide) (by decide) (by omega)
    rw [hr2] at hr
    cases hr
    exact ((Mo.refl w).drew.alloc _ _).2
  · by_cases hroom : n + 1 ≤ cap
    · have hr2 := run_append_room (P := Try.prog) w 75 ty 5 i Try.underlying75 hi g n cap cur hg ⟨k, 0, none⟩ 1 1 [.int .u8 c] (by rw [hs]; rfl) hnews (by simp [Value.oneCell']) hroom (by rw [hs]; simp; omega)
      rw [hr2] at hr
      cases hr
      intro a
      by_cases e : a.block = g
      · have h1 := setRow_heap w g cur (cur.toList.take (n * i.size) ++ [Value.int .u8 c] ++ cur.toList.drop (n * i.size + [Value.int .u8 c].length)).toArray 5 (0, 0) hg
        simp only [World.frozen?, e, h1, hg]
      · exact World.frozen?_of_block (setRow_other w g a.block _ e)
    · have hr2 := run_append_grow (P := Try.prog) w 75 ty 5 i (.int .u8 0) Try.underlying75 hi hz ⟨g, 0, none⟩ n cap xs (by rw [hs]; exact hown.1) (hown.cells (g := g) rfl) ⟨k, 0, none⟩ 1 1 [.int .u8 c] (by rw [hs]; rfl) hnews (by omega) (by omega) (by rw [hby]; exact growslice_fits (by omega) (by omega))
      rw [hr2] at hr
      cases hr
      exact ((Mo.refl w).drew.alloc _ _).2
section
variable {o : Oper} {n : Nat} {l : List (Nat × Value)} {w : World} {ops : Array Oper} {rest : List Oper} {Q : Exit → Act → World → Prop}
theorem wl_bsl (x : Operand) (c : Int) (ho : o.op = .buildSlice 75 1 #[(0, x)]) (hx : evl n l x = .int .u8 c) (hg : wnt n l ops o = true)
    (hk : ∀ k w', w.heap.size = k → w'.heap.size = k + 1 → Mo w w' → At w' k [.int .u8 c] → WL Try.prog ops Q rest n (ext l o.dst (.slice (some ⟨k, 0, none⟩) 1 1)) w') : WL Try.prog ops Q (o :: rest) n l w :=
  ⟨l_step hg (o_val (.slice (some ⟨w.heap.size, 0, none⟩) 1 1) (w' := w.alloc (.cells #[.int .u8 c] 5)) (by simp [execOp, ho, hx, bsl]) (hk _ _ rfl (by simp) ((Mo.refl _).alloc _ _) (At.new w #[.int .u8 c] 5)).out)⟩
theorem wl_app (s x : Operand) (N : Nat) (v : Value) (m : Nat) (xs : List Value) (k : Nat) (c : Int) (ho : o.op = .call { callee := .builtin .append, args := #[s, x], argTypes := #[75, 75] }) (hs : evl n l s = v) (hx : evl n l x = .slice (some ⟨k, 0, none⟩) 1 1)
    (hown : w.ownsRow N 5 1 v m xs) (hA : At w k [.int .u8 c]) (hm : m ≤ 1000) (hN : N ≤ w.heap.size) (hg : wnt n l ops o = true)
    (hk : ∀ v' w', w'.ownsRow N 5 1 v' (m + 1) (xs ++ [.int .u8 c]) → AppW v w w' → (v'.ownBlock = v.ownBlock ∨ v'.ownBlock = some w.heap.size) → WL Try.prog ops Q rest n (ext l o.dst v') w') : WL Try.prog ops Q (o :: rest) n l w := by
  obtain ⟨v', w', hr, h2, h3, h4⟩ := app1 w o.type N v m xs hown k c hA hm hN
  refine ⟨l_step hg (o_val v' (w' := w') ?_ (hk v' w' h2 h3 h4).out)⟩
  unfold execOp
  simp only [ho, resolve, invoke, builtin, Sem.run_bind, Sem.run_pure, Result.andThen_ok, List.map_toArray, List.map_cons, List.map_nil, hs, hx, hr]
end
theorem own_at {w : World} {N g cap n : Nat} {xs : List Value} (h : w.ownsRow N 5 1 (.slice (some ⟨g, 0, none⟩) n cap) n xs) : At w g xs := by
  have hl := h.1
  refine ⟨fun j v hv => ?_, fun o => h.frozenAt o, (h.lt g rfl).2⟩
  have hj : j < xs.length := (List.getElem?_eq_some_iff.1 hv).1
  rw [Nat.zero_add, h.cellAt j (by omega)]; exact hv
theorem set_tk {vs : List Value} {i : Nat} {v : Value} (h : i < vs.length) : vs.set i v = vs.take i ++ [v] ++ vs.drop (i + 1) := by
  rw [List.set_eq_take_append_cons_drop, if_pos h]; simp
theorem blt_t {a b : Nat} (h : a < b) : Nat.blt a b = true := by rw [Nat.blt_eq]; exact h
/-- The digits from the last on. -/
def dRev : Nat → Int → List Int
  | 0, _ => []
  | f + 1, n => if n = 0 then [] else (48 + n % 10) :: dRev f (n / 10)
theorem dRev_decF : ∀ (f : Nat) (n : Int), 0 < n → n < 10 ^ (f + 1) → (dRev (f + 1) n).reverse = decF (f + 1) n
  | 0, n, h0, h => by
    have : n / 10 = 0 := by simp at h; omega
    unfold dRev decF
    rw [if_neg (by omega), if_pos this]
    simp [dRev]
  | f + 1, n, h0, h => by
    unfold dRev decF
    rw [if_neg (by omega)]
    by_cases hz : n / 10 = 0
    · rw [if_pos hz, hz]
      have : dRev (f + 1) 0 = [] := by unfold dRev; rw [if_pos rfl]
      rw [this]; simp
    · rw [if_neg hz, List.reverse_cons, dRev_decF f (n / 10) (by omega) (by rw [Int.pow_succ] at h; omega)]
theorem dRev_len : ∀ (f : Nat) (n : Int), (dRev f n).length ≤ f
  | 0, _ => by simp [dRev]
  | f + 1, n => by
    unfold dRev; split
    · simp
    · have := dRev_len f (n / 10); simp; omega
theorem dRev_step {f : Nat} {n : Int} (h : n ≠ 0) : dRev (f + 1) n = (48 + n % 10) :: dRev f (n / 10) := by
  show (if n = 0 then [] else (48 + n % 10) :: dRev f (n / 10)) = _
  rw [if_neg h]
theorem dRev_zero (f : Nat) : dRev f 0 = [] := by cases f with | zero => rfl | succ f => unfold dRev; rw [if_pos rfl]
/-- The first i and the last i are exchanged. -/
def RvI (xs : List Int) (i : Nat) (zs : List Int) : Prop := zs.length = xs.length ∧ ∀ p, p < xs.length → zs.getD p 0 = if p < i ∨ xs.length - i ≤ p then xs.getD (xs.length - 1 - p) 0 else xs.getD p 0
theorem RvI.start (xs : List Int) : RvI xs 0 xs := ⟨rfl, fun p hp => by rw [if_neg (by omega)]⟩
theorem RvI.step {xs zs : List Int} {i j : Nat} (h : RvI xs i zs) (hij : i < j) (hl : i + j + 1 = xs.length) : RvI xs (i + 1) ((zs.set i (zs.getD j 0)).set j (zs.getD i 0)) := by
  obtain ⟨h1, h2⟩ := h
  refine ⟨by simp [h1], fun p hp => ?_⟩
  have hi := h2 i (by omega)
  have hj := h2 j (by omega)
  rw [if_neg (by omega)] at hi hj
  simp only [List.getD_eq_getElem?_getD] at *
  rw [List.getElem?_set, List.getElem?_set]
  by_cases e1 : j = p
  · subst e1
    rw [if_pos rfl, if_pos (by simp; omega), if_pos (by omega)]
    simp only [Option.getD_some]
    rw [hi, show xs.length - 1 - j = i by omega]
  · rw [if_neg e1]
    by_cases e2 : i = p
    · subst e2
      rw [if_pos rfl, if_pos (by omega), if_pos (by omega)]
      simp only [Option.getD_some]
      rw [hj, show xs.length - 1 - i = j by omega]
    · rw [if_neg e2, h2 p hp]
      by_cases c : p < i ∨ xs.length - i ≤ p
      · rw [if_pos c, if_pos (by omega)]
      · rw [if_neg c, if_neg (by omega)]
theorem RvI.done {xs zs : List Int} {i j : Nat} (h : RvI xs i zs) (hij : ¬ i < j) (hl : i + j + 1 = xs.length) : zs = xs.reverse := by
  obtain ⟨h1, h2⟩ := h
  apply List.ext_getElem
  · simp [h1]
  · intro p a b
    have hp : p < xs.length := by omega
    have := h2 p hp
    simp only [List.getD_eq_getElem?_getD, List.getElem?_eq_getElem a, Option.getD_some] at this
    rw [this, List.getElem_reverse]
    by_cases c : p < i ∨ xs.length - i ≤ p
    · rw [if_pos c, List.getElem?_eq_getElem (by omega), Option.getD_some]
    · rw [if_neg c, List.getElem?_eq_getElem (by omega), Option.getD_some]
      congr 1; omega
theorem str_run (w : World) (g c : Nat) (ns : List Int) (hA : At w g (ns.map (Value.int .u8))) (m : Nat) (hm : m = ns.length) : (convert 75 9 (.slice (some ⟨g, 0, none⟩) m c)).run Try.prog w = .ok (.string (strOf ns)) w := by
  subst hm
  rw [run_convert_bytes_string w 75 9 5 _ _ _ Try.underlying75 Try.underlying5 Try.underlying9, run_bytesToString w _ _ _ ns]
  · rfl
  · have := run_loadCells_list (P := Try.prog) w ⟨g, 0, none⟩ (ns.map (Value.int .u8)) (fun j v hv => by rw [Addr.add_mid]; exact hA.1 j v hv)
    simpa using this
end Go.Proofs.Ytoiiekmkcpcbgaa
/-
  The document's Text of a number.
-/
namespace Go.Proofs.Ytoiiekmkcpcbgaa
open Go.RowKit
theorem sz5 : (Try.prog.info? 5).map (·.size) = some 1 := by kernel_rfl
theorem cvb_run {a : Int} (h0 : 0 ≤ a) (h1 : a < 256) (w : World) : (convert 22 5 (.int .u64 a)).run Try.prog w = .ok (.int .u8 a) w := by
  have e : IntKind.u8.wrap a = a := by rw [IntKind.wrap_u8]; omega
  rw [cvA, e]
theorem lens_run (ρ : Operand → Value) (x : Operand) (p : Option Addr) (m c : Nat) (hx : ρ x = .slice p m c) (dst : Option Tmp) (type : TypeId) (pos : String) (after : Array Edge) (guard : Option (Nat × Bool)) (w : World) : (execOp ρ { dst, op := .call { callee := .builtin .len, args := #[x], argTypes := #[75] }, type, pos, after, guard }).run Try.prog w = .ok (.value (.int .i64 (m : Int))) w := by
  simp [go_sem, hx]
theorem rtext_0 (n : Int) (w : World) (hz : (l0 n == 0 && (l1 n == 0 && (l2 n == 0 && l3 n == 0))) = true) : Calls Try.prog 25 #[nv n] w fun e w' => e = .returned (.string ⟨#[48]⟩) ∧ Mo w w' := by
  refine w_enter 52 Try.func25 Try.ntmps25 rfl rfl ?_
  have M : Mo w w := Mo.refl _
  refine w_seq ?_
  refine w_reg ?_
  refine wl_box 24 (.tmp 0) (nv (n)) ((nvar (n))) rfl rfl (fun _ => by kernel_rfl) rfl ?_
  intro k1 w1 hk hz hq Q1
  have N_k1 : w.heap.size ≤ k1 := by have := M.size; omega
  replace M := M.trans hq
  clear hk hz hq
  refine wl_mv (.const (.string ⟨#[]⟩)) (.string ⟨#[]⟩) (fun _ => rfl) rfl rfl ?_
  refine w_nil ?_
  refine xn_then ?_
  refine w_seq ?_
  refine w_seq ?_
  refine w_reg ?_
  refine wl_load 24 (.tmp 1) (pt k1 0) (nv (n)) rfl rfl (run_row Q1 24 0 4 (nvli (n)) rfl Try.underlying24 rfl sz24) rfl ?_
  refine wl_build 24 [] [] (.agg #[.int .u64 0, .int .u64 0, .int .u64 0, .int .u64 0]) rfl rfl (by kernel_rfl) rfl ?_
  refine wl_bin (fun x y => do eqGuard .eql 24 (.tmp 8) (.tmp 9) x y; binOp .eql 24 x y) (.tmp 8) (.tmp 9) (nv (n)) (.agg #[.int .u64 0, .int .u64 0, .int .u64 0, .int .u64 0]) (.bool true) (fun _ => rfl) rfl rfl (eqn_run hz _ _ _) rfl ?_
  refine w_nil ?_
  refine xn_then ?_
  refine w_condT rfl ?_
  refine w_seq ?_
  refine w_reg ?_
  refine wl_mv (.const (.string ⟨#[48]⟩)) (.string ⟨#[48]⟩) (fun _ => rfl) rfl rfl ?_
  refine w_nil ?_
  refine xn_then ?_
  refine w_ret ?_
  refine xr_then ?_
  exact w_ret1 _ (.string ⟨#[48]⟩) rfl rfl ⟨rfl, M⟩
theorem sub3b_run {k : Nat} (hk : 0 < k ∧ k ≤ 1000) (x y : Operand) (w : World) : (do eqGuard .sub 3 x y (.int .i64 (k : Int)) (.int .i64 1); binOp .sub 3 (.int .i64 (k : Int)) (.int .i64 1)).run Try.prog w = .ok (.int .i64 ((k - 1 : Nat) : Int)) w := by
  have e : (do eqGuard .sub 3 x y (.int .i64 (k : Int)) (.int .i64 1); binOp .sub 3 (.int .i64 (k : Int)) (.int .i64 1)).run Try.prog w = .ok (.int .i64 (IntKind.i64.wrap ((k : Int) - 1))) w := by kernel_rfl
  have h : IntKind.i64.wrap ((k : Int) - 1) = ((k - 1 : Nat) : Int) := by rw [IntKind.wrap_i64]; omega
  rw [e, h]
theorem getD_map {zs : List Int} {p : Nat} (h : p < zs.length) : (zs.map (Value.int .u8))[p]? = some (.int .u8 (zs.getD p 0)) := by
  simp [h]
theorem rtext_w (n : Int) (w : World) (hn0 : n ≠ 0) (hnn : (n.toNat : Int) = n) (hn : n < MM) (hz : (l0 n == 0 && (l1 n == 0 && (l2 n == 0 && l3 n == 0))) = false) : Calls Try.prog 25 #[nv n] w fun e w' => e = .returned (.string (strOf (decF 78 n))) ∧ Mo w w' := by
  refine w_enter 52 Try.func25 Try.ntmps25 rfl rfl ?_
  have M : Mo w w := Mo.refl _
  refine w_seq ?_
  refine w_reg ?_
  refine wl_box 24 (.tmp 0) (nv (n)) ((nvar (n))) rfl rfl (fun _ => by kernel_rfl) rfl ?_
  intro k1 w1 hk hz hq Q1
  have N_k1 : w.heap.size ≤ k1 := by have := M.size; omega
  replace M := M.trans hq
  clear hk hz hq
  refine wl_mv (.const (.string ⟨#[]⟩)) (.string ⟨#[]⟩) (fun _ => rfl) rfl rfl ?_
  refine w_nil ?_
  refine xn_then ?_
  refine w_seq ?_
  refine w_seq ?_
  refine w_reg ?_
  refine wl_load 24 (.tmp 1) (pt k1 0) (nv (n)) rfl rfl (run_row Q1 24 0 4 (nvli (n)) rfl Try.underlying24 rfl sz24) rfl ?_
  refine wl_build 24 [] [] (.agg #[.int .u64 0, .int .u64 0, .int .u64 0, .int .u64 0]) rfl rfl (by kernel_rfl) rfl ?_
  refine wl_bin (fun x y => do eqGuard .eql 24 (.tmp 8) (.tmp 9) x y; binOp .eql 24 x y) (.tmp 8) (.tmp 9) (nv (n)) (.agg #[.int .u64 0, .int .u64 0, .int .u64 0, .int .u64 0]) (.bool false) (fun _ => rfl) rfl rfl (eqn_run hz _ _ _) rfl ?_
  refine w_nil ?_
  refine xn_then ?_
  refine w_condF rfl ?_
  refine w_skip ?_
  refine xn_then ?_
  refine w_seq ?_
  refine w_reg ?_
  refine wl_mv (.const (.slice none 0 0)) (.slice none 0 0) (fun _ => rfl) rfl rfl ?_
  refine w_nil ?_
  refine xn_then ?_
  refine w_seq ?_
  refine w_block ?_
  refine w_loop (fun m l w1 => ∃ (xs : List Int) (v : Value) (f : Nat), look l 1 = pt k1 0 ∧ look l 3 = v ∧ At w1 k1 (nvli (m : Int)) ∧ w1.ownsRow w.heap.size 5 1 v xs.length (xs.map (Value.int .u8)) ∧ v.ownBlock ≠ some k1 ∧ dRev 78 n = xs ++ dRev f (m : Int) ∧ xs.length + f = 78 ∧ (m : Int) < 10 ^ f ∧ (m : Int) < MM ∧ Mo w w1) n.toNat ⟨[], .slice none 0 0, 78, rfl, rfl, by rw [hnn]; exact Q1, World.ownsRow_nil _ _ _ _, by simp [Value.ownBlock], by rw [hnn]; rfl, rfl, by rw [hnn]; exact Int.lt_trans hn (by decide), by rw [hnn]; exact hn, M⟩ ?_
  clear M Q1
  rintro m l wl ⟨xs, v, f, e1, e3, Q1, hown, on_k1, hdr, hxf, hmf, hmM, M⟩
  have hsz := M.size
  by_cases hm0 : m = 0
  · subst hm0
    have hz : (l0 ((0 : Nat) : Int) == 0 && (l1 ((0 : Nat) : Int) == 0 && (l2 ((0 : Nat) : Int) == 0 && l3 ((0 : Nat) : Int) == 0))) = true := rfl
    have hxs : dRev 78 n = xs := by rw [hdr]; rw [show (((0 : Nat) : Int)) = 0 from rfl, dRev_zero, List.append_nil]
    have hpos : 0 < xs.length := by rw [← hxs, dRev_step hn0]; simp
    obtain ⟨g, cap, rfl, hgN, hglt⟩ := hown.form hpos
    have Qg := own_at hown
    refine w_seq ?_
    refine w_seq ?_
    refine w_reg ?_
    refine wl_load 24 (.tmp 1) (pt k1 0) (nv (((0 : Nat) : Int))) rfl e1 (run_row Q1 24 0 4 (nvli (((0 : Nat) : Int))) rfl Try.underlying24 rfl sz24) rfl ?_
    refine wl_build 24 [] [] (.agg #[.int .u64 0, .int .u64 0, .int .u64 0, .int .u64 0]) rfl rfl (by kernel_rfl) rfl ?_
    refine wl_bin (fun x y => do eqGuard .neq 24 (.tmp 11) (.tmp 12) x y; binOp .neq 24 x y) (.tmp 11) (.tmp 12) (nv (((0 : Nat) : Int))) (.agg #[.int .u64 0, .int .u64 0, .int .u64 0, .int .u64 0]) (.bool false) (fun _ => rfl) rfl rfl (nen_run (r := true) hz _ _ _) rfl ?_
    refine w_nil ?_
    refine xn_then ?_
    refine w_condF rfl ?_
    refine w_exit ?_
    refine xx_then ?_
    refine xx_then ?_
    refine xx_blk ?_
    refine xn_then ?_
    refine w_seq ?_
    refine w_seq ?_
    refine w_reg ?_
    refine wl_mv (.tmp 3) (.slice (some ⟨g, 0, none⟩) xs.length cap) (fun _ => rfl) e3 rfl ?_
    refine wl_val (.int .i64 ((xs.length : Int))) (lens_run _ _ _ _ cap rfl _ _ _ _ _ _) rfl ?_
    refine wl_bin (fun x y => do eqGuard .sub 3 (.tmp 27) (.const (.int .i64 (1))) x y; binOp .sub 3 x y) (.tmp 27) (.const (.int .i64 (1))) (.int .i64 ((xs.length : Int))) (.int .i64 (1)) (.int .i64 (((xs.length - 1 : Nat) : Int))) (fun _ => rfl) rfl rfl (sub3b_run (by omega) _ _ _) rfl ?_
    refine wl_mv (.const (.int .i64 (0))) (.int .i64 (0)) (fun _ => rfl) rfl rfl ?_
    refine wl_mv (.tmp 28) (.int .i64 (((xs.length - 1 : Nat) : Int))) (fun _ => rfl) rfl rfl ?_
    refine w_nil ?_
    refine xn_then ?_
    refine w_block ?_
    refine w_loop (fun r l w1 => ∃ (i j : Nat) (zs : List Int), i + j + 1 = xs.length ∧ i + r = xs.length ∧ look l 3 = .slice (some ⟨g, 0, none⟩) xs.length cap ∧ look l 6 = .int .i64 (i : Int) ∧ look l 7 = .int .i64 (j : Int) ∧ RvI xs i zs ∧ At w1 g (zs.map (Value.int .u8)) ∧ Mo w w1) xs.length ⟨0, xs.length - 1, xs, by omega, by omega, e3, rfl, rfl, RvI.start xs, Qg, M⟩ ?_
    clear M Qg e3 e1 hown
    rintro r l2 wl2 ⟨i, j, zs, hij, hir, e3, e6, e7, hrv, Qg, M⟩
    have hlz := hrv.1
    by_cases hlt : i < j
    · have hl : decide ((i : Int) < (j : Int)) = true := decide_eq_true (by omega)
      refine w_seq ?_
      refine w_seq ?_
      refine w_reg ?_
      refine wl_mv (.tmp 6) (.int .i64 (i : Int)) (fun _ => rfl) e6 rfl ?_
      refine wl_mv (.tmp 7) (.int .i64 (j : Int)) (fun _ => rfl) e7 rfl ?_
      refine wl_bin (fun x y => do eqGuard .lss 3 (.tmp 29) (.tmp 30) x y; binOp .lss 3 x y) (.tmp 29) (.tmp 30) (.int .i64 (i : Int)) (.int .i64 (j : Int)) (.bool true) (fun _ => rfl) rfl rfl (lt3_run hl _ _ _) rfl ?_
      refine w_nil ?_
      refine xn_then ?_
      refine w_condT rfl ?_
      refine w_skip ?_
      refine xn_then ?_
      refine w_seq ?_
      refine w_block ?_
      refine w_any 13 [.inl (.slice (some ⟨g, 0, none⟩) xs.length cap), .inl (.int .i64 (i : Int)), .inl (.slice (some ⟨g, 0, none⟩) xs.length cap), .inl (.int .i64 (j : Int)), .inl (.slice (some ⟨g, 0, none⟩) xs.length cap), .inl (.int .i64 (j : Int)), .inl (pt g j), .inl (.int .u8 (zs.getD j 0)), .inl (.slice (some ⟨g, 0, none⟩) xs.length cap), .inl (.int .i64 (i : Int)), .inl (pt g i), .inl (.int .u8 (zs.getD i 0)), .inl (pt g i)] [2, 3] (by kernel_rfl) (by kernel_rfl) (by kernel_rfl) (by kernel_rfl) rfl (by kernel_rfl) (by kernel_rfl) (late_cons ⟨_, _, rfl, rfl, fun _ _ _ _ h => h, fun f hd => ⟨rfl, la_mv (.tmp 3) (.slice (some ⟨g, 0, none⟩) xs.length cap) (fun _ => rfl) e3⟩⟩ (late_cons ⟨_, _, rfl, rfl, fun _ _ _ _ h => h, fun f hd => ⟨rfl, la_mv (.tmp 7) (.int .i64 (j : Int)) (fun _ => rfl) e7⟩⟩ late_nil)) ?_ ?_ ?_
      · exact Ds.none rfl
      · refine ea_cons ?_ (ea_cons ?_ (ea_cons ?_ (ea_cons ?_ (ea_cons ?_ (ea_cons ?_ (ea_cons ?_ (ea_cons ?_ (ea_cons ?_ (ea_cons ?_ (ea_cons ?_ (ea_cons ?_ (ea_cons ?_ (ea_nil)))))))))))))
        · exact og_eq (.slice (some ⟨g, 0, none⟩) xs.length cap) rfl (fun f wf hq hd K hK => go_run rfl (wo_mv (.tmp 3) (.slice (some ⟨g, 0, none⟩) xs.length cap) (fun _ => rfl) e3 (hK _ (Mo.refl _))))
        · exact og_eq (.int .i64 (i : Int)) rfl (fun f wf hq hd K hK => go_run rfl (wo_mv (.tmp 6) (.int .i64 (i : Int)) (fun _ => rfl) e6 (hK _ (Mo.refl _))))
        · exact og_eq (.slice (some ⟨g, 0, none⟩) xs.length cap) rfl (fun f wf hq hd K hK => go_run rfl (wo_mv (.tmp 3) (.slice (some ⟨g, 0, none⟩) xs.length cap) (fun _ => rfl) e3 (hK _ (Mo.refl _))))
        · exact og_eq (.int .i64 (j : Int)) rfl (fun f wf hq hd K hK => go_run rfl (wo_mv (.tmp 7) (.int .i64 (j : Int)) (fun _ => rfl) e7 (hK _ (Mo.refl _))))
        · exact og_eq (.slice (some ⟨g, 0, none⟩) xs.length cap) rfl (fun f wf hq hd K hK => go_run rfl (wo_mv (.tmp 3) (.slice (some ⟨g, 0, none⟩) xs.length cap) (fun _ => rfl) e3 (hK _ (Mo.refl _))))
        · exact og_eq (.int .i64 (j : Int)) rfl (fun f wf hq hd K hK => go_run rfl (wo_mv (.tmp 7) (.int .i64 (j : Int)) (fun _ => rfl) e7 (hK _ (Mo.refl _))))
        · exact og_eq (pt g j) rfl (fun f wf hq hd K hK => go_run rfl (wo_bin (fun x y => Instr.indexAt 75 x y) (.tmp 40) (.tmp 41) (.slice (some ⟨g, 0, none⟩) xs.length cap) (.int .i64 (j : Int)) (pt g j) (fun _ => rfl) (hd 4 rfl) (hd 5 rfl) (ixs g j xs.length cap (by omega) _) (hK _ (Mo.refl _))))
        · exact og_eq (.int .u8 (zs.getD j 0)) rfl (fun f wf hq hd K hK => have Qg := Qg.mo hq; go_run rfl (wo_load 5 (.tmp 42) (pt g j) (.int .u8 (zs.getD j 0)) rfl (hd 6 rfl) (run_one (v := .int .u8 (zs.getD j 0)) Qg 5 j (getD_map (by omega)) Try.underlying5 rfl) (hK _ (Mo.refl _))))
        · exact og_eq (.slice (some ⟨g, 0, none⟩) xs.length cap) rfl (fun f wf hq hd K hK => go_run rfl (wo_mv (.tmp 3) (.slice (some ⟨g, 0, none⟩) xs.length cap) (fun _ => rfl) e3 (hK _ (Mo.refl _))))
        · exact og_eq (.int .i64 (i : Int)) rfl (fun f wf hq hd K hK => go_run rfl (wo_mv (.tmp 6) (.int .i64 (i : Int)) (fun _ => rfl) e6 (hK _ (Mo.refl _))))
        · exact og_eq (pt g i) rfl (fun f wf hq hd K hK => go_run rfl (wo_bin (fun x y => Instr.indexAt 75 x y) (.tmp 44) (.tmp 45) (.slice (some ⟨g, 0, none⟩) xs.length cap) (.int .i64 (i : Int)) (pt g i) (fun _ => rfl) (hd 8 rfl) (hd 9 rfl) (ixs g i xs.length cap (by omega) _) (hK _ (Mo.refl _))))
        · exact og_eq (.int .u8 (zs.getD i 0)) rfl (fun f wf hq hd K hK => have Qg := Qg.mo hq; go_run rfl (wo_load 5 (.tmp 46) (pt g i) (.int .u8 (zs.getD i 0)) rfl (hd 10 rfl) (run_one (v := .int .u8 (zs.getD i 0)) Qg 5 i (getD_map (by omega)) Try.underlying5 rfl) (hK _ (Mo.refl _))))
        · exact og_eq (pt g i) rfl (fun f wf hq hd K hK => go_run rfl (wo_bin (fun x y => Instr.indexAt 75 x y) (.tmp 36) (.tmp 37) (.slice (some ⟨g, 0, none⟩) xs.length cap) (.int .i64 (i : Int)) (pt g i) (fun _ => rfl) (hd 0 rfl) (hd 1 rfl) (ixs g i xs.length cap (by omega) _) (hK _ (Mo.refl _))))
      intro kf61 w61 hq hR hne
      replace Qg := Qg.mo hq
      replace M := M.trans hq
      clear hq hR hne
      refine wl_st1 5 (.tmp 48) (.tmp 43) g i (.int .u8 (zs.getD j 0)) (zs.map (Value.int .u8)) ((zs.map (Value.int .u8)).set i (.int .u8 (zs.getD j 0))) Qg rfl rfl rfl rfl (blt_t (by simp; omega)) sz5 rfl rfl (set_tk (by simp; omega)) rfl ?_
      intro w62 hS Qn
      rw [← List.map_set] at Qn
      replace Qg := Qn
      clear Qn
      replace M := hS.mo _ hgN M
      clear hS
      refine wl_bin (fun x y => Instr.indexAt 75 x y) (.tmp 38) (.tmp 39) (.slice (some ⟨g, 0, none⟩) xs.length cap) (.int .i64 (j : Int)) (pt g j) (fun _ => rfl) rfl rfl (ixs g j xs.length cap (by omega) _) rfl ?_
      refine wl_st1 5 (.tmp 49) (.tmp 47) g j (.int .u8 (zs.getD i 0)) ((zs.set i (zs.getD j 0)).map (Value.int .u8)) (((zs.set i (zs.getD j 0)).map (Value.int .u8)).set j (.int .u8 (zs.getD i 0))) Qg rfl rfl rfl rfl (blt_t (by simp; omega)) sz5 rfl rfl (set_tk (by simp; omega)) rfl ?_
      intro w63 hS Qn
      rw [← List.map_set] at Qn
      replace Qg := Qn
      clear Qn
      replace M := hS.mo _ hgN M
      clear hS
      refine w_nil ?_
      refine xn_blk ?_
      refine xn_then ?_
      refine w_reg ?_
      refine wl_mv (.tmp 6) (.int .i64 (i : Int)) (fun _ => rfl) e6 rfl ?_
      refine wl_bin (fun x y => do eqGuard .add 3 (.tmp 32) (.const (.int .i64 (1))) x y; binOp .add 3 x y) (.tmp 32) (.const (.int .i64 (1))) (.int .i64 (i : Int)) (.int .i64 (1)) (.int .i64 (((i + 1 : Nat) : Int))) (fun _ => rfl) rfl rfl (add1_run (by omega) _ _ _) rfl ?_
      refine wl_mv (.tmp 7) (.int .i64 (j : Int)) (fun _ => rfl) e7 rfl ?_
      refine wl_bin (fun x y => do eqGuard .sub 3 (.tmp 34) (.const (.int .i64 (1))) x y; binOp .sub 3 x y) (.tmp 34) (.const (.int .i64 (1))) (.int .i64 (j : Int)) (.int .i64 (1)) (.int .i64 (((j - 1 : Nat) : Int))) (fun _ => rfl) rfl rfl (sub3b_run (by omega) _ _ _) rfl ?_
      refine wl_mv (.tmp 33) (.int .i64 (((i + 1 : Nat) : Int))) (fun _ => rfl) rfl rfl ?_
      refine wl_mv (.tmp 35) (.int .i64 (((j - 1 : Nat) : Int))) (fun _ => rfl) rfl rfl ?_
      refine w_nil ?_
      exact xn_loop (r - 1) (by omega) ⟨i + 1, j - 1, _, by omega, by omega, e3, rfl, rfl, hrv.step hlt hij, Qg, M⟩
    · have hl : decide ((i : Int) < (j : Int)) = false := decide_eq_false (by omega)
      refine w_seq ?_
      refine w_seq ?_
      refine w_reg ?_
      refine wl_mv (.tmp 6) (.int .i64 (i : Int)) (fun _ => rfl) e6 rfl ?_
      refine wl_mv (.tmp 7) (.int .i64 (j : Int)) (fun _ => rfl) e7 rfl ?_
      refine wl_bin (fun x y => do eqGuard .lss 3 (.tmp 29) (.tmp 30) x y; binOp .lss 3 x y) (.tmp 29) (.tmp 30) (.int .i64 (i : Int)) (.int .i64 (j : Int)) (.bool false) (fun _ => rfl) rfl rfl (lt3_run hl _ _ _) rfl ?_
      refine w_nil ?_
      refine xn_then ?_
      refine w_condF rfl ?_
      refine w_exit ?_
      refine xx_then ?_
      refine xx_then ?_
      refine xx_blk ?_
      refine xn_then ?_
      refine w_seq ?_
      refine w_reg ?_
      refine wl_mv (.tmp 3) (.slice (some ⟨g, 0, none⟩) xs.length cap) (fun _ => rfl) e3 rfl ?_
      refine wl_un (fun v => convert 75 9 v) (.tmp 50) (.slice (some ⟨g, 0, none⟩) xs.length cap) (.string (strOf zs)) (fun _ => rfl) rfl (str_run _ g cap zs Qg _ hlz.symm) rfl ?_
      refine wl_mv (.tmp 51) (.string (strOf zs)) (fun _ => rfl) rfl rfl ?_
      refine w_nil ?_
      refine xn_then ?_
      refine w_ret ?_
      exact w_ret1 _ (.string (strOf zs)) rfl rfl ⟨by rw [hrv.done hlt hij, ← hxs, dRev_decF 77 n (by omega) (Int.lt_trans hn (by decide))], M⟩
  · have hz : (l0 (m : Int) == 0 && (l1 (m : Int) == 0 && (l2 (m : Int) == 0 && l3 (m : Int) == 0))) = false := by rw [zb (by omega) hmM]; exact decide_eq_false (by omega)
    obtain ⟨f', rfl⟩ : ∃ f', f = f' + 1 := by cases f with | zero => simp at hmf; omega | succ f => exact ⟨f, rfl⟩
    refine w_seq ?_
    refine w_seq ?_
    refine w_reg ?_
    refine wl_load 24 (.tmp 1) (pt k1 0) (nv ((m : Int))) rfl e1 (run_row Q1 24 0 4 (nvli ((m : Int))) rfl Try.underlying24 rfl sz24) rfl ?_
    refine wl_build 24 [] [] (.agg #[.int .u64 0, .int .u64 0, .int .u64 0, .int .u64 0]) rfl rfl (by kernel_rfl) rfl ?_
    refine wl_bin (fun x y => do eqGuard .neq 24 (.tmp 11) (.tmp 12) x y; binOp .neq 24 x y) (.tmp 11) (.tmp 12) (nv ((m : Int))) (.agg #[.int .u64 0, .int .u64 0, .int .u64 0, .int .u64 0]) (.bool true) (fun _ => rfl) rfl rfl (nen_run (r := false) hz _ _ _) rfl ?_
    refine w_nil ?_
    refine xn_then ?_
    refine w_condT rfl ?_
    refine w_skip ?_
    refine xn_then ?_
    refine w_block ?_
    refine w_seq ?_
    refine w_reg ?_
    refine wl_load 24 (.tmp 1) (pt k1 0) (nv ((m : Int))) rfl e1 (run_row Q1 24 0 4 (nvli ((m : Int))) rfl Try.underlying24 rfl sz24) rfl ?_
    refine wl_call 71 [(.tmp 15), (.const (.int .u64 (10)))] _ [nv ((m : Int)), .int .u64 (10)] (.tuple #[nv ((m : Int) / 10), .int .u64 ((m : Int) % 10)]) rfl rfl (fun _ _ => by kernel_rfl) (small_n (m : Int) _ (by omega) hmM) rfl ?_
    intro w21 hq
    replace hown := own_mo hown hq
    replace Q1 := Q1.mo hq
    replace M := M.trans hq
    clear hq
    refine wl_mv (.tmp 16) (.tuple #[nv ((m : Int) / 10), .int .u64 ((m : Int) % 10)]) (fun _ => rfl) rfl rfl ?_
    refine wl_un (fun v => Instr.extract v 0) (.tmp 14) (.tuple #[nv ((m : Int) / 10), .int .u64 ((m : Int) % 10)]) (nv ((m : Int) / 10)) (fun _ => rfl) rfl (by kernel_rfl) rfl ?_
    refine wl_un (fun v => Instr.extract v 1) (.tmp 14) (.tuple #[nv ((m : Int) / 10), .int .u64 ((m : Int) % 10)]) (.int .u64 ((m : Int) % 10)) (fun _ => rfl) rfl (by kernel_rfl) rfl ?_
    refine wl_alloc 24 #[.int .u64 0, .int .u64 0, .int .u64 0, .int .u64 0] rfl (fun _ => by kernel_rfl) rfl ?_
    intro k21 w22 hk hz hq Q21
    have ne_k1_k21 : k1 ≠ k21 := by have := Q1.lt; omega
    have on_k21 : v.ownBlock ≠ some k21 := fun e => by have := (hown.lt _ e).2; omega
    have N_k21 : w.heap.size ≤ k21 := by have := M.size; omega
    replace hown := own_mo hown hq
    replace Q1 := Q1.mo hq
    replace M := M.trans hq
    clear hk hz hq
    refine wl_stx 24 (.tmp 4) (.tmp 17) k21 0 (nvar ((m : Int) / 10)) [.int .u64 0, .int .u64 0, .int .u64 0, .int .u64 0] (nvli ((m : Int) / 10)) Q21 rfl rfl rfl rfl rfl sz24 rfl rfl rfl ?_
    intro w23 hS Qn
    replace Q21 := Qn
    clear Qn
    replace Q1 := hS.other _ _ ne_k1_k21 Q1
    replace hown := own_st hS hown on_k21
    replace M := hS.mo _ N_k21 M
    clear hS
    refine wl_mv (.tmp 18) (.int .u64 ((m : Int) % 10)) (fun _ => rfl) rfl rfl ?_
    refine w_nil ?_
    refine xn_then ?_
    refine w_seq ?_
    refine w_reg ?_
    refine wl_mv (.tmp 3) (v) (fun _ => rfl) e3 rfl ?_
    refine wl_mv (.tmp 5) (.int .u64 ((m : Int) % 10)) (fun _ => rfl) rfl rfl ?_
    refine wl_bin (fun x y => do eqGuard .add 22 (.const (.int .u64 (48))) (.tmp 20) x y; binOp .add 22 x y) (.const (.int .u64 (48))) (.tmp 20) (.int .u64 (48)) (.int .u64 ((m : Int) % 10)) (.int .u64 (48 + (m : Int) % 10)) (fun _ => rfl) rfl rfl (addu_run rfl (by omega) (by omega) _ _ _) rfl ?_
    refine wl_un (fun v => convert 22 5 v) (.tmp 21) (.int .u64 (48 + (m : Int) % 10)) (.int .u8 (48 + (m : Int) % 10)) (fun _ => rfl) rfl (cvb_run (by omega) (by omega) _) rfl ?_
    refine wl_bsl (.tmp 22) (48 + (m : Int) % 10) rfl rfl rfl ?_
    intro k22 w24 hk hz2 hq Q22
    have ne_k1_k22 : k1 ≠ k22 := by have := Q1.lt; omega
    have ne_k21_k22 : k21 ≠ k22 := by have := Q21.lt; omega
    have on_k22 : v.ownBlock ≠ some k22 := fun e => by have := (hown.lt _ e).2; omega
    have N_k22 : w.heap.size ≤ k22 := by have := M.size; omega
    replace hown := own_mo hown hq
    replace Q1 := Q1.mo hq
    replace Q21 := Q21.mo hq
    replace M := M.trans hq
    clear hk hz2 hq
    refine wl_app (.tmp 19) (.tmp 23) w.heap.size v xs.length (xs.map (Value.int .u8)) k22 (48 + (m : Int) % 10) rfl rfl rfl hown Q22 (by omega) (by have := M.size; omega) rfl ?_
    intro v' w25 hown2 hW hat
    have hne2 : v'.ownBlock ≠ some k1 := by rcases hat with h | h <;> rw [h]; exact on_k1; intro e; cases e; have := Q1.lt; omega
    replace M := hW.mo M (fun j e => (hown.lt _ e).1)
    replace Q1 := hW.at Q1 on_k1
    replace Q21 := hW.at Q21 on_k21
    replace Q22 := hW.at Q22 on_k22
    clear hown hW hat
    have hown := hown2
    clear hown2
    replace on_k1 := hne2
    clear on_k21
    clear on_k22
    refine wl_mv (.tmp 24) (v') (fun _ => rfl) rfl rfl ?_
    refine w_nil ?_
    refine xn_then ?_
    refine w_reg ?_
    refine wl_load 24 (.tmp 4) (pt k21 0) (nv ((m : Int) / 10)) rfl rfl (run_row Q21 24 0 4 (nvli ((m : Int) / 10)) rfl Try.underlying24 rfl sz24) rfl ?_
    refine wl_stx 24 (.tmp 1) (.tmp 25) k1 0 (nvar ((m : Int) / 10)) (nvli ((m : Int))) (nvli ((m : Int) / 10)) Q1 rfl rfl e1 rfl rfl sz24 rfl rfl rfl ?_
    intro w26 hS Qn
    replace Q1 := Qn
    clear Qn
    replace Q21 := hS.other _ _ ne_k1_k21.symm Q21
    replace Q22 := hS.other _ _ ne_k1_k22.symm Q22
    replace hown := own_st hS hown on_k1
    replace M := hS.mo _ N_k1 M
    clear hS
    refine w_nil ?_
    refine xn_blk ?_
    exact xn_loop (m / 10) (by omega) ⟨xs ++ [48 + (m : Int) % 10], v', f', e1, rfl, by rw [show ((m / 10 : Nat) : Int) = (m : Int) / 10 by omega]; exact Q1, by rw [List.length_append, List.map_append]; exact hown, hne2, by rw [hdr, dRev_step (by omega), List.append_assoc]; rw [show ((m / 10 : Nat) : Int) = (m : Int) / 10 by omega]; rfl, by rw [List.length_append]; simp; omega, by rw [Int.pow_succ] at hmf; omega, by omega, M⟩
theorem rtext_n (n : Int) (w : World) (h0 : 0 ≤ n) (h : n < MM) : Calls Try.prog 25 #[nv n] w fun e w' => e = .returned (.string (strOf (decF 78 n))) ∧ Mo w w' := by
  by_cases hz : n = 0
  · subst hz
    exact rtext_0 0 w rfl
  · exact rtext_w n w hz (by omega) h (by rw [zb h0 h]; exact decide_eq_false hz)
end Go.Proofs.Ytoiiekmkcpcbgaa
/-
  LimbTexts, where both sides answer the same.
-/
namespace Go.Proofs.Ytoiiekmkcpcbgaa
open Go.RowKit
theorem eqss_run (s : ByteArray) (x y : Operand) (w : World) : (do eqGuard .eql 9 x y (.string s) (.string s); binOp .eql 9 (.string s) (.string s)).run Try.prog w = .ok (.bool true) w := by
  simp [go_sem]
theorem self4 (n0 n1 n2 n3 : Int) : (n0 == n0 && (n1 == n1 && (n2 == n2 && n3 == n3))) = true := by simp
theorem texts_same (n : Int) (s st : ByteArray) (i e : Int) (o : Bool) (x_0 x_1 x_2 x_3 y_0 y_1 y_2 y_3 : Int) (w : World) (h1 : ∀ w, Calls Try.prog 20 #[.string s] w fun e' w' => e' = .returned (.tuple #[.agg #[.int .u64 x_0, .int .u64 x_1, .int .u64 x_2, .int .u64 x_3], .int .i64 e]) ∧ Mo w w') (h2 : ∀ w, Calls Try.prog 21 #[.string s] w fun e' w' => e' = .returned (.tuple #[.agg #[.int .u64 x_0, .int .u64 x_1, .int .u64 x_2, .int .u64 x_3], .int .i64 e]) ∧ Mo w w') (h3 : ∀ w, Calls Try.prog 22 #[.int .i64 i] w fun e' w' => e' = .returned (.tuple #[.agg #[.int .u64 y_0, .int .u64 y_1, .int .u64 y_2, .int .u64 y_3], .bool o]) ∧ Mo w w') (h4 : ∀ w, Calls Try.prog 23 #[.int .i64 i] w fun e' w' => e' = .returned (.tuple #[.agg #[.int .u64 y_0, .int .u64 y_1, .int .u64 y_2, .int .u64 y_3], .bool o]) ∧ Mo w w') (h5 : ∀ w, Calls Try.prog 24 #[nv (n)] w fun e' w' => e' = .returned (.string st) ∧ Mo w w') (h6 : ∀ w, Calls Try.prog 25 #[nv (n)] w fun e' w' => e' = .returned (.string st) ∧ Mo w w') :
    Calls Try.prog 5 #[nv n, .string s, .int .i64 i] w fun e' w' => e' = .returned (.bool true) ∧ Mo w w' := by
  refine w_enter 63 Try.func5 Try.ntmps5 rfl rfl ?_
  have M : Mo w w := Mo.refl _
  refine w_seq ?_
  refine w_reg ?_
  refine wl_box 24 (.tmp 0) (nv (n)) ((nvar (n))) rfl rfl (fun _ => by kernel_rfl) rfl ?_
  intro k1 w1 hk hz hq Q1
  have N_k1 : w.heap.size ≤ k1 := by have := M.size; omega
  replace M := M.trans hq
  clear hk hz hq
  refine wl_mv (.const (.bool false)) (.bool false) (fun _ => rfl) rfl rfl ?_
  refine w_nil ?_
  refine xn_then ?_
  refine w_seq ?_
  refine w_reg ?_
  refine wl_mv (.tmp 1) (.string s) (fun _ => rfl) rfl rfl ?_
  refine wl_call 20 [(.tmp 16)] _ [.string s] (.tuple #[.agg #[.int .u64 x_0, .int .u64 x_1, .int .u64 x_2, .int .u64 x_3], .int .i64 e]) rfl rfl (fun _ _ => by kernel_rfl) (h1 _) rfl ?_
  intro w2 hq
  replace Q1 := Q1.mo hq
  replace M := M.trans hq
  clear hq
  refine wl_mv (.tmp 17) (.tuple #[.agg #[.int .u64 x_0, .int .u64 x_1, .int .u64 x_2, .int .u64 x_3], .int .i64 e]) (fun _ => rfl) rfl rfl ?_
  refine wl_un (fun v => Instr.extract v 0) (.tmp 15) (.tuple #[.agg #[.int .u64 x_0, .int .u64 x_1, .int .u64 x_2, .int .u64 x_3], .int .i64 e]) (.agg #[.int .u64 x_0, .int .u64 x_1, .int .u64 x_2, .int .u64 x_3]) (fun _ => rfl) rfl (by kernel_rfl) rfl ?_
  refine wl_un (fun v => Instr.extract v 1) (.tmp 15) (.tuple #[.agg #[.int .u64 x_0, .int .u64 x_1, .int .u64 x_2, .int .u64 x_3], .int .i64 e]) (.int .i64 e) (fun _ => rfl) rfl (by kernel_rfl) rfl ?_
  refine wl_alloc 24 #[.int .u64 0, .int .u64 0, .int .u64 0, .int .u64 0] rfl (fun _ => by kernel_rfl) rfl ?_
  intro k2 w3 hk hz hq Q2
  have ne_k1_k2 : k1 ≠ k2 := by have := Q1.lt; omega
  have N_k2 : w.heap.size ≤ k2 := by have := M.size; omega
  replace Q1 := Q1.mo hq
  replace M := M.trans hq
  clear hk hz hq
  refine wl_st 24 (.tmp 7) (.tmp 18) k2 0 #[.int .u64 x_0, .int .u64 x_1, .int .u64 x_2, .int .u64 x_3] [.int .u64 0, .int .u64 0, .int .u64 0, .int .u64 0] [.int .u64 x_0, .int .u64 x_1, .int .u64 x_2, .int .u64 x_3] Q2 rfl rfl rfl rfl rfl sz24 rfl rfl rfl ?_
  intro w4 hS Qn
  replace Q2 := Qn
  clear Qn
  replace Q1 := hS.other _ _ ne_k1_k2 Q1
  replace M := hS.mo _ N_k2 M
  clear hS
  refine wl_mv (.tmp 19) (.int .i64 e) (fun _ => rfl) rfl rfl ?_
  refine w_nil ?_
  refine xn_then ?_
  refine w_seq ?_
  refine w_reg ?_
  refine wl_mv (.tmp 1) (.string s) (fun _ => rfl) rfl rfl ?_
  refine wl_call 21 [(.tmp 21)] _ [.string s] (.tuple #[.agg #[.int .u64 x_0, .int .u64 x_1, .int .u64 x_2, .int .u64 x_3], .int .i64 e]) rfl rfl (fun _ _ => by kernel_rfl) (h2 _) rfl ?_
  intro w5 hq
  replace Q1 := Q1.mo hq
  replace Q2 := Q2.mo hq
  replace M := M.trans hq
  clear hq
  refine wl_mv (.tmp 22) (.tuple #[.agg #[.int .u64 x_0, .int .u64 x_1, .int .u64 x_2, .int .u64 x_3], .int .i64 e]) (fun _ => rfl) rfl rfl ?_
  refine wl_un (fun v => Instr.extract v 0) (.tmp 20) (.tuple #[.agg #[.int .u64 x_0, .int .u64 x_1, .int .u64 x_2, .int .u64 x_3], .int .i64 e]) (.agg #[.int .u64 x_0, .int .u64 x_1, .int .u64 x_2, .int .u64 x_3]) (fun _ => rfl) rfl (by kernel_rfl) rfl ?_
  refine wl_un (fun v => Instr.extract v 1) (.tmp 20) (.tuple #[.agg #[.int .u64 x_0, .int .u64 x_1, .int .u64 x_2, .int .u64 x_3], .int .i64 e]) (.int .i64 e) (fun _ => rfl) rfl (by kernel_rfl) rfl ?_
  refine wl_alloc 24 #[.int .u64 0, .int .u64 0, .int .u64 0, .int .u64 0] rfl (fun _ => by kernel_rfl) rfl ?_
  intro k3 w6 hk hz hq Q3
  have ne_k1_k3 : k1 ≠ k3 := by have := Q1.lt; omega
  have ne_k2_k3 : k2 ≠ k3 := by have := Q2.lt; omega
  have N_k3 : w.heap.size ≤ k3 := by have := M.size; omega
  replace Q1 := Q1.mo hq
  replace Q2 := Q2.mo hq
  replace M := M.trans hq
  clear hk hz hq
  refine wl_st 24 (.tmp 9) (.tmp 23) k3 0 #[.int .u64 x_0, .int .u64 x_1, .int .u64 x_2, .int .u64 x_3] [.int .u64 0, .int .u64 0, .int .u64 0, .int .u64 0] [.int .u64 x_0, .int .u64 x_1, .int .u64 x_2, .int .u64 x_3] Q3 rfl rfl rfl rfl rfl sz24 rfl rfl rfl ?_
  intro w7 hS Qn
  replace Q3 := Qn
  clear Qn
  replace Q1 := hS.other _ _ ne_k1_k3 Q1
  replace Q2 := hS.other _ _ ne_k2_k3 Q2
  replace M := hS.mo _ N_k3 M
  clear hS
  refine wl_mv (.tmp 24) (.int .i64 e) (fun _ => rfl) rfl rfl ?_
  refine w_nil ?_
  refine xn_then ?_
  refine w_seq ?_
  refine w_reg ?_
  refine wl_mv (.tmp 2) (.int .i64 i) (fun _ => rfl) rfl rfl ?_
  refine wl_call 22 [(.tmp 26)] _ [.int .i64 i] (.tuple #[.agg #[.int .u64 y_0, .int .u64 y_1, .int .u64 y_2, .int .u64 y_3], .bool o]) rfl rfl (fun _ _ => by kernel_rfl) (h3 _) rfl ?_
  intro w8 hq
  replace Q1 := Q1.mo hq
  replace Q2 := Q2.mo hq
  replace Q3 := Q3.mo hq
  replace M := M.trans hq
  clear hq
  refine wl_mv (.tmp 27) (.tuple #[.agg #[.int .u64 y_0, .int .u64 y_1, .int .u64 y_2, .int .u64 y_3], .bool o]) (fun _ => rfl) rfl rfl ?_
  refine wl_un (fun v => Instr.extract v 0) (.tmp 25) (.tuple #[.agg #[.int .u64 y_0, .int .u64 y_1, .int .u64 y_2, .int .u64 y_3], .bool o]) (.agg #[.int .u64 y_0, .int .u64 y_1, .int .u64 y_2, .int .u64 y_3]) (fun _ => rfl) rfl (by kernel_rfl) rfl ?_
  refine wl_un (fun v => Instr.extract v 1) (.tmp 25) (.tuple #[.agg #[.int .u64 y_0, .int .u64 y_1, .int .u64 y_2, .int .u64 y_3], .bool o]) (.bool o) (fun _ => rfl) rfl (by kernel_rfl) rfl ?_
  refine wl_alloc 24 #[.int .u64 0, .int .u64 0, .int .u64 0, .int .u64 0] rfl (fun _ => by kernel_rfl) rfl ?_
  intro k4 w9 hk hz hq Q4
  have ne_k1_k4 : k1 ≠ k4 := by have := Q1.lt; omega
  have ne_k2_k4 : k2 ≠ k4 := by have := Q2.lt; omega
  have ne_k3_k4 : k3 ≠ k4 := by have := Q3.lt; omega
  have N_k4 : w.heap.size ≤ k4 := by have := M.size; omega
  replace Q1 := Q1.mo hq
  replace Q2 := Q2.mo hq
  replace Q3 := Q3.mo hq
  replace M := M.trans hq
  clear hk hz hq
  refine wl_st 24 (.tmp 11) (.tmp 28) k4 0 #[.int .u64 y_0, .int .u64 y_1, .int .u64 y_2, .int .u64 y_3] [.int .u64 0, .int .u64 0, .int .u64 0, .int .u64 0] [.int .u64 y_0, .int .u64 y_1, .int .u64 y_2, .int .u64 y_3] Q4 rfl rfl rfl rfl rfl sz24 rfl rfl rfl ?_
  intro w10 hS Qn
  replace Q4 := Qn
  clear Qn
  replace Q1 := hS.other _ _ ne_k1_k4 Q1
  replace Q2 := hS.other _ _ ne_k2_k4 Q2
  replace Q3 := hS.other _ _ ne_k3_k4 Q3
  replace M := hS.mo _ N_k4 M
  clear hS
  refine wl_mv (.tmp 29) (.bool o) (fun _ => rfl) rfl rfl ?_
  refine w_nil ?_
  refine xn_then ?_
  refine w_seq ?_
  refine w_reg ?_
  refine wl_mv (.tmp 2) (.int .i64 i) (fun _ => rfl) rfl rfl ?_
  refine wl_call 23 [(.tmp 31)] _ [.int .i64 i] (.tuple #[.agg #[.int .u64 y_0, .int .u64 y_1, .int .u64 y_2, .int .u64 y_3], .bool o]) rfl rfl (fun _ _ => by kernel_rfl) (h4 _) rfl ?_
  intro w11 hq
  replace Q1 := Q1.mo hq
  replace Q2 := Q2.mo hq
  replace Q3 := Q3.mo hq
  replace Q4 := Q4.mo hq
  replace M := M.trans hq
  clear hq
  refine wl_mv (.tmp 32) (.tuple #[.agg #[.int .u64 y_0, .int .u64 y_1, .int .u64 y_2, .int .u64 y_3], .bool o]) (fun _ => rfl) rfl rfl ?_
  refine wl_un (fun v => Instr.extract v 0) (.tmp 30) (.tuple #[.agg #[.int .u64 y_0, .int .u64 y_1, .int .u64 y_2, .int .u64 y_3], .bool o]) (.agg #[.int .u64 y_0, .int .u64 y_1, .int .u64 y_2, .int .u64 y_3]) (fun _ => rfl) rfl (by kernel_rfl) rfl ?_
  refine wl_un (fun v => Instr.extract v 1) (.tmp 30) (.tuple #[.agg #[.int .u64 y_0, .int .u64 y_1, .int .u64 y_2, .int .u64 y_3], .bool o]) (.bool o) (fun _ => rfl) rfl (by kernel_rfl) rfl ?_
  refine wl_alloc 24 #[.int .u64 0, .int .u64 0, .int .u64 0, .int .u64 0] rfl (fun _ => by kernel_rfl) rfl ?_
  intro k5 w12 hk hz hq Q5
  have ne_k1_k5 : k1 ≠ k5 := by have := Q1.lt; omega
  have ne_k2_k5 : k2 ≠ k5 := by have := Q2.lt; omega
  have ne_k3_k5 : k3 ≠ k5 := by have := Q3.lt; omega
  have ne_k4_k5 : k4 ≠ k5 := by have := Q4.lt; omega
  have N_k5 : w.heap.size ≤ k5 := by have := M.size; omega
  replace Q1 := Q1.mo hq
  replace Q2 := Q2.mo hq
  replace Q3 := Q3.mo hq
  replace Q4 := Q4.mo hq
  replace M := M.trans hq
  clear hk hz hq
  refine wl_st 24 (.tmp 13) (.tmp 33) k5 0 #[.int .u64 y_0, .int .u64 y_1, .int .u64 y_2, .int .u64 y_3] [.int .u64 0, .int .u64 0, .int .u64 0, .int .u64 0] [.int .u64 y_0, .int .u64 y_1, .int .u64 y_2, .int .u64 y_3] Q5 rfl rfl rfl rfl rfl sz24 rfl rfl rfl ?_
  intro w13 hS Qn
  replace Q5 := Qn
  clear Qn
  replace Q1 := hS.other _ _ ne_k1_k5 Q1
  replace Q2 := hS.other _ _ ne_k2_k5 Q2
  replace Q3 := hS.other _ _ ne_k3_k5 Q3
  replace Q4 := hS.other _ _ ne_k4_k5 Q4
  replace M := hS.mo _ N_k5 M
  clear hS
  refine wl_mv (.tmp 34) (.bool o) (fun _ => rfl) rfl rfl ?_
  refine w_nil ?_
  refine xn_then ?_
  refine w_seq ?_
  refine w_any 26 [.inl (.bool true), .inl (.bool true), .inl (nv (n)), .inl (.string st), .inl (nv (n)), .inl (.string st), .inl (.bool true), .inl (.bool true), .inl (.bool true), .inl (.agg #[.int .u64 x_0, .int .u64 x_1, .int .u64 x_2, .int .u64 x_3]), .inl (.agg #[.int .u64 x_0, .int .u64 x_1, .int .u64 x_2, .int .u64 x_3]), .inl (.bool true), .inl (.bool true), .inl (.bool true), .inl (.int .i64 e), .inl (.int .i64 e), .inl (.bool true), .inl (.bool true), .inl (.bool true), .inl (.agg #[.int .u64 y_0, .int .u64 y_1, .int .u64 y_2, .int .u64 y_3]), .inl (.agg #[.int .u64 y_0, .int .u64 y_1, .int .u64 y_2, .int .u64 y_3]), .inl (.bool true), .inl (.bool true), .inl (.bool true), .inl (.bool o), .inl (.bool o)] [] (by kernel_rfl) (by kernel_rfl) (by kernel_rfl) (by kernel_rfl) rfl (by kernel_rfl) (by kernel_rfl) late_nil ?_ ?_ ?_
  · exact Ds.none rfl
  · refine ea_cons ?_ (ea_cons ?_ (ea_cons ?_ (ea_cons ?_ (ea_cons ?_ (ea_cons ?_ (ea_cons ?_ (ea_cons ?_ (ea_cons ?_ (ea_cons ?_ (ea_cons ?_ (ea_cons ?_ (ea_cons ?_ (ea_cons ?_ (ea_cons ?_ (ea_cons ?_ (ea_cons ?_ (ea_cons ?_ (ea_cons ?_ (ea_cons ?_ (ea_cons ?_ (ea_cons ?_ (ea_cons ?_ (ea_cons ?_ (ea_cons ?_ (ea_cons ?_ (ea_nil))))))))))))))))))))))))))
    · exact og_eq (.bool true) rfl (fun f wf hq hd K hK => go_run rfl (wo_call 17 [] _ [] (.bool true) rfl rfl (fun _ _ => by kernel_rfl) (live_any _) hK))
    · exact og_eq (.bool true) rfl (fun f wf hq hd K hK => go_run rfl (wo_mv (.tmp 35) (.bool true) (fun _ => rfl) (hd 0 rfl) (hK _ (Mo.refl _))))
    · exact og_eq (nv (n)) rfl (fun f wf hq hd K hK => have Q1 := Q1.mo hq; go_run (wnt_g rfl rfl rfl (hd 1 rfl) rfl) (wo_load 24 (.tmp 3) (pt k1 0) (nv (n)) rfl rfl (run_row Q1 24 0 4 (nvli (n)) rfl Try.underlying24 rfl sz24) (hK _ (Mo.refl _))))
    · exact og_eq (.string st) rfl (fun f wf hq hd K hK => go_run (wnt_g rfl rfl rfl (hd 1 rfl) rfl) (wo_call 24 [(.tmp 37)] _ [nv (n)] (.string st) rfl (li1 (hd 2 rfl)) (fun _ _ => by kernel_rfl) (h5 _) hK))
    · exact og_eq (nv (n)) rfl (fun f wf hq hd K hK => have Q1 := Q1.mo hq; go_run (wnt_g rfl rfl rfl (hd 1 rfl) rfl) (wo_load 24 (.tmp 3) (pt k1 0) (nv (n)) rfl rfl (run_row Q1 24 0 4 (nvli (n)) rfl Try.underlying24 rfl sz24) (hK _ (Mo.refl _))))
    · exact og_eq (.string st) rfl (fun f wf hq hd K hK => go_run (wnt_g rfl rfl rfl (hd 1 rfl) rfl) (wo_call 25 [(.tmp 39)] _ [nv (n)] (.string st) rfl (li1 (hd 4 rfl)) (fun _ _ => by kernel_rfl) (h6 _) hK))
    · exact og_eq (.bool true) rfl (fun f wf hq hd K hK => go_run (wnt_g rfl rfl rfl (hd 1 rfl) rfl) (wo_bin (fun x y => do eqGuard .eql 9 (.tmp 38) (.tmp 40) x y; binOp .eql 9 x y) (.tmp 38) (.tmp 40) (.string st) (.string st) (.bool true) (fun _ => rfl) (hd 3 rfl) (hd 5 rfl) (eqss_run st _ _ _) (hK _ (Mo.refl _))))
    · exact og_eq (.bool true) rfl (fun f wf hq hd K hK => go_run rfl (wo_pick (.tmp 36) (.tmp 41) (.const (.bool false)) true (.bool true) (fun _ => rfl) (hd 1 rfl) (hd 6 rfl) (hK _ (Mo.refl _))))
    · exact og_eq (.bool true) rfl (fun f wf hq hd K hK => go_run rfl (wo_mv (.tmp 42) (.bool true) (fun _ => rfl) (hd 7 rfl) (hK _ (Mo.refl _))))
    · exact og_eq (.agg #[.int .u64 x_0, .int .u64 x_1, .int .u64 x_2, .int .u64 x_3]) rfl (fun f wf hq hd K hK => have Q2 := Q2.mo hq; go_run (wnt_g rfl rfl rfl (hd 8 rfl) rfl) (wo_load 24 (.tmp 7) (pt k2 0) (.agg #[.int .u64 x_0, .int .u64 x_1, .int .u64 x_2, .int .u64 x_3]) rfl rfl (run_row Q2 24 0 4 [.int .u64 x_0, .int .u64 x_1, .int .u64 x_2, .int .u64 x_3] rfl Try.underlying24 rfl sz24) (hK _ (Mo.refl _))))
    · exact og_eq (.agg #[.int .u64 x_0, .int .u64 x_1, .int .u64 x_2, .int .u64 x_3]) rfl (fun f wf hq hd K hK => have Q3 := Q3.mo hq; go_run (wnt_g rfl rfl rfl (hd 8 rfl) rfl) (wo_load 24 (.tmp 9) (pt k3 0) (.agg #[.int .u64 x_0, .int .u64 x_1, .int .u64 x_2, .int .u64 x_3]) rfl rfl (run_row Q3 24 0 4 [.int .u64 x_0, .int .u64 x_1, .int .u64 x_2, .int .u64 x_3] rfl Try.underlying24 rfl sz24) (hK _ (Mo.refl _))))
    · exact og_eq (.bool true) rfl (fun f wf hq hd K hK => go_run (wnt_g rfl rfl rfl (hd 8 rfl) rfl) (wo_bin (fun x y => do eqGuard .eql 24 (.tmp 44) (.tmp 45) x y; binOp .eql 24 x y) (.tmp 44) (.tmp 45) (.agg #[.int .u64 x_0, .int .u64 x_1, .int .u64 x_2, .int .u64 x_3]) (.agg #[.int .u64 x_0, .int .u64 x_1, .int .u64 x_2, .int .u64 x_3]) (.bool true) (fun _ => rfl) (hd 9 rfl) (hd 10 rfl) (eqn_run (self4 _ _ _ _) _ _ _) (hK _ (Mo.refl _))))
    · exact og_eq (.bool true) rfl (fun f wf hq hd K hK => go_run rfl (wo_pick (.tmp 43) (.tmp 46) (.const (.bool false)) true (.bool true) (fun _ => rfl) (hd 8 rfl) (hd 11 rfl) (hK _ (Mo.refl _))))
    · exact og_eq (.bool true) rfl (fun f wf hq hd K hK => go_run rfl (wo_mv (.tmp 47) (.bool true) (fun _ => rfl) (hd 12 rfl) (hK _ (Mo.refl _))))
    · exact og_eq (.int .i64 e) rfl (fun f wf hq hd K hK => go_run (wnt_g rfl rfl rfl (hd 13 rfl) rfl) (wo_mv (.tmp 8) (.int .i64 e) (fun _ => rfl) rfl (hK _ (Mo.refl _))))
    · exact og_eq (.int .i64 e) rfl (fun f wf hq hd K hK => go_run (wnt_g rfl rfl rfl (hd 13 rfl) rfl) (wo_mv (.tmp 10) (.int .i64 e) (fun _ => rfl) rfl (hK _ (Mo.refl _))))
    · exact og_eq (.bool true) rfl (fun f wf hq hd K hK => go_run (wnt_g rfl rfl rfl (hd 13 rfl) rfl) (wo_bin (fun x y => do eqGuard .eql 32 (.tmp 49) (.tmp 50) x y; binOp .eql 32 x y) (.tmp 49) (.tmp 50) (.int .i64 e) (.int .i64 e) (.bool true) (fun _ => rfl) (hd 14 rfl) (hd 15 rfl) (eql32_run (by simp) _ _ _) (hK _ (Mo.refl _))))
    · exact og_eq (.bool true) rfl (fun f wf hq hd K hK => go_run rfl (wo_pick (.tmp 48) (.tmp 51) (.const (.bool false)) true (.bool true) (fun _ => rfl) (hd 13 rfl) (hd 16 rfl) (hK _ (Mo.refl _))))
    · exact og_eq (.bool true) rfl (fun f wf hq hd K hK => go_run rfl (wo_mv (.tmp 52) (.bool true) (fun _ => rfl) (hd 17 rfl) (hK _ (Mo.refl _))))
    · exact og_eq (.agg #[.int .u64 y_0, .int .u64 y_1, .int .u64 y_2, .int .u64 y_3]) rfl (fun f wf hq hd K hK => have Q4 := Q4.mo hq; go_run (wnt_g rfl rfl rfl (hd 18 rfl) rfl) (wo_load 24 (.tmp 11) (pt k4 0) (.agg #[.int .u64 y_0, .int .u64 y_1, .int .u64 y_2, .int .u64 y_3]) rfl rfl (run_row Q4 24 0 4 [.int .u64 y_0, .int .u64 y_1, .int .u64 y_2, .int .u64 y_3] rfl Try.underlying24 rfl sz24) (hK _ (Mo.refl _))))
    · exact og_eq (.agg #[.int .u64 y_0, .int .u64 y_1, .int .u64 y_2, .int .u64 y_3]) rfl (fun f wf hq hd K hK => have Q5 := Q5.mo hq; go_run (wnt_g rfl rfl rfl (hd 18 rfl) rfl) (wo_load 24 (.tmp 13) (pt k5 0) (.agg #[.int .u64 y_0, .int .u64 y_1, .int .u64 y_2, .int .u64 y_3]) rfl rfl (run_row Q5 24 0 4 [.int .u64 y_0, .int .u64 y_1, .int .u64 y_2, .int .u64 y_3] rfl Try.underlying24 rfl sz24) (hK _ (Mo.refl _))))
    · exact og_eq (.bool true) rfl (fun f wf hq hd K hK => go_run (wnt_g rfl rfl rfl (hd 18 rfl) rfl) (wo_bin (fun x y => do eqGuard .eql 24 (.tmp 54) (.tmp 55) x y; binOp .eql 24 x y) (.tmp 54) (.tmp 55) (.agg #[.int .u64 y_0, .int .u64 y_1, .int .u64 y_2, .int .u64 y_3]) (.agg #[.int .u64 y_0, .int .u64 y_1, .int .u64 y_2, .int .u64 y_3]) (.bool true) (fun _ => rfl) (hd 19 rfl) (hd 20 rfl) (eqn_run (self4 _ _ _ _) _ _ _) (hK _ (Mo.refl _))))
    · exact og_eq (.bool true) rfl (fun f wf hq hd K hK => go_run rfl (wo_pick (.tmp 53) (.tmp 56) (.const (.bool false)) true (.bool true) (fun _ => rfl) (hd 18 rfl) (hd 21 rfl) (hK _ (Mo.refl _))))
    · exact og_eq (.bool true) rfl (fun f wf hq hd K hK => go_run rfl (wo_mv (.tmp 57) (.bool true) (fun _ => rfl) (hd 22 rfl) (hK _ (Mo.refl _))))
    · exact og_eq (.bool o) rfl (fun f wf hq hd K hK => go_run (wnt_g rfl rfl rfl (hd 23 rfl) rfl) (wo_mv (.tmp 12) (.bool o) (fun _ => rfl) rfl (hK _ (Mo.refl _))))
    · exact og_eq (.bool o) rfl (fun f wf hq hd K hK => go_run (wnt_g rfl rfl rfl (hd 23 rfl) rfl) (wo_mv (.tmp 14) (.bool o) (fun _ => rfl) rfl (hK _ (Mo.refl _))))
  intro kf14 w14 hq hR hne
  replace Q1 := Q1.mo hq
  replace Q2 := Q2.mo hq
  replace Q3 := Q3.mo hq
  replace Q4 := Q4.mo hq
  replace Q5 := Q5.mo hq
  replace M := M.trans hq
  clear hq hR hne
  refine wl_bin (fun x y => do eqGuard .eql 4 (.tmp 59) (.tmp 60) x y; binOp .eql 4 x y) (.tmp 59) (.tmp 60) (.bool o) (.bool o) (.bool true) (fun _ => rfl) rfl rfl (eqb_run (by simp) _ _ _) rfl ?_
  refine wl_pick (.tmp 58) (.tmp 61) (.const (.bool false)) true (.bool true) (fun _ => rfl) rfl rfl rfl ?_
  refine wl_mv (.tmp 62) (.bool true) (fun _ => rfl) rfl rfl ?_
  refine w_nil ?_
  refine xn_then ?_
  refine w_ret ?_
  exact w_ret1 _ (.bool true) rfl rfl ⟨rfl, M⟩
theorem texts_n (n : Int) (s : ByteArray) (i : Int) (w : World) (h0 : 0 ≤ n) (h : n < MM) (hs : s.size ≤ maxLen) :
    Calls Try.prog 5 #[nv n, .string s, .int .i64 i] w fun e w' => e = .returned (.bool true) ∧ Mo w w' := by
  have dI : Decidable (isT s) := Classical.propDecidable _
  have p1 := fun w => parse_n s w hs
  have p2 := fun w => rparse_n s w hs
  obtain ⟨x0, x1, x2, x3, e, hX⟩ : ∃ x0 x1 x2 x3 e : Int, (if isT s then resP s else ez 10) = .tuple #[.agg #[.int .u64 x0, .int .u64 x1, .int .u64 x2, .int .u64 x3], .int .i64 e] := by
    split
    · unfold resP; split
      · exact ⟨_, _, _, _, _, rfl⟩
      · exact ⟨_, _, _, _, _, rfl⟩
    · exact ⟨_, _, _, _, _, rfl⟩
  rw [hX] at p1 p2
  obtain ⟨Y, o, t1, t2⟩ : ∃ (Y : Int) (o : Bool), (∀ w, Calls Try.prog 22 #[.int .i64 i] w fun e w' => e = .returned (.tuple #[nv Y, .bool o]) ∧ Mo w w') ∧ (∀ w, Calls Try.prog 23 #[.int .i64 i] w fun e w' => e = .returned (.tuple #[nv Y, .bool o]) ∧ Mo w w') := by
    by_cases hi : i < 0 ∨ 77 < i
    · exact ⟨0, false, fun w => ten_no i w hi, fun w => rten_no i w hi⟩
    · obtain ⟨k, rfl⟩ : ∃ k : Nat, i = (k : Int) := ⟨i.toNat, by omega⟩
      exact ⟨10 ^ k, true, fun w => ten_yes k w (by omega), fun w => rten_yes k w (by omega)⟩
  exact texts_same n s _ i e o _ _ _ _ _ _ _ _ w p1 p2 t1 t2 (fun w => text_n n w h0 h) (fun w => rtext_n n w h0 h)
end Go.Proofs.Ytoiiekmkcpcbgaa
namespace Go.Proofs.Ytoiiekmkcpcbgaa
open Go.ChangeShapes Go.WideShapes Go.ChangeAt Go.RowKit Go.ChangeMaps

set_option maxHeartbeats 1000000 in
set_option maxRecDepth 100000 in
theorem limbTexts_lifted (os : Os) (started : os.Started) (H : Type) (enc : TypeId × Value → H) :
    ReturnsInHanded {} Try.checked os 5 .any (Rows.limbTextsSpec.pre6 enc Try.prog Try.f5 Rows.limbTextsRow.domain false) (Rows.limbTextsSpec.post enc Try.prog Try.f5 false true false false) := by
  refine returnsInHanded_of_change (C := Try.checked) Try.own started (by kernel_rfl) Try.func5
    (ChangeSpec.witness6 (enc := enc) (C := Try.checked) false ⟨#[], #[.agg #[.int .u64 0, .int .u64 0, .int .u64 0, .int .u64 0], .string ⟨#[]⟩, .int .i64 0], []⟩ 5 (by kernel_rfl) (by kernel_rfl) (by kernel_rfl) (by kernel_rfl)) ?_
  intro W base args ds gs before hval0 hW hcnd _
  have hval : ∀ (j : Nat) t v, Try.f5.params[j]? = some t → args[j]? = some v → Value.okWide Try.prog W .any base t v := hval0
  have hW' := hW
  obtain ⟨p, q, hA0, hV, rfl, hfz, hnd⟩ := hW
  have hA : DataW.TrodAll enc Try.prog W 0 (fun _ => true) true Try.f5.params.toList args.toList ds p := hA0
  rw [Try.params5] at hA hval
  obtain ⟨v0, v1, v2, d0, d1, d2, p0, p1, p2, rfl, rfl, rfl, h0, h1, h2⟩ := trodAll_three hA
  obtain ⟨rfl, rfl⟩ := trodVars_none hV
  obtain ⟨a0, a1, a2, a3, rfl, rfl, rfl, ua, ra⟩ := open_nat (hval 0 24 v0 rfl rfl) h0
  obtain ⟨bt, rfl, rfl, rfl, sb⟩ := open_string Try.underlying9 (hval 1 9 v1 rfl rfl) h1
  have rb : ∀ (W' : World) (sp : Nat → Bool), DataW.Trod enc Try.prog W' 0 sp true 9 (.string bt) (.lit (.string bt.data.toList)) [] := fun _ _ => shut_string Try.underlying9 sb
  obtain ⟨cx, rfl, rfl, sc, rc⟩ := open_i64 Try.underlying3 (hval 2 3 v2 rfl rfl) h2
  clear hA0 hval0
  simp only [List.append_nil] at hW'
  rw [← nv_vl ua] at *
  refine (texts_n (vl a0 a1 a2 a3) bt cx W (vl_bd ua).1 (vl_bd ua).2 sb).mono fun e W' ⟨he, hg⟩ => ?_
  subst he
  exact ⟨_, rfl, post_of_same (pa := []) (pv := []) hW' (fun _ _ _ => trodAll_mk1 (shut_bool Try.underlying4 _)) (fun sp _ => trodAll_mk3 (ra _ sp) (rb _ sp) (rc _ sp)) (fun _ _ => rfl) rfl
    (hg.1.frame _) hg.2 (ok_one (by kernel_rfl) rfl (okWide_bool_mk Try.underlying4 _))⟩

theorem limbTexts_holds : Rows.LimbTextsSaid :=
  OpenClaim.holds_of_wide 5 Try.f5 rfl rfl rfl rfl rfl rfl rfl ⟨rfl, rfl, rfl, rfl, rfl⟩ rfl rfl rfl rfl rfl (by kernel_rfl) Try.func5 (by kernel_rfl)
    (of_decide_eq_true (by kernel_rfl)) (by unfold Func.isWrapper; rw [if_neg (of_decide_eq_false (by kernel_rfl))]; exact ⟨rfl, rfl⟩)
    (fun os started H enc _ => limbTexts_lifted os started H enc)
#print axioms limbTexts_holds
end Go.Proofs.Ytoiiekmkcpcbgaa
