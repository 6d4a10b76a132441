/-
  A part of the proof.
-/
import Derived.Test.YthfemlhmnjfjiaaC7
import Derived.Laws.Append
import Derived.Deep.DeepAppendWide
/-
  slices.Clone: rows in a new block.
-/
namespace Go.Proofs.Ythfemlhmnjfjiaa
open Go.RowKit
namespace G
theorem flat_at {m : Nat} : ∀ {L : List (List Value)}, (∀ x ∈ L, x.length = m) → ∀ {k j : Nat} {cs : List Value}, L[k]? = some cs → j < m → L.flatten[k * m + j]? = cs[j]?
  | [], _, k, j, cs, h, _ => by cases h
  | x :: L, hL, 0, j, cs, h, hj => by
    cases h
    rw [List.flatten_cons, List.getElem?_append_left (by have := hL x (by simp); omega)]
    congr 1; omega
  | x :: L, hL, k + 1, j, cs, h, hj => by
    have hx := hL x (by simp)
    rw [List.flatten_cons, List.getElem?_append_right (by rw [hx, Nat.succ_mul]; omega), hx, show (k + 1) * m + j - m = k * m + j by rw [Nat.succ_mul]; omega]
    exact flat_at (fun y hy => hL y (by simp [hy])) h hj
theorem flat_len {m : Nat} : ∀ {L : List (List Value)}, (∀ x ∈ L, x.length = m) → L.flatten.length = L.length * m
  | [], _ => by simp
  | x :: L, hL => by
    rw [List.flatten_cons, List.length_append, hL x (by simp), flat_len (fun y hy => hL y (by simp [hy])), List.length_cons, Nat.succ_mul]; omega
/-- Rows appended to a slice of none: in a new block. -/
theorem app_cl (t e : TypeId) (i : TypeInfo) (z : Value) (m B : Nat) (ht : Try.prog.underlying t = some (.slice e)) (hi : Try.prog.info? e = some i) (hz : i.zero = some z) (hs : i.size = m) (hby : i.bytes = B) (hm : 0 < m) (ty : TypeId) (w : World) (g b off c : Nat) (L : List (List Value)) (hL : ∀ x ∈ L, x.length = m) (hne : L ≠ [])
    (hr : ∀ k cs, L[k]? = some cs → w.rangeAt b (off + k * m) cs) (hB : (L.length + L.length / 4 + 192) * B ≤ 281474976710656) (h63 : L.length ≤ 1000000000000) :
    ∃ cap w', (Builtin.append_ #[t, t] ty #[.slice (some ⟨g, 0, none⟩) 0 0, .slice (some ⟨b, off, none⟩) L.length c]).run Try.prog w = .ok (.slice (some ⟨w.heap.size, 0, none⟩) L.length cap) w' ∧ Rw w' m (.slice (some ⟨w.heap.size, 0, none⟩) L.length cap) L ∧ Mo w w' := by
  have hfl := flat_len hL
  have hn0 : 0 < L.length := List.length_pos_iff.2 hne
  have hnews : ∀ j u, L.flatten[j]? = some u → w.cell? ((⟨b, off, none⟩ : Addr).add j) = some u := fun j u hu => by
    have hj : j < L.length * m := by rw [← hfl]; exact (List.getElem?_eq_some_iff.1 hu).1
    have hq : j / m < L.length := Nat.div_lt_of_lt_mul (by rw [Nat.mul_comm]; exact hj)
    have hjm := Nat.mod_lt j hm
    have hdm : j / m * m + j % m = j := by rw [Nat.mul_comm]; exact Nat.div_add_mod j m
    have h2 := flat_at hL (List.getElem?_eq_getElem hq) hjm
    rw [hdm, hu] at h2
    have h3 := hr (j / m) _ (List.getElem?_eq_getElem hq) (j % m) u h2.symm
    rw [Addr.add_mid, ← show off + j / m * m + j % m = off + j by omega]
    exact h3
  have hrun := run_append_grow (P := Try.prog) w t ty e i z ht hi hz ⟨g, 0, none⟩ 0 0 [] (by simp) (fun j u hu => by cases hu) ⟨b, off, none⟩ L.length c L.flatten (by rw [hs]; exact hfl) hnews (by omega) (by omega) (by rw [hby, Nat.zero_add]; exact growslice_fits_wide hn0 hB)
  simp only [Nat.zero_add] at hrun
  refine ⟨_, _, hrun, ⟨_, _, rfl, fun _ => ⟨w.heap.size, 0, rfl, ?_, ?_, fun k cs hk j v hv => ?_⟩⟩, (Mo.refl _).drew.alloc _ _⟩
  · exact (At.new w.drew _ e).2.2
  · exact (At.new w.drew _ e).2.1
  · have hj : j < m := by rw [← hL cs (List.mem_of_getElem? hk)]; exact (List.getElem?_eq_some_iff.1 hv).1
    have h2 := flat_at hL hk hj
    rw [hv] at h2
    have hlt := (List.getElem?_eq_some_iff.1 h2).1
    rw [show 0 + k * m + j = 0 + (k * m + j) by omega]
    refine (At.new w.drew _ e).1 (k * m + j) v ?_
    rw [Array.toList_append, List.getElem?_append_left (by simpa using hlt)]
    simpa using h2
end G
end Go.Proofs.Ythfemlhmnjfjiaa
/-
  slices.Clone of values, whole numbers and summaries.
-/
namespace Go.Proofs.Ythfemlhmnjfjiaa
open Go.RowKit
namespace G
section
variable {o : Oper} {n : Nat} {l : List (Nat × Value)} {w : World} {ops : Array Oper} {rest : List Oper} {Q : Exit → Act → World → Prop}
theorem wl_bs0 {t e : TypeId} (hb : ∀ w, (Instr.buildSlice t 0 #[]).run Try.prog w = .ok (.slice (some ⟨w.heap.size, 0, none⟩) 0 0) (w.alloc (.cells #[] e))) (ho : o.op = .buildSlice t 0 #[]) (hg : wnt n l ops o = true)
    (hk : ∀ k w', w.heap.size = k → Mo w w' → WL Try.prog ops Q rest n (ext l o.dst (.slice (some ⟨k, 0, none⟩) 0 0)) w') : WL Try.prog ops Q (o :: rest) n l w :=
  ⟨l_step hg (o_val (.slice (some ⟨w.heap.size, 0, none⟩) 0 0) (w' := w.alloc (.cells #[] e)) (by simp [execOp, ho, hb]) (hk _ _ rfl ((Mo.refl _).alloc _ _)).out)⟩
theorem wl_ap {t : TypeId} (s x : Operand) (v v2 v' : Value) {w' : World} (ho : o.op = .call { callee := .builtin .append, args := #[s, x], argTypes := #[t, t] }) (hs : evl n l s = v) (hx : evl n l x = v2) (hr : (Builtin.append_ #[t, t] o.type #[v, v2]).run Try.prog w = .ok v' w') (hg : wnt n l ops o = true)
    (hk : WL Try.prog ops Q rest n (ext l o.dst v') w') : WL Try.prog ops Q (o :: rest) n l w := by
  refine ⟨l_step hg (o_val v' (w' := w') ?_ hk.out)⟩
  unfold execOp
  simp only [ho, resolve, invoke, builtin, Sem.run_bind, Sem.run_pure, Result.andThen_ok, List.map_toArray, List.map_cons, List.map_nil, hs, hx, hr]
end
theorem Rw.nil {w : World} {m : Nat} (p : Option Addr) (c : Nat) : Rw w m (.slice p 0 c) [] := ⟨p, c, rfl, fun h => absurd rfl h⟩
section
variable {w : World}
theorem bz29 (w : World) : (Instr.buildSlice 29 0 #[]).run Try.prog w = .ok (.slice (some ⟨w.heap.size, 0, none⟩) 0 0) (w.alloc (.cells #[] 55)) := by kernel_rfl
theorem es29 (a : Addr) (n c : Nat) (x y : Operand) (w : World) : (do eqGuard .eql 29 x y (.slice (some a) n c) (.slice none 0 0); binOp .eql 29 (.slice (some a) n c) (.slice none 0 0)).run Try.prog w = .ok (.bool false) w := by kernel_rfl
theorem en29 (n c : Nat) (x y : Operand) (w : World) : (do eqGuard .eql 29 x y (.slice none n c) (.slice none 0 0); binOp .eql 29 (.slice none n c) (.slice none 0 0)).run Try.prog w = .ok (.bool true) w := by kernel_rfl
theorem az29 (g : Nat) (a : Addr) (c : Nat) (ty : TypeId) (w : World) : (Builtin.append_ #[29, 29] ty #[.slice (some ⟨g, 0, none⟩) 0 0, .slice (some a) 0 c]).run Try.prog w = .ok (.slice (some ⟨g, 0, none⟩) 0 0) w := by kernel_rfl
theorem ib55 : ∃ i z, Try.prog.info? 55 = some i ∧ i.zero = some z ∧ i.size = 10 ∧ i.bytes = 88 := by
  have h : (Try.prog.info? 55).map (fun i => (i.zero.isSome, i.size, i.bytes)) = some (true, 10, 88) := by kernel_rfl
  cases hi : Try.prog.info? 55 with
  | none => rw [hi] at h; cases h
  | some i =>
    rw [hi] at h
    simp only [Option.map_some, Option.some.injEq, Prod.mk.injEq] at h
    obtain ⟨z, hz⟩ := Option.isSome_iff_exists.1 h.1
    exact ⟨i, z, rfl, hz, h.2.1, h.2.2⟩
theorem clv_0 (c : Nat) : Calls Try.prog 22 #[.slice none 0 c] w fun e w' => ∃ p' c', e = .returned (.slice p' 0 c') ∧ Rw w' 10 (.slice p' 0 c') [] ∧ (∀ b, ob (.slice p' 0 c') = some b → w.heap.size ≤ b) ∧ Mo w w' := by
  refine w_enter 8 Try.func22 Try.ntmps22 rfl rfl ?_
  have M : Mo w w := Mo.refl _
  refine w_seq ?_
  refine w_reg ?_
  refine wl_mv (.const (.slice none 0 0)) (.slice none 0 0) (fun _ => rfl) rfl rfl ?_
  refine w_nil ?_
  refine xn_then ?_
  refine w_seq ?_
  refine w_seq ?_
  refine w_reg ?_
  refine wl_mv (.tmp 0) (.slice none 0 c) (fun _ => rfl) rfl rfl ?_
  refine wl_bin (fun x y => do eqGuard .eql 29 (.tmp 3) (.const (.slice none 0 0)) x y; binOp .eql 29 x y) (.tmp 3) (.const (.slice none 0 0)) (.slice none 0 c) (.slice none 0 0) (.bool true) (fun _ => rfl) rfl rfl (en29 _ _ _ _ _) rfl ?_
  refine w_nil ?_
  refine xn_then ?_
  refine w_condT rfl ?_
  refine w_seq ?_
  refine w_reg ?_
  refine wl_mv (.const (.slice none 0 0)) (.slice none 0 0) (fun _ => rfl) rfl rfl ?_
  refine w_nil ?_
  refine xn_then ?_
  refine w_ret ?_
  refine xr_then ?_
  exact w_ret1 _ (.slice none 0 0) rfl rfl ⟨none, 0, rfl, Rw.nil _ _, (fun _ h => by cases h), M⟩
theorem clv_1 (a : Addr) (c : Nat) : Calls Try.prog 22 #[.slice (some a) 0 c] w fun e w' => ∃ p' c', e = .returned (.slice p' 0 c') ∧ Rw w' 10 (.slice p' 0 c') [] ∧ (∀ b, ob (.slice p' 0 c') = some b → w.heap.size ≤ b) ∧ Mo w w' := by
  refine w_enter 8 Try.func22 Try.ntmps22 rfl rfl ?_
  have M : Mo w w := Mo.refl _
  refine w_seq ?_
  refine w_reg ?_
  refine wl_mv (.const (.slice none 0 0)) (.slice none 0 0) (fun _ => rfl) rfl rfl ?_
  refine w_nil ?_
  refine xn_then ?_
  refine w_seq ?_
  refine w_seq ?_
  refine w_reg ?_
  refine wl_mv (.tmp 0) (.slice (some a) 0 c) (fun _ => rfl) rfl rfl ?_
  refine wl_bin (fun x y => do eqGuard .eql 29 (.tmp 3) (.const (.slice none 0 0)) x y; binOp .eql 29 x y) (.tmp 3) (.const (.slice none 0 0)) (.slice (some a) 0 c) (.slice none 0 0) (.bool false) (fun _ => rfl) rfl rfl (es29 _ _ _ _ _ _) rfl ?_
  refine w_nil ?_
  refine xn_then ?_
  refine w_condF rfl ?_
  refine w_skip ?_
  refine xn_then ?_
  refine w_seq ?_
  refine w_reg ?_
  refine wl_bs0 bz29 rfl rfl ?_
  intro g w1 hg hq
  replace M := M.trans hq
  have hgs : w.heap.size ≤ g := by omega
  clear hq
  refine wl_mv (.tmp 0) (.slice (some a) 0 c) (fun _ => rfl) rfl rfl ?_
  refine wl_ap (.tmp 5) (.tmp 6) (.slice (some ⟨g, 0, none⟩) 0 0) (.slice (some a) 0 c) (.slice (some ⟨g, 0, none⟩) 0 0) rfl rfl rfl (az29 g a c _ _) rfl ?_
  refine wl_mv (.tmp 7) (.slice (some ⟨g, 0, none⟩) 0 0) (fun _ => rfl) rfl rfl ?_
  refine w_nil ?_
  refine xn_then ?_
  refine w_ret ?_
  exact w_ret1 _ (.slice (some ⟨g, 0, none⟩) 0 0) rfl rfl ⟨some ⟨g, 0, none⟩, 0, rfl, Rw.nil _ _, (fun _ h => by cases h), M⟩
theorem clv_2 (b off c : Nat) (L : List (List Value)) (hL : ∀ x ∈ L, x.length = 10) (hne : L ≠ []) (hbl : b < w.heap.size) (hr : ∀ k cs, L[k]? = some cs → w.rangeAt b (off + k * 10) cs) (hn : L.length ≤ 1000000) : Calls Try.prog 22 #[.slice (some ⟨b, off, none⟩) L.length c] w fun e w' => ∃ p' c', e = .returned (.slice p' L.length c') ∧ Rw w' 10 (.slice p' L.length c') L ∧ (∀ b, ob (.slice p' L.length c') = some b → w.heap.size ≤ b) ∧ Mo w w' := by
  obtain ⟨i, z, hi, hz, hs, hby⟩ := ib55
  refine w_enter 8 Try.func22 Try.ntmps22 rfl rfl ?_
  have M : Mo w w := Mo.refl _
  refine w_seq ?_
  refine w_reg ?_
  refine wl_mv (.const (.slice none 0 0)) (.slice none 0 0) (fun _ => rfl) rfl rfl ?_
  refine w_nil ?_
  refine xn_then ?_
  refine w_seq ?_
  refine w_seq ?_
  refine w_reg ?_
  refine wl_mv (.tmp 0) (.slice (some ⟨b, off, none⟩) L.length c) (fun _ => rfl) rfl rfl ?_
  refine wl_bin (fun x y => do eqGuard .eql 29 (.tmp 3) (.const (.slice none 0 0)) x y; binOp .eql 29 x y) (.tmp 3) (.const (.slice none 0 0)) (.slice (some ⟨b, off, none⟩) L.length c) (.slice none 0 0) (.bool false) (fun _ => rfl) rfl rfl (es29 _ _ _ _ _ _) rfl ?_
  refine w_nil ?_
  refine xn_then ?_
  refine w_condF rfl ?_
  refine w_skip ?_
  refine xn_then ?_
  refine w_seq ?_
  refine w_reg ?_
  refine wl_bs0 bz29 rfl rfl ?_
  intro g w1 hg hq
  replace M := M.trans hq
  replace hr : ∀ k cs, L[k]? = some cs → _ := fun k cs h => (fun j v hv => (hq.cell b _ hbl).trans (hr k cs h j v hv) : World.rangeAt w1 b (off + k * 10) cs)
  have hgs : w.heap.size ≤ g := by omega
  clear hq
  refine wl_mv (.tmp 0) (.slice (some ⟨b, off, none⟩) L.length c) (fun _ => rfl) rfl rfl ?_
  obtain ⟨cap, w9, hrun, hRw, hq⟩ := app_cl 29 55 i z 10 88 Try.underlying29 hi hz hs hby (by decide) 29 w1 g b off c L hL hne hr (by omega) (by omega)
  refine wl_ap (.tmp 5) (.tmp 6) (.slice (some ⟨g, 0, none⟩) 0 0) (.slice (some ⟨b, off, none⟩) L.length c) _ rfl rfl rfl hrun rfl ?_
  have hMs := M.size
  replace M := M.trans hq
  refine wl_mv (.tmp 7) (.slice (some ⟨w1.heap.size, 0, none⟩) L.length cap) (fun _ => rfl) rfl rfl ?_
  refine w_nil ?_
  refine xn_then ?_
  refine w_ret ?_
  exact w_ret1 _ (.slice (some ⟨w1.heap.size, 0, none⟩) L.length cap) rfl rfl ⟨_, cap, rfl, hRw, (fun b9 h9 => by obtain ⟨a9, q9, c9, e1, e2⟩ := ob_some h9; rw [Value.slice.injEq] at e1; have e3 := e1.1; cases e3; subst e2; exact hMs), M⟩
/-- A clone lies in a block of its own. -/
theorem clv_n {p : Option Addr} {c : Nat} {L : List (List Value)} (hL : ∀ x ∈ L, x.length = 10) (hr : ∀ k cs, L[k]? = some cs → ∃ b off, p = some ⟨b, off, none⟩ ∧ b < w.heap.size ∧ w.rangeAt b (off + k * 10) cs) (hn : L.length ≤ 1000000) : Calls Try.prog 22 #[.slice p L.length c] w fun e w' => ∃ p' c', e = .returned (.slice p' L.length c') ∧ Rw w' 10 (.slice p' L.length c') L ∧ (∀ b, ob (.slice p' L.length c') = some b → w.heap.size ≤ b) ∧ Mo w w' := by
  cases L with
  | nil =>
    cases p with
    | none => exact clv_0 c
    | some a => exact clv_1 a c
  | cons x L =>
    obtain ⟨b, off, rfl, hbl, _⟩ := hr 0 x rfl
    exact clv_2 b off c (x :: L) hL (by simp) hbl (fun k cs h => by obtain ⟨b2, off2, e, _, h2⟩ := hr k cs h; cases e; exact h2) hn
theorem bz22 (w : World) : (Instr.buildSlice 22 0 #[]).run Try.prog w = .ok (.slice (some ⟨w.heap.size, 0, none⟩) 0 0) (w.alloc (.cells #[] 3)) := by kernel_rfl
theorem es22 (a : Addr) (n c : Nat) (x y : Operand) (w : World) : (do eqGuard .eql 22 x y (.slice (some a) n c) (.slice none 0 0); binOp .eql 22 (.slice (some a) n c) (.slice none 0 0)).run Try.prog w = .ok (.bool false) w := by kernel_rfl
theorem en22 (n c : Nat) (x y : Operand) (w : World) : (do eqGuard .eql 22 x y (.slice none n c) (.slice none 0 0); binOp .eql 22 (.slice none n c) (.slice none 0 0)).run Try.prog w = .ok (.bool true) w := by kernel_rfl
theorem az22 (g : Nat) (a : Addr) (c : Nat) (ty : TypeId) (w : World) : (Builtin.append_ #[22, 22] ty #[.slice (some ⟨g, 0, none⟩) 0 0, .slice (some a) 0 c]).run Try.prog w = .ok (.slice (some ⟨g, 0, none⟩) 0 0) w := by kernel_rfl
theorem ib3 : ∃ i z, Try.prog.info? 3 = some i ∧ i.zero = some z ∧ i.size = 1 ∧ i.bytes = 8 := by
  have h : (Try.prog.info? 3).map (fun i => (i.zero.isSome, i.size, i.bytes)) = some (true, 1, 8) := by kernel_rfl
  cases hi : Try.prog.info? 3 with
  | none => rw [hi] at h; cases h
  | some i =>
    rw [hi] at h
    simp only [Option.map_some, Option.some.injEq, Prod.mk.injEq] at h
    obtain ⟨z, hz⟩ := Option.isSome_iff_exists.1 h.1
    exact ⟨i, z, rfl, hz, h.2.1, h.2.2⟩
theorem cli_0 (c : Nat) : Calls Try.prog 29 #[.slice none 0 c] w fun e w' => ∃ p' c', e = .returned (.slice p' 0 c') ∧ Rw w' 1 (.slice p' 0 c') [] ∧ (∀ b, ob (.slice p' 0 c') = some b → w.heap.size ≤ b) ∧ Mo w w' := by
  refine w_enter 8 Try.func29 Try.ntmps29 rfl rfl ?_
  have M : Mo w w := Mo.refl _
  refine w_seq ?_
  refine w_reg ?_
  refine wl_mv (.const (.slice none 0 0)) (.slice none 0 0) (fun _ => rfl) rfl rfl ?_
  refine w_nil ?_
  refine xn_then ?_
  refine w_seq ?_
  refine w_seq ?_
  refine w_reg ?_
  refine wl_mv (.tmp 0) (.slice none 0 c) (fun _ => rfl) rfl rfl ?_
  refine wl_bin (fun x y => do eqGuard .eql 22 (.tmp 3) (.const (.slice none 0 0)) x y; binOp .eql 22 x y) (.tmp 3) (.const (.slice none 0 0)) (.slice none 0 c) (.slice none 0 0) (.bool true) (fun _ => rfl) rfl rfl (en22 _ _ _ _ _) rfl ?_
  refine w_nil ?_
  refine xn_then ?_
  refine w_condT rfl ?_
  refine w_seq ?_
  refine w_reg ?_
  refine wl_mv (.const (.slice none 0 0)) (.slice none 0 0) (fun _ => rfl) rfl rfl ?_
  refine w_nil ?_
  refine xn_then ?_
  refine w_ret ?_
  refine xr_then ?_
  exact w_ret1 _ (.slice none 0 0) rfl rfl ⟨none, 0, rfl, Rw.nil _ _, (fun _ h => by cases h), M⟩
theorem cli_1 (a : Addr) (c : Nat) : Calls Try.prog 29 #[.slice (some a) 0 c] w fun e w' => ∃ p' c', e = .returned (.slice p' 0 c') ∧ Rw w' 1 (.slice p' 0 c') [] ∧ (∀ b, ob (.slice p' 0 c') = some b → w.heap.size ≤ b) ∧ Mo w w' := by
  refine w_enter 8 Try.func29 Try.ntmps29 rfl rfl ?_
  have M : Mo w w := Mo.refl _
  refine w_seq ?_
  refine w_reg ?_
  refine wl_mv (.const (.slice none 0 0)) (.slice none 0 0) (fun _ => rfl) rfl rfl ?_
  refine w_nil ?_
  refine xn_then ?_
  refine w_seq ?_
  refine w_seq ?_
  refine w_reg ?_
  refine wl_mv (.tmp 0) (.slice (some a) 0 c) (fun _ => rfl) rfl rfl ?_
  refine wl_bin (fun x y => do eqGuard .eql 22 (.tmp 3) (.const (.slice none 0 0)) x y; binOp .eql 22 x y) (.tmp 3) (.const (.slice none 0 0)) (.slice (some a) 0 c) (.slice none 0 0) (.bool false) (fun _ => rfl) rfl rfl (es22 _ _ _ _ _ _) rfl ?_
  refine w_nil ?_
  refine xn_then ?_
  refine w_condF rfl ?_
  refine w_skip ?_
  refine xn_then ?_
  refine w_seq ?_
  refine w_reg ?_
  refine wl_bs0 bz22 rfl rfl ?_
  intro g w1 hg hq
  replace M := M.trans hq
  have hgs : w.heap.size ≤ g := by omega
  clear hq
  refine wl_mv (.tmp 0) (.slice (some a) 0 c) (fun _ => rfl) rfl rfl ?_
  refine wl_ap (.tmp 5) (.tmp 6) (.slice (some ⟨g, 0, none⟩) 0 0) (.slice (some a) 0 c) (.slice (some ⟨g, 0, none⟩) 0 0) rfl rfl rfl (az22 g a c _ _) rfl ?_
  refine wl_mv (.tmp 7) (.slice (some ⟨g, 0, none⟩) 0 0) (fun _ => rfl) rfl rfl ?_
  refine w_nil ?_
  refine xn_then ?_
  refine w_ret ?_
  exact w_ret1 _ (.slice (some ⟨g, 0, none⟩) 0 0) rfl rfl ⟨some ⟨g, 0, none⟩, 0, rfl, Rw.nil _ _, (fun _ h => by cases h), M⟩
theorem cli_2 (b off c : Nat) (L : List (List Value)) (hL : ∀ x ∈ L, x.length = 1) (hne : L ≠ []) (hbl : b < w.heap.size) (hr : ∀ k cs, L[k]? = some cs → w.rangeAt b (off + k * 1) cs) (hn : L.length ≤ 1000000) : Calls Try.prog 29 #[.slice (some ⟨b, off, none⟩) L.length c] w fun e w' => ∃ p' c', e = .returned (.slice p' L.length c') ∧ Rw w' 1 (.slice p' L.length c') L ∧ (∀ b, ob (.slice p' L.length c') = some b → w.heap.size ≤ b) ∧ Mo w w' := by
  obtain ⟨i, z, hi, hz, hs, hby⟩ := ib3
  refine w_enter 8 Try.func29 Try.ntmps29 rfl rfl ?_
  have M : Mo w w := Mo.refl _
  refine w_seq ?_
  refine w_reg ?_
  refine wl_mv (.const (.slice none 0 0)) (.slice none 0 0) (fun _ => rfl) rfl rfl ?_
  refine w_nil ?_
  refine xn_then ?_
  refine w_seq ?_
  refine w_seq ?_
  refine w_reg ?_
  refine wl_mv (.tmp 0) (.slice (some ⟨b, off, none⟩) L.length c) (fun _ => rfl) rfl rfl ?_
  refine wl_bin (fun x y => do eqGuard .eql 22 (.tmp 3) (.const (.slice none 0 0)) x y; binOp .eql 22 x y) (.tmp 3) (.const (.slice none 0 0)) (.slice (some ⟨b, off, none⟩) L.length c) (.slice none 0 0) (.bool false) (fun _ => rfl) rfl rfl (es22 _ _ _ _ _ _) rfl ?_
  refine w_nil ?_
  refine xn_then ?_
  refine w_condF rfl ?_
  refine w_skip ?_
  refine xn_then ?_
  refine w_seq ?_
  refine w_reg ?_
  refine wl_bs0 bz22 rfl rfl ?_
  intro g w1 hg hq
  replace M := M.trans hq
  replace hr : ∀ k cs, L[k]? = some cs → _ := fun k cs h => (fun j v hv => (hq.cell b _ hbl).trans (hr k cs h j v hv) : World.rangeAt w1 b (off + k * 1) cs)
  have hgs : w.heap.size ≤ g := by omega
  clear hq
  refine wl_mv (.tmp 0) (.slice (some ⟨b, off, none⟩) L.length c) (fun _ => rfl) rfl rfl ?_
  obtain ⟨cap, w9, hrun, hRw, hq⟩ := app_cl 22 3 i z 1 8 Try.underlying22 hi hz hs hby (by decide) 22 w1 g b off c L hL hne hr (by omega) (by omega)
  refine wl_ap (.tmp 5) (.tmp 6) (.slice (some ⟨g, 0, none⟩) 0 0) (.slice (some ⟨b, off, none⟩) L.length c) _ rfl rfl rfl hrun rfl ?_
  have hMs := M.size
  replace M := M.trans hq
  refine wl_mv (.tmp 7) (.slice (some ⟨w1.heap.size, 0, none⟩) L.length cap) (fun _ => rfl) rfl rfl ?_
  refine w_nil ?_
  refine xn_then ?_
  refine w_ret ?_
  exact w_ret1 _ (.slice (some ⟨w1.heap.size, 0, none⟩) L.length cap) rfl rfl ⟨_, cap, rfl, hRw, (fun b9 h9 => by obtain ⟨a9, q9, c9, e1, e2⟩ := ob_some h9; rw [Value.slice.injEq] at e1; have e3 := e1.1; cases e3; subst e2; exact hMs), M⟩
/-- A clone lies in a block of its own. -/
theorem cli_n {p : Option Addr} {c : Nat} {L : List (List Value)} (hL : ∀ x ∈ L, x.length = 1) (hr : ∀ k cs, L[k]? = some cs → ∃ b off, p = some ⟨b, off, none⟩ ∧ b < w.heap.size ∧ w.rangeAt b (off + k * 1) cs) (hn : L.length ≤ 1000000) : Calls Try.prog 29 #[.slice p L.length c] w fun e w' => ∃ p' c', e = .returned (.slice p' L.length c') ∧ Rw w' 1 (.slice p' L.length c') L ∧ (∀ b, ob (.slice p' L.length c') = some b → w.heap.size ≤ b) ∧ Mo w w' := by
  cases L with
  | nil =>
    cases p with
    | none => exact cli_0 c
    | some a => exact cli_1 a c
  | cons x L =>
    obtain ⟨b, off, rfl, hbl, _⟩ := hr 0 x rfl
    exact cli_2 b off c (x :: L) hL (by simp) hbl (fun k cs h => by obtain ⟨b2, off2, e, _, h2⟩ := hr k cs h; cases e; exact h2) hn
end
end G
end Go.Proofs.Ythfemlhmnjfjiaa
/-
  The tree's New; the document's Bits.
-/
namespace Go.Proofs.Ythfemlhmnjfjiaa
open Go.RowKit
namespace G
theorem Mo.allocm (w : World) : Mo w (w.alloc (.map #[] 0)) := ⟨(Below.refl _ _).alloc (Nat.le_refl _) _, fun a => frozen?_alloc_map w #[] 0 a⟩
section
variable {o : Oper} {n : Nat} {l : List (Nat × Value)} {w : World} {ops : Array Oper} {rest : List Oper} {Q : Exit → Act → World → Prop}
theorem wl_mkm (ho : o.op = .makeMap 66 none) (hg : wnt n l ops o = true)
    (hk : ∀ b w', w.heap.size = b → w'.heap.size = b + 1 → Mo w w' → OM w' b (fun _ => none) 0 → WL Try.prog ops Q rest n (ext l o.dst (.map (some b))) w') : WL Try.prog ops Q (o :: rest) n l w :=
  ⟨l_step hg (o_val (.map (some w.heap.size)) (w' := w.alloc (.map #[] 0)) (by
    have h57 := run_makeMap (P := Try.prog) 66 w
    simp [execOp, ho, h57]) (hk _ _ rfl (by simp) (Mo.allocm w) (OM.new w)).out)⟩
theorem wl_boxc (ty : TypeId) (x : Operand) (v : Value) (cs : Array Value) (ho : o.op = .box ty x) (hx : evl n l x = v) (h : ∀ w, (Instr.box ty v).run Try.prog w = .ok (pt w.heap.size 0) (w.alloc (.cells cs ty))) (hg : wnt n l ops o = true)
    (hk : ∀ k w', w.heap.size = k → Mo w w' → At w' k cs.toList → Cb w' k → WL Try.prog ops Q rest n (ext l o.dst (pt k 0)) w') : WL Try.prog ops Q (o :: rest) n l w :=
  ⟨l_step hg (wo_boxc ty x v cs ho hx h (fun k w' a b c d => (hk k w' a b c d).out)).out⟩
end
section
variable {w : World}
/-- Whole numbers lie there. -/
def SN (w : World) (p : Option Addr) (L : List Int) : Prop := ∀ k x, L[k]? = some x → ∃ b off, p = some ⟨b, off, none⟩ ∧ b < w.heap.size ∧ w.rangeAt b (off + k * 1) [.int .i64 x]
theorem SN.mo {w' : World} {p : Option Addr} {L : List Int} (h : SN w p L) (m : Mo w w') : SN w' p L := fun k x e => by
  obtain ⟨b, off, h1, h2, h3⟩ := h k x e
  exact ⟨b, off, h1, Nat.lt_of_lt_of_le h2 m.size, fun j v hv => (m.cell b _ h2).trans (h3 j v hv)⟩
theorem cli_sc {p : Option Addr} {c : Nat} {sc : List Int} (hr : SN w p sc) (hn : sc.length ≤ 1000000) : Calls Try.prog 29 #[.slice p sc.length c] w fun e w' => ∃ p' c', e = .returned (.slice p' sc.length c') ∧ Rw w' 1 (.slice p' sc.length c') (sc.map (fun x => [.int .i64 x])) ∧ (∀ b, ob (.slice p' sc.length c') = some b → w.heap.size ≤ b) ∧ Mo w w' := by
  have h := cli_n (w := w) (p := p) (c := c) (L := sc.map (fun x => [Value.int .i64 x])) (fun x hx => by obtain ⟨y, _, rfl⟩ := List.mem_map.1 hx; rfl) (fun k cs hk => by
    rw [List.getElem?_map] at hk
    obtain ⟨x, hx, rfl⟩ := Option.map_eq_some_iff.1 hk
    exact hr k x hx) (by rw [List.length_map]; exact hn)
  rw [List.length_map] at h
  exact h
theorem new_ok {p : Option Addr} {c : Nat} {sc : List Int} (hr : SN w p sc) (hgt : decide ((64 : Int) < (sc.length : Int)) = false) : Calls Try.prog 7 #[.slice p sc.length c] w fun e w' => ∃ (t : Nat) (mb : Hd) (D : Nat → Prop), e = .returned (.tuple #[pt t 0, .int .i64 0]) ∧ FT D w' t mb .e 0 ∧ mb.sc = sc ∧ (∀ j, D j → w.heap.size ≤ j) ∧ w.heap.size ≤ mb.m ∧ (∀ b, ob mb.h = some b → w.heap.size ≤ b) ∧ Mo w w' := by
  have hn64 := of_decide_eq_false hgt
  refine w_enter 12 Try.func7 Try.ntmps7 rfl rfl ?_
  have M : Mo w w := Mo.refl _
  refine w_seq ?_
  refine w_reg ?_
  refine wl_mv (.const (.pointer none)) (pp none) (fun _ => rfl) rfl rfl ?_
  refine wl_mv (.const (.int .i64 (0))) (.int .i64 (0)) (fun _ => rfl) rfl rfl ?_
  refine w_nil ?_
  refine xn_then ?_
  refine w_seq ?_
  refine w_seq ?_
  refine w_reg ?_
  refine wl_mv (.tmp 0) (.slice p sc.length c) (fun _ => rfl) rfl rfl ?_
  refine wl_val (.int .i64 ((sc.length : Nat) : Int)) (len22 _ _ _ _ _ (by exact rfl) _ _ _ _ _ _) rfl ?_
  refine wl_bin (fun x y => do eqGuard .gtr 3 (.tmp 5) (.const (.int .i64 (64))) x y; binOp .gtr 3 x y) (.tmp 5) (.const (.int .i64 (64))) (.int .i64 ((sc.length : Nat) : Int)) (.int .i64 (64)) (.bool false) (fun _ => rfl) rfl rfl (gtI hgt _ _ _) rfl ?_
  refine w_nil ?_
  refine xn_then ?_
  refine w_condF rfl ?_
  refine w_skip ?_
  refine xn_then ?_
  refine w_seq ?_
  refine w_reg ?_
  refine wl_mv (.tmp 0) (.slice p sc.length c) (fun _ => rfl) rfl rfl ?_
  refine wl_callx 29 [(.tmp 7)] _ [.slice p sc.length c] rfl rfl (fun _ _ => by kernel_rfl) (cli_sc hr (by omega)) rfl ?_
  rintro _ w1 ⟨p', c', rfl, hRw, hob, hq⟩
  refine ⟨_, rfl, ?_⟩
  replace M := M.trans hq
  clear hq
  refine wl_mkm rfl rfl ?_
  intro m w2 hb hz hq hM
  have hMs := M.size
  have hmb : w.heap.size ≤ m := by omega
  have hmo : ob (.slice p' sc.length c') ≠ some m := fun e => by have := hRw.lt e; omega
  replace hRw := hRw.mo hq
  replace M := M.trans hq
  clear hz hq
  refine wl_build 68 [(0, (.tmp 8)), (2, (.tmp 9))] [(0, Value.slice p' sc.length c'), (2, .map (some m))] (.agg #[Value.slice p' sc.length c', .pointer none, .map (some m), .int .i64 0]) rfl rfl (by kernel_rfl) rfl ?_
  refine wl_boxc 68 (.tmp 10) (.agg #[Value.slice p' sc.length c', .pointer none, .map (some m), .int .i64 0]) (#[Value.slice p' sc.length c', .pointer none, .map (some m), .int .i64 0]) rfl rfl (fun _ => by kernel_rfl) rfl ?_
  intro t w3 hk hq hA hcb
  have hmt : m < t := by have := hM.lt; omega
  have hMs2 := M.size
  have hts : w.heap.size ≤ t := by omega
  have hto : ob (.slice p' sc.length c') ≠ some t := fun e => by have := hRw.lt e; omega
  replace hRw := hRw.mo hq
  replace hM := hM.mo hq
  replace M := M.trans hq
  refine wl_mv (.tmp 11) (pt t 0) (fun _ => rfl) rfl rfl ?_
  refine wl_mv (.const (.int .i64 (0))) (.int .i64 (0)) (fun _ => rfl) rfl rfl ?_
  refine w_nil ?_
  refine xn_then ?_
  refine w_ret ?_
  exact w_ret2 _ _ (pt t 0) (.int .i64 (0)) rfl rfl rfl ⟨t, ⟨m, .slice p' sc.length c', sc⟩, fun j => j = t, rfl, ⟨⟨fun _ => none, none, ⟨⟨hA, hRw, fun b hb q => hto (q ▸ hb), fun _ _ h => (by cases h), fun _ _ h => (by cases h), fun _ _ h => (by cases h), fun _ _ h => (by cases h), rfl, rfl, fun h => (by cases h), fun h => (by cases h), fun {j} q => (by rw [q]; exact hA.lt), fun (q : m = t) => (by omega), (by show sc.length ≤ 4096; omega)⟩, ⟨fun h => (by cases h), fun h => (by cases h), fun h => (by cases h)⟩, rfl, trivial, List.nodup_nil⟩⟩, hM, trivial, List.nodup_nil, fun _ h => (by cases h), by simp [T.sz], Int.le_refl _, hmo⟩, rfl, fun j q => (by omega), hmb, hob, M⟩
end
end G
end Go.Proofs.Ythfemlhmnjfjiaa
/-
  The tree's Insert.
-/
namespace Go.Proofs.Ythfemlhmnjfjiaa
open Go.RowKit
namespace G
section
variable {D : Nat → Prop} {w : World} {t : Nat} {mb : Hd} {R : Mp} {root : Option Nat} {lk : Int}
theorem neN {a b : Nat} {r : Bool} (h : decide (a = b) = r) (x y : Operand) (w : World) : (do eqGuard .neq 3 x y (.int .i64 (a : Int)) (.int .i64 (b : Int)); binOp .neq 3 (.int .i64 (a : Int)) (.int .i64 (b : Int))).run Try.prog w = .ok (.bool !r) w := by
  have e : (do eqGuard .neq 3 x y (.int .i64 (a : Int)) (.int .i64 (b : Int)); binOp .neq 3 (.int .i64 (a : Int)) (.int .i64 (b : Int))).run Try.prog w = .ok (.bool ((a : Int) != (b : Int))) w := by kernel_rfl
  rw [e, ← h]
  congr 2
  by_cases c : a = b
  · subst c; simp
  · have : ((a : Int) == (b : Int)) = false := beq_eq_false_iff_ne.2 (fun q => c (Int.ofNat.inj q))
    simp [bne, this, c]
theorem len29 (ρ : Operand → Value) (x : Operand) (p : Option Addr) (m c : Nat) (hx : ρ x = .slice p m c) (dst : Option Tmp) (type : TypeId) (pos : String) (after : Array Edge) (guard : Option (Nat × Bool)) (w : World) : (execOp ρ { dst, op := .call { callee := .builtin .len, args := #[x], argTypes := #[29] }, type, pos, after, guard }).run Try.prog w = .ok (.value (.int .i64 (m : Int))) w := by
  simp [go_sem, hx]
/-- Values lie there. -/
def SVv (w : World) (p : Option Addr) (L : List V10) : Prop := ∀ k x, L[k]? = some x → ∃ b off, p = some ⟨b, off, none⟩ ∧ b < w.heap.size ∧ w.rangeAt b (off + k * 10) x.cells
theorem SVv.mo {w' : World} {p : Option Addr} {L : List V10} (h : SVv w p L) (m : Mo w w') : SVv w' p L := fun k x e => by
  obtain ⟨b, off, h1, h2, h3⟩ := h k x e
  exact ⟨b, off, h1, Nat.lt_of_lt_of_le h2 m.size, fun j v hv => (m.cell b _ h2).trans (h3 j v hv)⟩
theorem clv_vs {p : Option Addr} {c : Nat} {L : List V10} (hr : SVv w p L) (hn : L.length ≤ 1000000) : Calls Try.prog 22 #[.slice p L.length c] w fun e w' => ∃ p' c', e = .returned (.slice p' L.length c') ∧ Rw w' 10 (.slice p' L.length c') (L.map V10.cells) ∧ (∀ b, ob (.slice p' L.length c') = some b → w.heap.size ≤ b) ∧ Mo w w' := by
  have h := clv_n (w := w) (p := p) (c := c) (L := L.map V10.cells) (fun x hx => by obtain ⟨y, _, rfl⟩ := List.mem_map.1 hx; rfl) (fun k cs hk => by
    rw [List.getElem?_map] at hk
    obtain ⟨x, hx, rfl⟩ := Option.map_eq_some_iff.1 hk
    exact hr k x hx) (by rw [List.length_map]; exact hn)
  rw [List.length_map] at h
  exact h
theorem insert_ok {tr : T} {at0 id : Int} {p : Option Addr} {c : Nat} {vs : List V10} (h : FT D w t mb tr lk) (hi : -9223372036854775808 ≤ id ∧ id ≤ 9223372036854775807) (q7 : decide (vs.length = mb.sc.length) = true) (q0 : decide (id < 1) = false) (q1 : decide (9007199254740992 < id) = false) (q2 : (adr tr.kv id).isSome = false) (q3 : decide (1024 ≤ (tr.kv.length : Int)) = false) (q4 : decide (at0 < 0) = false) (q5 : decide ((tr.kv.length : Int) < at0) = false) (hlk : lk ≤ 3000000000000000000) (hSVm : ∀ w', Mk (fun j => D j ∨ j = mb.m) w w' → SVv w' p vs) (hvo : ∀ x ∈ vs, x.n.ok) : Calls Try.prog 9 #[pt t 0, .int .i64 at0, .int .i64 id, .slice p vs.length c] w fun e w' => ∃ y kn tr' lk' D', e = .returned (.int .i64 0) ∧ Ins tr at0 ⟨id, y, vs⟩ kn tr' ∧ FT D' w' t mb tr' lk' ∧ w.heap.size ≤ kn ∧ lk < lk' ∧ lk' ≤ lk + 10 * tr.ht + 8 ∧ Mk (fun j => D j ∨ j = mb.m) w w' ∧ ∀ j, D' j → D j ∨ w.heap.size ≤ j := by
  have hw : (Lit.int .i64 id).wf = true := WalkArith.wf_i64 ⟨hi.1, hi.2⟩
  obtain ⟨R, root, hS, hAp, hC, hR, hn⟩ := h.ts
  have hM := h.om
  obtain ⟨p9, cap9, hsl, _⟩ := hS.sc
  rw [List.length_map] at hsl
  have hkl := tr.kv_len
  have hnc := hS.nc
  have hq7 := of_decide_eq_true q7
  have hid : id ∉ tr.ids.map (·.i) := fun m => by rw [← T.kv_ids] at m; rw [adr_is.2 m] at q2; cases q2
  refine w_enter 57 Try.func9 Try.ntmps9 rfl rfl ?_
  have M : Mk (fun j => D j ∨ j = mb.m) w w := Mk.refl _ _
  refine w_seq ?_
  refine w_reg ?_
  refine wl_mv (.const (.int .i64 (0))) (.int .i64 (0)) (fun _ => rfl) rfl rfl ?_
  refine w_nil ?_
  refine xn_then ?_
  refine w_seq ?_
  refine w_block ?_
  refine w_seq ?_
  refine w_reg ?_
  refine wl_mv (.tmp 0) (pt t 0) (fun _ => rfl) rfl rfl ?_
  refine wl_call 30 [(.tmp 10)] _ [pt t 0] (.bool true) rfl rfl (fun _ _ => by kernel_rfl) (made_n hS) rfl ?_
  intro w1 hq
  replace hS := hS.mo hq
  replace hM := hM.mo hq
  replace M := M.trans hq
  clear hq
  refine wl_un (fun v => Op.unary .not v) (.tmp 11) (.bool true) (.bool false) (fun _ => rfl) rfl (by kernel_rfl) rfl ?_
  refine wl_mv (.tmp 12) (.bool false) (fun _ => rfl) rfl rfl ?_
  refine w_nil ?_
  refine xn_then ?_
  refine w_condF rfl ?_
  refine w_seq ?_
  refine w_reg ?_
  refine wl_mv (.tmp 3) (.slice p vs.length c) (fun _ => rfl) rfl rfl ?_
  refine wl_val (.int .i64 ((vs.length : Nat) : Int)) (len29 _ _ _ _ _ (by exact rfl) _ _ _ _ _ _) rfl ?_
  refine wl_mv (.tmp 0) (pt t 0) (fun _ => rfl) rfl rfl ?_
  refine wl_nc (.tmp 16) t 0 rfl rfl rfl ?_
  refine wl_un (fun v => Instr.fieldAt 68 v 0) (.tmp 17) (pt t 0) (pt t 0) (fun _ => rfl) rfl (by kernel_rfl) rfl ?_
  refine wl_load 22 (.tmp 18) (pt t 0) (mb.h) rfl rfl (run_one hS.tr 22 0 rfl Try.underlying22 rfl) rfl ?_
  refine wl_val (.int .i64 ((mb.sc.length : Nat) : Int)) (len22 _ _ _ _ _ (Eq.trans (b := mb.h) (by exact rfl) hsl) _ _ _ _ _ _) rfl ?_
  refine wl_bin (fun x y => do eqGuard .neq 3 (.tmp 15) (.tmp 20) x y; binOp .neq 3 x y) (.tmp 15) (.tmp 20) (.int .i64 ((vs.length : Nat) : Int)) (.int .i64 ((mb.sc.length : Nat) : Int)) (.bool false) (fun _ => rfl) rfl rfl (neN q7 _ _ _) rfl ?_
  refine wl_mv (.tmp 21) (.bool false) (fun _ => rfl) rfl rfl ?_
  refine w_nil ?_
  refine xn_then ?_
  refine w_condF rfl ?_
  refine w_seq ?_
  refine w_reg ?_
  refine wl_mv (.tmp 2) (.int .i64 (id)) (fun _ => rfl) rfl rfl ?_
  refine wl_bin (fun x y => do eqGuard .lss 2 (.tmp 23) (.const (.int .i64 (1))) x y; binOp .lss 2 x y) (.tmp 23) (.const (.int .i64 (1))) (.int .i64 (id)) (.int .i64 (1)) (.bool false) (fun _ => rfl) rfl rfl (ltL q0 _ _ _) rfl ?_
  refine wl_mv (.tmp 24) (.bool false) (fun _ => rfl) rfl rfl ?_
  refine wl_mv (.tmp 2) (.int .i64 (id)) (fun _ => rfl) rfl rfl ?_
  refine wl_bin (fun x y => do eqGuard .gtr 2 (.tmp 26) (.const (.int .i64 (9007199254740992))) x y; binOp .gtr 2 x y) (.tmp 26) (.const (.int .i64 (9007199254740992))) (.int .i64 (id)) (.int .i64 (9007199254740992)) (.bool false) (fun _ => rfl) rfl rfl (gtL q1 _ _ _) rfl ?_
  refine wl_pick (.tmp 25) (.const (.bool true)) (.tmp 27) false (.bool false) (fun _ => rfl) rfl rfl rfl ?_
  refine wl_mv (.tmp 28) (.bool false) (fun _ => rfl) rfl rfl ?_
  refine w_nil ?_
  refine xn_then ?_
  refine w_condF rfl ?_
  refine w_seq ?_
  refine w_reg ?_
  refine wl_mv (.tmp 0) (pt t 0) (fun _ => rfl) rfl rfl ?_
  refine wl_nc (.tmp 30) t 0 rfl rfl rfl ?_
  refine wl_un (fun v => Instr.fieldAt 68 v 2) (.tmp 31) (pt t 0) (pt t 2) (fun _ => rfl) rfl (by kernel_rfl) rfl ?_
  refine wl_load 66 (.tmp 32) (pt t 2) (.map (some mb.m)) rfl rfl (run_one hS.tr 66 2 rfl Try.underlying66 rfl) rfl ?_
  refine wl_mv (.tmp 2) (.int .i64 (id)) (fun _ => rfl) rfl rfl ?_
  refine wl_bin (fun x y => Instr.lookup 66 x y false) (.tmp 33) (.tmp 34) (.map (some mb.m)) (.int .i64 (id)) (pp (adr tr.kv id)) (fun _ => rfl) rfl rfl (hM.look hw) rfl ?_
  refine wl_bin (fun x y => do eqGuard .neq 65 (.tmp 35) (.const (.pointer none)) x y; binOp .neq 65 x y) (.tmp 35) (.const (.pointer none)) (pp (adr tr.kv id)) (pp none) (.bool false) (fun _ => rfl) rfl rfl (nePb q2 _ _ _) rfl ?_
  refine wl_mv (.tmp 36) (.bool false) (fun _ => rfl) rfl rfl ?_
  refine w_nil ?_
  refine xn_then ?_
  refine w_condF rfl ?_
  refine w_seq ?_
  refine w_reg ?_
  refine wl_mv (.tmp 0) (pt t 0) (fun _ => rfl) rfl rfl ?_
  refine wl_call 10 [(.tmp 38)] _ [pt t 0] (.int .i64 ((tr.kv.length : Int))) rfl rfl (fun _ _ => by kernel_rfl) (len_n hS hM) rfl ?_
  intro w2 hq
  replace hS := hS.mo hq
  replace hM := hM.mo hq
  replace M := M.trans hq
  clear hq
  refine wl_bin (fun x y => do eqGuard .geq 3 (.tmp 39) (.const (.int .i64 (1024))) x y; binOp .geq 3 x y) (.tmp 39) (.const (.int .i64 (1024))) (.int .i64 ((tr.kv.length : Int))) (.int .i64 (1024)) (.bool false) (fun _ => rfl) rfl rfl (geI q3 _ _ _) rfl ?_
  refine wl_mv (.tmp 40) (.bool false) (fun _ => rfl) rfl rfl ?_
  refine w_nil ?_
  refine xn_then ?_
  refine w_condF rfl ?_
  refine w_seq ?_
  refine w_reg ?_
  refine wl_mv (.tmp 1) (.int .i64 (at0)) (fun _ => rfl) rfl rfl ?_
  refine wl_bin (fun x y => do eqGuard .lss 3 (.tmp 42) (.const (.int .i64 (0))) x y; binOp .lss 3 x y) (.tmp 42) (.const (.int .i64 (0))) (.int .i64 (at0)) (.int .i64 (0)) (.bool false) (fun _ => rfl) rfl rfl (ltI q4 _ _ _) rfl ?_
  refine wl_mv (.tmp 43) (.bool false) (fun _ => rfl) rfl rfl ?_
  refine wl_mv (.tmp 1) (.int .i64 (at0)) (fun _ => rfl) rfl rfl ?_
  refine wl_mv (.tmp 0) (pt t 0) (fun _ => rfl) rfl rfl ?_
  refine wl_call 10 [(.tmp 46)] _ [pt t 0] (.int .i64 ((tr.kv.length : Int))) rfl rfl (fun _ _ => by kernel_rfl) (len_n hS hM) rfl ?_
  intro w3 hq
  replace hS := hS.mo hq
  replace hM := hM.mo hq
  replace M := M.trans hq
  clear hq
  refine wl_bin (fun x y => do eqGuard .gtr 3 (.tmp 45) (.tmp 47) x y; binOp .gtr 3 x y) (.tmp 45) (.tmp 47) (.int .i64 (at0)) (.int .i64 ((tr.kv.length : Int))) (.bool false) (fun _ => rfl) rfl rfl (gtI q5 _ _ _) rfl ?_
  refine wl_pick (.tmp 44) (.const (.bool true)) (.tmp 48) false (.bool false) (fun _ => rfl) rfl rfl rfl ?_
  refine wl_mv (.tmp 49) (.bool false) (fun _ => rfl) rfl rfl ?_
  refine w_nil ?_
  refine xn_then ?_
  refine w_condF rfl ?_
  refine w_skip ?_
  refine xn_blk ?_
  refine xn_then ?_
  refine w_seq ?_
  refine w_reg ?_
  refine wl_mv (.tmp 0) (pt t 0) (fun _ => rfl) rfl rfl ?_
  refine wl_mv (.tmp 1) (.int .i64 (at0)) (fun _ => rfl) rfl rfl ?_
  refine wl_mv (.tmp 2) (.int .i64 (id)) (fun _ => rfl) rfl rfl ?_
  refine wl_mv (.tmp 3) (.slice p vs.length c) (fun _ => rfl) rfl rfl ?_
  have hMs := M.size
  have hDl : ∀ j, D j → j < w3.heap.size := fun j e => hS.lt e
  have hml := hM.lt
  have hsl2 : ∀ b, ob mb.h = some b → b < w3.heap.size := fun b e => hS.sc.lt e
  have hSV9 := hSVm _ M
  refine wl_callx 22 [(.tmp 53)] _ [.slice p vs.length c] rfl rfl (fun _ _ => by kernel_rfl) (clv_vs hSV9 (by omega)) rfl ?_
  rintro _ w4 ⟨p', c', rfl, hRw, hob, hq⟩
  refine ⟨_, rfl, ?_⟩
  replace hS := hS.mo hq
  replace hM := hM.mo hq
  replace M := M.trans hq
  clear hq
  refine wl_build 83 [(0, (.tmp 52)), (1, (.tmp 54))] [(0, .int .i64 id), (1, .slice p' vs.length c')] (.agg #[.int .i64 id, .slice p' vs.length c']) rfl rfl (by kernel_rfl) rfl ?_
  have hFn : FT D _ t mb tr lk := ⟨⟨R, root, ⟨hS, hAp, hC, hR, hn⟩⟩, hM, h.ok, h.nd, h.rg, h.le, h.l0, h.hm⟩
  refine wl_callg 31 [(.tmp 50), (.tmp 51), (.tmp 55)] _ [pt t 0, .int .i64 (at0), .agg #[.int .i64 id, .slice p' vs.length c']] (.tuple #[]) rfl rfl (fun _ _ => by kernel_rfl) (put_f hFn hid (by have := of_decide_eq_false q0; omega) (by have := of_decide_eq_false q1; omega) (by have := of_decide_eq_false q3; omega) (by have := of_decide_eq_false q4; omega) (by have := of_decide_eq_false q5; omega) hlk ⟨hRw, of_decide_eq_true q7, hvo⟩ (fun b hb => ⟨fun e => by have := hDl b e; have := hob b hb; omega, fun e => by have := hob b hb; omega, fun e => by have := hsl2 b e; have := hob b hb; omega⟩)) rfl ?_
  intro w5 hF
  obtain ⟨kn, tr2, lk2, D2, hI, hF2, hkn, hk1, hk2, hM2, hD2⟩ := hF
  have hMs2 := M.size
  replace hkn := Nat.le_trans M.size hkn
  replace M := M.tr hM2 (fun j hj e => by rcases e with e | e | e; exact Or.inl e; exact Or.inr e; have := hob j e; omega)
  refine w_nil ?_
  refine xn_then ?_
  refine w_seq ?_
  refine w_reg ?_
  refine wl_mv (.const (.int .i64 (0))) (.int .i64 (0)) (fun _ => rfl) rfl rfl ?_
  refine w_nil ?_
  refine xn_then ?_
  refine w_ret ?_
  exact w_ret1 _ (.int .i64 (0)) rfl rfl ⟨_, kn, tr2, lk2, D2, rfl, hI, hF2, hkn, hk1, hk2, M, fun j e => by rcases hD2 j e with e | e | e; exact Or.inl e; exact Or.inr (by omega); exact Or.inr (by have := hob j e; omega)⟩
end
end G
end Go.Proofs.Ythfemlhmnjfjiaa
/-
  The tree's has, Sum.
-/
namespace Go.Proofs.Ythfemlhmnjfjiaa
open Go.RowKit
namespace G
section
variable {D : Nat → Prop} {w : World} {t : Nat} {mb : Hd} {R : Mp} {root : Option Nat} {lk : Int}
theorem has_n {w : World} (hS : HS D w t mb R root lk) (cn : Int) : Calls Try.prog 32 #[pt t 0, .int .i64 cn] w fun e w' => e = .returned (.bool (decide (0 ≤ cn) && decide (cn < (mb.sc.length : Int)))) ∧ Mo w w' := by
  obtain ⟨p9, cap9, hsl, _⟩ := hS.sc
  rw [List.length_map] at hsl
  refine w_enter 16 Try.func32 Try.ntmps32 rfl rfl ?_
  have M : Mo w w := Mo.refl _
  refine w_seq ?_
  refine w_reg ?_
  refine wl_mv (.const (.bool false)) (.bool false) (fun _ => rfl) rfl rfl ?_
  refine w_nil ?_
  refine xn_then ?_
  refine w_seq ?_
  cases hf0 : decide (0 ≤ cn) with
  | true =>
    have hf0p := of_decide_eq_true hf0
    cases hf1 : decide (cn < (mb.sc.length : Int)) with
    | true =>
      have hf1p := of_decide_eq_true hf1
      refine w_reg ?_
      refine wl_mv (.tmp 1) (.int .i64 (cn)) (fun _ => rfl) rfl rfl ?_
      refine wl_bin (fun x y => do eqGuard .geq 3 (.tmp 5) (.const (.int .i64 (0))) x y; binOp .geq 3 x y) (.tmp 5) (.const (.int .i64 (0))) (.int .i64 (cn)) (.int .i64 (0)) (.bool true) (fun _ => rfl) rfl rfl (geI hf0 _ _ _) rfl ?_
      refine wl_mv (.tmp 6) (.bool true) (fun _ => rfl) rfl rfl ?_
      refine wl_mv (.tmp 1) (.int .i64 (cn)) (fun _ => rfl) rfl rfl ?_
      refine wl_mv (.tmp 0) (pt t 0) (fun _ => rfl) rfl rfl ?_
      refine wl_nc (.tmp 9) t 0 rfl rfl rfl ?_
      refine wl_un (fun v => Instr.fieldAt 68 v 0) (.tmp 10) (pt t 0) (pt t 0) (fun _ => rfl) rfl (by kernel_rfl) rfl ?_
      refine wl_load 22 (.tmp 11) (pt t 0) (mb.h) rfl rfl (run_one hS.tr 22 0 rfl Try.underlying22 rfl) rfl ?_
      refine wl_val (.int .i64 ((mb.sc.length : Nat) : Int)) (len22 _ _ _ _ _ (Eq.trans (b := mb.h) (by exact rfl) hsl) _ _ _ _ _ _) rfl ?_
      refine wl_bin (fun x y => do eqGuard .lss 3 (.tmp 8) (.tmp 13) x y; binOp .lss 3 x y) (.tmp 8) (.tmp 13) (.int .i64 (cn)) (.int .i64 ((mb.sc.length : Nat) : Int)) (.bool true) (fun _ => rfl) rfl rfl (ltI hf1 _ _ _) rfl ?_
      refine wl_pick (.tmp 7) (.tmp 14) (.const (.bool false)) true (.bool true) (fun _ => rfl) rfl rfl rfl ?_
      refine wl_mv (.tmp 15) (.bool true) (fun _ => rfl) rfl rfl ?_
      refine w_nil ?_
      refine xn_then ?_
      refine w_ret ?_
      exact w_ret1 _ (.bool true) rfl rfl ⟨rfl, M⟩
    | false =>
      have hf1p := of_decide_eq_false hf1
      refine w_reg ?_
      refine wl_mv (.tmp 1) (.int .i64 (cn)) (fun _ => rfl) rfl rfl ?_
      refine wl_bin (fun x y => do eqGuard .geq 3 (.tmp 5) (.const (.int .i64 (0))) x y; binOp .geq 3 x y) (.tmp 5) (.const (.int .i64 (0))) (.int .i64 (cn)) (.int .i64 (0)) (.bool true) (fun _ => rfl) rfl rfl (geI hf0 _ _ _) rfl ?_
      refine wl_mv (.tmp 6) (.bool true) (fun _ => rfl) rfl rfl ?_
      refine wl_mv (.tmp 1) (.int .i64 (cn)) (fun _ => rfl) rfl rfl ?_
      refine wl_mv (.tmp 0) (pt t 0) (fun _ => rfl) rfl rfl ?_
      refine wl_nc (.tmp 9) t 0 rfl rfl rfl ?_
      refine wl_un (fun v => Instr.fieldAt 68 v 0) (.tmp 10) (pt t 0) (pt t 0) (fun _ => rfl) rfl (by kernel_rfl) rfl ?_
      refine wl_load 22 (.tmp 11) (pt t 0) (mb.h) rfl rfl (run_one hS.tr 22 0 rfl Try.underlying22 rfl) rfl ?_
      refine wl_val (.int .i64 ((mb.sc.length : Nat) : Int)) (len22 _ _ _ _ _ (Eq.trans (b := mb.h) (by exact rfl) hsl) _ _ _ _ _ _) rfl ?_
      refine wl_bin (fun x y => do eqGuard .lss 3 (.tmp 8) (.tmp 13) x y; binOp .lss 3 x y) (.tmp 8) (.tmp 13) (.int .i64 (cn)) (.int .i64 ((mb.sc.length : Nat) : Int)) (.bool false) (fun _ => rfl) rfl rfl (ltI hf1 _ _ _) rfl ?_
      refine wl_pick (.tmp 7) (.tmp 14) (.const (.bool false)) true (.bool false) (fun _ => rfl) rfl rfl rfl ?_
      refine wl_mv (.tmp 15) (.bool false) (fun _ => rfl) rfl rfl ?_
      refine w_nil ?_
      refine xn_then ?_
      refine w_ret ?_
      exact w_ret1 _ (.bool false) rfl rfl ⟨rfl, M⟩
  | false =>
    have hf0p := of_decide_eq_false hf0
    refine w_reg ?_
    refine wl_mv (.tmp 1) (.int .i64 (cn)) (fun _ => rfl) rfl rfl ?_
    refine wl_bin (fun x y => do eqGuard .geq 3 (.tmp 5) (.const (.int .i64 (0))) x y; binOp .geq 3 x y) (.tmp 5) (.const (.int .i64 (0))) (.int .i64 (cn)) (.int .i64 (0)) (.bool false) (fun _ => rfl) rfl rfl (geI hf0 _ _ _) rfl ?_
    refine wl_mv (.tmp 6) (.bool false) (fun _ => rfl) rfl rfl ?_
    refine wl_skip rfl ?_
    refine wl_skip rfl ?_
    refine wl_skip rfl ?_
    refine wl_skip rfl ?_
    refine wl_skip rfl ?_
    refine wl_skip rfl ?_
    refine wl_skip rfl ?_
    refine wl_pick (.tmp 7) (.tmp 14) (.const (.bool false)) false (.bool false) (fun _ => rfl) rfl rfl rfl ?_
    refine wl_mv (.tmp 15) (.bool false) (fun _ => rfl) rfl rfl ?_
    refine w_nil ?_
    refine xn_then ?_
    refine w_ret ?_
    exact w_ret1 _ (.bool false) rfl rfl ⟨rfl, M⟩
theorem sumc_a {tr : T} {cn : Int} (h : FT D w t mb tr lk) (qc : (decide (0 ≤ cn) && decide (cn < (mb.sc.length : Int))) = false) : Calls Try.prog 12 #[pt t 0, .int .i64 cn] w fun e w' => e = .returned (.tuple #[smv sm0, .int .i64 1]) ∧ Mo w w' := by
  obtain ⟨R, root, hS, hAp, hC, hR, hn⟩ := h.ts
  have hM := h.om
  have hDlt : ∀ j, D j → j < w.heap.size := fun j e => hS.lt e
  have hslt : ∀ b, ob mb.h = some b → b < w.heap.size := fun b e => hS.sc.lt e
  have hmlt := hM.lt
  refine w_enter 28 Try.func12 Try.ntmps12 rfl rfl ?_
  have M : Mk (fun _ => False) w w := Mk.refl _ _
  refine w_seq ?_
  refine w_reg ?_
  refine wl_alloc 42 #[.int .i64 0, .int .i64 0, .int .i64 0, .int .i64 0, .int .i64 0, .int .u64 0, .int .u64 0, .int .u64 0, .int .u64 0, .int .u64 0, .bool false, .bool false, .int .u64 0, .int .u64 0, .int .u64 0, .int .u64 0, .int .i64 0, .bool false, .int .u64 0, .int .u64 0, .int .u64 0, .int .u64 0, .int .i64 0] rfl (fun _ => by kernel_rfl) rfl ?_
  intro k1 w1 hk hz hq Q1
  have hMs := M.size
  have N_k1 : w.heap.size ≤ k1 := by omega
  have nd_k1 : ¬ D k1 := fun e => by have := hDlt _ e; omega
  have nm_k1 : k1 ≠ mb.m := by omega
  have ns_k1 : ∀ b, ob mb.h = some b → b ≠ k1 := fun b hb => by have := hslt b hb; omega
  replace hS := hS.mo hq
  replace hM := hM.mo hq
  replace M := M.trans hq
  clear hk hz hq hMs
  refine wl_mv (.const (.int .i64 (0))) (.int .i64 (0)) (fun _ => rfl) rfl rfl ?_
  refine w_nil ?_
  refine xn_then ?_
  refine w_seq ?_
  refine w_seq ?_
  refine w_reg ?_
  refine wl_mv (.tmp 0) (pt t 0) (fun _ => rfl) rfl rfl ?_
  refine wl_call 30 [(.tmp 6)] _ [pt t 0] (.bool true) rfl rfl (fun _ _ => by kernel_rfl) (made_n hS) rfl ?_
  intro w2 hq
  replace Q1 := Q1.mo hq
  replace hS := hS.mo hq
  replace hM := hM.mo hq
  replace M := M.trans hq
  clear hq
  refine wl_un (fun v => Op.unary .not v) (.tmp 7) (.bool true) (.bool false) (fun _ => rfl) rfl (by kernel_rfl) rfl ?_
  refine w_nil ?_
  refine xn_then ?_
  refine w_condF rfl ?_
  refine w_skip ?_
  refine xn_then ?_
  refine w_seq ?_
  refine w_seq ?_
  refine w_reg ?_
  refine wl_mv (.tmp 0) (pt t 0) (fun _ => rfl) rfl rfl ?_
  refine wl_mv (.tmp 1) (.int .i64 (cn)) (fun _ => rfl) rfl rfl ?_
  refine wl_call 32 [(.tmp 10), (.tmp 11)] _ [pt t 0, .int .i64 (cn)] (.bool false) rfl rfl (fun _ _ => by kernel_rfl) (by have := has_n hS cn; rw [qc] at this; exact this) rfl ?_
  intro w3 hq
  replace Q1 := Q1.mo hq
  replace hS := hS.mo hq
  replace hM := hM.mo hq
  replace M := M.trans hq
  clear hq
  refine wl_un (fun v => Op.unary .not v) (.tmp 12) (.bool false) (.bool true) (fun _ => rfl) rfl (by kernel_rfl) rfl ?_
  refine w_nil ?_
  refine xn_then ?_
  refine w_condT rfl ?_
  refine w_seq ?_
  refine w_reg ?_
  refine wl_build 42 [] [] (.agg #[.int .i64 0, .int .i64 0, .int .i64 0, .int .i64 0, .int .i64 0, .int .u64 0, .int .u64 0, .int .u64 0, .int .u64 0, .int .u64 0, .bool false, .bool false, .int .u64 0, .int .u64 0, .int .u64 0, .int .u64 0, .int .i64 0, .bool false, .int .u64 0, .int .u64 0, .int .u64 0, .int .u64 0, .int .i64 0]) rfl rfl (by kernel_rfl) rfl ?_
  refine wl_stx2 42 (.tmp 4) (.tmp 14) k1 0 #[.int .i64 0, .int .i64 0, .int .i64 0, .int .i64 0, .int .i64 0, .int .u64 0, .int .u64 0, .int .u64 0, .int .u64 0, .int .u64 0, .bool false, .bool false, .int .u64 0, .int .u64 0, .int .u64 0, .int .u64 0, .int .i64 0, .bool false, .int .u64 0, .int .u64 0, .int .u64 0, .int .u64 0, .int .i64 0] [.int .i64 0, .int .i64 0, .int .i64 0, .int .i64 0, .int .i64 0, .int .u64 0, .int .u64 0, .int .u64 0, .int .u64 0, .int .u64 0, .bool false, .bool false, .int .u64 0, .int .u64 0, .int .u64 0, .int .u64 0, .int .i64 0, .bool false, .int .u64 0, .int .u64 0, .int .u64 0, .int .u64 0, .int .i64 0] [.int .i64 0, .int .i64 0, .int .i64 0, .int .i64 0, .int .i64 0, .int .u64 0, .int .u64 0, .int .u64 0, .int .u64 0, .int .u64 0, .bool false, .bool false, .int .u64 0, .int .u64 0, .int .u64 0, .int .u64 0, .int .i64 0, .bool false, .int .u64 0, .int .u64 0, .int .u64 0, .int .u64 0, .int .i64 0] Q1 rfl rfl rfl rfl rfl zs42 rfl rfl rfl ?_
  intro w4 hT Qn
  replace Q1 := Qn
  have hK := Mk.st1 hT
  replace hM := hM.mk hK (Ne.symm nm_k1)
  replace hS := hS.kept hK (fun j e q => nd_k1 (q ▸ e)) (fun b hb q => ns_k1 b hb q)
  replace M := M.tr hK (fun j hj e => absurd e (by omega))
  clear hT hK Qn
  refine wl_mv (.const (.int .i64 (1))) (.int .i64 (1)) (fun _ => rfl) rfl rfl ?_
  refine w_nil ?_
  refine xn_then ?_
  refine w_ret ?_
  refine xr_then ?_
  exact w_ret2 _ _ (.agg #[.int .i64 0, .int .i64 0, .int .i64 0, .int .i64 0, .int .i64 0, .int .u64 0, .int .u64 0, .int .u64 0, .int .u64 0, .int .u64 0, .bool false, .bool false, .int .u64 0, .int .u64 0, .int .u64 0, .int .u64 0, .int .i64 0, .bool false, .int .u64 0, .int .u64 0, .int .u64 0, .int .u64 0, .int .i64 0]) (.int .i64 (1)) rfl ⟨k1, rfl, (run_row Q1 42 0 23 [.int .i64 0, .int .i64 0, .int .i64 0, .int .i64 0, .int .i64 0, .int .u64 0, .int .u64 0, .int .u64 0, .int .u64 0, .int .u64 0, .bool false, .bool false, .int .u64 0, .int .u64 0, .int .u64 0, .int .u64 0, .int .i64 0, .bool false, .int .u64 0, .int .u64 0, .int .u64 0, .int .u64 0, .int .i64 0] rfl Try.underlying42 rfl zs42)⟩ rfl ⟨rfl, M.mo (Mo.refl _) (fun k e => e.elim)⟩
theorem sumc_ok {tr : T} {cn : Int} (h : FT D w t mb tr lk) (qc : (decide (0 ≤ cn) && decide (cn < (mb.sc.length : Int))) = true) (hlk : lk ≤ 3000000000000000000) : Calls Try.prog 12 #[pt t 0, .int .i64 cn] w fun e w' => ∃ lk', e = .returned (.tuple #[smv (col cn.toNat (mb.sc.getD cn.toNat 0) tr.ids), .int .i64 0]) ∧ FT D w' t mb tr lk' ∧ lk ≤ lk' ∧ lk' ≤ lk + 1 ∧ Mk D w w' := by
  obtain ⟨R, root, hS, hAp, hC, hR, hn⟩ := h.ts
  have hM := h.om
  have hDlt : ∀ j, D j → j < w.heap.size := fun j e => hS.lt e
  have hslt : ∀ b, ob mb.h = some b → b < w.heap.size := fun b e => hS.sc.lt e
  have hmlt := hM.lt
  have hl00 := h.l0
  replace hC : root = tr.p := hC
  subst hC
  have hC : RepC mb.sc R tr.p [] tr.p := rfl
  simp only [Bool.and_eq_true, decide_eq_true_eq] at qc
  have hcn : ((cn.toNat : Nat) : Int) = cn := Int.toNat_of_nonneg qc.1
  have hclt : cn.toNat < mb.sc.length := by omega
  rw [← hcn]
  replace qc : (decide (0 ≤ ((cn.toNat : Nat) : Int)) && decide (((cn.toNat : Nat) : Int) < (mb.sc.length : Int))) = true := by simp only [Bool.and_eq_true, decide_eq_true_eq]; omega
  have hsum : smo R tr.p cn.toNat (col cn.toNat (mb.sc.getD cn.toNat 0) tr.ids) := smo_of hR hclt
  rw [show ((cn.toNat : Nat) : Int).toNat = cn.toNat by omega]
  refine w_enter 28 Try.func12 Try.ntmps12 rfl rfl ?_
  have M : Mk D w w := Mk.refl _ _
  refine w_seq ?_
  refine w_reg ?_
  refine wl_alloc 42 #[.int .i64 0, .int .i64 0, .int .i64 0, .int .i64 0, .int .i64 0, .int .u64 0, .int .u64 0, .int .u64 0, .int .u64 0, .int .u64 0, .bool false, .bool false, .int .u64 0, .int .u64 0, .int .u64 0, .int .u64 0, .int .i64 0, .bool false, .int .u64 0, .int .u64 0, .int .u64 0, .int .u64 0, .int .i64 0] rfl (fun _ => by kernel_rfl) rfl ?_
  intro k1 w1 hk hz hq Q1
  have hMs := M.size
  have N_k1 : w.heap.size ≤ k1 := by omega
  have nd_k1 : ¬ D k1 := fun e => by have := hDlt _ e; omega
  have nm_k1 : k1 ≠ mb.m := by omega
  have ns_k1 : ∀ b, ob mb.h = some b → b ≠ k1 := fun b hb => by have := hslt b hb; omega
  replace hS := hS.mo hq
  replace hM := hM.mo hq
  replace M := M.trans hq
  clear hk hz hq hMs
  refine wl_mv (.const (.int .i64 (0))) (.int .i64 (0)) (fun _ => rfl) rfl rfl ?_
  refine w_nil ?_
  refine xn_then ?_
  refine w_seq ?_
  refine w_seq ?_
  refine w_reg ?_
  refine wl_mv (.tmp 0) (pt t 0) (fun _ => rfl) rfl rfl ?_
  refine wl_call 30 [(.tmp 6)] _ [pt t 0] (.bool true) rfl rfl (fun _ _ => by kernel_rfl) (made_n hS) rfl ?_
  intro w2 hq
  replace Q1 := Q1.mo hq
  replace hS := hS.mo hq
  replace hM := hM.mo hq
  replace M := M.trans hq
  clear hq
  refine wl_un (fun v => Op.unary .not v) (.tmp 7) (.bool true) (.bool false) (fun _ => rfl) rfl (by kernel_rfl) rfl ?_
  refine w_nil ?_
  refine xn_then ?_
  refine w_condF rfl ?_
  refine w_skip ?_
  refine xn_then ?_
  refine w_seq ?_
  refine w_seq ?_
  refine w_reg ?_
  refine wl_mv (.tmp 0) (pt t 0) (fun _ => rfl) rfl rfl ?_
  refine wl_mv (.tmp 1) (.int .i64 ((cn.toNat : Nat) : Int)) (fun _ => rfl) rfl rfl ?_
  refine wl_call 32 [(.tmp 10), (.tmp 11)] _ [pt t 0, .int .i64 ((cn.toNat : Nat) : Int)] (.bool true) rfl rfl (fun _ _ => by kernel_rfl) (by have := has_n hS ((cn.toNat : Nat) : Int); rw [qc] at this; exact this) rfl ?_
  intro w3 hq
  replace Q1 := Q1.mo hq
  replace hS := hS.mo hq
  replace hM := hM.mo hq
  replace M := M.trans hq
  clear hq
  refine wl_un (fun v => Op.unary .not v) (.tmp 12) (.bool true) (.bool false) (fun _ => rfl) rfl (by kernel_rfl) rfl ?_
  refine w_nil ?_
  refine xn_then ?_
  refine w_condF rfl ?_
  refine w_skip ?_
  refine xn_then ?_
  refine w_seq ?_
  refine w_reg ?_
  refine wl_mv (.tmp 0) (pt t 0) (fun _ => rfl) rfl rfl ?_
  refine wl_mv (.tmp 0) (pt t 0) (fun _ => rfl) rfl rfl ?_
  refine wl_nc (.tmp 16) t 0 rfl rfl rfl ?_
  refine wl_un (fun v => Instr.fieldAt 68 v 1) (.tmp 17) (pt t 0) (pt t 1) (fun _ => rfl) rfl (by kernel_rfl) rfl ?_
  refine wl_load 65 (.tmp 18) (pt t 1) (pp tr.p) rfl rfl (run_one hS.tr 65 1 rfl Try.underlying65 rfl) rfl ?_
  refine wl_bsl [(0, (.tmp 19))] [pp tr.p] 1 rfl rfl (bs1 tr.p) rfl ?_
  intro g2 w4 hk hz hq Q2
  have nd_g2 : ¬ D g2 := fun e => by have := hS.lt e; omega
  replace Q1 := Q1.mo hq
  replace hS := hS.mo hq
  replace hM := hM.mo hq
  replace M := M.trans hq
  clear hk hz hq
  refine wl_callg 34 [(.tmp 15), (.tmp 20)] _ [pt t 0, .slice (some ⟨g2, 0, none⟩) 1 1] (.tuple #[]) rfl rfl (fun _ _ => by kernel_rfl) (look_n [tr.p] g2 hS Q2 nd_g2 (by simp only [List.length_cons, List.length_nil]; omega)) rfl ?_
  intro w5 hF
  replace Q1 := hF.2.at Q1 nd_k1
  have hc1 := cnt_le [tr.p]
  simp only [List.length_cons, List.length_nil] at hc1
  obtain ⟨hS2, hM2⟩ := hF
  replace hS := hS2
  replace M := M.same hM2
  replace hM := hM.mk hM2 hS.nb
  clear hS2 hM2 Q2 nd_g2
  refine w_nil ?_
  refine xn_then ?_
  refine w_seq ?_
  refine w_reg ?_
  refine wl_mv (.tmp 0) (pt t 0) (fun _ => rfl) rfl rfl ?_
  refine wl_nc (.tmp 22) t 0 rfl rfl rfl ?_
  refine wl_un (fun v => Instr.fieldAt 68 v 1) (.tmp 23) (pt t 0) (pt t 1) (fun _ => rfl) rfl (by kernel_rfl) rfl ?_
  refine wl_load 65 (.tmp 24) (pt t 1) (pp tr.p) rfl rfl (run_one hS.tr 65 1 rfl Try.underlying65 rfl) rfl ?_
  refine wl_mv (.tmp 1) (.int .i64 ((cn.toNat : Nat) : Int)) (fun _ => rfl) rfl rfl ?_
  refine wl_call 35 [(.tmp 25), (.tmp 26)] _ [pp tr.p, .int .i64 ((cn.toNat : Nat) : Int)] (.agg #[.int .i64 ((col cn.toNat (mb.sc.getD cn.toNat 0) tr.ids)).r, .int .i64 ((col cn.toNat (mb.sc.getD cn.toNat 0) tr.ids)).f, .int .i64 ((col cn.toNat (mb.sc.getD cn.toNat 0) tr.ids)).k, .int .i64 ((col cn.toNat (mb.sc.getD cn.toNat 0) tr.ids)).d, .int .i64 ((col cn.toNat (mb.sc.getD cn.toNat 0) tr.ids)).e, .int .u64 (l0 ((col cn.toNat (mb.sc.getD cn.toNat 0) tr.ids)).tt), .int .u64 (l1 ((col cn.toNat (mb.sc.getD cn.toNat 0) tr.ids)).tt), .int .u64 (l2 ((col cn.toNat (mb.sc.getD cn.toNat 0) tr.ids)).tt), .int .u64 (l3 ((col cn.toNat (mb.sc.getD cn.toNat 0) tr.ids)).tt), .int .u64 (l4 ((col cn.toNat (mb.sc.getD cn.toNat 0) tr.ids)).tt), .bool ((col cn.toNat (mb.sc.getD cn.toNat 0) tr.ids)).so, .bool ((col cn.toNat (mb.sc.getD cn.toNat 0) tr.ids)).mn.b, .int .u64 (l0 ((col cn.toNat (mb.sc.getD cn.toNat 0) tr.ids)).mn.n), .int .u64 (l1 ((col cn.toNat (mb.sc.getD cn.toNat 0) tr.ids)).mn.n), .int .u64 (l2 ((col cn.toNat (mb.sc.getD cn.toNat 0) tr.ids)).mn.n), .int .u64 (l3 ((col cn.toNat (mb.sc.getD cn.toNat 0) tr.ids)).mn.n), .int .i64 ((col cn.toNat (mb.sc.getD cn.toNat 0) tr.ids)).mn.s, .bool ((col cn.toNat (mb.sc.getD cn.toNat 0) tr.ids)).mx.b, .int .u64 (l0 ((col cn.toNat (mb.sc.getD cn.toNat 0) tr.ids)).mx.n), .int .u64 (l1 ((col cn.toNat (mb.sc.getD cn.toNat 0) tr.ids)).mx.n), .int .u64 (l2 ((col cn.toNat (mb.sc.getD cn.toNat 0) tr.ids)).mx.n), .int .u64 (l3 ((col cn.toNat (mb.sc.getD cn.toNat 0) tr.ids)).mx.n), .int .i64 ((col cn.toNat (mb.sc.getD cn.toNat 0) tr.ids)).mx.s]) rfl rfl (fun _ _ => by kernel_rfl) (sum_o hS hsum) rfl ?_
  intro w6 hq
  replace Q1 := Q1.mo hq
  replace hS := hS.mo hq
  replace hM := hM.mo hq
  replace M := M.trans hq
  clear hq
  refine wl_stx2 42 (.tmp 4) (.tmp 27) k1 0 #[.int .i64 ((col cn.toNat (mb.sc.getD cn.toNat 0) tr.ids)).r, .int .i64 ((col cn.toNat (mb.sc.getD cn.toNat 0) tr.ids)).f, .int .i64 ((col cn.toNat (mb.sc.getD cn.toNat 0) tr.ids)).k, .int .i64 ((col cn.toNat (mb.sc.getD cn.toNat 0) tr.ids)).d, .int .i64 ((col cn.toNat (mb.sc.getD cn.toNat 0) tr.ids)).e, .int .u64 (l0 ((col cn.toNat (mb.sc.getD cn.toNat 0) tr.ids)).tt), .int .u64 (l1 ((col cn.toNat (mb.sc.getD cn.toNat 0) tr.ids)).tt), .int .u64 (l2 ((col cn.toNat (mb.sc.getD cn.toNat 0) tr.ids)).tt), .int .u64 (l3 ((col cn.toNat (mb.sc.getD cn.toNat 0) tr.ids)).tt), .int .u64 (l4 ((col cn.toNat (mb.sc.getD cn.toNat 0) tr.ids)).tt), .bool ((col cn.toNat (mb.sc.getD cn.toNat 0) tr.ids)).so, .bool ((col cn.toNat (mb.sc.getD cn.toNat 0) tr.ids)).mn.b, .int .u64 (l0 ((col cn.toNat (mb.sc.getD cn.toNat 0) tr.ids)).mn.n), .int .u64 (l1 ((col cn.toNat (mb.sc.getD cn.toNat 0) tr.ids)).mn.n), .int .u64 (l2 ((col cn.toNat (mb.sc.getD cn.toNat 0) tr.ids)).mn.n), .int .u64 (l3 ((col cn.toNat (mb.sc.getD cn.toNat 0) tr.ids)).mn.n), .int .i64 ((col cn.toNat (mb.sc.getD cn.toNat 0) tr.ids)).mn.s, .bool ((col cn.toNat (mb.sc.getD cn.toNat 0) tr.ids)).mx.b, .int .u64 (l0 ((col cn.toNat (mb.sc.getD cn.toNat 0) tr.ids)).mx.n), .int .u64 (l1 ((col cn.toNat (mb.sc.getD cn.toNat 0) tr.ids)).mx.n), .int .u64 (l2 ((col cn.toNat (mb.sc.getD cn.toNat 0) tr.ids)).mx.n), .int .u64 (l3 ((col cn.toNat (mb.sc.getD cn.toNat 0) tr.ids)).mx.n), .int .i64 ((col cn.toNat (mb.sc.getD cn.toNat 0) tr.ids)).mx.s] [.int .i64 0, .int .i64 0, .int .i64 0, .int .i64 0, .int .i64 0, .int .u64 0, .int .u64 0, .int .u64 0, .int .u64 0, .int .u64 0, .bool false, .bool false, .int .u64 0, .int .u64 0, .int .u64 0, .int .u64 0, .int .i64 0, .bool false, .int .u64 0, .int .u64 0, .int .u64 0, .int .u64 0, .int .i64 0] [.int .i64 ((col cn.toNat (mb.sc.getD cn.toNat 0) tr.ids)).r, .int .i64 ((col cn.toNat (mb.sc.getD cn.toNat 0) tr.ids)).f, .int .i64 ((col cn.toNat (mb.sc.getD cn.toNat 0) tr.ids)).k, .int .i64 ((col cn.toNat (mb.sc.getD cn.toNat 0) tr.ids)).d, .int .i64 ((col cn.toNat (mb.sc.getD cn.toNat 0) tr.ids)).e, .int .u64 (l0 ((col cn.toNat (mb.sc.getD cn.toNat 0) tr.ids)).tt), .int .u64 (l1 ((col cn.toNat (mb.sc.getD cn.toNat 0) tr.ids)).tt), .int .u64 (l2 ((col cn.toNat (mb.sc.getD cn.toNat 0) tr.ids)).tt), .int .u64 (l3 ((col cn.toNat (mb.sc.getD cn.toNat 0) tr.ids)).tt), .int .u64 (l4 ((col cn.toNat (mb.sc.getD cn.toNat 0) tr.ids)).tt), .bool ((col cn.toNat (mb.sc.getD cn.toNat 0) tr.ids)).so, .bool ((col cn.toNat (mb.sc.getD cn.toNat 0) tr.ids)).mn.b, .int .u64 (l0 ((col cn.toNat (mb.sc.getD cn.toNat 0) tr.ids)).mn.n), .int .u64 (l1 ((col cn.toNat (mb.sc.getD cn.toNat 0) tr.ids)).mn.n), .int .u64 (l2 ((col cn.toNat (mb.sc.getD cn.toNat 0) tr.ids)).mn.n), .int .u64 (l3 ((col cn.toNat (mb.sc.getD cn.toNat 0) tr.ids)).mn.n), .int .i64 ((col cn.toNat (mb.sc.getD cn.toNat 0) tr.ids)).mn.s, .bool ((col cn.toNat (mb.sc.getD cn.toNat 0) tr.ids)).mx.b, .int .u64 (l0 ((col cn.toNat (mb.sc.getD cn.toNat 0) tr.ids)).mx.n), .int .u64 (l1 ((col cn.toNat (mb.sc.getD cn.toNat 0) tr.ids)).mx.n), .int .u64 (l2 ((col cn.toNat (mb.sc.getD cn.toNat 0) tr.ids)).mx.n), .int .u64 (l3 ((col cn.toNat (mb.sc.getD cn.toNat 0) tr.ids)).mx.n), .int .i64 ((col cn.toNat (mb.sc.getD cn.toNat 0) tr.ids)).mx.s] Q1 rfl rfl rfl rfl rfl zs42 rfl rfl rfl ?_
  intro w7 hT Qn
  replace Q1 := Qn
  have hK := Mk.st1 hT
  replace hM := hM.mk hK (Ne.symm nm_k1)
  replace hS := hS.kept hK (fun j e q => nd_k1 (q ▸ e)) (fun b hb q => ns_k1 b hb q)
  replace M := M.tr hK (fun j hj e => absurd e (by omega))
  clear hT hK Qn
  refine wl_mv (.const (.int .i64 (0))) (.int .i64 (0)) (fun _ => rfl) rfl rfl ?_
  refine w_nil ?_
  refine xn_then ?_
  refine w_ret ?_
  exact w_ret2 _ _ (.agg #[.int .i64 ((col cn.toNat (mb.sc.getD cn.toNat 0) tr.ids)).r, .int .i64 ((col cn.toNat (mb.sc.getD cn.toNat 0) tr.ids)).f, .int .i64 ((col cn.toNat (mb.sc.getD cn.toNat 0) tr.ids)).k, .int .i64 ((col cn.toNat (mb.sc.getD cn.toNat 0) tr.ids)).d, .int .i64 ((col cn.toNat (mb.sc.getD cn.toNat 0) tr.ids)).e, .int .u64 (l0 ((col cn.toNat (mb.sc.getD cn.toNat 0) tr.ids)).tt), .int .u64 (l1 ((col cn.toNat (mb.sc.getD cn.toNat 0) tr.ids)).tt), .int .u64 (l2 ((col cn.toNat (mb.sc.getD cn.toNat 0) tr.ids)).tt), .int .u64 (l3 ((col cn.toNat (mb.sc.getD cn.toNat 0) tr.ids)).tt), .int .u64 (l4 ((col cn.toNat (mb.sc.getD cn.toNat 0) tr.ids)).tt), .bool ((col cn.toNat (mb.sc.getD cn.toNat 0) tr.ids)).so, .bool ((col cn.toNat (mb.sc.getD cn.toNat 0) tr.ids)).mn.b, .int .u64 (l0 ((col cn.toNat (mb.sc.getD cn.toNat 0) tr.ids)).mn.n), .int .u64 (l1 ((col cn.toNat (mb.sc.getD cn.toNat 0) tr.ids)).mn.n), .int .u64 (l2 ((col cn.toNat (mb.sc.getD cn.toNat 0) tr.ids)).mn.n), .int .u64 (l3 ((col cn.toNat (mb.sc.getD cn.toNat 0) tr.ids)).mn.n), .int .i64 ((col cn.toNat (mb.sc.getD cn.toNat 0) tr.ids)).mn.s, .bool ((col cn.toNat (mb.sc.getD cn.toNat 0) tr.ids)).mx.b, .int .u64 (l0 ((col cn.toNat (mb.sc.getD cn.toNat 0) tr.ids)).mx.n), .int .u64 (l1 ((col cn.toNat (mb.sc.getD cn.toNat 0) tr.ids)).mx.n), .int .u64 (l2 ((col cn.toNat (mb.sc.getD cn.toNat 0) tr.ids)).mx.n), .int .u64 (l3 ((col cn.toNat (mb.sc.getD cn.toNat 0) tr.ids)).mx.n), .int .i64 ((col cn.toNat (mb.sc.getD cn.toNat 0) tr.ids)).mx.s]) (.int .i64 (0)) rfl ⟨k1, rfl, (run_row Q1 42 0 23 [.int .i64 ((col cn.toNat (mb.sc.getD cn.toNat 0) tr.ids)).r, .int .i64 ((col cn.toNat (mb.sc.getD cn.toNat 0) tr.ids)).f, .int .i64 ((col cn.toNat (mb.sc.getD cn.toNat 0) tr.ids)).k, .int .i64 ((col cn.toNat (mb.sc.getD cn.toNat 0) tr.ids)).d, .int .i64 ((col cn.toNat (mb.sc.getD cn.toNat 0) tr.ids)).e, .int .u64 (l0 ((col cn.toNat (mb.sc.getD cn.toNat 0) tr.ids)).tt), .int .u64 (l1 ((col cn.toNat (mb.sc.getD cn.toNat 0) tr.ids)).tt), .int .u64 (l2 ((col cn.toNat (mb.sc.getD cn.toNat 0) tr.ids)).tt), .int .u64 (l3 ((col cn.toNat (mb.sc.getD cn.toNat 0) tr.ids)).tt), .int .u64 (l4 ((col cn.toNat (mb.sc.getD cn.toNat 0) tr.ids)).tt), .bool ((col cn.toNat (mb.sc.getD cn.toNat 0) tr.ids)).so, .bool ((col cn.toNat (mb.sc.getD cn.toNat 0) tr.ids)).mn.b, .int .u64 (l0 ((col cn.toNat (mb.sc.getD cn.toNat 0) tr.ids)).mn.n), .int .u64 (l1 ((col cn.toNat (mb.sc.getD cn.toNat 0) tr.ids)).mn.n), .int .u64 (l2 ((col cn.toNat (mb.sc.getD cn.toNat 0) tr.ids)).mn.n), .int .u64 (l3 ((col cn.toNat (mb.sc.getD cn.toNat 0) tr.ids)).mn.n), .int .i64 ((col cn.toNat (mb.sc.getD cn.toNat 0) tr.ids)).mn.s, .bool ((col cn.toNat (mb.sc.getD cn.toNat 0) tr.ids)).mx.b, .int .u64 (l0 ((col cn.toNat (mb.sc.getD cn.toNat 0) tr.ids)).mx.n), .int .u64 (l1 ((col cn.toNat (mb.sc.getD cn.toNat 0) tr.ids)).mx.n), .int .u64 (l2 ((col cn.toNat (mb.sc.getD cn.toNat 0) tr.ids)).mx.n), .int .u64 (l3 ((col cn.toNat (mb.sc.getD cn.toNat 0) tr.ids)).mx.n), .int .i64 ((col cn.toNat (mb.sc.getD cn.toNat 0) tr.ids)).mx.s] rfl Try.underlying42 rfl zs42)⟩ rfl ⟨((lk) + cnt [tr.p]), rfl, h.lkd ⟨R, tr.p, ⟨hS, hAp, hC, hR, hn⟩⟩ hM (by omega), by omega, by omega, M⟩
end
end G
end Go.Proofs.Ythfemlhmnjfjiaa
/-
  Parts of a column.
-/
namespace Go.Proofs.Ythfemlhmnjfjiaa
open Go.RowKit
namespace G
section
variable {c : Nat} {s a b : Int} {L A B : List Py} {y : Py}
theorem j2 {S U : Sm} (h : Gd s S) : [S, U].foldl jn sm0 = jn S U := by
  show jn (jn sm0 S) U = _
  rw [jn_0l h]
end
end G
end Go.Proofs.Ythfemlhmnjfjiaa
/-
  part: a column's summary of some rows.
-/
namespace Go.Proofs.Ythfemlhmnjfjiaa
open Go.RowKit
namespace G
/-- How many nodes are looked at. -/
def pbd (a b s h : Int) (lk lk' : Int) : Prop := lk' ≤ lk + 1 + 4 * h ∧ (a ≤ 0 ∨ s ≤ b → lk' ≤ lk + 1 + 2 * h) ∧ (b ≤ 0 ∨ s ≤ a ∨ (a ≤ 0 ∧ s ≤ b) → lk' ≤ lk + 1)
end G
end Go.Proofs.Ythfemlhmnjfjiaa
/-
  Another value in a row: what is to be reckoned anew.
-/
namespace Go.Proofs.Ythfemlhmnjfjiaa
open Go.RowKit
namespace G
/-- One of a record's values is written. -/
theorem HS.val {D : Nat → Prop} {w : World} {t : Nat} {mb : Hd} {M : Mp} {root : Option Nat} {lk : Int} (h : HS D w t mb M root lk) (A : Ap M) {k : Nat} {r : Rc} (e : M k = some r) {c b off cap : Nat} (hc : c < r.i.vs.length) (x : V10) (hx : x.n.ok) (hh : r.i.v = .slice (some ⟨b, off, none⟩) r.i.vs.length cap) :
    HS D (w.setCells b (off + c * 10) x.cells) t mb (ud M k ⟨r.u, r.l, r.r, r.s, ⟨r.i.i, r.i.v, r.i.vs.set c x⟩, r.h, r.c⟩) root lk := by
  have s := St2.mk2 w b (off + c * 10) x.cells
  have hK := Mk.st1 s
  have hob : ob r.i.v = some b := by rw [hh]; exact ob_slice (by omega)
  obtain ⟨db, bt, Mb⟩ := h.ds e (Or.inl hob)
  have hne : ∀ {j q}, M j = some q → j ≠ b := fun hj q => by rw [q, Mb] at hj; cases hj
  have hMb : ∀ {y}, M y = none → ud M k ⟨r.u, r.l, r.r, r.s, ⟨r.i.i, r.i.v, r.i.vs.set c x⟩, r.h, r.c⟩ y = none := fun {y} hb => by
    rw [ud_ne _ _ (fun q => by rw [q, e] at hb; cases hb)]; exact hb
  refine ⟨s.other t _ (Ne.symm bt) h.tr, h.sc.kept hK (fun b' hb' q => h.sd b' hb' (by rw [q]; exact db)), h.sd, fun j q hj => ?_, fun j q hj => ?_, fun j q hj => ?_, fun j q hj => ?_, hMb h.mt, h.dt, fun {j q} hj => ?_, fun {j q b'} hj hb => ?_, fun e => by rw [s.size]; exact h.lt e, h.nb, h.nc⟩
  · rcases ud_or hj with ⟨rfl, rfl⟩ | ⟨hn, hj⟩
    · exact s.other j _ (hne e) (h.rc j r e)
    · exact s.other j _ (hne hj) (h.rc j q hj)
  · rcases ud_or hj with ⟨rfl, rfl⟩ | ⟨hn, hj⟩
    · exact s.cb _ (h.cb _ r e)
    · exact s.cb _ (h.cb j q hj)
  · rcases ud_or hj with ⟨rfl, rfl⟩ | ⟨hn, hj⟩
    · obtain ⟨a1, a2, a3⟩ := h.sv j r e
      refine ⟨?_, by rw [List.length_set]; exact a2, fun X hX => ?_⟩
      · have := a1.set (i := c) (by rw [List.length_map]; exact hh) (by rw [List.length_map]; exact hc) x.cells rfl (fun z hz => by obtain ⟨y, _, rfl⟩ := List.mem_map.1 hz; rfl)
        rw [← List.map_set] at this
        exact this
      · rcases List.mem_or_eq_of_mem_set hX with hX | rfl
        · exact a3 X hX
        · exact hx
    · exact ⟨(h.sv j q hj).1.kept hK (fun b' hb' z => A.vv e hj (Ne.symm hn) hob (z ▸ hb')), (h.sv j q hj).2⟩
  · rcases ud_or hj with ⟨rfl, rfl⟩ | ⟨hn, hj⟩
    · exact ⟨(h.ss _ r e).1.kept hK (fun b' hb' q => A.hv e e (q ▸ hb') hob), (h.ss _ r e).2⟩
    · exact ⟨(h.ss j q hj).1.kept hK (fun b' hb' z => A.hv hj e (z ▸ hb') hob), (h.ss j q hj).2⟩
  · rcases ud_or hj with ⟨rfl, rfl⟩ | ⟨hn, hj⟩
    · exact h.dk e
    · exact h.dk hj
  · rcases ud_or hj with ⟨rfl, rfl⟩ | ⟨hn, hj⟩
    · obtain ⟨a1, a2, a3⟩ := h.ds e hb; exact ⟨a1, a2, hMb a3⟩
    · obtain ⟨a1, a2, a3⟩ := h.ds hj hb; exact ⟨a1, a2, hMb a3⟩
/-- Trees alike in all but values. -/
def Sim : T → T → Prop
  | .e, .e => True
  | .n k i s l r, .n k' i' s' l' r' => k = k' ∧ i.i = i'.i ∧ s = s' ∧ Sim l l' ∧ Sim r r'
  | .e, .n _ _ _ _ _ => False
  | .n _ _ _ _ _, .e => False
theorem Sim.same : ∀ a : T, Sim a a
  | .e => trivial
  | .n _ _ _ l r => ⟨rfl, rfl, rfl, Sim.same l, Sim.same r⟩
theorem Sim.plug : ∀ (C : Cx) {a b : T}, Sim a b → Sim (plug C a) (plug C b)
  | [], _, _, h => h
  | f :: C, a, b, h => Sim.plug C (a := f.jn a) (b := f.jn b) (by
    unfold Fr.jn
    split
    · exact ⟨rfl, rfl, rfl, Sim.same _, h⟩
    · exact ⟨rfl, rfl, rfl, h, Sim.same _⟩)
theorem Sim.all : ∀ {a b : T}, Sim a b → a.p = b.p ∧ a.ad = b.ad ∧ a.sz = b.sz ∧ a.ht = b.ht ∧ a.kv = b.kv ∧ (a.ok → b.ok) ∧ (a.bw → b.bw)
  | .e, .e, _ => ⟨rfl, rfl, rfl, rfl, rfl, fun h => h, fun h => h⟩
  | .n k i s l r, .n k' i' s' l' r', h => by
    obtain ⟨rfl, hi, rfl, h1, h2⟩ := h
    obtain ⟨a1, a2, a3, a4, a5, a6, a7⟩ := h1.all
    obtain ⟨b1, b2, b3, b4, b5, b6, b7⟩ := h2.all
    refine ⟨rfl, by unfold T.ad; rw [a2, b2], by unfold T.sz; rw [a3, b3], by unfold T.ht; rw [a4, b4], by unfold T.kv; rw [a5, b5, hi], fun h => ?_, fun h => ?_⟩
    · exact ⟨by rw [← a3, ← b3]; exact h.1, a6 h.2.1, b6 h.2.2⟩
    · exact ⟨by rw [← a3, ← b3]; exact h.1, by rw [← a3, ← b3]; exact h.2.1, a7 h.2.2.1, b7 h.2.2.2⟩
/-- Right in all columns but one. -/
def Alm (sc : List Int) (c : Nat) (cs : List Sm) (L : List Py) : Prop := cs.length = sc.length ∧ ∀ d, d < sc.length → d ≠ c → cs[d]? = some (col d (sc.getD d 0) L)
def RepU (sc : List Int) (c : Nat) (R : Mp) (root : Option Nat) : Cx → T → Prop
  | [], tr => root = tr.p
  | f :: C, tr => (∃ h cs, R f.k = some (f.rc (top C) tr.p h cs) ∧ Alm sc c cs (f.jn tr).ids) ∧ Rep sc R (some f.k) f.o ∧ RepU sc c R root C (f.jn tr)
/-- From a place upwards one column is still to be reckoned. -/
def Mu (sc : List Int) (c : Nat) (R : Mp) (root : Option Nat) (T' : T) (m : Nat) (x : Option Nat) : Prop := match x with
  | none => root = T'.p ∧ Rep sc R none T' ∧ m = 0
  | some k => ∃ C i s l r h cs, plug C (.n k i s l r) = T' ∧ m = C.length + 1 ∧ R k = some ⟨top C, l.p, r.p, s, i, h, cs⟩ ∧ Alm sc c cs (l.ids ++ i :: r.ids) ∧ Rep sc R (some k) l ∧ Rep sc R (some k) r ∧ RepU sc c R root C (.n k i s l r) ∧ (adC C ++ (T.n k i s l r).ad).Nodup
theorem RepU.ud {sc : List Int} {c : Nat} {R : Mp} {root : Option Nat} {k : Nat} {q : Rc} : ∀ {C : Cx} {tr : T}, k ∉ adC C → RepU sc c R root C tr → RepU sc c (ud R k q) root C tr
  | [], _, _, h => h
  | f :: C, tr, hk, h => by
    obtain ⟨⟨hh, cs, e, a⟩, h2, h3⟩ := h
    unfold adC at hk
    simp only [List.mem_cons, List.mem_append, not_or] at hk
    exact ⟨⟨hh, cs, (ud_ne _ _ (Ne.symm hk.1)).trans e, a⟩, h2.ud hk.2.1, RepU.ud hk.2.2 h3⟩
theorem Alm.done {sc : List Int} {c : Nat} {cs : List Sm} {L : List Py} (h : Alm sc c cs L) (hc : c < sc.length) : cs.set c (col c (sc.getD c 0) L) = agg sc L := by
  apply List.ext_getElem?
  intro d
  by_cases hd : d < sc.length
  · rw [agg_at hd]
    by_cases e : c = d
    · subst e; exact List.getElem?_set_self (by rw [h.1]; exact hc)
    · rw [List.getElem?_set_ne e]; exact h.2 d hd (Ne.symm e)
  · rw [List.getElem?_eq_none (by rw [List.length_set, h.1]; omega), List.getElem?_eq_none (by unfold agg; simp; omega)]
theorem Mu.step {sc : List Int} {c : Nat} {R : Mp} {root : Option Nat} {C : Cx} {k : Nat} {i : Py} {s : Int} {l r : T} {h : Value} {cs : List Sm} (hc : c < sc.length) (ha : Alm sc c cs (l.ids ++ i :: r.ids)) (hl : Rep sc R (some k) l) (hr : Rep sc R (some k) r) (hU : RepU sc c R root C (.n k i s l r)) (hn : (adC C ++ (T.n k i s l r).ad).Nodup) :
    Mu sc c (ud R k ⟨top C, l.p, r.p, s, i, h, cs.set c (col c (sc.getD c 0) (l.ids ++ i :: r.ids))⟩) root (plug C (.n k i s l r)) C.length (top C) := by
  obtain ⟨n1, n2, n3⟩ := nd_pos hn
  have hkC : k ∉ adC C := fun m => n3 k m (by unfold T.ad; simp)
  have hkl : k ∉ l.ad ∧ k ∉ r.ad := by
    unfold T.ad at n2
    have := (List.nodup_cons.1 n2).1
    simp only [List.mem_append, not_or] at this
    exact this
  rw [ha.done hc]
  have hR' : Rep sc (G.ud R k ⟨top C, l.p, r.p, s, i, h, agg sc (l.ids ++ i :: r.ids)⟩) (top C) (.n k i s l r) := ⟨⟨h, ud_same _ _ _⟩, hl.ud hkl.1, hr.ud hkl.2⟩
  have hU' := hU.ud (q := ⟨top C, l.p, r.p, s, i, h, agg sc (l.ids ++ i :: r.ids)⟩) hkC
  cases C with
  | nil => exact ⟨hU', hR', rfl⟩
  | cons f C =>
    obtain ⟨⟨hh, cs2, e, a⟩, h2, h3⟩ := hU'
    have hp := (ad_up f C (.n k i s l r)).nodup_iff.1 hn
    unfold Fr.rc at e
    unfold Fr.jn at a h3 hp
    cases hd : f.d with
    | true =>
      rw [hd] at e a h3 hp
      exact ⟨C, f.i, f.s, f.o, .n k i s l r, hh, cs2, by show plug C _ = plug C (f.jn _); unfold Fr.jn; rw [hd]; rfl, rfl, e, a, h2, hR', h3, hp⟩
    | false =>
      rw [hd] at e a h3 hp
      exact ⟨C, f.i, f.s, .n k i s l r, f.o, hh, cs2, by show plug C _ = plug C (f.jn _); unfold Fr.jn; rw [hd]; rfl, rfl, e, a, hR', h2, h3, hp⟩
theorem col_ext {d : Nat} {s : Int} {A B : List Py} {y z : Py} (h : y.vs.getD d v0 = z.vs.getD d v0) : col d s (A ++ y :: B) = col d s (A ++ z :: B) := by
  unfold col; rw [List.map_append, List.map_append, List.map_cons, List.map_cons, h]
theorem Alm.of {sc : List Int} {c : Nat} {A B : List Py} {y z : Py} (h : ∀ d, d ≠ c → y.vs.getD d v0 = z.vs.getD d v0) : Alm sc c (agg sc (A ++ y :: B)) (A ++ z :: B) :=
  ⟨by unfold agg; simp, fun d hd hn => by rw [agg_at hd, col_ext (h d hn)]⟩
/-- The rows of a place and of what is above. -/
theorem jn_mid (f : Fr) {tr : T} {A B : List Py} {y : Py} (h : tr.ids = A ++ y :: B) : ∃ A' B', (f.jn tr).ids = A' ++ y :: B' ∧ ∀ (tr' : T) (z : Py), tr'.ids = A ++ z :: B → (f.jn tr').ids = A' ++ z :: B' := by
  unfold Fr.jn
  cases f.d with
  | true => exact ⟨f.o.ids ++ f.i :: A, B, by simp [T.ids, h], fun tr' z h' => by simp [T.ids, h']⟩
  | false => exact ⟨A, B ++ f.i :: f.o.ids, by simp [T.ids, h], fun tr' z h' => by simp [T.ids, h']⟩
theorem Fr.jn_ud {sc : List Int} {R : Mp} {u : Option Nat} {f : Fr} {tr : T} (h : Rep sc R u (f.jn tr)) : ∃ hh, R f.k = some (f.rc u tr.p hh (agg sc (f.jn tr).ids)) := by
  unfold Fr.rc
  unfold Fr.jn at h ⊢
  cases hd : f.d with
  | true => rw [hd] at h; exact h.1
  | false => rw [hd] at h; exact h.1
/-- Another row at a place, that is alike in all columns but one. -/
theorem RepU.of {sc : List Int} {c : Nat} {R : Mp} {root : Option Nat} {k : Nat} {q : Rc} {y z : Py} (hyz : ∀ d, d ≠ c → y.vs.getD d v0 = z.vs.getD d v0) : ∀ (C : Cx) {tr tr' : T} {A B : List Py}, root = (plug C tr).p → Rep sc R none (plug C tr) → tr.p = tr'.p → tr.ids = A ++ y :: B → tr'.ids = A ++ z :: B → k ∉ adC C → RepU sc c (G.ud R k q) root C tr'
  | [], tr, tr', A, B, h0, _, hp, _, _, _ => h0.trans hp
  | f :: C, tr, tr', A, B, h0, hR, hp, h1, h2, hk => by
    obtain ⟨A', B', e1, e2⟩ := jn_mid f h1
    unfold adC at hk
    simp only [List.mem_cons, List.mem_append, not_or] at hk
    have hsub : ∀ (C : Cx) {tr : T}, Rep sc R none (plug C tr) → Rep sc R (top C) tr := fun C => by
      induction C with
      | nil => intro tr h; exact h
      | cons g C ih =>
        intro tr h
        have := ih (tr := g.jn tr) h
        unfold Fr.jn at this
        cases hd : g.d with
        | true => rw [hd] at this; exact this.2.2
        | false => rw [hd] at this; exact this.2.1
    have hj : Rep sc R (top C) (f.jn tr) := hsub C hR
    obtain ⟨hh, e⟩ := Fr.jn_ud hj
    have ho : Rep sc R (some f.k) f.o := by
      unfold Fr.jn at hj
      cases hd : f.d with
      | true => rw [hd] at hj; exact hj.2.1
      | false => rw [hd] at hj; exact hj.2.2
    refine ⟨⟨hh, _, (ud_ne _ _ (Ne.symm hk.1)).trans (by rw [← hp]; exact e), ?_⟩, ho.ud hk.2.1, ?_⟩
    · rw [e1, e2 tr' z h2]; exact Alm.of hyz
    · exact RepU.of hyz C (tr := f.jn tr) (tr' := f.jn tr') h0 hR (by rw [f.jn_p, f.jn_p]) e1 (e2 tr' z h2) hk.2.2
end G
end Go.Proofs.Ythfemlhmnjfjiaa
/-
  mendUp: one column is reckoned anew up to the root.
-/
namespace Go.Proofs.Ythfemlhmnjfjiaa
open Go.RowKit
namespace G
section
variable {D : Nat → Prop} {t : Nat} {mb : Hd} {R : Mp} {root : Option Nat} {c : Nat} {lk : Int} {T' : T}
theorem mendUp_n {w : World} (x : Option Nat) {m0 : Nat} (hS : HS D w t mb R root lk) (hA : Ap R) (hU : Mu mb.sc c R root T' m0 x) (hc : c < mb.sc.length) (h0 : 0 ≤ lk) (hlk : lk + 3 * m0 ≤ 4000000000000000000) : Calls Try.prog 39 #[pt t 0, pp x, .int .i64 (c : Int)] w fun e w' => e = .returned (.tuple #[]) ∧ ∃ R' lk', HS D w' t mb R' root lk' ∧ Ap R' ∧ Mu mb.sc c R' root T' 0 none ∧ lk ≤ lk' ∧ lk' ≤ lk + 3 * m0 ∧ (0 < m0 → lk < lk') ∧ Mk D w w' := by
  have hsc : mb.sc[c]? = some (mb.sc.getD c 0) := by rw [List.getD_eq_getElem?_getD, List.getElem?_eq_getElem hc]; rfl
  refine w_enter 30 Try.func39 Try.ntmps39 rfl rfl ?_
  have M : Mk D w w := Mk.refl _ _
  refine w_block ?_
  refine w_loop (fun m l w1 => ∃ (x : Option Nat) (R : Mp) (lk1 : Int), look l 0 = pt t 0 ∧ look l 1 = pp x ∧ look l 2 = .int .i64 (c : Int) ∧ HS D w1 t mb R root lk1 ∧ Ap R ∧ Mu mb.sc c R root T' m x ∧ lk ≤ lk1 ∧ lk1 + 3 * m ≤ lk + 3 * m0 ∧ (m < m0 → lk < lk1) ∧ m ≤ m0 ∧ Mk D w w1) m0 ⟨x, R, lk, rfl, rfl, rfl, hS, hA, hU, by omega, by omega, fun h => absurd h (Nat.lt_irrefl _), by omega, M⟩ ?_
  clear M hS hA hU
  rintro m l wl ⟨x1, R, lk1, g0, g1, g2, hS, hA, hU, hl1, hl2, hl3, hm, M⟩
  cases x1 with
  | none =>
    refine w_seq ?_
    refine w_seq ?_
    refine w_reg ?_
    refine wl_mv (.tmp 1) (pp none) (fun _ => rfl) g1 rfl ?_
    refine wl_bin (fun x y => do eqGuard .neq 65 (.tmp 6) (.const (.pointer none)) x y; binOp .neq 65 x y) (.tmp 6) (.const (.pointer none)) (pp none) (pp none) (.bool false) (fun _ => rfl) rfl rfl (neP none _ _ _) rfl ?_
    refine w_nil ?_
    refine xn_then ?_
    refine w_condF rfl ?_
    refine w_exit ?_
    refine xx_then ?_
    refine xx_then ?_
    refine xx_blk ?_
    exact w_end0 rfl ⟨rfl, R, lk1, hS, hA, ⟨hU.1, hU.2.1, rfl⟩, hl1, by omega, fun h => hl3 (by have := hU.2.2; omega), M⟩
  | some k =>
    obtain ⟨C, i, s, lT, rT, hd1, cs, hT, hmC, hk, ha, hl, hr, hUc, hn⟩ := hU
    have hoks := Rep.oks hS hl
    have hokr := Rep.oks hS hr
    have hoki : i.ok := (hS.sv k _ hk).2.2
    have hvl : i.vs.length = mb.sc.length := (hS.sv k _ hk).2.1
    have hcv : i.vs[c]? = some (i.vs.getD c v0) := by rw [List.getD_eq_getElem?_getD, List.getElem?_eq_getElem (by omega)]; rfl
    refine w_seq ?_
    refine w_seq ?_
    refine w_reg ?_
    refine wl_mv (.tmp 1) (pt k 0) (fun _ => rfl) g1 rfl ?_
    refine wl_bin (fun x y => do eqGuard .neq 65 (.tmp 6) (.const (.pointer none)) x y; binOp .neq 65 x y) (.tmp 6) (.const (.pointer none)) (pt k 0) (pp none) (.bool true) (fun _ => rfl) rfl rfl (neP (some k) _ _ _) rfl ?_
    refine w_nil ?_
    refine xn_then ?_
    refine w_condT rfl ?_
    refine w_skip ?_
    refine xn_then ?_
    refine w_block ?_
    refine w_seq ?_
    refine w_any 12 [.inl (pt t 0), .inl (pt k 0), .inl (pt k 0), .inl (pt k 0), .inl (pt k 3), .inl (pt k 3), .inl (pp lT.p), .inl (pt k 0), .inl (pt k 0), .inl (pt k 3), .inl (pt k 4), .inl (pp rT.p)] [0] (by kernel_rfl) (by kernel_rfl) (by kernel_rfl) (by kernel_rfl) rfl (by kernel_rfl) (by kernel_rfl) (late_cons ⟨_, _, rfl, rfl, fun _ _ _ _ h => h, fun f hd => ⟨rfl, la_mv (.tmp 0) (pt t 0) (fun _ => rfl) g0⟩⟩ late_nil) ?_ ?_ ?_
    · exact Ds.none rfl
    · refine ea_cons ?_ (ea_cons ?_ (ea_cons ?_ (ea_cons ?_ (ea_cons ?_ (ea_cons ?_ (ea_cons ?_ (ea_cons ?_ (ea_cons ?_ (ea_cons ?_ (ea_cons ?_ (ea_cons ?_ (ea_nil))))))))))))
      · exact og_eq (pt t 0) rfl (fun f wf hq hd K hK => go_run rfl (wo_mv (.tmp 0) (pt t 0) (fun _ => rfl) g0 (hK _ (Mo.refl _))))
      · exact og_eq (pt k 0) rfl (fun f wf hq hd K hK => go_run rfl (wo_mv (.tmp 1) (pt k 0) (fun _ => rfl) g1 (hK _ (Mo.refl _))))
      · exact og_eq (pt k 0) rfl (fun f wf hq hd K hK => go_run rfl (wo_mv (.tmp 1) (pt k 0) (fun _ => rfl) g1 (hK _ (Mo.refl _))))
      · exact og_eq (pt k 0) rfl (fun f wf hq hd K hK => go_run rfl (wo_nc (.tmp 10) k 0 rfl (hd 2 rfl) (hK _ (Mo.refl _))))
      · exact og_eq (pt k 3) rfl (fun f wf hq hd K hK => go_run rfl (wo_un (fun v => Instr.fieldAt 93 v 2) (.tmp 11) (pt k 0) (pt k 3) (fun _ => rfl) (hd 3 rfl) (by kernel_rfl) (hK _ (Mo.refl _))))
      · exact og_eq (pt k 3) rfl (fun f wf hq hd K hK => go_run rfl (wo_bin (fun x y => Instr.indexAt 91 x y) (.tmp 12) (.const (.int .i64 (0))) (pt k 3) (.int .i64 (0)) (pt k 3) (fun _ => rfl) (hd 4 rfl) rfl (by kernel_rfl) (hK _ (Mo.refl _))))
      · exact og_eq (pp lT.p) rfl (fun f wf hq hd K hK => have hS := hS.mo hq; go_run rfl (wo_load 65 (.tmp 13) (pt k 3) (pp lT.p) rfl (hd 5 rfl) (run_one (hS.rc k _ hk) 65 3 rfl Try.underlying65 rfl) (hK _ (Mo.refl _))))
      · exact og_eq (pt k 0) rfl (fun f wf hq hd K hK => go_run rfl (wo_mv (.tmp 1) (pt k 0) (fun _ => rfl) g1 (hK _ (Mo.refl _))))
      · exact og_eq (pt k 0) rfl (fun f wf hq hd K hK => go_run rfl (wo_nc (.tmp 15) k 0 rfl (hd 7 rfl) (hK _ (Mo.refl _))))
      · exact og_eq (pt k 3) rfl (fun f wf hq hd K hK => go_run rfl (wo_un (fun v => Instr.fieldAt 93 v 2) (.tmp 16) (pt k 0) (pt k 3) (fun _ => rfl) (hd 8 rfl) (by kernel_rfl) (hK _ (Mo.refl _))))
      · exact og_eq (pt k 4) rfl (fun f wf hq hd K hK => go_run rfl (wo_bin (fun x y => Instr.indexAt 91 x y) (.tmp 17) (.const (.int .i64 (1))) (pt k 3) (.int .i64 (1)) (pt k 4) (fun _ => rfl) (hd 9 rfl) rfl (by kernel_rfl) (hK _ (Mo.refl _))))
      · exact og_eq (pp rT.p) rfl (fun f wf hq hd K hK => have hS := hS.mo hq; go_run rfl (wo_load 65 (.tmp 18) (pt k 4) (pp rT.p) rfl (hd 10 rfl) (run_one (hS.rc k _ hk) 65 4 rfl Try.underlying65 rfl) (hK _ (Mo.refl _))))
    intro kf21 w21 hq _ _
    replace hS := hS.mo hq
    replace M := M.trans hq
    clear hq
    refine wl_bsl [(0, (.tmp 9)), (1, (.tmp 14)), (2, (.tmp 19))] [pp (some k), pp lT.p, pp rT.p] 3 rfl rfl (bs3 (some k) lT.p rT.p) rfl ?_
    intro g21 w22 hk hz hq Q21
    have nd_g21 : ¬ D g21 := fun e => by have := hS.lt e; omega
    replace hS := hS.mo hq
    replace M := M.trans hq
    clear hk hz hq
    refine wl_callg 34 [(.tmp 8), (.tmp 20)] _ [pt t 0, .slice (some ⟨g21, 0, none⟩) 3 3] (.tuple #[]) rfl rfl (fun _ _ => by kernel_rfl) (look_n [(some k), lT.p, rT.p] g21 hS Q21 nd_g21 (by simp only [List.length_cons, List.length_nil]; omega)) rfl ?_
    intro w23 hF
    obtain ⟨hS2, hM2⟩ := hF
    replace hS := hS2
    replace M := M.same hM2
    clear hS2 hM2 Q21 nd_g21
    refine w_nil ?_
    refine xn_then ?_
    refine w_seq ?_
    refine w_reg ?_
    refine wl_mv (.tmp 0) (pt t 0) (fun _ => rfl) g0 rfl ?_
    refine wl_mv (.tmp 1) (pt k 0) (fun _ => rfl) g1 rfl ?_
    refine wl_mv (.tmp 2) (.int .i64 ((c : Nat) : Int)) (fun _ => rfl) g2 rfl ?_
    refine wl_callg 55 [(.tmp 22), (.tmp 23), (.tmp 24)] _ [pt t 0, pt k 0, .int .i64 ((c : Nat) : Int)] (.tuple #[]) rfl rfl (fun _ _ => by kernel_rfl) (mendc_n hS hA hk (x := i.vs.getD c v0) (s := mb.sc.getD c 0) hcv hsc (smo_of hl hc) (smo_of hr hc)) rfl ?_
    intro w24 hF
    obtain ⟨hS2, hM2⟩ := hF
    rw [col_mid hoks hoki hokr] at hS2
    replace hS := hS2
    replace M := M.same hM2
    clear hS2 hM2
    replace hA := hA.wr hk (r' := ⟨top C, lT.p, rT.p, s, i, hd1, cs.set c (col c (mb.sc.getD c 0) (lT.ids ++ i :: rT.ids))⟩) rfl rfl
    have hU := Mu.step (h := hd1) hc ha hl hr hUc hn
    rw [hT] at hU
    clear ha hl hr hUc
    replace hk := ud_same R k ⟨top C, lT.p, rT.p, s, i, hd1, cs.set c (col c (mb.sc.getD c 0) (lT.ids ++ i :: rT.ids))⟩
    refine w_nil ?_
    refine xn_then ?_
    refine w_reg ?_
    refine wl_mv (.tmp 1) (pt k 0) (fun _ => rfl) g1 rfl ?_
    refine wl_nc (.tmp 26) k 0 rfl rfl rfl ?_
    refine wl_un (fun v => Instr.fieldAt 93 v 1) (.tmp 27) (pt k 0) (pt k 2) (fun _ => rfl) rfl (by kernel_rfl) rfl ?_
    refine wl_load 65 (.tmp 28) (pt k 2) (pp ((top C))) rfl rfl (run_one (hS.rc k _ hk) 65 2 rfl Try.underlying65 rfl) rfl ?_
    refine wl_mv (.tmp 29) (pp ((top C))) (fun _ => rfl) rfl rfl ?_
    refine w_nil ?_
    refine xn_blk ?_
    have hcn := cnt_le [some k, lT.p, rT.p]
    have hc1 : 1 ≤ cnt [some k, lT.p, rT.p] := by unfold cnt; have := (cnt_bd [lT.p, rT.p] 1).1; exact this
    simp only [List.length_cons, List.length_nil] at hcn
    exact xn_loop (m - 1) (by omega) ⟨top C, _, _, g0, rfl, g2, hS, hA, by rw [show m - 1 = C.length by omega]; exact hU, by omega, by omega, fun _ => by omega, by omega, M⟩
end
end G
end Go.Proofs.Ythfemlhmnjfjiaa
/-
  The tree's Query, Get, Set.
-/
namespace Go.Proofs.Ythfemlhmnjfjiaa
open Go.RowKit
namespace G
section
variable {D : Nat → Prop} {w : World} {t : Nat} {mb : Hd} {R : Mp} {root : Option Nat} {lk : Int}
theorem set_x {tr : T} {cn id : Int} {x : V10} (h : FT D w t mb tr lk) (qc : (decide (0 ≤ cn) && decide (cn < (mb.sc.length : Int))) = false) : Calls Try.prog 17 #[pt t 0, .int .i64 id, .int .i64 cn, V10.v x] w fun e w' => e = .returned (.int .i64 1) ∧ Mo w w' := by
  obtain ⟨R, root, hS, hAp, hC, hR, hn⟩ := h.ts
  have hM := h.om
  have hDlt : ∀ j, D j → j < w.heap.size := fun j e => hS.lt e
  have hslt : ∀ b, ob mb.h = some b → b < w.heap.size := fun b e => hS.sc.lt e
  have hmlt := hM.lt
  refine w_enter 37 Try.func17 Try.ntmps17 rfl rfl ?_
  have M : Mk (fun _ => False) w w := Mk.refl _ _
  refine w_seq ?_
  refine w_reg ?_
  refine wl_box 55 (.tmp 3) (V10.v x) (((V10.cells x).toArray)) rfl rfl (fun _ => by kernel_rfl) rfl ?_
  intro k1 w1 hk9 hz hq Q1
  have hMs := M.size
  have N_k1 : w.heap.size ≤ k1 := by omega
  have nd_k1 : ¬ D k1 := fun e => by have := hDlt _ e; omega
  have ns_k1 : ∀ b, ob mb.h = some b → b ≠ k1 := fun b hb => by have := hslt b hb; omega
  have nm_k1 : k1 ≠ mb.m := by omega
  replace hS := hS.mo hq
  replace hM := hM.mo hq
  replace M := M.trans hq
  clear hk9 hz hq hMs
  refine wl_mv (.const (.int .i64 (0))) (.int .i64 (0)) (fun _ => rfl) rfl rfl ?_
  refine w_nil ?_
  refine xn_then ?_
  refine w_seq ?_
  refine w_seq ?_
  refine w_reg ?_
  refine wl_mv (.tmp 0) (pt t 0) (fun _ => rfl) rfl rfl ?_
  refine wl_call 30 [(.tmp 10)] _ [pt t 0] (.bool true) rfl rfl (fun _ _ => by kernel_rfl) (made_n hS) rfl ?_
  intro w2 hq
  replace Q1 := Q1.mo hq
  replace hS := hS.mo hq
  replace hM := hM.mo hq
  replace M := M.trans hq
  clear hq
  refine wl_un (fun v => Op.unary .not v) (.tmp 11) (.bool true) (.bool false) (fun _ => rfl) rfl (by kernel_rfl) rfl ?_
  refine w_nil ?_
  refine xn_then ?_
  refine w_condF rfl ?_
  refine w_skip ?_
  refine xn_then ?_
  refine w_seq ?_
  refine w_seq ?_
  refine w_reg ?_
  refine wl_mv (.tmp 0) (pt t 0) (fun _ => rfl) rfl rfl ?_
  refine wl_mv (.tmp 2) (.int .i64 (cn)) (fun _ => rfl) rfl rfl ?_
  refine wl_call 32 [(.tmp 13), (.tmp 14)] _ [pt t 0, .int .i64 (cn)] (.bool false) rfl rfl (fun _ _ => by kernel_rfl) (by have := has_n hS cn; rw [qc] at this; exact this) rfl ?_
  intro w3 hq
  replace Q1 := Q1.mo hq
  replace hS := hS.mo hq
  replace hM := hM.mo hq
  replace M := M.trans hq
  clear hq
  refine wl_un (fun v => Op.unary .not v) (.tmp 15) (.bool false) (.bool true) (fun _ => rfl) rfl (by kernel_rfl) rfl ?_
  refine w_nil ?_
  refine xn_then ?_
  refine w_condT rfl ?_
  refine w_seq ?_
  refine w_reg ?_
  refine wl_mv (.const (.int .i64 (1))) (.int .i64 (1)) (fun _ => rfl) rfl rfl ?_
  refine w_nil ?_
  refine xn_then ?_
  refine w_ret ?_
  refine xr_then ?_
  exact w_ret1 _ (.int .i64 (1)) rfl rfl ⟨rfl, M.mo (Mo.refl _) (fun k e => e.elim)⟩
theorem set_n {tr : T} {id : Int} {c : Nat} {x : V10} (h : FT D w t mb tr lk) (hi : -9223372036854775808 ≤ id ∧ id ≤ 9223372036854775807) (hc : c < mb.sc.length) (hq : adr tr.kv id = none) : Calls Try.prog 17 #[pt t 0, .int .i64 id, .int .i64 (c : Int), V10.v x] w fun e w' => e = .returned (.int .i64 4) ∧ Mo w w' := by
  have hw : (Lit.int .i64 id).wf = true := WalkArith.wf_i64 ⟨hi.1, hi.2⟩
  obtain ⟨R, root, hS, hAp, hC, hR, hn⟩ := h.ts
  have hM := h.om
  have hDlt : ∀ j, D j → j < w.heap.size := fun j e => hS.lt e
  have hslt : ∀ b, ob mb.h = some b → b < w.heap.size := fun b e => hS.sc.lt e
  have hmlt := hM.lt
  have qc : (decide (0 ≤ (c : Int)) && decide ((c : Int) < (mb.sc.length : Int))) = true := by simp only [Bool.and_eq_true, decide_eq_true_eq]; omega
  refine w_enter 37 Try.func17 Try.ntmps17 rfl rfl ?_
  have M : Mk (fun _ => False) w w := Mk.refl _ _
  refine w_seq ?_
  refine w_reg ?_
  refine wl_box 55 (.tmp 3) (V10.v x) (((V10.cells x).toArray)) rfl rfl (fun _ => by kernel_rfl) rfl ?_
  intro k1 w1 hk9 hz hq Q1
  have hMs := M.size
  have N_k1 : w.heap.size ≤ k1 := by omega
  have nd_k1 : ¬ D k1 := fun e => by have := hDlt _ e; omega
  have ns_k1 : ∀ b, ob mb.h = some b → b ≠ k1 := fun b hb => by have := hslt b hb; omega
  have nm_k1 : k1 ≠ mb.m := by omega
  replace hS := hS.mo hq
  replace hM := hM.mo hq
  replace M := M.trans hq
  clear hk9 hz hq hMs
  refine wl_mv (.const (.int .i64 (0))) (.int .i64 (0)) (fun _ => rfl) rfl rfl ?_
  refine w_nil ?_
  refine xn_then ?_
  refine w_seq ?_
  refine w_seq ?_
  refine w_reg ?_
  refine wl_mv (.tmp 0) (pt t 0) (fun _ => rfl) rfl rfl ?_
  refine wl_call 30 [(.tmp 10)] _ [pt t 0] (.bool true) rfl rfl (fun _ _ => by kernel_rfl) (made_n hS) rfl ?_
  intro w2 hq
  replace Q1 := Q1.mo hq
  replace hS := hS.mo hq
  replace hM := hM.mo hq
  replace M := M.trans hq
  clear hq
  refine wl_un (fun v => Op.unary .not v) (.tmp 11) (.bool true) (.bool false) (fun _ => rfl) rfl (by kernel_rfl) rfl ?_
  refine w_nil ?_
  refine xn_then ?_
  refine w_condF rfl ?_
  refine w_skip ?_
  refine xn_then ?_
  refine w_seq ?_
  refine w_seq ?_
  refine w_reg ?_
  refine wl_mv (.tmp 0) (pt t 0) (fun _ => rfl) rfl rfl ?_
  refine wl_mv (.tmp 2) (.int .i64 ((c : Nat) : Int)) (fun _ => rfl) rfl rfl ?_
  refine wl_call 32 [(.tmp 13), (.tmp 14)] _ [pt t 0, .int .i64 ((c : Nat) : Int)] (.bool true) rfl rfl (fun _ _ => by kernel_rfl) (by have := has_n hS (c : Int); rw [qc] at this; exact this) rfl ?_
  intro w3 hq
  replace Q1 := Q1.mo hq
  replace hS := hS.mo hq
  replace hM := hM.mo hq
  replace M := M.trans hq
  clear hq
  refine wl_un (fun v => Op.unary .not v) (.tmp 15) (.bool true) (.bool false) (fun _ => rfl) rfl (by kernel_rfl) rfl ?_
  refine w_nil ?_
  refine xn_then ?_
  refine w_condF rfl ?_
  refine w_skip ?_
  refine xn_then ?_
  refine w_seq ?_
  refine w_reg ?_
  refine wl_mv (.tmp 0) (pt t 0) (fun _ => rfl) rfl rfl ?_
  refine wl_nc (.tmp 17) t 0 rfl rfl rfl ?_
  refine wl_un (fun v => Instr.fieldAt 68 v 2) (.tmp 18) (pt t 0) (pt t 2) (fun _ => rfl) rfl (by kernel_rfl) rfl ?_
  refine wl_load 66 (.tmp 19) (pt t 2) (.map (some mb.m)) rfl rfl (run_one hS.tr 66 2 rfl Try.underlying66 rfl) rfl ?_
  refine wl_mv (.tmp 1) (.int .i64 (id)) (fun _ => rfl) rfl rfl ?_
  refine wl_bin (fun x y => Instr.lookup 66 x y false) (.tmp 20) (.tmp 21) (.map (some mb.m)) (.int .i64 (id)) (pp none) (fun _ => rfl) rfl rfl (by have := hM.look hw; rw [hq] at this; exact this) rfl ?_
  refine wl_mv (.tmp 22) (pp none) (fun _ => rfl) rfl rfl ?_
  refine w_nil ?_
  refine xn_then ?_
  refine w_seq ?_
  refine w_seq ?_
  refine w_reg ?_
  refine wl_mv (.tmp 9) (pp none) (fun _ => rfl) rfl rfl ?_
  refine wl_bin (fun x y => do eqGuard .eql 65 (.tmp 23) (.const (.pointer none)) x y; binOp .eql 65 x y) (.tmp 23) (.const (.pointer none)) (pp none) (pp none) (.bool true) (fun _ => rfl) rfl rfl (eqP none _ _ _) rfl ?_
  refine w_nil ?_
  refine xn_then ?_
  refine w_condT rfl ?_
  refine w_seq ?_
  refine w_reg ?_
  refine wl_mv (.const (.int .i64 (4))) (.int .i64 (4)) (fun _ => rfl) rfl rfl ?_
  refine w_nil ?_
  refine xn_then ?_
  refine w_ret ?_
  refine xr_then ?_
  exact w_ret1 _ (.int .i64 (4)) rfl rfl ⟨rfl, M.mo (Mo.refl _) (fun k e => e.elim)⟩
theorem set_ok {tr : T} {id : Int} {c : Nat} {x : V10} (h : FT D w t mb tr lk) (hi : -9223372036854775808 ≤ id ∧ id ≤ 9223372036854775807) (hc : c < mb.sc.length) (hx : x.n.ok) {k : Nat} (hq : adr tr.kv id = some k) (hlk : lk ≤ 3000000000000000000) : Calls Try.prog 17 #[pt t 0, .int .i64 id, .int .i64 (c : Int), V10.v x] w fun e w' => ∃ (A B : List Py) (y : Py) (tr' : T) (lk' : Int), e = .returned (.int .i64 0) ∧ tr.ids = A ++ y :: B ∧ y.i = id ∧ tr'.ids = A ++ ⟨y.i, y.v, y.vs.set c x⟩ :: B ∧ Sim tr tr' ∧ FT D w' t mb tr' lk' ∧ lk < lk' ∧ lk' ≤ lk + 3 * tr.ht ∧ Mk D w w' := by
  have hw : (Lit.int .i64 id).wf = true := WalkArith.wf_i64 ⟨hi.1, hi.2⟩
  obtain ⟨C0, y0, s0, lT, r0, hpl, hy0⟩ := kv_focus tr (adr_some hq)
  have ok0 := plug_okC C0 (tr := .n k y0 s0 lT r0) (by rw [hpl]; exact h.ok)
  have hsz := plug_sz C0 (.n k y0 s0 lT r0)
  have hph := plug_ht C0 (.n k y0 s0 lT r0)
  rw [hpl] at hsz hph
  simp only [T.sz] at hsz
  have hph1 : 1 ≤ (T.n k y0 s0 lT r0).ht := by unfold T.ht; omega
  have hle := h.le
  have hl00 := h.l0
  have hhl := tr.ht_le
  have hcn := csz_nn C0; have hl0n := T.sz_nn lT; have hr0n := T.sz_nn r0
  obtain ⟨R, root, hS, hAp, hC, hR, hn⟩ := h.ts
  have hM := h.om
  have hix := pre_len C0
  have hDlt : ∀ j, D j → j < w.heap.size := fun j e => hS.lt e
  have hslt : ∀ b, ob mb.h = some b → b < w.heap.size := fun b e => hS.sc.lt e
  have hmlt := hM.lt
  obtain ⟨⟨hd1, hk⟩, hRl, hRr⟩ := (RS.at C0 (tr1 := .n k y0 s0 lT r0) (R := R) (root := root) (by rw [hpl]; exact ⟨hS, hAp, hC, hR, hn⟩)).rp
  have hvl : y0.vs.length = mb.sc.length := (hS.sv k _ hk).2.1
  have hcl : c < y0.vs.length := by omega
  have qc : (decide (0 ≤ (c : Int)) && decide ((c : Int) < (mb.sc.length : Int))) = true := by simp only [Bool.and_eq_true, decide_eq_true_eq]; omega
  have hsim : Sim tr (plug C0 (.n k ⟨y0.i, y0.v, y0.vs.set c x⟩ s0 lT r0)) := by
    rw [← hpl]; exact Sim.plug C0 ⟨rfl, rfl, rfl, Sim.same _, Sim.same _⟩
  obtain ⟨sa1, sa2, sa3, sa4, sa5, sa6, sa7⟩ := hsim.all
  have hyz : ∀ d, d ≠ c → y0.vs.getD d v0 = (y0.vs.set c x).getD d v0 := fun d hd => by
    rw [List.getD_eq_getElem?_getD, List.getD_eq_getElem?_getD, List.getElem?_set_ne (Ne.symm hd)]
  have hnd : (adC C0 ++ (T.n k y0 s0 lT r0).ad).Nodup := (RS.at C0 (tr1 := .n k y0 s0 lT r0) (R := R) (root := root) (by rw [hpl]; exact ⟨hS, hAp, hC, hR, hn⟩)).nd
  have hkC : k ∉ adC C0 := fun m => (nd_pos hnd).2.2 k m (by unfold T.ad; simp)
  have hkl : k ∉ lT.ad ∧ k ∉ r0.ad := by
    have := (nd_pos hnd).2.1
    unfold T.ad at this
    have := (List.nodup_cons.1 this).1
    simp only [List.mem_append, not_or] at this
    exact this
  have hU : Mu mb.sc c (ud R k ⟨top C0, lT.p, r0.p, s0, ⟨y0.i, y0.v, y0.vs.set c x⟩, hd1, agg mb.sc (lT.ids ++ y0 :: r0.ids)⟩) root (plug C0 (.n k ⟨y0.i, y0.v, y0.vs.set c x⟩ s0 lT r0)) (C0.length + 1) (some k) :=
    ⟨C0, ⟨y0.i, y0.v, y0.vs.set c x⟩, s0, lT, r0, hd1, _, rfl, rfl, ud_same _ _ _, Alm.of hyz, hRl.ud hkl.1, hRr.ud hkl.2, RepU.of hyz C0 (tr := .n k y0 s0 lT r0) (A := lT.ids) (B := r0.ids) (by rw [hpl]; exact hC) (by rw [hpl]; exact hR) rfl rfl rfl hkC, hnd⟩
  obtain ⟨b, off, cap, hh, hb9, hf9, hr9, hob⟩ := (hS.sv k _ hk).1.ix (i := c) (cs := V10.cells y0.vs[c]) (by rw [List.getElem?_map, List.getElem?_eq_getElem hcl]; rfl)
  rw [List.length_map] at hh
  refine w_enter 37 Try.func17 Try.ntmps17 rfl rfl ?_
  have M : Mk D w w := Mk.refl _ _
  refine w_seq ?_
  refine w_reg ?_
  refine wl_box 55 (.tmp 3) (V10.v x) (((V10.cells x).toArray)) rfl rfl (fun _ => by kernel_rfl) rfl ?_
  intro k1 w1 hk9 hz hq Q1
  have hMs := M.size
  have N_k1 : w.heap.size ≤ k1 := by omega
  have nd_k1 : ¬ D k1 := fun e => by have := hDlt _ e; omega
  have ns_k1 : ∀ b, ob mb.h = some b → b ≠ k1 := fun b hb => by have := hslt b hb; omega
  have nm_k1 : k1 ≠ mb.m := by omega
  replace hS := hS.mo hq
  replace hM := hM.mo hq
  replace M := M.trans hq
  clear hk9 hz hq hMs
  refine wl_mv (.const (.int .i64 (0))) (.int .i64 (0)) (fun _ => rfl) rfl rfl ?_
  refine w_nil ?_
  refine xn_then ?_
  refine w_seq ?_
  refine w_seq ?_
  refine w_reg ?_
  refine wl_mv (.tmp 0) (pt t 0) (fun _ => rfl) rfl rfl ?_
  refine wl_call 30 [(.tmp 10)] _ [pt t 0] (.bool true) rfl rfl (fun _ _ => by kernel_rfl) (made_n hS) rfl ?_
  intro w2 hq
  replace Q1 := Q1.mo hq
  replace hS := hS.mo hq
  replace hM := hM.mo hq
  replace M := M.trans hq
  clear hq
  refine wl_un (fun v => Op.unary .not v) (.tmp 11) (.bool true) (.bool false) (fun _ => rfl) rfl (by kernel_rfl) rfl ?_
  refine w_nil ?_
  refine xn_then ?_
  refine w_condF rfl ?_
  refine w_skip ?_
  refine xn_then ?_
  refine w_seq ?_
  refine w_seq ?_
  refine w_reg ?_
  refine wl_mv (.tmp 0) (pt t 0) (fun _ => rfl) rfl rfl ?_
  refine wl_mv (.tmp 2) (.int .i64 ((c : Nat) : Int)) (fun _ => rfl) rfl rfl ?_
  refine wl_call 32 [(.tmp 13), (.tmp 14)] _ [pt t 0, .int .i64 ((c : Nat) : Int)] (.bool true) rfl rfl (fun _ _ => by kernel_rfl) (by have := has_n hS (c : Int); rw [qc] at this; exact this) rfl ?_
  intro w3 hq
  replace Q1 := Q1.mo hq
  replace hS := hS.mo hq
  replace hM := hM.mo hq
  replace M := M.trans hq
  clear hq
  refine wl_un (fun v => Op.unary .not v) (.tmp 15) (.bool true) (.bool false) (fun _ => rfl) rfl (by kernel_rfl) rfl ?_
  refine w_nil ?_
  refine xn_then ?_
  refine w_condF rfl ?_
  refine w_skip ?_
  refine xn_then ?_
  refine w_seq ?_
  refine w_reg ?_
  refine wl_mv (.tmp 0) (pt t 0) (fun _ => rfl) rfl rfl ?_
  refine wl_nc (.tmp 17) t 0 rfl rfl rfl ?_
  refine wl_un (fun v => Instr.fieldAt 68 v 2) (.tmp 18) (pt t 0) (pt t 2) (fun _ => rfl) rfl (by kernel_rfl) rfl ?_
  refine wl_load 66 (.tmp 19) (pt t 2) (.map (some mb.m)) rfl rfl (run_one hS.tr 66 2 rfl Try.underlying66 rfl) rfl ?_
  refine wl_mv (.tmp 1) (.int .i64 (id)) (fun _ => rfl) rfl rfl ?_
  refine wl_bin (fun x y => Instr.lookup 66 x y false) (.tmp 20) (.tmp 21) (.map (some mb.m)) (.int .i64 (id)) (pt k 0) (fun _ => rfl) rfl rfl (by have := hM.look hw; rw [hq] at this; exact this) rfl ?_
  refine wl_mv (.tmp 22) (pt k 0) (fun _ => rfl) rfl rfl ?_
  refine w_nil ?_
  refine xn_then ?_
  refine w_seq ?_
  refine w_seq ?_
  refine w_reg ?_
  refine wl_mv (.tmp 9) (pt k 0) (fun _ => rfl) rfl rfl ?_
  refine wl_bin (fun x y => do eqGuard .eql 65 (.tmp 23) (.const (.pointer none)) x y; binOp .eql 65 x y) (.tmp 23) (.const (.pointer none)) (pt k 0) (pp none) (.bool false) (fun _ => rfl) rfl rfl (eqP (some k) _ _ _) rfl ?_
  refine w_nil ?_
  refine xn_then ?_
  refine w_condF rfl ?_
  refine w_skip ?_
  refine xn_then ?_
  refine w_seq ?_
  refine w_any 8 [.inl (pt k 0), .inl (pt k 0), .inl (pt k 0), .inl (pt k 1), .inl (y0.v), .inl (.int .i64 ((c : Nat) : Int)), .inl (V10.v x), .inl (pt b (off + c * 10))] [] (by kernel_rfl) (by kernel_rfl) (by kernel_rfl) (by kernel_rfl) rfl (by kernel_rfl) (by kernel_rfl) late_nil ?_ ?_ ?_
  · exact Ds.none rfl
  · refine ea_cons ?_ (ea_cons ?_ (ea_cons ?_ (ea_cons ?_ (ea_cons ?_ (ea_cons ?_ (ea_cons ?_ (ea_cons ?_ (ea_nil))))))))
    · exact og_eq (pt k 0) rfl (fun f wf hq hd K hK => go_run rfl (wo_mv (.tmp 9) (pt k 0) (fun _ => rfl) rfl (hK _ (Mo.refl _))))
    · exact og_eq (pt k 0) rfl (fun f wf hq hd K hK => go_run rfl (wo_nc (.tmp 25) k 0 rfl (hd 0 rfl) (hK _ (Mo.refl _))))
    · exact og_eq (pt k 0) rfl (fun f wf hq hd K hK => go_run rfl (wo_un (fun v => Instr.fieldAt 93 v 0) (.tmp 26) (pt k 0) (pt k 0) (fun _ => rfl) (hd 1 rfl) (by kernel_rfl) (hK _ (Mo.refl _))))
    · exact og_eq (pt k 1) rfl (fun f wf hq hd K hK => go_run rfl (wo_un (fun v => Instr.fieldAt 83 v 1) (.tmp 27) (pt k 0) (pt k 1) (fun _ => rfl) (hd 2 rfl) (by kernel_rfl) (hK _ (Mo.refl _))))
    · exact og_eq (y0.v) rfl (fun f wf hq hd K hK => have hS := hS.mo hq; go_run rfl (wo_load 29 (.tmp 28) (pt k 1) (y0.v) rfl (hd 3 rfl) (run_one (hS.rc k _ hk) 29 1 rfl Try.underlying29 rfl) (hK _ (Mo.refl _))))
    · exact og_eq (.int .i64 ((c : Nat) : Int)) rfl (fun f wf hq hd K hK => go_run rfl (wo_mv (.tmp 2) (.int .i64 ((c : Nat) : Int)) (fun _ => rfl) rfl (hK _ (Mo.refl _))))
    · exact og_eq (V10.v x) rfl (fun f wf hq hd K hK => have Q1 := Q1.mo hq; go_run rfl (wo_load 55 (.tmp 7) (pt k1 0) (V10.v x) rfl rfl (run_row Q1 55 0 10 (V10.cells x) rfl Try.underlying55 rfl zs55) (hK _ (Mo.refl _))))
    · exact og_eq (pt b (off + c * 10)) rfl (fun f wf hq hd K hK => go_run rfl (wo_bin (fun x y => Instr.indexAt 29 x y) (.tmp 29) (.tmp 30) (y0.v) (.int .i64 ((c : Nat) : Int)) (pt b (off + c * 10)) (fun _ => rfl) (hd 4 rfl) (hd 5 rfl) (by show (Instr.indexAt 29 y0.v _).run _ _ = _; rw [show y0.v = _ from hh]; exact ix29 b off c _ _ hcl _) (hK _ (Mo.refl _))))
  intro kf4 w4 hq _ _
  replace Q1 := Q1.mo hq
  replace hS := hS.mo hq
  replace hM := hM.mo hq
  replace M := M.trans hq
  clear hq
  have hth := (hS.sv k _ hk).1.there (i := c) (by rw [List.length_map]; exact hh) (by rw [List.length_map]; exact hcl) (fun y hy => by obtain ⟨z, _, rfl⟩ := List.mem_map.1 hy; rfl)
  refine wl_stm 55 (.tmp 32) (.tmp 31) b (off + c * 10) x.cells.toArray hth rfl rfl rfl rfl zs55 (by rw [← Array.all_toList]; rfl) rfl ?_
  have hMk := (Mk.refl D _).st (St2.mk2 w4 b (off + c * 10) x.cells) (hS.ds hk (Or.inl hob)).1
  have hS2 := hS.val hAp hk hcl x hx hh
  obtain ⟨w5, hw9⟩ : ∃ W, W = w4.setCells b (off + c * 10) x.cells := ⟨_, rfl⟩
  rw [← hw9] at hMk hS2
  show WL _ _ _ _ _ _ (w4.setCells b (off + c * 10) x.cells)
  rw [← hw9]
  replace Q1 := hMk.at Q1 nd_k1
  replace hM := hM.mk hMk hS.nb
  replace M := M.same hMk
  replace hS := hS2
  replace hAp := hAp.wr hk (r' := ⟨top C0, lT.p, r0.p, s0, ⟨y0.i, y0.v, y0.vs.set c x⟩, hd1, agg mb.sc (lT.ids ++ y0 :: r0.ids)⟩) rfl rfl
  clear hMk hS2 hw9 hth
  refine w_nil ?_
  refine xn_then ?_
  refine w_seq ?_
  refine w_reg ?_
  refine wl_mv (.tmp 0) (pt t 0) (fun _ => rfl) rfl rfl ?_
  refine wl_mv (.tmp 9) (pt k 0) (fun _ => rfl) rfl rfl ?_
  refine wl_mv (.tmp 2) (.int .i64 ((c : Nat) : Int)) (fun _ => rfl) rfl rfl ?_
  refine wl_callg 39 [(.tmp 33), (.tmp 34), (.tmp 35)] _ [pt t 0, pt k 0, .int .i64 ((c : Nat) : Int)] (.tuple #[]) rfl rfl (fun _ _ => by kernel_rfl) (mendUp_n (some k) hS hAp hU hc h.l0 (by omega)) rfl ?_
  intro w6 hF
  obtain ⟨R2, lk2, hS2, hA2, hU2, hl1, hl2, hl3, hM2⟩ := hF
  replace Q1 := hM2.at Q1 nd_k1
  replace hM := hM.mk hM2 hS.nb
  replace hS := hS2
  replace M := M.same hM2
  clear hS2 hM2
  refine w_nil ?_
  refine xn_then ?_
  refine w_seq ?_
  refine w_reg ?_
  refine wl_mv (.const (.int .i64 (0))) (.int .i64 (0)) (fun _ => rfl) rfl rfl ?_
  refine w_nil ?_
  refine xn_then ?_
  refine w_ret ?_
  exact w_ret1 _ (.int .i64 (0)) rfl rfl ⟨preR C0 ++ lT.ids, r0.ids ++ posR C0, y0, plug C0 (.n k ⟨y0.i, y0.v, y0.vs.set c x⟩ s0 lT r0), lk2, rfl, by rw [← hpl, plug_rows]; simp [T.ids], hy0, by rw [plug_rows]; simp [T.ids], hsim, ⟨⟨R2, root, hS, hA2, hU2.1, hU2.2.1, by rw [← sa2]; exact hn⟩, by rw [← sa5]; exact hM, sa6 h.ok, by rw [← T.kv_ids, ← sa5, T.kv_ids]; exact h.nd, by rw [← T.kv_ids, ← sa5, T.kv_ids]; exact h.rg, by rw [← sa3]; exact h.le, by omega, h.hm⟩, hl3 (by omega), by omega, M⟩
end
end G
end Go.Proofs.Ythfemlhmnjfjiaa
/-
  outermost, next: the places in order.
-/
namespace Go.Proofs.Ythfemlhmnjfjiaa
open Go.RowKit
namespace G
/-- The first block of a tree in order. -/
def lm : T → Option Nat
  | .e => none
  | .n k _ _ l _ => match lm l with
    | none => some k
    | some j => some j
theorem lm_none {tr : T} (h : lm tr = none) : tr = .e := by
  cases tr with
  | e => rfl
  | n k i s l r => unfold lm at h; split at h <;> cases h
theorem lm_l (k : Nat) (i : Py) (s : Int) (l r : T) (h : l ≠ .e) : lm (.n k i s l r) = lm l := by
  conv => lhs; unfold lm
  cases hl : lm l with
  | none => exact absurd (lm_none hl) h
  | some j => rfl
theorem lm_kv : ∀ tr : T, lm tr = (tr.kv.head?).map (·.2)
  | .e => rfl
  | .n k i s l r => by
    have ih := lm_kv l
    unfold lm T.kv
    cases hl : lm l with
    | none => have := lm_none hl; subst this; simp [T.kv]
    | some j =>
      rw [hl] at ih
      cases hk : l.kv with
      | nil => rw [hk] at ih; cases ih
      | cons x y => rw [hk] at ih; simpa using ih
/-- The nearest one above that has the place on its left. -/
def upL : Cx → Option Nat
  | [] => none
  | f :: C => if f.d then upL C else some f.k
section
variable {D : Nat → Prop} {w : World} {t : Nat} {mb : Hd} {R : Mp} {root : Option Nat} {lk : Int}
theorem outer_n (hS : HS D w t mb R root lk) {u : Option Nat} {tr : T} (hR : Rep mb.sc R u tr) : Calls Try.prog 70 #[pp tr.p, .int .i64 0] w fun e w' => e = .returned (pp (lm tr)) ∧ Mo w w' := by
  refine w_enter 23 Try.func70 Try.ntmps70 rfl rfl ?_
  have M : Mo w w := Mo.refl _
  refine w_seq ?_
  refine w_reg ?_
  refine wl_mv (.const (.pointer none)) (pp none) (fun _ => rfl) rfl rfl ?_
  refine w_nil ?_
  refine xn_then ?_
  refine w_seq ?_
  refine w_block ?_
  refine w_loop (fun m l0 w1 => ∃ (u1 : Option Nat) (tr1 : T), m = tr1.ht ∧ look l0 0 = pp tr1.p ∧ look l0 1 = .int .i64 (0) ∧ Rep mb.sc R u1 tr1 ∧ lm tr1 = lm tr ∧ HS D w1 t mb R root lk ∧ Mo w w1) _ ⟨u, tr, rfl, rfl, rfl, hR, rfl, hS, M⟩ ?_
  clear M hS
  rintro m l1 w1 ⟨u1, tr1, rfl, e0, e1, hR1, hlm, hS, M⟩
  cases tr1 with
  | e =>
    refine w_seq ?_
    refine w_seq ?_
    refine w_reg ?_
    refine wl_mv (.tmp 0) (pp none) (fun _ => rfl) e0 rfl ?_
    refine wl_bin (fun x y => do eqGuard .neq 65 (.tmp 5) (.const (.pointer none)) x y; binOp .neq 65 x y) (.tmp 5) (.const (.pointer none)) (pp none) (pp none) (.bool false) (fun _ => rfl) rfl rfl (neP none _ _ _) rfl ?_
    refine wl_mv (.tmp 6) (.bool false) (fun _ => rfl) rfl rfl ?_
    refine wl_skip rfl ?_
    refine wl_skip rfl ?_
    refine wl_skip rfl ?_
    refine wl_skip rfl ?_
    refine wl_skip rfl ?_
    refine wl_skip rfl ?_
    refine wl_skip rfl ?_
    refine wl_pick (.tmp 7) (.tmp 14) (.const (.bool false)) false (.bool false) (fun _ => rfl) rfl rfl rfl ?_
    refine w_nil ?_
    refine xn_then ?_
    refine w_condF rfl ?_
    refine w_exit ?_
    refine xx_then ?_
    refine xx_then ?_
    refine xx_blk ?_
    refine xn_then ?_
    refine w_seq ?_
    refine w_reg ?_
    refine wl_mv (.tmp 0) (pp none) (fun _ => rfl) e0 rfl ?_
    refine wl_mv (.tmp 22) (pp none) (fun _ => rfl) rfl rfl ?_
    refine w_nil ?_
    refine xn_then ?_
    refine w_ret ?_
    exact w_ret1 _ (pp none) rfl rfl ⟨by rw [← hlm]; rfl, M⟩
  | n k i s a b =>
    obtain ⟨⟨hd1, hk⟩, ha, hb⟩ := hR1
    have e0 : look l1 0 = pt k 0 := e0
    cases a with
    | e =>
      refine w_seq ?_
      refine w_seq ?_
      refine w_reg ?_
      refine wl_mv (.tmp 0) (pt k 0) (fun _ => rfl) e0 rfl ?_
      refine wl_bin (fun x y => do eqGuard .neq 65 (.tmp 5) (.const (.pointer none)) x y; binOp .neq 65 x y) (.tmp 5) (.const (.pointer none)) (pt k 0) (pp none) (.bool true) (fun _ => rfl) rfl rfl (neP (some k) _ _ _) rfl ?_
      refine wl_mv (.tmp 6) (.bool true) (fun _ => rfl) rfl rfl ?_
      refine wl_mv (.tmp 0) (pt k 0) (fun _ => rfl) e0 rfl ?_
      refine wl_mv (.tmp 1) (.int .i64 (0)) (fun _ => rfl) e1 rfl ?_
      refine wl_nc (.tmp 8) k 0 rfl rfl rfl ?_
      refine wl_un (fun v => Instr.fieldAt 93 v 2) (.tmp 10) (pt k 0) (pt k 3) (fun _ => rfl) rfl (by kernel_rfl) rfl ?_
      refine wl_bin (fun x y => Instr.indexAt 91 x y) (.tmp 11) (.tmp 9) (pt k 3) (.int .i64 (0)) (pt k 3) (fun _ => rfl) rfl rfl (by kernel_rfl) rfl ?_
      refine wl_load 65 (.tmp 12) (pt k 3) (pp none) rfl rfl (run_one (hS.rc k _ hk) 65 3 rfl Try.underlying65 rfl) rfl ?_
      refine wl_bin (fun x y => do eqGuard .neq 65 (.tmp 13) (.const (.pointer none)) x y; binOp .neq 65 x y) (.tmp 13) (.const (.pointer none)) (pp none) (pp none) (.bool false) (fun _ => rfl) rfl rfl (neP none _ _ _) rfl ?_
      refine wl_pick (.tmp 7) (.tmp 14) (.const (.bool false)) true (.bool false) (fun _ => rfl) rfl rfl rfl ?_
      refine w_nil ?_
      refine xn_then ?_
      refine w_condF rfl ?_
      refine w_exit ?_
      refine xx_then ?_
      refine xx_then ?_
      refine xx_blk ?_
      refine xn_then ?_
      refine w_seq ?_
      refine w_reg ?_
      refine wl_mv (.tmp 0) (pt k 0) (fun _ => rfl) e0 rfl ?_
      refine wl_mv (.tmp 22) (pt k 0) (fun _ => rfl) rfl rfl ?_
      refine w_nil ?_
      refine xn_then ?_
      refine w_ret ?_
      exact w_ret1 _ (pt k 0) rfl rfl ⟨by rw [← hlm]; rfl, M⟩
    | n ak ai az al ar =>
      refine w_seq ?_
      refine w_seq ?_
      refine w_reg ?_
      refine wl_mv (.tmp 0) (pt k 0) (fun _ => rfl) e0 rfl ?_
      refine wl_bin (fun x y => do eqGuard .neq 65 (.tmp 5) (.const (.pointer none)) x y; binOp .neq 65 x y) (.tmp 5) (.const (.pointer none)) (pt k 0) (pp none) (.bool true) (fun _ => rfl) rfl rfl (neP (some k) _ _ _) rfl ?_
      refine wl_mv (.tmp 6) (.bool true) (fun _ => rfl) rfl rfl ?_
      refine wl_mv (.tmp 0) (pt k 0) (fun _ => rfl) e0 rfl ?_
      refine wl_mv (.tmp 1) (.int .i64 (0)) (fun _ => rfl) e1 rfl ?_
      refine wl_nc (.tmp 8) k 0 rfl rfl rfl ?_
      refine wl_un (fun v => Instr.fieldAt 93 v 2) (.tmp 10) (pt k 0) (pt k 3) (fun _ => rfl) rfl (by kernel_rfl) rfl ?_
      refine wl_bin (fun x y => Instr.indexAt 91 x y) (.tmp 11) (.tmp 9) (pt k 3) (.int .i64 (0)) (pt k 3) (fun _ => rfl) rfl rfl (by kernel_rfl) rfl ?_
      refine wl_load 65 (.tmp 12) (pt k 3) (pt ak 0) rfl rfl (run_one (hS.rc k _ hk) 65 3 rfl Try.underlying65 rfl) rfl ?_
      refine wl_bin (fun x y => do eqGuard .neq 65 (.tmp 13) (.const (.pointer none)) x y; binOp .neq 65 x y) (.tmp 13) (.const (.pointer none)) (pt ak 0) (pp none) (.bool true) (fun _ => rfl) rfl rfl (neP (some ak) _ _ _) rfl ?_
      refine wl_pick (.tmp 7) (.tmp 14) (.const (.bool false)) true (.bool true) (fun _ => rfl) rfl rfl rfl ?_
      refine w_nil ?_
      refine xn_then ?_
      refine w_condT rfl ?_
      refine w_skip ?_
      refine xn_then ?_
      refine w_block ?_
      refine w_reg ?_
      refine wl_mv (.tmp 0) (pt k 0) (fun _ => rfl) e0 rfl ?_
      refine wl_mv (.tmp 1) (.int .i64 (0)) (fun _ => rfl) e1 rfl ?_
      refine wl_nc (.tmp 16) k 0 rfl rfl rfl ?_
      refine wl_un (fun v => Instr.fieldAt 93 v 2) (.tmp 18) (pt k 0) (pt k 3) (fun _ => rfl) rfl (by kernel_rfl) rfl ?_
      refine wl_bin (fun x y => Instr.indexAt 91 x y) (.tmp 19) (.tmp 17) (pt k 3) (.int .i64 (0)) (pt k 3) (fun _ => rfl) rfl rfl (by kernel_rfl) rfl ?_
      refine wl_load 65 (.tmp 20) (pt k 3) (pt ak 0) rfl rfl (run_one (hS.rc k _ hk) 65 3 rfl Try.underlying65 rfl) rfl ?_
      refine wl_mv (.tmp 21) (pt ak 0) (fun _ => rfl) rfl rfl ?_
      refine w_nil ?_
      refine xn_blk ?_
      exact xn_loop (T.n ak ai az al ar).ht (by simp only [T.ht]; have := Nat.le_max_left (T.n ak ai az al ar).ht b.ht; simp only [T.ht] at this; omega) ⟨some k, T.n ak ai az al ar, rfl, rfl, e1, ha, (lm_l _ _ _ _ _ (by intro e; cases e)).symm.trans hlm, hS, M⟩
theorem next_a (hS : HS D w t mb R root lk) {u : Option Nat} {k rk : Nat} {i ri : Py} {s rz : Int} {l ra rb : T} {hd1 : Value} {cs : List Sm} (hk : R k = some ⟨u, l.p, some rk, s, i, hd1, cs⟩) (hb : Rep mb.sc R (some k) (T.n rk ri rz ra rb)) : Calls Try.prog 71 #[pt k 0] w fun e w' => e = .returned (pp (lm (T.n rk ri rz ra rb))) ∧ Mo w w' := by
  refine w_enter 26 Try.func71 Try.ntmps71 rfl rfl ?_
  have M : Mo w w := Mo.refl _
  refine w_seq ?_
  refine w_reg ?_
  refine wl_mv (.const (.pointer none)) (pp none) (fun _ => rfl) rfl rfl ?_
  refine w_nil ?_
  refine xn_then ?_
  refine w_seq ?_
  refine w_seq ?_
  refine w_reg ?_
  refine wl_mv (.tmp 0) (pt k 0) (fun _ => rfl) rfl rfl ?_
  refine wl_nc (.tmp 3) k 0 rfl rfl rfl ?_
  refine wl_un (fun v => Instr.fieldAt 93 v 2) (.tmp 4) (pt k 0) (pt k 3) (fun _ => rfl) rfl (by kernel_rfl) rfl ?_
  refine wl_bin (fun x y => Instr.indexAt 91 x y) (.tmp 5) (.const (.int .i64 (1))) (pt k 3) (.int .i64 (1)) (pt k 4) (fun _ => rfl) rfl rfl (by kernel_rfl) rfl ?_
  refine wl_load 65 (.tmp 6) (pt k 4) (pt rk 0) rfl rfl (run_one (hS.rc k _ hk) 65 4 rfl Try.underlying65 rfl) rfl ?_
  refine wl_bin (fun x y => do eqGuard .neq 65 (.tmp 7) (.const (.pointer none)) x y; binOp .neq 65 x y) (.tmp 7) (.const (.pointer none)) (pt rk 0) (pp none) (.bool true) (fun _ => rfl) rfl rfl (neP (some rk) _ _ _) rfl ?_
  refine w_nil ?_
  refine xn_then ?_
  refine w_condT rfl ?_
  refine w_seq ?_
  refine w_reg ?_
  refine wl_mv (.tmp 0) (pt k 0) (fun _ => rfl) rfl rfl ?_
  refine wl_nc (.tmp 9) k 0 rfl rfl rfl ?_
  refine wl_un (fun v => Instr.fieldAt 93 v 2) (.tmp 10) (pt k 0) (pt k 3) (fun _ => rfl) rfl (by kernel_rfl) rfl ?_
  refine wl_bin (fun x y => Instr.indexAt 91 x y) (.tmp 11) (.const (.int .i64 (1))) (pt k 3) (.int .i64 (1)) (pt k 4) (fun _ => rfl) rfl rfl (by kernel_rfl) rfl ?_
  refine wl_load 65 (.tmp 12) (pt k 4) (pt rk 0) rfl rfl (run_one (hS.rc k _ hk) 65 4 rfl Try.underlying65 rfl) rfl ?_
  refine wl_call 70 [(.tmp 13), (.const (.int .i64 (0)))] _ [pt rk 0, .int .i64 (0)] (pp (lm (T.n rk ri rz ra rb))) rfl rfl (fun _ _ => by kernel_rfl) (outer_n hS hb) rfl ?_
  intro w1 hq
  replace hS := hS.mo hq
  replace M := M.trans hq
  clear hq
  refine wl_mv (.tmp 14) (pp (lm (T.n rk ri rz ra rb))) (fun _ => rfl) rfl rfl ?_
  refine w_nil ?_
  refine xn_then ?_
  refine w_ret ?_
  refine xr_then ?_
  exact w_ret1 _ (pp (lm (T.n rk ri rz ra rb))) rfl rfl ⟨rfl, M⟩
theorem next_b {C : Cx} {k : Nat} {i : Py} {s : Int} {l : T} (hT : RS D w t mb [] (plug C (T.n k i s l .e)) lk R root) : Calls Try.prog 71 #[pt k 0] w fun e w' => e = .returned (pp (upL C)) ∧ Mo w w' := by
  obtain ⟨hS, hA, hC, hR, hn⟩ := hT
  obtain ⟨⟨hd1, hk⟩, _, _⟩ := (RS.at C (tr1 := T.n k i s l .e) (R := R) (root := root) ⟨hS, hA, hC, hR, hn⟩).rp
  refine w_enter 26 Try.func71 Try.ntmps71 rfl rfl ?_
  have M : Mo w w := Mo.refl _
  refine w_seq ?_
  refine w_reg ?_
  refine wl_mv (.const (.pointer none)) (pp none) (fun _ => rfl) rfl rfl ?_
  refine w_nil ?_
  refine xn_then ?_
  refine w_seq ?_
  refine w_seq ?_
  refine w_reg ?_
  refine wl_mv (.tmp 0) (pt k 0) (fun _ => rfl) rfl rfl ?_
  refine wl_nc (.tmp 3) k 0 rfl rfl rfl ?_
  refine wl_un (fun v => Instr.fieldAt 93 v 2) (.tmp 4) (pt k 0) (pt k 3) (fun _ => rfl) rfl (by kernel_rfl) rfl ?_
  refine wl_bin (fun x y => Instr.indexAt 91 x y) (.tmp 5) (.const (.int .i64 (1))) (pt k 3) (.int .i64 (1)) (pt k 4) (fun _ => rfl) rfl rfl (by kernel_rfl) rfl ?_
  refine wl_load 65 (.tmp 6) (pt k 4) (pp none) rfl rfl (run_one (hS.rc k _ hk) 65 4 rfl Try.underlying65 rfl) rfl ?_
  refine wl_bin (fun x y => do eqGuard .neq 65 (.tmp 7) (.const (.pointer none)) x y; binOp .neq 65 x y) (.tmp 7) (.const (.pointer none)) (pp none) (pp none) (.bool false) (fun _ => rfl) rfl rfl (neP none _ _ _) rfl ?_
  refine w_nil ?_
  refine xn_then ?_
  refine w_condF rfl ?_
  refine w_skip ?_
  refine xn_then ?_
  refine w_seq ?_
  refine w_block ?_
  refine w_loop (fun m l0 w1 => ∃ (C1 : Cx) (k1 : Nat) (i1 : Py) (s1 : Int) (a1 b1 : T), m = C1.length ∧ look l0 0 = pt k1 0 ∧ plug C1 (T.n k1 i1 s1 a1 b1) = plug C (T.n k i s l .e) ∧ HS D w1 t mb R root lk ∧ upL C1 = upL C ∧ Mo w w1) _ ⟨C, k, i, s, l, .e, rfl, rfl, rfl, hS, rfl, M⟩ ?_
  clear M hS hk
  rintro m l1 w1 ⟨C1, k1, i1, s1, a1, b1, rfl, e0, hpl, hS, hup, M⟩
  obtain ⟨_, _, hC1, ⟨⟨hd1, hk⟩, _, _⟩, hn1⟩ := RS.at C1 (tr1 := T.n k1 i1 s1 a1 b1) (R := R) (root := root) (by rw [hpl]; exact ⟨hS, hA, hC, hR, hn⟩)
  have n1 := nd_pos hn1
  have hnk : k1 ∉ adC C1 := fun q => n1.2.2 k1 q (by unfold T.ad; simp)
  have hsd := fun w9 (m9 : Mo w1 w9) => side_c (hS.mo m9) hC1 hk hnk
  cases C1 with
  | nil =>
    refine w_seq ?_
    refine w_seq ?_
    refine w_reg ?_
    refine wl_mv (.tmp 0) (pt k1 0) (fun _ => rfl) e0 rfl ?_
    refine wl_call 53 [(.tmp 15)] _ [pt k1 0] (.int .i64 (0)) rfl rfl (fun _ _ => by kernel_rfl) (hsd _ (Mo.refl _)) rfl ?_
    intro w11 hq
    replace hS := hS.mo hq
    replace M := M.trans hq
    clear hq
    refine wl_bin (fun x y => do eqGuard .eql 3 (.tmp 16) (.const (.int .i64 (1))) x y; binOp .eql 3 x y) (.tmp 16) (.const (.int .i64 (1))) (.int .i64 (0)) (.int .i64 (1)) (.bool false) (fun _ => rfl) rfl rfl (by kernel_rfl) rfl ?_
    refine w_nil ?_
    refine xn_then ?_
    refine w_condF rfl ?_
    refine w_exit ?_
    refine xx_then ?_
    refine xx_then ?_
    refine xx_blk ?_
    refine xn_then ?_
    refine w_seq ?_
    refine w_reg ?_
    refine wl_mv (.tmp 0) (pt k1 0) (fun _ => rfl) e0 rfl ?_
    refine wl_nc (.tmp 22) k1 0 rfl rfl rfl ?_
    refine wl_un (fun v => Instr.fieldAt 93 v 1) (.tmp 23) (pt k1 0) (pt k1 2) (fun _ => rfl) rfl (by kernel_rfl) rfl ?_
    refine wl_load 65 (.tmp 24) (pt k1 2) (pp none) rfl rfl (run_one (hS.rc k1 _ hk) 65 2 rfl Try.underlying65 rfl) rfl ?_
    refine wl_mv (.tmp 25) (pp none) (fun _ => rfl) rfl rfl ?_
    refine w_nil ?_
    refine xn_then ?_
    refine w_ret ?_
    exact w_ret1 _ (pp none) rfl rfl ⟨by rw [← hup]; rfl, M⟩
  | cons f C2 =>
    obtain ⟨fk, fi, fs, fd, fo⟩ := f
    cases fd with
    | false =>
      refine w_seq ?_
      refine w_seq ?_
      refine w_reg ?_
      refine wl_mv (.tmp 0) (pt k1 0) (fun _ => rfl) e0 rfl ?_
      refine wl_call 53 [(.tmp 15)] _ [pt k1 0] (.int .i64 (0)) rfl rfl (fun _ _ => by kernel_rfl) (hsd _ (Mo.refl _)) rfl ?_
      intro w11 hq
      replace hS := hS.mo hq
      replace M := M.trans hq
      clear hq
      refine wl_bin (fun x y => do eqGuard .eql 3 (.tmp 16) (.const (.int .i64 (1))) x y; binOp .eql 3 x y) (.tmp 16) (.const (.int .i64 (1))) (.int .i64 (0)) (.int .i64 (1)) (.bool false) (fun _ => rfl) rfl rfl (by kernel_rfl) rfl ?_
      refine w_nil ?_
      refine xn_then ?_
      refine w_condF rfl ?_
      refine w_exit ?_
      refine xx_then ?_
      refine xx_then ?_
      refine xx_blk ?_
      refine xn_then ?_
      refine w_seq ?_
      refine w_reg ?_
      refine wl_mv (.tmp 0) (pt k1 0) (fun _ => rfl) e0 rfl ?_
      refine wl_nc (.tmp 22) k1 0 rfl rfl rfl ?_
      refine wl_un (fun v => Instr.fieldAt 93 v 1) (.tmp 23) (pt k1 0) (pt k1 2) (fun _ => rfl) rfl (by kernel_rfl) rfl ?_
      refine wl_load 65 (.tmp 24) (pt k1 2) (pt fk 0) rfl rfl (run_one (hS.rc k1 _ hk) 65 2 rfl Try.underlying65 rfl) rfl ?_
      refine wl_mv (.tmp 25) (pt fk 0) (fun _ => rfl) rfl rfl ?_
      refine w_nil ?_
      refine xn_then ?_
      refine w_ret ?_
      exact w_ret1 _ (pt fk 0) rfl rfl ⟨by rw [← hup]; rfl, M⟩
    | true =>
      refine w_seq ?_
      refine w_seq ?_
      refine w_reg ?_
      refine wl_mv (.tmp 0) (pt k1 0) (fun _ => rfl) e0 rfl ?_
      refine wl_call 53 [(.tmp 15)] _ [pt k1 0] (.int .i64 (1)) rfl rfl (fun _ _ => by kernel_rfl) (hsd _ (Mo.refl _)) rfl ?_
      intro w11 hq
      replace hS := hS.mo hq
      replace M := M.trans hq
      clear hq
      refine wl_bin (fun x y => do eqGuard .eql 3 (.tmp 16) (.const (.int .i64 (1))) x y; binOp .eql 3 x y) (.tmp 16) (.const (.int .i64 (1))) (.int .i64 (1)) (.int .i64 (1)) (.bool true) (fun _ => rfl) rfl rfl (by kernel_rfl) rfl ?_
      refine w_nil ?_
      refine xn_then ?_
      refine w_condT rfl ?_
      refine w_skip ?_
      refine xn_then ?_
      refine w_block ?_
      refine w_reg ?_
      refine wl_mv (.tmp 0) (pt k1 0) (fun _ => rfl) e0 rfl ?_
      refine wl_nc (.tmp 18) k1 0 rfl rfl rfl ?_
      refine wl_un (fun v => Instr.fieldAt 93 v 1) (.tmp 19) (pt k1 0) (pt k1 2) (fun _ => rfl) rfl (by kernel_rfl) rfl ?_
      refine wl_load 65 (.tmp 20) (pt k1 2) (pt fk 0) rfl rfl (run_one (hS.rc k1 _ hk) 65 2 rfl Try.underlying65 rfl) rfl ?_
      refine wl_mv (.tmp 21) (pt fk 0) (fun _ => rfl) rfl rfl ?_
      refine w_nil ?_
      refine xn_blk ?_
      exact xn_loop C2.length (by simp) ⟨C2, fk, fi, fs, fo, T.n k1 i1 s1 a1 b1, rfl, rfl, by rw [← hpl]; rfl, hS, by rw [← hup]; rfl, M⟩
theorem upL_pos : ∀ C : Cx, upL C = ((posC C).head?).map (·.2)
  | [] => rfl
  | f :: C => by
    unfold upL posC
    cases f.d with
    | true => simpa using upL_pos C
    | false => rfl
theorem idx_once {L : List (Int × Nat)} (hn : (L.map (·.1)).Nodup) {i j : Nat} {a b : Int × Nat} (hi : L[i]? = some a) (hj : L[j]? = some b) (h : a.1 = b.1) : i = j := by
  have h1 : (L.map (·.1))[i]? = some a.1 := by simp [hi]
  have h2 : (L.map (·.1))[j]? = some a.1 := by simp [hj, h]
  obtain ⟨p1, q1⟩ := List.getElem?_eq_some_iff.1 h1
  obtain ⟨p2, q2⟩ := List.getElem?_eq_some_iff.1 h2
  exact (List.getElem_inj hn).1 (q1.trans q2.symm)
theorem next_n {tr : T} (hT : RS D w t mb [] tr lk R root) (hnd : (tr.ids.map (·.i)).Nodup) {i : Nat} {x : Int × Nat} (hx : tr.kv[i]? = some x) :
    Calls Try.prog 71 #[pt x.2 0] w fun e w' => e = .returned (pp ((tr.kv[i + 1]?).map (·.2))) ∧ Mo w w' := by
  obtain ⟨id, k⟩ := x
  obtain ⟨C, y, s, l, r, rfl, rfl⟩ := kv_focus tr (List.mem_of_getElem? hx)
  have hT1 := RS.at C hT
  have hkv := plug_kv C (T.n k y s l r)
  have hat : ((plug C (T.n k y s l r)).kv)[(preC C ++ l.kv).length]? = some (y.i, k) := by
    rw [hkv, show (T.n k y s l r).kv = l.kv ++ (y.i, k) :: r.kv from rfl, ← List.append_assoc, List.append_assoc (preC C ++ l.kv), List.getElem?_append_right (Nat.le_refl _)]
    simp
  have hi := idx_once (by rw [T.kv_ids]; exact hnd) hx hat rfl
  have hnx : ((plug C (T.n k y s l r)).kv)[i + 1]? = (r.kv ++ posC C).head? := by
    rw [hi, hkv, show (T.n k y s l r).kv = l.kv ++ (y.i, k) :: r.kv from rfl, ← List.append_assoc, List.append_assoc (preC C ++ l.kv), List.getElem?_append_right (by omega)]
    rw [show (preC C ++ l.kv).length + 1 - (preC C ++ l.kv).length = 1 by omega, List.cons_append, List.getElem?_cons_succ, ← List.head?_eq_getElem?]
  rw [hnx]
  cases r with
  | e =>
    have h := next_b hT
    rw [upL_pos] at h
    exact h
  | n rk ri rz ra rb =>
    obtain ⟨hS, hA, hC, hR, hn⟩ := hT1
    obtain ⟨hd1, hk1⟩ := hR.1
    have h := next_a hS hk1 hR.2.2
    rw [lm_kv] at h
    have e : ((T.n rk ri rz ra rb).kv ++ posC C).head? = (T.n rk ri rz ra rb).kv.head? := by
      cases hq : (T.n rk ri rz ra rb).kv with
      | nil => simp [T.kv] at hq
      | cons a b => rfl
    rw [e]
    exact h
end
end G
end Go.Proofs.Ythfemlhmnjfjiaa
/-
  The document's Bits and OfInt; num.
-/
namespace Go.Proofs.Ythfemlhmnjfjiaa
open Go.RowKit
namespace G
section
variable {w : World}
theorem zs40 : (Try.prog.info? 40).map (·.size) = some 6 := by kernel_rfl
theorem cvU {n m : Int} (h : IntKind.u64.wrap n = m) (w : World) : (convert 2 34 (.int .i64 n)).run Try.prog w = .ok (.int .u64 m) w := by
  subst h; kernel_rfl
theorem sbU {n m : Int} (h : IntKind.u64.wrap (0 - n) = m) (x y : Operand) (w : World) : (do eqGuard .sub 34 x y (.int .u64 0) (.int .u64 n); binOp .sub 34 (.int .u64 0) (.int .u64 n)).run Try.prog w = .ok (.int .u64 m) w := by
  subst h; kernel_rfl
theorem ofint_p {n s : Int} (hn : -9223372036854775808 ≤ n ∧ n ≤ 9223372036854775807) (q0 : decide (n < 0) = false) (q1 : decide (s < 0) = false) (q2 : decide (18 < s) = false) : Calls Try.prog 45 #[.int .i64 n, .int .i64 s] w fun e w' => e = .returned (.tuple #[.agg #[.bool false, .int .u64 (l0 (n)), .int .u64 (l1 (n)), .int .u64 (l2 (n)), .int .u64 (l3 (n)), .int .i64 (s)], .int .i64 0]) ∧ Mo w w' := by
  have hq0 := of_decide_eq_false q0
  refine w_enter 26 Try.func45 Try.ntmps45 rfl rfl ?_
  have M : Mo w w := Mo.refl _
  refine w_seq ?_
  refine w_reg ?_
  refine wl_alloc 40 #[.bool false, .int .u64 0, .int .u64 0, .int .u64 0, .int .u64 0, .int .i64 0] rfl (fun _ => by kernel_rfl) rfl ?_
  intro k1 w1 hk hz hq Q1
  have N_k1 : w.heap.size ≤ k1 := by have := M.size; omega
  replace M := M.trans hq
  clear hk hz hq
  refine wl_mv (.const (.int .i64 (0))) (.int .i64 (0)) (fun _ => rfl) rfl rfl ?_
  refine w_nil ?_
  refine xn_then ?_
  refine w_seq ?_
  refine w_seq ?_
  refine w_reg ?_
  refine wl_mv (.tmp 1) (.int .i64 (s)) (fun _ => rfl) rfl rfl ?_
  refine wl_bin (fun x y => do eqGuard .lss 3 (.tmp 7) (.const (.int .i64 (0))) x y; binOp .lss 3 x y) (.tmp 7) (.const (.int .i64 (0))) (.int .i64 (s)) (.int .i64 (0)) (.bool false) (fun _ => rfl) rfl rfl (ltI q1 _ _ _) rfl ?_
  refine wl_mv (.tmp 8) (.bool false) (fun _ => rfl) rfl rfl ?_
  refine wl_mv (.tmp 1) (.int .i64 (s)) (fun _ => rfl) rfl rfl ?_
  refine wl_bin (fun x y => do eqGuard .gtr 3 (.tmp 10) (.const (.int .i64 (18))) x y; binOp .gtr 3 x y) (.tmp 10) (.const (.int .i64 (18))) (.int .i64 (s)) (.int .i64 (18)) (.bool false) (fun _ => rfl) rfl rfl (gtI q2 _ _ _) rfl ?_
  refine wl_pick (.tmp 9) (.const (.bool true)) (.tmp 11) false (.bool false) (fun _ => rfl) rfl rfl rfl ?_
  refine w_nil ?_
  refine xn_then ?_
  refine w_condF rfl ?_
  refine w_skip ?_
  refine xn_then ?_
  refine w_seq ?_
  refine w_reg ?_
  refine wl_mv (.tmp 0) (.int .i64 (n)) (fun _ => rfl) rfl rfl ?_
  refine wl_un (fun v => convert 2 34 v) (.tmp 14) (.int .i64 (n)) (.int .u64 (n)) (fun _ => rfl) rfl (cvU (by rw [IntKind.wrap_u64]; omega) _) rfl ?_
  refine wl_mv (.tmp 15) (.int .u64 (n)) (fun _ => rfl) rfl rfl ?_
  refine w_nil ?_
  refine xn_then ?_
  refine w_seq ?_
  refine w_seq ?_
  refine w_reg ?_
  refine wl_mv (.tmp 0) (.int .i64 (n)) (fun _ => rfl) rfl rfl ?_
  refine wl_bin (fun x y => do eqGuard .lss 2 (.tmp 16) (.const (.int .i64 (0))) x y; binOp .lss 2 x y) (.tmp 16) (.const (.int .i64 (0))) (.int .i64 (n)) (.int .i64 (0)) (.bool false) (fun _ => rfl) rfl rfl (ltL q0 _ _ _) rfl ?_
  refine w_nil ?_
  refine xn_then ?_
  refine w_condF rfl ?_
  refine w_skip ?_
  refine xn_then ?_
  refine w_seq ?_
  refine w_reg ?_
  refine wl_mv (.tmp 0) (.int .i64 (n)) (fun _ => rfl) rfl rfl ?_
  refine wl_bin (fun x y => do eqGuard .lss 2 (.tmp 20) (.const (.int .i64 (0))) x y; binOp .lss 2 x y) (.tmp 20) (.const (.int .i64 (0))) (.int .i64 (n)) (.int .i64 (0)) (.bool false) (fun _ => rfl) rfl rfl (ltL q0 _ _ _) rfl ?_
  refine wl_mv (.tmp 6) (.int .u64 (n)) (fun _ => rfl) rfl rfl ?_
  refine wl_call 58 [(.tmp 22)] _ [.int .u64 (n)] (.agg #[.int .u64 (l0 (n)), .int .u64 (l1 (n)), .int .u64 (l2 (n)), .int .u64 (l3 (n))]) rfl rfl (fun _ _ => by kernel_rfl) (from34_any (n) _ ⟨by omega, by omega⟩) rfl ?_
  intro w2 hq
  replace Q1 := Q1.mo hq
  replace M := M.trans hq
  clear hq
  refine wl_mv (.tmp 1) (.int .i64 (s)) (fun _ => rfl) rfl rfl ?_
  refine wl_build 40 [(0, (.tmp 21)), (1, (.tmp 23)), (2, (.tmp 24))] [(0, .bool false), (1, .agg #[.int .u64 (l0 (n)), .int .u64 (l1 (n)), .int .u64 (l2 (n)), .int .u64 (l3 (n))]), (2, .int .i64 (s))] (.agg #[.bool false, .int .u64 (l0 (n)), .int .u64 (l1 (n)), .int .u64 (l2 (n)), .int .u64 (l3 (n)), .int .i64 (s)]) rfl rfl (by kernel_rfl) rfl ?_
  refine wl_st 40 (.tmp 4) (.tmp 25) k1 0 #[.bool false, .int .u64 (l0 (n)), .int .u64 (l1 (n)), .int .u64 (l2 (n)), .int .u64 (l3 (n)), .int .i64 (s)] [.bool false, .int .u64 0, .int .u64 0, .int .u64 0, .int .u64 0, .int .i64 0] [.bool false, .int .u64 (l0 (n)), .int .u64 (l1 (n)), .int .u64 (l2 (n)), .int .u64 (l3 (n)), .int .i64 (s)] Q1 rfl rfl rfl rfl rfl zs40 rfl rfl rfl ?_
  intro w3 hS Qn
  replace Q1 := Qn
  clear Qn
  replace M := hS.mo _ N_k1 M
  clear hS
  refine wl_mv (.const (.int .i64 (0))) (.int .i64 (0)) (fun _ => rfl) rfl rfl ?_
  refine w_nil ?_
  refine xn_then ?_
  refine w_ret ?_
  exact w_ret2 _ _ (.agg #[.bool false, .int .u64 (l0 (n)), .int .u64 (l1 (n)), .int .u64 (l2 (n)), .int .u64 (l3 (n)), .int .i64 (s)]) (.int .i64 (0)) rfl ⟨k1, rfl, (run_row Q1 40 0 6 [.bool false, .int .u64 (l0 (n)), .int .u64 (l1 (n)), .int .u64 (l2 (n)), .int .u64 (l3 (n)), .int .i64 (s)] rfl Try.underlying40 rfl zs40)⟩ rfl ⟨rfl, M⟩
theorem ofint_m {n s : Int} (hn : -9223372036854775808 ≤ n ∧ n ≤ 9223372036854775807) (q0 : decide (n < 0) = true) (q1 : decide (s < 0) = false) (q2 : decide (18 < s) = false) : Calls Try.prog 45 #[.int .i64 n, .int .i64 s] w fun e w' => e = .returned (.tuple #[.agg #[.bool true, .int .u64 (l0 (-n)), .int .u64 (l1 (-n)), .int .u64 (l2 (-n)), .int .u64 (l3 (-n)), .int .i64 (s)], .int .i64 0]) ∧ Mo w w' := by
  have hq0 := of_decide_eq_true q0
  refine w_enter 26 Try.func45 Try.ntmps45 rfl rfl ?_
  have M : Mo w w := Mo.refl _
  refine w_seq ?_
  refine w_reg ?_
  refine wl_alloc 40 #[.bool false, .int .u64 0, .int .u64 0, .int .u64 0, .int .u64 0, .int .i64 0] rfl (fun _ => by kernel_rfl) rfl ?_
  intro k1 w1 hk hz hq Q1
  have N_k1 : w.heap.size ≤ k1 := by have := M.size; omega
  replace M := M.trans hq
  clear hk hz hq
  refine wl_mv (.const (.int .i64 (0))) (.int .i64 (0)) (fun _ => rfl) rfl rfl ?_
  refine w_nil ?_
  refine xn_then ?_
  refine w_seq ?_
  refine w_seq ?_
  refine w_reg ?_
  refine wl_mv (.tmp 1) (.int .i64 (s)) (fun _ => rfl) rfl rfl ?_
  refine wl_bin (fun x y => do eqGuard .lss 3 (.tmp 7) (.const (.int .i64 (0))) x y; binOp .lss 3 x y) (.tmp 7) (.const (.int .i64 (0))) (.int .i64 (s)) (.int .i64 (0)) (.bool false) (fun _ => rfl) rfl rfl (ltI q1 _ _ _) rfl ?_
  refine wl_mv (.tmp 8) (.bool false) (fun _ => rfl) rfl rfl ?_
  refine wl_mv (.tmp 1) (.int .i64 (s)) (fun _ => rfl) rfl rfl ?_
  refine wl_bin (fun x y => do eqGuard .gtr 3 (.tmp 10) (.const (.int .i64 (18))) x y; binOp .gtr 3 x y) (.tmp 10) (.const (.int .i64 (18))) (.int .i64 (s)) (.int .i64 (18)) (.bool false) (fun _ => rfl) rfl rfl (gtI q2 _ _ _) rfl ?_
  refine wl_pick (.tmp 9) (.const (.bool true)) (.tmp 11) false (.bool false) (fun _ => rfl) rfl rfl rfl ?_
  refine w_nil ?_
  refine xn_then ?_
  refine w_condF rfl ?_
  refine w_skip ?_
  refine xn_then ?_
  refine w_seq ?_
  refine w_reg ?_
  refine wl_mv (.tmp 0) (.int .i64 (n)) (fun _ => rfl) rfl rfl ?_
  refine wl_un (fun v => convert 2 34 v) (.tmp 14) (.int .i64 (n)) (.int .u64 (18446744073709551616 + n)) (fun _ => rfl) rfl (cvU (by rw [IntKind.wrap_u64]; omega) _) rfl ?_
  refine wl_mv (.tmp 15) (.int .u64 (18446744073709551616 + n)) (fun _ => rfl) rfl rfl ?_
  refine w_nil ?_
  refine xn_then ?_
  refine w_seq ?_
  refine w_seq ?_
  refine w_reg ?_
  refine wl_mv (.tmp 0) (.int .i64 (n)) (fun _ => rfl) rfl rfl ?_
  refine wl_bin (fun x y => do eqGuard .lss 2 (.tmp 16) (.const (.int .i64 (0))) x y; binOp .lss 2 x y) (.tmp 16) (.const (.int .i64 (0))) (.int .i64 (n)) (.int .i64 (0)) (.bool true) (fun _ => rfl) rfl rfl (ltL q0 _ _ _) rfl ?_
  refine w_nil ?_
  refine xn_then ?_
  refine w_condT rfl ?_
  refine w_reg ?_
  refine wl_mv (.tmp 6) (.int .u64 (18446744073709551616 + n)) (fun _ => rfl) rfl rfl ?_
  refine wl_bin (fun x y => do eqGuard .sub 34 (.const (.int .u64 (0))) (.tmp 18) x y; binOp .sub 34 x y) (.const (.int .u64 (0))) (.tmp 18) (.int .u64 (0)) (.int .u64 (18446744073709551616 + n)) (.int .u64 (-n)) (fun _ => rfl) rfl rfl (sbU (by rw [IntKind.wrap_u64]; omega) _ _ _) rfl ?_
  refine wl_mv (.tmp 19) (.int .u64 (-n)) (fun _ => rfl) rfl rfl ?_
  refine w_nil ?_
  refine xn_then ?_
  refine w_seq ?_
  refine w_reg ?_
  refine wl_mv (.tmp 0) (.int .i64 (n)) (fun _ => rfl) rfl rfl ?_
  refine wl_bin (fun x y => do eqGuard .lss 2 (.tmp 20) (.const (.int .i64 (0))) x y; binOp .lss 2 x y) (.tmp 20) (.const (.int .i64 (0))) (.int .i64 (n)) (.int .i64 (0)) (.bool true) (fun _ => rfl) rfl rfl (ltL q0 _ _ _) rfl ?_
  refine wl_mv (.tmp 6) (.int .u64 (-n)) (fun _ => rfl) rfl rfl ?_
  refine wl_call 58 [(.tmp 22)] _ [.int .u64 (-n)] (.agg #[.int .u64 (l0 (-n)), .int .u64 (l1 (-n)), .int .u64 (l2 (-n)), .int .u64 (l3 (-n))]) rfl rfl (fun _ _ => by kernel_rfl) (from34_any (-n) _ ⟨by omega, by omega⟩) rfl ?_
  intro w2 hq
  replace Q1 := Q1.mo hq
  replace M := M.trans hq
  clear hq
  refine wl_mv (.tmp 1) (.int .i64 (s)) (fun _ => rfl) rfl rfl ?_
  refine wl_build 40 [(0, (.tmp 21)), (1, (.tmp 23)), (2, (.tmp 24))] [(0, .bool true), (1, .agg #[.int .u64 (l0 (-n)), .int .u64 (l1 (-n)), .int .u64 (l2 (-n)), .int .u64 (l3 (-n))]), (2, .int .i64 (s))] (.agg #[.bool true, .int .u64 (l0 (-n)), .int .u64 (l1 (-n)), .int .u64 (l2 (-n)), .int .u64 (l3 (-n)), .int .i64 (s)]) rfl rfl (by kernel_rfl) rfl ?_
  refine wl_st 40 (.tmp 4) (.tmp 25) k1 0 #[.bool true, .int .u64 (l0 (-n)), .int .u64 (l1 (-n)), .int .u64 (l2 (-n)), .int .u64 (l3 (-n)), .int .i64 (s)] [.bool false, .int .u64 0, .int .u64 0, .int .u64 0, .int .u64 0, .int .i64 0] [.bool true, .int .u64 (l0 (-n)), .int .u64 (l1 (-n)), .int .u64 (l2 (-n)), .int .u64 (l3 (-n)), .int .i64 (s)] Q1 rfl rfl rfl rfl rfl zs40 rfl rfl rfl ?_
  intro w3 hS Qn
  replace Q1 := Qn
  clear Qn
  replace M := hS.mo _ N_k1 M
  clear hS
  refine wl_mv (.const (.int .i64 (0))) (.int .i64 (0)) (fun _ => rfl) rfl rfl ?_
  refine w_nil ?_
  refine xn_then ?_
  refine w_ret ?_
  exact w_ret2 _ _ (.agg #[.bool true, .int .u64 (l0 (-n)), .int .u64 (l1 (-n)), .int .u64 (l2 (-n)), .int .u64 (l3 (-n)), .int .i64 (s)]) (.int .i64 (0)) rfl ⟨k1, rfl, (run_row Q1 40 0 6 [.bool true, .int .u64 (l0 (-n)), .int .u64 (l1 (-n)), .int .u64 (l2 (-n)), .int .u64 (l3 (-n)), .int .i64 (s)] rfl Try.underlying40 rfl zs40)⟩ rfl ⟨rfl, M⟩
theorem num_p {n s : Int} (hn : -9223372036854775808 ≤ n ∧ n ≤ 9223372036854775807) (q0 : decide (n < 0) = false) (q1 : decide (s < 0) = false) (q2 : decide (18 < s) = false) : Calls Try.prog 28 #[.int .i64 n, .int .i64 s] w fun e w' => e = .returned (V10.v ⟨1, ⟨false, n, s⟩, false, ⟨#[]⟩, 0⟩) ∧ Mo w w' := by
  refine w_enter 15 Try.func28 Try.ntmps28 rfl rfl ?_
  have M : Mo w w := Mo.refl _
  refine w_seq ?_
  refine w_reg ?_
  refine wl_alloc 55 #[.int .i64 0, .bool false, .int .u64 0, .int .u64 0, .int .u64 0, .int .u64 0, .int .i64 0, .bool false, .string ⟨#[]⟩, .int .i64 0] rfl (fun _ => by kernel_rfl) rfl ?_
  intro k1 w1 hk hz hq Q1
  have N_k1 : w.heap.size ≤ k1 := by have := M.size; omega
  replace M := M.trans hq
  clear hk hz hq
  refine w_nil ?_
  refine xn_then ?_
  refine w_seq ?_
  refine w_reg ?_
  refine wl_mv (.tmp 0) (.int .i64 (n)) (fun _ => rfl) rfl rfl ?_
  refine wl_mv (.tmp 1) (.int .i64 (s)) (fun _ => rfl) rfl rfl ?_
  refine wl_call 45 [(.tmp 8), (.tmp 9)] _ [.int .i64 (n), .int .i64 (s)] (.tuple #[.agg #[.bool false, .int .u64 (l0 (n)), .int .u64 (l1 (n)), .int .u64 (l2 (n)), .int .u64 (l3 (n)), .int .i64 (s)], .int .i64 (0)]) rfl rfl (fun _ _ => by kernel_rfl) (ofint_p hn q0 q1 q2) rfl ?_
  intro w2 hq
  replace Q1 := Q1.mo hq
  replace M := M.trans hq
  clear hq
  refine wl_mv (.tmp 10) (.tuple #[.agg #[.bool false, .int .u64 (l0 (n)), .int .u64 (l1 (n)), .int .u64 (l2 (n)), .int .u64 (l3 (n)), .int .i64 (s)], .int .i64 (0)]) (fun _ => rfl) rfl rfl ?_
  refine wl_un (fun v => Instr.extract v 0) (.tmp 7) (.tuple #[.agg #[.bool false, .int .u64 (l0 (n)), .int .u64 (l1 (n)), .int .u64 (l2 (n)), .int .u64 (l3 (n)), .int .i64 (s)], .int .i64 (0)]) (.agg #[.bool false, .int .u64 (l0 (n)), .int .u64 (l1 (n)), .int .u64 (l2 (n)), .int .u64 (l3 (n)), .int .i64 (s)]) (fun _ => rfl) rfl (by kernel_rfl) rfl ?_
  refine wl_un (fun v => Instr.extract v 1) (.tmp 7) (.tuple #[.agg #[.bool false, .int .u64 (l0 (n)), .int .u64 (l1 (n)), .int .u64 (l2 (n)), .int .u64 (l3 (n)), .int .i64 (s)], .int .i64 (0)]) (.int .i64 (0)) (fun _ => rfl) rfl (by kernel_rfl) rfl ?_
  refine wl_alloc 40 #[.bool false, .int .u64 0, .int .u64 0, .int .u64 0, .int .u64 0, .int .i64 0] rfl (fun _ => by kernel_rfl) rfl ?_
  intro k2 w3 hk hz hq Q2
  have ne_k1_k2 : k1 ≠ k2 := by have := Q1.lt; omega
  have N_k2 : w.heap.size ≤ k2 := by have := M.size; omega
  replace Q1 := Q1.mo hq
  replace M := M.trans hq
  clear hk hz hq
  refine wl_st 40 (.tmp 5) (.tmp 11) k2 0 #[.bool false, .int .u64 (l0 (n)), .int .u64 (l1 (n)), .int .u64 (l2 (n)), .int .u64 (l3 (n)), .int .i64 (s)] [.bool false, .int .u64 0, .int .u64 0, .int .u64 0, .int .u64 0, .int .i64 0] [.bool false, .int .u64 (l0 (n)), .int .u64 (l1 (n)), .int .u64 (l2 (n)), .int .u64 (l3 (n)), .int .i64 (s)] Q2 rfl rfl rfl rfl rfl zs40 rfl rfl rfl ?_
  intro w4 hS Qn
  replace Q2 := Qn
  clear Qn
  replace Q1 := hS.other _ _ ne_k1_k2 Q1
  replace M := hS.mo _ N_k2 M
  clear hS
  refine wl_mv (.tmp 12) (.int .i64 (0)) (fun _ => rfl) rfl rfl ?_
  refine w_nil ?_
  refine xn_then ?_
  refine w_seq ?_
  refine w_reg ?_
  refine wl_load 40 (.tmp 5) (pt k2 0) (.agg #[.bool false, .int .u64 (l0 (n)), .int .u64 (l1 (n)), .int .u64 (l2 (n)), .int .u64 (l3 (n)), .int .i64 (s)]) rfl rfl (run_row Q2 40 0 6 [.bool false, .int .u64 (l0 (n)), .int .u64 (l1 (n)), .int .u64 (l2 (n)), .int .u64 (l3 (n)), .int .i64 (s)] rfl Try.underlying40 rfl zs40) rfl ?_
  refine wl_build 55 [(0, (.const (.int .i64 (1)))), (1, (.tmp 13))] [(0, .int .i64 (1)), (1, .agg #[.bool false, .int .u64 (l0 (n)), .int .u64 (l1 (n)), .int .u64 (l2 (n)), .int .u64 (l3 (n)), .int .i64 (s)])] (.agg #[.int .i64 (1), .bool false, .int .u64 (l0 (n)), .int .u64 (l1 (n)), .int .u64 (l2 (n)), .int .u64 (l3 (n)), .int .i64 (s), .bool false, .string ⟨#[]⟩, .int .i64 0]) rfl rfl (by kernel_rfl) rfl ?_
  refine wl_st 55 (.tmp 4) (.tmp 14) k1 0 #[.int .i64 (1), .bool false, .int .u64 (l0 (n)), .int .u64 (l1 (n)), .int .u64 (l2 (n)), .int .u64 (l3 (n)), .int .i64 (s), .bool false, .string ⟨#[]⟩, .int .i64 0] [.int .i64 0, .bool false, .int .u64 0, .int .u64 0, .int .u64 0, .int .u64 0, .int .i64 0, .bool false, .string ⟨#[]⟩, .int .i64 0] [.int .i64 (1), .bool false, .int .u64 (l0 (n)), .int .u64 (l1 (n)), .int .u64 (l2 (n)), .int .u64 (l3 (n)), .int .i64 (s), .bool false, .string ⟨#[]⟩, .int .i64 0] Q1 rfl rfl rfl rfl rfl zs55 rfl rfl rfl ?_
  intro w5 hS Qn
  replace Q1 := Qn
  clear Qn
  replace Q2 := hS.other _ _ ne_k1_k2.symm Q2
  replace M := hS.mo _ N_k1 M
  clear hS
  refine w_nil ?_
  refine xn_then ?_
  refine w_ret ?_
  exact w_ret1 _ (.agg #[.int .i64 (1), .bool false, .int .u64 (l0 (n)), .int .u64 (l1 (n)), .int .u64 (l2 (n)), .int .u64 (l3 (n)), .int .i64 (s), .bool false, .string ⟨#[]⟩, .int .i64 0]) rfl ⟨k1, rfl, (run_row Q1 55 0 10 [.int .i64 (1), .bool false, .int .u64 (l0 (n)), .int .u64 (l1 (n)), .int .u64 (l2 (n)), .int .u64 (l3 (n)), .int .i64 (s), .bool false, .string ⟨#[]⟩, .int .i64 0] rfl Try.underlying55 rfl zs55)⟩ ⟨rfl, M⟩
theorem num_m {n s : Int} (hn : -9223372036854775808 ≤ n ∧ n ≤ 9223372036854775807) (q0 : decide (n < 0) = true) (q1 : decide (s < 0) = false) (q2 : decide (18 < s) = false) : Calls Try.prog 28 #[.int .i64 n, .int .i64 s] w fun e w' => e = .returned (V10.v ⟨1, ⟨true, -n, s⟩, false, ⟨#[]⟩, 0⟩) ∧ Mo w w' := by
  refine w_enter 15 Try.func28 Try.ntmps28 rfl rfl ?_
  have M : Mo w w := Mo.refl _
  refine w_seq ?_
  refine w_reg ?_
  refine wl_alloc 55 #[.int .i64 0, .bool false, .int .u64 0, .int .u64 0, .int .u64 0, .int .u64 0, .int .i64 0, .bool false, .string ⟨#[]⟩, .int .i64 0] rfl (fun _ => by kernel_rfl) rfl ?_
  intro k1 w1 hk hz hq Q1
  have N_k1 : w.heap.size ≤ k1 := by have := M.size; omega
  replace M := M.trans hq
  clear hk hz hq
  refine w_nil ?_
  refine xn_then ?_
  refine w_seq ?_
  refine w_reg ?_
  refine wl_mv (.tmp 0) (.int .i64 (n)) (fun _ => rfl) rfl rfl ?_
  refine wl_mv (.tmp 1) (.int .i64 (s)) (fun _ => rfl) rfl rfl ?_
  refine wl_call 45 [(.tmp 8), (.tmp 9)] _ [.int .i64 (n), .int .i64 (s)] (.tuple #[.agg #[.bool true, .int .u64 (l0 (-n)), .int .u64 (l1 (-n)), .int .u64 (l2 (-n)), .int .u64 (l3 (-n)), .int .i64 (s)], .int .i64 (0)]) rfl rfl (fun _ _ => by kernel_rfl) (ofint_m hn q0 q1 q2) rfl ?_
  intro w2 hq
  replace Q1 := Q1.mo hq
  replace M := M.trans hq
  clear hq
  refine wl_mv (.tmp 10) (.tuple #[.agg #[.bool true, .int .u64 (l0 (-n)), .int .u64 (l1 (-n)), .int .u64 (l2 (-n)), .int .u64 (l3 (-n)), .int .i64 (s)], .int .i64 (0)]) (fun _ => rfl) rfl rfl ?_
  refine wl_un (fun v => Instr.extract v 0) (.tmp 7) (.tuple #[.agg #[.bool true, .int .u64 (l0 (-n)), .int .u64 (l1 (-n)), .int .u64 (l2 (-n)), .int .u64 (l3 (-n)), .int .i64 (s)], .int .i64 (0)]) (.agg #[.bool true, .int .u64 (l0 (-n)), .int .u64 (l1 (-n)), .int .u64 (l2 (-n)), .int .u64 (l3 (-n)), .int .i64 (s)]) (fun _ => rfl) rfl (by kernel_rfl) rfl ?_
  refine wl_un (fun v => Instr.extract v 1) (.tmp 7) (.tuple #[.agg #[.bool true, .int .u64 (l0 (-n)), .int .u64 (l1 (-n)), .int .u64 (l2 (-n)), .int .u64 (l3 (-n)), .int .i64 (s)], .int .i64 (0)]) (.int .i64 (0)) (fun _ => rfl) rfl (by kernel_rfl) rfl ?_
  refine wl_alloc 40 #[.bool false, .int .u64 0, .int .u64 0, .int .u64 0, .int .u64 0, .int .i64 0] rfl (fun _ => by kernel_rfl) rfl ?_
  intro k2 w3 hk hz hq Q2
  have ne_k1_k2 : k1 ≠ k2 := by have := Q1.lt; omega
  have N_k2 : w.heap.size ≤ k2 := by have := M.size; omega
  replace Q1 := Q1.mo hq
  replace M := M.trans hq
  clear hk hz hq
  refine wl_st 40 (.tmp 5) (.tmp 11) k2 0 #[.bool true, .int .u64 (l0 (-n)), .int .u64 (l1 (-n)), .int .u64 (l2 (-n)), .int .u64 (l3 (-n)), .int .i64 (s)] [.bool false, .int .u64 0, .int .u64 0, .int .u64 0, .int .u64 0, .int .i64 0] [.bool true, .int .u64 (l0 (-n)), .int .u64 (l1 (-n)), .int .u64 (l2 (-n)), .int .u64 (l3 (-n)), .int .i64 (s)] Q2 rfl rfl rfl rfl rfl zs40 rfl rfl rfl ?_
  intro w4 hS Qn
  replace Q2 := Qn
  clear Qn
  replace Q1 := hS.other _ _ ne_k1_k2 Q1
  replace M := hS.mo _ N_k2 M
  clear hS
  refine wl_mv (.tmp 12) (.int .i64 (0)) (fun _ => rfl) rfl rfl ?_
  refine w_nil ?_
  refine xn_then ?_
  refine w_seq ?_
  refine w_reg ?_
  refine wl_load 40 (.tmp 5) (pt k2 0) (.agg #[.bool true, .int .u64 (l0 (-n)), .int .u64 (l1 (-n)), .int .u64 (l2 (-n)), .int .u64 (l3 (-n)), .int .i64 (s)]) rfl rfl (run_row Q2 40 0 6 [.bool true, .int .u64 (l0 (-n)), .int .u64 (l1 (-n)), .int .u64 (l2 (-n)), .int .u64 (l3 (-n)), .int .i64 (s)] rfl Try.underlying40 rfl zs40) rfl ?_
  refine wl_build 55 [(0, (.const (.int .i64 (1)))), (1, (.tmp 13))] [(0, .int .i64 (1)), (1, .agg #[.bool true, .int .u64 (l0 (-n)), .int .u64 (l1 (-n)), .int .u64 (l2 (-n)), .int .u64 (l3 (-n)), .int .i64 (s)])] (.agg #[.int .i64 (1), .bool true, .int .u64 (l0 (-n)), .int .u64 (l1 (-n)), .int .u64 (l2 (-n)), .int .u64 (l3 (-n)), .int .i64 (s), .bool false, .string ⟨#[]⟩, .int .i64 0]) rfl rfl (by kernel_rfl) rfl ?_
  refine wl_st 55 (.tmp 4) (.tmp 14) k1 0 #[.int .i64 (1), .bool true, .int .u64 (l0 (-n)), .int .u64 (l1 (-n)), .int .u64 (l2 (-n)), .int .u64 (l3 (-n)), .int .i64 (s), .bool false, .string ⟨#[]⟩, .int .i64 0] [.int .i64 0, .bool false, .int .u64 0, .int .u64 0, .int .u64 0, .int .u64 0, .int .i64 0, .bool false, .string ⟨#[]⟩, .int .i64 0] [.int .i64 (1), .bool true, .int .u64 (l0 (-n)), .int .u64 (l1 (-n)), .int .u64 (l2 (-n)), .int .u64 (l3 (-n)), .int .i64 (s), .bool false, .string ⟨#[]⟩, .int .i64 0] Q1 rfl rfl rfl rfl rfl zs55 rfl rfl rfl ?_
  intro w5 hS Qn
  replace Q1 := Qn
  clear Qn
  replace Q2 := hS.other _ _ ne_k1_k2.symm Q2
  replace M := hS.mo _ N_k1 M
  clear hS
  refine w_nil ?_
  refine xn_then ?_
  refine w_ret ?_
  exact w_ret1 _ (.agg #[.int .i64 (1), .bool true, .int .u64 (l0 (-n)), .int .u64 (l1 (-n)), .int .u64 (l2 (-n)), .int .u64 (l3 (-n)), .int .i64 (s), .bool false, .string ⟨#[]⟩, .int .i64 0]) rfl ⟨k1, rfl, (run_row Q1 55 0 10 [.int .i64 (1), .bool true, .int .u64 (l0 (-n)), .int .u64 (l1 (-n)), .int .u64 (l2 (-n)), .int .u64 (l3 (-n)), .int .i64 (s), .bool false, .string ⟨#[]⟩, .int .i64 0] rfl Try.underlying55 rfl zs55)⟩ ⟨rfl, M⟩
end
end G
end Go.Proofs.Ythfemlhmnjfjiaa
