/-
  A script, and what a tree does with whatever comes.
-/
import Derived.Test.YtbmbldloeblbbaaLg
namespace Go.Proofs.Ytbmbldloeblbbaa
open Go.RowKit
section
variable {P : Program} {o : Oper} {n : Nat} {l : List (Nat × Value)} {w : World} {ops : Array Oper} {rest : List Oper} {Q : Exit → Act → World → Prop}
theorem wl_stx2 (ty : TypeId) (x y : Operand) (k off : Nat) (us : Array Value) (vs vs' : List Value) (hA : At w k vs) (ho : o.op = .store ty x y) (hd : o.dst = none) (hx : evl n l x = pt k off) (hy : evl n l y = .agg us)
    (hl : Nat.ble (off + us.size) vs.length = true) (hi : (P.info? ty).map (·.size) = some us.size) (h1 : us.toList.all (·.oneCell') = true) (hvs : vs' = vs.take off ++ us.toList ++ vs.drop (off + us.toList.length)) (hg : wnt n l ops o = true)
    (hk : ∀ w', St2 k w w' → At w' k vs' → WL P ops Q rest n l w') : WL P ops Q (o :: rest) n l w :=
  ⟨l_step hg (o_store ty x y _ _ ho hd hx hy (run_put hA ty off us (Nat.le_of_ble_eq_true hl) hi (by rw [← Array.all_toList]; exact h1)) (hk _ (St2.mk2 w k off us.toList) (hA.set off us.toList (by have := Nat.le_of_ble_eq_true hl; simpa using this) vs' hvs)).out)⟩
end
/-- An operation of a script. -/
structure Op3 where
  d : Int
  a : Int
  i : Int
def Op3.cells (o : Op3) : List Value := [.int .i64 o.d, .int .i64 o.a, .int .i64 o.i]
def Op3.ok (o : Op3) : Prop := I64 o.d ∧ I64 o.a ∧ I64 o.i
/-- A script lies there. -/
def SA (w : World) (p : Option Addr) (l : List Op3) : Prop := ∀ i o, l[i]? = some o → ∃ b off, p = some ⟨b, off, none⟩ ∧ b < w.heap.size ∧ w.rangeAt b (off + i * 3) o.cells
theorem SA.mo {w w' : World} {p : Option Addr} {l : List Op3} (h : SA w p l) (m : Mo w w') : SA w' p l := fun i o e => by
  obtain ⟨b, off, h1, h2, h3⟩ := h i o e
  exact ⟨b, off, h1, Nat.lt_of_lt_of_le h2 m.size, fun j v hv => (m.cell b _ h2).trans (h3 j v hv)⟩
theorem sz31 : (Try.prog.info? 31).map (·.size) = some 3 := by kernel_rfl
theorem SA.load {w : World} {b off i : Nat} {o : Op3} (h : w.rangeAt b (off + i * 3) o.cells) : (Instr.loadAt 31 (pt b (off + i * 3))).run Try.prog w = .ok (.agg #[.int .i64 o.d, .int .i64 o.a, .int .i64 o.i]) w :=
  run_loadAt_mid w b (off + i * 3) 31 o.cells _ h Try.underlying31 rfl sz31
theorem ix22 (b off i n c : Nat) (h : i < n) (w : World) : (Instr.indexAt 22 (.slice (some ⟨b, off, none⟩) n c) (.int .i64 (i : Int))).run Try.prog w = .ok (pt b (off + i * 3)) w := by
  have e : (Instr.indexAt 22 (.slice (some ⟨b, off, none⟩) n c) (.int .i64 (i : Int))).run Try.prog w = .ok (.pointer (some ((⟨b, off, none⟩ : Addr).add (i * 3)))) w := by simp [go_sem, h]
  rw [e, Addr.add_mid]
theorem len22 (ρ : Operand → Value) (x : Operand) (p : Option Addr) (m c : Nat) (hx : ρ x = .slice p m c) (dst : Option Tmp) (type : TypeId) (pos : String) (after : Array Edge) (guard : Option (Nat × Bool)) (w : World) : (execOp ρ { dst, op := .call { callee := .builtin .len, args := #[x], argTypes := #[22] }, type, pos, after, guard }).run Try.prog w = .ok (.value (.int .i64 (m : Int))) w := by
  simp [go_sem, hx]
theorem maxN (a b : Nat) (ρ : Operand → Value) (x y : Operand) (hx : ρ x = .int .i64 (a : Int)) (hy : ρ y = .int .i64 (b : Int)) (dst : Option Tmp) (type : TypeId) (pos : String) (after : Array Edge) (guard : Option (Nat × Bool)) (w : World) : (execOp ρ { dst, op := .call { callee := .builtin .max, args := #[x, y], argTypes := #[3, 3] }, type, pos, after, guard }).run Try.prog w = .ok (.value (.int .i64 ((max a b : Nat) : Int))) w := by
  rw [maxI (a : Int) (b : Int) ρ x y hx hy]
  congr 3; omega
theorem subL {a b : Int} (h1 : -9223372036854775808 ≤ a - b) (h2 : a - b ≤ 9223372036854775807) (x y : Operand) (w : World) : (do eqGuard .sub 2 x y (.int .i64 a) (.int .i64 b); binOp .sub 2 (.int .i64 a) (.int .i64 b)).run Try.prog w = .ok (.int .i64 (a - b)) w := by
  have e : (do eqGuard .sub 2 x y (.int .i64 a) (.int .i64 b); binOp .sub 2 (.int .i64 a) (.int .i64 b)).run Try.prog w = .ok (.int .i64 (IntKind.i64.wrap (a - b))) w := by kernel_rfl
  have h : IntKind.i64.wrap (a - b) = a - b := by rw [IntKind.wrap_i64]; omega
  rw [e, h]
theorem mulL {a b : Int} (h1 : -9223372036854775808 ≤ a * b) (h2 : a * b ≤ 9223372036854775807) (x y : Operand) (w : World) : (do eqGuard .mul 2 x y (.int .i64 a) (.int .i64 b); binOp .mul 2 (.int .i64 a) (.int .i64 b)).run Try.prog w = .ok (.int .i64 (a * b)) w := by
  have e : (do eqGuard .mul 2 x y (.int .i64 a) (.int .i64 b); binOp .mul 2 (.int .i64 a) (.int .i64 b)).run Try.prog w = .ok (.int .i64 (IntKind.i64.wrap (a * b))) w := by kernel_rfl
  have h : IntKind.i64.wrap (a * b) = a * b := by rw [IntKind.wrap_i64]; omega
  rw [e, h]
theorem leL {a b : Int} {r : Bool} (h : decide (a ≤ b) = r) (x y : Operand) (w : World) : (do eqGuard .leq 2 x y (.int .i64 a) (.int .i64 b); binOp .leq 2 (.int .i64 a) (.int .i64 b)).run Try.prog w = .ok (.bool r) w := by
  subst h; kernel_rfl
theorem eqE {a b : Int} {r : Bool} (h : decide (a = b) = r) (x y : Operand) (w : World) : (do eqGuard .eql 46 x y (.int .i64 a) (.int .i64 b); binOp .eql 46 (.int .i64 a) (.int .i64 b)).run Try.prog w = .ok (.bool r) w := by
  have e : (do eqGuard .eql 46 x y (.int .i64 a) (.int .i64 b); binOp .eql 46 (.int .i64 a) (.int .i64 b)).run Try.prog w = .ok (.bool (a == b)) w := by kernel_rfl
  rw [e, ← h]; rfl
theorem neE {a b : Int} {r : Bool} (h : decide (a = b) = r) (x y : Operand) (w : World) : (do eqGuard .neq 46 x y (.int .i64 a) (.int .i64 b); binOp .neq 46 (.int .i64 a) (.int .i64 b)).run Try.prog w = .ok (.bool !r) w := by
  have e : (do eqGuard .neq 46 x y (.int .i64 a) (.int .i64 b); binOp .neq 46 (.int .i64 a) (.int .i64 b)).run Try.prog w = .ok (.bool (a != b)) w := by kernel_rfl
  rw [e, ← h]; rfl
section
variable {n0 : Nat} {ks : List Nat} {w w' : World} {t mb : Nat} {tr : T} {lk : Int}
def Bm (a b : T) : Int := 24 * (1 + (bitc (max a.kv.length b.kv.length) : Int))
theorem bm_of {a b : T} (h : a.bw) (hs : a.sz ≤ 1024) : 11 * (a.ht : Int) + 3 ≤ Bm a b := by
  have h1 := (ht_bits h hs).2
  have hk := a.kv_len
  have e : a.sz.toNat = a.kv.length := by omega
  rw [e] at h1
  have h2 := bitc_mono (show a.kv.length ≤ max a.kv.length b.kv.length by omega)
  unfold Bm; omega
theorem bm_0 (a b : T) : 24 ≤ Bm a b := by unfold Bm; omega
theorem GT.eq (h : GT n0 ks w t mb tr lk) (m : Mo w w') : GT n0 ks w' t mb tr lk ∧ Mk (Wr n0 ks) w w' := ⟨h.mo m, Mk.of _ m⟩
theorem ins_any {at0 id : Int} (h : GT n0 ks w t mb tr lk) (hb : tr.bw) (hi : I64 id) (hlk : lk ≤ 2900000000000000000) : Calls Try.prog 19 #[pt t 0, .int .i64 at0, .int .i64 id] w fun e w' => ∃ tr' lk', e = .returned (.int .i64 (insE tr at0 id)) ∧ GT n0 ks w' t mb tr' lk' ∧ tr'.bw ∧ lk ≤ lk' ∧ lk' - lk ≤ Bm tr tr' ∧ (insE tr at0 id = 0 → lk < lk') ∧ Mk (Wr n0 ks) w w' := by
  have hle := h.le
  by_cases c : insE tr at0 id = 0
  · obtain ⟨c1, c2, c3, c4, c5, c6⟩ := insE_0 c
    refine (insert_g h c1 c2 c3 c4 c5 c6 (by omega)).mono fun e w' hq => ?_
    obtain ⟨he, kn, tr', lk', hI, hG, _, hk1, hk2, hM⟩ := hq
    have := bm_of (b := tr') hb hle
    exact ⟨tr', lk', by rw [c]; exact he, hG, hI.bw hb, by omega, by omega, fun _ => hk1, hM⟩
  · refine (insert_no h hi c).mono fun e w' hq => ?_
    obtain ⟨h1, h2⟩ := h.eq hq.2
    have := bm_0 tr tr
    exact ⟨tr, lk, hq.1, h1, hb, by omega, by omega, fun e => absurd e c, h2⟩
theorem del_any {id : Int} (h : GT n0 ks w t mb tr lk) (hb : tr.bw) (hi : I64 id) (hlk : lk ≤ 2900000000000000000) : Calls Try.prog 20 #[pt t 0, .int .i64 id] w fun e w' => ∃ p c tr' lk', e = .returned (.tuple #[.int .i64 p, .int .i64 c]) ∧ GT n0 ks w' t mb tr' lk' ∧ tr'.bw ∧ lk ≤ lk' ∧ lk' - lk ≤ Bm tr tr' ∧ Mk (Wr n0 ks) w w' := by
  have hle := h.le
  by_cases c : id ∈ tr.ids
  · refine (delete_g h c hlk).mono fun e w' hq => ?_
    obtain ⟨p, tr', lk', he, hp, hq, hD, hG, hk1, hk2, hM⟩ := hq
    have := bm_of (b := tr') hb hle
    exact ⟨p, 0, tr', lk', he, hG, hD.bw hb, by omega, by omega, hM⟩
  · refine (delete_no h hi c).mono fun e w' hq => ?_
    obtain ⟨h1, h2⟩ := h.eq hq.2
    have := bm_0 tr tr
    exact ⟨_, _, tr, lk, hq.1, h1, hb, by omega, by omega, h2⟩
theorem Del.sz {tr tr' : T} {i p : Int} (h : Del tr i p tr') : tr'.sz = tr.sz - 1 ∧ i ∈ tr.ids := by
  obtain ⟨A, B, h1, h2, h3⟩ := h.ids
  have a := tr.sz_ids
  have b := tr'.sz_ids
  rw [h1] at a ⊢
  rw [h3] at b
  simp only [List.length_append, List.length_cons] at a b
  exact ⟨by omega, by simp⟩
theorem Ins.sz {tr tr' : T} {at0 id : Int} {kn : Nat} (h : Ins tr at0 id kn tr') : tr'.sz = tr.sz + 1 := by
  obtain ⟨A, B, h1, h2, h3⟩ := h.ids
  have a := tr.sz_ids
  have b := tr'.sz_ids
  rw [h1] at a
  rw [h3] at b
  simp only [List.length_append, List.length_cons] at a b
  omega
theorem mov_any {at0 id : Int} (h : GT n0 ks w t mb tr lk) (hb : tr.bw) (hi : I64 id) (hlk : lk ≤ 2900000000000000000) : Calls Try.prog 21 #[pt t 0, .int .i64 id, .int .i64 at0] w fun e w' => ∃ p c tr' lk', e = .returned (.tuple #[.int .i64 p, .int .i64 c]) ∧ GT n0 ks w' t mb tr' lk' ∧ tr'.bw ∧ lk ≤ lk' ∧ lk' - lk ≤ 2 * Bm tr tr' ∧ Mk (Wr n0 ks) w w' := by
  have hle := h.le
  have h0 := bm_0 tr tr
  by_cases c : id ∈ tr.ids
  · by_cases c2 : at0 < 0 ∨ tr.sz ≤ at0
    · refine (move_at h c c2).mono fun e w' hq => ?_
      obtain ⟨h1, h2⟩ := h.eq hq.2
      exact ⟨_, _, tr, lk, hq.1, h1, hb, by omega, by omega, h2⟩
    · refine (move_g h c (by omega) (by omega) hlk).mono fun e w' hq => ?_
      obtain ⟨p, kn, tr1, tr', lk', he, hp, hq, hD, hI, hG, hk1, hk2, hM⟩ := hq
      have b1 := hD.bw hb
      have b2 := bm_of (b := tr') hb hle
      have s1 := hD.sz.1
      have s2 := hI.sz
      have b3 := bm_of (b := tr') b1 (by omega)
      have e3 : Bm tr1 tr' = Bm tr tr' := by
        have a1 := tr1.kv_len; have a2 := tr'.kv_len; have a3 := tr.kv_len
        unfold Bm; rw [show max tr1.kv.length tr'.kv.length = max tr.kv.length tr'.kv.length by omega]
      rw [e3] at b3
      exact ⟨p, 0, tr', lk', he, hG, hI.bw b1, by omega, by omega, hM⟩
  · refine (move_no h hi c).mono fun e w' hq => ?_
    obtain ⟨h1, h2⟩ := h.eq hq.2
    exact ⟨_, _, tr, lk, hq.1, h1, hb, by omega, by omega, h2⟩
theorem at_any {at0 : Int} (h : GT n0 ks w t mb tr lk) (hb : tr.bw) (hlk : lk ≤ 2900000000000000000) : Calls Try.prog 11 #[pt t 0, .int .i64 at0] w fun e w' => ∃ x b lk', e = .returned (.tuple #[.int .i64 x, .bool b]) ∧ GT n0 ks w' t mb tr lk' ∧ lk ≤ lk' ∧ lk' - lk ≤ Bm tr tr ∧ Mk (Wr n0 ks) w w' := by
  have hle := h.le
  have h0 := bm_of (b := tr) hb hle
  by_cases c2 : at0 < 0 ∨ tr.sz ≤ at0
  · refine (at_no h c2).mono fun e w' hq => ?_
    obtain ⟨h1, h2⟩ := h.eq hq.2
    exact ⟨_, _, lk, hq.1, h1, by omega, by omega, h2⟩
  · refine (at_g h (by omega) (by omega) (by omega)).mono fun e w' hq => ?_
    obtain ⟨x, lk', he, hx, hG, hk1, hk2, hM⟩ := hq
    exact ⟨x, true, lk', he, hG, by omega, by omega, hM⟩
theorem index_any {id : Int} (h : GT n0 ks w t mb tr lk) (hb : tr.bw) (hi : I64 id) (hlk : lk ≤ 2900000000000000000) : Calls Try.prog 13 #[pt t 0, .int .i64 id] w fun e w' => ∃ x b lk', e = .returned (.tuple #[.int .i64 x, .bool b]) ∧ GT n0 ks w' t mb tr lk' ∧ lk ≤ lk' ∧ lk' - lk ≤ Bm tr tr ∧ Mk (Wr n0 ks) w w' := by
  have hle := h.le
  have h0 := bm_of (b := tr) hb hle
  by_cases c2 : id ∈ tr.ids
  · refine (index_g h c2 (by omega)).mono fun e w' hq => ?_
    obtain ⟨x, lk', he, _, _, hG, hk1, hk2, hM⟩ := hq
    exact ⟨x, true, lk', he, hG, by omega, by omega, hM⟩
  · refine (index_no h hi c2).mono fun e w' hq => ?_
    obtain ⟨h1, h2⟩ := h.eq hq.2
    exact ⟨_, _, lk, hq.1, h1, by omega, by omega, h2⟩
theorem bm_hi {a b : T} (h1 : a.sz ≤ 1024) (h2 : b.sz ≤ 1024) : Bm a b ≤ 30000 := by
  have := a.kv_len; have := b.kv_len
  have h := bitc_le (max a.kv.length b.kv.length)
  unfold Bm; omega
end
end Go.Proofs.Ytbmbldloeblbbaa
