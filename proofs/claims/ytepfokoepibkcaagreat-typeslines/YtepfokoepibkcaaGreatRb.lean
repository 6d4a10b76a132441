/-
  Slices of one's own, stores, functions as values, lists of what is read.
-/
import Derived.Test.YtepfokoepibkcaaGreatDa
import Derived.Maps.AppendAt
namespace Go.Proofs.YtepfokoepibkcaaGreat
open Go.RowKit D
theorem lt_of_get {α : Type} {L : List α} {k : Nat} {x : α} (h : L[k]? = some x) : k < L.length := (List.getElem?_eq_some_iff.1 h).1
theorem get_of_lt {α : Type} {L : List α} {k : Nat} (h : k < L.length) : ∃ x, L[k]? = some x := ⟨_, List.getElem?_eq_getElem h⟩
theorem D.Ex.ind2 {M : Ex → Prop} (h : ∀ x : Ex, (∀ o ∈ x.args, M o) → M x) : ∀ e, M e := Ex.ind (fun k op nm se v sc po pa cap args ih => h (.mk k op nm se v sc po pa cap args) ih)
theorem flat_get {α : Type} {cells : α → List Value} {n : Nat} (hl : ∀ x, (cells x).length = n) : ∀ (L : List α) (i : Nat) (o : α) (j : Nat) (v : Value), L[i]? = some o → (cells o)[j]? = some v → (L.flatMap cells)[i * n + j]? = some v
  | [], i, o, j, v, h, _ => by simp at h
  | x :: L, 0, o, j, v, h, hv => by
    simp at h; subst h
    rw [List.flatMap_cons, Nat.zero_mul, Nat.zero_add, List.getElem?_append_left (lt_of_get hv)]; exact hv
  | x :: L, i + 1, o, j, v, h, hv => by
    simp at h
    have e : (i + 1) * n + j = n + (i * n + j) := by rw [Nat.add_mul]; omega
    rw [List.flatMap_cons, e, List.getElem?_append_right (by rw [hl]; omega), hl, Nat.add_sub_cancel_left]
    exact flat_get hl L i o j v h hv
theorem SL.of_range {w : World} {k off n : Nat} {α : Type} {cells : α → List Value} (hl : ∀ x, (cells x).length = n) {L : List α} (hz : L.length ≤ maxLen) (hk : k < w.heap.size) (h : w.rangeAt k off (L.flatMap cells)) : SL w n cells (some ⟨k, off, none⟩) L := ⟨hz, fun i o e => ⟨k, off, rfl, hk, fun j v hv => by
  have := h (i * n + j) v (flat_get hl L i o j v e hv)
  rw [show off + i * n + j = off + (i * n + j) by omega]; exact this⟩⟩
theorem SL.of_at {w : World} {k n : Nat} {α : Type} {cells : α → List Value} (hl : ∀ x, (cells x).length = n) {L : List α} (hz : L.length ≤ maxLen) (h : At w k (L.flatMap cells)) : SL w n cells (some ⟨k, 0, none⟩) L := SL.of_range hl hz h.2.2 h.1
theorem own_base {w : World} {N N' e sz : Nat} {v : Value} {n : Nat} {xs : List Value} (h : w.ownsRow N e sz v n xs) (hN : N' ≤ N) : w.ownsRow N' e sz v n xs := by
  refine ⟨h.1, ?_⟩
  rcases h.2 with q | ⟨g, cap, cur, q, hg, r⟩
  · exact Or.inl q
  · exact Or.inr ⟨g, cap, cur, q, Nat.le_trans hN hg, r⟩
theorem flat_len {α : Type} {cells : α → List Value} {n : Nat} (hl : ∀ x, (cells x).length = n) : ∀ L : List α, (L.flatMap cells).length = L.length * n
  | [] => by simp
  | x :: L => by rw [List.flatMap_cons, List.length_append, hl, flat_len hl L, List.length_cons, Nat.add_mul]; omega
theorem appG {st et sz bys : Nat} {zv : Value} (hst : Tryz.prog.underlying st = some (.slice et)) (hin : ∃ i, Tryz.prog.info? et = some i ∧ i.zero = some zv ∧ i.size = sz ∧ i.bytes = bys) (hzs : zv.cells.size = sz) (hsz : 0 < sz)
    (w : World) (ty : TypeId) (N : Nat) (v : Value) (n : Nat) (xs : List Value) (hown : w.ownsRow N et sz v n xs) (k m c : Nat) (news : List Value) (hl : news.length = m * sz) (hA : At w k news) (h1 : ∀ u ∈ news, u.oneCell' = true) (hm : 0 < m) (h63 : n + m ≤ maxLen) (hb : (n + m) * bys ≤ 140737488355328) (hN : N ≤ w.heap.size) :
    ∃ v' w', (Builtin.append_ #[st, st] ty #[v, .slice (some ⟨k, 0, none⟩) m c]).run Tryz.prog w = .ok v' w' ∧ w'.ownsRow N et sz v' (n + m) (xs ++ news) ∧ Mk (fun j => v.ownBlock = some j) w w' ∧ (v'.ownBlock = v.ownBlock ∨ v'.ownBlock = some w.heap.size) := by
  obtain ⟨i, hi, hz, hs, hby⟩ := hin
  have hm63 : (m : Int) ≤ 9223372036854775807 := by unfold maxLen at h63; omega
  have hbm : m * bys ≤ 140737488355328 := Nat.le_trans (Nat.mul_le_mul_right _ (by omega)) hb
  have hnews : ∀ j u, news[j]? = some u → w.cell? ((⟨k, 0, none⟩ : Addr).add j) = some u := fun j u hu => by
    rw [Addr.add_mid]; have := hA.1 j u hu; simpa using this
  obtain ⟨v', w', hr, h2, h3, _, h5⟩ := run_append_own_at (P := Tryz.prog) w N st ty et i _ sz bys hst hi hz hs hby hzs hsz v n xs hown ⟨k, 0, none⟩ m c news hl hnews h1 h63 hb hN
  refine ⟨v', w', hr, h2, ⟨h3.os, h3.tape, h3.output, h3.size, fun j hj hne => h3.block j hj (fun e => hne e.symm), ?_⟩, h5⟩
  rcases hown.2 with ⟨rfl, rfl⟩ | ⟨g, cap, cur, rfl, hbg, hg, hnc, hcm, hcs, htake⟩
  · have hr2 := run_append_nil (P := Tryz.prog) w st ty et i _ hst hi hz ⟨k, 0, none⟩ m c news (by rw [hs]; exact hl) hnews hm hm63 (by rw [hby]; omega)
    rw [hr2] at hr
    cases hr
    exact ((Mo.refl w).drew.alloc _ _).2
  · by_cases hroom : n + m ≤ cap
    · have hr2 := run_append_room (P := Tryz.prog) w st ty et i hst hi g n cap cur hg ⟨k, 0, none⟩ m c news (by rw [hs]; exact hl) hnews h1 hroom (by rw [hs, hcs]; exact Nat.mul_le_mul_right _ hroom |> fun h => by first | omega | exact h | (rw [hl]; rw [Nat.add_mul] at h; omega))
      rw [hr2] at hr
      cases hr
      intro a
      by_cases e : a.block = g
      · have h9 := setRow_heap w g cur (cur.toList.take (n * i.size) ++ news ++ cur.toList.drop (n * i.size + news.length)).toArray et (0, 0) hg
        simp only [World.frozen?, e, h9, hg]
      · exact World.frozen?_of_block (setRow_other w g a.block _ e)
    · have hr2 := run_append_grow (P := Tryz.prog) w st ty et i _ hst hi hz ⟨g, 0, none⟩ n cap xs (by rw [hs]; exact hown.1) (hown.cells (g := g) rfl) ⟨k, 0, none⟩ m c news (by rw [hs]; exact hl) hnews (by omega) (by unfold maxLen at h63; omega) (by rw [hby]; exact growslice_fits (by omega) hb)
      rw [hr2] at hr
      cases hr
      exact ((Mo.refl w).drew.alloc _ _).2
theorem own_form {w : World} {N e sz : Nat} {v : Value} {n : Nat} {xs : List Value} (h : w.ownsRow N e sz v n xs) : ∃ pa cap, v = .slice pa n cap ∧ ∀ a, pa = some a → ∃ g, a = ⟨g, 0, none⟩ := by
  rcases h.2 with ⟨rfl, rfl⟩ | ⟨g, cap, cur, rfl, _⟩
  · exact ⟨none, 0, rfl, fun _ e => by cases e⟩
  · exact ⟨_, _, rfl, fun a e => ⟨g, (Option.some.inj e).symm⟩⟩
theorem own_sl {w : World} {N e sz : Nat} {α : Type} {cells : α → List Value} (hl : ∀ x, (cells x).length = sz) {pa : Option Addr} {cap : Nat} {L : List α} (hz : L.length ≤ maxLen) (h : w.ownsRow N e sz (.slice pa L.length cap) L.length (L.flatMap cells)) : SL w sz cells pa L := by
  rcases h.2 with ⟨e, h0⟩ | ⟨g, c2, cur, e, hg, hb, hnc, hcm, hcs, htk⟩
  · refine ⟨hz, fun i o hi => ?_⟩
    have := lt_of_get hi
    omega
  · cases e
    refine SL.of_range hl hz (Array.getElem?_eq_some_iff.1 hb).1 (fun j v hv => ?_)
    rw [← htk, List.getElem?_take] at hv
    split at hv
    · rw [Nat.zero_add]
      simp only [World.cell?, hb]
      simpa using hv
    · cases hv
theorem own_mo {w w' : World} {N e sz : Nat} {v : Value} {n : Nat} {xs : List Value} (h : w.ownsRow N e sz v n xs) (m : Mo w w') : w'.ownsRow N e sz v n xs :=
  h.kept (row := none) ⟨m.1.os, m.1.tape, m.1.output, m.1.size, fun k hk _ => m.1.block k hk⟩ (by cases e : v.ownBlock <;> simp)
theorem own_mk {D : Nat → Prop} {w w' : World} {N e sz : Nat} {v : Value} {n : Nat} {xs : List Value} (h : w.ownsRow N e sz v n xs) (m : Mk D w w') (hD : ∀ k, v.ownBlock = some k → ¬ D k) : w'.ownsRow N e sz v n xs := by
  refine ⟨h.1, ?_⟩
  rcases h.2 with q | ⟨g, cap, cur, rfl, hg, hb, r⟩
  · exact Or.inl q
  · exact Or.inr ⟨g, cap, cur, rfl, hg, (m.block g (Array.getElem?_eq_some_iff.1 hb).1 (hD g rfl)).trans hb, r⟩
theorem own_lt {w : World} {N e sz : Nat} {v : Value} {n : Nat} {xs : List Value} (h : w.ownsRow N e sz v n xs) {k : Nat} (hk : v.ownBlock = some k) : k < w.heap.size ∧ N ≤ k := by
  rcases h.2 with ⟨rfl, rfl⟩ | ⟨g, cap, cur, rfl, hg, hb, _⟩
  · cases hk
  · cases hk; exact ⟨(Array.getElem?_eq_some_iff.1 hb).1, hg⟩
section
variable {o : Oper} {n : Nat} {l : List (Nat × Value)} {w : World} {ops : Array Oper} {rest : List Oper} {Q : Exit → Act → World → Prop}
theorem wl_app {st et sz bys : Nat} {zv : Value} (hst : Tryz.prog.underlying st = some (.slice et)) (hin : ∃ i, Tryz.prog.info? et = some i ∧ i.zero = some zv ∧ i.size = sz ∧ i.bytes = bys) (hzs : zv.cells.size = sz) (hsz : 0 < sz) (s x : Operand) (N : Nat) (v : Value) (q : Nat) (xs : List Value) (k m c : Nat) (news : List Value) (ho : o.op = .call { callee := .builtin .append, args := #[s, x], argTypes := #[st, st] }) (hs : evl n l s = v) (hx : evl n l x = .slice (some ⟨k, 0, none⟩) m c)
    (hown : w.ownsRow N et sz v q xs) (hl : news.length = m * sz) (hA : At w k news) (h1 : ∀ u ∈ news, u.oneCell' = true) (hm : 0 < m) (h63 : q + m ≤ maxLen) (hb : (q + m) * bys ≤ 140737488355328) (hN : N ≤ w.heap.size) (hg : wnt n l ops o = true)
    (hk : ∀ v' w', w'.ownsRow N et sz v' (q + m) (xs ++ news) → Mk (fun j => v.ownBlock = some j) w w' → (v'.ownBlock = v.ownBlock ∨ v'.ownBlock = some w.heap.size) → WL Tryz.prog ops Q rest n (ext l o.dst v') w') : WL Tryz.prog ops Q (o :: rest) n l w := by
  obtain ⟨v', w', hr, h2, h3, h4⟩ := appG hst hin hzs hsz w o.type N v q xs hown k m c news hl hA h1 hm h63 hb hN
  refine ⟨l_step hg (o_val v' (w' := w') ?_ (hk v' w' h2 h3 h4).out)⟩
  unfold execOp
  simp only [ho, resolve, invoke, builtin, Sem.run_bind, Sem.run_pure, Result.andThen_ok, List.map_toArray, List.map_cons, List.map_nil, hs, hx, hr]
end
/-- A slice of one's own, by its address and room. -/

theorem mk_setCells (k : Nat) : ∀ (l : List Value) (o : Nat) (w : World), Mk (fun j => j = k) w (w.setCells k o l)
  | [], _, w => Mk.refl _ w
  | v :: r, o, w => by
    rw [World.setCells]
    refine Mk.same ?_ (mk_setCells k r (o + 1) _)
    refine ⟨rfl, rfl, rfl, by simp [World.setCell], fun j _ hj => ?_, fun a => World.frozen?_setCell _ _ _ _⟩
    simp [World.setCell, Array.getElem?_modify, Ne.symm hj]
section
variable {P : Program} {o : Oper} {n : Nat} {l : List (Nat × Value)} {w : World} {ops : Array Oper} {rest : List Oper} {Q : Exit → Act → World → Prop}
theorem wl_stm (ty : TypeId) (x y : Operand) (k off : Nat) (us : Array Value) (vs vs' : List Value) (hA : At w k vs) (ho : o.op = .store ty x y) (hd : o.dst = none) (hx : evl n l x = pt k off) (hy : evl n l y = .agg us)
    (hl : Nat.ble (off + us.size) vs.length = true) (hi : (P.info? ty).map (·.size) = some us.size) (h1 : us.toList.all (·.oneCell') = true) (hvs : vs' = vs.take off ++ us.toList ++ vs.drop (off + us.toList.length)) (hg : wnt n l ops o = true)
    (hk : ∀ w', St k w w' → Mk (fun j => j = k) w w' → At w' k vs' → WL P ops Q rest n l w') : WL P ops Q (o :: rest) n l w :=
  ⟨l_step hg (o_store ty x y _ _ ho hd hx hy (run_put hA ty off us (Nat.le_of_ble_eq_true hl) hi (by rw [← Array.all_toList]; exact h1)) (hk _ (St.mk' w k off us.toList) (mk_setCells k us.toList off w) (hA.set off us.toList (by have := Nat.le_of_ble_eq_true hl; simpa using this) vs' hvs)).out)⟩
theorem wl_stm1 (ty : TypeId) (x y : Operand) (k off : Nat) (v : Value) (vs vs' : List Value) (hA : At w k vs) (ho : o.op = .store ty x y) (hd : o.dst = none) (hx : evl n l x = pt k off) (hy : evl n l y = v)
    (hl : Nat.blt off vs.length = true) (hi : (P.info? ty).map (·.size) = some 1) (hv : v.cells = #[v]) (h1 : v.oneCell' = true) (hvs : vs' = vs.take off ++ [v] ++ vs.drop (off + 1)) (hg : wnt n l ops o = true)
    (hk : ∀ w', St k w w' → Mk (fun j => j = k) w w' → At w' k vs' → WL P ops Q rest n l w') : WL P ops Q (o :: rest) n l w :=
  have hl' : off < vs.length := by rw [Nat.blt_eq] at hl; exact hl
  ⟨l_step hg (o_store ty x y _ _ ho hd hx hy (run_put1 hA ty off v hl' hi hv h1) (hk _ (St.mk' w k off [v]) (mk_setCells k [v] off w) (hA.set off [v] (by simp; omega) vs' hvs)).out)⟩
end
section
variable {P : Program} {o : Oper} {n : Nat} {l : List (Nat × Value)} {w : World} {Q : Exit → Act → World → Prop} {K : Act → World → Prop}
theorem wl_mf {ops : Array Oper} {rest : List Oper} (fn : Fn) (xs ys : List Operand) (fs cs : List Value) (ho : o.op = .makeFunc fn xs.toArray ys.toArray) (hx : xs.map (evl n l) = fs) (hy : ys.map (evl n l) = cs) (hg : wnt n l ops o = true) (hk : WL P ops Q rest n (ext l o.dst (.func fn fs.toArray cs.toArray)) w) : WL P ops Q (o :: rest) n l w := by
  subst hx hy
  exact wl_val (.func fn (xs.map (evl n l)).toArray (ys.map (evl n l)).toArray) (by simp [execOp, ho, Instr.makeFunc]) hg hk
end
end Go.Proofs.YtepfokoepibkcaaGreat

