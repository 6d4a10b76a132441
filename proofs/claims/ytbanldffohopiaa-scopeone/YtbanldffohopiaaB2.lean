/-
  Elements put behind a slice of one's own; a definition's sections, flat.
-/
import Derived.Test.YtbanldffohopiaaS7
import Derived.Maps.AppendAt
namespace Go.Proofs.Ytbanldffohopiaa
open Go.RowKit D
theorem appG {st et sz bys : Nat} {zv : Value} (hst : Try.prog.underlying st = some (.slice et)) (hin : ∃ i, Try.prog.info? et = some i ∧ i.zero = some zv ∧ i.size = sz ∧ i.bytes = bys) (hzs : zv.cells.size = sz) (hsz : 0 < sz)
    (w : World) (ty : TypeId) (N : Nat) (v : Value) (n : Nat) (xs : List Value) (hown : w.ownsRow N et sz v n xs) (k m c : Nat) (news : List Value) (hl : news.length = m * sz) (hA : At w k news) (h1 : ∀ u ∈ news, u.oneCell' = true) (hm : 0 < m) (h63 : n + m ≤ maxLen) (hb : (n + m) * bys ≤ 140737488355328) (hN : N ≤ w.heap.size) :
    ∃ v' w', (Builtin.append_ #[st, st] ty #[v, .slice (some ⟨k, 0, none⟩) m c]).run Try.prog w = .ok v' w' ∧ w'.ownsRow N et sz v' (n + m) (xs ++ news) ∧ Mk (fun j => v.ownBlock = some j) w w' ∧ (v'.ownBlock = v.ownBlock ∨ v'.ownBlock = some w.heap.size) := by
  obtain ⟨i, hi, hz, hs, hby⟩ := hin
  have hm63 : (m : Int) ≤ 9223372036854775807 := by unfold maxLen at h63; omega
  have hbm : m * bys ≤ 140737488355328 := Nat.le_trans (Nat.mul_le_mul_right _ (by omega)) hb
  have hnews : ∀ j u, news[j]? = some u → w.cell? ((⟨k, 0, none⟩ : Addr).add j) = some u := fun j u hu => by
    rw [Addr.add_mid]; have := hA.1 j u hu; simpa using this
  obtain ⟨v', w', hr, h2, h3, _, h5⟩ := run_append_own_at (P := Try.prog) w N st ty et i _ sz bys hst hi hz hs hby hzs hsz v n xs hown ⟨k, 0, none⟩ m c news hl hnews h1 h63 hb hN
  refine ⟨v', w', hr, h2, ⟨h3.os, h3.tape, h3.output, h3.size, fun j hj hne => h3.block j hj (fun e => hne e.symm), ?_⟩, h5⟩
  rcases hown.2 with ⟨rfl, rfl⟩ | ⟨g, cap, cur, rfl, hbg, hg, hnc, hcm, hcs, htake⟩
  · have hr2 := run_append_nil (P := Try.prog) w st ty et i _ hst hi hz ⟨k, 0, none⟩ m c news (by rw [hs]; exact hl) hnews hm hm63 (by rw [hby]; omega)
    rw [hr2] at hr
    cases hr
    exact ((Mo.refl w).drew.alloc _ _).2
  · by_cases hroom : n + m ≤ cap
    · have hr2 := run_append_room (P := Try.prog) w st ty et i hst hi g n cap cur hg ⟨k, 0, none⟩ m c news (by rw [hs]; exact hl) hnews h1 hroom (by rw [hs, hcs]; exact Nat.mul_le_mul_right _ hroom |> fun h => by first | omega | exact h | (rw [hl]; rw [Nat.add_mul] at h; omega))
      rw [hr2] at hr
      cases hr
      intro a
      by_cases e : a.block = g
      · have h9 := setRow_heap w g cur (cur.toList.take (n * i.size) ++ news ++ cur.toList.drop (n * i.size + news.length)).toArray et (0, 0) hg
        simp only [World.frozen?, e, h9, hg]
      · exact World.frozen?_of_block (setRow_other w g a.block _ e)
    · have hr2 := run_append_grow (P := Try.prog) w st ty et i _ hst hi hz ⟨g, 0, none⟩ n cap xs (by rw [hs]; exact hown.1) (hown.cells (g := g) rfl) ⟨k, 0, none⟩ m c news (by rw [hs]; exact hl) hnews (by omega) (by unfold maxLen at h63; omega) (by rw [hby]; exact growslice_fits (by omega) hb)
      rw [hr2] at hr
      cases hr
      exact ((Mo.refl w).drew.alloc _ _).2
theorem inf52 : ∃ i, Try.prog.info? 52 = some i ∧ i.zero = some (.agg #[.int .i64 0, .int .i64 0, .string ⟨#[]⟩, .int .i64 0, .slice none 0 0]) ∧ i.size = 5 ∧ i.bytes = 64 := by
  have h : (Try.prog.info? 52).map (fun i => (i.zero, i.size, i.bytes)) = some (some (.agg #[.int .i64 0, .int .i64 0, .string ⟨#[]⟩, .int .i64 0, .slice none 0 0]), 5, 64) := by kernel_rfl
  cases hi : Try.prog.info? 52 with
  | none => rw [hi] at h; cases h
  | some i =>
    rw [hi] at h
    simp at h
    exact ⟨i, rfl, h.1, h.2.1, h.2.2⟩
theorem inf91 : ∃ i, Try.prog.info? 91 = some i ∧ i.zero = some (.map none) ∧ i.size = 1 ∧ i.bytes = 8 := by
  have h : (Try.prog.info? 91).map (fun i => (i.zero, i.size, i.bytes)) = some (some (.map none), 1, 8) := by kernel_rfl
  cases hi : Try.prog.info? 91 with
  | none => rw [hi] at h; cases h
  | some i =>
    rw [hi] at h
    simp at h
    exact ⟨i, rfl, h.1, h.2.1, h.2.2⟩
theorem inf3 : ∃ i, Try.prog.info? 3 = some i ∧ i.zero = some (.int .i64 0) ∧ i.size = 1 ∧ i.bytes = 8 := by
  have h : (Try.prog.info? 3).map (fun i => (i.zero, i.size, i.bytes)) = some (some (.int .i64 0), 1, 8) := by kernel_rfl
  cases hi : Try.prog.info? 3 with
  | none => rw [hi] at h; cases h
  | some i =>
    rw [hi] at h
    simp at h
    exact ⟨i, rfl, h.1, h.2.1, h.2.2⟩
section
variable {o : Oper} {n : Nat} {l : List (Nat × Value)} {w : World} {ops : Array Oper} {rest : List Oper} {Q : Exit → Act → World → Prop}
theorem wl_app {st et sz bys : Nat} {zv : Value} (hst : Try.prog.underlying st = some (.slice et)) (hin : ∃ i, Try.prog.info? et = some i ∧ i.zero = some zv ∧ i.size = sz ∧ i.bytes = bys) (hzs : zv.cells.size = sz) (hsz : 0 < sz) (s x : Operand) (N : Nat) (v : Value) (q : Nat) (xs : List Value) (k m c : Nat) (news : List Value) (ho : o.op = .call { callee := .builtin .append, args := #[s, x], argTypes := #[st, st] }) (hs : evl n l s = v) (hx : evl n l x = .slice (some ⟨k, 0, none⟩) m c)
    (hown : w.ownsRow N et sz v q xs) (hl : news.length = m * sz) (hA : At w k news) (h1 : ∀ u ∈ news, u.oneCell' = true) (hm : 0 < m) (h63 : q + m ≤ maxLen) (hb : (q + m) * bys ≤ 140737488355328) (hN : N ≤ w.heap.size) (hg : wnt n l ops o = true)
    (hk : ∀ v' w', w'.ownsRow N et sz v' (q + m) (xs ++ news) → Mk (fun j => v.ownBlock = some j) w w' → (v'.ownBlock = v.ownBlock ∨ v'.ownBlock = some w.heap.size) → WL Try.prog ops Q rest n (ext l o.dst v') w') : WL Try.prog ops Q (o :: rest) n l w := by
  obtain ⟨v', w', hr, h2, h3, h4⟩ := appG hst hin hzs hsz w o.type N v q xs hown k m c news hl hA h1 hm h63 hb hN
  refine ⟨l_step hg (o_val v' (w' := w') ?_ (hk v' w' h2 h3 h4).out)⟩
  unfold execOp
  simp only [ho, resolve, invoke, builtin, Sem.run_bind, Sem.run_pure, Result.andThen_ok, List.map_toArray, List.map_cons, List.map_nil, hs, hx, hr]
end
/-- A slice of one's own, by its address and room. -/
theorem own_form {w : World} {N e sz : Nat} {v : Value} {n : Nat} {xs : List Value} (h : w.ownsRow N e sz v n xs) : ∃ pa cap, v = .slice pa n cap ∧ ∀ a, pa = some a → ∃ g, a = ⟨g, 0, none⟩ := by
  rcases h.2 with ⟨rfl, rfl⟩ | ⟨g, cap, cur, rfl, _⟩
  · exact ⟨none, 0, rfl, fun _ e => by cases e⟩
  · exact ⟨_, _, rfl, fun a e => ⟨g, (Option.some.inj e).symm⟩⟩
theorem own_sl {w : World} {N e sz : Nat} {α : Type} {cells : α → List Value} (hl : ∀ x, (cells x).length = sz) {pa : Option Addr} {cap : Nat} {L : List α} (hz : L.length ≤ maxLen) (h : w.ownsRow N e sz (.slice pa L.length cap) L.length (L.flatMap cells)) : SL w sz cells pa L := by
  rcases h.2 with ⟨e, h0⟩ | ⟨g, c2, cur, e, hg, hb, hnc, hcm, hcs, htk⟩
  · refine ⟨hz, fun i o hi => ?_⟩
    have := lt_of_get hi
    omega
  · cases e
    refine SL.of_range hl hz (Array.getElem?_eq_some_iff.1 hb).1 (fun j v hv => ?_)
    rw [← htk, List.getElem?_take] at hv
    split at hv
    · rw [Nat.zero_add]
      simp only [World.cell?, hb]
      simpa using hv
    · cases hv
theorem own_mo {w w' : World} {N e sz : Nat} {v : Value} {n : Nat} {xs : List Value} (h : w.ownsRow N e sz v n xs) (m : Mo w w') : w'.ownsRow N e sz v n xs :=
  h.kept (row := none) ⟨m.1.os, m.1.tape, m.1.output, m.1.size, fun k hk _ => m.1.block k hk⟩ (by cases e : v.ownBlock <;> simp)
theorem own_mk {D : Nat → Prop} {w w' : World} {N e sz : Nat} {v : Value} {n : Nat} {xs : List Value} (h : w.ownsRow N e sz v n xs) (m : Mk D w w') (hD : ∀ k, v.ownBlock = some k → ¬ D k) : w'.ownsRow N e sz v n xs := by
  refine ⟨h.1, ?_⟩
  rcases h.2 with q | ⟨g, cap, cur, rfl, hg, hb, r⟩
  · exact Or.inl q
  · exact Or.inr ⟨g, cap, cur, rfl, hg, (m.block g (Array.getElem?_eq_some_iff.1 hb).1 (hD g rfl)).trans hb, r⟩
theorem own_lt {w : World} {N e sz : Nat} {v : Value} {n : Nat} {xs : List Value} (h : w.ownsRow N e sz v n xs) {k : Nat} (hk : v.ownBlock = some k) : k < w.heap.size ∧ N ≤ k := by
  rcases h.2 with ⟨rfl, rfl⟩ | ⟨g, cap, cur, rfl, hg, hb, _⟩
  · cases hk
  · cases hk; exact ⟨(Array.getElem?_eq_some_iff.1 hb).1, hg⟩
/-! Flat. -/
def flt : Se → List S5 → Int → Int → List S5
  | .mk nm mx pi ci items pk ck kids, acc, p, dp => if 64 ≤ acc.length ∨ 16 < dp then acc else kids.foldl (fun a k => flt k a acc.length (dp + 1)) (acc ++ [⟨p, dp, nm, mx, pi, ci, items⟩])
theorem flt_eq : ∀ (s : Se) (acc : List S5) (p dp : Int), flt s acc p dp = if 64 ≤ acc.length ∨ 16 < dp then acc else s.kids.foldl (fun a k => flt k a acc.length (dp + 1)) (acc ++ [⟨p, dp, s.nm, s.mx, s.pi, s.ci, s.items⟩])
  | .mk nm mx pi ci items pk ck kids, acc, p, dp => by
    rw [flt]
theorem D.Se.ind2 {M : Se → Prop} (h : ∀ x : Se, (∀ o ∈ x.kids, M o) → M x) : ∀ e, M e := Se.ind (fun nm mx pi ci items pk ck kids ih => h (.mk nm mx pi ci items pk ck kids) ih)
theorem flt_len : ∀ (s : Se) (acc : List S5) (p dp : Int), acc.length ≤ 64 → (flt s acc p dp).length ≤ 64 := by
  refine Se.ind2 ?_
  intro s ih acc p dp ha
  rw [flt_eq]
  split
  · exact ha
  · rename_i hc
    have h0 : (acc ++ [(⟨p, dp, s.nm, s.mx, s.pi, s.ci, s.items⟩ : S5)]).length ≤ 64 := by simp; omega
    have key : ∀ (l : List Se), (∀ o ∈ l, o ∈ s.kids) → ∀ b : List S5, b.length ≤ 64 → (l.foldl (fun a k => flt k a acc.length (dp + 1)) b).length ≤ 64 := by
      intro l
      induction l with
      | nil => intro _ b hb; exact hb
      | cons x l ihl => intro hl b hb; rw [List.foldl_cons]; exact ihl (fun o ho => hl o (List.mem_cons_of_mem _ ho)) _ (ih x (hl x (List.mem_cons_self ..)) b _ _ hb)
    exact key s.kids (fun _ h => h) _ h0
end Go.Proofs.Ytbanldffohopiaa
