/-
  The document's list.
-/
import Derived.Test.YtbmbldloeblbbaaOg3
import Derived.Test.YtbmbldloeblbbaaGk
import Derived.Deep.Upon
namespace Go.Proofs.Ytbmbldloeblbbaa
open Go.RowKit
theorem app26g (w : World) (ty : TypeId) (N : Nat) (v : Value) (n : Nat) (xs : List Value) (hown : w.ownsRow N 2 1 v n xs) (k oo m c : Nat) (news : List Value) (hl : news.length = m * 1) (hA : ∀ j u, news[j]? = some u → w.cell? ⟨k, oo + j, none⟩ = some u) (h1 : ∀ u ∈ news, u.oneCell' = true) (hm : 0 < m) (hn : n + m ≤ 700000000000) (hN : N ≤ w.heap.size) :
    ∃ v' w', (Builtin.append_ #[26, 26] ty #[v, .slice (some ⟨k, oo, none⟩) m c]).run Try.prog w = .ok v' w' ∧ w'.ownsRow N 2 1 v' (n + m) (xs ++ news) ∧ AppW v w w' ∧ (v'.ownBlock = v.ownBlock ∨ v'.ownBlock = some w.heap.size) := by
  obtain ⟨i, hi, hz, hs, hby⟩ := inf2
  have hnews : ∀ j u, news[j]? = some u → w.cell? ((⟨k, oo, none⟩ : Addr).add j) = some u := fun j u hu => by
    rw [Addr.add_mid]; exact hA j u hu
  obtain ⟨v', w', hr, h2, h3, _, h5⟩ := run_append_own_at (P := Try.prog) w N 26 ty 2 i _ 1 8 Try.underlying26 hi hz hs hby rfl (by decide) v n xs hown ⟨k, oo, none⟩ m c news hl hnews h1 (by unfold maxLen; omega) (by omega) hN
  refine ⟨v', w', hr, h2, ⟨h3.os, h3.tape, h3.output, h3.size, fun j hj hne => h3.block j hj (fun e => hne e.symm), ?_⟩, h5⟩
  rcases hown.2 with ⟨rfl, rfl⟩ | ⟨g, cap, cur, rfl, hbg, hg, hnc, hcm, hcs, htake⟩
  · have hr2 := run_append_nil (P := Try.prog) w 26 ty 2 i _ Try.underlying26 hi hz ⟨k, oo, none⟩ m c news (by rw [hs]; exact hl) hnews hm (by omega) (by first | omega | (rw [hby]; omega) | (rw [hby]; exact growslice_fits (n := 0) (by omega) (by omega)))
    rw [hr2] at hr
    cases hr
    exact ((Mo.refl w).drew.alloc _ _).2
  · by_cases hroom : n + m ≤ cap
    · have hr2 := run_append_room (P := Try.prog) w 26 ty 2 i Try.underlying26 hi g n cap cur hg ⟨k, oo, none⟩ m c news (by rw [hs]; exact hl) hnews h1 hroom (by rw [hs]; first | omega | (rw [hl]; omega) | (simp [hl]; omega))
      rw [hr2] at hr
      cases hr
      intro a
      by_cases e : a.block = g
      · have h9 := setRow_heap w g cur (cur.toList.take (n * i.size) ++ news ++ cur.toList.drop (n * i.size + news.length)).toArray 2 (0, 0) hg
        simp only [World.frozen?, e, h9, hg]
      · exact World.frozen?_of_block (setRow_other w g a.block _ e)
    · have hr2 := run_append_grow (P := Try.prog) w 26 ty 2 i _ Try.underlying26 hi hz ⟨g, 0, none⟩ n cap xs (by rw [hs]; exact hown.1) (hown.cells (g := g) rfl) ⟨k, oo, none⟩ m c news (by rw [hs]; exact hl) hnews (by omega) (by omega) (by rw [hby]; exact growslice_fits (by omega) (by omega))
      rw [hr2] at hr
      cases hr
      exact ((Mo.refl w).drew.alloc _ _).2
theorem app26gk (w : World) (ty : TypeId) (N : Nat) (v : Value) (n : Nat) (xs : List Value) (hown : w.ownsRow N 2 1 v n xs) (k oo m c : Nat) (news : List Value) (hl : news.length = m * 1) (hA : ∀ j u, news[j]? = some u → w.cell? ⟨k, oo + j, none⟩ = some u) (h1 : ∀ u ∈ news, u.oneCell' = true) (hm : 0 < m) (hn : n + m ≤ 700000000000) (hN : N ≤ w.heap.size) :
    ∃ v' w', (Builtin.append_ #[26, 26] ty #[v, .slice (some ⟨k, oo, none⟩) m c]).run Try.prog w = .ok v' w' ∧ w'.ownsRow N 2 1 v' (n + m) (xs ++ news) ∧ AppW v w w' ∧ (v'.ownBlock = v.ownBlock ∨ v'.ownBlock = some w.heap.size) ∧ w'.ownsRow N 2 1 v n xs := by
  obtain ⟨v', w', hr, h2, h3, h5⟩ := app26g w ty N v n xs hown k oo m c news hl hA h1 hm hn hN
  refine ⟨v', w', hr, h2, h3, h5, ?_⟩
  obtain ⟨i, hi, hz, hs, hby⟩ := inf2
  have hnews : ∀ j u, news[j]? = some u → w.cell? ((⟨k, oo, none⟩ : Addr).add j) = some u := fun j u hu => by
    rw [Addr.add_mid]; exact hA j u hu
  rcases hown.2 with ⟨rfl, rfl⟩ | ⟨g, cap, cur, rfl, hbg, hg, hnc, hcm, hcs, htake⟩
  · exact ⟨hown.1, .inl ⟨rfl, rfl⟩⟩
  · by_cases hroom : n + m ≤ cap
    · have hr2 := run_append_room (P := Try.prog) w 26 ty 2 i Try.underlying26 hi g n cap cur hg ⟨k, oo, none⟩ m c news (by rw [hs]; exact hl) hnews h1 hroom (by rw [hs]; first | omega | (rw [hl]; omega) | (simp [hl]; omega))
      rw [hr2] at hr
      cases hr
      have h9 := setRow_heap w g cur (cur.toList.take (n * i.size) ++ news ++ cur.toList.drop (n * i.size + news.length)).toArray 2 (0, 0) hg
      rw [hs] at h9 ⊢
      have hsz : n * 1 + m * 1 ≤ cap * 1 := by rw [← Nat.add_mul]; exact Nat.mul_le_mul_right _ hroom
      have hcl : cur.toList.length = cap * 1 := by simpa using hcs
      refine ⟨hown.1, .inr ⟨g, cap, _, rfl, hbg, h9, hnc, hcm, ?_, ?_⟩⟩
      · have : (cur.toList.take (n * 1) ++ news ++ cur.toList.drop (n * 1 + news.length)).length = cap * 1 := by
          rw [List.length_append, List.length_append, List.length_take, List.length_drop, hcl, hl]; omega
        simpa using this
      · show (cur.toList.take (n * 1) ++ news ++ cur.toList.drop (n * 1 + news.length)).take (n * 1) = xs
        rw [List.append_assoc, List.take_append_of_le_length (by rw [List.length_take]; omega), List.take_take, Nat.min_self]; exact htake
    · have hr2 := run_append_grow (P := Try.prog) w 26 ty 2 i _ Try.underlying26 hi hz ⟨g, 0, none⟩ n cap xs (by rw [hs]; exact hown.1) (hown.cells (g := g) rfl) ⟨k, oo, none⟩ m c news (by rw [hs]; exact hl) hnews (by omega) (by omega) (by rw [hby]; exact growslice_fits (by omega) (by omega))
      rw [hr2] at hr
      cases hr
      exact own_mo hown ((Mo.refl w).drew.alloc _ _)
theorem app26z (w : World) (ty : TypeId) (base : Option Addr) (n c : Nat) (hle : n ≤ c) (p : Option Addr) (c2 : Nat) : (Builtin.append_ #[26, 26] ty #[.slice base n c, .slice p 0 c2]).run Try.prog w = .ok (.slice base n c) w := by
  obtain ⟨i, hi, hz, hs, hby⟩ := inf2
  refine run_append_nothing (P := Try.prog) w 26 26 ty 2 i Try.underlying26 hi base n c hle _ ?_
  cases p with
  | none => exact Src.ofNil w Try.underlying26 c2
  | some a => exact Src.ofSlice w Try.underlying26 a 0 c2 [] (by simp) (fun j u hu => by cases hu) (fun u hu => by cases hu)
/-- An address within a block of cells. -/
def plainA (p : Option Addr) : Prop := ∀ a, p = some a → a.spot = none
theorem app26s (w : World) (ty : TypeId) (N : Nat) (v : Value) (n : Nat) (xs : List Value) (hown : w.ownsRow N 2 1 v n xs) (p : Option Addr) (m c : Nat) (L : List Int) (hl : L.length = m) (hSI : SI w p L) (hn : n + m ≤ 700000000000) (hN : N ≤ w.heap.size) :
    ∃ v' w', (Builtin.append_ #[26, 26] ty #[v, .slice p m c]).run Try.prog w = .ok v' w' ∧ w'.ownsRow N 2 1 v' (n + m) (xs ++ L.map (fun i => Value.int .i64 i)) ∧ AppW v w w' ∧ (v'.ownBlock = v.ownBlock ∨ v'.ownBlock = some w.heap.size) ∧ w'.ownsRow N 2 1 v n xs := by
  cases L with
  | nil =>
    simp at hl; subst hl
    rcases hown.2 with ⟨rfl, rfl⟩ | ⟨g, cap, cur, rfl, _, _, hnc, _⟩
    · exact ⟨_, w, app26z w ty _ _ _ (Nat.le_refl _) p c, by simpa using hown, ⟨rfl, rfl, rfl, Nat.le_refl _, fun _ _ _ => rfl, fun _ => rfl⟩, Or.inl rfl, hown⟩
    · exact ⟨_, w, app26z w ty _ _ _ hnc p c, by simpa using hown, ⟨rfl, rfl, rfl, Nat.le_refl _, fun _ _ _ => rfl, fun _ => rfl⟩, Or.inl rfl, hown⟩
  | cons x r =>
    obtain ⟨b, off, rfl, hb, hc⟩ := hSI 0 x rfl
    refine app26gk w ty N v n xs hown b off m c _ (by simp; simpa using hl) (fun j u hu => ?_) (fun u hu => ?_) (by simp at hl; omega) hn hN
    · simp only [List.getElem?_map] at hu
      cases e : (x :: r)[j]? with
      | none => rw [e] at hu; cases hu
      | some y =>
        rw [e] at hu; cases hu
        obtain ⟨b2, off2, h1, _, h3⟩ := hSI j y e
        cases h1; exact h3
    · obtain ⟨y, _, rfl⟩ := List.mem_map.1 hu; rfl
section
variable {o : Oper} {n : Nat} {l : List (Nat × Value)} {w : World} {ops : Array Oper} {rest : List Oper} {Q : Exit → Act → World → Prop} {K : Act → World → Prop}
theorem wo_app26s (s x : Operand) (N : Nat) (v : Value) (q : Nat) (xs : List Value) (p : Option Addr) (m c : Nat) (L : List Int) (ho : o.op = .call { callee := .builtin .append, args := #[s, x], argTypes := #[26, 26] }) (hs : evl n l s = v) (hx : evl n l x = .slice p m c)
    (hown : w.ownsRow N 2 1 v q xs) (hl : L.length = m) (hSI : SI w p L) (hn : q + m ≤ 700000000000) (hN : N ≤ w.heap.size)
    (hk : ∀ v' w', w'.ownsRow N 2 1 v' (q + m) (xs ++ L.map (fun i => Value.int .i64 i)) → AppW v w w' → w'.ownsRow N 2 1 v q xs → (v'.ownBlock = v.ownBlock ∨ v'.ownBlock = some w.heap.size) → K (fr n (ext l o.dst v')) w') : WO Try.prog o n l w K Q := by
  obtain ⟨v', w', hr, h2, h3, h6, h5⟩ := app26s w o.type N v q xs hown p m c L hl hSI hn hN
  refine ⟨o_val v' (w' := w') ?_ (hk v' w' h2 h3 h5 h6)⟩
  unfold execOp
  simp only [ho, resolve, invoke, builtin, Sem.run_bind, Sem.run_pure, Result.andThen_ok, List.map_toArray, List.map_cons, List.map_nil, hs, hx, hr]
theorem wl_app26s (s x : Operand) (N : Nat) (v : Value) (q : Nat) (xs : List Value) (p : Option Addr) (m c : Nat) (L : List Int) (ho : o.op = .call { callee := .builtin .append, args := #[s, x], argTypes := #[26, 26] }) (hs : evl n l s = v) (hx : evl n l x = .slice p m c)
    (hown : w.ownsRow N 2 1 v q xs) (hl : L.length = m) (hSI : SI w p L) (hn : q + m ≤ 700000000000) (hN : N ≤ w.heap.size) (hg : wnt n l ops o = true)
    (hk : ∀ v' w', w'.ownsRow N 2 1 v' (q + m) (xs ++ L.map (fun i => Value.int .i64 i)) → AppW v w w' → (v'.ownBlock = v.ownBlock ∨ v'.ownBlock = some w.heap.size) → WL Try.prog ops Q rest n (ext l o.dst v') w') : WL Try.prog ops Q (o :: rest) n l w :=
  ⟨l_step hg (wo_app26s s x N v q xs p m c L ho hs hx hown hl hSI hn hN (fun v' w' a b _ d => (hk v' w' a b d).out)).out⟩
end
def slo26 (p : Option Addr) (c k : Nat) : Option Addr := match p with
  | none => none
  | some a => some ⟨a.block, if c = k then a.off else a.off + k, a.spot⟩
theorem sl26hi (ρ : Operand → Value) (x y : Operand) (p : Option Addr) (n c k : Nat) (hx : ρ x = .slice p n c) (hy : ρ y = .int .i64 (k : Int)) (hk : k ≤ c) (dst : Option Tmp) (type : TypeId) (pos : String) (after : Array Edge) (guard : Option (Nat × Bool)) (w : World) : (execOp ρ { dst, op := .slice 26 x none (some y) none, type, pos, after, guard }).run Try.prog w = .ok (.value (.slice p k c)) w := by
  cases p <;> simp [go_sem, hx, hy, hk]
theorem sl26lo (ρ : Operand → Value) (x y : Operand) (p : Option Addr) (n c k : Nat) (hx : ρ x = .slice p n c) (hy : ρ y = .int .i64 (k : Int)) (hk : k ≤ n) (hc : n ≤ c) (hp : p = none → c = 0) (hq : plainA p) (dst : Option Tmp) (type : TypeId) (pos : String) (after : Array Edge) (guard : Option (Nat × Bool)) (w : World) : (execOp ρ { dst, op := .slice 26 x (some y) none none, type, pos, after, guard }).run Try.prog w = .ok (.value (.slice (slo26 p c k) (n - k) (c - k))) w := by
  unfold slo26
  cases p with
  | none =>
    have h0 := hp rfl
    subst h0
    have h1 : n = 0 := by omega
    have h2 : k = 0 := by omega
    subst h1 h2
    simp [go_sem, hx, hy]
  | some a =>
    obtain ⟨b, off, spot⟩ := a
    have hs : spot = none := hq _ rfl
    subst hs
    by_cases h1 : c = k
    · have h2 : n = k := by omega
      subst h1 h2
      simp [go_sem, hx, hy]
    · simp [go_sem, hx, hy, h1, hk, Addr.add_mid]
theorem SI.take {w : World} {p : Option Addr} {L : List Int} (h : SI w p L) (k : Nat) : SI w p (L.take k) := fun i x e => by
  rw [List.getElem?_take] at e
  split at e
  · exact h i x e
  · cases e
theorem SI.drop {w : World} {p : Option Addr} {L : List Int} {c : Nat} (h : SI w p L) (hc : L.length ≤ c) (k : Nat) : SI w (slo26 p c k) (L.drop k) := fun i x e => by
  rw [List.getElem?_drop] at e
  obtain ⟨b, off, rfl, h2, h3⟩ := h (k + i) x e
  have hlt := (List.getElem?_eq_some_iff.1 e).1
  refine ⟨b, off + k, ?_, h2, by rw [show off + k + i = off + (k + i) by omega]; exact h3⟩
  show some (⟨b, if c = k then off else off + k, none⟩ : Addr) = _
  rw [if_neg (by omega)]
end Go.Proofs.Ytbmbldloeblbbaa
