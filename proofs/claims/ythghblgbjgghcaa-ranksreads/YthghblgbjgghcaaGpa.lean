/-
  Appends of pieces: from any address; of nothing. A piece of a slice is put to a slice of one's own; pieces of slices; a number put where it belongs. A number put where it belongs.
-/
import Derived.Test.YthghblgbjgghcaaPa
namespace Go.Proofs.Ythghblgbjgghcaa
open Go.RowKit D Go.Proofs
theorem appO {st et sz bys : Nat} {zv : Value} (hst : Try.prog.underlying st = some (.slice et)) (hin : ∃ i, Try.prog.info? et = some i ∧ i.zero = some zv ∧ i.size = sz ∧ i.bytes = bys) (hzs : zv.cells.size = sz) (hsz : 0 < sz)
    (w : World) (ty : TypeId) (N : Nat) (v : Value) (n : Nat) (xs : List Value) (hown : w.ownsRow N et sz v n xs) (a0 : Addr) (m c : Nat) (news : List Value) (hl : news.length = m * sz) (hnews : ∀ j u, news[j]? = some u → w.cell? (a0.add j) = some u) (h1 : ∀ u ∈ news, u.oneCell' = true) (hm : 0 < m) (h63 : n + m ≤ maxLen) (hb : (n + m) * bys ≤ 140737488355328) (hN : N ≤ w.heap.size) :
    ∃ v' w', (Builtin.append_ #[st, st] ty #[v, .slice (some a0) m c]).run Try.prog w = .ok v' w' ∧ w'.ownsRow N et sz v' (n + m) (xs ++ news) ∧ Mk (fun j => v.ownBlock = some j) w w' ∧ (v'.ownBlock = v.ownBlock ∨ v'.ownBlock = some w.heap.size) := by
  obtain ⟨i, hi, hz, hs, hby⟩ := hin
  have hm63 : (m : Int) ≤ 9223372036854775807 := by unfold maxLen at h63; omega
  have hbm : m * bys ≤ 140737488355328 := Nat.le_trans (Nat.mul_le_mul_right _ (by omega)) hb
  obtain ⟨v', w', hr, h2, h3, _, h5⟩ := run_append_own_at (P := Try.prog) w N st ty et i _ sz bys hst hi hz hs hby hzs hsz v n xs hown a0 m c news hl hnews h1 h63 hb hN
  refine ⟨v', w', hr, h2, ⟨h3.os, h3.tape, h3.output, h3.size, fun j hj hne => h3.block j hj (fun e => hne e.symm), ?_⟩, h5⟩
  rcases hown.2 with ⟨rfl, rfl⟩ | ⟨g, cap, cur, rfl, hbg, hg, hnc, hcm, hcs, htake⟩
  · have hr2 := run_append_nil (P := Try.prog) w st ty et i _ hst hi hz a0 m c news (by rw [hs]; exact hl) hnews hm hm63 (by rw [hby]; omega)
    rw [hr2] at hr
    cases hr
    exact ((Mo.refl w).drew.alloc _ _).2
  · by_cases hroom : n + m ≤ cap
    · have hr2 := run_append_room (P := Try.prog) w st ty et i hst hi g n cap cur hg a0 m c news (by rw [hs]; exact hl) hnews h1 hroom (by rw [hs, hcs]; exact Nat.mul_le_mul_right _ hroom |> fun h => by first | omega | exact h | (rw [hl]; rw [Nat.add_mul] at h; omega))
      rw [hr2] at hr
      cases hr
      intro a _
      by_cases e : a.block = g
      · have h9 := setRow_heap w g cur (cur.toList.take (n * i.size) ++ news ++ cur.toList.drop (n * i.size + news.length)).toArray et (0, 0) hg
        simp only [World.frozen?, e, h9, hg]
      · exact World.frozen?_of_block (setRow_other w g a.block _ e)
    · have hr2 := run_append_grow (P := Try.prog) w st ty et i _ hst hi hz ⟨g, 0, none⟩ n cap xs (by rw [hs]; exact hown.1) (hown.cells (g := g) rfl) a0 m c news (by rw [hs]; exact hl) hnews (by omega) (by unfold maxLen at h63; omega) (by rw [hby]; exact growslice_fits (by omega) hb)
      rw [hr2] at hr
      cases hr
      exact ((Mo.refl w).drew.alloc _ _).2
theorem app0 {p : Option Addr} {n cv : Nat} {q : Option Addr} {c : Nat} (h : n ≤ cv) (ty : TypeId) (w : World) : (Builtin.append_ #[32, 32] ty #[.slice p n cv, .slice q 0 c]).run Try.prog w = .ok (.slice p n cv) w := by
  cases p <;> cases q <;> simp [Builtin.append_, run_underlying Try.underlying32, Builtin.lenOf, Builtin.firstCells, storeCells, h, go_sem]
end Go.Proofs.Ythghblgbjgghcaa
namespace Go.Proofs.Ythghblgbjgghcaa
open Go.RowKit D Go.Proofs
theorem own_cp9 {w : World} {N e sz : Nat} {pa : Option Addr} {cap n : Nat} {xs : List Value} (h : w.ownsRow N e sz (.slice pa n cap) n xs) : n ≤ cap := by
  rcases h.2 with ⟨e, h0⟩ | ⟨g, c2, cur, e, hg, hb, hnc, _⟩
  · cases e; omega
  · cases e; exact hnc
section
variable {o : Oper} {n : Nat} {l : List (Nat × Value)} {w : World} {ops : Array Oper} {rest : List Oper} {Q : Exit → Act → World → Prop}
theorem wl_apP (s x : Operand) {N : Nat} {pv : Option Addr} {cv : Nat} {L M : List Nat} {q : Option Addr} {m a c : Nat} (ho : o.op = .call { callee := .builtin .append, args := #[s, x], argTypes := #[32, 32] }) (hs : evl n l s = .slice pv a cv) (ha : L.length = a) (hx : evl n l x = .slice q m c) (hm : M.length = m)
    (h : Ow N 3 1 ic w pv cv L) (hq : SL w 1 ic q M) (hz : L.length + M.length < 4000000) (hN : N ≤ w.heap.size) (hg : wnt n l ops o = true)
    (hk : ∀ pv2 cv2 w', Ow N 3 1 ic w' pv2 cv2 (L ++ M) → Mk (fun j => obk pv L.length cv = some j) w w' → WL Try.prog ops Q rest n (ext l o.dst (.slice pv2 (L ++ M).length cv2)) w') : WL Try.prog ops Q (o :: rest) n l w := by
  subst ha
  subst hm
  cases M with
  | nil =>
    have h2 := hk pv cv w (by rw [List.append_nil]; exact h) (Mk.refl _ _)
    rw [List.append_nil] at h2
    refine ⟨l_step hg (o_val (.slice pv L.length cv) (w' := w) ?_ h2.out)⟩
    unfold execOp
    simp only [ho, resolve, invoke, builtin, Sem.run_bind, Sem.run_pure, Result.andThen_ok, List.map_toArray, List.map_cons, List.map_nil, hs, hx, List.length_nil, app0 (own_cp9 h)]
  | cons y M =>
    obtain ⟨b, off, rfl, hb, _⟩ := hq.2 0 y rfl
    have hlen : ((y :: M).flatMap ic).length = (y :: M).length * 1 := by rw [flat_ic, List.length_map]; omega
    obtain ⟨v2, w2, hr, h2, h3, _⟩ := appO Try.underlying32 inf3 rfl (by decide) w o.type N (.slice pv L.length cv) L.length (L.flatMap ic) h ⟨b, off, none⟩ (y :: M).length c ((y :: M).flatMap ic) hlen (fun j u hu => by
      rw [flat_ic, List.getElem?_map] at hu
      cases e : (y :: M)[j]? with
      | none => rw [e] at hu; cases hu
      | some z =>
        rw [e] at hu; cases hu
        obtain ⟨b', off', he, _, hr⟩ := hq.2 j z e
        cases he
        have := hr 0 _ rfl
        rw [Addr.add_mid]
        simpa using this) (fun u hu => by rw [flat_ic] at hu; obtain ⟨z, _, rfl⟩ := List.mem_map.1 hu; rfl) (by simp) (by unfold maxLen; omega) (by omega) hN
    obtain ⟨pv2, cv2, rfl, _⟩ := own_form h2
    have e1 : (L ++ y :: M).length = L.length + (y :: M).length := by simp
    have e2 : (L ++ y :: M).flatMap ic = L.flatMap ic ++ (y :: M).flatMap ic := by simp
    have h4 := hk pv2 cv2 w2 (by show w2.ownsRow N 3 1 (.slice pv2 (L ++ y :: M).length cv2) (L ++ y :: M).length ((L ++ y :: M).flatMap ic); rw [e1, e2]; exact h2) h3
    rw [e1] at h4
    refine ⟨l_step hg (o_val _ (w' := w2) ?_ h4.out)⟩
    unfold execOp
    simp only [ho, resolve, invoke, builtin, Sem.run_bind, Sem.run_pure, Result.andThen_ok, List.map_toArray, List.map_cons, List.map_nil, hs, hx, hr]
end
theorem slhi (ρ : Operand → Value) (x y : Operand) (p : Option Addr) (n c k : Nat) (hx : ρ x = .slice p n c) (hy : ρ y = .int .i64 (k : Int)) (hk : k ≤ c) (dst : Option Tmp) (type : TypeId) (pos : String) (after : Array Edge) (guard : Option (Nat × Bool)) (w : World) : (execOp ρ { dst, op := .slice 32 x none (some y) none, type, pos, after, guard }).run Try.prog w = .ok (.value (.slice p k c)) w := by
  cases p <;> simp [go_sem, hx, hy, hk]
/-- Where the rest of a slice begins. -/
def dq (p : Option Addr) (k c : Nat) : Option Addr := if c = k then p else p.map (fun a => a.add (k * 1))
theorem sllo (ρ : Operand → Value) (x y : Operand) (p : Option Addr) (n c k : Nat) (hx : ρ x = .slice p n c) (hy : ρ y = .int .i64 (k : Int)) (hk : k ≤ n) (hc : n ≤ c) (dst : Option Tmp) (type : TypeId) (pos : String) (after : Array Edge) (guard : Option (Nat × Bool)) (w : World) : (execOp ρ { dst, op := .slice 32 x (some y) none none, type, pos, after, guard }).run Try.prog w = .ok (.value (.slice (dq p k c) (n - k) (c - k))) w := by
  unfold dq
  by_cases h1 : c = k
  · have h2 : n = k := by omega
    subst h1 h2
    cases p <;> simp [go_sem, hx, hy]
  · cases p <;> simp [go_sem, hx, hy, h1, hk]
theorem SL.tk {w : World} {p : Option Addr} {L : List Nat} (h : SL w 1 ic p L) (k : Nat) : SL w 1 ic p (L.take k) := ⟨by have := h.1; rw [List.length_take]; omega, fun i o e => by
  rw [List.getElem?_take] at e
  split at e
  · exact h.2 i o e
  · cases e⟩
theorem SL.dp {w : World} {p : Option Addr} {L : List Nat} (h : SL w 1 ic p L) {k c : Nat} (hc : L.length ≤ c) : SL w 1 ic (dq p k c) (L.drop k) := ⟨by have := h.1; rw [List.length_drop]; omega, fun i o e => by
  rw [List.getElem?_drop] at e
  have hl := lt_of_get e
  obtain ⟨b, off, rfl, hb, hr⟩ := h.2 (k + i) o e
  refine ⟨b, off + k * 1, ?_, hb, ?_⟩
  · unfold dq; rw [if_neg (by omega)]; simp [Addr.add_mid]
  · rw [show off + k * 1 + i * 1 = off + (k + i) * 1 by omega]; exact hr⟩
theorem put_up {L : List Nat} {k n : Nat} (hup : L.Pairwise (· < ·)) (h1 : ∀ x ∈ L.take k, x < n) (h2 : ∀ x, L[k]? = some x → n < x) : ((L.take k ++ [n]) ++ L.drop k).Pairwise (· < ·) ∧ ∀ x, x ∈ (L.take k ++ [n]) ++ L.drop k ↔ x ∈ L ∨ x = n := by
  have hd : ∀ x ∈ L.drop k, n < x := fun x hx => by
    obtain ⟨i, hi⟩ := List.getElem?_of_mem hx
    rw [List.getElem?_drop] at hi
    have hl := lt_of_get hi
    obtain ⟨y, hy⟩ := get_of_lt (show k < L.length by omega)
    have := h2 y hy
    rcases Nat.eq_zero_or_pos i with rfl | q
    · rw [Nat.add_zero, hy] at hi; cases hi; exact this
    · have h3 := List.pairwise_iff_getElem.1 hup k (k + i) (by omega) hl (by omega)
      rw [List.getElem?_eq_getElem (by omega)] at hy hi
      rw [Option.some.inj hy, Option.some.inj hi] at h3
      omega
  have e := List.take_append_drop k L
  have hp : (L.take k ++ L.drop k).Pairwise (· < ·) := e.symm ▸ hup
  rw [List.pairwise_append] at hp
  refine ⟨?_, fun x => ?_⟩
  · rw [List.pairwise_append, List.pairwise_append]
    refine ⟨⟨hp.1, by simp, fun a ha b hb => by simp at hb; subst hb; exact h1 a ha⟩, hp.2.1, fun a ha b hb => ?_⟩
    rcases List.mem_append.1 ha with q | q
    · exact hp.2.2 a q b hb
    · simp at q; subst q; exact hd b hb
  · constructor
    · intro h
      rcases List.mem_append.1 h with q | q
      · rcases List.mem_append.1 q with q | q
        · exact Or.inl (List.mem_of_mem_take q)
        · exact Or.inr (List.mem_singleton.1 q)
      · exact Or.inl (List.mem_of_mem_drop q)
    · rintro (q | q)
      · rw [← e] at q
        rcases List.mem_append.1 q with q | q
        · simp [q]
        · simp [q]
      · simp [q]
end Go.Proofs.Ythghblgbjgghcaa
namespace Go.Proofs.Ythghblgbjgghcaa
open Go.RowKit D
theorem put62_n {w : World} {pa : Option Addr} {cap : Nat} {L : List Nat} (hLi : Li w pa L) (hc : L.length ≤ cap) (hz : L.length < 400000) (hup : L.Pairwise (· < ·)) (n : Nat) : Calls Try.prog 62 #[.slice pa L.length cap, .int .i64 ((n : Nat) : Int)] w fun e w' => ∃ (L2 : List Nat) (p2 : Option Addr) (c2 : Nat), e = .returned (.slice p2 L2.length c2) ∧ Li w' p2 L2 ∧ L2.length ≤ c2 ∧ L2.Pairwise (· < ·) ∧ (∀ x, x ∈ L2 ↔ x ∈ L ∨ x = n) ∧ Mo w w' := by
  have hL := hLi.sl
  refine w_enter 47 Try.func62 Try.ntmps62 rfl rfl ?_
  have M : Mo w w := Mo.refl _
  refine w_seq ?_
  refine w_reg ?_
  refine wl_mv (.const (.slice none 0 0)) (.slice none 0 0) (fun _ => rfl) rfl rfl ?_
  refine w_nil ?_
  refine xn_then ?_
  refine w_seq ?_
  refine w_reg ?_
  refine wl_mv (.const (.int .i64 (0))) (.int .i64 (0)) (fun _ => rfl) rfl rfl ?_
  refine w_nil ?_
  refine xn_then ?_
  refine w_seq ?_
  refine w_block ?_
  refine w_loop (fun m lf w1 => ∃ k : Nat, m = L.length - k ∧ look lf 0 = .slice pa L.length cap ∧ look lf 1 = .int .i64 ((n : Nat) : Int) ∧ look lf 4 = .slice none 0 0 ∧ look lf 5 = .int .i64 ((k : Nat) : Int) ∧ (k ≤ L.length) ∧ (∀ x ∈ L.take k, x < n) ∧ (Mo w w1)) _ ⟨0, rfl, rfl, rfl, rfl, rfl, Nat.zero_le _, (fun x hx => by simp at hx), M⟩ ?_
  clear M
  rintro m lf40 wl40 ⟨k, rfl, e40_0, e40_1, e40_4, e40_5, hk, hno, M⟩
  have htk : (L.take k).length = k := by rw [List.length_take]; omega
  cases hd : decide (k < L.length) with
  | true =>
    have hkl := of_decide_eq_true hd
    obtain ⟨x, hx⟩ := get_of_lt hkl
    obtain ⟨bp, op, hpp, hRp⟩ := D.SL.rw hL hx
    cases hd2 : decide (x < n) with
    | true =>
      refine w_seq ?_
      refine w_seq ?_
      refine w_reg ?_
      refine wl_mv (.tmp 5) (.int .i64 ((k : Nat) : Int)) (fun _ => rfl) e40_5 rfl ?_
      refine wl_mv (.tmp 0) (.slice pa L.length cap) (fun _ => rfl) e40_0 rfl ?_
      refine wl_val (.int .i64 ((L.length : Nat) : Int)) (len32 _ _ _ _ _ (by exact rfl) _ _ _ _ _ _) rfl ?_
      refine wl_bin (fun x y => do eqGuard .lss 3 (.tmp 7) (.tmp 9) x y; binOp .lss 3 x y) (.tmp 7) (.tmp 9) (.int .i64 ((k : Nat) : Int)) (.int .i64 ((L.length : Nat) : Int)) (.bool true) (fun _ => rfl) rfl rfl (ltN hd _ _ _) rfl ?_
      refine wl_mv (.tmp 10) (.bool true) (fun _ => rfl) rfl rfl ?_
      refine wl_mv (.tmp 0) (.slice pa L.length cap) (fun _ => rfl) e40_0 rfl ?_
      refine wl_mv (.tmp 5) (.int .i64 ((k : Nat) : Int)) (fun _ => rfl) e40_5 rfl ?_
      refine wl_bin (fun x y => Instr.indexAt 32 x y) (.tmp 12) (.tmp 13) (.slice pa L.length cap) (.int .i64 ((k : Nat) : Int)) (pt bp (op + k * 1)) (fun _ => rfl) rfl rfl (ix32 (i := k) hpp hkl _) rfl ?_
      refine wl_load 3 (.tmp 14) (pt bp (op + k * 1)) (.int .i64 ((x : Nat) : Int)) rfl rfl (D.run_oneR (hRp.mo M).at' 3 0 rfl Try.underlying3 rfl) rfl ?_
      refine wl_mv (.tmp 1) (.int .i64 ((n : Nat) : Int)) (fun _ => rfl) e40_1 rfl ?_
      refine wl_bin (fun x y => do eqGuard .lss 3 (.tmp 15) (.tmp 16) x y; binOp .lss 3 x y) (.tmp 15) (.tmp 16) (.int .i64 ((x : Nat) : Int)) (.int .i64 ((n : Nat) : Int)) (.bool true) (fun _ => rfl) rfl rfl (ltN hd2 _ _ _) rfl ?_
      refine wl_pick (.tmp 11) (.tmp 17) (.const (.bool false)) true (.bool true) (fun _ => rfl) rfl rfl rfl ?_
      refine w_nil ?_
      refine xn_then ?_
      refine w_condT rfl ?_
      refine w_skip ?_
      refine xn_then ?_
      refine w_block ?_
      refine w_reg ?_
      refine wl_mv (.tmp 5) (.int .i64 ((k : Nat) : Int)) (fun _ => rfl) e40_5 rfl ?_
      refine wl_bin (fun x y => do eqGuard .add 3 (.tmp 19) (.const (.int .i64 (1))) x y; binOp .add 3 x y) (.tmp 19) (.const (.int .i64 (1))) (.int .i64 ((k : Nat) : Int)) (.int .i64 (1)) (.int .i64 ((k + 1 : Nat) : Int)) (fun _ => rfl) rfl rfl (add1r (k := k) (by omega) _ _ _) rfl ?_
      refine wl_mv (.tmp 20) (.int .i64 ((k + 1 : Nat) : Int)) (fun _ => rfl) rfl rfl ?_
      refine w_nil ?_
      refine xn_blk ?_
      exact xn_loop (L.length - (k + 1)) (by omega) ⟨k + 1, rfl, e40_0, e40_1, e40_4, rfl, by omega, (fun y hy => by rw [List.take_add_one, hx] at hy; rcases List.mem_append.1 hy with q | q; exact hno y q; (simp at q; subst q; exact of_decide_eq_true hd2)), M⟩
    | false =>
      have hxn := of_decide_eq_false hd2
      cases hd3 : decide (((x : Nat) : Int) = ((n : Nat) : Int)) with
      | true =>
        refine w_seq ?_
        refine w_seq ?_
        refine w_reg ?_
        refine wl_mv (.tmp 5) (.int .i64 ((k : Nat) : Int)) (fun _ => rfl) e40_5 rfl ?_
        refine wl_mv (.tmp 0) (.slice pa L.length cap) (fun _ => rfl) e40_0 rfl ?_
        refine wl_val (.int .i64 ((L.length : Nat) : Int)) (len32 _ _ _ _ _ (by exact rfl) _ _ _ _ _ _) rfl ?_
        refine wl_bin (fun x y => do eqGuard .lss 3 (.tmp 7) (.tmp 9) x y; binOp .lss 3 x y) (.tmp 7) (.tmp 9) (.int .i64 ((k : Nat) : Int)) (.int .i64 ((L.length : Nat) : Int)) (.bool true) (fun _ => rfl) rfl rfl (ltN hd _ _ _) rfl ?_
        refine wl_mv (.tmp 10) (.bool true) (fun _ => rfl) rfl rfl ?_
        refine wl_mv (.tmp 0) (.slice pa L.length cap) (fun _ => rfl) e40_0 rfl ?_
        refine wl_mv (.tmp 5) (.int .i64 ((k : Nat) : Int)) (fun _ => rfl) e40_5 rfl ?_
        refine wl_bin (fun x y => Instr.indexAt 32 x y) (.tmp 12) (.tmp 13) (.slice pa L.length cap) (.int .i64 ((k : Nat) : Int)) (pt bp (op + k * 1)) (fun _ => rfl) rfl rfl (ix32 (i := k) hpp hkl _) rfl ?_
        refine wl_load 3 (.tmp 14) (pt bp (op + k * 1)) (.int .i64 ((x : Nat) : Int)) rfl rfl (D.run_oneR (hRp.mo M).at' 3 0 rfl Try.underlying3 rfl) rfl ?_
        refine wl_mv (.tmp 1) (.int .i64 ((n : Nat) : Int)) (fun _ => rfl) e40_1 rfl ?_
        refine wl_bin (fun x y => do eqGuard .lss 3 (.tmp 15) (.tmp 16) x y; binOp .lss 3 x y) (.tmp 15) (.tmp 16) (.int .i64 ((x : Nat) : Int)) (.int .i64 ((n : Nat) : Int)) (.bool false) (fun _ => rfl) rfl rfl (ltN hd2 _ _ _) rfl ?_
        refine wl_pick (.tmp 11) (.tmp 17) (.const (.bool false)) true (.bool false) (fun _ => rfl) rfl rfl rfl ?_
        refine w_nil ?_
        refine xn_then ?_
        refine w_condF rfl ?_
        refine w_exit ?_
        refine xx_then ?_
        refine xx_then ?_
        refine xx_blk ?_
        refine xn_then ?_
        refine w_seq ?_
        refine w_seq ?_
        refine w_reg ?_
        refine wl_mv (.tmp 5) (.int .i64 ((k : Nat) : Int)) (fun _ => rfl) e40_5 rfl ?_
        refine wl_mv (.tmp 0) (.slice pa L.length cap) (fun _ => rfl) e40_0 rfl ?_
        refine wl_val (.int .i64 ((L.length : Nat) : Int)) (len32 _ _ _ _ _ (by exact rfl) _ _ _ _ _ _) rfl ?_
        refine wl_bin (fun x y => do eqGuard .lss 3 (.tmp 21) (.tmp 23) x y; binOp .lss 3 x y) (.tmp 21) (.tmp 23) (.int .i64 ((k : Nat) : Int)) (.int .i64 ((L.length : Nat) : Int)) (.bool true) (fun _ => rfl) rfl rfl (ltN hd _ _ _) rfl ?_
        refine wl_mv (.tmp 24) (.bool true) (fun _ => rfl) rfl rfl ?_
        refine wl_mv (.tmp 0) (.slice pa L.length cap) (fun _ => rfl) e40_0 rfl ?_
        refine wl_mv (.tmp 5) (.int .i64 ((k : Nat) : Int)) (fun _ => rfl) e40_5 rfl ?_
        refine wl_bin (fun x y => Instr.indexAt 32 x y) (.tmp 26) (.tmp 27) (.slice pa L.length cap) (.int .i64 ((k : Nat) : Int)) (pt bp (op + k * 1)) (fun _ => rfl) rfl rfl (ix32 (i := k) hpp hkl _) rfl ?_
        refine wl_load 3 (.tmp 28) (pt bp (op + k * 1)) (.int .i64 ((x : Nat) : Int)) rfl rfl (D.run_oneR (hRp.mo M).at' 3 0 rfl Try.underlying3 rfl) rfl ?_
        refine wl_mv (.tmp 1) (.int .i64 ((n : Nat) : Int)) (fun _ => rfl) e40_1 rfl ?_
        refine wl_bin (fun x y => do eqGuard .eql 3 (.tmp 29) (.tmp 30) x y; binOp .eql 3 x y) (.tmp 29) (.tmp 30) (.int .i64 ((x : Nat) : Int)) (.int .i64 ((n : Nat) : Int)) (.bool true) (fun _ => rfl) rfl rfl (eq3 hd3 _ _ _) rfl ?_
        refine wl_pick (.tmp 25) (.tmp 31) (.const (.bool false)) true (.bool true) (fun _ => rfl) rfl rfl rfl ?_
        refine w_nil ?_
        refine xn_then ?_
        refine w_condT rfl ?_
        refine w_seq ?_
        refine w_reg ?_
        refine wl_mv (.tmp 0) (.slice pa L.length cap) (fun _ => rfl) e40_0 rfl ?_
        refine wl_mv (.tmp 33) (.slice pa L.length cap) (fun _ => rfl) rfl rfl ?_
        refine w_nil ?_
        refine xn_then ?_
        refine w_ret ?_
        refine xr_then ?_
        exact w_ret1 _ (.slice pa L.length cap) rfl rfl ⟨L, pa, cap, rfl, hLi.mo M, hc, hup, fun y => ⟨Or.inl, fun h => h.elim id (fun e => by have := of_decide_eq_true hd3; have e2 : x = n := (by omega); rw [e, ← e2]; exact List.mem_of_getElem? hx)⟩, M⟩
      | false =>
        have hgt : ∀ y, L[k]? = some y → n < y := fun y hy => by rw [hx] at hy; cases hy; have := of_decide_eq_false hd3; omega
        refine w_seq ?_
        refine w_seq ?_
        refine w_reg ?_
        refine wl_mv (.tmp 5) (.int .i64 ((k : Nat) : Int)) (fun _ => rfl) e40_5 rfl ?_
        refine wl_mv (.tmp 0) (.slice pa L.length cap) (fun _ => rfl) e40_0 rfl ?_
        refine wl_val (.int .i64 ((L.length : Nat) : Int)) (len32 _ _ _ _ _ (by exact rfl) _ _ _ _ _ _) rfl ?_
        refine wl_bin (fun x y => do eqGuard .lss 3 (.tmp 7) (.tmp 9) x y; binOp .lss 3 x y) (.tmp 7) (.tmp 9) (.int .i64 ((k : Nat) : Int)) (.int .i64 ((L.length : Nat) : Int)) (.bool true) (fun _ => rfl) rfl rfl (ltN hd _ _ _) rfl ?_
        refine wl_mv (.tmp 10) (.bool true) (fun _ => rfl) rfl rfl ?_
        refine wl_mv (.tmp 0) (.slice pa L.length cap) (fun _ => rfl) e40_0 rfl ?_
        refine wl_mv (.tmp 5) (.int .i64 ((k : Nat) : Int)) (fun _ => rfl) e40_5 rfl ?_
        refine wl_bin (fun x y => Instr.indexAt 32 x y) (.tmp 12) (.tmp 13) (.slice pa L.length cap) (.int .i64 ((k : Nat) : Int)) (pt bp (op + k * 1)) (fun _ => rfl) rfl rfl (ix32 (i := k) hpp hkl _) rfl ?_
        refine wl_load 3 (.tmp 14) (pt bp (op + k * 1)) (.int .i64 ((x : Nat) : Int)) rfl rfl (D.run_oneR (hRp.mo M).at' 3 0 rfl Try.underlying3 rfl) rfl ?_
        refine wl_mv (.tmp 1) (.int .i64 ((n : Nat) : Int)) (fun _ => rfl) e40_1 rfl ?_
        refine wl_bin (fun x y => do eqGuard .lss 3 (.tmp 15) (.tmp 16) x y; binOp .lss 3 x y) (.tmp 15) (.tmp 16) (.int .i64 ((x : Nat) : Int)) (.int .i64 ((n : Nat) : Int)) (.bool false) (fun _ => rfl) rfl rfl (ltN hd2 _ _ _) rfl ?_
        refine wl_pick (.tmp 11) (.tmp 17) (.const (.bool false)) true (.bool false) (fun _ => rfl) rfl rfl rfl ?_
        refine w_nil ?_
        refine xn_then ?_
        refine w_condF rfl ?_
        refine w_exit ?_
        refine xx_then ?_
        refine xx_then ?_
        refine xx_blk ?_
        refine xn_then ?_
        refine w_seq ?_
        refine w_seq ?_
        refine w_reg ?_
        refine wl_mv (.tmp 5) (.int .i64 ((k : Nat) : Int)) (fun _ => rfl) e40_5 rfl ?_
        refine wl_mv (.tmp 0) (.slice pa L.length cap) (fun _ => rfl) e40_0 rfl ?_
        refine wl_val (.int .i64 ((L.length : Nat) : Int)) (len32 _ _ _ _ _ (by exact rfl) _ _ _ _ _ _) rfl ?_
        refine wl_bin (fun x y => do eqGuard .lss 3 (.tmp 21) (.tmp 23) x y; binOp .lss 3 x y) (.tmp 21) (.tmp 23) (.int .i64 ((k : Nat) : Int)) (.int .i64 ((L.length : Nat) : Int)) (.bool true) (fun _ => rfl) rfl rfl (ltN hd _ _ _) rfl ?_
        refine wl_mv (.tmp 24) (.bool true) (fun _ => rfl) rfl rfl ?_
        refine wl_mv (.tmp 0) (.slice pa L.length cap) (fun _ => rfl) e40_0 rfl ?_
        refine wl_mv (.tmp 5) (.int .i64 ((k : Nat) : Int)) (fun _ => rfl) e40_5 rfl ?_
        refine wl_bin (fun x y => Instr.indexAt 32 x y) (.tmp 26) (.tmp 27) (.slice pa L.length cap) (.int .i64 ((k : Nat) : Int)) (pt bp (op + k * 1)) (fun _ => rfl) rfl rfl (ix32 (i := k) hpp hkl _) rfl ?_
        refine wl_load 3 (.tmp 28) (pt bp (op + k * 1)) (.int .i64 ((x : Nat) : Int)) rfl rfl (D.run_oneR (hRp.mo M).at' 3 0 rfl Try.underlying3 rfl) rfl ?_
        refine wl_mv (.tmp 1) (.int .i64 ((n : Nat) : Int)) (fun _ => rfl) e40_1 rfl ?_
        refine wl_bin (fun x y => do eqGuard .eql 3 (.tmp 29) (.tmp 30) x y; binOp .eql 3 x y) (.tmp 29) (.tmp 30) (.int .i64 ((x : Nat) : Int)) (.int .i64 ((n : Nat) : Int)) (.bool false) (fun _ => rfl) rfl rfl (eq3 hd3 _ _ _) rfl ?_
        refine wl_pick (.tmp 25) (.tmp 31) (.const (.bool false)) true (.bool false) (fun _ => rfl) rfl rfl rfl ?_
        refine w_nil ?_
        refine xn_then ?_
        refine w_condF rfl ?_
        refine w_skip ?_
        refine xn_then ?_
        refine w_seq ?_
        refine w_reg ?_
        refine wl_mv (.const (.slice none 0 0)) (.slice none 0 0) (fun _ => rfl) rfl rfl ?_
        refine w_nil ?_
        refine xn_then ?_
        refine w_seq ?_
        refine w_reg ?_
        refine wl_mv (.tmp 6) (.slice none 0 0) (fun _ => rfl) rfl rfl ?_
        refine wl_mv (.tmp 0) (.slice pa L.length cap) (fun _ => rfl) e40_0 rfl ?_
        refine wl_mv (.tmp 5) (.int .i64 ((k : Nat) : Int)) (fun _ => rfl) e40_5 rfl ?_
        refine wl_val (.slice pa k cap) (slhi _ _ _ pa L.length cap k (by exact rfl) (by exact rfl) (by omega) _ _ _ _ _ _) rfl ?_
        refine wl_apP (.tmp 34) (.tmp 37) (L := []) (M := L.take k) rfl rfl rfl rfl htk (Ow.nil _ _ _ _ _) (SL.tk (hL.kp M.kp) k) (by simp; omega) M.size rfl ?_
        intro pv cv u41 hW hK9
        replace M := hK9.mo M (fun j e => by cases e)
        clear hK9
        rw [List.nil_append] at hW
        refine wl_mv (.tmp 1) (.int .i64 ((n : Nat) : Int)) (fun _ => rfl) e40_1 rfl ?_
        refine wl_bs 32 1 [(0, (.tmp 39))] [(0, .int .i64 ((n : Nat) : Int))] #[.int .i64 ((n : Nat) : Int)] 3 rfl rfl (fun _ => by kernel_rfl) rfl ?_
        intro k1 u42 hk hz hq Q1
        have N_k1 : w.heap.size ≤ k1 := by have := M.size; omega
        replace hW := own_mo hW hq
        replace M := M.trans hq
        clear hk hz hq
        refine wl_apI (.tmp 38) (.tmp 40) (L := L.take k) k1 rfl rfl rfl hW Q1 (by omega) M.size rfl ?_
        intro pv2 cv2 u43 hW2 hK9 hv9
        replace M := own_gap hW hK9 (Nat.le_refl _) M
        clear hW hK9 hv9
        refine wl_mv (.tmp 41) (.slice pv2 (L.take k ++ [n]).length cv2) (fun _ => rfl) rfl rfl ?_
        refine w_nil ?_
        refine xn_then ?_
        refine w_seq ?_
        refine w_reg ?_
        refine wl_mv (.tmp 6) (.slice pv2 (L.take k ++ [n]).length cv2) (fun _ => rfl) rfl rfl ?_
        refine wl_mv (.tmp 0) (.slice pa L.length cap) (fun _ => rfl) e40_0 rfl ?_
        refine wl_mv (.tmp 5) (.int .i64 ((k : Nat) : Int)) (fun _ => rfl) e40_5 rfl ?_
        refine wl_val (.slice (dq pa k cap) (L.length - k) (cap - k)) (sllo _ _ _ pa L.length cap k (by exact rfl) (by exact rfl) hk hc _ _ _ _ _ _) rfl ?_
        refine wl_apP (.tmp 42) (.tmp 45) (L := L.take k ++ [n]) (M := L.drop k) rfl rfl rfl rfl (List.length_drop ..) hW2 (SL.dp (hL.kp M.kp) hc) (by simp; omega) M.size rfl ?_
        intro pv3 cv3 u44 hW3 hK9
        replace M := own_gap hW2 hK9 (Nat.le_refl _) M
        clear hW2 hK9
        refine wl_mv (.tmp 46) (.slice pv3 (L.take k ++ [n] ++ L.drop k).length cv3) (fun _ => rfl) rfl rfl ?_
        refine w_nil ?_
        refine xn_then ?_
        refine w_ret ?_
        exact w_ret1 _ (.slice pv3 (L.take k ++ [n] ++ L.drop k).length cv3) rfl rfl ⟨_, pv3, cv3, rfl, Li.own hW3 (by unfold maxLen; simp; omega), own_cp9 hW3, (put_up hup hno hgt).1, (put_up hup hno hgt).2, M⟩
  | false =>
    have hke := of_decide_eq_false hd
    have hgt : ∀ y, L[k]? = some y → n < y := fun y hy => by have := lt_of_get hy; omega
    refine w_seq ?_
    refine w_seq ?_
    refine w_reg ?_
    refine wl_mv (.tmp 5) (.int .i64 ((k : Nat) : Int)) (fun _ => rfl) e40_5 rfl ?_
    refine wl_mv (.tmp 0) (.slice pa L.length cap) (fun _ => rfl) e40_0 rfl ?_
    refine wl_val (.int .i64 ((L.length : Nat) : Int)) (len32 _ _ _ _ _ (by exact rfl) _ _ _ _ _ _) rfl ?_
    refine wl_bin (fun x y => do eqGuard .lss 3 (.tmp 7) (.tmp 9) x y; binOp .lss 3 x y) (.tmp 7) (.tmp 9) (.int .i64 ((k : Nat) : Int)) (.int .i64 ((L.length : Nat) : Int)) (.bool false) (fun _ => rfl) rfl rfl (ltN hd _ _ _) rfl ?_
    refine wl_mv (.tmp 10) (.bool false) (fun _ => rfl) rfl rfl ?_
    refine wl_skip rfl ?_
    refine wl_skip rfl ?_
    refine wl_skip rfl ?_
    refine wl_skip rfl ?_
    refine wl_skip rfl ?_
    refine wl_skip rfl ?_
    refine wl_pick (.tmp 11) (.tmp 17) (.const (.bool false)) false (.bool false) (fun _ => rfl) rfl rfl rfl ?_
    refine w_nil ?_
    refine xn_then ?_
    refine w_condF rfl ?_
    refine w_exit ?_
    refine xx_then ?_
    refine xx_then ?_
    refine xx_blk ?_
    refine xn_then ?_
    refine w_seq ?_
    refine w_seq ?_
    refine w_reg ?_
    refine wl_mv (.tmp 5) (.int .i64 ((k : Nat) : Int)) (fun _ => rfl) e40_5 rfl ?_
    refine wl_mv (.tmp 0) (.slice pa L.length cap) (fun _ => rfl) e40_0 rfl ?_
    refine wl_val (.int .i64 ((L.length : Nat) : Int)) (len32 _ _ _ _ _ (by exact rfl) _ _ _ _ _ _) rfl ?_
    refine wl_bin (fun x y => do eqGuard .lss 3 (.tmp 21) (.tmp 23) x y; binOp .lss 3 x y) (.tmp 21) (.tmp 23) (.int .i64 ((k : Nat) : Int)) (.int .i64 ((L.length : Nat) : Int)) (.bool false) (fun _ => rfl) rfl rfl (ltN hd _ _ _) rfl ?_
    refine wl_mv (.tmp 24) (.bool false) (fun _ => rfl) rfl rfl ?_
    refine wl_skip rfl ?_
    refine wl_skip rfl ?_
    refine wl_skip rfl ?_
    refine wl_skip rfl ?_
    refine wl_skip rfl ?_
    refine wl_skip rfl ?_
    refine wl_pick (.tmp 25) (.tmp 31) (.const (.bool false)) false (.bool false) (fun _ => rfl) rfl rfl rfl ?_
    refine w_nil ?_
    refine xn_then ?_
    refine w_condF rfl ?_
    refine w_skip ?_
    refine xn_then ?_
    refine w_seq ?_
    refine w_reg ?_
    refine wl_mv (.const (.slice none 0 0)) (.slice none 0 0) (fun _ => rfl) rfl rfl ?_
    refine w_nil ?_
    refine xn_then ?_
    refine w_seq ?_
    refine w_reg ?_
    refine wl_mv (.tmp 6) (.slice none 0 0) (fun _ => rfl) rfl rfl ?_
    refine wl_mv (.tmp 0) (.slice pa L.length cap) (fun _ => rfl) e40_0 rfl ?_
    refine wl_mv (.tmp 5) (.int .i64 ((k : Nat) : Int)) (fun _ => rfl) e40_5 rfl ?_
    refine wl_val (.slice pa k cap) (slhi _ _ _ pa L.length cap k (by exact rfl) (by exact rfl) (by omega) _ _ _ _ _ _) rfl ?_
    refine wl_apP (.tmp 34) (.tmp 37) (L := []) (M := L.take k) rfl rfl rfl rfl htk (Ow.nil _ _ _ _ _) (SL.tk (hL.kp M.kp) k) (by simp; omega) M.size rfl ?_
    intro pv cv u41 hW hK9
    replace M := hK9.mo M (fun j e => by cases e)
    clear hK9
    rw [List.nil_append] at hW
    refine wl_mv (.tmp 1) (.int .i64 ((n : Nat) : Int)) (fun _ => rfl) e40_1 rfl ?_
    refine wl_bs 32 1 [(0, (.tmp 39))] [(0, .int .i64 ((n : Nat) : Int))] #[.int .i64 ((n : Nat) : Int)] 3 rfl rfl (fun _ => by kernel_rfl) rfl ?_
    intro k1 u42 hk hz hq Q1
    have N_k1 : w.heap.size ≤ k1 := by have := M.size; omega
    replace hW := own_mo hW hq
    replace M := M.trans hq
    clear hk hz hq
    refine wl_apI (.tmp 38) (.tmp 40) (L := L.take k) k1 rfl rfl rfl hW Q1 (by omega) M.size rfl ?_
    intro pv2 cv2 u43 hW2 hK9 hv9
    replace M := own_gap hW hK9 (Nat.le_refl _) M
    clear hW hK9 hv9
    refine wl_mv (.tmp 41) (.slice pv2 (L.take k ++ [n]).length cv2) (fun _ => rfl) rfl rfl ?_
    refine w_nil ?_
    refine xn_then ?_
    refine w_seq ?_
    refine w_reg ?_
    refine wl_mv (.tmp 6) (.slice pv2 (L.take k ++ [n]).length cv2) (fun _ => rfl) rfl rfl ?_
    refine wl_mv (.tmp 0) (.slice pa L.length cap) (fun _ => rfl) e40_0 rfl ?_
    refine wl_mv (.tmp 5) (.int .i64 ((k : Nat) : Int)) (fun _ => rfl) e40_5 rfl ?_
    refine wl_val (.slice (dq pa k cap) (L.length - k) (cap - k)) (sllo _ _ _ pa L.length cap k (by exact rfl) (by exact rfl) hk hc _ _ _ _ _ _) rfl ?_
    refine wl_apP (.tmp 42) (.tmp 45) (L := L.take k ++ [n]) (M := L.drop k) rfl rfl rfl rfl (List.length_drop ..) hW2 (SL.dp (hL.kp M.kp) hc) (by simp; omega) M.size rfl ?_
    intro pv3 cv3 u44 hW3 hK9
    replace M := own_gap hW2 hK9 (Nat.le_refl _) M
    clear hW2 hK9
    refine wl_mv (.tmp 46) (.slice pv3 (L.take k ++ [n] ++ L.drop k).length cv3) (fun _ => rfl) rfl rfl ?_
    refine w_nil ?_
    refine xn_then ?_
    refine w_ret ?_
    exact w_ret1 _ (.slice pv3 (L.take k ++ [n] ++ L.drop k).length cv3) rfl rfl ⟨_, pv3, cv3, rfl, Li.own hW3 (by unfold maxLen; simp; omega), own_cp9 hW3, (put_up hup hno hgt).1, (put_up hup hno hgt).2, M⟩
end Go.Proofs.Ythghblgbjgghcaa
