/-
  slices.Clone of items.
-/
import Derived.Test.YtbanldffohopiaaRc
namespace Go.Proofs.Ytbanldffohopiaa
open Go.RowKit D
theorem appA {st et sz bys : Nat} {zv : Value} (hst : Try.prog.underlying st = some (.slice et)) (hin : ∃ i, Try.prog.info? et = some i ∧ i.zero = some zv ∧ i.size = sz ∧ i.bytes = bys) (hzs : zv.cells.size = sz) (hsz : 0 < sz)
    (w : World) (ty : TypeId) (N g cap n : Nat) (xs : List Value) (hown : w.ownsRow N et sz (.slice (some ⟨g, 0, none⟩) n cap) n xs) (a : Addr) (m c : Nat) (news : List Value) (hl : news.length = m * sz) (hnews : ∀ j u, news[j]? = some u → w.cell? (a.add j) = some u) (h1 : ∀ u ∈ news, u.oneCell' = true) (h63 : n + m ≤ maxLen) (hb : (n + m) * bys ≤ 140737488355328) (hN : N ≤ w.heap.size) :
    ∃ v' w', (Builtin.append_ #[st, st] ty #[.slice (some ⟨g, 0, none⟩) n cap, .slice (some a) m c]).run Try.prog w = .ok v' w' ∧ w'.ownsRow N et sz v' (n + m) (xs ++ news) ∧ Mk (fun j => j = g) w w' := by
  obtain ⟨i, hi, hz, hs, hby⟩ := hin
  obtain ⟨v', w', hr, h2, h3, _, h5⟩ := run_append_own_at (P := Try.prog) w N st ty et i _ sz bys hst hi hz hs hby hzs hsz _ n xs hown a m c news hl hnews h1 h63 hb hN
  refine ⟨v', w', hr, h2, ⟨h3.os, h3.tape, h3.output, h3.size, fun j hj hne => h3.block j hj (fun e => hne (Option.some.inj e)), ?_⟩⟩
  rcases hown.2 with ⟨q, _⟩ | ⟨g', cap', cur, q, hbg, hg, hnc, hcm, hcs, htake⟩
  · cases q
  · cases q
    by_cases hroom : n + m ≤ cap
    · have hr2 := run_append_room (P := Try.prog) w st ty et i hst hi g n cap cur hg a m c news (by rw [hs]; exact hl) hnews h1 hroom (by rw [hs, hcs]; exact Nat.mul_le_mul_right _ hroom |> fun h => by first | omega | exact h | (rw [hl]; rw [Nat.add_mul] at h; omega))
      rw [hr2] at hr
      cases hr
      intro a
      by_cases e : a.block = g
      · have h9 := setRow_heap w g cur (cur.toList.take (n * i.size) ++ news ++ cur.toList.drop (n * i.size + news.length)).toArray et (0, 0) hg
        simp only [World.frozen?, e, h9, hg]
      · exact World.frozen?_of_block (setRow_other w g a.block _ e)
    · have hr2 := run_append_grow (P := Try.prog) w st ty et i _ hst hi hz ⟨g, 0, none⟩ n cap xs (by rw [hs]; exact hown.1) (hown.cells (g := g) rfl) a m c news (by rw [hs]; exact hl) hnews (by omega) (by unfold maxLen at h63; omega) (by rw [hby]; exact growslice_fits (by omega) hb)
      rw [hr2] at hr
      cases hr
      exact ((Mo.refl w).drew.alloc _ _).2
section
variable {o : Oper} {n : Nat} {l : List (Nat × Value)} {w : World} {ops : Array Oper} {rest : List Oper} {Q : Exit → Act → World → Prop}
theorem bz22 (w : World) : (Instr.buildSlice 22 0 #[]).run Try.prog w = .ok (.slice (some ⟨w.heap.size, 0, none⟩) 0 0) (w.alloc (.cells #[] 66)) := by kernel_rfl
theorem wl_bs0 (ho : o.op = .buildSlice 22 0 #[]) (hg : wnt n l ops o = true)
    (hk : ∀ k w', w.heap.size = k → Mo w w' → w'.ownsRow k 66 23 (.slice (some ⟨k, 0, none⟩) 0 0) 0 [] → WL Try.prog ops Q rest n (ext l o.dst (.slice (some ⟨k, 0, none⟩) 0 0)) w') : WL Try.prog ops Q (o :: rest) n l w :=
  ⟨l_step hg (o_val (.slice (some ⟨w.heap.size, 0, none⟩) 0 0) (w' := w.alloc (.cells #[] 66)) (by simp [execOp, ho, bz22]) (hk _ _ rfl ((Mo.refl _).alloc _ _) ⟨rfl, Or.inr ⟨w.heap.size, 0, #[], rfl, Nat.le_refl _, heap_alloc_new w _, Nat.le_refl _, Nat.zero_le _, rfl, rfl⟩⟩).out)⟩
theorem wl_appa {st et sz bys : Nat} {zv : Value} (hst : Try.prog.underlying st = some (.slice et)) (hin : ∃ i, Try.prog.info? et = some i ∧ i.zero = some zv ∧ i.size = sz ∧ i.bytes = bys) (hzs : zv.cells.size = sz) (hsz : 0 < sz) (s x : Operand) (N g cap q : Nat) (xs : List Value) (a : Addr) (m c : Nat) (news : List Value) (ho : o.op = .call { callee := .builtin .append, args := #[s, x], argTypes := #[st, st] }) (hs : evl n l s = .slice (some ⟨g, 0, none⟩) q cap) (hx : evl n l x = .slice (some a) m c)
    (hown : w.ownsRow N et sz (.slice (some ⟨g, 0, none⟩) q cap) q xs) (hl : news.length = m * sz) (hnews : ∀ j u, news[j]? = some u → w.cell? (a.add j) = some u) (h1 : ∀ u ∈ news, u.oneCell' = true) (h63 : q + m ≤ maxLen) (hb : (q + m) * bys ≤ 140737488355328) (hN : N ≤ w.heap.size) (hg : wnt n l ops o = true)
    (hk : ∀ v' w', w'.ownsRow N et sz v' (q + m) (xs ++ news) → Mk (fun j => j = g) w w' → WL Try.prog ops Q rest n (ext l o.dst v') w') : WL Try.prog ops Q (o :: rest) n l w := by
  obtain ⟨v', w', hr, h2, h3⟩ := appA hst hin hzs hsz w o.type N g cap q xs hown a m c news hl hnews h1 h63 hb hN
  refine ⟨l_step hg (o_val v' (w' := w') ?_ (hk v' w' h2 h3).out)⟩
  unfold execOp
  simp only [ho, resolve, invoke, builtin, Sem.run_bind, Sem.run_pure, Result.andThen_ok, List.map_toArray, List.map_cons, List.map_nil, hs, hx, hr]
end
theorem es22 (a : Addr) (n c : Nat) (x y : Operand) (w : World) : (do eqGuard .eql 22 x y (.slice (some a) n c) (.slice none 0 0); binOp .eql 22 (.slice (some a) n c) (.slice none 0 0)).run Try.prog w = .ok (.bool false) w := by kernel_rfl
theorem en22 (n c : Nat) (x y : Operand) (w : World) : (do eqGuard .eql 22 x y (.slice none n c) (.slice none 0 0); binOp .eql 22 (.slice none n c) (.slice none 0 0)).run Try.prog w = .ok (.bool true) w := by kernel_rfl
theorem it_one (y : It) : ∀ u ∈ y.cells, u.oneCell' = true := fun u hu => by
  simp only [It.cells, Ex.cells, List.mem_cons, List.not_mem_nil, or_false] at hu
  rcases hu with rfl | rfl | rfl | rfl | rfl | rfl | rfl | rfl | rfl | rfl | rfl | rfl | rfl | rfl | rfl | rfl | rfl | rfl | rfl | rfl | rfl | rfl | rfl <;> rfl
theorem SL.cell {w : World} {b off : Nat} {L : List It} (h : SL w 23 It.cells (some ⟨b, off, none⟩) L) : ∀ j u, (L.flatMap It.cells)[j]? = some u → w.cell? ((⟨b, off, none⟩ : Addr).add j) = some u := fun j u hu => by
  have hl := flat_len (cells := It.cells) It.len L
  have hj : j < L.length * 23 := by rw [← hl]; exact lt_of_get hu
  have hq : j / 23 < L.length := by omega
  obtain ⟨y, hy⟩ := get_of_lt hq
  obtain ⟨b', off', e, _, hr⟩ := h.2 (j / 23) y hy
  cases e
  have hm : j % 23 < y.cells.length := by rw [It.len]; omega
  obtain ⟨v, hv⟩ := get_of_lt hm
  have h3 := flat_get It.len L (j / 23) y (j % 23) v hy hv
  rw [show j / 23 * 23 + j % 23 = j by omega, hu] at h3
  cases h3
  have := hr (j % 23) u hv
  rw [Addr.add_mid, ← show off + j / 23 * 23 + j % 23 = off + j by omega]
  exact this
theorem clone_0 (c : Nat) (w : World) : Calls Try.prog 25 #[.slice none 0 c] w fun e w' => ∃ pa cap, e = .returned (.slice pa ([] : List It).length cap) ∧ w'.ownsRow w.heap.size 66 23 (.slice pa ([] : List It).length cap) ([] : List It).length (([] : List It).flatMap It.cells) ∧ Mo w w' := by
  refine w_enter 8 Try.func25 Try.ntmps25 rfl rfl ?_
  have M : Mo w w := Mo.refl _
  refine w_seq ?_
  refine w_reg ?_
  refine wl_mv (.const (.slice none 0 0)) (.slice none 0 0) (fun _ => rfl) rfl rfl ?_
  refine w_nil ?_
  refine xn_then ?_
  refine w_seq ?_
  refine w_seq ?_
  refine w_reg ?_
  refine wl_mv (.tmp 0) (.slice none 0 c) (fun _ => rfl) rfl rfl ?_
  refine wl_bin (fun x y => do eqGuard .eql 22 (.tmp 3) (.const (.slice none 0 0)) x y; binOp .eql 22 x y) (.tmp 3) (.const (.slice none 0 0)) (.slice none 0 c) (.slice none 0 0) (.bool true) (fun _ => rfl) rfl rfl (en22 _ _ _ _ _) rfl ?_
  refine w_nil ?_
  refine xn_then ?_
  refine w_condT rfl ?_
  refine w_seq ?_
  refine w_reg ?_
  refine wl_mv (.const (.slice none 0 0)) (.slice none 0 0) (fun _ => rfl) rfl rfl ?_
  refine w_nil ?_
  refine xn_then ?_
  refine w_ret ?_
  refine xr_then ?_
  exact w_ret1 _ (.slice none 0 0) rfl rfl ⟨none, 0, rfl, ⟨rfl, Or.inl ⟨rfl, rfl⟩⟩, M⟩
theorem clone_1 (b off c : Nat) (L : List It) {w : World} (hS : SL w 23 It.cells (some ⟨b, off, none⟩) L) (hz : L.length ≤ 64) : Calls Try.prog 25 #[.slice (some ⟨b, off, none⟩) L.length c] w fun e w' => ∃ pa cap, e = .returned (.slice pa L.length cap) ∧ w'.ownsRow w.heap.size 66 23 (.slice pa L.length cap) L.length (L.flatMap It.cells) ∧ Mo w w' := by
  refine w_enter 8 Try.func25 Try.ntmps25 rfl rfl ?_
  have M : Mo w w := Mo.refl _
  refine w_seq ?_
  refine w_reg ?_
  refine wl_mv (.const (.slice none 0 0)) (.slice none 0 0) (fun _ => rfl) rfl rfl ?_
  refine w_nil ?_
  refine xn_then ?_
  refine w_seq ?_
  refine w_seq ?_
  refine w_reg ?_
  refine wl_mv (.tmp 0) (.slice (some ⟨b, off, none⟩) L.length c) (fun _ => rfl) rfl rfl ?_
  refine wl_bin (fun x y => do eqGuard .eql 22 (.tmp 3) (.const (.slice none 0 0)) x y; binOp .eql 22 x y) (.tmp 3) (.const (.slice none 0 0)) (.slice (some ⟨b, off, none⟩) L.length c) (.slice none 0 0) (.bool false) (fun _ => rfl) rfl rfl (es22 _ _ _ _ _ _) rfl ?_
  refine w_nil ?_
  refine xn_then ?_
  refine w_condF rfl ?_
  refine w_skip ?_
  refine xn_then ?_
  refine w_seq ?_
  refine w_reg ?_
  refine wl_bs0 rfl rfl ?_
  intro g u1 hk hq hown
  have hMg : w.heap.size ≤ g := by have := M.size; omega
  have M0 := M
  replace M := M.trans hq
  refine wl_mv (.tmp 0) (.slice (some ⟨b, off, none⟩) L.length c) (fun _ => rfl) rfl rfl ?_
  refine wl_appa Try.underlying22 inf66 rfl (by decide) (.tmp 5) (.tmp 6) w.heap.size g 0 0 [] ⟨b, off, none⟩ L.length c (L.flatMap It.cells) rfl rfl rfl (own_base hown hMg) (flat_len It.len L) (SL.cell (hS.kp M.kp)) (fun u hu => by obtain ⟨y, _, hy⟩ := List.mem_flatMap.1 hu; exact it_one y u hy) (by unfold maxLen; omega) (by omega) M.size rfl ?_
  intro v9 u2 hOw hm9
  replace M := hm9.mo M (fun k e => by rw [e]; exact hMg)
  rw [Nat.zero_add, List.nil_append] at hOw
  obtain ⟨pa2, cap2, rfl, _⟩ := own_form hOw
  refine wl_mv (.tmp 7) (.slice pa2 L.length cap2) (fun _ => rfl) rfl rfl ?_
  refine w_nil ?_
  refine xn_then ?_
  refine w_ret ?_
  exact w_ret1 _ (.slice pa2 L.length cap2) rfl rfl ⟨pa2, cap2, rfl, hOw, M⟩
theorem az22 (g : Nat) (a : Addr) (c : Nat) (ty : TypeId) (w : World) : (Builtin.append_ #[22, 22] ty #[.slice (some ⟨g, 0, none⟩) 0 0, .slice (some a) 0 c]).run Try.prog w = .ok (.slice (some ⟨g, 0, none⟩) 0 0) w := by kernel_rfl
section
variable {o : Oper} {n : Nat} {l : List (Nat × Value)} {w : World} {ops : Array Oper} {rest : List Oper} {Q : Exit → Act → World → Prop}
theorem wl_ap {t : TypeId} (s x : Operand) (v v2 v' : Value) {w' : World} (ho : o.op = .call { callee := .builtin .append, args := #[s, x], argTypes := #[t, t] }) (hs : evl n l s = v) (hx : evl n l x = v2) (hr : (Builtin.append_ #[t, t] o.type #[v, v2]).run Try.prog w = .ok v' w') (hg : wnt n l ops o = true)
    (hk : WL Try.prog ops Q rest n (ext l o.dst v') w') : WL Try.prog ops Q (o :: rest) n l w := by
  refine ⟨l_step hg (o_val v' (w' := w') ?_ hk.out)⟩
  unfold execOp
  simp only [ho, resolve, invoke, builtin, Sem.run_bind, Sem.run_pure, Result.andThen_ok, List.map_toArray, List.map_cons, List.map_nil, hs, hx, hr]
end
theorem clone_2 (a : Addr) (c : Nat) (w : World) : Calls Try.prog 25 #[.slice (some a) 0 c] w fun e w' => ∃ pa cap, e = .returned (.slice pa ([] : List It).length cap) ∧ w'.ownsRow w.heap.size 66 23 (.slice pa ([] : List It).length cap) ([] : List It).length (([] : List It).flatMap It.cells) ∧ Mo w w' := by
  refine w_enter 8 Try.func25 Try.ntmps25 rfl rfl ?_
  have M : Mo w w := Mo.refl _
  refine w_seq ?_
  refine w_reg ?_
  refine wl_mv (.const (.slice none 0 0)) (.slice none 0 0) (fun _ => rfl) rfl rfl ?_
  refine w_nil ?_
  refine xn_then ?_
  refine w_seq ?_
  refine w_seq ?_
  refine w_reg ?_
  refine wl_mv (.tmp 0) (.slice (some a) 0 c) (fun _ => rfl) rfl rfl ?_
  refine wl_bin (fun x y => do eqGuard .eql 22 (.tmp 3) (.const (.slice none 0 0)) x y; binOp .eql 22 x y) (.tmp 3) (.const (.slice none 0 0)) (.slice (some a) 0 c) (.slice none 0 0) (.bool false) (fun _ => rfl) rfl rfl (es22 _ _ _ _ _ _) rfl ?_
  refine w_nil ?_
  refine xn_then ?_
  refine w_condF rfl ?_
  refine w_skip ?_
  refine xn_then ?_
  refine w_seq ?_
  refine w_reg ?_
  refine wl_bs0 rfl rfl ?_
  intro g u1 hk hq hown
  have hMg : w.heap.size ≤ g := by have := M.size; omega
  replace M := M.trans hq
  refine wl_mv (.tmp 0) (.slice (some a) 0 c) (fun _ => rfl) rfl rfl ?_
  refine wl_ap (.tmp 5) (.tmp 6) (.slice (some ⟨g, 0, none⟩) 0 0) (.slice (some a) 0 c) (.slice (some ⟨g, 0, none⟩) 0 0) rfl rfl rfl (az22 g a c _ _) rfl ?_
  refine wl_mv (.tmp 7) (.slice (some ⟨g, 0, none⟩) 0 0) (fun _ => rfl) rfl rfl ?_
  refine w_nil ?_
  refine xn_then ?_
  refine w_ret ?_
  exact w_ret1 _ (.slice (some ⟨g, 0, none⟩) 0 0) rfl rfl ⟨some ⟨g, 0, none⟩, 0, rfl, own_base hown hMg, M⟩
theorem clone_n (pa : Option Addr) (c : Nat) (L : List It) {w : World} (hS : SL w 23 It.cells pa L) (hz : L.length ≤ 64) : Calls Try.prog 25 #[.slice pa L.length c] w fun e w' => ∃ pa cap, e = .returned (.slice pa L.length cap) ∧ w'.ownsRow w.heap.size 66 23 (.slice pa L.length cap) L.length (L.flatMap It.cells) ∧ Mo w w' := by
  cases L with
  | nil =>
    cases pa with
    | none => exact clone_0 c w
    | some a => exact clone_2 a c w
  | cons y L =>
    obtain ⟨b, off, rfl, _⟩ := hS.2 0 y rfl
    exact clone_1 b off c (y :: L) hS hz
end Go.Proofs.Ytbanldffohopiaa
