/-
  slices.Clone of items, of tables, of sections.
-/
import Derived.Test.YtepfokoepibkcaaQR4
namespace Go.Proofs.Ytepfokoepibkcaa
open Go.RowKit D
theorem D.Tb.len (x : Tb) : x.cells.length = 2 := rfl
theorem appA {st et sz bys : Nat} {zv : Value} (hst : Try.prog.underlying st = some (.slice et)) (hin : ∃ i, Try.prog.info? et = some i ∧ i.zero = some zv ∧ i.size = sz ∧ i.bytes = bys) (hzs : zv.cells.size = sz) (hsz : 0 < sz)
    (w : World) (ty : TypeId) (N g cap n : Nat) (xs : List Value) (hown : w.ownsRow N et sz (.slice (some ⟨g, 0, none⟩) n cap) n xs) (a : Addr) (m c : Nat) (news : List Value) (hl : news.length = m * sz) (hnews : ∀ j u, news[j]? = some u → w.cell? (a.add j) = some u) (h1 : ∀ u ∈ news, u.oneCell' = true) (h63 : n + m ≤ maxLen) (hb : (n + m) * bys ≤ 140737488355328) (hN : N ≤ w.heap.size) :
    ∃ v' w', (Builtin.append_ #[st, st] ty #[.slice (some ⟨g, 0, none⟩) n cap, .slice (some a) m c]).run Try.prog w = .ok v' w' ∧ w'.ownsRow N et sz v' (n + m) (xs ++ news) ∧ Mk (fun j => j = g) w w' := by
  obtain ⟨i, hi, hz, hs, hby⟩ := hin
  obtain ⟨v', w', hr, h2, h3, _, h5⟩ := run_append_own_at (P := Try.prog) w N st ty et i _ sz bys hst hi hz hs hby hzs hsz _ n xs hown a m c news hl hnews h1 h63 hb hN
  refine ⟨v', w', hr, h2, ⟨h3.os, h3.tape, h3.output, h3.size, fun j hj hne => h3.block j hj (fun e => hne (Option.some.inj e)), ?_⟩⟩
  rcases hown.2 with ⟨q, _⟩ | ⟨g', cap', cur, q, hbg, hg, hnc, hcm, hcs, htake⟩
  · cases q
  · cases q
    by_cases hroom : n + m ≤ cap
    · have hr2 := run_append_room (P := Try.prog) w st ty et i hst hi g n cap cur hg a m c news (by rw [hs]; exact hl) hnews h1 hroom (by rw [hs, hcs]; exact Nat.mul_le_mul_right _ hroom |> fun h => by first | omega | exact h | (rw [hl]; rw [Nat.add_mul] at h; omega))
      rw [hr2] at hr
      cases hr
      intro a
      by_cases e : a.block = g
      · have h9 := setRow_heap w g cur (cur.toList.take (n * i.size) ++ news ++ cur.toList.drop (n * i.size + news.length)).toArray et (0, 0) hg
        simp only [World.frozen?, e, h9, hg]
      · exact World.frozen?_of_block (setRow_other w g a.block _ e)
    · have hr2 := run_append_grow (P := Try.prog) w st ty et i _ hst hi hz ⟨g, 0, none⟩ n cap xs (by rw [hs]; exact hown.1) (hown.cells (g := g) rfl) a m c news (by rw [hs]; exact hl) hnews (by omega) (by unfold maxLen at h63; omega) (by rw [hby]; exact growslice_fits (by omega) hb)
      rw [hr2] at hr
      cases hr
      exact ((Mo.refl w).drew.alloc _ _).2
section
variable {o : Oper} {n : Nat} {l : List (Nat × Value)} {w : World} {ops : Array Oper} {rest : List Oper} {Q : Exit → Act → World → Prop}
theorem wl_appa {st et sz bys : Nat} {zv : Value} (hst : Try.prog.underlying st = some (.slice et)) (hin : ∃ i, Try.prog.info? et = some i ∧ i.zero = some zv ∧ i.size = sz ∧ i.bytes = bys) (hzs : zv.cells.size = sz) (hsz : 0 < sz) (s x : Operand) (N g cap q : Nat) (xs : List Value) (a : Addr) (m c : Nat) (news : List Value) (ho : o.op = .call { callee := .builtin .append, args := #[s, x], argTypes := #[st, st] }) (hs : evl n l s = .slice (some ⟨g, 0, none⟩) q cap) (hx : evl n l x = .slice (some a) m c)
    (hown : w.ownsRow N et sz (.slice (some ⟨g, 0, none⟩) q cap) q xs) (hl : news.length = m * sz) (hnews : ∀ j u, news[j]? = some u → w.cell? (a.add j) = some u) (h1 : ∀ u ∈ news, u.oneCell' = true) (h63 : q + m ≤ maxLen) (hb : (q + m) * bys ≤ 140737488355328) (hN : N ≤ w.heap.size) (hg : wnt n l ops o = true)
    (hk : ∀ v' w', w'.ownsRow N et sz v' (q + m) (xs ++ news) → Mk (fun j => j = g) w w' → WL Try.prog ops Q rest n (ext l o.dst v') w') : WL Try.prog ops Q (o :: rest) n l w := by
  obtain ⟨v', w', hr, h2, h3⟩ := appA hst hin hzs hsz w o.type N g cap q xs hown a m c news hl hnews h1 h63 hb hN
  refine ⟨l_step hg (o_val v' (w' := w') ?_ (hk v' w' h2 h3).out)⟩
  unfold execOp
  simp only [ho, resolve, invoke, builtin, Sem.run_bind, Sem.run_pure, Result.andThen_ok, List.map_toArray, List.map_cons, List.map_nil, hs, hx, hr]
theorem wl_apx {t : TypeId} (s x : Operand) (v v2 v' : Value) {w' : World} (ho : o.op = .call { callee := .builtin .append, args := #[s, x], argTypes := #[t, t] }) (hs : evl n l s = v) (hx : evl n l x = v2) (hr : (Builtin.append_ #[t, t] o.type #[v, v2]).run Try.prog w = .ok v' w') (hg : wnt n l ops o = true)
    (hk : WL Try.prog ops Q rest n (ext l o.dst v') w') : WL Try.prog ops Q (o :: rest) n l w := by
  refine ⟨l_step hg (o_val v' (w' := w') ?_ hk.out)⟩
  unfold execOp
  simp only [ho, resolve, invoke, builtin, Sem.run_bind, Sem.run_pure, Result.andThen_ok, List.map_toArray, List.map_cons, List.map_nil, hs, hx, hr]
end
theorem bz45 (w : World) : (Instr.buildSlice 45 0 #[]).run Try.prog w = .ok (.slice (some ⟨w.heap.size, 0, none⟩) 0 0) (w.alloc (.cells #[] 67)) := by kernel_rfl
section
variable {o : Oper} {n : Nat} {l : List (Nat × Value)} {w : World} {ops : Array Oper} {rest : List Oper} {Q : Exit → Act → World → Prop}
theorem wl_bz45 (ho : o.op = .buildSlice 45 0 #[]) (hg : wnt n l ops o = true)
    (hk : ∀ k w', w.heap.size = k → Mo w w' → w'.ownsRow k 67 23 (.slice (some ⟨k, 0, none⟩) 0 0) 0 [] → WL Try.prog ops Q rest n (ext l o.dst (.slice (some ⟨k, 0, none⟩) 0 0)) w') : WL Try.prog ops Q (o :: rest) n l w :=
  ⟨l_step hg (o_val (.slice (some ⟨w.heap.size, 0, none⟩) 0 0) (w' := w.alloc (.cells #[] 67)) (by simp [execOp, ho, bz45]) (hk _ _ rfl ((Mo.refl _).alloc _ _) ⟨rfl, Or.inr ⟨w.heap.size, 0, #[], rfl, Nat.le_refl _, heap_alloc_new w _, Nat.le_refl _, Nat.zero_le _, rfl, rfl⟩⟩).out)⟩
end
theorem es45 (a : Addr) (n c : Nat) (x y : Operand) (w : World) : (do eqGuard .eql 45 x y (.slice (some a) n c) (.slice none 0 0); binOp .eql 45 (.slice (some a) n c) (.slice none 0 0)).run Try.prog w = .ok (.bool false) w := by kernel_rfl
theorem en45 (n c : Nat) (x y : Operand) (w : World) : (do eqGuard .eql 45 x y (.slice none n c) (.slice none 0 0); binOp .eql 45 (.slice none n c) (.slice none 0 0)).run Try.prog w = .ok (.bool true) w := by kernel_rfl
theorem az45 (g : Nat) (a : Addr) (c : Nat) (ty : TypeId) (w : World) : (Builtin.append_ #[45, 45] ty #[.slice (some ⟨g, 0, none⟩) 0 0, .slice (some a) 0 c]).run Try.prog w = .ok (.slice (some ⟨g, 0, none⟩) 0 0) w := by kernel_rfl
theorem one67 (y : It) : ∀ u ∈ y.cells, u.oneCell' = true := fun u hu => by
  have h : y.cells.all (·.oneCell') = true := rfl
  exact List.all_eq_true.1 h u hu
theorem cell67 {w : World} {b off : Nat} {L : List It} (h : SL w 23 It.cells (some ⟨b, off, none⟩) L) : ∀ j u, (L.flatMap It.cells)[j]? = some u → w.cell? ((⟨b, off, none⟩ : Addr).add j) = some u := fun j u hu => by
  have hl := flat_len (cells := It.cells) (n := 23) It.len L
  have hj : j < L.length * 23 := by rw [← hl]; exact lt_of_get hu
  have hq : j / 23 < L.length := by omega
  obtain ⟨y, hy⟩ := get_of_lt hq
  obtain ⟨b', off', e, _, hr⟩ := h.2 (j / 23) y hy
  cases e
  have hm : j % 23 < y.cells.length := by rw [It.len]; omega
  obtain ⟨v, hv⟩ := get_of_lt hm
  have h3 := flat_get (n := 23) It.len L (j / 23) y (j % 23) v hy hv
  rw [show j / 23 * 23 + j % 23 = j by omega, hu] at h3
  cases h3
  have := hr (j % 23) u hv
  rw [Addr.add_mid, ← show off + j / 23 * 23 + j % 23 = off + j by omega]
  exact this
theorem clo22_0 (c : Nat) (w : World) : Calls Try.prog 22 #[.slice none 0 c] w fun e w' => ∃ pa cap, e = .returned (.slice pa ([] : List It).length cap) ∧ w'.ownsRow w.heap.size 67 23 (.slice pa ([] : List It).length cap) ([] : List It).length (([] : List It).flatMap It.cells) ∧ Mo w w' := by
  refine w_enter 8 Try.func22 Try.ntmps22 rfl rfl ?_
  have M : Mo w w := Mo.refl _
  refine w_seq ?_
  refine w_reg ?_
  refine wl_mv (.const (.slice none 0 0)) (.slice none 0 0) (fun _ => rfl) rfl rfl ?_
  refine w_nil ?_
  refine xn_then ?_
  refine w_seq ?_
  refine w_seq ?_
  refine w_reg ?_
  refine wl_mv (.tmp 0) (.slice none 0 c) (fun _ => rfl) rfl rfl ?_
  refine wl_bin (fun x y => do eqGuard .eql 45 (.tmp 3) (.const (.slice none 0 0)) x y; binOp .eql 45 x y) (.tmp 3) (.const (.slice none 0 0)) (.slice none 0 c) (.slice none 0 0) (.bool true) (fun _ => rfl) rfl rfl (en45 _ _ _ _ _) rfl ?_
  refine w_nil ?_
  refine xn_then ?_
  refine w_condT rfl ?_
  refine w_seq ?_
  refine w_reg ?_
  refine wl_mv (.const (.slice none 0 0)) (.slice none 0 0) (fun _ => rfl) rfl rfl ?_
  refine w_nil ?_
  refine xn_then ?_
  refine w_ret ?_
  refine xr_then ?_
  exact w_ret1 _ (.slice none 0 0) rfl rfl ⟨none, 0, rfl, ⟨rfl, Or.inl ⟨rfl, rfl⟩⟩, M⟩
theorem clo22_1 (b off c : Nat) (L : List It) {w : World} (hS : SL w 23 It.cells (some ⟨b, off, none⟩) L) (hz : L.length ≤ 4000000) : Calls Try.prog 22 #[.slice (some ⟨b, off, none⟩) L.length c] w fun e w' => ∃ pa cap, e = .returned (.slice pa L.length cap) ∧ w'.ownsRow w.heap.size 67 23 (.slice pa L.length cap) L.length (L.flatMap It.cells) ∧ Mo w w' := by
  refine w_enter 8 Try.func22 Try.ntmps22 rfl rfl ?_
  have M : Mo w w := Mo.refl _
  refine w_seq ?_
  refine w_reg ?_
  refine wl_mv (.const (.slice none 0 0)) (.slice none 0 0) (fun _ => rfl) rfl rfl ?_
  refine w_nil ?_
  refine xn_then ?_
  refine w_seq ?_
  refine w_seq ?_
  refine w_reg ?_
  refine wl_mv (.tmp 0) (.slice (some ⟨b, off, none⟩) L.length c) (fun _ => rfl) rfl rfl ?_
  refine wl_bin (fun x y => do eqGuard .eql 45 (.tmp 3) (.const (.slice none 0 0)) x y; binOp .eql 45 x y) (.tmp 3) (.const (.slice none 0 0)) (.slice (some ⟨b, off, none⟩) L.length c) (.slice none 0 0) (.bool false) (fun _ => rfl) rfl rfl (es45 _ _ _ _ _ _) rfl ?_
  refine w_nil ?_
  refine xn_then ?_
  refine w_condF rfl ?_
  refine w_skip ?_
  refine xn_then ?_
  refine w_seq ?_
  refine w_reg ?_
  refine wl_bz45 rfl rfl ?_
  intro g u1 hk hq hown
  have hMg : w.heap.size ≤ g := by have := M.size; omega
  replace M := M.trans hq
  refine wl_mv (.tmp 0) (.slice (some ⟨b, off, none⟩) L.length c) (fun _ => rfl) rfl rfl ?_
  refine wl_appa Try.underlying45 inf67 rfl (by decide) (.tmp 5) (.tmp 6) w.heap.size g 0 0 [] ⟨b, off, none⟩ L.length c (L.flatMap It.cells) rfl rfl rfl (own_base hown hMg) (flat_len It.len L) (cell67 (hS.kp M.kp)) (fun u hu => by obtain ⟨y, _, hy⟩ := List.mem_flatMap.1 hu; exact one67 y u hy) (by unfold maxLen; omega) (by omega) M.size rfl ?_
  intro v9 u2 hOw hm9
  replace M := hm9.mo M (fun k e => by rw [e]; exact hMg)
  rw [Nat.zero_add, List.nil_append] at hOw
  obtain ⟨pa2, cap2, rfl, _⟩ := own_form hOw
  refine wl_mv (.tmp 7) (.slice pa2 L.length cap2) (fun _ => rfl) rfl rfl ?_
  refine w_nil ?_
  refine xn_then ?_
  refine w_ret ?_
  exact w_ret1 _ (.slice pa2 L.length cap2) rfl rfl ⟨pa2, cap2, rfl, hOw, M⟩
theorem clo22_2 (a : Addr) (c : Nat) (w : World) : Calls Try.prog 22 #[.slice (some a) 0 c] w fun e w' => ∃ pa cap, e = .returned (.slice pa ([] : List It).length cap) ∧ w'.ownsRow w.heap.size 67 23 (.slice pa ([] : List It).length cap) ([] : List It).length (([] : List It).flatMap It.cells) ∧ Mo w w' := by
  refine w_enter 8 Try.func22 Try.ntmps22 rfl rfl ?_
  have M : Mo w w := Mo.refl _
  refine w_seq ?_
  refine w_reg ?_
  refine wl_mv (.const (.slice none 0 0)) (.slice none 0 0) (fun _ => rfl) rfl rfl ?_
  refine w_nil ?_
  refine xn_then ?_
  refine w_seq ?_
  refine w_seq ?_
  refine w_reg ?_
  refine wl_mv (.tmp 0) (.slice (some a) 0 c) (fun _ => rfl) rfl rfl ?_
  refine wl_bin (fun x y => do eqGuard .eql 45 (.tmp 3) (.const (.slice none 0 0)) x y; binOp .eql 45 x y) (.tmp 3) (.const (.slice none 0 0)) (.slice (some a) 0 c) (.slice none 0 0) (.bool false) (fun _ => rfl) rfl rfl (es45 _ _ _ _ _ _) rfl ?_
  refine w_nil ?_
  refine xn_then ?_
  refine w_condF rfl ?_
  refine w_skip ?_
  refine xn_then ?_
  refine w_seq ?_
  refine w_reg ?_
  refine wl_bz45 rfl rfl ?_
  intro g u1 hk hq hown
  have hMg : w.heap.size ≤ g := by have := M.size; omega
  replace M := M.trans hq
  refine wl_mv (.tmp 0) (.slice (some a) 0 c) (fun _ => rfl) rfl rfl ?_
  refine wl_apx (.tmp 5) (.tmp 6) (.slice (some ⟨g, 0, none⟩) 0 0) (.slice (some a) 0 c) (.slice (some ⟨g, 0, none⟩) 0 0) rfl rfl rfl (az45 g a c _ _) rfl ?_
  refine wl_mv (.tmp 7) (.slice (some ⟨g, 0, none⟩) 0 0) (fun _ => rfl) rfl rfl ?_
  refine w_nil ?_
  refine xn_then ?_
  refine w_ret ?_
  exact w_ret1 _ (.slice (some ⟨g, 0, none⟩) 0 0) rfl rfl ⟨some ⟨g, 0, none⟩, 0, rfl, own_base hown hMg, M⟩
theorem clo22_n (pa : Option Addr) (c : Nat) (L : List It) {w : World} (hS : SL w 23 It.cells pa L) (hz : L.length ≤ 4000000) : Calls Try.prog 22 #[.slice pa L.length c] w fun e w' => ∃ pa cap, e = .returned (.slice pa L.length cap) ∧ w'.ownsRow w.heap.size 67 23 (.slice pa L.length cap) L.length (L.flatMap It.cells) ∧ Mo w w' := by
  cases L with
  | nil =>
    cases pa with
    | none => exact clo22_0 c w
    | some a => exact clo22_2 a c w
  | cons y L =>
    obtain ⟨b, off, rfl, _⟩ := hS.2 0 y rfl
    exact clo22_1 b off c (y :: L) hS hz
theorem inf71 : ∃ i, Try.prog.info? 71 = some i ∧ i.zero = some (.agg #[.string ⟨#[]⟩, .slice none 0 0]) ∧ i.size = 2 ∧ i.bytes = 40 := by
  have h : (Try.prog.info? 71).map (fun i => (i.zero, i.size, i.bytes)) = some (some (.agg #[.string ⟨#[]⟩, .slice none 0 0]), 2, 40) := by kernel_rfl
  cases hi : Try.prog.info? 71 with
  | none => rw [hi] at h; cases h
  | some i =>
    rw [hi] at h
    simp at h
    exact ⟨i, rfl, h.1, h.2.1, h.2.2⟩
theorem bz49 (w : World) : (Instr.buildSlice 49 0 #[]).run Try.prog w = .ok (.slice (some ⟨w.heap.size, 0, none⟩) 0 0) (w.alloc (.cells #[] 71)) := by kernel_rfl
section
variable {o : Oper} {n : Nat} {l : List (Nat × Value)} {w : World} {ops : Array Oper} {rest : List Oper} {Q : Exit → Act → World → Prop}
theorem wl_bz49 (ho : o.op = .buildSlice 49 0 #[]) (hg : wnt n l ops o = true)
    (hk : ∀ k w', w.heap.size = k → Mo w w' → w'.ownsRow k 71 2 (.slice (some ⟨k, 0, none⟩) 0 0) 0 [] → WL Try.prog ops Q rest n (ext l o.dst (.slice (some ⟨k, 0, none⟩) 0 0)) w') : WL Try.prog ops Q (o :: rest) n l w :=
  ⟨l_step hg (o_val (.slice (some ⟨w.heap.size, 0, none⟩) 0 0) (w' := w.alloc (.cells #[] 71)) (by simp [execOp, ho, bz49]) (hk _ _ rfl ((Mo.refl _).alloc _ _) ⟨rfl, Or.inr ⟨w.heap.size, 0, #[], rfl, Nat.le_refl _, heap_alloc_new w _, Nat.le_refl _, Nat.zero_le _, rfl, rfl⟩⟩).out)⟩
end
theorem es49 (a : Addr) (n c : Nat) (x y : Operand) (w : World) : (do eqGuard .eql 49 x y (.slice (some a) n c) (.slice none 0 0); binOp .eql 49 (.slice (some a) n c) (.slice none 0 0)).run Try.prog w = .ok (.bool false) w := by kernel_rfl
theorem en49 (n c : Nat) (x y : Operand) (w : World) : (do eqGuard .eql 49 x y (.slice none n c) (.slice none 0 0); binOp .eql 49 (.slice none n c) (.slice none 0 0)).run Try.prog w = .ok (.bool true) w := by kernel_rfl
theorem az49 (g : Nat) (a : Addr) (c : Nat) (ty : TypeId) (w : World) : (Builtin.append_ #[49, 49] ty #[.slice (some ⟨g, 0, none⟩) 0 0, .slice (some a) 0 c]).run Try.prog w = .ok (.slice (some ⟨g, 0, none⟩) 0 0) w := by kernel_rfl
theorem one71 (y : Tb) : ∀ u ∈ y.cells, u.oneCell' = true := fun u hu => by
  have h : y.cells.all (·.oneCell') = true := rfl
  exact List.all_eq_true.1 h u hu
theorem cell71 {w : World} {b off : Nat} {L : List Tb} (h : SL w 2 Tb.cells (some ⟨b, off, none⟩) L) : ∀ j u, (L.flatMap Tb.cells)[j]? = some u → w.cell? ((⟨b, off, none⟩ : Addr).add j) = some u := fun j u hu => by
  have hl := flat_len (cells := Tb.cells) (n := 2) Tb.len L
  have hj : j < L.length * 2 := by rw [← hl]; exact lt_of_get hu
  have hq : j / 2 < L.length := by omega
  obtain ⟨y, hy⟩ := get_of_lt hq
  obtain ⟨b', off', e, _, hr⟩ := h.2 (j / 2) y hy
  cases e
  have hm : j % 2 < y.cells.length := by rw [Tb.len]; omega
  obtain ⟨v, hv⟩ := get_of_lt hm
  have h3 := flat_get (n := 2) Tb.len L (j / 2) y (j % 2) v hy hv
  rw [show j / 2 * 2 + j % 2 = j by omega, hu] at h3
  cases h3
  have := hr (j % 2) u hv
  rw [Addr.add_mid, ← show off + j / 2 * 2 + j % 2 = off + j by omega]
  exact this
theorem clo23_0 (c : Nat) (w : World) : Calls Try.prog 23 #[.slice none 0 c] w fun e w' => ∃ pa cap, e = .returned (.slice pa ([] : List Tb).length cap) ∧ w'.ownsRow w.heap.size 71 2 (.slice pa ([] : List Tb).length cap) ([] : List Tb).length (([] : List Tb).flatMap Tb.cells) ∧ Mo w w' := by
  refine w_enter 8 Try.func23 Try.ntmps23 rfl rfl ?_
  have M : Mo w w := Mo.refl _
  refine w_seq ?_
  refine w_reg ?_
  refine wl_mv (.const (.slice none 0 0)) (.slice none 0 0) (fun _ => rfl) rfl rfl ?_
  refine w_nil ?_
  refine xn_then ?_
  refine w_seq ?_
  refine w_seq ?_
  refine w_reg ?_
  refine wl_mv (.tmp 0) (.slice none 0 c) (fun _ => rfl) rfl rfl ?_
  refine wl_bin (fun x y => do eqGuard .eql 49 (.tmp 3) (.const (.slice none 0 0)) x y; binOp .eql 49 x y) (.tmp 3) (.const (.slice none 0 0)) (.slice none 0 c) (.slice none 0 0) (.bool true) (fun _ => rfl) rfl rfl (en49 _ _ _ _ _) rfl ?_
  refine w_nil ?_
  refine xn_then ?_
  refine w_condT rfl ?_
  refine w_seq ?_
  refine w_reg ?_
  refine wl_mv (.const (.slice none 0 0)) (.slice none 0 0) (fun _ => rfl) rfl rfl ?_
  refine w_nil ?_
  refine xn_then ?_
  refine w_ret ?_
  refine xr_then ?_
  exact w_ret1 _ (.slice none 0 0) rfl rfl ⟨none, 0, rfl, ⟨rfl, Or.inl ⟨rfl, rfl⟩⟩, M⟩
theorem clo23_1 (b off c : Nat) (L : List Tb) {w : World} (hS : SL w 2 Tb.cells (some ⟨b, off, none⟩) L) (hz : L.length ≤ 4000000) : Calls Try.prog 23 #[.slice (some ⟨b, off, none⟩) L.length c] w fun e w' => ∃ pa cap, e = .returned (.slice pa L.length cap) ∧ w'.ownsRow w.heap.size 71 2 (.slice pa L.length cap) L.length (L.flatMap Tb.cells) ∧ Mo w w' := by
  refine w_enter 8 Try.func23 Try.ntmps23 rfl rfl ?_
  have M : Mo w w := Mo.refl _
  refine w_seq ?_
  refine w_reg ?_
  refine wl_mv (.const (.slice none 0 0)) (.slice none 0 0) (fun _ => rfl) rfl rfl ?_
  refine w_nil ?_
  refine xn_then ?_
  refine w_seq ?_
  refine w_seq ?_
  refine w_reg ?_
  refine wl_mv (.tmp 0) (.slice (some ⟨b, off, none⟩) L.length c) (fun _ => rfl) rfl rfl ?_
  refine wl_bin (fun x y => do eqGuard .eql 49 (.tmp 3) (.const (.slice none 0 0)) x y; binOp .eql 49 x y) (.tmp 3) (.const (.slice none 0 0)) (.slice (some ⟨b, off, none⟩) L.length c) (.slice none 0 0) (.bool false) (fun _ => rfl) rfl rfl (es49 _ _ _ _ _ _) rfl ?_
  refine w_nil ?_
  refine xn_then ?_
  refine w_condF rfl ?_
  refine w_skip ?_
  refine xn_then ?_
  refine w_seq ?_
  refine w_reg ?_
  refine wl_bz49 rfl rfl ?_
  intro g u1 hk hq hown
  have hMg : w.heap.size ≤ g := by have := M.size; omega
  replace M := M.trans hq
  refine wl_mv (.tmp 0) (.slice (some ⟨b, off, none⟩) L.length c) (fun _ => rfl) rfl rfl ?_
  refine wl_appa Try.underlying49 inf71 rfl (by decide) (.tmp 5) (.tmp 6) w.heap.size g 0 0 [] ⟨b, off, none⟩ L.length c (L.flatMap Tb.cells) rfl rfl rfl (own_base hown hMg) (flat_len Tb.len L) (cell71 (hS.kp M.kp)) (fun u hu => by obtain ⟨y, _, hy⟩ := List.mem_flatMap.1 hu; exact one71 y u hy) (by unfold maxLen; omega) (by omega) M.size rfl ?_
  intro v9 u2 hOw hm9
  replace M := hm9.mo M (fun k e => by rw [e]; exact hMg)
  rw [Nat.zero_add, List.nil_append] at hOw
  obtain ⟨pa2, cap2, rfl, _⟩ := own_form hOw
  refine wl_mv (.tmp 7) (.slice pa2 L.length cap2) (fun _ => rfl) rfl rfl ?_
  refine w_nil ?_
  refine xn_then ?_
  refine w_ret ?_
  exact w_ret1 _ (.slice pa2 L.length cap2) rfl rfl ⟨pa2, cap2, rfl, hOw, M⟩
theorem clo23_2 (a : Addr) (c : Nat) (w : World) : Calls Try.prog 23 #[.slice (some a) 0 c] w fun e w' => ∃ pa cap, e = .returned (.slice pa ([] : List Tb).length cap) ∧ w'.ownsRow w.heap.size 71 2 (.slice pa ([] : List Tb).length cap) ([] : List Tb).length (([] : List Tb).flatMap Tb.cells) ∧ Mo w w' := by
  refine w_enter 8 Try.func23 Try.ntmps23 rfl rfl ?_
  have M : Mo w w := Mo.refl _
  refine w_seq ?_
  refine w_reg ?_
  refine wl_mv (.const (.slice none 0 0)) (.slice none 0 0) (fun _ => rfl) rfl rfl ?_
  refine w_nil ?_
  refine xn_then ?_
  refine w_seq ?_
  refine w_seq ?_
  refine w_reg ?_
  refine wl_mv (.tmp 0) (.slice (some a) 0 c) (fun _ => rfl) rfl rfl ?_
  refine wl_bin (fun x y => do eqGuard .eql 49 (.tmp 3) (.const (.slice none 0 0)) x y; binOp .eql 49 x y) (.tmp 3) (.const (.slice none 0 0)) (.slice (some a) 0 c) (.slice none 0 0) (.bool false) (fun _ => rfl) rfl rfl (es49 _ _ _ _ _ _) rfl ?_
  refine w_nil ?_
  refine xn_then ?_
  refine w_condF rfl ?_
  refine w_skip ?_
  refine xn_then ?_
  refine w_seq ?_
  refine w_reg ?_
  refine wl_bz49 rfl rfl ?_
  intro g u1 hk hq hown
  have hMg : w.heap.size ≤ g := by have := M.size; omega
  replace M := M.trans hq
  refine wl_mv (.tmp 0) (.slice (some a) 0 c) (fun _ => rfl) rfl rfl ?_
  refine wl_apx (.tmp 5) (.tmp 6) (.slice (some ⟨g, 0, none⟩) 0 0) (.slice (some a) 0 c) (.slice (some ⟨g, 0, none⟩) 0 0) rfl rfl rfl (az49 g a c _ _) rfl ?_
  refine wl_mv (.tmp 7) (.slice (some ⟨g, 0, none⟩) 0 0) (fun _ => rfl) rfl rfl ?_
  refine w_nil ?_
  refine xn_then ?_
  refine w_ret ?_
  exact w_ret1 _ (.slice (some ⟨g, 0, none⟩) 0 0) rfl rfl ⟨some ⟨g, 0, none⟩, 0, rfl, own_base hown hMg, M⟩
theorem clo23_n (pa : Option Addr) (c : Nat) (L : List Tb) {w : World} (hS : SL w 2 Tb.cells pa L) (hz : L.length ≤ 4000000) : Calls Try.prog 23 #[.slice pa L.length c] w fun e w' => ∃ pa cap, e = .returned (.slice pa L.length cap) ∧ w'.ownsRow w.heap.size 71 2 (.slice pa L.length cap) L.length (L.flatMap Tb.cells) ∧ Mo w w' := by
  cases L with
  | nil =>
    cases pa with
    | none => exact clo23_0 c w
    | some a => exact clo23_2 a c w
  | cons y L =>
    obtain ⟨b, off, rfl, _⟩ := hS.2 0 y rfl
    exact clo23_1 b off c (y :: L) hS hz
theorem inf48 : ∃ i, Try.prog.info? 48 = some i ∧ i.zero = some (.agg #[.string ⟨#[]⟩, .int .i64 0, .slice none 0 0, .slice none 0 0]) ∧ i.size = 4 ∧ i.bytes = 72 := by
  have h : (Try.prog.info? 48).map (fun i => (i.zero, i.size, i.bytes)) = some (some (.agg #[.string ⟨#[]⟩, .int .i64 0, .slice none 0 0, .slice none 0 0]), 4, 72) := by kernel_rfl
  cases hi : Try.prog.info? 48 with
  | none => rw [hi] at h; cases h
  | some i =>
    rw [hi] at h
    simp at h
    exact ⟨i, rfl, h.1, h.2.1, h.2.2⟩
theorem bz46 (w : World) : (Instr.buildSlice 46 0 #[]).run Try.prog w = .ok (.slice (some ⟨w.heap.size, 0, none⟩) 0 0) (w.alloc (.cells #[] 48)) := by kernel_rfl
section
variable {o : Oper} {n : Nat} {l : List (Nat × Value)} {w : World} {ops : Array Oper} {rest : List Oper} {Q : Exit → Act → World → Prop}
theorem wl_bz46 (ho : o.op = .buildSlice 46 0 #[]) (hg : wnt n l ops o = true)
    (hk : ∀ k w', w.heap.size = k → Mo w w' → w'.ownsRow k 48 4 (.slice (some ⟨k, 0, none⟩) 0 0) 0 [] → WL Try.prog ops Q rest n (ext l o.dst (.slice (some ⟨k, 0, none⟩) 0 0)) w') : WL Try.prog ops Q (o :: rest) n l w :=
  ⟨l_step hg (o_val (.slice (some ⟨w.heap.size, 0, none⟩) 0 0) (w' := w.alloc (.cells #[] 48)) (by simp [execOp, ho, bz46]) (hk _ _ rfl ((Mo.refl _).alloc _ _) ⟨rfl, Or.inr ⟨w.heap.size, 0, #[], rfl, Nat.le_refl _, heap_alloc_new w _, Nat.le_refl _, Nat.zero_le _, rfl, rfl⟩⟩).out)⟩
end
theorem es46 (a : Addr) (n c : Nat) (x y : Operand) (w : World) : (do eqGuard .eql 46 x y (.slice (some a) n c) (.slice none 0 0); binOp .eql 46 (.slice (some a) n c) (.slice none 0 0)).run Try.prog w = .ok (.bool false) w := by kernel_rfl
theorem en46 (n c : Nat) (x y : Operand) (w : World) : (do eqGuard .eql 46 x y (.slice none n c) (.slice none 0 0); binOp .eql 46 (.slice none n c) (.slice none 0 0)).run Try.prog w = .ok (.bool true) w := by kernel_rfl
theorem az46 (g : Nat) (a : Addr) (c : Nat) (ty : TypeId) (w : World) : (Builtin.append_ #[46, 46] ty #[.slice (some ⟨g, 0, none⟩) 0 0, .slice (some a) 0 c]).run Try.prog w = .ok (.slice (some ⟨g, 0, none⟩) 0 0) w := by kernel_rfl
theorem one48 (y : Se) : ∀ u ∈ y.cells, u.oneCell' = true := fun u hu => by
  have h : y.cells.all (·.oneCell') = true := rfl
  exact List.all_eq_true.1 h u hu
theorem cell48 {w : World} {b off : Nat} {L : List Se} (h : SL w 4 Se.cells (some ⟨b, off, none⟩) L) : ∀ j u, (L.flatMap Se.cells)[j]? = some u → w.cell? ((⟨b, off, none⟩ : Addr).add j) = some u := fun j u hu => by
  have hl := flat_len (cells := Se.cells) (n := 4) Se.len L
  have hj : j < L.length * 4 := by rw [← hl]; exact lt_of_get hu
  have hq : j / 4 < L.length := by omega
  obtain ⟨y, hy⟩ := get_of_lt hq
  obtain ⟨b', off', e, _, hr⟩ := h.2 (j / 4) y hy
  cases e
  have hm : j % 4 < y.cells.length := by rw [Se.len]; omega
  obtain ⟨v, hv⟩ := get_of_lt hm
  have h3 := flat_get (n := 4) Se.len L (j / 4) y (j % 4) v hy hv
  rw [show j / 4 * 4 + j % 4 = j by omega, hu] at h3
  cases h3
  have := hr (j % 4) u hv
  rw [Addr.add_mid, ← show off + j / 4 * 4 + j % 4 = off + j by omega]
  exact this
theorem clo24_0 (c : Nat) (w : World) : Calls Try.prog 24 #[.slice none 0 c] w fun e w' => ∃ pa cap, e = .returned (.slice pa ([] : List Se).length cap) ∧ w'.ownsRow w.heap.size 48 4 (.slice pa ([] : List Se).length cap) ([] : List Se).length (([] : List Se).flatMap Se.cells) ∧ Mo w w' := by
  refine w_enter 8 Try.func24 Try.ntmps24 rfl rfl ?_
  have M : Mo w w := Mo.refl _
  refine w_seq ?_
  refine w_reg ?_
  refine wl_mv (.const (.slice none 0 0)) (.slice none 0 0) (fun _ => rfl) rfl rfl ?_
  refine w_nil ?_
  refine xn_then ?_
  refine w_seq ?_
  refine w_seq ?_
  refine w_reg ?_
  refine wl_mv (.tmp 0) (.slice none 0 c) (fun _ => rfl) rfl rfl ?_
  refine wl_bin (fun x y => do eqGuard .eql 46 (.tmp 3) (.const (.slice none 0 0)) x y; binOp .eql 46 x y) (.tmp 3) (.const (.slice none 0 0)) (.slice none 0 c) (.slice none 0 0) (.bool true) (fun _ => rfl) rfl rfl (en46 _ _ _ _ _) rfl ?_
  refine w_nil ?_
  refine xn_then ?_
  refine w_condT rfl ?_
  refine w_seq ?_
  refine w_reg ?_
  refine wl_mv (.const (.slice none 0 0)) (.slice none 0 0) (fun _ => rfl) rfl rfl ?_
  refine w_nil ?_
  refine xn_then ?_
  refine w_ret ?_
  refine xr_then ?_
  exact w_ret1 _ (.slice none 0 0) rfl rfl ⟨none, 0, rfl, ⟨rfl, Or.inl ⟨rfl, rfl⟩⟩, M⟩
theorem clo24_1 (b off c : Nat) (L : List Se) {w : World} (hS : SL w 4 Se.cells (some ⟨b, off, none⟩) L) (hz : L.length ≤ 4000000) : Calls Try.prog 24 #[.slice (some ⟨b, off, none⟩) L.length c] w fun e w' => ∃ pa cap, e = .returned (.slice pa L.length cap) ∧ w'.ownsRow w.heap.size 48 4 (.slice pa L.length cap) L.length (L.flatMap Se.cells) ∧ Mo w w' := by
  refine w_enter 8 Try.func24 Try.ntmps24 rfl rfl ?_
  have M : Mo w w := Mo.refl _
  refine w_seq ?_
  refine w_reg ?_
  refine wl_mv (.const (.slice none 0 0)) (.slice none 0 0) (fun _ => rfl) rfl rfl ?_
  refine w_nil ?_
  refine xn_then ?_
  refine w_seq ?_
  refine w_seq ?_
  refine w_reg ?_
  refine wl_mv (.tmp 0) (.slice (some ⟨b, off, none⟩) L.length c) (fun _ => rfl) rfl rfl ?_
  refine wl_bin (fun x y => do eqGuard .eql 46 (.tmp 3) (.const (.slice none 0 0)) x y; binOp .eql 46 x y) (.tmp 3) (.const (.slice none 0 0)) (.slice (some ⟨b, off, none⟩) L.length c) (.slice none 0 0) (.bool false) (fun _ => rfl) rfl rfl (es46 _ _ _ _ _ _) rfl ?_
  refine w_nil ?_
  refine xn_then ?_
  refine w_condF rfl ?_
  refine w_skip ?_
  refine xn_then ?_
  refine w_seq ?_
  refine w_reg ?_
  refine wl_bz46 rfl rfl ?_
  intro g u1 hk hq hown
  have hMg : w.heap.size ≤ g := by have := M.size; omega
  replace M := M.trans hq
  refine wl_mv (.tmp 0) (.slice (some ⟨b, off, none⟩) L.length c) (fun _ => rfl) rfl rfl ?_
  refine wl_appa Try.underlying46 inf48 rfl (by decide) (.tmp 5) (.tmp 6) w.heap.size g 0 0 [] ⟨b, off, none⟩ L.length c (L.flatMap Se.cells) rfl rfl rfl (own_base hown hMg) (flat_len Se.len L) (cell48 (hS.kp M.kp)) (fun u hu => by obtain ⟨y, _, hy⟩ := List.mem_flatMap.1 hu; exact one48 y u hy) (by unfold maxLen; omega) (by omega) M.size rfl ?_
  intro v9 u2 hOw hm9
  replace M := hm9.mo M (fun k e => by rw [e]; exact hMg)
  rw [Nat.zero_add, List.nil_append] at hOw
  obtain ⟨pa2, cap2, rfl, _⟩ := own_form hOw
  refine wl_mv (.tmp 7) (.slice pa2 L.length cap2) (fun _ => rfl) rfl rfl ?_
  refine w_nil ?_
  refine xn_then ?_
  refine w_ret ?_
  exact w_ret1 _ (.slice pa2 L.length cap2) rfl rfl ⟨pa2, cap2, rfl, hOw, M⟩
theorem clo24_2 (a : Addr) (c : Nat) (w : World) : Calls Try.prog 24 #[.slice (some a) 0 c] w fun e w' => ∃ pa cap, e = .returned (.slice pa ([] : List Se).length cap) ∧ w'.ownsRow w.heap.size 48 4 (.slice pa ([] : List Se).length cap) ([] : List Se).length (([] : List Se).flatMap Se.cells) ∧ Mo w w' := by
  refine w_enter 8 Try.func24 Try.ntmps24 rfl rfl ?_
  have M : Mo w w := Mo.refl _
  refine w_seq ?_
  refine w_reg ?_
  refine wl_mv (.const (.slice none 0 0)) (.slice none 0 0) (fun _ => rfl) rfl rfl ?_
  refine w_nil ?_
  refine xn_then ?_
  refine w_seq ?_
  refine w_seq ?_
  refine w_reg ?_
  refine wl_mv (.tmp 0) (.slice (some a) 0 c) (fun _ => rfl) rfl rfl ?_
  refine wl_bin (fun x y => do eqGuard .eql 46 (.tmp 3) (.const (.slice none 0 0)) x y; binOp .eql 46 x y) (.tmp 3) (.const (.slice none 0 0)) (.slice (some a) 0 c) (.slice none 0 0) (.bool false) (fun _ => rfl) rfl rfl (es46 _ _ _ _ _ _) rfl ?_
  refine w_nil ?_
  refine xn_then ?_
  refine w_condF rfl ?_
  refine w_skip ?_
  refine xn_then ?_
  refine w_seq ?_
  refine w_reg ?_
  refine wl_bz46 rfl rfl ?_
  intro g u1 hk hq hown
  have hMg : w.heap.size ≤ g := by have := M.size; omega
  replace M := M.trans hq
  refine wl_mv (.tmp 0) (.slice (some a) 0 c) (fun _ => rfl) rfl rfl ?_
  refine wl_apx (.tmp 5) (.tmp 6) (.slice (some ⟨g, 0, none⟩) 0 0) (.slice (some a) 0 c) (.slice (some ⟨g, 0, none⟩) 0 0) rfl rfl rfl (az46 g a c _ _) rfl ?_
  refine wl_mv (.tmp 7) (.slice (some ⟨g, 0, none⟩) 0 0) (fun _ => rfl) rfl rfl ?_
  refine w_nil ?_
  refine xn_then ?_
  refine w_ret ?_
  exact w_ret1 _ (.slice (some ⟨g, 0, none⟩) 0 0) rfl rfl ⟨some ⟨g, 0, none⟩, 0, rfl, own_base hown hMg, M⟩
theorem clo24_n (pa : Option Addr) (c : Nat) (L : List Se) {w : World} (hS : SL w 4 Se.cells pa L) (hz : L.length ≤ 4000000) : Calls Try.prog 24 #[.slice pa L.length c] w fun e w' => ∃ pa cap, e = .returned (.slice pa L.length cap) ∧ w'.ownsRow w.heap.size 48 4 (.slice pa L.length cap) L.length (L.flatMap Se.cells) ∧ Mo w w' := by
  cases L with
  | nil =>
    cases pa with
    | none => exact clo24_0 c w
    | some a => exact clo24_2 a c w
  | cons y L =>
    obtain ⟨b, off, rfl, _⟩ := hS.2 0 y rfl
    exact clo24_1 b off c (y :: L) hS hz
end Go.Proofs.Ytepfokoepibkcaa
