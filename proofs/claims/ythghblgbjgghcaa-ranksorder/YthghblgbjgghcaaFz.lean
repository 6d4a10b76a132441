/-
  Sections of a definition, told in one list: how many items they have. The document's list of sections.
-/
import Derived.Test.YthghblgbjgghcaaRwb
namespace Go.Proofs.Ythghblgbjgghcaa
open Go.RowKit D
def tI : Se → Nat
  | .mk _ _ _ _ items _ _ kids => items.length + (kids.map (fun k => tI k)).sum
theorem tI_eq : ∀ s : Se, tI s = s.items.length + (s.kids.map tI).sum
  | .mk _ _ _ _ items _ _ kids => by
    rw [tI]
theorem Se.ind2 {M : Se → Prop} (h : ∀ s : Se, (∀ o ∈ s.kids, M o) → M s) : ∀ s, M s := Se.ind (fun nm mx pi ci items pk ck kids ih => h (.mk nm mx pi ci items pk ck kids) ih)
/-- Nothing in a section is too long, and its slices hold what they say. -/
def SB : Se → Prop
  | .mk _ _ _ ci items _ _ kids => items.length ≤ ci ∧ (∀ y ∈ items, nd y.ex ≤ 3000000) ∧ ∀ k ∈ kids, SB k
theorem SB.inv : ∀ {x : Se}, SB x → x.items.length ≤ x.ci ∧ (∀ y ∈ x.items, nd y.ex ≤ 3000000) ∧ ∀ k ∈ x.kids, SB k
  | .mk _ _ _ _ _ _ _ _, h => by rw [SB] at h; exact h
theorem SB.mk : ∀ {x : Se}, x.items.length ≤ x.ci → (∀ y ∈ x.items, nd y.ex ≤ 3000000) → (∀ k ∈ x.kids, SB k) → SB x
  | .mk _ _ _ _ _ _ _ _, h1, h2, h3 => by rw [SB]; exact ⟨h1, h2, h3⟩
theorem SB.ic {x : Se} (h : SB x) : x.items.length ≤ x.ci := h.inv.1
theorem SB.ex {x : Se} (h : SB x) : ∀ y ∈ x.items, nd y.ex ≤ 3000000 := h.inv.2.1
theorem SB.kid {x : Se} (h : SB x) : ∀ k ∈ x.kids, SB k := h.inv.2.2
/-- Sections that may be asked about. -/
structure Gq (w : World) (l : List S5) : Prop where
  lx : ∀ x ∈ l, LS5 w x
  nd : ∀ y ∈ l, ∀ z ∈ y.items, nd z.ex ≤ 3000000
  ci : ∀ x ∈ l, x.items.length ≤ x.ci
theorem nI_items (l : List S5) : nI l = (l.map (fun x => x.items.length)).sum := by unfold nI fsn; rw [List.take_length]
theorem nI_app (l : List S5) (x : S5) : nI (l ++ [x]) = nI l + x.items.length := by rw [nI_items, nI_items]; simp
def s5of (s : Se) (p : Int) (dp : Nat) : S5 := ⟨p, ((dp : Nat) : Int), s.nm, s.mx, s.pi, s.ci, s.items⟩
theorem Gq.app {w : World} {l : List S5} (h : Gq w l) {s : Se} (hL : LSe w s) (hS : SB s) (p : Int) (dp : Nat) : Gq w (l ++ [s5of s p dp]) := by
  refine ⟨fun x hx => ?_, fun x hx => ?_, fun x hx => ?_⟩ <;> rcases List.mem_append.1 hx with q | q
  · exact h.lx x q
  · rcases List.mem_singleton.1 q with rfl; exact ⟨hL.it, hL.ex⟩
  · exact h.nd x q
  · rcases List.mem_singleton.1 q with rfl; exact hS.ex
  · exact h.ci x q
  · rcases List.mem_singleton.1 q with rfl; exact hS.ic
theorem sz42 : (Try.prog.info? 42).map (·.size) = some 4 := by kernel_rfl
theorem inf55 : ∃ i, Try.prog.info? 55 = some i ∧ i.zero = some (.agg #[.int .i64 0, .int .i64 0, .string ⟨#[]⟩, .int .i64 0, .slice none 0 0]) ∧ i.size = 5 ∧ i.bytes = 64 := by
  have h : (Try.prog.info? 55).map (fun i => (i.zero, i.size, i.bytes)) = some (some (.agg #[.int .i64 0, .int .i64 0, .string ⟨#[]⟩, .int .i64 0, .slice none 0 0]), 5, 64) := by kernel_rfl
  cases hi : Try.prog.info? 55 with
  | none => rw [hi] at h; cases h
  | some i => rw [hi] at h; simp at h; exact ⟨i, rfl, h.1, h.2.1, h.2.2⟩
section
variable {o : Oper} {n : Nat} {l : List (Nat × Value)} {w : World} {ops : Array Oper} {rest : List Oper} {Q : Exit → Act → World → Prop}
theorem wl_apS (s x : Operand) {N : Nat} {pv : Option Addr} {cv : Nat} {L : List S5} {y : S5} (kb : Nat) (ho : o.op = .call { callee := .builtin .append, args := #[s, x], argTypes := #[22, 22] }) (hs : evl n l s = .slice pv L.length cv) (hx : evl n l x = .slice (some ⟨kb, 0, none⟩) 1 1)
    (h : Ow N 55 5 S5.cells w pv cv L) (hA : At w kb y.cells) (hz : L.length < 4000000) (hN : N ≤ w.heap.size) (hg : wnt n l ops o = true)
    (hk : ∀ pv2 cv2 w', Ow N 55 5 S5.cells w' pv2 cv2 (L ++ [y]) → Mk (fun j => obk pv L.length cv = some j) w w' → (obk pv2 (L ++ [y]).length cv2 = obk pv L.length cv ∨ obk pv2 (L ++ [y]).length cv2 = some w.heap.size) → WL Try.prog ops Q rest n (ext l o.dst (.slice pv2 (L ++ [y]).length cv2)) w') : WL Try.prog ops Q (o :: rest) n l w := by
  refine wl_app Try.underlying22 inf55 rfl (by decide) s x N (.slice pv L.length cv) L.length (L.flatMap S5.cells) kb 1 1 y.cells ho hs hx h rfl hA (fun u hu => ?_) (by decide) (by unfold maxLen; omega) (by omega) hN hg ?_
  · simp only [S5.cells, List.mem_cons, List.not_mem_nil, or_false] at hu
    rcases hu with rfl | rfl | rfl | rfl | rfl <;> rfl
  · intro v2 w' hw m hv
    have e : (L ++ [y]).length = L.length + 1 := by simp
    have e2 : (L ++ [y]).flatMap S5.cells = L.flatMap S5.cells ++ y.cells := by simp
    obtain ⟨pv2, cv2, rfl, _⟩ := own_form hw
    rw [← e] at hv hw ⊢
    rw [← e2] at hw
    exact hk pv2 cv2 w' hw m hv
end
theorem sum_tks {f : Se → Nat} {l : List Se} {i : Nat} {x : Se} (h : l[i]? = some x) : ((l.take (i + 1)).map f).sum = ((l.take i).map f).sum + f x := by rw [List.take_add_one, h]; simp
end Go.Proofs.Ythghblgbjgghcaa
namespace Go.Proofs.Ythghblgbjgghcaa
open Go.RowKit D
theorem kp_own {w0 w w' : World} {N cv : Nat} {pv : Option Addr} {acc : List S5} (hK : Kp w0 w) (hW : Ow N 55 5 S5.cells w pv cv acc) (hN : w0.heap.size ≤ N) (m : Mk (fun j => obk pv acc.length cv = some j) w w') : Kp w0 w' :=
  ⟨Nat.le_trans hK.size m.size, fun k o v e => by
    have hlt := cell_lt e
    have e1 := hK.cell k o v e
    have h := m.block k (cell_lt e1) (fun q => by have := (own_lt hW q).2; omega)
    exact (World.cell?_of_block (a := ⟨k, o, none⟩) h).trans e1⟩
theorem flat_n {w0 : World} {N : Nat} : ∀ (s : Se), LSe w0 s → SB s → ∀ {w : World} {acc : List S5} {pv : Option Addr} {cv dp : Nat} {p : Int}, Kp w0 w → w0.heap.size ≤ N → N ≤ w.heap.size → Ow N 55 5 S5.cells w pv cv acc → acc.length ≤ 64 → Gq w0 acc → Calls Try.prog 50 #[.slice pv acc.length cv, .agg #[.string s.nm, .int .i64 s.mx, .slice s.pi s.items.length s.ci, .slice s.pk s.kids.length s.ck], .int .i64 p, .int .i64 ((dp : Nat) : Int)] w fun e w' => ∃ (acc' : List S5) (pv' : Option Addr) (cv' : Nat), e = .returned (.slice pv' acc'.length cv') ∧ Ow N 55 5 S5.cells w' pv' cv' acc' ∧ acc'.length ≤ 64 ∧ Gq w0 acc' ∧ nI acc' ≤ nI acc + tI s ∧ Mk (fun j => obk pv acc.length cv = some j) w w' ∧ (∀ k, obk pv' acc'.length cv' = some k → obk pv acc.length cv = some k ∨ w.heap.size ≤ k) := by
  refine Se.ind2 ?_
  intro s ih hL hS w acc pv cv dp p hK hN0 hN hW hlen hG
  have hW0 := hW
  have hz9 := hL.kd.1
  unfold maxLen at hz9
  refine w_enter 51 Try.func50 Try.ntmps50 rfl rfl ?_
  have M : Mo w w := Mo.refl _
  refine w_seq ?_
  refine w_reg ?_
  refine wl_boxO 42 (.tmp 1) (.agg #[.string s.nm, .int .i64 s.mx, .slice s.pi s.items.length s.ci, .slice s.pk s.kids.length s.ck]) [.string s.nm, .int .i64 s.mx, .slice s.pi s.items.length s.ci, .slice s.pk s.kids.length s.ck] rfl rfl (fun _ => by kernel_rfl) rfl ?_
  intro k1 u1 hk hz9 hq O1
  have Q1 := O1.at
  have N_k1 : w.heap.size ≤ k1 := by have := M.size; omega
  replace hW := own_mo hW hq
  replace M := M.trans hq
  clear hk hz9 hq
  refine wl_mv (.const (.slice none 0 0)) (.slice none 0 0) (fun _ => rfl) rfl rfl ?_
  refine w_nil ?_
  refine xn_then ?_
  refine w_seq ?_
  refine w_seq ?_
  refine w_reg ?_
  refine wl_mv (.tmp 0) (.slice pv acc.length cv) (fun _ => rfl) rfl rfl ?_
  refine wl_val (.int .i64 ((acc.length : Nat) : Int)) (len22 _ _ _ _ _ (by exact rfl) _ _ _ _ _ _) rfl ?_
  cases hf0 : decide (64 ≤ ((acc.length : Nat) : Int)) with
  | true =>
    have hf0p := of_decide_eq_true hf0
    refine wl_bin (fun x y => do eqGuard .geq 3 (.tmp 12) (.const (.int .i64 (64))) x y; binOp .geq 3 x y) (.tmp 12) (.const (.int .i64 (64))) (.int .i64 ((acc.length : Nat) : Int)) (.int .i64 (64)) (.bool true) (fun _ => rfl) rfl rfl (ge3 hf0 _ _ _) rfl ?_
    refine wl_mv (.tmp 13) (.bool true) (fun _ => rfl) rfl rfl ?_
    refine wl_skip rfl ?_
    refine wl_skip rfl ?_
    refine wl_pick (.tmp 14) (.const (.bool true)) (.tmp 16) true (.bool true) (fun _ => rfl) rfl rfl rfl ?_
    refine w_nil ?_
    refine xn_then ?_
    refine w_condT rfl ?_
    refine w_seq ?_
    refine w_reg ?_
    refine wl_mv (.tmp 0) (.slice pv acc.length cv) (fun _ => rfl) rfl rfl ?_
    refine wl_mv (.tmp 18) (.slice pv acc.length cv) (fun _ => rfl) rfl rfl ?_
    refine w_nil ?_
    refine xn_then ?_
    refine w_ret ?_
    refine xr_then ?_
    exact w_ret1 _ (.slice pv acc.length cv) rfl rfl ⟨acc, pv, cv, rfl, hW, hlen, hG, Nat.le_add_right _ _, Mk.of _ M, fun k e => Or.inl e⟩
  | false =>
    have hf0p := of_decide_eq_false hf0
    refine wl_bin (fun x y => do eqGuard .geq 3 (.tmp 12) (.const (.int .i64 (64))) x y; binOp .geq 3 x y) (.tmp 12) (.const (.int .i64 (64))) (.int .i64 ((acc.length : Nat) : Int)) (.int .i64 (64)) (.bool false) (fun _ => rfl) rfl rfl (ge3 hf0 _ _ _) rfl ?_
    refine wl_mv (.tmp 13) (.bool false) (fun _ => rfl) rfl rfl ?_
    refine wl_mv (.tmp 3) (.int .i64 ((dp : Nat) : Int)) (fun _ => rfl) rfl rfl ?_
    cases hf1 : decide (16 < dp) with
    | true =>
      have hf1p := of_decide_eq_true hf1
      refine wl_bin (fun x y => do eqGuard .gtr 3 (.tmp 15) (.const (.int .i64 (16))) x y; binOp .gtr 3 x y) (.tmp 15) (.const (.int .i64 (16))) (.int .i64 ((dp : Nat) : Int)) (.int .i64 (16)) (.bool true) (fun _ => rfl) rfl rfl (gtN hf1 _ _ _) rfl ?_
      refine wl_pick (.tmp 14) (.const (.bool true)) (.tmp 16) false (.bool true) (fun _ => rfl) rfl rfl rfl ?_
      refine w_nil ?_
      refine xn_then ?_
      refine w_condT rfl ?_
      refine w_seq ?_
      refine w_reg ?_
      refine wl_mv (.tmp 0) (.slice pv acc.length cv) (fun _ => rfl) rfl rfl ?_
      refine wl_mv (.tmp 18) (.slice pv acc.length cv) (fun _ => rfl) rfl rfl ?_
      refine w_nil ?_
      refine xn_then ?_
      refine w_ret ?_
      refine xr_then ?_
      exact w_ret1 _ (.slice pv acc.length cv) rfl rfl ⟨acc, pv, cv, rfl, hW, hlen, hG, Nat.le_add_right _ _, Mk.of _ M, fun k e => Or.inl e⟩
    | false =>
      have hf1p := of_decide_eq_false hf1
      refine wl_bin (fun x y => do eqGuard .gtr 3 (.tmp 15) (.const (.int .i64 (16))) x y; binOp .gtr 3 x y) (.tmp 15) (.const (.int .i64 (16))) (.int .i64 ((dp : Nat) : Int)) (.int .i64 (16)) (.bool false) (fun _ => rfl) rfl rfl (gtN hf1 _ _ _) rfl ?_
      refine wl_pick (.tmp 14) (.const (.bool true)) (.tmp 16) false (.bool false) (fun _ => rfl) rfl rfl rfl ?_
      refine w_nil ?_
      refine xn_then ?_
      refine w_condF rfl ?_
      refine w_skip ?_
      refine xn_then ?_
      refine w_seq ?_
      refine w_reg ?_
      refine wl_mv (.tmp 0) (.slice pv acc.length cv) (fun _ => rfl) rfl rfl ?_
      refine wl_val (.int .i64 ((acc.length : Nat) : Int)) (len22 _ _ _ _ _ (by exact rfl) _ _ _ _ _ _) rfl ?_
      refine wl_mv (.tmp 20) (.int .i64 ((acc.length : Nat) : Int)) (fun _ => rfl) rfl rfl ?_
      refine w_nil ?_
      refine xn_then ?_
      refine w_seq ?_
      refine w_reg ?_
      refine wl_mv (.tmp 0) (.slice pv acc.length cv) (fun _ => rfl) rfl rfl ?_
      refine wl_mv (.tmp 2) (.int .i64 (p)) (fun _ => rfl) rfl rfl ?_
      refine wl_mv (.tmp 3) (.int .i64 ((dp : Nat) : Int)) (fun _ => rfl) rfl rfl ?_
      refine wl_un (fun v => Instr.fieldAt 42 v 0) (.tmp 5) (pt k1 0) (pt k1 0) (fun _ => rfl) rfl (by kernel_rfl) rfl ?_
      refine wl_load 9 (.tmp 24) (pt k1 0) (.string s.nm) rfl rfl (run_one Q1 9 0 rfl Try.underlying9 rfl) rfl ?_
      refine wl_un (fun v => Instr.fieldAt 42 v 1) (.tmp 5) (pt k1 0) (pt k1 1) (fun _ => rfl) rfl (by kernel_rfl) rfl ?_
      refine wl_load 3 (.tmp 26) (pt k1 1) (.int .i64 (s.mx)) rfl rfl (run_one Q1 3 1 rfl Try.underlying3 rfl) rfl ?_
      refine wl_un (fun v => Instr.fieldAt 42 v 2) (.tmp 5) (pt k1 0) (pt k1 2) (fun _ => rfl) rfl (by kernel_rfl) rfl ?_
      refine wl_load 39 (.tmp 28) (pt k1 2) (.slice s.pi s.items.length s.ci) rfl rfl (run_one Q1 39 2 rfl Try.underlying39 rfl) rfl ?_
      refine wl_build 55 [(0, (.tmp 22)), (1, (.tmp 23)), (2, (.tmp 25)), (3, (.tmp 27)), (4, (.tmp 29))] [(0, .int .i64 (p)), (1, .int .i64 ((dp : Nat) : Int)), (2, .string s.nm), (3, .int .i64 (s.mx)), (4, .slice s.pi s.items.length s.ci)] (.agg #[.int .i64 (p), .int .i64 ((dp : Nat) : Int), .string s.nm, .int .i64 (s.mx), .slice s.pi s.items.length s.ci]) rfl rfl (by kernel_rfl) rfl ?_
      refine wl_bs 22 1 [(0, (.tmp 30))] [(0, .agg #[.int .i64 (p), .int .i64 ((dp : Nat) : Int), .string s.nm, .int .i64 (s.mx), .slice s.pi s.items.length s.ci])] #[.int .i64 (p), .int .i64 ((dp : Nat) : Int), .string s.nm, .int .i64 (s.mx), .slice s.pi s.items.length s.ci] 55 rfl rfl (fun _ => by kernel_rfl) rfl ?_
      intro k2 u2 hk hz hq Q2
      have ne_k1_k2 : k1 ≠ k2 := by have := Q1.lt; omega
      have N_k2 : w.heap.size ≤ k2 := by have := M.size; omega
      replace Q1 := Q1.mo hq
      replace O1 := O1.mo hq
      replace hW := own_mo hW hq
      replace M := M.trans hq
      clear hk hz hq
      refine wl_apS (.tmp 21) (.tmp 31) (y := s5of s p dp) k2 rfl rfl rfl hW Q2 (by omega) (Nat.le_trans hN M.size) rfl ?_
      intro pv2 cv2 u3 hW2 hK9 hv9
      have hO := O1.mk hK9 (fun e => by have := (own_ty hW e).two O1.ty; cases this)
      have hM := (Mk.of (fun j => obk pv acc.length cv = some j) M).same hK9
      have hA : ∀ k, obk pv2 (acc ++ [s5of s p dp]).length cv2 = some k → obk pv acc.length cv = some k ∨ w.heap.size ≤ k := fun k e => by rcases hv9 with q | q; (exact Or.inl (q.symm.trans e)); (rw [q] at e; cases e; exact Or.inr M.size)
      clear hv9 hK9 O1 Q1
      clear M
      have M : Mo u3 u3 := Mo.refl _
      refine wl_mv (.tmp 32) (.slice pv2 (acc ++ [s5of s p dp]).length cv2) (fun _ => rfl) rfl rfl ?_
      refine w_nil ?_
      refine xn_then ?_
      refine w_seq ?_
      refine w_seq ?_
      refine w_reg ?_
      refine wl_mv (.const (.int .i64 (0))) (.int .i64 (0)) (fun _ => rfl) rfl rfl ?_
      refine w_nil ?_
      refine xn_then ?_
      refine w_block ?_
      refine w_loop (fun m lf w1 => ∃ i : Nat, ∃ acc3 : List S5, ∃ pv3 : Option Addr, ∃ cv3 : Nat, m = s.kids.length - i ∧ look lf 0 = .slice pv3 acc3.length cv3 ∧ look lf 3 = .int .i64 ((dp : Nat) : Int) ∧ look lf 5 = pt k1 0 ∧ look lf 9 = .int .i64 ((acc.length : Nat) : Int) ∧ look lf 10 = .int .i64 ((i : Nat) : Int) ∧ (i ≤ s.kids.length) ∧ (Ob w1 k1 42 [.string s.nm, .int .i64 s.mx, .slice s.pi s.items.length s.ci, .slice s.pk s.kids.length s.ck]) ∧ (Ow N 55 5 S5.cells w1 pv3 cv3 acc3) ∧ (acc3.length ≤ 64) ∧ (Gq w0 acc3) ∧ (nI acc3 ≤ nI acc + s.items.length + ((s.kids.take i).map tI).sum) ∧ (Mk (fun j => obk pv acc.length cv = some j) w w1) ∧ (∀ k, obk pv3 acc3.length cv3 = some k → obk pv acc.length cv = some k ∨ w.heap.size ≤ k)) _ ⟨0, acc ++ [s5of s p dp], pv2, cv2, rfl, rfl, rfl, rfl, rfl, rfl, Nat.zero_le _, hO, hW2, (by simp; omega), hG.app hL hS p dp, (by rw [nI_app]; simp [s5of]), hM.trans M, hA⟩ ?_
      clear hO hW2 hM hA M
      rintro m lf40 wl40 ⟨i, acc3, pv3, cv3, rfl, e40_0, e40_3, e40_5, e40_9, e40_10, hi, hO, hW2, hl3, hG3, hn3, hM, hA⟩
      have M : Mo wl40 wl40 := Mo.refl _
      have QO := hO.at
      have hKw : Kp w0 wl40 := kp_own hK hW0 hN0 hM
      cases hd : decide (i < s.kids.length) with
      | true =>
        have hil := of_decide_eq_true hd
        obtain ⟨x, hx⟩ := get_of_lt hil
        have hxm := List.mem_of_getElem? hx
        have hsk := (hL.kd).kp hKw
        obtain ⟨bp, op, hpp, hRp⟩ := D.SL.rw hsk hx
        refine w_seq ?_
        refine w_seq ?_
        refine w_reg ?_
        refine wl_mv (.tmp 10) (.int .i64 ((i : Nat) : Int)) (fun _ => rfl) e40_10 rfl ?_
        refine wl_un (fun v => Instr.fieldAt 42 v 3) (.tmp 5) (pt k1 0) (pt k1 3) (fun _ => rfl) e40_5 (by kernel_rfl) rfl ?_
        refine wl_load 40 (.tmp 34) (pt k1 3) (.slice s.pk s.kids.length s.ck) rfl rfl (run_one QO 40 3 rfl Try.underlying40 rfl) rfl ?_
        refine wl_val (.int .i64 ((s.kids.length : Nat) : Int)) (len40 _ _ _ _ _ (by exact rfl) _ _ _ _ _ _) rfl ?_
        refine wl_bin (fun x y => do eqGuard .lss 3 (.tmp 33) (.tmp 36) x y; binOp .lss 3 x y) (.tmp 33) (.tmp 36) (.int .i64 ((i : Nat) : Int)) (.int .i64 ((s.kids.length : Nat) : Int)) (.bool true) (fun _ => rfl) rfl rfl (ltN hd _ _ _) rfl ?_
        refine w_nil ?_
        refine xn_then ?_
        refine w_condT rfl ?_
        refine w_skip ?_
        refine xn_then ?_
        refine w_seq ?_
        refine w_block ?_
        refine w_reg ?_
        refine wl_mv (.tmp 0) (.slice pv3 acc3.length cv3) (fun _ => rfl) e40_0 rfl ?_
        refine wl_un (fun v => Instr.fieldAt 42 v 3) (.tmp 5) (pt k1 0) (pt k1 3) (fun _ => rfl) e40_5 (by kernel_rfl) rfl ?_
        refine wl_load 40 (.tmp 41) (pt k1 3) (.slice s.pk s.kids.length s.ck) rfl rfl (run_one QO 40 3 rfl Try.underlying40 rfl) rfl ?_
        refine wl_mv (.tmp 10) (.int .i64 ((i : Nat) : Int)) (fun _ => rfl) e40_10 rfl ?_
        refine wl_bin (fun x y => Instr.indexAt 40 x y) (.tmp 42) (.tmp 43) (.slice s.pk s.kids.length s.ck) (.int .i64 ((i : Nat) : Int)) (pt bp (op + i * 4)) (fun _ => rfl) rfl rfl (ix40 (i := i) hpp hil _) rfl ?_
        refine wl_load 42 (.tmp 44) (pt bp (op + i * 4)) (.agg (x.cells).toArray) rfl rfl (D.run_partR (hRp.mo M).at' 42 0 4 (x.cells) rfl Try.underlying42 rfl sz42) rfl ?_
        refine wl_mv (.tmp 9) (.int .i64 ((acc.length : Nat) : Int)) (fun _ => rfl) e40_9 rfl ?_
        refine wl_mv (.tmp 3) (.int .i64 ((dp : Nat) : Int)) (fun _ => rfl) e40_3 rfl ?_
        refine wl_bin (fun x y => do eqGuard .add 3 (.tmp 47) (.const (.int .i64 (1))) x y; binOp .add 3 x y) (.tmp 47) (.const (.int .i64 (1))) (.int .i64 ((dp : Nat) : Int)) (.int .i64 (1)) (.int .i64 ((dp + 1 : Nat) : Int)) (fun _ => rfl) rfl rfl (add1r (k := dp) (by omega) _ _ _) rfl ?_
        have hMs := (hM.trans M).size
        refine wl_callx 50 [(.tmp 40), (.tmp 45), (.tmp 46), (.tmp 48)] _ [.slice pv3 acc3.length cv3, .agg (x.cells).toArray, .int .i64 ((acc.length : Nat) : Int), .int .i64 ((dp + 1 : Nat) : Int)] rfl rfl (fun _ _ => by kernel_rfl) ((ih x hxm (hL.kr x hxm) (hS.kid x hxm) (hKw.trans M.kp) hN0 (Nat.le_trans hN (hM.trans M).size) hW2 hl3 hG3)) rfl ?_
        rintro e9 u41 ⟨acc4, pv4, cv4, rfl, hW4, hl4, hG4, hn4, hm9, ha9⟩
        refine ⟨_, rfl, ?_⟩
        replace hO := (hO.mo M).mk hm9 (fun e => by have := (own_ty hW2 e).two (hO.mo M).ty; cases this)
        have hM4 : Mk (fun j => obk pv acc.length cv = some j) w u41 := (hM.trans M).tr hm9 (fun j hj e => by rcases hA j e with q | q; exact q; omega)
        have hA4 : ∀ k, obk pv4 acc4.length cv4 = some k → obk pv acc.length cv = some k ∨ w.heap.size ≤ k := fun k e => by rcases ha9 k e with q | q; exact hA k q; exact Or.inr (by omega)
        clear hM hW2 QO
        have hM := hM4
        clear hM4 M
        have M : Mo u41 u41 := Mo.refl _
        refine wl_mv (.tmp 49) (.slice pv4 acc4.length cv4) (fun _ => rfl) rfl rfl ?_
        refine w_nil ?_
        refine xn_blk ?_
        refine xn_then ?_
        refine w_reg ?_
        refine wl_mv (.tmp 10) (.int .i64 ((i : Nat) : Int)) (fun _ => rfl) e40_10 rfl ?_
        refine wl_bin (fun x y => do eqGuard .add 3 (.tmp 38) (.const (.int .i64 (1))) x y; binOp .add 3 x y) (.tmp 38) (.const (.int .i64 (1))) (.int .i64 ((i : Nat) : Int)) (.int .i64 (1)) (.int .i64 ((i + 1 : Nat) : Int)) (fun _ => rfl) rfl rfl (add1r (k := i) (by omega) _ _ _) rfl ?_
        refine wl_mv (.tmp 39) (.int .i64 ((i + 1 : Nat) : Int)) (fun _ => rfl) rfl rfl ?_
        refine w_nil ?_
        exact xn_loop (s.kids.length - (i + 1)) (by omega) ⟨i + 1, acc4, pv4, cv4, rfl, rfl, e40_3, e40_5, e40_9, rfl, by omega, hO, hW4, hl4, hG4, (by rw [sum_tks hx]; omega), hM, hA4⟩
      | false =>
        have hie : i = s.kids.length := by have := of_decide_eq_false hd; omega
        rw [hie, List.take_length] at hn3
        refine w_seq ?_
        refine w_seq ?_
        refine w_reg ?_
        refine wl_mv (.tmp 10) (.int .i64 ((i : Nat) : Int)) (fun _ => rfl) e40_10 rfl ?_
        refine wl_un (fun v => Instr.fieldAt 42 v 3) (.tmp 5) (pt k1 0) (pt k1 3) (fun _ => rfl) e40_5 (by kernel_rfl) rfl ?_
        refine wl_load 40 (.tmp 34) (pt k1 3) (.slice s.pk s.kids.length s.ck) rfl rfl (run_one QO 40 3 rfl Try.underlying40 rfl) rfl ?_
        refine wl_val (.int .i64 ((s.kids.length : Nat) : Int)) (len40 _ _ _ _ _ (by exact rfl) _ _ _ _ _ _) rfl ?_
        refine wl_bin (fun x y => do eqGuard .lss 3 (.tmp 33) (.tmp 36) x y; binOp .lss 3 x y) (.tmp 33) (.tmp 36) (.int .i64 ((i : Nat) : Int)) (.int .i64 ((s.kids.length : Nat) : Int)) (.bool false) (fun _ => rfl) rfl rfl (ltN hd _ _ _) rfl ?_
        refine w_nil ?_
        refine xn_then ?_
        refine w_condF rfl ?_
        refine w_exit ?_
        refine xx_then ?_
        refine xx_then ?_
        refine xx_blk ?_
        refine xn_then ?_
        refine w_seq ?_
        refine w_reg ?_
        refine wl_mv (.tmp 0) (.slice pv3 acc3.length cv3) (fun _ => rfl) e40_0 rfl ?_
        refine wl_mv (.tmp 50) (.slice pv3 acc3.length cv3) (fun _ => rfl) rfl rfl ?_
        refine w_nil ?_
        refine xn_then ?_
        refine w_ret ?_
        exact w_ret1 _ (.slice pv3 acc3.length cv3) rfl rfl ⟨acc3, pv3, cv3, rfl, hW2, hl3, hG3, (by rw [tI_eq]; omega), hM.trans M, hA⟩
end Go.Proofs.Ythghblgbjgghcaa
