/-
  Check's parts: tables, sections, formulas.
-/
import Derived.Test.YtbanldffohopiaaS5
namespace Go.Proofs.Ytbanldffohopiaa
open Go.RowKit D
theorem mk_setCells (k : Nat) : ∀ (l : List Value) (o : Nat) (w : World), Mk (fun j => j = k) w (w.setCells k o l)
  | [], _, w => Mk.refl _ w
  | v :: r, o, w => by
    rw [World.setCells]
    refine Mk.same ?_ (mk_setCells k r (o + 1) _)
    refine ⟨rfl, rfl, rfl, by simp [World.setCell], fun j _ hj => ?_, fun a => World.frozen?_setCell _ _ _ _⟩
    simp [World.setCell, Array.getElem?_modify, Ne.symm hj]
section
variable {P : Program} {o : Oper} {n : Nat} {l : List (Nat × Value)} {w : World} {ops : Array Oper} {rest : List Oper} {Q : Exit → Act → World → Prop}
theorem wl_stm (ty : TypeId) (x y : Operand) (k off : Nat) (us : Array Value) (vs vs' : List Value) (hA : At w k vs) (ho : o.op = .store ty x y) (hd : o.dst = none) (hx : evl n l x = pt k off) (hy : evl n l y = .agg us)
    (hl : Nat.ble (off + us.size) vs.length = true) (hi : (P.info? ty).map (·.size) = some us.size) (h1 : us.toList.all (·.oneCell') = true) (hvs : vs' = vs.take off ++ us.toList ++ vs.drop (off + us.toList.length)) (hg : wnt n l ops o = true)
    (hk : ∀ w', St k w w' → Mk (fun j => j = k) w w' → At w' k vs' → WL P ops Q rest n l w') : WL P ops Q (o :: rest) n l w :=
  ⟨l_step hg (o_store ty x y _ _ ho hd hx hy (run_put hA ty off us (Nat.le_of_ble_eq_true hl) hi (by rw [← Array.all_toList]; exact h1)) (hk _ (St.mk' w k off us.toList) (mk_setCells k us.toList off w) (hA.set off us.toList (by have := Nat.le_of_ble_eq_true hl; simpa using this) vs' hvs)).out)⟩
theorem wl_stm1 (ty : TypeId) (x y : Operand) (k off : Nat) (v : Value) (vs vs' : List Value) (hA : At w k vs) (ho : o.op = .store ty x y) (hd : o.dst = none) (hx : evl n l x = pt k off) (hy : evl n l y = v)
    (hl : Nat.blt off vs.length = true) (hi : (P.info? ty).map (·.size) = some 1) (hv : v.cells = #[v]) (h1 : v.oneCell' = true) (hvs : vs' = vs.take off ++ [v] ++ vs.drop (off + 1)) (hg : wnt n l ops o = true)
    (hk : ∀ w', St k w w' → Mk (fun j => j = k) w w' → At w' k vs' → WL P ops Q rest n l w') : WL P ops Q (o :: rest) n l w :=
  have hl' : off < vs.length := by rw [Nat.blt_eq] at hl; exact hl
  ⟨l_step hg (o_store ty x y _ _ ho hd hx hy (run_put1 hA ty off v hl' hi hv h1) (hk _ (St.mk' w k off [v]) (mk_setCells k [v] off w) (hA.set off [v] (by simp; omega) vs' hvs)).out)⟩
end
theorem CK.fin {w w1 w2 : World} {z : Zc} {A0 A : Al} {b : Nat} (hC : CK w z A0) (h : CK w1 z A) (m : Mk z.D w w2) (m2 : Mk (fun j => j = b) w1 w2) (hb : ¬ z.D b) : CK w2 z A := by
  have k := m.kp (fun j hj => hC.nocell hj (Mo.refl _))
  exact ⟨hC.at'.kp k m.fz, hC.df.kp k, hC.ls.kp k, fun x hx => (hC.l5 x hx).kp k, hC.mi.kp k, hC.ki.kp k, h.lm, h.lk, h.om.mk m2 (fun q => hb (by rw [← q]; exact Zc.dt)), fun i c e => (h.oi i c e).mk m2 (fun q => hb (by rw [← q]; exact Zc.di e)), fun i c e => (h.ok i c e).mk m2 (fun q => hb (by rw [← q]; exact Zc.dk e)), h.nd, h.wf, h.kr⟩
theorem tables_n {w : World} {z : Zc} {I K : Nat → List (ByteArray × Int)} (hC : CK w z ⟨[], I, K⟩) (hl : z.d.tb.length ≤ 8) : Calls Try.prog 31 #[pt z.cb 0] w fun e w' => e = .returned (rv (tbR z.d.tb)) ∧ Mk z.D w w' ∧ (tbR z.d.tb = none → CK w' z ⟨tbA z.d.tb z.d.tb.length, I, K⟩) := by
  refine w_enter 29 Try.func31 Try.ntmps31 rfl rfl ?_
  have M : Mo w w := Mo.refl _
  refine w_seq ?_
  refine w_reg ?_
  refine wl_alloc 33 #[.int .i64 0, .int .i64 0, .int .i64 0, .int .i64 0, .int .i64 0] rfl (fun _ => by kernel_rfl) rfl ?_
  intro k1 w1 hk hz hq Q1
  have N_k1 : w.heap.size ≤ k1 := by have := M.size; omega
  replace M := M.trans hq
  clear hk hz hq
  refine wl_mv (.const (.int .i64 (0))) (.int .i64 (0)) (fun _ => rfl) rfl rfl ?_
  refine w_nil ?_
  refine xn_then ?_
  refine w_seq ?_
  refine w_seq ?_
  refine w_reg ?_
  refine wl_mv (.tmp 0) (pt z.cb 0) (fun _ => rfl) rfl rfl ?_
  refine wl_nc (.tmp 7) z.cb 0 rfl rfl rfl ?_
  refine wl_un (fun v => Instr.fieldAt 94 v 0) (.tmp 8) (pt z.cb 0) (pt z.cb 0) (fun _ => rfl) rfl (by kernel_rfl) rfl ?_
  refine wl_un (fun v => Instr.fieldAt 29 v 2) (.tmp 9) (pt z.cb 0) (pt z.cb 5) (fun _ => rfl) rfl (by kernel_rfl) rfl ?_
  refine wl_load 26 (.tmp 10) (pt z.cb 5) (.slice z.d.pt z.d.tb.length z.d.ct) rfl rfl (D.run_oneR (hC.rw.mo M).at' 26 5 rfl Try.underlying26 rfl) rfl ?_
  refine wl_val (.int .i64 ((z.d.tb.length : Nat) : Int)) (len26 _ _ _ _ _ (by exact rfl) _ _ _ _ _ _) rfl ?_
  refine wl_mv (.const (.int .i64 (0))) (.int .i64 (0)) (fun _ => rfl) rfl rfl ?_
  refine w_nil ?_
  refine xn_then ?_
  refine w_block ?_
  have hz := hC.df.tb.1
  refine w_loop (fun m l w1 => ∃ i : Nat, m = z.d.tb.length - i ∧ i ≤ z.d.tb.length ∧ look l 0 = pt z.cb 0 ∧ look l 2 = pt k1 0 ∧ look l 11 = .slice z.d.pt z.d.tb.length z.d.ct ∧ look l 12 = .int .i64 ((z.d.tb.length : Nat) : Int) ∧ look l 13 = .int .i64 ((i : Nat) : Int) ∧ At w1 k1 [.int .i64 0, .int .i64 0, .int .i64 0, .int .i64 0, .int .i64 0] ∧ (CK w1 z ⟨tbA z.d.tb i, I, K⟩) ∧ (∀ j, j < i → tbG z.d.tb j = none) ∧ Mk z.D w w1) _ ⟨0, rfl, Nat.zero_le _, rfl, rfl, rfl, rfl, rfl, Q1, hC.mo M, (fun j hj => by omega), Mk.of _ M⟩ ?_
  clear Q1 M
  rintro m l40 wl40 ⟨i, rfl, hi, e40_0, e40_2, e40_11, e40_12, e40_i, Q1, hC1, hG, MK⟩
  by_cases hil : i < z.d.tb.length
  · skip
    have hid : decide (i < z.d.tb.length) = true := decide_eq_true hil
    have M : Mo wl40 wl40 := Mo.refl _
    obtain ⟨x, hx⟩ := get_of_lt hil
    obtain ⟨b1, o1, hp1, hR1⟩ := D.SL.rw hC1.df.tb hx
    refine w_seq ?_
    refine w_reg ?_
    refine wl_bin (fun x y => do eqGuard .lss 3 (.tmp 13) (.tmp 12) x y; binOp .lss 3 x y) (.tmp 13) (.tmp 12) (.int .i64 ((i : Nat) : Int)) (.int .i64 ((z.d.tb.length : Nat) : Int)) (.bool true) (fun _ => rfl) e40_i e40_12 (ltN hid _ _ _) rfl ?_
    refine w_nil ?_
    refine xn_then ?_
    refine w_seq ?_
    refine w_condT rfl ?_
    refine w_skip ?_
    refine xn_then ?_
    refine w_seq ?_
    refine w_block ?_
    refine w_seq ?_
    refine w_reg ?_
    refine wl_mv (.tmp 13) (.int .i64 ((i : Nat) : Int)) (fun _ => rfl) e40_i rfl ?_
    refine wl_bin (fun x y => Instr.indexAt 26 x y) (.tmp 11) (.tmp 13) (.slice z.d.pt z.d.tb.length z.d.ct) (.int .i64 ((i : Nat) : Int)) (pt b1 (o1 + i * 2)) (fun _ => rfl) e40_11 e40_i (ix26 (i := i) hp1 hil _) rfl ?_
    refine wl_load 85 (.tmp 16) (pt b1 (o1 + i * 2)) (.agg (x.cells).toArray) rfl rfl (D.run_partR (hR1.mo M).at' 85 0 2 (x.cells) rfl Try.underlying85 rfl sz85) rfl ?_
    refine wl_alloc 85 #[.string ⟨#[]⟩, .slice none 0 0] rfl (fun _ => by kernel_rfl) rfl ?_
    intro k2 w41 hk hz hq Q2
    have ne_k1_k2 : k1 ≠ k2 := by have := Q1.lt; omega
    have N_k2 : wl40.heap.size ≤ k2 := by have := M.size; omega
    replace Q1 := Q1.mo hq
    replace M := M.trans hq
    clear hk hz hq
    refine wl_mv (.tmp 15) (.int .i64 ((i : Nat) : Int)) (fun _ => rfl) rfl rfl ?_
    refine wl_st 85 (.tmp 5) (.tmp 17) k2 0 ((x.cells).toArray) [.string ⟨#[]⟩, .slice none 0 0] (x.cells) Q2 rfl rfl rfl rfl rfl sz85 rfl rfl rfl ?_
    intro w42 hS Qn
    replace Q2 := Qn
    clear Qn
    replace Q1 := hS.other _ _ ne_k1_k2 Q1
    replace M := hS.mo _ N_k2 M
    clear hS
    refine w_nil ?_
    refine xn_then ?_
    refine w_seq ?_
    refine w_reg ?_
    refine wl_mv (.tmp 0) (pt z.cb 0) (fun _ => rfl) e40_0 rfl ?_
    refine wl_mv (.tmp 4) (.int .i64 ((i : Nat) : Int)) (fun _ => rfl) rfl rfl ?_
    refine wl_load 85 (.tmp 5) (pt k2 0) (.agg (x.cells).toArray) rfl rfl (run_row Q2 85 0 2 (x.cells) rfl Try.underlying85 rfl sz85) rfl ?_
    refine wl_callx 50 [(.tmp 18), (.tmp 19), (.tmp 20)] _ [pt z.cb 0, .int .i64 ((i : Nat) : Int), .agg (x.cells).toArray] rfl rfl (fun _ _ => by kernel_rfl) (table_n (hC1.mo M) i x (by have := tbA_len z.d.tb i; show (tbA z.d.tb i).length < _; omega)) rfl ?_
    rintro e9 w43 ⟨rfl, hK9, hC9⟩
    refine ⟨_, rfl, ?_⟩
    replace MK := (MK.trans M).same hK9
    replace Q1 := Q1.kp (hK9.kp (fun j hj => hC1.nocell hj M)) hK9.fz
    replace Q2 := Q2.kp (hK9.kp (fun j hj => hC1.nocell hj M)) hK9.fz
    clear M
    have M : Mo w43 w43 := Mo.refl _
    refine wl_mv (.tmp 21) (.int .i64 (tbE (tbA z.d.tb i) x)) (fun _ => rfl) rfl rfl ?_
    refine w_nil ?_
    refine xn_then ?_
    refine w_seq ?_
    refine w_reg ?_
    refine wl_mv (.tmp 6) (.int .i64 (tbE (tbA z.d.tb i) x)) (fun _ => rfl) rfl rfl ?_
    cases hf30 : decide (tbE (tbA z.d.tb i) x = 0) with
    | true =>
      have hf30p := of_decide_eq_true hf30
      refine wl_bin (fun x y => do eqGuard .neq 34 (.tmp 22) (.const (.int .i64 (0))) x y; binOp .neq 34 x y) (.tmp 22) (.const (.int .i64 (0))) (.int .i64 (tbE (tbA z.d.tb i) x)) (.int .i64 (0)) (.bool false) (fun _ => rfl) rfl rfl (ne34 hf30 _ _ _) rfl ?_
      refine w_nil ?_
      refine xn_then ?_
      refine w_condF rfl ?_
      refine w_skip ?_
      refine xn_blk ?_
      refine xn_then ?_
      refine w_reg ?_
      refine wl_bin (fun x y => do eqGuard .add 3 (.tmp 13) (.const (.int .i64 (1))) x y; binOp .add 3 x y) (.tmp 13) (.const (.int .i64 (1))) (.int .i64 ((i : Nat) : Int)) (.int .i64 (1)) (.int .i64 ((i + 1 : Nat) : Int)) (fun _ => rfl) e40_i rfl (add1r (k := i) (by omega) _ _ _) rfl ?_
      refine wl_mv (.tmp 27) (.int .i64 ((i + 1 : Nat) : Int)) (fun _ => rfl) rfl rfl ?_
      refine w_nil ?_
      exact xn_loop (z.d.tb.length - (i + 1)) (by omega) ⟨i + 1, rfl, by omega, e40_0, e40_2, e40_11, e40_12, rfl, Q1, by rw [tbA_s hx]; exact (hC9 hf30p).mo M, fs_step hG ((tbG_of hx).trans (er_0 hf30p)), MK.trans M⟩
    | false =>
      have hf30p := of_decide_eq_false hf30
      refine wl_bin (fun x y => do eqGuard .neq 34 (.tmp 22) (.const (.int .i64 (0))) x y; binOp .neq 34 x y) (.tmp 22) (.const (.int .i64 (0))) (.int .i64 (tbE (tbA z.d.tb i) x)) (.int .i64 (0)) (.bool true) (fun _ => rfl) rfl rfl (ne34 hf30 _ _ _) rfl ?_
      refine w_nil ?_
      refine xn_then ?_
      refine w_condT rfl ?_
      refine w_seq ?_
      refine w_reg ?_
      refine wl_mv (.tmp 4) (.int .i64 ((i : Nat) : Int)) (fun _ => rfl) rfl rfl ?_
      refine wl_build 33 [(0, (.const (.int .i64 (1)))), (3, (.tmp 24))] [(0, .int .i64 (1)), (3, .int .i64 ((i : Nat) : Int))] (.agg #[.int .i64 (1), .int .i64 0, .int .i64 0, .int .i64 ((i : Nat) : Int), .int .i64 0]) rfl rfl (by kernel_rfl) rfl ?_
      refine wl_mv (.tmp 6) (.int .i64 (tbE (tbA z.d.tb i) x)) (fun _ => rfl) rfl rfl ?_
      refine wl_stm 33 (.tmp 2) (.tmp 25) k1 0 #[.int .i64 (1), .int .i64 0, .int .i64 0, .int .i64 ((i : Nat) : Int), .int .i64 0] [.int .i64 0, .int .i64 0, .int .i64 0, .int .i64 0, .int .i64 0] [.int .i64 (1), .int .i64 0, .int .i64 0, .int .i64 ((i : Nat) : Int), .int .i64 0] Q1 rfl rfl e40_2 rfl rfl sz33 rfl rfl rfl ?_
      intro w44 hS hm9 Qn
      replace Q1 := Qn
      clear Qn
      replace Q2 := hS.other _ _ ne_k1_k2.symm Q2
      have hmT := (Mk.of (fun j => j = k1) M).same hm9
      replace MK := (MK.trans M).tr hm9 (fun j hj e => by omega)
      clear M hS hm9
      have M : Mo w44 w44 := Mo.refl _
      refine wl_mv (.tmp 26) (.int .i64 (tbE (tbA z.d.tb i) x)) (fun _ => rfl) rfl rfl ?_
      refine w_nil ?_
      refine xn_then ?_
      refine w_ret ?_
      refine xr_blk ?_
      refine xr_then ?_
      refine xr_then ?_
      refine xr_blk ?_
      refine xr_then ?_
      exact w_ret2 _ _ (.agg #[.int .i64 (1), .int .i64 0, .int .i64 0, .int .i64 ((i : Nat) : Int), .int .i64 0]) (.int .i64 (tbE (tbA z.d.tb i) x)) rfl ⟨k1, e40_2, (run_row Q1 33 0 5 [.int .i64 (1), .int .i64 0, .int .i64 0, .int .i64 ((i : Nat) : Int), .int .i64 0] rfl Try.underlying33 rfl sz33)⟩ rfl ⟨by unfold tbR; rw [fs_hit hG ((tbG_of hx).trans (er_1 hf30p)) hil]; rfl, MK.trans M, fun h => by unfold tbR at h; rw [fs_hit hG ((tbG_of hx).trans (er_1 hf30p)) hil] at h; cases h⟩
  · skip
    have hid : decide (i < z.d.tb.length) = false := decide_eq_false hil
    have hie : i = z.d.tb.length := by omega
    have M : Mo wl40 wl40 := Mo.refl _
    refine w_seq ?_
    refine w_reg ?_
    refine wl_bin (fun x y => do eqGuard .lss 3 (.tmp 13) (.tmp 12) x y; binOp .lss 3 x y) (.tmp 13) (.tmp 12) (.int .i64 ((i : Nat) : Int)) (.int .i64 ((z.d.tb.length : Nat) : Int)) (.bool false) (fun _ => rfl) e40_i e40_12 (ltN hid _ _ _) rfl ?_
    refine w_nil ?_
    refine xn_then ?_
    refine w_seq ?_
    refine w_condF rfl ?_
    refine w_exit ?_
    refine xx_then ?_
    refine xx_then ?_
    refine xx_blk ?_
    refine xn_then ?_
    refine w_seq ?_
    refine w_reg ?_
    refine wl_build 33 [] [] (.agg #[.int .i64 0, .int .i64 0, .int .i64 0, .int .i64 0, .int .i64 0]) rfl rfl (by kernel_rfl) rfl ?_
    refine wl_stm 33 (.tmp 2) (.tmp 28) k1 0 #[.int .i64 0, .int .i64 0, .int .i64 0, .int .i64 0, .int .i64 0] [.int .i64 0, .int .i64 0, .int .i64 0, .int .i64 0, .int .i64 0] [.int .i64 0, .int .i64 0, .int .i64 0, .int .i64 0, .int .i64 0] Q1 rfl rfl e40_2 rfl rfl sz33 rfl rfl rfl ?_
    intro w41 hS hm9 Qn
    replace Q1 := Qn
    clear Qn
    have hmT := (Mk.of (fun j => j = k1) M).same hm9
    replace MK := (MK.trans M).tr hm9 (fun j hj e => by omega)
    clear M hS hm9
    have M : Mo w41 w41 := Mo.refl _
    refine wl_mv (.const (.int .i64 (0))) (.int .i64 (0)) (fun _ => rfl) rfl rfl ?_
    refine w_nil ?_
    refine xn_then ?_
    refine w_ret ?_
    exact w_ret2 _ _ (.agg #[.int .i64 0, .int .i64 0, .int .i64 0, .int .i64 0, .int .i64 0]) (.int .i64 (0)) rfl ⟨k1, e40_2, (run_row Q1 33 0 5 [.int .i64 0, .int .i64 0, .int .i64 0, .int .i64 0, .int .i64 0] rfl Try.underlying33 rfl sz33)⟩ rfl ⟨by unfold tbR; rw [fs_none (by rw [← hie]; exact hG)]; rfl, MK.trans M, fun _ => by rw [hie] at hC1; exact hC.fin hC1 MK hmT (fun h => by have := hC.dlt h; omega)⟩
theorem sections_n {w : World} {z : Zc} {T : List (ByteArray × Int)} (hC : CK w z ⟨T, stI z.L 0 0, stK z.L 0⟩) (hl : z.L.length ≤ 64) : Calls Try.prog 32 #[pt z.cb 0] w fun e w' => e = .returned (rv (seR T z.L)) ∧ Mk z.D w w' ∧ (seR T z.L = none → CK w' z ⟨T, stI z.L z.L.length 0, stK z.L z.L.length⟩) := by
  refine w_enter 50 Try.func32 Try.ntmps32 rfl rfl ?_
  have M : Mo w w := Mo.refl _
  refine w_seq ?_
  refine w_reg ?_
  refine wl_alloc 33 #[.int .i64 0, .int .i64 0, .int .i64 0, .int .i64 0, .int .i64 0] rfl (fun _ => by kernel_rfl) rfl ?_
  intro k1 w1 hk hz hq Q1
  have N_k1 : w.heap.size ≤ k1 := by have := M.size; omega
  replace M := M.trans hq
  clear hk hz hq
  refine wl_mv (.const (.int .i64 (0))) (.int .i64 (0)) (fun _ => rfl) rfl rfl ?_
  refine w_nil ?_
  refine xn_then ?_
  refine w_seq ?_
  refine w_seq ?_
  refine w_reg ?_
  refine wl_mv (.tmp 0) (pt z.cb 0) (fun _ => rfl) rfl rfl ?_
  refine wl_nc (.tmp 10) z.cb 0 rfl rfl rfl ?_
  refine wl_un (fun v => Instr.fieldAt 94 v 1) (.tmp 11) (pt z.cb 0) (pt z.cb 7) (fun _ => rfl) rfl (by kernel_rfl) rfl ?_
  refine wl_load 37 (.tmp 12) (pt z.cb 7) (.slice z.sp z.L.length z.sc) rfl rfl (D.run_oneR (hC.rw.mo M).at' 37 7 rfl Try.underlying37 rfl) rfl ?_
  refine wl_val (.int .i64 ((z.L.length : Nat) : Int)) (len37 _ _ _ _ _ (by exact rfl) _ _ _ _ _ _) rfl ?_
  refine wl_mv (.const (.int .i64 (0))) (.int .i64 (0)) (fun _ => rfl) rfl rfl ?_
  refine w_nil ?_
  refine xn_then ?_
  refine w_block ?_
  have hz := hC.ls.1
  refine w_loop (fun m l w1 => ∃ i : Nat, m = z.L.length - i ∧ i ≤ z.L.length ∧ look l 0 = pt z.cb 0 ∧ look l 2 = pt k1 0 ∧ look l 13 = .slice z.sp z.L.length z.sc ∧ look l 14 = .int .i64 ((z.L.length : Nat) : Int) ∧ look l 15 = .int .i64 ((i : Nat) : Int) ∧ At w1 k1 [.int .i64 0, .int .i64 0, .int .i64 0, .int .i64 0, .int .i64 0] ∧ (CK w1 z ⟨T, stI z.L i 0, stK z.L i⟩) ∧ (∀ j, j < i → seG T z.L j = none) ∧ Mk z.D w w1) _ ⟨0, rfl, Nat.zero_le _, rfl, rfl, rfl, rfl, rfl, Q1, hC.mo M, (fun j hj => by omega), Mk.of _ M⟩ ?_
  clear Q1 M
  rintro m l40 wl40 ⟨i, rfl, hi, e40_0, e40_2, e40_13, e40_14, e40_i, Q1, hC1, hG, MK⟩
  by_cases hil : i < z.L.length
  · skip
    have hid : decide (i < z.L.length) = true := decide_eq_true hil
    have M : Mo wl40 wl40 := Mo.refl _
    obtain ⟨x, hx⟩ := get_of_lt hil
    obtain ⟨b1, o1, hp1, hR1⟩ := D.SL.rw hC1.ls hx
    refine w_seq ?_
    refine w_reg ?_
    refine wl_bin (fun x y => do eqGuard .lss 3 (.tmp 15) (.tmp 14) x y; binOp .lss 3 x y) (.tmp 15) (.tmp 14) (.int .i64 ((i : Nat) : Int)) (.int .i64 ((z.L.length : Nat) : Int)) (.bool true) (fun _ => rfl) e40_i e40_14 (ltN hid _ _ _) rfl ?_
    refine w_nil ?_
    refine xn_then ?_
    refine w_seq ?_
    refine w_condT rfl ?_
    refine w_skip ?_
    refine xn_then ?_
    refine w_seq ?_
    refine w_block ?_
    refine w_seq ?_
    refine w_reg ?_
    refine wl_mv (.tmp 15) (.int .i64 ((i : Nat) : Int)) (fun _ => rfl) e40_i rfl ?_
    refine wl_bin (fun x y => Instr.indexAt 37 x y) (.tmp 13) (.tmp 15) (.slice z.sp z.L.length z.sc) (.int .i64 ((i : Nat) : Int)) (pt b1 (o1 + i * 5)) (fun _ => rfl) e40_13 e40_i (ix37 (i := i) hp1 hil _) rfl ?_
    refine wl_load 52 (.tmp 18) (pt b1 (o1 + i * 5)) (.agg (x.cells).toArray) rfl rfl (D.run_partR (hR1.mo M).at' 52 0 5 (x.cells) rfl Try.underlying52 rfl sz52) rfl ?_
    refine wl_alloc 52 #[.int .i64 0, .int .i64 0, .string ⟨#[]⟩, .int .i64 0, .slice none 0 0] rfl (fun _ => by kernel_rfl) rfl ?_
    intro k2 w41 hk hz hq Q2
    have ne_k1_k2 : k1 ≠ k2 := by have := Q1.lt; omega
    have N_k2 : wl40.heap.size ≤ k2 := by have := M.size; omega
    replace Q1 := Q1.mo hq
    replace M := M.trans hq
    clear hk hz hq
    refine wl_mv (.tmp 17) (.int .i64 ((i : Nat) : Int)) (fun _ => rfl) rfl rfl ?_
    refine wl_st 52 (.tmp 5) (.tmp 19) k2 0 ((x.cells).toArray) [.int .i64 0, .int .i64 0, .string ⟨#[]⟩, .int .i64 0, .slice none 0 0] (x.cells) Q2 rfl rfl rfl rfl rfl sz52 rfl rfl rfl ?_
    intro w42 hS Qn
    replace Q2 := Qn
    clear Qn
    replace Q1 := hS.other _ _ ne_k1_k2 Q1
    replace M := hS.mo _ N_k2 M
    clear hS
    refine w_nil ?_
    refine xn_then ?_
    refine w_seq ?_
    refine w_seq ?_
    refine w_reg ?_
    refine wl_mv (.tmp 0) (pt z.cb 0) (fun _ => rfl) e40_0 rfl ?_
    refine wl_mv (.tmp 4) (.int .i64 ((i : Nat) : Int)) (fun _ => rfl) rfl rfl ?_
    refine wl_load 52 (.tmp 5) (pt k2 0) (.agg (x.cells).toArray) rfl rfl (run_row Q2 52 0 5 (x.cells) rfl Try.underlying52 rfl sz52) rfl ?_
    refine wl_callx 51 [(.tmp 20), (.tmp 21), (.tmp 22)] _ [pt z.cb 0, .int .i64 ((i : Nat) : Int), .agg (x.cells).toArray] rfl rfl (fun _ _ => by kernel_rfl) (section_n (hC1.mo M) i x hx (fun p => by have := kdA_len z.L p i; show (kdA z.L p i).length < _; omega)) rfl ?_
    rintro e9 w43 ⟨rfl, hK9, hC9⟩
    refine ⟨_, rfl, ?_⟩
    replace MK := (MK.trans M).same hK9
    replace Q1 := Q1.kp (hK9.kp (fun j hj => hC1.nocell hj M)) hK9.fz
    replace Q2 := Q2.kp (hK9.kp (fun j hj => hC1.nocell hj M)) hK9.fz
    clear M
    have M : Mo w43 w43 := Mo.refl _
    refine wl_mv (.tmp 23) (.int .i64 (seE z.L ⟨T, stI z.L i 0, stK z.L i⟩ i x)) (fun _ => rfl) rfl rfl ?_
    refine w_nil ?_
    refine xn_then ?_
    refine w_seq ?_
    refine w_reg ?_
    refine wl_mv (.tmp 6) (.int .i64 (seE z.L ⟨T, stI z.L i 0, stK z.L i⟩ i x)) (fun _ => rfl) rfl rfl ?_
    cases hf30 : decide (seE z.L ⟨T, stI z.L i 0, stK z.L i⟩ i x = 0) with
    | true =>
      have hf30p := of_decide_eq_true hf30
      refine wl_bin (fun x y => do eqGuard .neq 34 (.tmp 24) (.const (.int .i64 (0))) x y; binOp .neq 34 x y) (.tmp 24) (.const (.int .i64 (0))) (.int .i64 (seE z.L ⟨T, stI z.L i 0, stK z.L i⟩ i x)) (.int .i64 (0)) (.bool false) (fun _ => rfl) rfl rfl (ne34 hf30 _ _ _) rfl ?_
      refine w_nil ?_
      refine xn_then ?_
      refine w_condF rfl ?_
      refine w_skip ?_
      refine xn_then ?_
      refine w_seq ?_
      refine w_reg ?_
      refine wl_un (fun v => Instr.fieldAt 52 v 4) (.tmp 5) (pt k2 0) (pt k2 4) (fun _ => rfl) rfl (by kernel_rfl) rfl ?_
      refine wl_load 22 (.tmp 29) (pt k2 4) (.slice x.pi x.items.length x.ci) rfl rfl (run_one Q2 22 4 rfl Try.underlying22 rfl) rfl ?_
      refine wl_val (.int .i64 ((x.items.length : Nat) : Int)) (len22 _ _ _ _ _ (by exact rfl) _ _ _ _ _ _) rfl ?_
      refine wl_mv (.const (.int .i64 (0))) (.int .i64 (0)) (fun _ => rfl) rfl rfl ?_
      refine w_nil ?_
      refine xn_then ?_
      refine w_block ?_
      have hC2 : CK w43 z ⟨T, stI z.L i 0, stK z.L (i + 1)⟩ := by
        rcases Nat.eq_zero_or_pos i with h0 | h0
        · rw [stK_0 hx (by have := hC1.wf i x hx; omega)]; exact ((hC9 hf30p).1 h0).mo M
        · rw [← stK_up hx (p := x.pr.toNat) (by have := (hC1.wf i x hx).2.2 h0; omega)]; exact ((hC9 hf30p).2 h0).mo M
      have hzi : x.items.length ≤ 64 := by
        have h9 := hf30p
        unfold seE at h9
        split at h9
        · split at h9
          · cases h9
          · rename_i h8; simp at h8; omega
        · rename_i h8; exact absurd h9 h8
      refine w_loop (fun m l w1 => ∃ j : Nat, m = x.items.length - j ∧ j ≤ x.items.length ∧ look l 0 = pt z.cb 0 ∧ look l 2 = pt k1 0 ∧ look l 4 = .int .i64 ((i : Nat) : Int) ∧ look l 13 = .slice z.sp z.L.length z.sc ∧ look l 14 = .int .i64 ((z.L.length : Nat) : Int) ∧ look l 15 = .int .i64 ((i : Nat) : Int) ∧ look l 30 = .slice x.pi x.items.length x.ci ∧ look l 31 = .int .i64 ((x.items.length : Nat) : Int) ∧ look l 32 = .int .i64 ((j : Nat) : Int) ∧ At w1 k1 [.int .i64 0, .int .i64 0, .int .i64 0, .int .i64 0, .int .i64 0] ∧ (CK w1 z ⟨T, stI z.L i j, stK z.L (i + 1)⟩) ∧ (∀ m, m < j → ixG z.L i m = none) ∧ Mk z.D w w1) _ ⟨0, rfl, Nat.zero_le _, e40_0, e40_2, rfl, e40_13, e40_14, e40_i, rfl, rfl, rfl, Q1, hC2, (fun j hj => by omega), MK.trans M⟩ ?_
      clear Q1 Q2 M MK
      rintro m l70 wl70 ⟨j, rfl, hj, e70_0, e70_2, e70_4, e70_13, e70_14, e70_15, e70_30, e70_31, e70_i, Q1, hC2, hH, MK⟩
      by_cases hjl : j < x.items.length
      · skip
        have hjd : decide (j < x.items.length) = true := decide_eq_true hjl
        have M : Mo wl70 wl70 := Mo.refl _
        obtain ⟨y, hy⟩ := get_of_lt hjl
        obtain ⟨b2, o2, hp2, hR2⟩ := D.SL.rw (hC2.l5 x (List.mem_of_getElem? hx)).it hy
        refine w_seq ?_
        refine w_reg ?_
        refine wl_bin (fun x y => do eqGuard .lss 3 (.tmp 32) (.tmp 31) x y; binOp .lss 3 x y) (.tmp 32) (.tmp 31) (.int .i64 ((j : Nat) : Int)) (.int .i64 ((x.items.length : Nat) : Int)) (.bool true) (fun _ => rfl) e70_i e70_31 (ltN hjd _ _ _) rfl ?_
        refine w_nil ?_
        refine xn_then ?_
        refine w_seq ?_
        refine w_condT rfl ?_
        refine w_skip ?_
        refine xn_then ?_
        refine w_seq ?_
        refine w_block ?_
        refine w_seq ?_
        refine w_reg ?_
        refine wl_mv (.tmp 32) (.int .i64 ((j : Nat) : Int)) (fun _ => rfl) e70_i rfl ?_
        refine wl_bin (fun x y => Instr.indexAt 22 x y) (.tmp 30) (.tmp 32) (.slice x.pi x.items.length x.ci) (.int .i64 ((j : Nat) : Int)) (pt b2 (o2 + j * 23)) (fun _ => rfl) e70_30 e70_i (ix22 (i := j) hp2 hjl _) rfl ?_
        refine wl_load 66 (.tmp 35) (pt b2 (o2 + j * 23)) (.agg (y.cells).toArray) rfl rfl (D.run_partR (hR2.mo M).at' 66 0 23 (y.cells) rfl Try.underlying66 rfl sz66) rfl ?_
        refine wl_alloc 66 #[.string ⟨#[]⟩, .int .i64 0, .int .i64 0, .int .i64 0, .bool false, .int .i64 0, .int .i64 0, .int .i64 0, .string ⟨#[]⟩, .string ⟨#[]⟩, .int .i64 0, .bool false, .int .u64 0, .int .u64 0, .int .u64 0, .int .u64 0, .int .i64 0, .bool false, .string ⟨#[]⟩, .int .i64 0, .int .i64 0, .int .i64 0, .slice none 0 0] rfl (fun _ => by kernel_rfl) rfl ?_
        intro k3 w71 hk hz hq Q3
        have ne_k1_k3 : k1 ≠ k3 := by have := Q1.lt; omega
        have N_k3 : wl70.heap.size ≤ k3 := by have := M.size; omega
        replace Q1 := Q1.mo hq
        replace M := M.trans hq
        clear hk hz hq
        refine wl_mv (.tmp 34) (.int .i64 ((j : Nat) : Int)) (fun _ => rfl) rfl rfl ?_
        refine wl_st 66 (.tmp 8) (.tmp 36) k3 0 ((y.cells).toArray) [.string ⟨#[]⟩, .int .i64 0, .int .i64 0, .int .i64 0, .bool false, .int .i64 0, .int .i64 0, .int .i64 0, .string ⟨#[]⟩, .string ⟨#[]⟩, .int .i64 0, .bool false, .int .u64 0, .int .u64 0, .int .u64 0, .int .u64 0, .int .i64 0, .bool false, .string ⟨#[]⟩, .int .i64 0, .int .i64 0, .int .i64 0, .slice none 0 0] (y.cells) Q3 rfl rfl rfl rfl rfl sz66 rfl rfl rfl ?_
        intro w72 hS Qn
        replace Q3 := Qn
        clear Qn
        replace Q1 := hS.other _ _ ne_k1_k3 Q1
        replace M := hS.mo _ N_k3 M
        clear hS
        refine w_nil ?_
        refine xn_then ?_
        refine w_seq ?_
        refine w_reg ?_
        refine wl_mv (.tmp 0) (pt z.cb 0) (fun _ => rfl) e70_0 rfl ?_
        refine wl_mv (.tmp 4) (.int .i64 ((i : Nat) : Int)) (fun _ => rfl) e70_4 rfl ?_
        refine wl_load 66 (.tmp 8) (pt k3 0) (.agg (y.cells).toArray) rfl rfl (run_row Q3 66 0 23 (y.cells) rfl Try.underlying66 rfl sz66) rfl ?_
        refine wl_callx 52 [(.tmp 37), (.tmp 38), (.tmp 39)] _ [pt z.cb 0, .int .i64 ((i : Nat) : Int), .agg (y.cells).toArray] rfl rfl (fun _ _ => by kernel_rfl) (item_n (hC2.mo M) i hil y (by show (stI z.L i j i).length < _; rw [stI_self]; have := itA_len (itO z.L i) j; omega)) rfl ?_
        rintro e9 w73 ⟨rfl, hK9, hC9⟩
        refine ⟨_, rfl, ?_⟩
        replace MK := (MK.trans M).same hK9
        replace Q1 := Q1.kp (hK9.kp (fun j hj => hC2.nocell hj M)) hK9.fz
        replace Q3 := Q3.kp (hK9.kp (fun j hj => hC2.nocell hj M)) hK9.fz
        clear M
        have M : Mo w73 w73 := Mo.refl _
        refine wl_mv (.tmp 40) (.int .i64 (itE z.L (stI z.L i j) i y)) (fun _ => rfl) rfl rfl ?_
        refine w_nil ?_
        refine xn_then ?_
        refine w_seq ?_
        refine w_reg ?_
        refine wl_mv (.tmp 9) (.int .i64 (itE z.L (stI z.L i j) i y)) (fun _ => rfl) rfl rfl ?_
        cases hf60 : decide (itE z.L (stI z.L i j) i y = 0) with
        | true =>
          have hf60p := of_decide_eq_true hf60
          refine wl_bin (fun x y => do eqGuard .neq 34 (.tmp 41) (.const (.int .i64 (0))) x y; binOp .neq 34 x y) (.tmp 41) (.const (.int .i64 (0))) (.int .i64 (itE z.L (stI z.L i j) i y)) (.int .i64 (0)) (.bool false) (fun _ => rfl) rfl rfl (ne34 hf60 _ _ _) rfl ?_
          refine w_nil ?_
          refine xn_then ?_
          refine w_condF rfl ?_
          refine w_skip ?_
          refine xn_blk ?_
          refine xn_then ?_
          refine w_reg ?_
          refine wl_bin (fun x y => do eqGuard .add 3 (.tmp 32) (.const (.int .i64 (1))) x y; binOp .add 3 x y) (.tmp 32) (.const (.int .i64 (1))) (.int .i64 ((j : Nat) : Int)) (.int .i64 (1)) (.int .i64 ((j + 1 : Nat) : Int)) (fun _ => rfl) e70_i rfl (add1r (k := j) (by omega) _ _ _) rfl ?_
          refine wl_mv (.tmp 47) (.int .i64 ((j + 1 : Nat) : Int)) (fun _ => rfl) rfl rfl ?_
          refine w_nil ?_
          exact xn_loop (x.items.length - (j + 1)) (by omega) ⟨j + 1, rfl, by omega, e70_0, e70_2, e70_4, e70_13, e70_14, e70_15, e70_30, e70_31, rfl, Q1, by rw [← stI_up hx hy]; exact (hC9 hf60p).mo M, fs_step hH ((ixG_of hx hy).trans (er_0 hf60p)), MK.trans M⟩
        | false =>
          have hf60p := of_decide_eq_false hf60
          refine wl_bin (fun x y => do eqGuard .neq 34 (.tmp 41) (.const (.int .i64 (0))) x y; binOp .neq 34 x y) (.tmp 41) (.const (.int .i64 (0))) (.int .i64 (itE z.L (stI z.L i j) i y)) (.int .i64 (0)) (.bool true) (fun _ => rfl) rfl rfl (ne34 hf60 _ _ _) rfl ?_
          refine w_nil ?_
          refine xn_then ?_
          refine w_condT rfl ?_
          refine w_seq ?_
          refine w_reg ?_
          refine wl_mv (.tmp 4) (.int .i64 ((i : Nat) : Int)) (fun _ => rfl) e70_4 rfl ?_
          refine wl_mv (.tmp 7) (.int .i64 ((j : Nat) : Int)) (fun _ => rfl) rfl rfl ?_
          refine wl_build 33 [(0, (.const (.int .i64 (3)))), (1, (.tmp 43)), (2, (.tmp 44))] [(0, .int .i64 (3)), (1, .int .i64 ((i : Nat) : Int)), (2, .int .i64 ((j : Nat) : Int))] (.agg #[.int .i64 (3), .int .i64 ((i : Nat) : Int), .int .i64 ((j : Nat) : Int), .int .i64 0, .int .i64 0]) rfl rfl (by kernel_rfl) rfl ?_
          refine wl_mv (.tmp 9) (.int .i64 (itE z.L (stI z.L i j) i y)) (fun _ => rfl) rfl rfl ?_
          refine wl_stm 33 (.tmp 2) (.tmp 45) k1 0 #[.int .i64 (3), .int .i64 ((i : Nat) : Int), .int .i64 ((j : Nat) : Int), .int .i64 0, .int .i64 0] [.int .i64 0, .int .i64 0, .int .i64 0, .int .i64 0, .int .i64 0] [.int .i64 (3), .int .i64 ((i : Nat) : Int), .int .i64 ((j : Nat) : Int), .int .i64 0, .int .i64 0] Q1 rfl rfl e70_2 rfl rfl sz33 rfl rfl rfl ?_
          intro w74 hS hm9 Qn
          replace Q1 := Qn
          clear Qn
          replace Q3 := hS.other _ _ ne_k1_k3.symm Q3
          have hmT := (Mk.of (fun j => j = k1) M).same hm9
          replace MK := (MK.trans M).tr hm9 (fun j hj e => by omega)
          clear M hS hm9
          have M : Mo w74 w74 := Mo.refl _
          refine wl_mv (.tmp 46) (.int .i64 (itE z.L (stI z.L i j) i y)) (fun _ => rfl) rfl rfl ?_
          refine w_nil ?_
          refine xn_then ?_
          refine w_ret ?_
          refine xr_blk ?_
          refine xr_then ?_
          refine xr_then ?_
          refine xr_blk ?_
          refine xr_blk ?_
          refine xr_then ?_
          refine xr_then ?_
          refine xr_blk ?_
          refine xr_then ?_
          exact w_ret2 _ _ (.agg #[.int .i64 (3), .int .i64 ((i : Nat) : Int), .int .i64 ((j : Nat) : Int), .int .i64 0, .int .i64 0]) (.int .i64 (itE z.L (stI z.L i j) i y)) rfl ⟨k1, e70_2, (run_row Q1 33 0 5 [.int .i64 (3), .int .i64 ((i : Nat) : Int), .int .i64 ((j : Nat) : Int), .int .i64 0, .int .i64 0] rfl Try.underlying33 rfl sz33)⟩ rfl ⟨by unfold seR; rw [fs_hit hG ((seG_of hx).trans (by rw [er_0 hf30p, Option.none_or]; exact fs_hit hH ((ixG_of hx hy).trans (er_1 hf60p)) hjl)) hil]; rfl, MK.trans M, fun h => by unfold seR at h; rw [fs_hit hG ((seG_of hx).trans (by rw [er_0 hf30p, Option.none_or]; exact fs_hit hH ((ixG_of hx hy).trans (er_1 hf60p)) hjl)) hil] at h; cases h⟩
      · skip
        have hjd : decide (j < x.items.length) = false := decide_eq_false hjl
        have hje : j = x.items.length := by omega
        have M : Mo wl70 wl70 := Mo.refl _
        refine w_seq ?_
        refine w_reg ?_
        refine wl_bin (fun x y => do eqGuard .lss 3 (.tmp 32) (.tmp 31) x y; binOp .lss 3 x y) (.tmp 32) (.tmp 31) (.int .i64 ((j : Nat) : Int)) (.int .i64 ((x.items.length : Nat) : Int)) (.bool false) (fun _ => rfl) e70_i e70_31 (ltN hjd _ _ _) rfl ?_
        refine w_nil ?_
        refine xn_then ?_
        refine w_seq ?_
        refine w_condF rfl ?_
        refine w_exit ?_
        refine xx_then ?_
        refine xx_then ?_
        refine xx_blk ?_
        refine xn_blk ?_
        refine xn_then ?_
        refine w_reg ?_
        refine wl_bin (fun x y => do eqGuard .add 3 (.tmp 15) (.const (.int .i64 (1))) x y; binOp .add 3 x y) (.tmp 15) (.const (.int .i64 (1))) (.int .i64 ((i : Nat) : Int)) (.int .i64 (1)) (.int .i64 ((i + 1 : Nat) : Int)) (fun _ => rfl) e70_15 rfl (add1r (k := i) (by omega) _ _ _) rfl ?_
        refine wl_mv (.tmp 48) (.int .i64 ((i + 1 : Nat) : Int)) (fun _ => rfl) rfl rfl ?_
        refine w_nil ?_
        exact xn_loop (z.L.length - (i + 1)) (by omega) ⟨i + 1, rfl, by omega, e70_0, e70_2, e70_13, e70_14, rfl, Q1, by rw [hje, stI_next hx] at hC2; exact hC2.mo M, fs_step hG ((seG_of hx).trans (by rw [er_0 hf30p, Option.none_or]; exact fs_none (by rw [← hje]; exact hH))), MK.trans M⟩
    | false =>
      have hf30p := of_decide_eq_false hf30
      refine wl_bin (fun x y => do eqGuard .neq 34 (.tmp 24) (.const (.int .i64 (0))) x y; binOp .neq 34 x y) (.tmp 24) (.const (.int .i64 (0))) (.int .i64 (seE z.L ⟨T, stI z.L i 0, stK z.L i⟩ i x)) (.int .i64 (0)) (.bool true) (fun _ => rfl) rfl rfl (ne34 hf30 _ _ _) rfl ?_
      refine w_nil ?_
      refine xn_then ?_
      refine w_condT rfl ?_
      refine w_seq ?_
      refine w_reg ?_
      refine wl_mv (.tmp 4) (.int .i64 ((i : Nat) : Int)) (fun _ => rfl) rfl rfl ?_
      refine wl_build 33 [(0, (.const (.int .i64 (2)))), (1, (.tmp 26))] [(0, .int .i64 (2)), (1, .int .i64 ((i : Nat) : Int))] (.agg #[.int .i64 (2), .int .i64 ((i : Nat) : Int), .int .i64 0, .int .i64 0, .int .i64 0]) rfl rfl (by kernel_rfl) rfl ?_
      refine wl_mv (.tmp 6) (.int .i64 (seE z.L ⟨T, stI z.L i 0, stK z.L i⟩ i x)) (fun _ => rfl) rfl rfl ?_
      refine wl_stm 33 (.tmp 2) (.tmp 27) k1 0 #[.int .i64 (2), .int .i64 ((i : Nat) : Int), .int .i64 0, .int .i64 0, .int .i64 0] [.int .i64 0, .int .i64 0, .int .i64 0, .int .i64 0, .int .i64 0] [.int .i64 (2), .int .i64 ((i : Nat) : Int), .int .i64 0, .int .i64 0, .int .i64 0] Q1 rfl rfl e40_2 rfl rfl sz33 rfl rfl rfl ?_
      intro w44 hS hm9 Qn
      replace Q1 := Qn
      clear Qn
      replace Q2 := hS.other _ _ ne_k1_k2.symm Q2
      have hmT := (Mk.of (fun j => j = k1) M).same hm9
      replace MK := (MK.trans M).tr hm9 (fun j hj e => by omega)
      clear M hS hm9
      have M : Mo w44 w44 := Mo.refl _
      refine wl_mv (.tmp 28) (.int .i64 (seE z.L ⟨T, stI z.L i 0, stK z.L i⟩ i x)) (fun _ => rfl) rfl rfl ?_
      refine w_nil ?_
      refine xn_then ?_
      refine w_ret ?_
      refine xr_then ?_
      refine xr_blk ?_
      refine xr_then ?_
      refine xr_then ?_
      refine xr_blk ?_
      refine xr_then ?_
      exact w_ret2 _ _ (.agg #[.int .i64 (2), .int .i64 ((i : Nat) : Int), .int .i64 0, .int .i64 0, .int .i64 0]) (.int .i64 (seE z.L ⟨T, stI z.L i 0, stK z.L i⟩ i x)) rfl ⟨k1, e40_2, (run_row Q1 33 0 5 [.int .i64 (2), .int .i64 ((i : Nat) : Int), .int .i64 0, .int .i64 0, .int .i64 0] rfl Try.underlying33 rfl sz33)⟩ rfl ⟨by unfold seR; rw [fs_hit hG ((seG_of hx).trans (by rw [er_1 hf30p]; rfl)) hil]; rfl, MK.trans M, fun h => by unfold seR at h; rw [fs_hit hG ((seG_of hx).trans (by rw [er_1 hf30p]; rfl)) hil] at h; cases h⟩
  · skip
    have hid : decide (i < z.L.length) = false := decide_eq_false hil
    have hie : i = z.L.length := by omega
    have M : Mo wl40 wl40 := Mo.refl _
    refine w_seq ?_
    refine w_reg ?_
    refine wl_bin (fun x y => do eqGuard .lss 3 (.tmp 15) (.tmp 14) x y; binOp .lss 3 x y) (.tmp 15) (.tmp 14) (.int .i64 ((i : Nat) : Int)) (.int .i64 ((z.L.length : Nat) : Int)) (.bool false) (fun _ => rfl) e40_i e40_14 (ltN hid _ _ _) rfl ?_
    refine w_nil ?_
    refine xn_then ?_
    refine w_seq ?_
    refine w_condF rfl ?_
    refine w_exit ?_
    refine xx_then ?_
    refine xx_then ?_
    refine xx_blk ?_
    refine xn_then ?_
    refine w_seq ?_
    refine w_reg ?_
    refine wl_build 33 [] [] (.agg #[.int .i64 0, .int .i64 0, .int .i64 0, .int .i64 0, .int .i64 0]) rfl rfl (by kernel_rfl) rfl ?_
    refine wl_stm 33 (.tmp 2) (.tmp 49) k1 0 #[.int .i64 0, .int .i64 0, .int .i64 0, .int .i64 0, .int .i64 0] [.int .i64 0, .int .i64 0, .int .i64 0, .int .i64 0, .int .i64 0] [.int .i64 0, .int .i64 0, .int .i64 0, .int .i64 0, .int .i64 0] Q1 rfl rfl e40_2 rfl rfl sz33 rfl rfl rfl ?_
    intro w41 hS hm9 Qn
    replace Q1 := Qn
    clear Qn
    have hmT := (Mk.of (fun j => j = k1) M).same hm9
    replace MK := (MK.trans M).tr hm9 (fun j hj e => by omega)
    clear M hS hm9
    have M : Mo w41 w41 := Mo.refl _
    refine wl_mv (.const (.int .i64 (0))) (.int .i64 (0)) (fun _ => rfl) rfl rfl ?_
    refine w_nil ?_
    refine xn_then ?_
    refine w_ret ?_
    exact w_ret2 _ _ (.agg #[.int .i64 0, .int .i64 0, .int .i64 0, .int .i64 0, .int .i64 0]) (.int .i64 (0)) rfl ⟨k1, e40_2, (run_row Q1 33 0 5 [.int .i64 0, .int .i64 0, .int .i64 0, .int .i64 0, .int .i64 0] rfl Try.underlying33 rfl sz33)⟩ rfl ⟨by unfold seR; rw [fs_none (by rw [← hie]; exact hG)]; rfl, MK.trans M, fun _ => by rw [hie] at hC1; exact hC.fin hC1 MK hmT (fun h => by have := hC.dlt h; omega)⟩
theorem formulas_n {w : World} {z : Zc} {A : Al} (hC : CK w z A) : Calls Try.prog 33 #[pt z.cb 0] w fun e w' => e = .returned (rv (foR z.L A)) ∧ Mo w w' := by
  refine w_enter 42 Try.func33 Try.ntmps33 rfl rfl ?_
  have M : Mo w w := Mo.refl _
  refine w_seq ?_
  refine w_reg ?_
  refine wl_alloc 33 #[.int .i64 0, .int .i64 0, .int .i64 0, .int .i64 0, .int .i64 0] rfl (fun _ => by kernel_rfl) rfl ?_
  intro k1 w1 hk hz hq Q1
  have N_k1 : w.heap.size ≤ k1 := by have := M.size; omega
  replace M := M.trans hq
  clear hk hz hq
  refine wl_mv (.const (.int .i64 (0))) (.int .i64 (0)) (fun _ => rfl) rfl rfl ?_
  refine w_nil ?_
  refine xn_then ?_
  refine w_seq ?_
  refine w_seq ?_
  refine w_reg ?_
  refine wl_mv (.tmp 0) (pt z.cb 0) (fun _ => rfl) rfl rfl ?_
  refine wl_nc (.tmp 8) z.cb 0 rfl rfl rfl ?_
  refine wl_un (fun v => Instr.fieldAt 94 v 1) (.tmp 9) (pt z.cb 0) (pt z.cb 7) (fun _ => rfl) rfl (by kernel_rfl) rfl ?_
  refine wl_load 37 (.tmp 10) (pt z.cb 7) (.slice z.sp z.L.length z.sc) rfl rfl (D.run_oneR (hC.rw.mo M).at' 37 7 rfl Try.underlying37 rfl) rfl ?_
  refine wl_val (.int .i64 ((z.L.length : Nat) : Int)) (len37 _ _ _ _ _ (by exact rfl) _ _ _ _ _ _) rfl ?_
  refine wl_mv (.const (.int .i64 (0))) (.int .i64 (0)) (fun _ => rfl) rfl rfl ?_
  refine w_nil ?_
  refine xn_then ?_
  refine w_block ?_
  have hz := hC.ls.1
  unfold maxLen at hz
  refine w_loop (fun m l w1 => ∃ i : Nat, m = z.L.length - i ∧ i ≤ z.L.length ∧ look l 0 = pt z.cb 0 ∧ look l 2 = pt k1 0 ∧ look l 11 = .slice z.sp z.L.length z.sc ∧ look l 12 = .int .i64 ((z.L.length : Nat) : Int) ∧ look l 13 = .int .i64 ((i : Nat) : Int) ∧ At w1 k1 [.int .i64 0, .int .i64 0, .int .i64 0, .int .i64 0, .int .i64 0] ∧ (∀ j, j < i → foS z.L A j = none) ∧ Mo w w1) _ ⟨0, rfl, Nat.zero_le _, rfl, rfl, rfl, rfl, rfl, Q1, (fun j hj => by omega), M⟩ ?_
  clear Q1 M
  rintro m l40 wl40 ⟨i, rfl, hi, e40_0, e40_2, e40_11, e40_12, e40_i, Q1, hG, M⟩
  by_cases hil : i < z.L.length
  · skip
    have hid : decide (i < z.L.length) = true := decide_eq_true hil
    obtain ⟨x, hx⟩ := get_of_lt hil
    obtain ⟨b1, o1, hp1, hR1⟩ := D.SL.rw hC.ls hx
    refine w_seq ?_
    refine w_reg ?_
    refine wl_bin (fun x y => do eqGuard .lss 3 (.tmp 13) (.tmp 12) x y; binOp .lss 3 x y) (.tmp 13) (.tmp 12) (.int .i64 ((i : Nat) : Int)) (.int .i64 ((z.L.length : Nat) : Int)) (.bool true) (fun _ => rfl) e40_i e40_12 (ltN hid _ _ _) rfl ?_
    refine w_nil ?_
    refine xn_then ?_
    refine w_seq ?_
    refine w_condT rfl ?_
    refine w_skip ?_
    refine xn_then ?_
    refine w_seq ?_
    refine w_block ?_
    refine w_seq ?_
    refine w_reg ?_
    refine wl_mv (.tmp 13) (.int .i64 ((i : Nat) : Int)) (fun _ => rfl) e40_i rfl ?_
    refine wl_bin (fun x y => Instr.indexAt 37 x y) (.tmp 11) (.tmp 13) (.slice z.sp z.L.length z.sc) (.int .i64 ((i : Nat) : Int)) (pt b1 (o1 + i * 5)) (fun _ => rfl) e40_11 e40_i (ix37 (i := i) hp1 hil _) rfl ?_
    refine wl_load 52 (.tmp 16) (pt b1 (o1 + i * 5)) (.agg (x.cells).toArray) rfl rfl (D.run_partR (hR1.mo M).at' 52 0 5 (x.cells) rfl Try.underlying52 rfl sz52) rfl ?_
    refine wl_alloc 52 #[.int .i64 0, .int .i64 0, .string ⟨#[]⟩, .int .i64 0, .slice none 0 0] rfl (fun _ => by kernel_rfl) rfl ?_
    intro k2 w41 hk hz hq Q2
    have ne_k1_k2 : k1 ≠ k2 := by have := Q1.lt; omega
    have N_k2 : w.heap.size ≤ k2 := by have := M.size; omega
    replace Q1 := Q1.mo hq
    replace M := M.trans hq
    clear hk hz hq
    refine wl_mv (.tmp 15) (.int .i64 ((i : Nat) : Int)) (fun _ => rfl) rfl rfl ?_
    refine wl_st 52 (.tmp 5) (.tmp 17) k2 0 ((x.cells).toArray) [.int .i64 0, .int .i64 0, .string ⟨#[]⟩, .int .i64 0, .slice none 0 0] (x.cells) Q2 rfl rfl rfl rfl rfl sz52 rfl rfl rfl ?_
    intro w42 hS Qn
    replace Q2 := Qn
    clear Qn
    replace Q1 := hS.other _ _ ne_k1_k2 Q1
    replace M := hS.mo _ N_k2 M
    clear hS
    refine w_nil ?_
    refine xn_then ?_
    refine w_seq ?_
    refine w_reg ?_
    refine wl_un (fun v => Instr.fieldAt 52 v 4) (.tmp 5) (pt k2 0) (pt k2 4) (fun _ => rfl) rfl (by kernel_rfl) rfl ?_
    refine wl_load 22 (.tmp 18) (pt k2 4) (.slice x.pi x.items.length x.ci) rfl rfl (run_one Q2 22 4 rfl Try.underlying22 rfl) rfl ?_
    refine wl_val (.int .i64 ((x.items.length : Nat) : Int)) (len22 _ _ _ _ _ (by exact rfl) _ _ _ _ _ _) rfl ?_
    refine wl_mv (.const (.int .i64 (0))) (.int .i64 (0)) (fun _ => rfl) rfl rfl ?_
    refine w_nil ?_
    refine xn_then ?_
    refine w_block ?_
    have h5 := hC.l5 x (List.mem_of_getElem? hx)
    have hzi := h5.it.1
    unfold maxLen at hzi
    refine w_loop (fun m l w1 => ∃ j : Nat, m = x.items.length - j ∧ j ≤ x.items.length ∧ look l 0 = pt z.cb 0 ∧ look l 2 = pt k1 0 ∧ look l 4 = .int .i64 ((i : Nat) : Int) ∧ look l 11 = .slice z.sp z.L.length z.sc ∧ look l 12 = .int .i64 ((z.L.length : Nat) : Int) ∧ look l 13 = .int .i64 ((i : Nat) : Int) ∧ look l 19 = .slice x.pi x.items.length x.ci ∧ look l 20 = .int .i64 ((x.items.length : Nat) : Int) ∧ look l 21 = .int .i64 ((j : Nat) : Int) ∧ At w1 k1 [.int .i64 0, .int .i64 0, .int .i64 0, .int .i64 0, .int .i64 0] ∧ (∀ m, m < j → foG z.L A i m = none) ∧ Mo w w1) _ ⟨0, rfl, Nat.zero_le _, e40_0, e40_2, rfl, e40_11, e40_12, e40_i, rfl, rfl, rfl, Q1, (fun j hj => by omega), M⟩ ?_
    clear Q1 Q2 M
    rintro m l70 wl70 ⟨j, rfl, hj, e70_0, e70_2, e70_4, e70_11, e70_12, e70_13, e70_19, e70_20, e70_i, Q1, hH, M⟩
    by_cases hjl : j < x.items.length
    · skip
      have hjd : decide (j < x.items.length) = true := decide_eq_true hjl
      obtain ⟨y, hy⟩ := get_of_lt hjl
      obtain ⟨b2, o2, hp2, hR2⟩ := D.SL.rw h5.it hy
      refine w_seq ?_
      refine w_reg ?_
      refine wl_bin (fun x y => do eqGuard .lss 3 (.tmp 21) (.tmp 20) x y; binOp .lss 3 x y) (.tmp 21) (.tmp 20) (.int .i64 ((j : Nat) : Int)) (.int .i64 ((x.items.length : Nat) : Int)) (.bool true) (fun _ => rfl) e70_i e70_20 (ltN hjd _ _ _) rfl ?_
      refine w_nil ?_
      refine xn_then ?_
      refine w_seq ?_
      refine w_condT rfl ?_
      refine w_skip ?_
      refine xn_then ?_
      refine w_seq ?_
      refine w_block ?_
      refine w_seq ?_
      refine w_reg ?_
      refine wl_mv (.tmp 21) (.int .i64 ((j : Nat) : Int)) (fun _ => rfl) e70_i rfl ?_
      refine wl_bin (fun x y => Instr.indexAt 22 x y) (.tmp 19) (.tmp 21) (.slice x.pi x.items.length x.ci) (.int .i64 ((j : Nat) : Int)) (pt b2 (o2 + j * 23)) (fun _ => rfl) e70_19 e70_i (ix22 (i := j) hp2 hjl _) rfl ?_
      refine wl_load 66 (.tmp 24) (pt b2 (o2 + j * 23)) (.agg (y.cells).toArray) rfl rfl (D.run_partR (hR2.mo M).at' 66 0 23 (y.cells) rfl Try.underlying66 rfl sz66) rfl ?_
      refine wl_alloc 66 #[.string ⟨#[]⟩, .int .i64 0, .int .i64 0, .int .i64 0, .bool false, .int .i64 0, .int .i64 0, .int .i64 0, .string ⟨#[]⟩, .string ⟨#[]⟩, .int .i64 0, .bool false, .int .u64 0, .int .u64 0, .int .u64 0, .int .u64 0, .int .i64 0, .bool false, .string ⟨#[]⟩, .int .i64 0, .int .i64 0, .int .i64 0, .slice none 0 0] rfl (fun _ => by kernel_rfl) rfl ?_
      intro k3 w71 hk hz hq Q3
      have ne_k1_k3 : k1 ≠ k3 := by have := Q1.lt; omega
      have N_k3 : w.heap.size ≤ k3 := by have := M.size; omega
      replace Q1 := Q1.mo hq
      replace M := M.trans hq
      clear hk hz hq
      refine wl_mv (.tmp 23) (.int .i64 ((j : Nat) : Int)) (fun _ => rfl) rfl rfl ?_
      refine wl_st 66 (.tmp 7) (.tmp 25) k3 0 ((y.cells).toArray) [.string ⟨#[]⟩, .int .i64 0, .int .i64 0, .int .i64 0, .bool false, .int .i64 0, .int .i64 0, .int .i64 0, .string ⟨#[]⟩, .string ⟨#[]⟩, .int .i64 0, .bool false, .int .u64 0, .int .u64 0, .int .u64 0, .int .u64 0, .int .i64 0, .bool false, .string ⟨#[]⟩, .int .i64 0, .int .i64 0, .int .i64 0, .slice none 0 0] (y.cells) Q3 rfl rfl rfl rfl rfl sz66 rfl rfl rfl ?_
      intro w72 hS Qn
      replace Q3 := Qn
      clear Qn
      replace Q1 := hS.other _ _ ne_k1_k3 Q1
      replace M := hS.mo _ N_k3 M
      clear hS
      refine w_nil ?_
      refine xn_then ?_
      refine w_seq ?_
      refine w_reg ?_
      refine wl_un (fun v => Instr.fieldAt 66 v 1) (.tmp 7) (pt k3 0) (pt k3 1) (fun _ => rfl) rfl (by kernel_rfl) rfl ?_
      refine wl_load 3 (.tmp 26) (pt k3 1) (.int .i64 (y.k)) rfl rfl (run_one Q3 3 1 rfl Try.underlying3 rfl) rfl ?_
      cases hf60 : decide (y.k = 1) with
      | true =>
        have hf60p := of_decide_eq_true hf60
        refine wl_bin (fun x y => do eqGuard .neq 3 (.tmp 27) (.const (.int .i64 (1))) x y; binOp .neq 3 x y) (.tmp 27) (.const (.int .i64 (1))) (.int .i64 (y.k)) (.int .i64 (1)) (.bool false) (fun _ => rfl) rfl rfl (ne3 hf60 _ _ _) rfl ?_
        refine wl_mv (.tmp 28) (.bool false) (fun _ => rfl) rfl rfl ?_
        refine wl_skip rfl ?_
        refine wl_skip rfl ?_
        refine wl_skip rfl ?_
        refine wl_skip rfl ?_
        refine wl_skip rfl ?_
        refine wl_pick (.tmp 29) (.tmp 34) (.const (.bool false)) false (.bool false) (fun _ => rfl) rfl rfl rfl ?_
        refine w_nil ?_
        refine xn_then ?_
        refine w_condF rfl ?_
        refine w_skip ?_
        refine xn_blk ?_
        refine xn_then ?_
        refine w_reg ?_
        refine wl_bin (fun x y => do eqGuard .add 3 (.tmp 21) (.const (.int .i64 (1))) x y; binOp .add 3 x y) (.tmp 21) (.const (.int .i64 (1))) (.int .i64 ((j : Nat) : Int)) (.int .i64 (1)) (.int .i64 ((j + 1 : Nat) : Int)) (fun _ => rfl) e70_i rfl (add1r (k := j) (by omega) _ _ _) rfl ?_
        refine wl_mv (.tmp 39) (.int .i64 ((j + 1 : Nat) : Int)) (fun _ => rfl) rfl rfl ?_
        refine w_nil ?_
        exact xn_loop (x.items.length - (j + 1)) (by omega) ⟨j + 1, rfl, by omega, e70_0, e70_2, e70_4, e70_11, e70_12, e70_13, e70_19, e70_20, rfl, Q1, fs_step hH ((foG_of hx hy).trans (by rw [hf60]; rfl)), M⟩
      | false =>
        have hf60p := of_decide_eq_false hf60
        refine wl_bin (fun x y => do eqGuard .neq 3 (.tmp 27) (.const (.int .i64 (1))) x y; binOp .neq 3 x y) (.tmp 27) (.const (.int .i64 (1))) (.int .i64 (y.k)) (.int .i64 (1)) (.bool true) (fun _ => rfl) rfl rfl (ne3 hf60 _ _ _) rfl ?_
        refine wl_mv (.tmp 28) (.bool true) (fun _ => rfl) rfl rfl ?_
        refine wl_mv (.tmp 0) (pt z.cb 0) (fun _ => rfl) e70_0 rfl ?_
        refine wl_mv (.tmp 4) (.int .i64 ((i : Nat) : Int)) (fun _ => rfl) e70_4 rfl ?_
        refine wl_un (fun v => Instr.fieldAt 66 v 5) (.tmp 7) (pt k3 0) (pt k3 6) (fun _ => rfl) rfl (by kernel_rfl) rfl ?_
        refine wl_load 64 (.tmp 32) (pt k3 6) (.agg #[.int .i64 y.ex.k, .int .i64 y.ex.op, .string y.ex.nm, .string y.ex.se, .int .i64 y.ex.v.k, .bool y.ex.v.d.b, .int .u64 y.ex.v.d.n0, .int .u64 y.ex.v.d.n1, .int .u64 y.ex.v.d.n2, .int .u64 y.ex.v.d.n3, .int .i64 y.ex.v.d.s, .bool y.ex.v.f, .string y.ex.v.t, .int .i64 y.ex.v.e, .int .i64 y.ex.sc, .int .i64 y.ex.po, .slice y.ex.pa y.ex.args.length y.ex.cap]) rfl rfl (run_row Q3 64 6 17 [.int .i64 y.ex.k, .int .i64 y.ex.op, .string y.ex.nm, .string y.ex.se, .int .i64 y.ex.v.k, .bool y.ex.v.d.b, .int .u64 y.ex.v.d.n0, .int .u64 y.ex.v.d.n1, .int .u64 y.ex.v.d.n2, .int .u64 y.ex.v.d.n3, .int .i64 y.ex.v.d.s, .bool y.ex.v.f, .string y.ex.v.t, .int .i64 y.ex.v.e, .int .i64 y.ex.sc, .int .i64 y.ex.po, .slice y.ex.pa y.ex.args.length y.ex.cap] rfl Try.underlying64 rfl sz64) rfl ?_
        cases hf61 : lck (kno z.L A i) y.ex with
        | true =>
          refine wl_call 53 [(.tmp 30), (.tmp 31), (.tmp 33)] _ [pt z.cb 0, .int .i64 ((i : Nat) : Int), .agg #[.int .i64 y.ex.k, .int .i64 y.ex.op, .string y.ex.nm, .string y.ex.se, .int .i64 y.ex.v.k, .bool y.ex.v.d.b, .int .u64 y.ex.v.d.n0, .int .u64 y.ex.v.d.n1, .int .u64 y.ex.v.d.n2, .int .u64 y.ex.v.d.n3, .int .i64 y.ex.v.d.s, .bool y.ex.v.f, .string y.ex.v.t, .int .i64 y.ex.v.e, .int .i64 y.ex.sc, .int .i64 y.ex.po, .slice y.ex.pa y.ex.args.length y.ex.cap]] (.bool true) rfl rfl (fun _ _ => by kernel_rfl) (cB hf61 (lacks_n i hil y.ex (hC.mo M) ((h5.ex y (List.mem_of_getElem? hy)).kp M.kp))) rfl ?_
          intro w73 hq
          replace Q1 := Q1.mo hq
          replace Q3 := Q3.mo hq
          replace M := M.trans hq
          clear hq
          refine wl_pick (.tmp 29) (.tmp 34) (.const (.bool false)) true (.bool true) (fun _ => rfl) rfl rfl rfl ?_
          refine w_nil ?_
          refine xn_then ?_
          refine w_condT rfl ?_
          refine w_seq ?_
          refine w_reg ?_
          refine wl_mv (.tmp 4) (.int .i64 ((i : Nat) : Int)) (fun _ => rfl) e70_4 rfl ?_
          refine wl_mv (.tmp 6) (.int .i64 ((j : Nat) : Int)) (fun _ => rfl) rfl rfl ?_
          refine wl_build 33 [(0, (.const (.int .i64 (3)))), (1, (.tmp 36)), (2, (.tmp 37))] [(0, .int .i64 (3)), (1, .int .i64 ((i : Nat) : Int)), (2, .int .i64 ((j : Nat) : Int))] (.agg #[.int .i64 (3), .int .i64 ((i : Nat) : Int), .int .i64 ((j : Nat) : Int), .int .i64 0, .int .i64 0]) rfl rfl (by kernel_rfl) rfl ?_
          refine wl_st 33 (.tmp 2) (.tmp 38) k1 0 #[.int .i64 (3), .int .i64 ((i : Nat) : Int), .int .i64 ((j : Nat) : Int), .int .i64 0, .int .i64 0] [.int .i64 0, .int .i64 0, .int .i64 0, .int .i64 0, .int .i64 0] [.int .i64 (3), .int .i64 ((i : Nat) : Int), .int .i64 ((j : Nat) : Int), .int .i64 0, .int .i64 0] Q1 rfl rfl e70_2 rfl rfl sz33 rfl rfl rfl ?_
          intro w74 hS Qn
          replace Q1 := Qn
          clear Qn
          replace Q3 := hS.other _ _ ne_k1_k3.symm Q3
          replace M := hS.mo _ N_k1 M
          clear hS
          refine wl_mv (.const (.int .i64 (91))) (.int .i64 (91)) (fun _ => rfl) rfl rfl ?_
          refine w_nil ?_
          refine xn_then ?_
          refine w_ret ?_
          refine xr_blk ?_
          refine xr_then ?_
          refine xr_then ?_
          refine xr_blk ?_
          refine xr_blk ?_
          refine xr_then ?_
          refine xr_then ?_
          refine xr_blk ?_
          refine xr_then ?_
          exact w_ret2 _ _ (.agg #[.int .i64 (3), .int .i64 ((i : Nat) : Int), .int .i64 ((j : Nat) : Int), .int .i64 0, .int .i64 0]) (.int .i64 (91)) rfl ⟨k1, e70_2, (run_row Q1 33 0 5 [.int .i64 (3), .int .i64 ((i : Nat) : Int), .int .i64 ((j : Nat) : Int), .int .i64 0, .int .i64 0] rfl Try.underlying33 rfl sz33)⟩ rfl ⟨by unfold foR; rw [fs_hit hG (fs_hit hH ((foG_of hx hy).trans (by rw [hf60, hf61]; rfl)) (by rw [itO_of hx]; exact hjl)) hil]; rfl, M⟩
        | false =>
          refine wl_call 53 [(.tmp 30), (.tmp 31), (.tmp 33)] _ [pt z.cb 0, .int .i64 ((i : Nat) : Int), .agg #[.int .i64 y.ex.k, .int .i64 y.ex.op, .string y.ex.nm, .string y.ex.se, .int .i64 y.ex.v.k, .bool y.ex.v.d.b, .int .u64 y.ex.v.d.n0, .int .u64 y.ex.v.d.n1, .int .u64 y.ex.v.d.n2, .int .u64 y.ex.v.d.n3, .int .i64 y.ex.v.d.s, .bool y.ex.v.f, .string y.ex.v.t, .int .i64 y.ex.v.e, .int .i64 y.ex.sc, .int .i64 y.ex.po, .slice y.ex.pa y.ex.args.length y.ex.cap]] (.bool false) rfl rfl (fun _ _ => by kernel_rfl) (cB hf61 (lacks_n i hil y.ex (hC.mo M) ((h5.ex y (List.mem_of_getElem? hy)).kp M.kp))) rfl ?_
          intro w73 hq
          replace Q1 := Q1.mo hq
          replace Q3 := Q3.mo hq
          replace M := M.trans hq
          clear hq
          refine wl_pick (.tmp 29) (.tmp 34) (.const (.bool false)) true (.bool false) (fun _ => rfl) rfl rfl rfl ?_
          refine w_nil ?_
          refine xn_then ?_
          refine w_condF rfl ?_
          refine w_skip ?_
          refine xn_blk ?_
          refine xn_then ?_
          refine w_reg ?_
          refine wl_bin (fun x y => do eqGuard .add 3 (.tmp 21) (.const (.int .i64 (1))) x y; binOp .add 3 x y) (.tmp 21) (.const (.int .i64 (1))) (.int .i64 ((j : Nat) : Int)) (.int .i64 (1)) (.int .i64 ((j + 1 : Nat) : Int)) (fun _ => rfl) e70_i rfl (add1r (k := j) (by omega) _ _ _) rfl ?_
          refine wl_mv (.tmp 39) (.int .i64 ((j + 1 : Nat) : Int)) (fun _ => rfl) rfl rfl ?_
          refine w_nil ?_
          exact xn_loop (x.items.length - (j + 1)) (by omega) ⟨j + 1, rfl, by omega, e70_0, e70_2, e70_4, e70_11, e70_12, e70_13, e70_19, e70_20, rfl, Q1, fs_step hH ((foG_of hx hy).trans (by rw [hf60, hf61]; rfl)), M⟩
    · skip
      have hjd : decide (j < x.items.length) = false := decide_eq_false hjl
      have hje : j = x.items.length := by omega
      refine w_seq ?_
      refine w_reg ?_
      refine wl_bin (fun x y => do eqGuard .lss 3 (.tmp 21) (.tmp 20) x y; binOp .lss 3 x y) (.tmp 21) (.tmp 20) (.int .i64 ((j : Nat) : Int)) (.int .i64 ((x.items.length : Nat) : Int)) (.bool false) (fun _ => rfl) e70_i e70_20 (ltN hjd _ _ _) rfl ?_
      refine w_nil ?_
      refine xn_then ?_
      refine w_seq ?_
      refine w_condF rfl ?_
      refine w_exit ?_
      refine xx_then ?_
      refine xx_then ?_
      refine xx_blk ?_
      refine xn_blk ?_
      refine xn_then ?_
      refine w_reg ?_
      refine wl_bin (fun x y => do eqGuard .add 3 (.tmp 13) (.const (.int .i64 (1))) x y; binOp .add 3 x y) (.tmp 13) (.const (.int .i64 (1))) (.int .i64 ((i : Nat) : Int)) (.int .i64 (1)) (.int .i64 ((i + 1 : Nat) : Int)) (fun _ => rfl) e70_13 rfl (add1r (k := i) (by omega) _ _ _) rfl ?_
      refine wl_mv (.tmp 40) (.int .i64 ((i + 1 : Nat) : Int)) (fun _ => rfl) rfl rfl ?_
      refine w_nil ?_
      exact xn_loop (z.L.length - (i + 1)) (by omega) ⟨i + 1, rfl, by omega, e70_0, e70_2, e70_11, e70_12, rfl, Q1, fs_step hG (fs_none (by rw [itO_of hx, ← hje]; exact hH)), M⟩
  · skip
    have hid : decide (i < z.L.length) = false := decide_eq_false hil
    have hie : i = z.L.length := by omega
    refine w_seq ?_
    refine w_reg ?_
    refine wl_bin (fun x y => do eqGuard .lss 3 (.tmp 13) (.tmp 12) x y; binOp .lss 3 x y) (.tmp 13) (.tmp 12) (.int .i64 ((i : Nat) : Int)) (.int .i64 ((z.L.length : Nat) : Int)) (.bool false) (fun _ => rfl) e40_i e40_12 (ltN hid _ _ _) rfl ?_
    refine w_nil ?_
    refine xn_then ?_
    refine w_seq ?_
    refine w_condF rfl ?_
    refine w_exit ?_
    refine xx_then ?_
    refine xx_then ?_
    refine xx_blk ?_
    refine xn_then ?_
    refine w_seq ?_
    refine w_reg ?_
    refine wl_build 33 [] [] (.agg #[.int .i64 0, .int .i64 0, .int .i64 0, .int .i64 0, .int .i64 0]) rfl rfl (by kernel_rfl) rfl ?_
    refine wl_st 33 (.tmp 2) (.tmp 41) k1 0 #[.int .i64 0, .int .i64 0, .int .i64 0, .int .i64 0, .int .i64 0] [.int .i64 0, .int .i64 0, .int .i64 0, .int .i64 0, .int .i64 0] [.int .i64 0, .int .i64 0, .int .i64 0, .int .i64 0, .int .i64 0] Q1 rfl rfl e40_2 rfl rfl sz33 rfl rfl rfl ?_
    intro w41 hS Qn
    replace Q1 := Qn
    clear Qn
    replace M := hS.mo _ N_k1 M
    clear hS
    refine wl_mv (.const (.int .i64 (0))) (.int .i64 (0)) (fun _ => rfl) rfl rfl ?_
    refine w_nil ?_
    refine xn_then ?_
    refine w_ret ?_
    exact w_ret2 _ _ (.agg #[.int .i64 0, .int .i64 0, .int .i64 0, .int .i64 0, .int .i64 0]) (.int .i64 (0)) rfl ⟨k1, e40_2, (run_row Q1 33 0 5 [.int .i64 0, .int .i64 0, .int .i64 0, .int .i64 0, .int .i64 0] rfl Try.underlying33 rfl sz33)⟩ rfl ⟨by unfold foR; rw [fs_none (by rw [← hie]; exact hG)]; rfl, M⟩
end Go.Proofs.Ytbanldffohopiaa
