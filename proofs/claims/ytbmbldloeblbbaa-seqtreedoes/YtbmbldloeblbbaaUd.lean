/-
  SeqtreeUndoes: the law's walk.
-/
import Derived.Test.YtbmbldloeblbbaaGk
namespace Go.Proofs.Ytbmbldloeblbbaa
open Go.RowKit
namespace R
section
variable {w : World}
theorem wo_callx {P : Program} {o : Oper} {n : Nat} {l : List (Nat × Value)} {w : World} {Q : Exit → Act → World → Prop} {K : Act → World → Prop} (g : FuncId) (xs : List Operand) (ats : Array TypeId) (args : List Value) {F : Ending → World → Prop} (ho : o.op = .call { callee := .value (.func g), args := xs.toArray, argTypes := ats }) (hx : xs.map (evl n l) = args)
    (h : ∀ args w, (callFunc g args).run P w = .ok (.enter g args) w)
    (hc : Calls P g args.toArray w F) (hk : ∀ v w', F v w' → ∃ u, v = .returned u ∧ K (fr n (ext l o.dst u)) w') : WO P o n l w K Q := by
  have e : (execOp (evl n l) o).run P w = .ok (.enter g args.toArray) w := by
    obtain ⟨dst, op, ty, pos, after, guard⟩ := o
    simp only at ho
    subst ho hx
    have e2 := execOp_call_go (fr n l) dst g xs.toArray ats ty pos after guard
    rw [fr_eval] at e2
    rw [e2, h]
    simp
  refine ⟨?_⟩
  unfold Oper.wp; rw [fr_eval, e, Oper.upon_enter]
  refine hc.mono ?_
  intro e w' hF
  obtain ⟨u, rfl, hW⟩ := hk e w' hF
  show K _ _
  rw [fr_put]
  exact hW
theorem del_sz {tr tr1 : T} {x p : Int} (hD : Del tr x p tr1) : tr1.sz ≤ tr.sz := by
  obtain ⟨X, Y, h1, h2, h3⟩ := hD.ids
  have a1 := tr.sz_ids
  have a2 := tr1.sz_ids
  rw [h1, List.length_append, List.length_cons] at a1
  rw [h3, List.length_append] at a2
  omega
theorem undoes_n (sc : List Op3) (p : Option Addr) (cap : Nat) (hsc : ∀ o ∈ sc, o.ok) (hSA : SA w p sc) (hn : sc.length ≤ 6000000000000) (x1 : Int) (_hi1 : I64 x1) (x2 : Int) (hi2 : I64 x2) (x3 : Int) (_hi3 : I64 x3) : Calls Try.prog 6 #[.slice p sc.length cap, .int .i64 x1, .int .i64 x2, .int .i64 x3] w fun e w' => e = .returned (.bool true) ∧ Mo w w' := by
  refine calls_of (m := 9) (w_enter 101 Try.func6 Try.ntmps6 rfl rfl ?_)
  have M : Mo w w := Mo.refl _
  refine w_seq ?_
  refine w_reg ?_
  refine wl_mv (.const (.bool false)) (.bool false) (fun _ => rfl) rfl rfl ?_
  refine w_nil ?_
  refine xn_then ?_
  refine w_seq ?_
  refine w_reg ?_
  refine wl_callx 8 [] _ [] rfl rfl (fun _ _ => by kernel_rfl) (new_g (n0 := w.heap.size) (ks := []) _ M.size (fun _ e => by cases e)) rfl ?_
  rintro _ w1 ⟨t, mb, rfl, hG, hq⟩
  refine ⟨_, rfl, ?_⟩
  replace M := M.trans hq
  clear hq
  refine wl_mv (.tmp 21) (pt t 0) (fun _ => rfl) rfl rfl ?_
  refine w_nil ?_
  refine xn_then ?_
  refine w_seq ?_
  refine w_seq ?_
  refine w_reg ?_
  refine wl_call 9 [] _ [] (.bool true) rfl rfl (fun _ _ => by kernel_rfl) (begun_n _) rfl ?_
  intro w2 hq
  replace hG := hG.mo hq
  replace M := M.trans hq
  clear hq
  refine wl_un (fun v => Op.unary .not v) (.tmp 22) (.bool true) (.bool false) (fun _ => rfl) rfl (by kernel_rfl) rfl ?_
  refine wl_mv (.tmp 23) (.bool false) (fun _ => rfl) rfl rfl ?_
  refine wl_mv (.tmp 9) (pt t 0) (fun _ => rfl) rfl rfl ?_
  refine wl_bin (fun x y => do eqGuard .eql 23 (.tmp 25) (.const (.pointer none)) x y; binOp .eql 23 x y) (.tmp 25) (.const (.pointer none)) (pt t 0) (pp none) (.bool false) (fun _ => rfl) rfl rfl (by kernel_rfl) rfl ?_
  refine wl_pick (.tmp 24) (.const (.bool true)) (.tmp 26) false (.bool false) (fun _ => rfl) rfl rfl rfl ?_
  refine w_nil ?_
  refine xn_then ?_
  refine w_condF rfl ?_
  refine w_skip ?_
  refine xn_then ?_
  refine w_seq ?_
  refine w_seq ?_
  refine w_reg ?_
  refine wl_mv (.tmp 0) (.slice p sc.length cap) (fun _ => rfl) rfl rfl ?_
  refine wl_val (.int .i64 ((sc.length : Int))) (len22 _ _ _ _ _ (by exact rfl) _ _ _ _ _ _) rfl ?_
  refine wl_mv (.const (.int .i64 (0))) (.int .i64 (0)) (fun _ => rfl) rfl rfl ?_
  refine w_nil ?_
  refine xn_then ?_
  refine w_block ?_
  refine w_loop (fun r l w1 => ∃ (i : Nat) (tr : T) (lk : Int), r + i = sc.length ∧ look l 1 = .int .i64 x1 ∧ look l 2 = .int .i64 x2 ∧ look l 3 = .int .i64 x3 ∧ look l 8 = .bool false ∧ look l 9 = pt t 0 ∧ look l 28 = .slice p sc.length cap ∧ look l 29 = .int .i64 (sc.length : Int) ∧ look l 30 = .int .i64 (i : Int) ∧ GT w.heap.size [] w1 t mb tr lk ∧ tr.bw ∧ lk ≤ 200000 * i ∧ Mo w w1) sc.length ⟨0, .e, 0, by omega, rfl, rfl, rfl, rfl, rfl, rfl, rfl, rfl, hG, trivial, by decide, M⟩ ?_
  clear M hG
  rintro m l wc ⟨i, tr, lk, hm, g1, g2, g3, g8, g9, g28, g29, g30, hG, hb, hlk, M⟩
  have hle := hG.le
  refine w_seq ?_
  cases hf0 : decide (((i : Nat) : Int) < (sc.length : Int)) with
  | true =>
    have hf0p := of_decide_eq_true hf0
    refine w_reg ?_
    refine wl_bin (fun x y => do eqGuard .lss 3 (.tmp 30) (.tmp 29) x y; binOp .lss 3 x y) (.tmp 30) (.tmp 29) (.int .i64 ((i : Nat) : Int)) (.int .i64 ((sc.length : Int))) (.bool true) (fun _ => rfl) g30 g29 (ltI hf0 _ _ _) rfl ?_
    refine w_nil ?_
    refine xn_then ?_
    refine w_seq ?_
    refine w_condT rfl ?_
    refine w_skip ?_
    refine xn_then ?_
    refine w_seq ?_
    refine w_block ?_
    refine w_seq ?_
    refine w_reg ?_
    obtain ⟨o, ho⟩ : ∃ o, sc[i]? = some o := ⟨sc[i]'(by omega), List.getElem?_eq_getElem _⟩
    have hok := hsc o (List.mem_of_getElem? ho)
    obtain ⟨b, off, hpb, hbl, hrg⟩ := (hSA.mo M) _ o ho
    refine wl_bin (fun x y => Instr.indexAt 22 x y) (.tmp 28) (.tmp 30) (.slice p sc.length cap) (.int .i64 ((i : Nat) : Int)) (pt b (off + i * 3)) (fun _ => rfl) g28 g30 (by rw [hpb]; exact ix22 b off i _ _ (by omega) _) rfl ?_
    refine wl_load 31 (.tmp 32) (pt b (off + i * 3)) (.agg #[.int .i64 (o.d), .int .i64 (o.a), .int .i64 (o.i)]) rfl rfl (SA.load hrg) rfl ?_
    refine wl_alloc 31 #[.int .i64 0, .int .i64 0, .int .i64 0] rfl (fun _ => by kernel_rfl) rfl ?_
    intro k11 w11 hk hz hq Q11
    have N_k11 : w.heap.size ≤ k11 := by have := M.size; omega
    replace hG := hG.push (Nat.le_of_eq hk) (by omega) hq
    replace M := M.trans hq
    clear hk hz hq
    refine wl_stx2 31 (.tmp 11) (.tmp 33) k11 0 #[.int .i64 (o.d), .int .i64 (o.a), .int .i64 (o.i)] [.int .i64 0, .int .i64 0, .int .i64 0] [.int .i64 (o.d), .int .i64 (o.a), .int .i64 (o.i)] Q11 rfl rfl rfl rfl rfl sz31 rfl rfl rfl ?_
    intro w12 hT Qn
    replace Q11 := Qn
    clear Qn
    replace hG := hG.st hT (by simp)
    replace M := (Mk.refl (fun j => j = k11) _ |>.st hT rfl).mo M (fun _ e => e ▸ N_k11)
    clear hT
    refine w_nil ?_
    refine xn_then ?_
    refine w_reg ?_
    refine wl_mv (.tmp 9) (pt t 0) (fun _ => rfl) g9 rfl ?_
    refine wl_un (fun v => Instr.fieldAt 31 v 1) (.tmp 11) (pt k11 0) (pt k11 1) (fun _ => rfl) rfl (by kernel_rfl) rfl ?_
    refine wl_load 3 (.tmp 35) (pt k11 1) (.int .i64 (o.a)) rfl rfl (run_one Q11 3 1 rfl Try.underlying3 rfl) rfl ?_
    refine wl_un (fun v => Instr.fieldAt 31 v 2) (.tmp 11) (pt k11 0) (pt k11 2) (fun _ => rfl) rfl (by kernel_rfl) rfl ?_
    refine wl_load 2 (.tmp 37) (pt k11 2) (.int .i64 (o.i)) rfl rfl (run_one Q11 2 2 rfl Try.underlying2 rfl) rfl ?_
    refine wl_callx 19 [(.tmp 34), (.tmp 36), (.tmp 38)] _ [pt t 0, .int .i64 (o.a), .int .i64 (o.i)] rfl rfl (fun _ _ => by kernel_rfl) (ins_any hG hb hok.2.2 (by omega)) rfl ?_
    rintro _ w13 ⟨tr2, lk2, rfl, hG, hb2, hk1, hk2, hk3, hM2⟩
    refine ⟨_, rfl, ?_⟩
    replace M := Wr.mo hM2 M (Nat.le_refl _)
    replace Q11 := Wr.at hM2 Q11 (by simp)
    clear hM2
    refine w_nil ?_
    refine xn_blk ?_
    refine xn_then ?_
    refine w_reg ?_
    refine wl_bin (fun x y => do eqGuard .add 3 (.tmp 30) (.const (.int .i64 (1))) x y; binOp .add 3 x y) (.tmp 30) (.const (.int .i64 (1))) (.int .i64 ((i : Nat) : Int)) (.int .i64 (1)) (.int .i64 ((i + 1 : Nat) : Int)) (fun _ => rfl) g30 rfl (add1r (by omega) _ _ _) rfl ?_
    refine wl_mv (.tmp 40) (.int .i64 ((i + 1 : Nat) : Int)) (fun _ => rfl) rfl rfl ?_
    refine w_nil ?_
    have hle2 := hG.le
    have hz1 := bm_hi hle hle2
    exact xn_loop (m - 1) (by omega) ⟨i + 1, tr2, lk2, by omega, g1, g2, g3, g8, g9, g28, g29, rfl, hG.pop (fun _ e => by cases e), hb2, by omega, M⟩
  | false =>
    have hf0p := of_decide_eq_false hf0
    refine w_reg ?_
    refine wl_bin (fun x y => do eqGuard .lss 3 (.tmp 30) (.tmp 29) x y; binOp .lss 3 x y) (.tmp 30) (.tmp 29) (.int .i64 ((i : Nat) : Int)) (.int .i64 ((sc.length : Int))) (.bool false) (fun _ => rfl) g30 g29 (ltI hf0 _ _ _) rfl ?_
    refine w_nil ?_
    refine xn_then ?_
    refine w_seq ?_
    refine w_condF rfl ?_
    refine w_exit ?_
    refine xx_then ?_
    refine xx_then ?_
    refine xx_blk ?_
    refine xn_then ?_
    refine w_seq ?_
    refine w_reg ?_
    refine wl_alloc 26 #[.slice none 0 0] rfl (fun _ => by kernel_rfl) rfl ?_
    intro k11 w11 hk hz hq Q11
    have N_k11 : w.heap.size ≤ k11 := by have := M.size; omega
    replace hG := hG.push (Nat.le_of_eq hk) (by omega) hq
    replace M := M.trans hq
    clear hk hz hq
    refine w_nil ?_
    refine xn_then ?_
    refine w_seq ?_
    refine w_seq ?_
    refine w_reg ?_
    refine wl_mv (.tmp 9) (pt t 0) (fun _ => rfl) g9 rfl ?_
    have hk1s := Q11.lt
    refine wl_callx 17 [(.tmp 41)] _ [pt t 0] rfl rfl (fun _ _ => by kernel_rfl) (all_g hG) rfl ?_
    rintro _ w12 ⟨kb, p3, cap3, rfl, QB, hSI, hpb3, _, hq⟩
    refine ⟨_, rfl, ?_⟩
    replace Q11 := Q11.mo hq
    replace hG := hG.mo hq
    replace M := M.trans hq
    clear hq
    refine w_nil ?_
    refine xn_then ?_
    refine w_block ?_
    have hNR : w.heap.size ≤ w12.heap.size := M.size
    have hmb := hG.mbl
    have hidl : tr.ids.length ≤ 1024 := by have := tr.sz_ids; omega
    have hkx : k11 < w12.heap.size := Q11.lt
    refine w_rf 32 #[] #[pt kb 0] rfl (fun _ _ => by kernel_rfl) (fun x : Int × Nat => #[.int .i64 (x.2 : Int), .int .i64 x.1]) (Kd (pb p3)) (fun xs => xs = tr.ids.zipIdx) (fun pre => ∃ i : Nat, 0 < i ∧ i ≤ tr.ids.length ∧ pre = (tr.ids.take i).zipIdx) tr.ids.length (all1_seq QB hSI (by omega)) Kd.tr (fun W l o o' hl _ _ _ k hk => World.putObj_heap_other (by have := (hpb3 k hk).2; omega)) (fun _ => rfl) (fun pre W => ∃ v, At W k11 [v] ∧ W.ownsRow w12.heap.size 2 1 v pre.length (pre.map (fun x : Int × Nat => Value.int .i64 x.1)) ∧ v.ownBlock ≠ some k11 ∧ GT w.heap.size (oks v ++ [k11]) W t mb tr lk ∧ Mo w W ∧ w12.heap.size ≤ W.heap.size) (fun _ _ _ => False) ?hI (fun _ _ _ _ _ h _ _ _ => h) ⟨.slice none 0 0, Q11, World.ownsRow_nil _ _ _ _, (fun e => by cases e), hG, M, Nat.le_refl _⟩ _ ?lx (fun x => frps2 43 44 _ _) ?assign ?body ?done (fun _ _ _ _ _ _ h _ => h.elim)
    case hI => exact fun s9 W W' row ⟨v, h1, h2, h3, h4, h5, h6⟩ hg hf hr => ⟨v, h1.grown hg (fun r e => (hr r e).2), own_grown h2 hg (fun r e => (hr r e).2), h3, h4.grown hg hf hr hmb, own_moF hNR s9 W W' row h5 hg hf hr, Nat.le_trans h6 hg.size⟩
    case assign =>
      intro lp x W K hK
      refine w_reg ?_
      refine wl_mv (.tmp 44) (.int .i64 (x.1)) (fun _ => rfl) rfl rfl ?_
      refine w_nil ?_
      exact hK
    case body =>
      rintro lp pre x W ⟨v, Q11, hown, on1, hG, M, hW9⟩ hlen
      have Q0 := Q11
      have hown0 := hown
      refine w_block ?_
      refine w_reg ?_
      refine wl_load 26 (.tmp 12) (pt k11 0) v rfl rfl (run_one Q11 26 0 rfl Try.underlying26 rfl) rfl ?_
      refine wl_mv (.tmp 14) (.int .i64 x.1) (fun _ => rfl) rfl rfl ?_
      refine wl_bs26 (.tmp 46) x.1 rfl rfl rfl ?_
      intro kn w5 hk _ hq QN
      replace Q11 := Q11.mo hq
      replace hown := own_mo hown hq
      replace hG := hG.mo hq
      replace M := M.trans hq
      refine wl_app26 (.tmp 45) (.tmp 47) w12.heap.size v pre.length (pre.map (fun x : Int × Nat => Value.int .i64 x.1)) kn 1 1 [.int .i64 x.1] rfl rfl rfl hown rfl QN (fun u hu => by rw [List.mem_singleton.1 hu]; rfl) (by decide) (by omega) (Nat.le_trans hW9 hq.size) rfl ?_
      intro v2 w6 hown2 hAp hob
      have on2 : v2.ownBlock ≠ some k11 := fun e => by rcases hob with h | h; exact on1 (h.symm.trans e); rw [h] at e; cases e; have := Q11.lt; omega
      have hG2 := hG.app hAp hob (fun g e => (hown2.lt g e).2)
      replace Q11 := hAp.at Q11 on1
      replace M := hAp.mo M (fun k e => by have := (hown.lt k e).1; omega)
      obtain ⟨g5, c5, hv5, _⟩ := hown2.form (by omega)
      refine wl_st1x 26 (.tmp 12) (.tmp 48) k11 0 v2 [v] [v2] Q11 rfl rfl rfl rfl rfl sz26 (by rw [hv5]; rfl) (by rw [hv5]; rfl) rfl rfl ?_
      intro w7 hT Q17
      refine w_nil ?_
      refine xn_blk ?_
      have hAll : AppW v W w6 := (AppW.trans ⟨hq.1.os, hq.1.tape, hq.1.output, hq.size, fun k hk _ => hq.1.block k hk, hq.2⟩ hAp)
      have hkd : Kd (pb p3) W w7 := fun j hj => (hT.block j (fun e => by have := (hpb3 j hj).1; omega)).trans (hAll.block j (by have := (hpb3 j hj).2; omega) (fun e => by have := (hown0.lt j e).1; have := (hpb3 j hj).2; omega))
      have hl9 : (pre ++ [x]).length = pre.length + 1 := by simp
      exact WX.mk ⟨keeps_app hown0 hAll hT Q0, hkd, v2, Q17, by rw [hl9, List.map_append]; exact own_st2 hown2 hT on2, on2, hG2.st hT (by simp), (Mk.refl (fun j => j = k11) _ |>.st hT rfl).mo M (fun _ e => e ▸ N_k11), by rw [hT.size]; exact Nat.le_trans hW9 (Nat.le_trans hq.size hAp.size)⟩
    case done =>
      rintro D xs W hD rfl ⟨v, Q11, hown, _, hG, M, _⟩ hK
      replace hD := Nat.le_trans hNR hD
      have hmp : tr.ids.zipIdx.map (fun x : Int × Nat => Value.int .i64 x.1) = tr.ids.map (fun i => Value.int .i64 i) := by rw [show (fun x : Int × Nat => Value.int .i64 x.1) = (fun i => Value.int .i64 i) ∘ Prod.fst from rfl, ← List.map_map, List.zipIdx_map_fst]
      rw [hmp] at hown
      have hvl : ∀ k, k ∈ oks v → v.ownBlock = some k := fun k e => mem_oks.1 e
      obtain ⟨pw, cw, hv, hSW, hpw⟩ := own_si hown
      have hpo : ∀ k, pb pw k → k ∈ oks v := fun k ⟨off, e⟩ => mem_oks.2 (by rw [hv, e]; rfl)
      subst hv
      replace hG := hG.pushD hK
      obtain ⟨kl, hkl⟩ : ∃ kl, kl = D :: (oks (.slice pw tr.ids.length cw) ++ [k11]) := ⟨_, rfl⟩
      rw [← hkl] at hG
      have hkD : D ∈ kl := by rw [hkl]; simp
      have hkX : k11 ∈ kl := by rw [hkl]; simp
      replace hpo : ∀ k, pb pw k → k ∈ kl := fun k hk => by rw [hkl]; exact List.mem_cons_of_mem _ (List.mem_append.2 (Or.inl (hpo k hk)))
      replace hpw : ∀ k, pb pw k → k < W.heap.size := fun k hk => (hpw k hk).2
      obtain ⟨L, hL⟩ : ∃ L, L = tr.ids := ⟨_, rfl⟩
      rw [← hL] at hSW
      have hLn : L.length ≤ 1024 := by have := hG.le; have := tr.sz_ids; rw [hL]; omega
      rw [← hL] at Q11
      clear hown hvl hkl QB hSI hpb3
      refine xn_blk ?_
      refine xn_then ?_
      refine w_cut (fun l w1 => ∃ (tr3 : T) (lk3 : Int), look l 2 = .int .i64 x2 ∧ look l 3 = .int .i64 x3 ∧ look l 9 = pt t 0 ∧ look l 12 = pt k11 0 ∧ GT w.heap.size kl w1 t mb tr3 lk3 ∧ tr3.ids = L ∧ lk3 ≤ 200000 * sc.length + 30000 ∧ At w1 k11 [.slice pw L.length cw] ∧ SI w1 pw L ∧ (∀ k, pb pw k → k < w1.heap.size) ∧ w1.heap[D]? = some (.deferred (some [])) ∧ Mo w w1) ?_ ?_
      · skip
        rintro l9 w9 ⟨tr3, lk3, g2, g3, g9, g12, hG, hL3, hlk3, Q11, hSW, hpw, hK, M⟩
        have hle3 := hG.le
        have hnd3 := hG.nd
        refine w_seq ?_
        refine w_seq ?_
        cases hf20 : decide (x2 ∈ tr3.ids) with
        | true =>
          have hf20p := of_decide_eq_true hf20
          cases hf21 : decide (x3 < 0 ∨ tr3.sz ≤ x3) with
          | true =>
            have hf21p := of_decide_eq_true hf21
            refine w_reg ?_
            refine wl_mv (.tmp 9) (pt t 0) (fun _ => rfl) g9 rfl ?_
            refine wl_mv (.tmp 2) (.int .i64 (x2)) (fun _ => rfl) g2 rfl ?_
            refine wl_mv (.tmp 3) (.int .i64 (x3)) (fun _ => rfl) g3 rfl ?_
            refine wl_call 21 [(.tmp 75), (.tmp 76), (.tmp 77)] _ [pt t 0, .int .i64 (x2), .int .i64 (x3)] (.tuple #[.int .i64 (0), .int .i64 (1)]) rfl rfl (fun _ _ => by kernel_rfl) (move_at hG (of_decide_eq_true hf20) (of_decide_eq_true hf21)) rfl ?_
            intro w61 hq
            replace Q11 := Q11.mo hq
            replace hG := hG.mo hq
            replace hSW := hSW.mo hq
            replace hK := dk_mo hK hq
            replace hpw := fun k hk => Nat.lt_of_lt_of_le (hpw k hk) hq.size
            replace M := M.trans hq
            clear hq
            refine wl_mv (.tmp 78) (.tuple #[.int .i64 (0), .int .i64 (1)]) (fun _ => rfl) rfl rfl ?_
            refine wl_un (fun v => Instr.extract v 0) (.tmp 74) (.tuple #[.int .i64 (0), .int .i64 (1)]) (.int .i64 (0)) (fun _ => rfl) rfl (by kernel_rfl) rfl ?_
            refine wl_un (fun v => Instr.extract v 1) (.tmp 74) (.tuple #[.int .i64 (0), .int .i64 (1)]) (.int .i64 (1)) (fun _ => rfl) rfl (by kernel_rfl) rfl ?_
            refine wl_mv (.tmp 79) (.int .i64 (0)) (fun _ => rfl) rfl rfl ?_
            refine wl_mv (.tmp 80) (.int .i64 (1)) (fun _ => rfl) rfl rfl ?_
            refine w_nil ?_
            refine xn_then ?_
            refine w_seq ?_
            refine w_reg ?_
            refine wl_mv (.tmp 18) (.int .i64 (1)) (fun _ => rfl) rfl rfl ?_
            refine wl_bin (fun x y => do eqGuard .eql 46 (.tmp 81) (.const (.int .i64 (0))) x y; binOp .eql 46 x y) (.tmp 81) (.const (.int .i64 (0))) (.int .i64 (1)) (.int .i64 (0)) (.bool false) (fun _ => rfl) rfl rfl (by kernel_rfl) rfl ?_
            refine w_nil ?_
            refine xn_then ?_
            refine w_condF rfl ?_
            refine w_skip ?_
            refine xn_then ?_
            refine w_seq ?_
            have hsm : Smos [vq (pt t 0), fun u w9 => ∃ kb9 p9 cap9, u = .func (.func 32) #[] #[pt kb9 0] ∧ At w9 kb9 [.slice p9 tr3.ids.length cap9] ∧ SI w9 p9 tr3.ids ∧ (∀ k, pb p9 k → k < w9.heap.size), vq (.slice pw L.length cw), vq (.bool true), vq (.bool true)] := smos_cons (smo_vq _) (smos_cons (fun u a b ⟨k9, p9, c9, h1, h2, h3, h4⟩ m => ⟨k9, p9, c9, h1, h2.mo m, h3.mo m, fun k hk => Nat.lt_of_lt_of_le (h4 k hk) m.size⟩) (smos_cons (smo_vq _) (smos_cons (smo_vq _) (smos_cons (smo_vq _) (smos_nil)))))
            have hgr : ∀ a b : World, Mo w61 a → Mo a b → Mo w61 b := fun _ _ h m => h.trans m
            refine w_ogc 5 (fun w9 => Mo w61 w9) [vq (pt t 0), fun u w9 => ∃ kb9 p9 cap9, u = .func (.func 32) #[] #[pt kb9 0] ∧ At w9 kb9 [.slice p9 tr3.ids.length cap9] ∧ SI w9 p9 tr3.ids ∧ (∀ k, pb p9 k → k < w9.heap.size), vq (.slice pw L.length cw), vq (.bool true), vq (.bool true)] [] (by kernel_rfl) (by kernel_rfl) (by kernel_rfl) (by kernel_rfl) rfl (by kernel_rfl) (by kernel_rfl) (by kernel_rfl) latec_nil ((Mo.refl _).drew) ?_ ?_
            · refine ea_cons ?_ (ea_cons ?_ (ea_cons ?_ (ea_cons ?_ (ea_cons ?_ (ea_nil)))))
              · exact oc_eq (pt t 0) rfl hgr hsm (fun f wf hG9 hd K hK => have Q11 := Q11.mo hG9; go_run rfl (wo_mv (.tmp 9) (pt t 0) (fun _ => rfl) g9 (hK _ (Mo.refl _))))
              · refine ⟨fun f wf hG9 hd K hK => ?_⟩
                exact go_run rfl (wo_callx 17 [(.tmp 97)] _ [pt t 0] rfl (li1 (hd 0 rfl)) (fun _ _ => by kernel_rfl) (all_g (hG.mo hG9)) (fun e9 w9 ⟨kb9, p9, cap9, he, h1, h2, h3, _, h4⟩ => ⟨_, he, hK _ w9 (hG9.trans h4) ⟨kb9, p9, cap9, rfl, h1, h2, fun k hk => (h3 k hk).2⟩ (fun j u _ hr => hsm j u _ _ hr h4)⟩))
              · exact oc_eq (.slice pw L.length cw) rfl hgr hsm (fun f wf hG9 hd K hK => have Q11 := Q11.mo hG9; go_run rfl (wo_load 26 (.tmp 12) (pt k11 0) (.slice pw L.length cw) rfl g12 (run_one Q11 26 0 rfl Try.underlying26 rfl) (hK _ (Mo.refl _))))
              · refine oc_eq (.bool true) rfl hgr hsm (fun f wf hG9 hd K hK => ?_)
                obtain ⟨kb9, p9, cap9, e9, h1, h2, h3⟩ := hd 1 rfl
                have hT9 := told_n (capw := cw) h1 h2 h3 (hSW.mo hG9) (fun k hk => Nat.lt_of_lt_of_le (hpw k hk) hG9.size) (by rw [hL3]; omega)
                rw [decide_eq_true (hL3)] at hT9
                exact go_run rfl (wo_call 16 [(.tmp 98), (.tmp 99)] _ [.func (.func 32) #[] #[pt kb9 0], .slice pw L.length cw] (.bool true) rfl (li2 e9 (hd 2 rfl)) (fun _ _ => by kernel_rfl) hT9 hK)
              · exact oc_eq (.bool true) rfl hgr hsm (fun f wf hG9 hd K hK => have Q11 := Q11.mo hG9; go_run rfl (wo_mv (.tmp 100) (.bool true) (fun _ => rfl) (hd 3 rfl) (hK _ (Mo.refl _))))
            intro f w62 hq hR
            have e9_0 := hR 0 rfl
            have e9_2 := hR 2 rfl
            have e9_3 := hR 3 rfl
            have e9_4 := hR 4 rfl
            replace Q11 := Q11.mo hq
            replace hG := hG.mo hq
            replace hSW := hSW.mo hq
            replace hK := dk_mo hK hq
            replace hpw := fun k hk => Nat.lt_of_lt_of_le (hpw k hk) hq.size
            replace M := M.trans hq
            clear hq hR hsm hgr
            refine w_nil ?_
            refine xn_then ?_
            refine w_ret ?_
            exact w_ret1m D _ (.bool true) rfl hK e9_4 ⟨rfl, Mo.putO M hD hK rfl rfl⟩
          | false =>
            have hf21p := of_decide_eq_false hf21
            refine w_reg ?_
            refine wl_mv (.tmp 9) (pt t 0) (fun _ => rfl) g9 rfl ?_
            refine wl_mv (.tmp 2) (.int .i64 (x2)) (fun _ => rfl) g2 rfl ?_
            refine wl_mv (.tmp 3) (.int .i64 (x3)) (fun _ => rfl) g3 rfl ?_
            refine wl_callx 21 [(.tmp 75), (.tmp 76), (.tmp 77)] _ [pt t 0, .int .i64 (x2), .int .i64 (x3)] rfl rfl (fun _ _ => by kernel_rfl) (move_g hG (of_decide_eq_true hf20) (by have := of_decide_eq_false hf21; omega) (by have := of_decide_eq_false hf21; omega) (by omega)) rfl ?_
            rintro _ w61 ⟨p4, kn4, tr4, tr5, lk4, rfl, hp40, hp4x, hD4, hI4, hG, hk41, hk42, hM2⟩
            refine ⟨_, rfl, ?_⟩
            replace M := Wr.mo hM2 M (Nat.le_refl _)
            replace Q11 := Wr.at hM2 Q11 hkX
            replace hSW := SI.mk hSW hM2 (fun j hj e => e.2 (hpo j hj))
            replace hK := ((hM2.block D (Array.getElem?_eq_some_iff.1 hK).1 (fun e => e.2 hkD)).trans hK)
            replace hpw := (fun k hk => Nat.lt_of_lt_of_le (hpw k hk) hM2.size)
            clear hM2
            have hnd4 := hG.nd
            have hdl := del_len hD4 hI4
            have hle4 := hG.le
            have hht4 := T.ht_le tr3
            have hht5 := T.ht_le tr4
            have hs4 := del_sz hD4
            refine wl_mv (.tmp 78) (.tuple #[.int .i64 (p4), .int .i64 (0)]) (fun _ => rfl) rfl rfl ?_
            refine wl_un (fun v => Instr.extract v 0) (.tmp 74) (.tuple #[.int .i64 (p4), .int .i64 (0)]) (.int .i64 (p4)) (fun _ => rfl) rfl (by kernel_rfl) rfl ?_
            refine wl_un (fun v => Instr.extract v 1) (.tmp 74) (.tuple #[.int .i64 (p4), .int .i64 (0)]) (.int .i64 (0)) (fun _ => rfl) rfl (by kernel_rfl) rfl ?_
            refine wl_mv (.tmp 79) (.int .i64 (p4)) (fun _ => rfl) rfl rfl ?_
            refine wl_mv (.tmp 80) (.int .i64 (0)) (fun _ => rfl) rfl rfl ?_
            refine w_nil ?_
            refine xn_then ?_
            refine w_seq ?_
            refine w_reg ?_
            refine wl_mv (.tmp 18) (.int .i64 (0)) (fun _ => rfl) rfl rfl ?_
            refine wl_bin (fun x y => do eqGuard .eql 46 (.tmp 81) (.const (.int .i64 (0))) x y; binOp .eql 46 x y) (.tmp 81) (.const (.int .i64 (0))) (.int .i64 (0)) (.int .i64 (0)) (.bool true) (fun _ => rfl) rfl rfl (by kernel_rfl) rfl ?_
            refine w_nil ?_
            refine xn_then ?_
            refine w_condT rfl ?_
            refine w_seq ?_
            refine w_reg ?_
            refine wl_mv (.tmp 9) (pt t 0) (fun _ => rfl) g9 rfl ?_
            refine wl_mv (.tmp 2) (.int .i64 (x2)) (fun _ => rfl) g2 rfl ?_
            refine wl_mv (.tmp 17) (.int .i64 (p4)) (fun _ => rfl) rfl rfl ?_
            refine wl_callx 21 [(.tmp 84), (.tmp 85), (.tmp 86)] _ [pt t 0, .int .i64 (x2), .int .i64 (p4)] rfl rfl (fun _ _ => by kernel_rfl) (move_g hG hdl.2.2 hp40 (by omega) (by omega)) rfl ?_
            rintro _ w62 ⟨q5, kn5, tr6, tr7, lk5, rfl, hq0, hqx, hD5, hI5, hG, hk51, hk52, hM2⟩
            refine ⟨_, rfl, ?_⟩
            replace M := Wr.mo hM2 M (Nat.le_refl _)
            replace Q11 := Wr.at hM2 Q11 hkX
            replace hSW := SI.mk hSW hM2 (fun j hj e => e.2 (hpo j hj))
            replace hK := ((hM2.block D (Array.getElem?_eq_some_iff.1 hK).1 (fun e => e.2 hkD)).trans hK)
            replace hpw := (fun k hk => Nat.lt_of_lt_of_le (hpw k hk) hM2.size)
            clear hM2
            obtain ⟨e1, e2⟩ := mov_mov hD4 hI4 hnd4 hq0 hqx hD5 hI5
            have d1 := decide_eq_true e1
            refine wl_mv (.tmp 87) (.tuple #[.int .i64 (q5), .int .i64 (0)]) (fun _ => rfl) rfl rfl ?_
            refine wl_un (fun v => Instr.extract v 0) (.tmp 83) (.tuple #[.int .i64 (q5), .int .i64 (0)]) (.int .i64 (q5)) (fun _ => rfl) rfl (by kernel_rfl) rfl ?_
            refine wl_un (fun v => Instr.extract v 1) (.tmp 83) (.tuple #[.int .i64 (q5), .int .i64 (0)]) (.int .i64 (0)) (fun _ => rfl) rfl (by kernel_rfl) rfl ?_
            refine wl_mv (.tmp 88) (.int .i64 (q5)) (fun _ => rfl) rfl rfl ?_
            refine wl_mv (.tmp 89) (.int .i64 (0)) (fun _ => rfl) rfl rfl ?_
            refine w_nil ?_
            refine xn_then ?_
            refine w_seq ?_
            refine w_reg ?_
            refine wl_mv (.tmp 19) (.int .i64 (q5)) (fun _ => rfl) rfl rfl ?_
            refine wl_mv (.tmp 3) (.int .i64 (x3)) (fun _ => rfl) g3 rfl ?_
            refine wl_bin (fun x y => do eqGuard .neq 3 (.tmp 90) (.tmp 91) x y; binOp .neq 3 x y) (.tmp 90) (.tmp 91) (.int .i64 (q5)) (.int .i64 (x3)) (.bool false) (fun _ => rfl) rfl rfl (neI d1 _ _ _) rfl ?_
            refine wl_mv (.tmp 92) (.bool false) (fun _ => rfl) rfl rfl ?_
            refine wl_mv (.tmp 20) (.int .i64 (0)) (fun _ => rfl) rfl rfl ?_
            refine wl_bin (fun x y => do eqGuard .neq 46 (.tmp 94) (.const (.int .i64 (0))) x y; binOp .neq 46 x y) (.tmp 94) (.const (.int .i64 (0))) (.int .i64 (0)) (.int .i64 (0)) (.bool false) (fun _ => rfl) rfl rfl (by kernel_rfl) rfl ?_
            refine wl_pick (.tmp 93) (.const (.bool true)) (.tmp 95) false (.bool false) (fun _ => rfl) rfl rfl rfl ?_
            refine w_nil ?_
            refine xn_then ?_
            refine w_condF rfl ?_
            refine w_skip ?_
            refine xn_then ?_
            refine w_seq ?_
            have hsm : Smos [vq (pt t 0), fun u w9 => ∃ kb9 p9 cap9, u = .func (.func 32) #[] #[pt kb9 0] ∧ At w9 kb9 [.slice p9 tr7.ids.length cap9] ∧ SI w9 p9 tr7.ids ∧ (∀ k, pb p9 k → k < w9.heap.size), vq (.slice pw L.length cw), vq (.bool true), vq (.bool true)] := smos_cons (smo_vq _) (smos_cons (fun u a b ⟨k9, p9, c9, h1, h2, h3, h4⟩ m => ⟨k9, p9, c9, h1, h2.mo m, h3.mo m, fun k hk => Nat.lt_of_lt_of_le (h4 k hk) m.size⟩) (smos_cons (smo_vq _) (smos_cons (smo_vq _) (smos_cons (smo_vq _) (smos_nil)))))
            have hgr : ∀ a b : World, Mo w62 a → Mo a b → Mo w62 b := fun _ _ h m => h.trans m
            refine w_ogc 5 (fun w9 => Mo w62 w9) [vq (pt t 0), fun u w9 => ∃ kb9 p9 cap9, u = .func (.func 32) #[] #[pt kb9 0] ∧ At w9 kb9 [.slice p9 tr7.ids.length cap9] ∧ SI w9 p9 tr7.ids ∧ (∀ k, pb p9 k → k < w9.heap.size), vq (.slice pw L.length cw), vq (.bool true), vq (.bool true)] [] (by kernel_rfl) (by kernel_rfl) (by kernel_rfl) (by kernel_rfl) rfl (by kernel_rfl) (by kernel_rfl) (by kernel_rfl) latec_nil ((Mo.refl _).drew) ?_ ?_
            · refine ea_cons ?_ (ea_cons ?_ (ea_cons ?_ (ea_cons ?_ (ea_cons ?_ (ea_nil)))))
              · exact oc_eq (pt t 0) rfl hgr hsm (fun f wf hG9 hd K hK => have Q11 := Q11.mo hG9; go_run rfl (wo_mv (.tmp 9) (pt t 0) (fun _ => rfl) g9 (hK _ (Mo.refl _))))
              · refine ⟨fun f wf hG9 hd K hK => ?_⟩
                exact go_run rfl (wo_callx 17 [(.tmp 97)] _ [pt t 0] rfl (li1 (hd 0 rfl)) (fun _ _ => by kernel_rfl) (all_g (hG.mo hG9)) (fun e9 w9 ⟨kb9, p9, cap9, he, h1, h2, h3, _, h4⟩ => ⟨_, he, hK _ w9 (hG9.trans h4) ⟨kb9, p9, cap9, rfl, h1, h2, fun k hk => (h3 k hk).2⟩ (fun j u _ hr => hsm j u _ _ hr h4)⟩))
              · exact oc_eq (.slice pw L.length cw) rfl hgr hsm (fun f wf hG9 hd K hK => have Q11 := Q11.mo hG9; go_run rfl (wo_load 26 (.tmp 12) (pt k11 0) (.slice pw L.length cw) rfl g12 (run_one Q11 26 0 rfl Try.underlying26 rfl) (hK _ (Mo.refl _))))
              · refine oc_eq (.bool true) rfl hgr hsm (fun f wf hG9 hd K hK => ?_)
                obtain ⟨kb9, p9, cap9, e9, h1, h2, h3⟩ := hd 1 rfl
                have hT9 := told_n (capw := cw) h1 h2 h3 (hSW.mo hG9) (fun k hk => Nat.lt_of_lt_of_le (hpw k hk) hG9.size) (by rw [e2.trans hL3]; omega)
                rw [decide_eq_true (e2.trans hL3)] at hT9
                exact go_run rfl (wo_call 16 [(.tmp 98), (.tmp 99)] _ [.func (.func 32) #[] #[pt kb9 0], .slice pw L.length cw] (.bool true) rfl (li2 e9 (hd 2 rfl)) (fun _ _ => by kernel_rfl) hT9 hK)
              · exact oc_eq (.bool true) rfl hgr hsm (fun f wf hG9 hd K hK => have Q11 := Q11.mo hG9; go_run rfl (wo_mv (.tmp 100) (.bool true) (fun _ => rfl) (hd 3 rfl) (hK _ (Mo.refl _))))
            intro f w63 hq hR
            have e9_0 := hR 0 rfl
            have e9_2 := hR 2 rfl
            have e9_3 := hR 3 rfl
            have e9_4 := hR 4 rfl
            replace Q11 := Q11.mo hq
            replace hG := hG.mo hq
            replace hSW := hSW.mo hq
            replace hK := dk_mo hK hq
            replace hpw := fun k hk => Nat.lt_of_lt_of_le (hpw k hk) hq.size
            replace M := M.trans hq
            clear hq hR hsm hgr
            refine w_nil ?_
            refine xn_then ?_
            refine w_ret ?_
            exact w_ret1m D _ (.bool true) rfl hK e9_4 ⟨rfl, Mo.putO M hD hK rfl rfl⟩
        | false =>
          have hf20p := of_decide_eq_false hf20
          refine w_reg ?_
          refine wl_mv (.tmp 9) (pt t 0) (fun _ => rfl) g9 rfl ?_
          refine wl_mv (.tmp 2) (.int .i64 (x2)) (fun _ => rfl) g2 rfl ?_
          refine wl_mv (.tmp 3) (.int .i64 (x3)) (fun _ => rfl) g3 rfl ?_
          refine wl_call 21 [(.tmp 75), (.tmp 76), (.tmp 77)] _ [pt t 0, .int .i64 (x2), .int .i64 (x3)] (.tuple #[.int .i64 (0), .int .i64 (4)]) rfl rfl (fun _ _ => by kernel_rfl) (move_no hG hi2 (of_decide_eq_false hf20)) rfl ?_
          intro w61 hq
          replace Q11 := Q11.mo hq
          replace hG := hG.mo hq
          replace hSW := hSW.mo hq
          replace hK := dk_mo hK hq
          replace hpw := fun k hk => Nat.lt_of_lt_of_le (hpw k hk) hq.size
          replace M := M.trans hq
          clear hq
          refine wl_mv (.tmp 78) (.tuple #[.int .i64 (0), .int .i64 (4)]) (fun _ => rfl) rfl rfl ?_
          refine wl_un (fun v => Instr.extract v 0) (.tmp 74) (.tuple #[.int .i64 (0), .int .i64 (4)]) (.int .i64 (0)) (fun _ => rfl) rfl (by kernel_rfl) rfl ?_
          refine wl_un (fun v => Instr.extract v 1) (.tmp 74) (.tuple #[.int .i64 (0), .int .i64 (4)]) (.int .i64 (4)) (fun _ => rfl) rfl (by kernel_rfl) rfl ?_
          refine wl_mv (.tmp 79) (.int .i64 (0)) (fun _ => rfl) rfl rfl ?_
          refine wl_mv (.tmp 80) (.int .i64 (4)) (fun _ => rfl) rfl rfl ?_
          refine w_nil ?_
          refine xn_then ?_
          refine w_seq ?_
          refine w_reg ?_
          refine wl_mv (.tmp 18) (.int .i64 (4)) (fun _ => rfl) rfl rfl ?_
          refine wl_bin (fun x y => do eqGuard .eql 46 (.tmp 81) (.const (.int .i64 (0))) x y; binOp .eql 46 x y) (.tmp 81) (.const (.int .i64 (0))) (.int .i64 (4)) (.int .i64 (0)) (.bool false) (fun _ => rfl) rfl rfl (by kernel_rfl) rfl ?_
          refine w_nil ?_
          refine xn_then ?_
          refine w_condF rfl ?_
          refine w_skip ?_
          refine xn_then ?_
          refine w_seq ?_
          have hsm : Smos [vq (pt t 0), fun u w9 => ∃ kb9 p9 cap9, u = .func (.func 32) #[] #[pt kb9 0] ∧ At w9 kb9 [.slice p9 tr3.ids.length cap9] ∧ SI w9 p9 tr3.ids ∧ (∀ k, pb p9 k → k < w9.heap.size), vq (.slice pw L.length cw), vq (.bool true), vq (.bool true)] := smos_cons (smo_vq _) (smos_cons (fun u a b ⟨k9, p9, c9, h1, h2, h3, h4⟩ m => ⟨k9, p9, c9, h1, h2.mo m, h3.mo m, fun k hk => Nat.lt_of_lt_of_le (h4 k hk) m.size⟩) (smos_cons (smo_vq _) (smos_cons (smo_vq _) (smos_cons (smo_vq _) (smos_nil)))))
          have hgr : ∀ a b : World, Mo w61 a → Mo a b → Mo w61 b := fun _ _ h m => h.trans m
          refine w_ogc 5 (fun w9 => Mo w61 w9) [vq (pt t 0), fun u w9 => ∃ kb9 p9 cap9, u = .func (.func 32) #[] #[pt kb9 0] ∧ At w9 kb9 [.slice p9 tr3.ids.length cap9] ∧ SI w9 p9 tr3.ids ∧ (∀ k, pb p9 k → k < w9.heap.size), vq (.slice pw L.length cw), vq (.bool true), vq (.bool true)] [] (by kernel_rfl) (by kernel_rfl) (by kernel_rfl) (by kernel_rfl) rfl (by kernel_rfl) (by kernel_rfl) (by kernel_rfl) latec_nil ((Mo.refl _).drew) ?_ ?_
          · refine ea_cons ?_ (ea_cons ?_ (ea_cons ?_ (ea_cons ?_ (ea_cons ?_ (ea_nil)))))
            · exact oc_eq (pt t 0) rfl hgr hsm (fun f wf hG9 hd K hK => have Q11 := Q11.mo hG9; go_run rfl (wo_mv (.tmp 9) (pt t 0) (fun _ => rfl) g9 (hK _ (Mo.refl _))))
            · refine ⟨fun f wf hG9 hd K hK => ?_⟩
              exact go_run rfl (wo_callx 17 [(.tmp 97)] _ [pt t 0] rfl (li1 (hd 0 rfl)) (fun _ _ => by kernel_rfl) (all_g (hG.mo hG9)) (fun e9 w9 ⟨kb9, p9, cap9, he, h1, h2, h3, _, h4⟩ => ⟨_, he, hK _ w9 (hG9.trans h4) ⟨kb9, p9, cap9, rfl, h1, h2, fun k hk => (h3 k hk).2⟩ (fun j u _ hr => hsm j u _ _ hr h4)⟩))
            · exact oc_eq (.slice pw L.length cw) rfl hgr hsm (fun f wf hG9 hd K hK => have Q11 := Q11.mo hG9; go_run rfl (wo_load 26 (.tmp 12) (pt k11 0) (.slice pw L.length cw) rfl g12 (run_one Q11 26 0 rfl Try.underlying26 rfl) (hK _ (Mo.refl _))))
            · refine oc_eq (.bool true) rfl hgr hsm (fun f wf hG9 hd K hK => ?_)
              obtain ⟨kb9, p9, cap9, e9, h1, h2, h3⟩ := hd 1 rfl
              have hT9 := told_n (capw := cw) h1 h2 h3 (hSW.mo hG9) (fun k hk => Nat.lt_of_lt_of_le (hpw k hk) hG9.size) (by rw [hL3]; omega)
              rw [decide_eq_true (hL3)] at hT9
              exact go_run rfl (wo_call 16 [(.tmp 98), (.tmp 99)] _ [.func (.func 32) #[] #[pt kb9 0], .slice pw L.length cw] (.bool true) rfl (li2 e9 (hd 2 rfl)) (fun _ _ => by kernel_rfl) hT9 hK)
            · exact oc_eq (.bool true) rfl hgr hsm (fun f wf hG9 hd K hK => have Q11 := Q11.mo hG9; go_run rfl (wo_mv (.tmp 100) (.bool true) (fun _ => rfl) (hd 3 rfl) (hK _ (Mo.refl _))))
          intro f w62 hq hR
          have e9_0 := hR 0 rfl
          have e9_2 := hR 2 rfl
          have e9_3 := hR 3 rfl
          have e9_4 := hR 4 rfl
          replace Q11 := Q11.mo hq
          replace hG := hG.mo hq
          replace hSW := hSW.mo hq
          replace hK := dk_mo hK hq
          replace hpw := fun k hk => Nat.lt_of_lt_of_le (hpw k hk) hq.size
          replace M := M.trans hq
          clear hq hR hsm hgr
          refine w_nil ?_
          refine xn_then ?_
          refine w_ret ?_
          exact w_ret1m D _ (.bool true) rfl hK e9_4 ⟨rfl, Mo.putO M hD hK rfl rfl⟩
      · skip
        refine w_seq ?_
        cases hf10 : decide (insE tr x1 x2 = 0) with
        | true =>
          have hf10p := of_decide_eq_true hf10
          refine w_reg ?_
          refine wl_mv (.tmp 9) (pt t 0) (fun _ => rfl) g9 rfl ?_
          refine wl_mv (.tmp 1) (.int .i64 (x1)) (fun _ => rfl) g1 rfl ?_
          refine wl_mv (.tmp 2) (.int .i64 (x2)) (fun _ => rfl) g2 rfl ?_
          obtain ⟨c1, c2, c3, c4, c5, c6⟩ := insE_0 (of_decide_eq_true hf10)
          refine wl_callx 19 [(.tmp 49), (.tmp 50), (.tmp 51)] _ [pt t 0, .int .i64 (x1), .int .i64 (x2)] rfl rfl (fun _ _ => by kernel_rfl) (insert_g hG c1 c2 c3 c4 c5 c6 (by omega)) rfl ?_
          rintro _ w41 ⟨rfl, kn1, tr1, lk1, hI1, hG, _, hk11, hk12, hM2⟩
          refine ⟨_, rfl, ?_⟩
          replace M := Wr.mo hM2 M (Nat.le_refl _)
          replace Q11 := Wr.at hM2 Q11 hkX
          replace hSW := SI.mk hSW hM2 (fun j hj e => e.2 (hpo j hj))
          replace hK := ((hM2.block D (Array.getElem?_eq_some_iff.1 hK).1 (fun e => e.2 hkD)).trans hK)
          replace hpw := (fun k hk => Nat.lt_of_lt_of_le (hpw k hk) hM2.size)
          clear hM2
          have hle1 := hG.le
          have hnd1 := hG.nd
          have hx1 := ins_mem hI1
          have hht := T.ht_le tr
          refine wl_bin (fun x y => do eqGuard .eql 46 (.tmp 52) (.const (.int .i64 (0))) x y; binOp .eql 46 x y) (.tmp 52) (.const (.int .i64 (0))) (.int .i64 (0)) (.int .i64 (0)) (.bool true) (fun _ => rfl) rfl rfl (by kernel_rfl) rfl ?_
          refine w_nil ?_
          refine xn_then ?_
          refine w_condT rfl ?_
          refine w_seq ?_
          refine w_reg ?_
          refine wl_mv (.tmp 9) (pt t 0) (fun _ => rfl) g9 rfl ?_
          refine wl_mv (.tmp 2) (.int .i64 (x2)) (fun _ => rfl) g2 rfl ?_
          refine wl_callx 20 [(.tmp 55), (.tmp 56)] _ [pt t 0, .int .i64 (x2)] rfl rfl (fun _ _ => by kernel_rfl) (delete_g hG hx1 (by omega)) rfl ?_
          rintro _ w42 ⟨p1, tr2, lk2, rfl, hp0, hpx, hD1, hG, hk21, hk22, hM2⟩
          refine ⟨_, rfl, ?_⟩
          replace M := Wr.mo hM2 M (Nat.le_refl _)
          replace Q11 := Wr.at hM2 Q11 hkX
          replace hSW := SI.mk hSW hM2 (fun j hj e => e.2 (hpo j hj))
          replace hK := ((hM2.block D (Array.getElem?_eq_some_iff.1 hK).1 (fun e => e.2 hkD)).trans hK)
          replace hpw := (fun k hk => Nat.lt_of_lt_of_le (hpw k hk) hM2.size)
          clear hM2
          obtain ⟨e1, e2⟩ := ins_del hI1 hnd1 hp0 hpx hD1
          have d1 := decide_eq_true e1
          have hht1 := T.ht_le tr1
          refine wl_mv (.tmp 57) (.tuple #[.int .i64 (p1), .int .i64 (0)]) (fun _ => rfl) rfl rfl ?_
          refine wl_un (fun v => Instr.extract v 0) (.tmp 54) (.tuple #[.int .i64 (p1), .int .i64 (0)]) (.int .i64 (p1)) (fun _ => rfl) rfl (by kernel_rfl) rfl ?_
          refine wl_un (fun v => Instr.extract v 1) (.tmp 54) (.tuple #[.int .i64 (p1), .int .i64 (0)]) (.int .i64 (0)) (fun _ => rfl) rfl (by kernel_rfl) rfl ?_
          refine wl_mv (.tmp 58) (.int .i64 (p1)) (fun _ => rfl) rfl rfl ?_
          refine wl_mv (.tmp 59) (.int .i64 (0)) (fun _ => rfl) rfl rfl ?_
          refine w_nil ?_
          refine xn_then ?_
          refine w_seq ?_
          have hsm : Smos [vq (.int .i64 (p1)), vq (.int .i64 (x1)), vq (.bool false), vq (.bool false), vq (.int .i64 (0)), vq (.bool false), vq (.bool false), vq (.bool false), vq (pt t 0), fun u w9 => ∃ kb9 p9 cap9, u = .func (.func 32) #[] #[pt kb9 0] ∧ At w9 kb9 [.slice p9 tr2.ids.length cap9] ∧ SI w9 p9 tr2.ids ∧ (∀ k, pb p9 k → k < w9.heap.size), vq (.slice pw L.length cw), vq (.bool true), vq (.bool false), vq (.bool false)] := smos_cons (smo_vq _) (smos_cons (smo_vq _) (smos_cons (smo_vq _) (smos_cons (smo_vq _) (smos_cons (smo_vq _) (smos_cons (smo_vq _) (smos_cons (smo_vq _) (smos_cons (smo_vq _) (smos_cons (smo_vq _) (smos_cons (fun u a b ⟨k9, p9, c9, h1, h2, h3, h4⟩ m => ⟨k9, p9, c9, h1, h2.mo m, h3.mo m, fun k hk => Nat.lt_of_lt_of_le (h4 k hk) m.size⟩) (smos_cons (smo_vq _) (smos_cons (smo_vq _) (smos_cons (smo_vq _) (smos_cons (smo_vq _) (smos_nil))))))))))))))
          have hgr : ∀ a b : World, Mo w42 a → Mo a b → Mo w42 b := fun _ _ h m => h.trans m
          refine w_ogc 14 (fun w9 => Mo w42 w9) [vq (.int .i64 (p1)), vq (.int .i64 (x1)), vq (.bool false), vq (.bool false), vq (.int .i64 (0)), vq (.bool false), vq (.bool false), vq (.bool false), vq (pt t 0), fun u w9 => ∃ kb9 p9 cap9, u = .func (.func 32) #[] #[pt kb9 0] ∧ At w9 kb9 [.slice p9 tr2.ids.length cap9] ∧ SI w9 p9 tr2.ids ∧ (∀ k, pb p9 k → k < w9.heap.size), vq (.slice pw L.length cw), vq (.bool true), vq (.bool false), vq (.bool false)] [] (by kernel_rfl) (by kernel_rfl) (by kernel_rfl) (by kernel_rfl) rfl (by kernel_rfl) (by kernel_rfl) (by kernel_rfl) latec_nil ((Mo.refl _).drew) ?_ ?_
          · refine ea_cons ?_ (ea_cons ?_ (ea_cons ?_ (ea_cons ?_ (ea_cons ?_ (ea_cons ?_ (ea_cons ?_ (ea_cons ?_ (ea_cons ?_ (ea_cons ?_ (ea_cons ?_ (ea_cons ?_ (ea_cons ?_ (ea_cons ?_ (ea_nil))))))))))))))
            · exact oc_eq (.int .i64 (p1)) rfl hgr hsm (fun f wf hG9 hd K hK => have Q11 := Q11.mo hG9; go_run rfl (wo_mv (.tmp 15) (.int .i64 (p1)) (fun _ => rfl) rfl (hK _ (Mo.refl _))))
            · exact oc_eq (.int .i64 (x1)) rfl hgr hsm (fun f wf hG9 hd K hK => have Q11 := Q11.mo hG9; go_run rfl (wo_mv (.tmp 1) (.int .i64 (x1)) (fun _ => rfl) g1 (hK _ (Mo.refl _))))
            · exact oc_eq (.bool false) rfl hgr hsm (fun f wf hG9 hd K hK => have Q11 := Q11.mo hG9; go_run rfl (wo_bin (fun x y => do eqGuard .neq 3 (.tmp 60) (.tmp 61) x y; binOp .neq 3 x y) (.tmp 60) (.tmp 61) (.int .i64 (p1)) (.int .i64 (x1)) (.bool false) (fun _ => rfl) (hd 0 rfl) (hd 1 rfl) (neI d1 _ _ _) (hK _ (Mo.refl _))))
            · exact oc_eq (.bool false) rfl hgr hsm (fun f wf hG9 hd K hK => have Q11 := Q11.mo hG9; go_run rfl (wo_mv (.tmp 62) (.bool false) (fun _ => rfl) (hd 2 rfl) (hK _ (Mo.refl _))))
            · exact oc_eq (.int .i64 (0)) rfl hgr hsm (fun f wf hG9 hd K hK => have Q11 := Q11.mo hG9; go_run (wnt_g rfl rfl rfl (hd 3 rfl) rfl) (wo_mv (.tmp 16) (.int .i64 (0)) (fun _ => rfl) rfl (hK _ (Mo.refl _))))
            · exact oc_eq (.bool false) rfl hgr hsm (fun f wf hG9 hd K hK => have Q11 := Q11.mo hG9; go_run (wnt_g rfl rfl rfl (hd 3 rfl) rfl) (wo_bin (fun x y => do eqGuard .neq 46 (.tmp 64) (.const (.int .i64 (0))) x y; binOp .neq 46 x y) (.tmp 64) (.const (.int .i64 (0))) (.int .i64 (0)) (.int .i64 (0)) (.bool false) (fun _ => rfl) (hd 4 rfl) rfl (by kernel_rfl) (hK _ (Mo.refl _))))
            · exact oc_eq (.bool false) rfl hgr hsm (fun f wf hG9 hd K hK => have Q11 := Q11.mo hG9; go_run rfl (wo_pick (.tmp 63) (.const (.bool true)) (.tmp 65) false (.bool false) (fun _ => rfl) (hd 3 rfl) (hd 5 rfl) (hK _ (Mo.refl _))))
            · exact oc_eq (.bool false) rfl hgr hsm (fun f wf hG9 hd K hK => have Q11 := Q11.mo hG9; go_run rfl (wo_mv (.tmp 66) (.bool false) (fun _ => rfl) (hd 6 rfl) (hK _ (Mo.refl _))))
            · exact oc_eq (pt t 0) rfl hgr hsm (fun f wf hG9 hd K hK => have Q11 := Q11.mo hG9; go_run (wnt_g rfl rfl rfl (hd 7 rfl) rfl) (wo_mv (.tmp 9) (pt t 0) (fun _ => rfl) g9 (hK _ (Mo.refl _))))
            · refine ⟨fun f wf hG9 hd K hK => ?_⟩
              exact go_run (wnt_g rfl rfl rfl (hd 7 rfl) rfl) (wo_callx 17 [(.tmp 68)] _ [pt t 0] rfl (li1 (hd 8 rfl)) (fun _ _ => by kernel_rfl) (all_g (hG.mo hG9)) (fun e9 w9 ⟨kb9, p9, cap9, he, h1, h2, h3, _, h4⟩ => ⟨_, he, hK _ w9 (hG9.trans h4) ⟨kb9, p9, cap9, rfl, h1, h2, fun k hk => (h3 k hk).2⟩ (fun j u _ hr => hsm j u _ _ hr h4)⟩))
            · exact oc_eq (.slice pw L.length cw) rfl hgr hsm (fun f wf hG9 hd K hK => have Q11 := Q11.mo hG9; go_run (wnt_g rfl rfl rfl (hd 7 rfl) rfl) (wo_load 26 (.tmp 12) (pt k11 0) (.slice pw L.length cw) rfl rfl (run_one Q11 26 0 rfl Try.underlying26 rfl) (hK _ (Mo.refl _))))
            · refine oc_eq (.bool true) rfl hgr hsm (fun f wf hG9 hd K hK => ?_)
              obtain ⟨kb9, p9, cap9, e9, h1, h2, h3⟩ := hd 9 rfl
              have hT9 := told_n (capw := cw) h1 h2 h3 (hSW.mo hG9) (fun k hk => Nat.lt_of_lt_of_le (hpw k hk) hG9.size) (by rw [e2.trans hL.symm]; omega)
              rw [decide_eq_true (e2.trans hL.symm)] at hT9
              exact go_run (wnt_g rfl rfl rfl (hd 7 rfl) rfl) (wo_call 16 [(.tmp 69), (.tmp 70)] _ [.func (.func 32) #[] #[pt kb9 0], .slice pw L.length cw] (.bool true) rfl (li2 e9 (hd 10 rfl)) (fun _ _ => by kernel_rfl) hT9 hK)
            · exact oc_eq (.bool false) rfl hgr hsm (fun f wf hG9 hd K hK => have Q11 := Q11.mo hG9; go_run (wnt_g rfl rfl rfl (hd 7 rfl) rfl) (wo_un (fun v => Op.unary .not v) (.tmp 71) (.bool true) (.bool false) (fun _ => rfl) (hd 11 rfl) (by kernel_rfl) (hK _ (Mo.refl _))))
            · exact oc_eq (.bool false) rfl hgr hsm (fun f wf hG9 hd K hK => have Q11 := Q11.mo hG9; go_run rfl (wo_pick (.tmp 67) (.const (.bool true)) (.tmp 72) false (.bool false) (fun _ => rfl) (hd 7 rfl) (hd 12 rfl) (hK _ (Mo.refl _))))
          intro f w43 hq hR
          have e9_0 := hR 0 rfl
          have e9_1 := hR 1 rfl
          have e9_2 := hR 2 rfl
          have e9_3 := hR 3 rfl
          have e9_4 := hR 4 rfl
          have e9_5 := hR 5 rfl
          have e9_6 := hR 6 rfl
          have e9_7 := hR 7 rfl
          have e9_8 := hR 8 rfl
          have e9_10 := hR 10 rfl
          have e9_11 := hR 11 rfl
          have e9_12 := hR 12 rfl
          have e9_13 := hR 13 rfl
          replace Q11 := Q11.mo hq
          replace hG := hG.mo hq
          replace hSW := hSW.mo hq
          replace hK := dk_mo hK hq
          replace hpw := fun k hk => Nat.lt_of_lt_of_le (hpw k hk) hq.size
          replace M := M.trans hq
          clear hq hR hsm hgr
          refine w_nil ?_
          refine xn_then ?_
          refine w_condF e9_13 ?_
          refine w_skip ?_
          exact xn_cut ⟨tr2, lk2, g2, g3, g9, rfl, hG, e2.trans hL.symm, by omega, Q11, hSW, hpw, hK, M⟩
        | false =>
          have hf10p := of_decide_eq_false hf10
          refine w_reg ?_
          refine wl_mv (.tmp 9) (pt t 0) (fun _ => rfl) g9 rfl ?_
          refine wl_mv (.tmp 1) (.int .i64 (x1)) (fun _ => rfl) g1 rfl ?_
          refine wl_mv (.tmp 2) (.int .i64 (x2)) (fun _ => rfl) g2 rfl ?_
          refine wl_call 19 [(.tmp 49), (.tmp 50), (.tmp 51)] _ [pt t 0, .int .i64 (x1), .int .i64 (x2)] (.int .i64 (insE tr x1 x2)) rfl rfl (fun _ _ => by kernel_rfl) (insert_no hG hi2 (of_decide_eq_false hf10)) rfl ?_
          intro w41 hq
          replace Q11 := Q11.mo hq
          replace hG := hG.mo hq
          replace hSW := hSW.mo hq
          replace hK := dk_mo hK hq
          replace hpw := fun k hk => Nat.lt_of_lt_of_le (hpw k hk) hq.size
          replace M := M.trans hq
          clear hq
          refine wl_bin (fun x y => do eqGuard .eql 46 (.tmp 52) (.const (.int .i64 (0))) x y; binOp .eql 46 x y) (.tmp 52) (.const (.int .i64 (0))) (.int .i64 (insE tr x1 x2)) (.int .i64 (0)) (.bool false) (fun _ => rfl) rfl rfl (eqE hf10 _ _ _) rfl ?_
          refine w_nil ?_
          refine xn_then ?_
          refine w_condF rfl ?_
          refine w_skip ?_
          exact xn_cut ⟨tr, lk, g2, g3, g9, rfl, hG, hL.symm, by omega, Q11, hSW, hpw, hK, M⟩
end
end R
end Go.Proofs.Ytbmbldloeblbbaa
