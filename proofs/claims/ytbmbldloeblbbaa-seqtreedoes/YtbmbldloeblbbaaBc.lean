/-
  SeqtreeBalanced: the law's walk.
-/
import Derived.Test.YtbmbldloeblbbaaScr
namespace Go.Proofs.Ytbmbldloeblbbaa
open Go.RowKit
section
variable {w : World}
theorem balanced_n (sc : List Op3) (p : Option Addr) (cap : Nat) (hsc : ∀ o ∈ sc, o.ok) (hSA : SA w p sc) (hn : sc.length ≤ 6000000000000) : Calls Try.prog 4 #[.slice p sc.length cap] w fun e w' => e = .returned (.bool true) ∧ Mo w w' := by
  refine w_enter 100 Try.func4 Try.ntmps4 rfl rfl ?_
  have M : Mo w w := Mo.refl _
  refine w_seq ?_
  refine w_reg ?_
  refine wl_mv (.const (.bool false)) (.bool false) (fun _ => rfl) rfl rfl ?_
  refine w_nil ?_
  refine xn_then ?_
  refine w_seq ?_
  refine w_reg ?_
  refine wl_callx 8 [] _ [] rfl rfl (fun _ _ => by kernel_rfl) (new_g (n0 := w.heap.size) (ks := []) _ M.size (fun _ e => by cases e)) rfl ?_
  rintro _ w1 ⟨t, mb, rfl, hG, hq⟩
  refine ⟨_, rfl, ?_⟩
  replace M := M.trans hq
  clear hq
  refine wl_mv (.tmp 9) (pt t 0) (fun _ => rfl) rfl rfl ?_
  refine w_nil ?_
  refine xn_then ?_
  refine w_seq ?_
  refine w_seq ?_
  refine w_reg ?_
  refine wl_call 9 [] _ [] (.bool true) rfl rfl (fun _ _ => by kernel_rfl) (begun_n _) rfl ?_
  intro w2 hq
  replace hG := hG.mo hq
  replace M := M.trans hq
  clear hq
  refine wl_un (fun v => Op.unary .not v) (.tmp 10) (.bool true) (.bool false) (fun _ => rfl) rfl (by kernel_rfl) rfl ?_
  refine wl_mv (.tmp 11) (.bool false) (fun _ => rfl) rfl rfl ?_
  refine wl_mv (.tmp 3) (pt t 0) (fun _ => rfl) rfl rfl ?_
  refine wl_bin (fun x y => do eqGuard .eql 23 (.tmp 13) (.const (.pointer none)) x y; binOp .eql 23 x y) (.tmp 13) (.const (.pointer none)) (pt t 0) (pp none) (.bool false) (fun _ => rfl) rfl rfl (by kernel_rfl) rfl ?_
  refine wl_pick (.tmp 12) (.const (.bool true)) (.tmp 14) false (.bool false) (fun _ => rfl) rfl rfl rfl ?_
  refine w_nil ?_
  refine xn_then ?_
  refine w_condF rfl ?_
  refine w_skip ?_
  refine xn_then ?_
  refine w_seq ?_
  refine w_seq ?_
  refine w_reg ?_
  refine wl_mv (.tmp 0) (.slice p sc.length cap) (fun _ => rfl) rfl rfl ?_
  refine wl_val (.int .i64 ((sc.length : Int))) (len22 _ _ _ _ _ (by exact rfl) _ _ _ _ _ _) rfl ?_
  refine wl_mv (.const (.int .i64 (0))) (.int .i64 (0)) (fun _ => rfl) rfl rfl ?_
  refine w_nil ?_
  refine xn_then ?_
  refine w_block ?_
  refine w_loop (fun r l w1 => ∃ (i : Nat) (tr : T) (lk : Int), r + i = sc.length ∧ look l 16 = .slice p sc.length cap ∧ look l 17 = .int .i64 (sc.length : Int) ∧ look l 18 = .int .i64 (i : Int) ∧ look l 3 = pt t 0 ∧ GT w.heap.size [] w1 t mb tr lk ∧ tr.bw ∧ lk ≤ 200000 * i ∧ Mo w w1) sc.length ⟨0, .e, 0, by omega, rfl, rfl, rfl, rfl, hG, trivial, by decide, M⟩ ?_
  clear M hG
  rintro r l wl ⟨i, tr, lk, hr, e16, e17, e18, e3, hG, hb, hlk, M⟩
  have hle := hG.le
  have hkl := tr.kv_len
  have hl0 := hG.l0
  refine w_seq ?_
  cases hf0 : decide ((i : Int) < (sc.length : Int)) with
  | true =>
    have hf0p := of_decide_eq_true hf0
    refine w_reg ?_
    refine wl_bin (fun x y => do eqGuard .lss 3 (.tmp 18) (.tmp 17) x y; binOp .lss 3 x y) (.tmp 18) (.tmp 17) (.int .i64 (i : Int)) (.int .i64 (sc.length : Int)) (.bool true) (fun _ => rfl) e18 e17 (ltI hf0 _ _ _) rfl ?_
    refine w_nil ?_
    refine xn_then ?_
    refine w_seq ?_
    refine w_condT rfl ?_
    refine w_skip ?_
    refine xn_then ?_
    refine w_seq ?_
    refine w_block ?_
    refine w_seq ?_
    refine w_reg ?_
    obtain ⟨o, ho⟩ : ∃ o, sc[i]? = some o := ⟨sc[i]'(by omega), List.getElem?_eq_getElem _⟩
    have hok := hsc o (List.mem_of_getElem? ho)
    obtain ⟨b, off, hpb, hbl, hrg⟩ := (hSA.mo M) _ o ho
    refine wl_bin (fun x y => Instr.indexAt 22 x y) (.tmp 16) (.tmp 18) (.slice p sc.length cap) (.int .i64 (i : Int)) (pt b (off + i * 3)) (fun _ => rfl) e16 e18 (by rw [hpb]; exact ix22 b off i _ _ (by omega) _) rfl ?_
    refine wl_load 31 (.tmp 20) (pt b (off + i * 3)) (.agg #[.int .i64 (o.d), .int .i64 (o.a), .int .i64 (o.i)]) rfl rfl (SA.load hrg) rfl ?_
    refine wl_alloc 31 #[.int .i64 0, .int .i64 0, .int .i64 0] rfl (fun _ => by kernel_rfl) rfl ?_
    intro k1 w11 hk hz hq Q1
    have N_k1 : w.heap.size ≤ k1 := by have := M.size; omega
    replace hG := hG.push (Nat.le_of_eq hk) (by omega) hq
    replace M := M.trans hq
    clear hk hz hq
    refine wl_stx2 31 (.tmp 5) (.tmp 21) k1 0 #[.int .i64 (o.d), .int .i64 (o.a), .int .i64 (o.i)] [.int .i64 0, .int .i64 0, .int .i64 0] [.int .i64 (o.d), .int .i64 (o.a), .int .i64 (o.i)] Q1 rfl rfl rfl rfl rfl sz31 rfl rfl rfl ?_
    intro w12 hT Qn
    replace Q1 := Qn
    clear Qn
    replace hG := hG.st hT (by simp)
    replace M := (Mk.refl (fun j => j = k1) _ |>.st hT rfl).mo M (fun _ e => e ▸ N_k1)
    clear hT
    refine w_nil ?_
    refine xn_then ?_
    refine w_seq ?_
    refine w_reg ?_
    refine wl_mv (.tmp 3) (pt t 0) (fun _ => rfl) e3 rfl ?_
    refine wl_call 15 [(.tmp 22)] _ [pt t 0] (.int .i64 ((tr.kv.length : Int))) rfl rfl (fun _ _ => by kernel_rfl) (len_g hG) rfl ?_
    intro w13 hq
    replace Q1 := Q1.mo hq
    replace hG := hG.mo hq
    replace M := M.trans hq
    clear hq
    refine wl_mv (.tmp 3) (pt t 0) (fun _ => rfl) e3 rfl ?_
    refine wl_call 18 [(.tmp 24)] _ [pt t 0] (.int .i64 (lk)) rfl rfl (fun _ _ => by kernel_rfl) (looked_g hG) rfl ?_
    intro w14 hq
    replace Q1 := Q1.mo hq
    replace hG := hG.mo hq
    replace M := M.trans hq
    clear hq
    refine wl_mv (.tmp 23) (.int .i64 ((tr.kv.length : Int))) (fun _ => rfl) rfl rfl ?_
    refine wl_mv (.tmp 25) (.int .i64 (lk)) (fun _ => rfl) rfl rfl ?_
    refine w_nil ?_
    refine xn_then ?_
    refine w_seq ?_
    refine w_reg ?_
    refine wl_mv (.const (.int .i64 (24))) (.int .i64 (24)) (fun _ => rfl) rfl rfl ?_
    refine w_nil ?_
    refine xn_then ?_
    refine w_seq ?_
    refine w_seq ?_
    refine w_reg ?_
    refine wl_un (fun v => Instr.fieldAt 31 v 0) (.tmp 5) (pt k1 0) (pt k1 0) (fun _ => rfl) rfl (by kernel_rfl) rfl ?_
    refine wl_load 3 (.tmp 26) (pt k1 0) (.int .i64 (o.d)) rfl rfl (run_one Q1 3 0 rfl Try.underlying3 rfl) rfl ?_
    refine w_nil ?_
    refine xn_then ?_
    refine w_block ?_
    refine w_seq ?_
    cases hf1 : decide (o.d = 0) with
    | true =>
      have hf1p := of_decide_eq_true hf1
      refine w_reg ?_
      refine wl_bin (fun x y => do eqGuard .eql 3 (.tmp 27) (.const (.int .i64 (0))) x y; binOp .eql 3 x y) (.tmp 27) (.const (.int .i64 (0))) (.int .i64 (o.d)) (.int .i64 (0)) (.bool true) (fun _ => rfl) rfl rfl (eqI hf1 _ _ _) rfl ?_
      refine wl_mv (.tmp 37) (.bool true) (fun _ => rfl) rfl rfl ?_
      refine w_nil ?_
      refine xn_then ?_
      refine w_condT rfl ?_
      refine w_seq ?_
      cases hf2 : decide (insE tr (o.a) (o.i) = 0) with
      | true =>
        have hf2p := of_decide_eq_true hf2
        refine w_reg ?_
        refine wl_mv (.tmp 3) (pt t 0) (fun _ => rfl) e3 rfl ?_
        refine wl_un (fun v => Instr.fieldAt 31 v 1) (.tmp 5) (pt k1 0) (pt k1 1) (fun _ => rfl) rfl (by kernel_rfl) rfl ?_
        refine wl_load 3 (.tmp 39) (pt k1 1) (.int .i64 (o.a)) rfl rfl (run_one Q1 3 1 rfl Try.underlying3 rfl) rfl ?_
        refine wl_un (fun v => Instr.fieldAt 31 v 2) (.tmp 5) (pt k1 0) (pt k1 2) (fun _ => rfl) rfl (by kernel_rfl) rfl ?_
        refine wl_load 2 (.tmp 41) (pt k1 2) (.int .i64 (o.i)) rfl rfl (run_one Q1 2 2 rfl Try.underlying2 rfl) rfl ?_
        refine wl_callx 19 [(.tmp 38), (.tmp 40), (.tmp 42)] _ [pt t 0, .int .i64 (o.a), .int .i64 (o.i)] rfl rfl (fun _ _ => by kernel_rfl) (ins_any hG hb hok.2.2 (by omega)) rfl ?_
        rintro _ w15 ⟨tr2, lk2, rfl, hG, hb2, hk1, hk2, hk3, hM2⟩
        refine ⟨_, rfl, ?_⟩
        have hle2 := hG.le
        have hkl2 := tr2.kv_len
        have hz1 := bm_hi hle hle2
        have hz2 := bm_hi hle2 hle2
        replace M := Wr.mo hM2 M (Nat.le_refl _)
        replace Q1 := Wr.at hM2 Q1 (by simp)
        clear hM2
        refine wl_bin (fun x y => do eqGuard .eql 46 (.tmp 43) (.const (.int .i64 (0))) x y; binOp .eql 46 x y) (.tmp 43) (.const (.int .i64 (0))) (.int .i64 (insE tr (o.a) (o.i))) (.int .i64 (0)) (.bool true) (fun _ => rfl) rfl rfl (eqE hf2 _ _ _) rfl ?_
        refine wl_mv (.tmp 44) (.bool true) (fun _ => rfl) rfl rfl ?_
        refine wl_mv (.tmp 3) (pt t 0) (fun _ => rfl) e3 rfl ?_
        refine wl_call 18 [(.tmp 46)] _ [pt t 0] (.int .i64 (lk2)) rfl rfl (fun _ _ => by kernel_rfl) (looked_g hG) rfl ?_
        intro w16 hq
        replace Q1 := Q1.mo hq
        replace hG := hG.mo hq
        replace M := M.trans hq
        clear hq
        refine wl_mv (.tmp 7) (.int .i64 (lk)) (fun _ => rfl) rfl rfl ?_
        refine wl_bin (fun x y => do eqGuard .leq 2 (.tmp 47) (.tmp 48) x y; binOp .leq 2 x y) (.tmp 47) (.tmp 48) (.int .i64 (lk2)) (.int .i64 (lk)) (.bool false) (fun _ => rfl) rfl rfl (leL (decide_eq_false (by have := hk3 (of_decide_eq_true hf2); omega)) _ _ _) rfl ?_
        refine wl_pick (.tmp 45) (.tmp 49) (.const (.bool false)) true (.bool false) (fun _ => rfl) rfl rfl rfl ?_
        refine w_nil ?_
        refine xn_then ?_
        refine w_condF rfl ?_
        refine w_skip ?_
        refine xn_blk ?_
        refine xn_then ?_
        refine w_seq ?_
        refine w_seq ?_
        refine w_reg ?_
        refine wl_mv (.tmp 3) (pt t 0) (fun _ => rfl) e3 rfl ?_
        refine wl_call 22 [(.tmp 57)] _ [pt t 0] (.int .i64 ((tr2.ht : Int))) rfl rfl (fun _ _ => by kernel_rfl) (depth_g hG) rfl ?_
        intro w17 hq
        replace Q1 := Q1.mo hq
        replace hG := hG.mo hq
        replace M := M.trans hq
        clear hq
        refine wl_mv (.tmp 3) (pt t 0) (fun _ => rfl) e3 rfl ?_
        refine wl_call 15 [(.tmp 59)] _ [pt t 0] (.int .i64 ((tr2.kv.length : Int))) rfl rfl (fun _ _ => by kernel_rfl) (len_g hG) rfl ?_
        intro w18 hq
        replace Q1 := Q1.mo hq
        replace hG := hG.mo hq
        replace M := M.trans hq
        clear hq
        have hbl1 := bitc_le (tr2.kv.length)
        refine wl_call 23 [(.tmp 60)] _ [.int .i64 ((tr2.kv.length : Int))] (.int .i64 ((bitc (tr2.kv.length) : Int))) rfl rfl (fun _ _ => by kernel_rfl) (bits_n (tr2.kv.length) _ (by omega) (by omega)) rfl ?_
        intro w19 hq
        replace Q1 := Q1.mo hq
        replace hG := hG.mo hq
        replace M := M.trans hq
        clear hq
        refine wl_bin (fun x y => do eqGuard .mul 3 (.const (.int .i64 (3))) (.tmp 61) x y; binOp .mul 3 x y) (.const (.int .i64 (3))) (.tmp 61) (.int .i64 (3)) (.int .i64 ((bitc (tr2.kv.length) : Int))) (.int .i64 (3 * ((bitc (tr2.kv.length) : Int)))) (fun _ => rfl) rfl rfl (mulI (by omega) (by omega) _ _ _) rfl ?_
        have hbt := (ht_bits hb2 hle2).1
        rw [show tr2.sz.toNat = tr2.kv.length by omega] at hbt
        refine wl_bin (fun x y => do eqGuard .gtr 3 (.tmp 58) (.tmp 62) x y; binOp .gtr 3 x y) (.tmp 58) (.tmp 62) (.int .i64 ((tr2.ht : Int))) (.int .i64 (3 * ((bitc (tr2.kv.length) : Int)))) (.bool false) (fun _ => rfl) rfl rfl (gtI (decide_eq_false (by omega)) _ _ _) rfl ?_
        refine wl_mv (.tmp 63) (.bool false) (fun _ => rfl) rfl rfl ?_
        refine wl_mv (.tmp 3) (pt t 0) (fun _ => rfl) e3 rfl ?_
        refine wl_call 18 [(.tmp 65)] _ [pt t 0] (.int .i64 (lk2)) rfl rfl (fun _ _ => by kernel_rfl) (looked_g hG) rfl ?_
        intro w20 hq
        replace Q1 := Q1.mo hq
        replace hG := hG.mo hq
        replace M := M.trans hq
        clear hq
        refine wl_mv (.tmp 7) (.int .i64 (lk)) (fun _ => rfl) rfl rfl ?_
        refine wl_bin (fun x y => do eqGuard .sub 2 (.tmp 66) (.tmp 67) x y; binOp .sub 2 x y) (.tmp 66) (.tmp 67) (.int .i64 (lk2)) (.int .i64 (lk)) (.int .i64 (lk2 - lk)) (fun _ => rfl) rfl rfl (subL (by omega) (by omega) _ _ _) rfl ?_
        refine wl_mv (.tmp 8) (.int .i64 (24)) (fun _ => rfl) rfl rfl ?_
        refine wl_mv (.tmp 6) (.int .i64 ((tr.kv.length : Int))) (fun _ => rfl) rfl rfl ?_
        refine wl_mv (.tmp 3) (pt t 0) (fun _ => rfl) e3 rfl ?_
        refine wl_call 15 [(.tmp 71)] _ [pt t 0] (.int .i64 ((tr2.kv.length : Int))) rfl rfl (fun _ _ => by kernel_rfl) (len_g hG) rfl ?_
        intro w21 hq
        replace Q1 := Q1.mo hq
        replace hG := hG.mo hq
        replace M := M.trans hq
        clear hq
        refine wl_val (.int .i64 (((max tr.kv.length tr2.kv.length : Nat) : Int))) (maxN tr.kv.length tr2.kv.length _ _ _ (by exact rfl) (by exact rfl) _ _ _ _ _ _) rfl ?_
        have hbl2 := bitc_le (max tr.kv.length tr2.kv.length)
        refine wl_call 23 [(.tmp 73)] _ [.int .i64 (((max tr.kv.length tr2.kv.length : Nat) : Int))] (.int .i64 ((bitc (max tr.kv.length tr2.kv.length) : Int))) rfl rfl (fun _ _ => by kernel_rfl) (bits_n (max tr.kv.length tr2.kv.length) _ (by omega) (by omega)) rfl ?_
        intro w22 hq
        replace Q1 := Q1.mo hq
        replace hG := hG.mo hq
        replace M := M.trans hq
        clear hq
        refine wl_bin (fun x y => do eqGuard .add 3 (.const (.int .i64 (1))) (.tmp 74) x y; binOp .add 3 x y) (.const (.int .i64 (1))) (.tmp 74) (.int .i64 (1)) (.int .i64 ((bitc (max tr.kv.length tr2.kv.length) : Int))) (.int .i64 (1 + ((bitc (max tr.kv.length tr2.kv.length) : Int)))) (fun _ => rfl) rfl rfl (addI (by omega) (by omega) _ _ _) rfl ?_
        refine wl_bin (fun x y => do eqGuard .mul 2 (.tmp 69) (.tmp 75) x y; binOp .mul 2 x y) (.tmp 69) (.tmp 75) (.int .i64 (24)) (.int .i64 (1 + ((bitc (max tr.kv.length tr2.kv.length) : Int)))) (.int .i64 (24 * (1 + ((bitc (max tr.kv.length tr2.kv.length) : Int))))) (fun _ => rfl) rfl rfl (mulL (by omega) (by omega) _ _ _) rfl ?_
        have hk2b := hk2
        unfold Bm at hk2b
        refine wl_bin (fun x y => do eqGuard .gtr 2 (.tmp 68) (.tmp 76) x y; binOp .gtr 2 x y) (.tmp 68) (.tmp 76) (.int .i64 (lk2 - lk)) (.int .i64 (24 * (1 + ((bitc (max tr.kv.length tr2.kv.length) : Int))))) (.bool false) (fun _ => rfl) rfl rfl (gtL (decide_eq_false (by omega)) _ _ _) rfl ?_
        refine wl_pick (.tmp 64) (.const (.bool true)) (.tmp 77) false (.bool false) (fun _ => rfl) rfl rfl rfl ?_
        refine w_nil ?_
        refine xn_then ?_
        refine w_condF rfl ?_
        refine w_skip ?_
        refine xn_then ?_
        refine w_seq ?_
        refine w_reg ?_
        refine wl_mv (.tmp 3) (pt t 0) (fun _ => rfl) e3 rfl ?_
        refine wl_call 18 [(.tmp 79)] _ [pt t 0] (.int .i64 (lk2)) rfl rfl (fun _ _ => by kernel_rfl) (looked_g hG) rfl ?_
        intro w23 hq
        replace Q1 := Q1.mo hq
        replace hG := hG.mo hq
        replace M := M.trans hq
        clear hq
        refine wl_mv (.tmp 80) (.int .i64 (lk2)) (fun _ => rfl) rfl rfl ?_
        refine w_nil ?_
        refine xn_then ?_
        refine w_seq ?_
        refine w_reg ?_
        refine wl_mv (.tmp 3) (pt t 0) (fun _ => rfl) e3 rfl ?_
        refine wl_un (fun v => Instr.fieldAt 31 v 1) (.tmp 5) (pt k1 0) (pt k1 1) (fun _ => rfl) rfl (by kernel_rfl) rfl ?_
        refine wl_load 3 (.tmp 82) (pt k1 1) (.int .i64 (o.a)) rfl rfl (run_one Q1 3 1 rfl Try.underlying3 rfl) rfl ?_
        refine wl_callx 11 [(.tmp 81), (.tmp 83)] _ [pt t 0, .int .i64 (o.a)] rfl rfl (fun _ _ => by kernel_rfl) (at_any hG hb2 (by omega)) rfl ?_
        rintro _ w24 ⟨x3, b3, lk3, rfl, hG, hk4, hk5, hM2⟩
        refine ⟨_, rfl, ?_⟩
        replace M := Wr.mo hM2 M (Nat.le_refl _)
        replace Q1 := Wr.at hM2 Q1 (by simp)
        clear hM2
        refine w_nil ?_
        refine xn_then ?_
        refine w_seq ?_
        refine w_reg ?_
        refine wl_mv (.tmp 3) (pt t 0) (fun _ => rfl) e3 rfl ?_
        refine wl_un (fun v => Instr.fieldAt 31 v 2) (.tmp 5) (pt k1 0) (pt k1 2) (fun _ => rfl) rfl (by kernel_rfl) rfl ?_
        refine wl_load 2 (.tmp 86) (pt k1 2) (.int .i64 (o.i)) rfl rfl (run_one Q1 2 2 rfl Try.underlying2 rfl) rfl ?_
        refine wl_callx 13 [(.tmp 85), (.tmp 87)] _ [pt t 0, .int .i64 (o.i)] rfl rfl (fun _ _ => by kernel_rfl) (index_any hG hb2 hok.2.2 (by omega)) rfl ?_
        rintro _ w25 ⟨x4, b4, lk4, rfl, hG, hk6, hk7, hM2⟩
        refine ⟨_, rfl, ?_⟩
        replace M := Wr.mo hM2 M (Nat.le_refl _)
        replace Q1 := Wr.at hM2 Q1 (by simp)
        clear hM2
        refine w_nil ?_
        refine xn_then ?_
        refine w_seq ?_
        refine w_reg ?_
        refine wl_mv (.tmp 3) (pt t 0) (fun _ => rfl) e3 rfl ?_
        refine wl_call 18 [(.tmp 89)] _ [pt t 0] (.int .i64 (lk4)) rfl rfl (fun _ _ => by kernel_rfl) (looked_g hG) rfl ?_
        intro w26 hq
        replace Q1 := Q1.mo hq
        replace hG := hG.mo hq
        replace M := M.trans hq
        clear hq
        refine wl_mv (.tmp 7) (.int .i64 (lk2)) (fun _ => rfl) rfl rfl ?_
        refine wl_bin (fun x y => do eqGuard .sub 2 (.tmp 90) (.tmp 91) x y; binOp .sub 2 x y) (.tmp 90) (.tmp 91) (.int .i64 (lk4)) (.int .i64 (lk2)) (.int .i64 (lk4 - lk2)) (fun _ => rfl) rfl rfl (subL (by omega) (by omega) _ _ _) rfl ?_
        refine wl_mv (.tmp 3) (pt t 0) (fun _ => rfl) e3 rfl ?_
        refine wl_call 15 [(.tmp 93)] _ [pt t 0] (.int .i64 ((tr2.kv.length : Int))) rfl rfl (fun _ _ => by kernel_rfl) (len_g hG) rfl ?_
        intro w27 hq
        replace Q1 := Q1.mo hq
        replace hG := hG.mo hq
        replace M := M.trans hq
        clear hq
        have hbl3 := bitc_le (tr2.kv.length)
        refine wl_call 23 [(.tmp 94)] _ [.int .i64 ((tr2.kv.length : Int))] (.int .i64 ((bitc (tr2.kv.length) : Int))) rfl rfl (fun _ _ => by kernel_rfl) (bits_n (tr2.kv.length) _ (by omega) (by omega)) rfl ?_
        intro w28 hq
        replace Q1 := Q1.mo hq
        replace hG := hG.mo hq
        replace M := M.trans hq
        clear hq
        refine wl_bin (fun x y => do eqGuard .add 3 (.const (.int .i64 (1))) (.tmp 95) x y; binOp .add 3 x y) (.const (.int .i64 (1))) (.tmp 95) (.int .i64 (1)) (.int .i64 ((bitc (tr2.kv.length) : Int))) (.int .i64 (1 + ((bitc (tr2.kv.length) : Int)))) (fun _ => rfl) rfl rfl (addI (by omega) (by omega) _ _ _) rfl ?_
        refine wl_bin (fun x y => do eqGuard .mul 2 (.const (.int .i64 (48))) (.tmp 96) x y; binOp .mul 2 x y) (.const (.int .i64 (48))) (.tmp 96) (.int .i64 (48)) (.int .i64 (1 + ((bitc (tr2.kv.length) : Int)))) (.int .i64 (48 * (1 + ((bitc (tr2.kv.length) : Int))))) (fun _ => rfl) rfl rfl (mulL (by omega) (by omega) _ _ _) rfl ?_
        have hk5b := hk5
        have hk7b := hk7
        unfold Bm at hk5b hk7b
        rw [Nat.max_self] at hk5b hk7b
        refine wl_bin (fun x y => do eqGuard .gtr 2 (.tmp 92) (.tmp 97) x y; binOp .gtr 2 x y) (.tmp 92) (.tmp 97) (.int .i64 (lk4 - lk2)) (.int .i64 (48 * (1 + ((bitc (tr2.kv.length) : Int))))) (.bool false) (fun _ => rfl) rfl rfl (gtL (decide_eq_false (by omega)) _ _ _) rfl ?_
        refine w_nil ?_
        refine xn_then ?_
        refine w_condF rfl ?_
        refine w_skip ?_
        refine xn_blk ?_
        refine xn_then ?_
        refine w_reg ?_
        refine wl_bin (fun x y => do eqGuard .add 3 (.tmp 18) (.const (.int .i64 (1))) x y; binOp .add 3 x y) (.tmp 18) (.const (.int .i64 (1))) (.int .i64 (i : Int)) (.int .i64 (1)) (.int .i64 ((i : Int) + 1)) (fun _ => rfl) e18 rfl (addI (by omega) (by omega) _ _ _) rfl ?_
        refine wl_mv (.tmp 99) (.int .i64 ((i : Int) + 1)) (fun _ => rfl) rfl rfl ?_
        refine w_nil ?_
        exact xn_loop (r - 1) (by omega) ⟨i + 1, tr2, lk4, by omega, e16, e17, rfl, e3, hG.pop (fun _ e => by cases e), hb2, by omega, M⟩
      | false =>
        have hf2p := of_decide_eq_false hf2
        refine w_reg ?_
        refine wl_mv (.tmp 3) (pt t 0) (fun _ => rfl) e3 rfl ?_
        refine wl_un (fun v => Instr.fieldAt 31 v 1) (.tmp 5) (pt k1 0) (pt k1 1) (fun _ => rfl) rfl (by kernel_rfl) rfl ?_
        refine wl_load 3 (.tmp 39) (pt k1 1) (.int .i64 (o.a)) rfl rfl (run_one Q1 3 1 rfl Try.underlying3 rfl) rfl ?_
        refine wl_un (fun v => Instr.fieldAt 31 v 2) (.tmp 5) (pt k1 0) (pt k1 2) (fun _ => rfl) rfl (by kernel_rfl) rfl ?_
        refine wl_load 2 (.tmp 41) (pt k1 2) (.int .i64 (o.i)) rfl rfl (run_one Q1 2 2 rfl Try.underlying2 rfl) rfl ?_
        refine wl_callx 19 [(.tmp 38), (.tmp 40), (.tmp 42)] _ [pt t 0, .int .i64 (o.a), .int .i64 (o.i)] rfl rfl (fun _ _ => by kernel_rfl) (ins_any hG hb hok.2.2 (by omega)) rfl ?_
        rintro _ w15 ⟨tr2, lk2, rfl, hG, hb2, hk1, hk2, hk3, hM2⟩
        refine ⟨_, rfl, ?_⟩
        have hle2 := hG.le
        have hkl2 := tr2.kv_len
        have hz1 := bm_hi hle hle2
        have hz2 := bm_hi hle2 hle2
        replace M := Wr.mo hM2 M (Nat.le_refl _)
        replace Q1 := Wr.at hM2 Q1 (by simp)
        clear hM2
        refine wl_bin (fun x y => do eqGuard .eql 46 (.tmp 43) (.const (.int .i64 (0))) x y; binOp .eql 46 x y) (.tmp 43) (.const (.int .i64 (0))) (.int .i64 (insE tr (o.a) (o.i))) (.int .i64 (0)) (.bool false) (fun _ => rfl) rfl rfl (eqE hf2 _ _ _) rfl ?_
        refine wl_mv (.tmp 44) (.bool false) (fun _ => rfl) rfl rfl ?_
        refine wl_skip rfl ?_
        refine wl_skip rfl ?_
        refine wl_skip rfl ?_
        refine wl_skip rfl ?_
        refine wl_pick (.tmp 45) (.tmp 49) (.const (.bool false)) false (.bool false) (fun _ => rfl) rfl rfl rfl ?_
        refine w_nil ?_
        refine xn_then ?_
        refine w_condF rfl ?_
        refine w_skip ?_
        refine xn_blk ?_
        refine xn_then ?_
        refine w_seq ?_
        refine w_seq ?_
        refine w_reg ?_
        refine wl_mv (.tmp 3) (pt t 0) (fun _ => rfl) e3 rfl ?_
        refine wl_call 22 [(.tmp 57)] _ [pt t 0] (.int .i64 ((tr2.ht : Int))) rfl rfl (fun _ _ => by kernel_rfl) (depth_g hG) rfl ?_
        intro w16 hq
        replace Q1 := Q1.mo hq
        replace hG := hG.mo hq
        replace M := M.trans hq
        clear hq
        refine wl_mv (.tmp 3) (pt t 0) (fun _ => rfl) e3 rfl ?_
        refine wl_call 15 [(.tmp 59)] _ [pt t 0] (.int .i64 ((tr2.kv.length : Int))) rfl rfl (fun _ _ => by kernel_rfl) (len_g hG) rfl ?_
        intro w17 hq
        replace Q1 := Q1.mo hq
        replace hG := hG.mo hq
        replace M := M.trans hq
        clear hq
        have hbl1 := bitc_le (tr2.kv.length)
        refine wl_call 23 [(.tmp 60)] _ [.int .i64 ((tr2.kv.length : Int))] (.int .i64 ((bitc (tr2.kv.length) : Int))) rfl rfl (fun _ _ => by kernel_rfl) (bits_n (tr2.kv.length) _ (by omega) (by omega)) rfl ?_
        intro w18 hq
        replace Q1 := Q1.mo hq
        replace hG := hG.mo hq
        replace M := M.trans hq
        clear hq
        refine wl_bin (fun x y => do eqGuard .mul 3 (.const (.int .i64 (3))) (.tmp 61) x y; binOp .mul 3 x y) (.const (.int .i64 (3))) (.tmp 61) (.int .i64 (3)) (.int .i64 ((bitc (tr2.kv.length) : Int))) (.int .i64 (3 * ((bitc (tr2.kv.length) : Int)))) (fun _ => rfl) rfl rfl (mulI (by omega) (by omega) _ _ _) rfl ?_
        have hbt := (ht_bits hb2 hle2).1
        rw [show tr2.sz.toNat = tr2.kv.length by omega] at hbt
        refine wl_bin (fun x y => do eqGuard .gtr 3 (.tmp 58) (.tmp 62) x y; binOp .gtr 3 x y) (.tmp 58) (.tmp 62) (.int .i64 ((tr2.ht : Int))) (.int .i64 (3 * ((bitc (tr2.kv.length) : Int)))) (.bool false) (fun _ => rfl) rfl rfl (gtI (decide_eq_false (by omega)) _ _ _) rfl ?_
        refine wl_mv (.tmp 63) (.bool false) (fun _ => rfl) rfl rfl ?_
        refine wl_mv (.tmp 3) (pt t 0) (fun _ => rfl) e3 rfl ?_
        refine wl_call 18 [(.tmp 65)] _ [pt t 0] (.int .i64 (lk2)) rfl rfl (fun _ _ => by kernel_rfl) (looked_g hG) rfl ?_
        intro w19 hq
        replace Q1 := Q1.mo hq
        replace hG := hG.mo hq
        replace M := M.trans hq
        clear hq
        refine wl_mv (.tmp 7) (.int .i64 (lk)) (fun _ => rfl) rfl rfl ?_
        refine wl_bin (fun x y => do eqGuard .sub 2 (.tmp 66) (.tmp 67) x y; binOp .sub 2 x y) (.tmp 66) (.tmp 67) (.int .i64 (lk2)) (.int .i64 (lk)) (.int .i64 (lk2 - lk)) (fun _ => rfl) rfl rfl (subL (by omega) (by omega) _ _ _) rfl ?_
        refine wl_mv (.tmp 8) (.int .i64 (24)) (fun _ => rfl) rfl rfl ?_
        refine wl_mv (.tmp 6) (.int .i64 ((tr.kv.length : Int))) (fun _ => rfl) rfl rfl ?_
        refine wl_mv (.tmp 3) (pt t 0) (fun _ => rfl) e3 rfl ?_
        refine wl_call 15 [(.tmp 71)] _ [pt t 0] (.int .i64 ((tr2.kv.length : Int))) rfl rfl (fun _ _ => by kernel_rfl) (len_g hG) rfl ?_
        intro w20 hq
        replace Q1 := Q1.mo hq
        replace hG := hG.mo hq
        replace M := M.trans hq
        clear hq
        refine wl_val (.int .i64 (((max tr.kv.length tr2.kv.length : Nat) : Int))) (maxN tr.kv.length tr2.kv.length _ _ _ (by exact rfl) (by exact rfl) _ _ _ _ _ _) rfl ?_
        have hbl2 := bitc_le (max tr.kv.length tr2.kv.length)
        refine wl_call 23 [(.tmp 73)] _ [.int .i64 (((max tr.kv.length tr2.kv.length : Nat) : Int))] (.int .i64 ((bitc (max tr.kv.length tr2.kv.length) : Int))) rfl rfl (fun _ _ => by kernel_rfl) (bits_n (max tr.kv.length tr2.kv.length) _ (by omega) (by omega)) rfl ?_
        intro w21 hq
        replace Q1 := Q1.mo hq
        replace hG := hG.mo hq
        replace M := M.trans hq
        clear hq
        refine wl_bin (fun x y => do eqGuard .add 3 (.const (.int .i64 (1))) (.tmp 74) x y; binOp .add 3 x y) (.const (.int .i64 (1))) (.tmp 74) (.int .i64 (1)) (.int .i64 ((bitc (max tr.kv.length tr2.kv.length) : Int))) (.int .i64 (1 + ((bitc (max tr.kv.length tr2.kv.length) : Int)))) (fun _ => rfl) rfl rfl (addI (by omega) (by omega) _ _ _) rfl ?_
        refine wl_bin (fun x y => do eqGuard .mul 2 (.tmp 69) (.tmp 75) x y; binOp .mul 2 x y) (.tmp 69) (.tmp 75) (.int .i64 (24)) (.int .i64 (1 + ((bitc (max tr.kv.length tr2.kv.length) : Int)))) (.int .i64 (24 * (1 + ((bitc (max tr.kv.length tr2.kv.length) : Int))))) (fun _ => rfl) rfl rfl (mulL (by omega) (by omega) _ _ _) rfl ?_
        have hk2b := hk2
        unfold Bm at hk2b
        refine wl_bin (fun x y => do eqGuard .gtr 2 (.tmp 68) (.tmp 76) x y; binOp .gtr 2 x y) (.tmp 68) (.tmp 76) (.int .i64 (lk2 - lk)) (.int .i64 (24 * (1 + ((bitc (max tr.kv.length tr2.kv.length) : Int))))) (.bool false) (fun _ => rfl) rfl rfl (gtL (decide_eq_false (by omega)) _ _ _) rfl ?_
        refine wl_pick (.tmp 64) (.const (.bool true)) (.tmp 77) false (.bool false) (fun _ => rfl) rfl rfl rfl ?_
        refine w_nil ?_
        refine xn_then ?_
        refine w_condF rfl ?_
        refine w_skip ?_
        refine xn_then ?_
        refine w_seq ?_
        refine w_reg ?_
        refine wl_mv (.tmp 3) (pt t 0) (fun _ => rfl) e3 rfl ?_
        refine wl_call 18 [(.tmp 79)] _ [pt t 0] (.int .i64 (lk2)) rfl rfl (fun _ _ => by kernel_rfl) (looked_g hG) rfl ?_
        intro w22 hq
        replace Q1 := Q1.mo hq
        replace hG := hG.mo hq
        replace M := M.trans hq
        clear hq
        refine wl_mv (.tmp 80) (.int .i64 (lk2)) (fun _ => rfl) rfl rfl ?_
        refine w_nil ?_
        refine xn_then ?_
        refine w_seq ?_
        refine w_reg ?_
        refine wl_mv (.tmp 3) (pt t 0) (fun _ => rfl) e3 rfl ?_
        refine wl_un (fun v => Instr.fieldAt 31 v 1) (.tmp 5) (pt k1 0) (pt k1 1) (fun _ => rfl) rfl (by kernel_rfl) rfl ?_
        refine wl_load 3 (.tmp 82) (pt k1 1) (.int .i64 (o.a)) rfl rfl (run_one Q1 3 1 rfl Try.underlying3 rfl) rfl ?_
        refine wl_callx 11 [(.tmp 81), (.tmp 83)] _ [pt t 0, .int .i64 (o.a)] rfl rfl (fun _ _ => by kernel_rfl) (at_any hG hb2 (by omega)) rfl ?_
        rintro _ w23 ⟨x3, b3, lk3, rfl, hG, hk4, hk5, hM2⟩
        refine ⟨_, rfl, ?_⟩
        replace M := Wr.mo hM2 M (Nat.le_refl _)
        replace Q1 := Wr.at hM2 Q1 (by simp)
        clear hM2
        refine w_nil ?_
        refine xn_then ?_
        refine w_seq ?_
        refine w_reg ?_
        refine wl_mv (.tmp 3) (pt t 0) (fun _ => rfl) e3 rfl ?_
        refine wl_un (fun v => Instr.fieldAt 31 v 2) (.tmp 5) (pt k1 0) (pt k1 2) (fun _ => rfl) rfl (by kernel_rfl) rfl ?_
        refine wl_load 2 (.tmp 86) (pt k1 2) (.int .i64 (o.i)) rfl rfl (run_one Q1 2 2 rfl Try.underlying2 rfl) rfl ?_
        refine wl_callx 13 [(.tmp 85), (.tmp 87)] _ [pt t 0, .int .i64 (o.i)] rfl rfl (fun _ _ => by kernel_rfl) (index_any hG hb2 hok.2.2 (by omega)) rfl ?_
        rintro _ w24 ⟨x4, b4, lk4, rfl, hG, hk6, hk7, hM2⟩
        refine ⟨_, rfl, ?_⟩
        replace M := Wr.mo hM2 M (Nat.le_refl _)
        replace Q1 := Wr.at hM2 Q1 (by simp)
        clear hM2
        refine w_nil ?_
        refine xn_then ?_
        refine w_seq ?_
        refine w_reg ?_
        refine wl_mv (.tmp 3) (pt t 0) (fun _ => rfl) e3 rfl ?_
        refine wl_call 18 [(.tmp 89)] _ [pt t 0] (.int .i64 (lk4)) rfl rfl (fun _ _ => by kernel_rfl) (looked_g hG) rfl ?_
        intro w25 hq
        replace Q1 := Q1.mo hq
        replace hG := hG.mo hq
        replace M := M.trans hq
        clear hq
        refine wl_mv (.tmp 7) (.int .i64 (lk2)) (fun _ => rfl) rfl rfl ?_
        refine wl_bin (fun x y => do eqGuard .sub 2 (.tmp 90) (.tmp 91) x y; binOp .sub 2 x y) (.tmp 90) (.tmp 91) (.int .i64 (lk4)) (.int .i64 (lk2)) (.int .i64 (lk4 - lk2)) (fun _ => rfl) rfl rfl (subL (by omega) (by omega) _ _ _) rfl ?_
        refine wl_mv (.tmp 3) (pt t 0) (fun _ => rfl) e3 rfl ?_
        refine wl_call 15 [(.tmp 93)] _ [pt t 0] (.int .i64 ((tr2.kv.length : Int))) rfl rfl (fun _ _ => by kernel_rfl) (len_g hG) rfl ?_
        intro w26 hq
        replace Q1 := Q1.mo hq
        replace hG := hG.mo hq
        replace M := M.trans hq
        clear hq
        have hbl3 := bitc_le (tr2.kv.length)
        refine wl_call 23 [(.tmp 94)] _ [.int .i64 ((tr2.kv.length : Int))] (.int .i64 ((bitc (tr2.kv.length) : Int))) rfl rfl (fun _ _ => by kernel_rfl) (bits_n (tr2.kv.length) _ (by omega) (by omega)) rfl ?_
        intro w27 hq
        replace Q1 := Q1.mo hq
        replace hG := hG.mo hq
        replace M := M.trans hq
        clear hq
        refine wl_bin (fun x y => do eqGuard .add 3 (.const (.int .i64 (1))) (.tmp 95) x y; binOp .add 3 x y) (.const (.int .i64 (1))) (.tmp 95) (.int .i64 (1)) (.int .i64 ((bitc (tr2.kv.length) : Int))) (.int .i64 (1 + ((bitc (tr2.kv.length) : Int)))) (fun _ => rfl) rfl rfl (addI (by omega) (by omega) _ _ _) rfl ?_
        refine wl_bin (fun x y => do eqGuard .mul 2 (.const (.int .i64 (48))) (.tmp 96) x y; binOp .mul 2 x y) (.const (.int .i64 (48))) (.tmp 96) (.int .i64 (48)) (.int .i64 (1 + ((bitc (tr2.kv.length) : Int)))) (.int .i64 (48 * (1 + ((bitc (tr2.kv.length) : Int))))) (fun _ => rfl) rfl rfl (mulL (by omega) (by omega) _ _ _) rfl ?_
        have hk5b := hk5
        have hk7b := hk7
        unfold Bm at hk5b hk7b
        rw [Nat.max_self] at hk5b hk7b
        refine wl_bin (fun x y => do eqGuard .gtr 2 (.tmp 92) (.tmp 97) x y; binOp .gtr 2 x y) (.tmp 92) (.tmp 97) (.int .i64 (lk4 - lk2)) (.int .i64 (48 * (1 + ((bitc (tr2.kv.length) : Int))))) (.bool false) (fun _ => rfl) rfl rfl (gtL (decide_eq_false (by omega)) _ _ _) rfl ?_
        refine w_nil ?_
        refine xn_then ?_
        refine w_condF rfl ?_
        refine w_skip ?_
        refine xn_blk ?_
        refine xn_then ?_
        refine w_reg ?_
        refine wl_bin (fun x y => do eqGuard .add 3 (.tmp 18) (.const (.int .i64 (1))) x y; binOp .add 3 x y) (.tmp 18) (.const (.int .i64 (1))) (.int .i64 (i : Int)) (.int .i64 (1)) (.int .i64 ((i : Int) + 1)) (fun _ => rfl) e18 rfl (addI (by omega) (by omega) _ _ _) rfl ?_
        refine wl_mv (.tmp 99) (.int .i64 ((i : Int) + 1)) (fun _ => rfl) rfl rfl ?_
        refine w_nil ?_
        exact xn_loop (r - 1) (by omega) ⟨i + 1, tr2, lk4, by omega, e16, e17, rfl, e3, hG.pop (fun _ e => by cases e), hb2, by omega, M⟩
    | false =>
      have hf1p := of_decide_eq_false hf1
      refine w_reg ?_
      refine wl_bin (fun x y => do eqGuard .eql 3 (.tmp 27) (.const (.int .i64 (0))) x y; binOp .eql 3 x y) (.tmp 27) (.const (.int .i64 (0))) (.int .i64 (o.d)) (.int .i64 (0)) (.bool false) (fun _ => rfl) rfl rfl (eqI hf1 _ _ _) rfl ?_
      refine wl_mv (.tmp 37) (.bool false) (fun _ => rfl) rfl rfl ?_
      refine w_nil ?_
      refine xn_then ?_
      refine w_condF rfl ?_
      refine w_seq ?_
      cases hf2 : decide (o.d = 1) with
      | true =>
        have hf2p := of_decide_eq_true hf2
        refine w_reg ?_
        refine wl_bin (fun x y => do eqGuard .eql 3 (.tmp 27) (.const (.int .i64 (1))) x y; binOp .eql 3 x y) (.tmp 27) (.const (.int .i64 (1))) (.int .i64 (o.d)) (.int .i64 (1)) (.bool true) (fun _ => rfl) rfl rfl (eqI hf2 _ _ _) rfl ?_
        refine wl_mv (.tmp 52) (.bool true) (fun _ => rfl) rfl rfl ?_
        refine w_nil ?_
        refine xn_then ?_
        refine w_condT rfl ?_
        refine w_reg ?_
        refine wl_mv (.tmp 3) (pt t 0) (fun _ => rfl) e3 rfl ?_
        refine wl_un (fun v => Instr.fieldAt 31 v 2) (.tmp 5) (pt k1 0) (pt k1 2) (fun _ => rfl) rfl (by kernel_rfl) rfl ?_
        refine wl_load 2 (.tmp 54) (pt k1 2) (.int .i64 (o.i)) rfl rfl (run_one Q1 2 2 rfl Try.underlying2 rfl) rfl ?_
        refine wl_callx 20 [(.tmp 53), (.tmp 55)] _ [pt t 0, .int .i64 (o.i)] rfl rfl (fun _ _ => by kernel_rfl) (del_any hG hb hok.2.2 (by omega)) rfl ?_
        rintro _ w15 ⟨p, c, tr2, lk2, rfl, hG, hb2, hk1, hk2, hM2⟩
        refine ⟨_, rfl, ?_⟩
        have hle2 := hG.le
        have hkl2 := tr2.kv_len
        have hz1 := bm_hi hle hle2
        have hz2 := bm_hi hle2 hle2
        replace M := Wr.mo hM2 M (Nat.le_refl _)
        replace Q1 := Wr.at hM2 Q1 (by simp)
        clear hM2
        refine w_nil ?_
        refine xn_blk ?_
        refine xn_then ?_
        refine w_seq ?_
        refine w_seq ?_
        refine w_reg ?_
        refine wl_mv (.tmp 3) (pt t 0) (fun _ => rfl) e3 rfl ?_
        refine wl_call 22 [(.tmp 57)] _ [pt t 0] (.int .i64 ((tr2.ht : Int))) rfl rfl (fun _ _ => by kernel_rfl) (depth_g hG) rfl ?_
        intro w16 hq
        replace Q1 := Q1.mo hq
        replace hG := hG.mo hq
        replace M := M.trans hq
        clear hq
        refine wl_mv (.tmp 3) (pt t 0) (fun _ => rfl) e3 rfl ?_
        refine wl_call 15 [(.tmp 59)] _ [pt t 0] (.int .i64 ((tr2.kv.length : Int))) rfl rfl (fun _ _ => by kernel_rfl) (len_g hG) rfl ?_
        intro w17 hq
        replace Q1 := Q1.mo hq
        replace hG := hG.mo hq
        replace M := M.trans hq
        clear hq
        have hbl1 := bitc_le (tr2.kv.length)
        refine wl_call 23 [(.tmp 60)] _ [.int .i64 ((tr2.kv.length : Int))] (.int .i64 ((bitc (tr2.kv.length) : Int))) rfl rfl (fun _ _ => by kernel_rfl) (bits_n (tr2.kv.length) _ (by omega) (by omega)) rfl ?_
        intro w18 hq
        replace Q1 := Q1.mo hq
        replace hG := hG.mo hq
        replace M := M.trans hq
        clear hq
        refine wl_bin (fun x y => do eqGuard .mul 3 (.const (.int .i64 (3))) (.tmp 61) x y; binOp .mul 3 x y) (.const (.int .i64 (3))) (.tmp 61) (.int .i64 (3)) (.int .i64 ((bitc (tr2.kv.length) : Int))) (.int .i64 (3 * ((bitc (tr2.kv.length) : Int)))) (fun _ => rfl) rfl rfl (mulI (by omega) (by omega) _ _ _) rfl ?_
        have hbt := (ht_bits hb2 hle2).1
        rw [show tr2.sz.toNat = tr2.kv.length by omega] at hbt
        refine wl_bin (fun x y => do eqGuard .gtr 3 (.tmp 58) (.tmp 62) x y; binOp .gtr 3 x y) (.tmp 58) (.tmp 62) (.int .i64 ((tr2.ht : Int))) (.int .i64 (3 * ((bitc (tr2.kv.length) : Int)))) (.bool false) (fun _ => rfl) rfl rfl (gtI (decide_eq_false (by omega)) _ _ _) rfl ?_
        refine wl_mv (.tmp 63) (.bool false) (fun _ => rfl) rfl rfl ?_
        refine wl_mv (.tmp 3) (pt t 0) (fun _ => rfl) e3 rfl ?_
        refine wl_call 18 [(.tmp 65)] _ [pt t 0] (.int .i64 (lk2)) rfl rfl (fun _ _ => by kernel_rfl) (looked_g hG) rfl ?_
        intro w19 hq
        replace Q1 := Q1.mo hq
        replace hG := hG.mo hq
        replace M := M.trans hq
        clear hq
        refine wl_mv (.tmp 7) (.int .i64 (lk)) (fun _ => rfl) rfl rfl ?_
        refine wl_bin (fun x y => do eqGuard .sub 2 (.tmp 66) (.tmp 67) x y; binOp .sub 2 x y) (.tmp 66) (.tmp 67) (.int .i64 (lk2)) (.int .i64 (lk)) (.int .i64 (lk2 - lk)) (fun _ => rfl) rfl rfl (subL (by omega) (by omega) _ _ _) rfl ?_
        refine wl_mv (.tmp 8) (.int .i64 (24)) (fun _ => rfl) rfl rfl ?_
        refine wl_mv (.tmp 6) (.int .i64 ((tr.kv.length : Int))) (fun _ => rfl) rfl rfl ?_
        refine wl_mv (.tmp 3) (pt t 0) (fun _ => rfl) e3 rfl ?_
        refine wl_call 15 [(.tmp 71)] _ [pt t 0] (.int .i64 ((tr2.kv.length : Int))) rfl rfl (fun _ _ => by kernel_rfl) (len_g hG) rfl ?_
        intro w20 hq
        replace Q1 := Q1.mo hq
        replace hG := hG.mo hq
        replace M := M.trans hq
        clear hq
        refine wl_val (.int .i64 (((max tr.kv.length tr2.kv.length : Nat) : Int))) (maxN tr.kv.length tr2.kv.length _ _ _ (by exact rfl) (by exact rfl) _ _ _ _ _ _) rfl ?_
        have hbl2 := bitc_le (max tr.kv.length tr2.kv.length)
        refine wl_call 23 [(.tmp 73)] _ [.int .i64 (((max tr.kv.length tr2.kv.length : Nat) : Int))] (.int .i64 ((bitc (max tr.kv.length tr2.kv.length) : Int))) rfl rfl (fun _ _ => by kernel_rfl) (bits_n (max tr.kv.length tr2.kv.length) _ (by omega) (by omega)) rfl ?_
        intro w21 hq
        replace Q1 := Q1.mo hq
        replace hG := hG.mo hq
        replace M := M.trans hq
        clear hq
        refine wl_bin (fun x y => do eqGuard .add 3 (.const (.int .i64 (1))) (.tmp 74) x y; binOp .add 3 x y) (.const (.int .i64 (1))) (.tmp 74) (.int .i64 (1)) (.int .i64 ((bitc (max tr.kv.length tr2.kv.length) : Int))) (.int .i64 (1 + ((bitc (max tr.kv.length tr2.kv.length) : Int)))) (fun _ => rfl) rfl rfl (addI (by omega) (by omega) _ _ _) rfl ?_
        refine wl_bin (fun x y => do eqGuard .mul 2 (.tmp 69) (.tmp 75) x y; binOp .mul 2 x y) (.tmp 69) (.tmp 75) (.int .i64 (24)) (.int .i64 (1 + ((bitc (max tr.kv.length tr2.kv.length) : Int)))) (.int .i64 (24 * (1 + ((bitc (max tr.kv.length tr2.kv.length) : Int))))) (fun _ => rfl) rfl rfl (mulL (by omega) (by omega) _ _ _) rfl ?_
        have hk2b := hk2
        unfold Bm at hk2b
        refine wl_bin (fun x y => do eqGuard .gtr 2 (.tmp 68) (.tmp 76) x y; binOp .gtr 2 x y) (.tmp 68) (.tmp 76) (.int .i64 (lk2 - lk)) (.int .i64 (24 * (1 + ((bitc (max tr.kv.length tr2.kv.length) : Int))))) (.bool false) (fun _ => rfl) rfl rfl (gtL (decide_eq_false (by omega)) _ _ _) rfl ?_
        refine wl_pick (.tmp 64) (.const (.bool true)) (.tmp 77) false (.bool false) (fun _ => rfl) rfl rfl rfl ?_
        refine w_nil ?_
        refine xn_then ?_
        refine w_condF rfl ?_
        refine w_skip ?_
        refine xn_then ?_
        refine w_seq ?_
        refine w_reg ?_
        refine wl_mv (.tmp 3) (pt t 0) (fun _ => rfl) e3 rfl ?_
        refine wl_call 18 [(.tmp 79)] _ [pt t 0] (.int .i64 (lk2)) rfl rfl (fun _ _ => by kernel_rfl) (looked_g hG) rfl ?_
        intro w22 hq
        replace Q1 := Q1.mo hq
        replace hG := hG.mo hq
        replace M := M.trans hq
        clear hq
        refine wl_mv (.tmp 80) (.int .i64 (lk2)) (fun _ => rfl) rfl rfl ?_
        refine w_nil ?_
        refine xn_then ?_
        refine w_seq ?_
        refine w_reg ?_
        refine wl_mv (.tmp 3) (pt t 0) (fun _ => rfl) e3 rfl ?_
        refine wl_un (fun v => Instr.fieldAt 31 v 1) (.tmp 5) (pt k1 0) (pt k1 1) (fun _ => rfl) rfl (by kernel_rfl) rfl ?_
        refine wl_load 3 (.tmp 82) (pt k1 1) (.int .i64 (o.a)) rfl rfl (run_one Q1 3 1 rfl Try.underlying3 rfl) rfl ?_
        refine wl_callx 11 [(.tmp 81), (.tmp 83)] _ [pt t 0, .int .i64 (o.a)] rfl rfl (fun _ _ => by kernel_rfl) (at_any hG hb2 (by omega)) rfl ?_
        rintro _ w23 ⟨x3, b3, lk3, rfl, hG, hk4, hk5, hM2⟩
        refine ⟨_, rfl, ?_⟩
        replace M := Wr.mo hM2 M (Nat.le_refl _)
        replace Q1 := Wr.at hM2 Q1 (by simp)
        clear hM2
        refine w_nil ?_
        refine xn_then ?_
        refine w_seq ?_
        refine w_reg ?_
        refine wl_mv (.tmp 3) (pt t 0) (fun _ => rfl) e3 rfl ?_
        refine wl_un (fun v => Instr.fieldAt 31 v 2) (.tmp 5) (pt k1 0) (pt k1 2) (fun _ => rfl) rfl (by kernel_rfl) rfl ?_
        refine wl_load 2 (.tmp 86) (pt k1 2) (.int .i64 (o.i)) rfl rfl (run_one Q1 2 2 rfl Try.underlying2 rfl) rfl ?_
        refine wl_callx 13 [(.tmp 85), (.tmp 87)] _ [pt t 0, .int .i64 (o.i)] rfl rfl (fun _ _ => by kernel_rfl) (index_any hG hb2 hok.2.2 (by omega)) rfl ?_
        rintro _ w24 ⟨x4, b4, lk4, rfl, hG, hk6, hk7, hM2⟩
        refine ⟨_, rfl, ?_⟩
        replace M := Wr.mo hM2 M (Nat.le_refl _)
        replace Q1 := Wr.at hM2 Q1 (by simp)
        clear hM2
        refine w_nil ?_
        refine xn_then ?_
        refine w_seq ?_
        refine w_reg ?_
        refine wl_mv (.tmp 3) (pt t 0) (fun _ => rfl) e3 rfl ?_
        refine wl_call 18 [(.tmp 89)] _ [pt t 0] (.int .i64 (lk4)) rfl rfl (fun _ _ => by kernel_rfl) (looked_g hG) rfl ?_
        intro w25 hq
        replace Q1 := Q1.mo hq
        replace hG := hG.mo hq
        replace M := M.trans hq
        clear hq
        refine wl_mv (.tmp 7) (.int .i64 (lk2)) (fun _ => rfl) rfl rfl ?_
        refine wl_bin (fun x y => do eqGuard .sub 2 (.tmp 90) (.tmp 91) x y; binOp .sub 2 x y) (.tmp 90) (.tmp 91) (.int .i64 (lk4)) (.int .i64 (lk2)) (.int .i64 (lk4 - lk2)) (fun _ => rfl) rfl rfl (subL (by omega) (by omega) _ _ _) rfl ?_
        refine wl_mv (.tmp 3) (pt t 0) (fun _ => rfl) e3 rfl ?_
        refine wl_call 15 [(.tmp 93)] _ [pt t 0] (.int .i64 ((tr2.kv.length : Int))) rfl rfl (fun _ _ => by kernel_rfl) (len_g hG) rfl ?_
        intro w26 hq
        replace Q1 := Q1.mo hq
        replace hG := hG.mo hq
        replace M := M.trans hq
        clear hq
        have hbl3 := bitc_le (tr2.kv.length)
        refine wl_call 23 [(.tmp 94)] _ [.int .i64 ((tr2.kv.length : Int))] (.int .i64 ((bitc (tr2.kv.length) : Int))) rfl rfl (fun _ _ => by kernel_rfl) (bits_n (tr2.kv.length) _ (by omega) (by omega)) rfl ?_
        intro w27 hq
        replace Q1 := Q1.mo hq
        replace hG := hG.mo hq
        replace M := M.trans hq
        clear hq
        refine wl_bin (fun x y => do eqGuard .add 3 (.const (.int .i64 (1))) (.tmp 95) x y; binOp .add 3 x y) (.const (.int .i64 (1))) (.tmp 95) (.int .i64 (1)) (.int .i64 ((bitc (tr2.kv.length) : Int))) (.int .i64 (1 + ((bitc (tr2.kv.length) : Int)))) (fun _ => rfl) rfl rfl (addI (by omega) (by omega) _ _ _) rfl ?_
        refine wl_bin (fun x y => do eqGuard .mul 2 (.const (.int .i64 (48))) (.tmp 96) x y; binOp .mul 2 x y) (.const (.int .i64 (48))) (.tmp 96) (.int .i64 (48)) (.int .i64 (1 + ((bitc (tr2.kv.length) : Int)))) (.int .i64 (48 * (1 + ((bitc (tr2.kv.length) : Int))))) (fun _ => rfl) rfl rfl (mulL (by omega) (by omega) _ _ _) rfl ?_
        have hk5b := hk5
        have hk7b := hk7
        unfold Bm at hk5b hk7b
        rw [Nat.max_self] at hk5b hk7b
        refine wl_bin (fun x y => do eqGuard .gtr 2 (.tmp 92) (.tmp 97) x y; binOp .gtr 2 x y) (.tmp 92) (.tmp 97) (.int .i64 (lk4 - lk2)) (.int .i64 (48 * (1 + ((bitc (tr2.kv.length) : Int))))) (.bool false) (fun _ => rfl) rfl rfl (gtL (decide_eq_false (by omega)) _ _ _) rfl ?_
        refine w_nil ?_
        refine xn_then ?_
        refine w_condF rfl ?_
        refine w_skip ?_
        refine xn_blk ?_
        refine xn_then ?_
        refine w_reg ?_
        refine wl_bin (fun x y => do eqGuard .add 3 (.tmp 18) (.const (.int .i64 (1))) x y; binOp .add 3 x y) (.tmp 18) (.const (.int .i64 (1))) (.int .i64 (i : Int)) (.int .i64 (1)) (.int .i64 ((i : Int) + 1)) (fun _ => rfl) e18 rfl (addI (by omega) (by omega) _ _ _) rfl ?_
        refine wl_mv (.tmp 99) (.int .i64 ((i : Int) + 1)) (fun _ => rfl) rfl rfl ?_
        refine w_nil ?_
        exact xn_loop (r - 1) (by omega) ⟨i + 1, tr2, lk4, by omega, e16, e17, rfl, e3, hG.pop (fun _ e => by cases e), hb2, by omega, M⟩
      | false =>
        have hf2p := of_decide_eq_false hf2
        refine w_reg ?_
        refine wl_bin (fun x y => do eqGuard .eql 3 (.tmp 27) (.const (.int .i64 (1))) x y; binOp .eql 3 x y) (.tmp 27) (.const (.int .i64 (1))) (.int .i64 (o.d)) (.int .i64 (1)) (.bool false) (fun _ => rfl) rfl rfl (eqI hf2 _ _ _) rfl ?_
        refine wl_mv (.tmp 52) (.bool false) (fun _ => rfl) rfl rfl ?_
        refine w_nil ?_
        refine xn_then ?_
        refine w_condF rfl ?_
        refine w_seq ?_
        refine w_reg ?_
        refine wl_mv (.tmp 3) (pt t 0) (fun _ => rfl) e3 rfl ?_
        refine wl_un (fun v => Instr.fieldAt 31 v 2) (.tmp 5) (pt k1 0) (pt k1 2) (fun _ => rfl) rfl (by kernel_rfl) rfl ?_
        refine wl_load 2 (.tmp 29) (pt k1 2) (.int .i64 (o.i)) rfl rfl (run_one Q1 2 2 rfl Try.underlying2 rfl) rfl ?_
        refine wl_un (fun v => Instr.fieldAt 31 v 1) (.tmp 5) (pt k1 0) (pt k1 1) (fun _ => rfl) rfl (by kernel_rfl) rfl ?_
        refine wl_load 3 (.tmp 31) (pt k1 1) (.int .i64 (o.a)) rfl rfl (run_one Q1 3 1 rfl Try.underlying3 rfl) rfl ?_
        refine wl_callx 21 [(.tmp 28), (.tmp 30), (.tmp 32)] _ [pt t 0, .int .i64 (o.i), .int .i64 (o.a)] rfl rfl (fun _ _ => by kernel_rfl) (mov_any hG hb hok.2.2 (by omega)) rfl ?_
        rintro _ w15 ⟨p, c, tr2, lk2, rfl, hG, hb2, hk1, hk2, hM2⟩
        refine ⟨_, rfl, ?_⟩
        have hle2 := hG.le
        have hkl2 := tr2.kv_len
        have hz1 := bm_hi hle hle2
        have hz2 := bm_hi hle2 hle2
        replace M := Wr.mo hM2 M (Nat.le_refl _)
        replace Q1 := Wr.at hM2 Q1 (by simp)
        clear hM2
        refine w_nil ?_
        refine xn_then ?_
        refine w_reg ?_
        refine wl_mv (.tmp 8) (.int .i64 (24)) (fun _ => rfl) rfl rfl ?_
        refine wl_bin (fun x y => do eqGuard .mul 2 (.tmp 34) (.const (.int .i64 (2))) x y; binOp .mul 2 x y) (.tmp 34) (.const (.int .i64 (2))) (.int .i64 (24)) (.int .i64 (2)) (.int .i64 (48)) (fun _ => rfl) rfl rfl (by kernel_rfl) rfl ?_
        refine wl_mv (.tmp 35) (.int .i64 (48)) (fun _ => rfl) rfl rfl ?_
        refine w_nil ?_
        refine xn_blk ?_
        refine xn_then ?_
        refine w_seq ?_
        refine w_seq ?_
        refine w_reg ?_
        refine wl_mv (.tmp 3) (pt t 0) (fun _ => rfl) e3 rfl ?_
        refine wl_call 22 [(.tmp 57)] _ [pt t 0] (.int .i64 ((tr2.ht : Int))) rfl rfl (fun _ _ => by kernel_rfl) (depth_g hG) rfl ?_
        intro w16 hq
        replace Q1 := Q1.mo hq
        replace hG := hG.mo hq
        replace M := M.trans hq
        clear hq
        refine wl_mv (.tmp 3) (pt t 0) (fun _ => rfl) e3 rfl ?_
        refine wl_call 15 [(.tmp 59)] _ [pt t 0] (.int .i64 ((tr2.kv.length : Int))) rfl rfl (fun _ _ => by kernel_rfl) (len_g hG) rfl ?_
        intro w17 hq
        replace Q1 := Q1.mo hq
        replace hG := hG.mo hq
        replace M := M.trans hq
        clear hq
        have hbl1 := bitc_le (tr2.kv.length)
        refine wl_call 23 [(.tmp 60)] _ [.int .i64 ((tr2.kv.length : Int))] (.int .i64 ((bitc (tr2.kv.length) : Int))) rfl rfl (fun _ _ => by kernel_rfl) (bits_n (tr2.kv.length) _ (by omega) (by omega)) rfl ?_
        intro w18 hq
        replace Q1 := Q1.mo hq
        replace hG := hG.mo hq
        replace M := M.trans hq
        clear hq
        refine wl_bin (fun x y => do eqGuard .mul 3 (.const (.int .i64 (3))) (.tmp 61) x y; binOp .mul 3 x y) (.const (.int .i64 (3))) (.tmp 61) (.int .i64 (3)) (.int .i64 ((bitc (tr2.kv.length) : Int))) (.int .i64 (3 * ((bitc (tr2.kv.length) : Int)))) (fun _ => rfl) rfl rfl (mulI (by omega) (by omega) _ _ _) rfl ?_
        have hbt := (ht_bits hb2 hle2).1
        rw [show tr2.sz.toNat = tr2.kv.length by omega] at hbt
        refine wl_bin (fun x y => do eqGuard .gtr 3 (.tmp 58) (.tmp 62) x y; binOp .gtr 3 x y) (.tmp 58) (.tmp 62) (.int .i64 ((tr2.ht : Int))) (.int .i64 (3 * ((bitc (tr2.kv.length) : Int)))) (.bool false) (fun _ => rfl) rfl rfl (gtI (decide_eq_false (by omega)) _ _ _) rfl ?_
        refine wl_mv (.tmp 63) (.bool false) (fun _ => rfl) rfl rfl ?_
        refine wl_mv (.tmp 3) (pt t 0) (fun _ => rfl) e3 rfl ?_
        refine wl_call 18 [(.tmp 65)] _ [pt t 0] (.int .i64 (lk2)) rfl rfl (fun _ _ => by kernel_rfl) (looked_g hG) rfl ?_
        intro w19 hq
        replace Q1 := Q1.mo hq
        replace hG := hG.mo hq
        replace M := M.trans hq
        clear hq
        refine wl_mv (.tmp 7) (.int .i64 (lk)) (fun _ => rfl) rfl rfl ?_
        refine wl_bin (fun x y => do eqGuard .sub 2 (.tmp 66) (.tmp 67) x y; binOp .sub 2 x y) (.tmp 66) (.tmp 67) (.int .i64 (lk2)) (.int .i64 (lk)) (.int .i64 (lk2 - lk)) (fun _ => rfl) rfl rfl (subL (by omega) (by omega) _ _ _) rfl ?_
        refine wl_mv (.tmp 8) (.int .i64 (48)) (fun _ => rfl) rfl rfl ?_
        refine wl_mv (.tmp 6) (.int .i64 ((tr.kv.length : Int))) (fun _ => rfl) rfl rfl ?_
        refine wl_mv (.tmp 3) (pt t 0) (fun _ => rfl) e3 rfl ?_
        refine wl_call 15 [(.tmp 71)] _ [pt t 0] (.int .i64 ((tr2.kv.length : Int))) rfl rfl (fun _ _ => by kernel_rfl) (len_g hG) rfl ?_
        intro w20 hq
        replace Q1 := Q1.mo hq
        replace hG := hG.mo hq
        replace M := M.trans hq
        clear hq
        refine wl_val (.int .i64 (((max tr.kv.length tr2.kv.length : Nat) : Int))) (maxN tr.kv.length tr2.kv.length _ _ _ (by exact rfl) (by exact rfl) _ _ _ _ _ _) rfl ?_
        have hbl2 := bitc_le (max tr.kv.length tr2.kv.length)
        refine wl_call 23 [(.tmp 73)] _ [.int .i64 (((max tr.kv.length tr2.kv.length : Nat) : Int))] (.int .i64 ((bitc (max tr.kv.length tr2.kv.length) : Int))) rfl rfl (fun _ _ => by kernel_rfl) (bits_n (max tr.kv.length tr2.kv.length) _ (by omega) (by omega)) rfl ?_
        intro w21 hq
        replace Q1 := Q1.mo hq
        replace hG := hG.mo hq
        replace M := M.trans hq
        clear hq
        refine wl_bin (fun x y => do eqGuard .add 3 (.const (.int .i64 (1))) (.tmp 74) x y; binOp .add 3 x y) (.const (.int .i64 (1))) (.tmp 74) (.int .i64 (1)) (.int .i64 ((bitc (max tr.kv.length tr2.kv.length) : Int))) (.int .i64 (1 + ((bitc (max tr.kv.length tr2.kv.length) : Int)))) (fun _ => rfl) rfl rfl (addI (by omega) (by omega) _ _ _) rfl ?_
        refine wl_bin (fun x y => do eqGuard .mul 2 (.tmp 69) (.tmp 75) x y; binOp .mul 2 x y) (.tmp 69) (.tmp 75) (.int .i64 (48)) (.int .i64 (1 + ((bitc (max tr.kv.length tr2.kv.length) : Int)))) (.int .i64 (48 * (1 + ((bitc (max tr.kv.length tr2.kv.length) : Int))))) (fun _ => rfl) rfl rfl (mulL (by omega) (by omega) _ _ _) rfl ?_
        have hk2b := hk2
        unfold Bm at hk2b
        refine wl_bin (fun x y => do eqGuard .gtr 2 (.tmp 68) (.tmp 76) x y; binOp .gtr 2 x y) (.tmp 68) (.tmp 76) (.int .i64 (lk2 - lk)) (.int .i64 (48 * (1 + ((bitc (max tr.kv.length tr2.kv.length) : Int))))) (.bool false) (fun _ => rfl) rfl rfl (gtL (decide_eq_false (by omega)) _ _ _) rfl ?_
        refine wl_pick (.tmp 64) (.const (.bool true)) (.tmp 77) false (.bool false) (fun _ => rfl) rfl rfl rfl ?_
        refine w_nil ?_
        refine xn_then ?_
        refine w_condF rfl ?_
        refine w_skip ?_
        refine xn_then ?_
        refine w_seq ?_
        refine w_reg ?_
        refine wl_mv (.tmp 3) (pt t 0) (fun _ => rfl) e3 rfl ?_
        refine wl_call 18 [(.tmp 79)] _ [pt t 0] (.int .i64 (lk2)) rfl rfl (fun _ _ => by kernel_rfl) (looked_g hG) rfl ?_
        intro w22 hq
        replace Q1 := Q1.mo hq
        replace hG := hG.mo hq
        replace M := M.trans hq
        clear hq
        refine wl_mv (.tmp 80) (.int .i64 (lk2)) (fun _ => rfl) rfl rfl ?_
        refine w_nil ?_
        refine xn_then ?_
        refine w_seq ?_
        refine w_reg ?_
        refine wl_mv (.tmp 3) (pt t 0) (fun _ => rfl) e3 rfl ?_
        refine wl_un (fun v => Instr.fieldAt 31 v 1) (.tmp 5) (pt k1 0) (pt k1 1) (fun _ => rfl) rfl (by kernel_rfl) rfl ?_
        refine wl_load 3 (.tmp 82) (pt k1 1) (.int .i64 (o.a)) rfl rfl (run_one Q1 3 1 rfl Try.underlying3 rfl) rfl ?_
        refine wl_callx 11 [(.tmp 81), (.tmp 83)] _ [pt t 0, .int .i64 (o.a)] rfl rfl (fun _ _ => by kernel_rfl) (at_any hG hb2 (by omega)) rfl ?_
        rintro _ w23 ⟨x3, b3, lk3, rfl, hG, hk4, hk5, hM2⟩
        refine ⟨_, rfl, ?_⟩
        replace M := Wr.mo hM2 M (Nat.le_refl _)
        replace Q1 := Wr.at hM2 Q1 (by simp)
        clear hM2
        refine w_nil ?_
        refine xn_then ?_
        refine w_seq ?_
        refine w_reg ?_
        refine wl_mv (.tmp 3) (pt t 0) (fun _ => rfl) e3 rfl ?_
        refine wl_un (fun v => Instr.fieldAt 31 v 2) (.tmp 5) (pt k1 0) (pt k1 2) (fun _ => rfl) rfl (by kernel_rfl) rfl ?_
        refine wl_load 2 (.tmp 86) (pt k1 2) (.int .i64 (o.i)) rfl rfl (run_one Q1 2 2 rfl Try.underlying2 rfl) rfl ?_
        refine wl_callx 13 [(.tmp 85), (.tmp 87)] _ [pt t 0, .int .i64 (o.i)] rfl rfl (fun _ _ => by kernel_rfl) (index_any hG hb2 hok.2.2 (by omega)) rfl ?_
        rintro _ w24 ⟨x4, b4, lk4, rfl, hG, hk6, hk7, hM2⟩
        refine ⟨_, rfl, ?_⟩
        replace M := Wr.mo hM2 M (Nat.le_refl _)
        replace Q1 := Wr.at hM2 Q1 (by simp)
        clear hM2
        refine w_nil ?_
        refine xn_then ?_
        refine w_seq ?_
        refine w_reg ?_
        refine wl_mv (.tmp 3) (pt t 0) (fun _ => rfl) e3 rfl ?_
        refine wl_call 18 [(.tmp 89)] _ [pt t 0] (.int .i64 (lk4)) rfl rfl (fun _ _ => by kernel_rfl) (looked_g hG) rfl ?_
        intro w25 hq
        replace Q1 := Q1.mo hq
        replace hG := hG.mo hq
        replace M := M.trans hq
        clear hq
        refine wl_mv (.tmp 7) (.int .i64 (lk2)) (fun _ => rfl) rfl rfl ?_
        refine wl_bin (fun x y => do eqGuard .sub 2 (.tmp 90) (.tmp 91) x y; binOp .sub 2 x y) (.tmp 90) (.tmp 91) (.int .i64 (lk4)) (.int .i64 (lk2)) (.int .i64 (lk4 - lk2)) (fun _ => rfl) rfl rfl (subL (by omega) (by omega) _ _ _) rfl ?_
        refine wl_mv (.tmp 3) (pt t 0) (fun _ => rfl) e3 rfl ?_
        refine wl_call 15 [(.tmp 93)] _ [pt t 0] (.int .i64 ((tr2.kv.length : Int))) rfl rfl (fun _ _ => by kernel_rfl) (len_g hG) rfl ?_
        intro w26 hq
        replace Q1 := Q1.mo hq
        replace hG := hG.mo hq
        replace M := M.trans hq
        clear hq
        have hbl3 := bitc_le (tr2.kv.length)
        refine wl_call 23 [(.tmp 94)] _ [.int .i64 ((tr2.kv.length : Int))] (.int .i64 ((bitc (tr2.kv.length) : Int))) rfl rfl (fun _ _ => by kernel_rfl) (bits_n (tr2.kv.length) _ (by omega) (by omega)) rfl ?_
        intro w27 hq
        replace Q1 := Q1.mo hq
        replace hG := hG.mo hq
        replace M := M.trans hq
        clear hq
        refine wl_bin (fun x y => do eqGuard .add 3 (.const (.int .i64 (1))) (.tmp 95) x y; binOp .add 3 x y) (.const (.int .i64 (1))) (.tmp 95) (.int .i64 (1)) (.int .i64 ((bitc (tr2.kv.length) : Int))) (.int .i64 (1 + ((bitc (tr2.kv.length) : Int)))) (fun _ => rfl) rfl rfl (addI (by omega) (by omega) _ _ _) rfl ?_
        refine wl_bin (fun x y => do eqGuard .mul 2 (.const (.int .i64 (48))) (.tmp 96) x y; binOp .mul 2 x y) (.const (.int .i64 (48))) (.tmp 96) (.int .i64 (48)) (.int .i64 (1 + ((bitc (tr2.kv.length) : Int)))) (.int .i64 (48 * (1 + ((bitc (tr2.kv.length) : Int))))) (fun _ => rfl) rfl rfl (mulL (by omega) (by omega) _ _ _) rfl ?_
        have hk5b := hk5
        have hk7b := hk7
        unfold Bm at hk5b hk7b
        rw [Nat.max_self] at hk5b hk7b
        refine wl_bin (fun x y => do eqGuard .gtr 2 (.tmp 92) (.tmp 97) x y; binOp .gtr 2 x y) (.tmp 92) (.tmp 97) (.int .i64 (lk4 - lk2)) (.int .i64 (48 * (1 + ((bitc (tr2.kv.length) : Int))))) (.bool false) (fun _ => rfl) rfl rfl (gtL (decide_eq_false (by omega)) _ _ _) rfl ?_
        refine w_nil ?_
        refine xn_then ?_
        refine w_condF rfl ?_
        refine w_skip ?_
        refine xn_blk ?_
        refine xn_then ?_
        refine w_reg ?_
        refine wl_bin (fun x y => do eqGuard .add 3 (.tmp 18) (.const (.int .i64 (1))) x y; binOp .add 3 x y) (.tmp 18) (.const (.int .i64 (1))) (.int .i64 (i : Int)) (.int .i64 (1)) (.int .i64 ((i : Int) + 1)) (fun _ => rfl) e18 rfl (addI (by omega) (by omega) _ _ _) rfl ?_
        refine wl_mv (.tmp 99) (.int .i64 ((i : Int) + 1)) (fun _ => rfl) rfl rfl ?_
        refine w_nil ?_
        exact xn_loop (r - 1) (by omega) ⟨i + 1, tr2, lk4, by omega, e16, e17, rfl, e3, hG.pop (fun _ e => by cases e), hb2, by omega, M⟩
  | false =>
    have hf0p := of_decide_eq_false hf0
    refine w_reg ?_
    refine wl_bin (fun x y => do eqGuard .lss 3 (.tmp 18) (.tmp 17) x y; binOp .lss 3 x y) (.tmp 18) (.tmp 17) (.int .i64 (i : Int)) (.int .i64 (sc.length : Int)) (.bool false) (fun _ => rfl) e18 e17 (ltI hf0 _ _ _) rfl ?_
    refine w_nil ?_
    refine xn_then ?_
    refine w_seq ?_
    refine w_condF rfl ?_
    refine w_exit ?_
    refine xx_then ?_
    refine xx_then ?_
    refine xx_blk ?_
    refine xn_then ?_
    refine w_seq ?_
    refine w_reg ?_
    refine wl_mv (.const (.bool true)) (.bool true) (fun _ => rfl) rfl rfl ?_
    refine w_nil ?_
    refine xn_then ?_
    refine w_ret ?_
    exact w_ret1 _ (.bool true) rfl rfl ⟨rfl, M⟩
end
end Go.Proofs.Ytbmbldloeblbbaa
