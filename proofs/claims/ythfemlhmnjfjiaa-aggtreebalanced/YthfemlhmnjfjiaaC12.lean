/-
  A part of the proof.
-/
import Derived.Test.YthfemlhmnjfjiaaC11
import Derived.Test.YthfemlhmnjfjiaaC5
import Derived.Test.YthfemlhmnjfjiaaRows
import Derived.ProofKit
import Derived.OpenShut
import Derived.Carry
import Derived.ChangeMaps5
import Derived.ReadAgain
import Derived.WideKeyArgs
import Derived.SizedLaws
import Derived.Deep.Slices
import Derived.Deep.Strs
/-
  AggtreeBalanced: the law's walk.
-/
namespace Go.Proofs.Ythfemlhmnjfjiaa
open Go.RowKit
namespace G
section
variable {w : World}
theorem balanced_x (scs : List Int) (ps : Option Addr) (caps : Nat) (sc : List Op6) (p : Option Addr) (cap : Nat) (hgt64 : 64 < scs.length) : Calls Try.prog 4 #[.slice ps scs.length caps, .slice p sc.length cap] w fun e w' => e = .returned (.bool true) ∧ Mo w w' := by
  refine w_enter 138 Try.func4 Try.ntmps4 rfl rfl ?_
  have M : Mo w w := Mo.refl _
  refine w_seq ?_
  refine w_reg ?_
  refine wl_mv (.const (.bool false)) (.bool false) (fun _ => rfl) rfl rfl ?_
  refine w_nil ?_
  refine xn_then ?_
  refine w_seq ?_
  refine w_reg ?_
  refine wl_mv (.tmp 0) (.slice ps scs.length caps) (fun _ => rfl) rfl rfl ?_
  refine wl_call 7 [(.tmp 15)] _ [.slice ps scs.length caps] (.tuple #[pp none, .int .i64 (3)]) rfl rfl (fun _ _ => by kernel_rfl) (new_x hgt64) rfl ?_
  intro w1 hq
  replace M := M.trans hq
  clear hq
  refine wl_mv (.tmp 16) (.tuple #[pp none, .int .i64 (3)]) (fun _ => rfl) rfl rfl ?_
  refine wl_un (fun v => Instr.extract v 0) (.tmp 14) (.tuple #[pp none, .int .i64 (3)]) (pp none) (fun _ => rfl) rfl (by kernel_rfl) rfl ?_
  refine wl_un (fun v => Instr.extract v 1) (.tmp 14) (.tuple #[pp none, .int .i64 (3)]) (.int .i64 (3)) (fun _ => rfl) rfl (by kernel_rfl) rfl ?_
  refine wl_mv (.tmp 17) (pp none) (fun _ => rfl) rfl rfl ?_
  refine wl_mv (.tmp 18) (.int .i64 (3)) (fun _ => rfl) rfl rfl ?_
  refine w_nil ?_
  refine xn_then ?_
  refine w_seq ?_
  refine w_seq ?_
  refine w_reg ?_
  refine wl_call 8 [] _ [] (.bool true) rfl rfl (fun _ _ => by kernel_rfl) (begun_n _) rfl ?_
  intro w2 hq
  replace M := M.trans hq
  clear hq
  refine wl_un (fun v => Op.unary .not v) (.tmp 19) (.bool true) (.bool false) (fun _ => rfl) rfl (by kernel_rfl) rfl ?_
  refine wl_mv (.tmp 20) (.bool false) (fun _ => rfl) rfl rfl ?_
  refine wl_mv (.tmp 5) (pp none) (fun _ => rfl) rfl rfl ?_
  refine wl_bin (fun x y => do eqGuard .eql 24 (.tmp 22) (.const (.pointer none)) x y; binOp .eql 24 x y) (.tmp 22) (.const (.pointer none)) (pp none) (pp none) (.bool true) (fun _ => rfl) rfl rfl (eqT0 _ _ _) rfl ?_
  refine wl_mv (.tmp 6) (.int .i64 (3)) (fun _ => rfl) rfl rfl ?_
  refine wl_bin (fun x y => do eqGuard .neq 25 (.tmp 24) (.const (.int .i64 (0))) x y; binOp .neq 25 x y) (.tmp 24) (.const (.int .i64 (0))) (.int .i64 (3)) (.int .i64 (0)) (.bool true) (fun _ => rfl) rfl rfl (by kernel_rfl) rfl ?_
  refine wl_bin (fun x y => do eqGuard .neq 4 (.tmp 23) (.tmp 25) x y; binOp .neq 4 x y) (.tmp 23) (.tmp 25) (.bool true) (.bool true) (.bool false) (fun _ => rfl) rfl rfl (by kernel_rfl) rfl ?_
  refine wl_pick (.tmp 21) (.const (.bool true)) (.tmp 26) false (.bool false) (fun _ => rfl) rfl rfl rfl ?_
  refine w_nil ?_
  refine xn_then ?_
  refine w_condF rfl ?_
  refine w_skip ?_
  refine xn_then ?_
  refine w_seq ?_
  refine w_seq ?_
  refine w_reg ?_
  refine wl_mv (.tmp 5) (pp none) (fun _ => rfl) rfl rfl ?_
  refine wl_bin (fun x y => do eqGuard .eql 24 (.tmp 28) (.const (.pointer none)) x y; binOp .eql 24 x y) (.tmp 28) (.const (.pointer none)) (pp none) (pp none) (.bool true) (fun _ => rfl) rfl rfl (eqT0 _ _ _) rfl ?_
  refine w_nil ?_
  refine xn_then ?_
  refine w_condT rfl ?_
  refine w_seq ?_
  refine w_reg ?_
  refine wl_mv (.const (.bool true)) (.bool true) (fun _ => rfl) rfl rfl ?_
  refine w_nil ?_
  refine xn_then ?_
  refine w_ret ?_
  refine xr_then ?_
  exact w_ret1 _ (.bool true) rfl rfl ⟨rfl, M⟩
set_option maxHeartbeats 4000000 in
theorem balanced_k (scs : List Int) (ps : Option Addr) (caps : Nat) (sc : List Op6) (p : Option Addr) (cap : Nat) (hsc : ∀ o ∈ sc, o.ok) (hSN : SN w ps scs) (hSA : SA w p sc) (hn : sc.length ≤ 2000000000000) (hle64 : scs.length ≤ 64) : Calls Try.prog 4 #[.slice ps scs.length caps, .slice p sc.length cap] w fun e w' => e = .returned (.bool true) ∧ Mo w w' := by
  refine w_enter 138 Try.func4 Try.ntmps4 rfl rfl ?_
  have M : Mo w w := Mo.refl _
  refine w_seq ?_
  refine w_reg ?_
  refine wl_mv (.const (.bool false)) (.bool false) (fun _ => rfl) rfl rfl ?_
  refine w_nil ?_
  refine xn_then ?_
  refine w_seq ?_
  refine w_reg ?_
  refine wl_mv (.tmp 0) (.slice ps scs.length caps) (fun _ => rfl) rfl rfl ?_
  refine wl_callx 7 [(.tmp 15)] _ [.slice ps scs.length caps] rfl rfl (fun _ _ => by kernel_rfl) (new_g (n0 := w.heap.size) (ks := []) (sc := scs) (hSN.mo M) hle64 M.size (fun _ e => by cases e)) rfl ?_
  rintro _ w1 ⟨t, mb, rfl, hG, hscs, ht9, hq⟩
  refine ⟨_, rfl, ?_⟩
  replace M := M.trans hq
  clear hq
  refine wl_mv (.tmp 16) (.tuple #[pt t 0, .int .i64 (0)]) (fun _ => rfl) rfl rfl ?_
  refine wl_un (fun v => Instr.extract v 0) (.tmp 14) (.tuple #[pt t 0, .int .i64 (0)]) (pt t 0) (fun _ => rfl) rfl (by kernel_rfl) rfl ?_
  refine wl_un (fun v => Instr.extract v 1) (.tmp 14) (.tuple #[pt t 0, .int .i64 (0)]) (.int .i64 (0)) (fun _ => rfl) rfl (by kernel_rfl) rfl ?_
  refine wl_mv (.tmp 17) (pt t 0) (fun _ => rfl) rfl rfl ?_
  refine wl_mv (.tmp 18) (.int .i64 (0)) (fun _ => rfl) rfl rfl ?_
  refine w_nil ?_
  refine xn_then ?_
  refine w_seq ?_
  refine w_seq ?_
  refine w_reg ?_
  refine wl_call 8 [] _ [] (.bool true) rfl rfl (fun _ _ => by kernel_rfl) (begun_n _) rfl ?_
  intro w2 hq
  replace hG := hG.mo hq
  replace M := M.trans hq
  clear hq
  refine wl_un (fun v => Op.unary .not v) (.tmp 19) (.bool true) (.bool false) (fun _ => rfl) rfl (by kernel_rfl) rfl ?_
  refine wl_mv (.tmp 20) (.bool false) (fun _ => rfl) rfl rfl ?_
  refine wl_mv (.tmp 5) (pt t 0) (fun _ => rfl) rfl rfl ?_
  refine wl_bin (fun x y => do eqGuard .eql 24 (.tmp 22) (.const (.pointer none)) x y; binOp .eql 24 x y) (.tmp 22) (.const (.pointer none)) (pt t 0) (pp none) (.bool false) (fun _ => rfl) rfl rfl (eqT _ _ _ _) rfl ?_
  refine wl_mv (.tmp 6) (.int .i64 (0)) (fun _ => rfl) rfl rfl ?_
  refine wl_bin (fun x y => do eqGuard .neq 25 (.tmp 24) (.const (.int .i64 (0))) x y; binOp .neq 25 x y) (.tmp 24) (.const (.int .i64 (0))) (.int .i64 (0)) (.int .i64 (0)) (.bool false) (fun _ => rfl) rfl rfl (by kernel_rfl) rfl ?_
  refine wl_bin (fun x y => do eqGuard .neq 4 (.tmp 23) (.tmp 25) x y; binOp .neq 4 x y) (.tmp 23) (.tmp 25) (.bool false) (.bool false) (.bool false) (fun _ => rfl) rfl rfl (by kernel_rfl) rfl ?_
  refine wl_pick (.tmp 21) (.const (.bool true)) (.tmp 26) false (.bool false) (fun _ => rfl) rfl rfl rfl ?_
  refine w_nil ?_
  refine xn_then ?_
  refine w_condF rfl ?_
  refine w_skip ?_
  refine xn_then ?_
  refine w_seq ?_
  refine w_seq ?_
  refine w_reg ?_
  refine wl_mv (.tmp 5) (pt t 0) (fun _ => rfl) rfl rfl ?_
  refine wl_bin (fun x y => do eqGuard .eql 24 (.tmp 28) (.const (.pointer none)) x y; binOp .eql 24 x y) (.tmp 28) (.const (.pointer none)) (pt t 0) (pp none) (.bool false) (fun _ => rfl) rfl rfl (eqT _ _ _ _) rfl ?_
  refine w_nil ?_
  refine xn_then ?_
  refine w_condF rfl ?_
  refine w_skip ?_
  refine xn_then ?_
  refine w_seq ?_
  refine w_seq ?_
  refine w_reg ?_
  refine wl_mv (.tmp 1) (.slice p sc.length cap) (fun _ => rfl) rfl rfl ?_
  refine wl_val (.int .i64 ((sc.length : Int))) (len23 _ _ _ _ _ (by exact rfl) _ _ _ _ _ _) rfl ?_
  refine wl_mv (.const (.int .i64 (0))) (.int .i64 (0)) (fun _ => rfl) rfl rfl ?_
  refine w_nil ?_
  refine xn_then ?_
  refine w_block ?_
  refine w_loop (fun r l w1 => ∃ (i : Nat) (tr : T) (lk : Int), r + i = sc.length ∧ look l 30 = .slice p sc.length cap ∧ look l 31 = .int .i64 (sc.length : Int) ∧ look l 32 = .int .i64 (i : Int) ∧ look l 5 = pt t 0 ∧ GT w.heap.size [] w1 t mb tr lk ∧ tr.bw ∧ lk ≤ 200000 * i ∧ Mo w w1) sc.length ⟨0, .e, 0, by omega, rfl, rfl, rfl, rfl, hG, trivial, by decide, M⟩ ?_
  clear M hG
  rintro r l wl ⟨i, tr, lk, hr, e30, e31, e32, e5, hG, hb, hlk, M⟩
  have hle := hG.le
  have hkl := tr.kv_len
  have hl0 := hG.l0
  refine w_seq ?_
  cases hf0 : decide ((i : Int) < (sc.length : Int)) with
  | true =>
    have hf0p := of_decide_eq_true hf0
    refine w_reg ?_
    refine wl_bin (fun x y => do eqGuard .lss 3 (.tmp 32) (.tmp 31) x y; binOp .lss 3 x y) (.tmp 32) (.tmp 31) (.int .i64 (i : Int)) (.int .i64 (sc.length : Int)) (.bool true) (fun _ => rfl) e32 e31 (ltI hf0 _ _ _) rfl ?_
    refine w_nil ?_
    refine xn_then ?_
    refine w_seq ?_
    refine w_condT rfl ?_
    refine w_skip ?_
    refine xn_then ?_
    refine w_seq ?_
    refine w_block ?_
    refine w_seq ?_
    refine w_reg ?_
    obtain ⟨o, ho⟩ : ∃ o, sc[i]? = some o := ⟨sc[i]'(by omega), List.getElem?_eq_getElem _⟩
    have hok := hsc o (List.mem_of_getElem? ho)
    have hSVo := (hSA _ o ho).2
    obtain ⟨b, off, hpb, hbl, hrg⟩ := ((hSA.mo M) _ o ho).1
    refine wl_bin (fun x y => Instr.indexAt 23 x y) (.tmp 30) (.tmp 32) (.slice p sc.length cap) (.int .i64 (i : Int)) (pt b (off + i * 7)) (fun _ => rfl) e30 e32 (by rw [hpb]; exact ix23 b off i _ _ (by omega) _) rfl ?_
    refine wl_load 31 (.tmp 34) (pt b (off + i * 7)) (.agg #[.int .i64 (o.d), .int .i64 (o.a), .int .i64 (o.i), .slice o.p o.vs.length o.cap, .int .i64 (o.c), .int .i64 (o.f), .int .i64 (o.e)]) rfl rfl (SA.load hrg) rfl ?_
    refine wl_alloc 31 #[.int .i64 0, .int .i64 0, .int .i64 0, .slice none 0 0, .int .i64 0, .int .i64 0, .int .i64 0] rfl (fun _ => by kernel_rfl) rfl ?_
    intro k1 w11 hk hz hq Q1
    have N_k1 : w.heap.size ≤ k1 := by have := M.size; omega
    replace hG := hG.push (Nat.le_of_eq hk) (by omega) hq
    replace M := M.trans hq
    clear hk hz hq
    refine wl_stx2 31 (.tmp 8) (.tmp 35) k1 0 #[.int .i64 (o.d), .int .i64 (o.a), .int .i64 (o.i), .slice o.p o.vs.length o.cap, .int .i64 (o.c), .int .i64 (o.f), .int .i64 (o.e)] [.int .i64 0, .int .i64 0, .int .i64 0, .slice none 0 0, .int .i64 0, .int .i64 0, .int .i64 0] [.int .i64 (o.d), .int .i64 (o.a), .int .i64 (o.i), .slice o.p o.vs.length o.cap, .int .i64 (o.c), .int .i64 (o.f), .int .i64 (o.e)] Q1 rfl rfl rfl rfl rfl zs31 rfl rfl rfl ?_
    intro w12 hT Qn
    replace Q1 := Qn
    clear Qn
    replace hG := hG.st hT (by simp)
    replace M := (Mk.refl (fun j => j = k1) _ |>.st hT rfl).mo M (fun _ e => e ▸ N_k1)
    clear hT
    refine w_nil ?_
    refine xn_then ?_
    refine w_seq ?_
    refine w_reg ?_
    refine wl_mv (.tmp 5) (pt t 0) (fun _ => rfl) e5 rfl ?_
    refine wl_call 10 [(.tmp 36)] _ [pt t 0] (.int .i64 ((tr.kv.length : Int))) rfl rfl (fun _ _ => by kernel_rfl) (len_g hG) rfl ?_
    intro w13 hq
    replace Q1 := Q1.mo hq
    replace hG := hG.mo hq
    replace M := M.trans hq
    clear hq
    refine wl_mv (.tmp 5) (pt t 0) (fun _ => rfl) e5 rfl ?_
    refine wl_call 14 [(.tmp 38)] _ [pt t 0] (.int .i64 (lk)) rfl rfl (fun _ _ => by kernel_rfl) (looked_g hG) rfl ?_
    intro w14 hq
    replace Q1 := Q1.mo hq
    replace hG := hG.mo hq
    replace M := M.trans hq
    clear hq
    refine wl_mv (.tmp 37) (.int .i64 ((tr.kv.length : Int))) (fun _ => rfl) rfl rfl ?_
    refine wl_mv (.tmp 39) (.int .i64 (lk)) (fun _ => rfl) rfl rfl ?_
    refine w_nil ?_
    refine xn_then ?_
    refine w_seq ?_
    refine w_reg ?_
    refine wl_mv (.const (.int .i64 (24))) (.int .i64 (24)) (fun _ => rfl) rfl rfl ?_
    refine wl_mv (.const (.int .i64 (0))) (.int .i64 (0)) (fun _ => rfl) rfl rfl ?_
    refine w_nil ?_
    refine xn_then ?_
    refine w_cut (fun l w1 => ∃ (tr2 : T) (lk2 mn ls : Int), look l 30 = .slice p sc.length cap ∧ look l 31 = .int .i64 (sc.length : Int) ∧ look l 32 = .int .i64 (i : Int) ∧ look l 5 = pt t 0 ∧ look l 8 = pt k1 0 ∧ look l 9 = .int .i64 (tr.kv.length : Int) ∧ look l 10 = .int .i64 (lk) ∧ look l 11 = .int .i64 (mn) ∧ look l 12 = .int .i64 (ls) ∧ GT w.heap.size [k1] w1 t mb tr2 lk2 ∧ tr2.bw ∧ ls ≤ lk2 - lk ∧ 0 ≤ lk2 - lk ∧ lk2 - lk ≤ mn * (1 + (bitc (max tr.kv.length tr2.kv.length) : Int)) ∧ 0 ≤ mn * (1 + (bitc (max tr.kv.length tr2.kv.length) : Int)) ∧ mn * (1 + (bitc (max tr.kv.length tr2.kv.length) : Int)) ≤ 60000 ∧ At w1 k1 [.int .i64 (o.d), .int .i64 (o.a), .int .i64 (o.i), .slice o.p o.vs.length o.cap, .int .i64 (o.c), .int .i64 (o.f), .int .i64 (o.e)] ∧ Mo w w1) ?_ ?_
    · skip
      clear hG M Q1
      rintro l9 w9 ⟨tr2, lk2, mn, ls, f30, f31, f32, f5, f8, f9, f10, f11, f12, hG, hb2, hks, hk1, hk2, hk8, hk9, Q1, M⟩
      have hle2 := hG.le
      have hkl2 := tr2.kv_len
      have hz2 := bm_hi hle2 hle2
      refine w_seq ?_
      refine w_reg ?_
      refine wl_mv (.tmp 5) (pt t 0) (fun _ => rfl) f5 rfl ?_
      refine wl_call 14 [(.tmp 78)] _ [pt t 0] (.int .i64 (lk2)) rfl rfl (fun _ _ => by kernel_rfl) (looked_g hG) rfl ?_
      intro w41 hq
      replace Q1 := Q1.mo hq
      replace hG := hG.mo hq
      replace M := M.trans hq
      clear hq
      refine wl_mv (.tmp 10) (.int .i64 (lk)) (fun _ => rfl) f10 rfl ?_
      refine wl_bin (fun x y => do eqGuard .sub 2 (.tmp 79) (.tmp 80) x y; binOp .sub 2 x y) (.tmp 79) (.tmp 80) (.int .i64 (lk2)) (.int .i64 (lk)) (.int .i64 (lk2 - lk)) (fun _ => rfl) rfl rfl (subL (by omega) (by omega) _ _ _) rfl ?_
      refine wl_mv (.tmp 81) (.int .i64 (lk2 - lk)) (fun _ => rfl) rfl rfl ?_
      refine w_nil ?_
      refine xn_then ?_
      refine w_seq ?_
      refine w_seq ?_
      refine w_reg ?_
      refine wl_mv (.tmp 5) (pt t 0) (fun _ => rfl) f5 rfl ?_
      refine wl_call 19 [(.tmp 82)] _ [pt t 0] (.int .i64 ((tr2.ht : Int))) rfl rfl (fun _ _ => by kernel_rfl) (depth_g hG) rfl ?_
      intro w42 hq
      replace Q1 := Q1.mo hq
      replace hG := hG.mo hq
      replace M := M.trans hq
      clear hq
      refine wl_mv (.tmp 5) (pt t 0) (fun _ => rfl) f5 rfl ?_
      refine wl_call 10 [(.tmp 84)] _ [pt t 0] (.int .i64 ((tr2.kv.length : Int))) rfl rfl (fun _ _ => by kernel_rfl) (len_g hG) rfl ?_
      intro w43 hq
      replace Q1 := Q1.mo hq
      replace hG := hG.mo hq
      replace M := M.trans hq
      clear hq
      have hbl1 := bitc_le (tr2.kv.length)
      refine wl_call 20 [(.tmp 85)] _ [.int .i64 ((tr2.kv.length : Int))] (.int .i64 ((bitc (tr2.kv.length) : Int))) rfl rfl (fun _ _ => by kernel_rfl) (bits_n (tr2.kv.length) _ (by omega) (by omega)) rfl ?_
      intro w44 hq
      replace Q1 := Q1.mo hq
      replace hG := hG.mo hq
      replace M := M.trans hq
      clear hq
      refine wl_bin (fun x y => do eqGuard .mul 3 (.const (.int .i64 (3))) (.tmp 86) x y; binOp .mul 3 x y) (.const (.int .i64 (3))) (.tmp 86) (.int .i64 (3)) (.int .i64 ((bitc (tr2.kv.length) : Int))) (.int .i64 (3 * ((bitc (tr2.kv.length) : Int)))) (fun _ => rfl) rfl rfl (mulI (by omega) (by omega) _ _ _) rfl ?_
      have hbt := (ht_bits hb2 hle2).1
      rw [show tr2.sz.toNat = tr2.kv.length by omega] at hbt
      refine wl_bin (fun x y => do eqGuard .gtr 3 (.tmp 83) (.tmp 87) x y; binOp .gtr 3 x y) (.tmp 83) (.tmp 87) (.int .i64 ((tr2.ht : Int))) (.int .i64 (3 * ((bitc (tr2.kv.length) : Int)))) (.bool false) (fun _ => rfl) rfl rfl (gtI (decide_eq_false (by omega)) _ _ _) rfl ?_
      refine wl_mv (.tmp 88) (.bool false) (fun _ => rfl) rfl rfl ?_
      refine wl_mv (.tmp 13) (.int .i64 (lk2 - lk)) (fun _ => rfl) rfl rfl ?_
      refine wl_mv (.tmp 12) (.int .i64 (ls)) (fun _ => rfl) f12 rfl ?_
      refine wl_bin (fun x y => do eqGuard .lss 2 (.tmp 90) (.tmp 91) x y; binOp .lss 2 x y) (.tmp 90) (.tmp 91) (.int .i64 (lk2 - lk)) (.int .i64 (ls)) (.bool false) (fun _ => rfl) rfl rfl (ltL (decide_eq_false (by omega)) _ _ _) rfl ?_
      refine wl_pick (.tmp 89) (.const (.bool true)) (.tmp 92) false (.bool false) (fun _ => rfl) rfl rfl rfl ?_
      refine wl_mv (.tmp 93) (.bool false) (fun _ => rfl) rfl rfl ?_
      refine wl_mv (.tmp 13) (.int .i64 (lk2 - lk)) (fun _ => rfl) rfl rfl ?_
      refine wl_mv (.tmp 11) (.int .i64 (mn)) (fun _ => rfl) f11 rfl ?_
      refine wl_mv (.tmp 9) (.int .i64 (tr.kv.length : Int)) (fun _ => rfl) f9 rfl ?_
      refine wl_mv (.tmp 5) (pt t 0) (fun _ => rfl) f5 rfl ?_
      refine wl_call 10 [(.tmp 98)] _ [pt t 0] (.int .i64 ((tr2.kv.length : Int))) rfl rfl (fun _ _ => by kernel_rfl) (len_g hG) rfl ?_
      intro w45 hq
      replace Q1 := Q1.mo hq
      replace hG := hG.mo hq
      replace M := M.trans hq
      clear hq
      refine wl_val (.int .i64 (((max tr.kv.length tr2.kv.length : Nat) : Int))) (maxN tr.kv.length tr2.kv.length _ _ _ (by exact rfl) (by exact rfl) _ _ _ _ _ _) rfl ?_
      have hbl2 := bitc_le (max tr.kv.length tr2.kv.length)
      refine wl_call 20 [(.tmp 100)] _ [.int .i64 (((max tr.kv.length tr2.kv.length : Nat) : Int))] (.int .i64 ((bitc (max tr.kv.length tr2.kv.length) : Int))) rfl rfl (fun _ _ => by kernel_rfl) (bits_n (max tr.kv.length tr2.kv.length) _ (by omega) (by omega)) rfl ?_
      intro w46 hq
      replace Q1 := Q1.mo hq
      replace hG := hG.mo hq
      replace M := M.trans hq
      clear hq
      refine wl_bin (fun x y => do eqGuard .add 3 (.const (.int .i64 (1))) (.tmp 101) x y; binOp .add 3 x y) (.const (.int .i64 (1))) (.tmp 101) (.int .i64 (1)) (.int .i64 ((bitc (max tr.kv.length tr2.kv.length) : Int))) (.int .i64 (1 + ((bitc (max tr.kv.length tr2.kv.length) : Int)))) (fun _ => rfl) rfl rfl (addI (by omega) (by omega) _ _ _) rfl ?_
      refine wl_bin (fun x y => do eqGuard .mul 2 (.tmp 96) (.tmp 102) x y; binOp .mul 2 x y) (.tmp 96) (.tmp 102) (.int .i64 (mn)) (.int .i64 (1 + ((bitc (max tr.kv.length tr2.kv.length) : Int)))) (.int .i64 (mn * (1 + ((bitc (max tr.kv.length tr2.kv.length) : Int))))) (fun _ => rfl) rfl rfl (mulL (by omega) (by omega) _ _ _) rfl ?_
      refine wl_bin (fun x y => do eqGuard .gtr 2 (.tmp 95) (.tmp 103) x y; binOp .gtr 2 x y) (.tmp 95) (.tmp 103) (.int .i64 (lk2 - lk)) (.int .i64 (mn * (1 + ((bitc (max tr.kv.length tr2.kv.length) : Int))))) (.bool false) (fun _ => rfl) rfl rfl (gtL (decide_eq_false (by omega)) _ _ _) rfl ?_
      refine wl_pick (.tmp 94) (.const (.bool true)) (.tmp 104) false (.bool false) (fun _ => rfl) rfl rfl rfl ?_
      refine w_nil ?_
      refine xn_then ?_
      refine w_condF rfl ?_
      refine w_skip ?_
      refine xn_then ?_
      refine w_seq ?_
      refine w_reg ?_
      refine wl_mv (.tmp 5) (pt t 0) (fun _ => rfl) f5 rfl ?_
      refine wl_call 14 [(.tmp 106)] _ [pt t 0] (.int .i64 (lk2)) rfl rfl (fun _ _ => by kernel_rfl) (looked_g hG) rfl ?_
      intro w47 hq
      replace Q1 := Q1.mo hq
      replace hG := hG.mo hq
      replace M := M.trans hq
      clear hq
      refine wl_mv (.tmp 107) (.int .i64 (lk2)) (fun _ => rfl) rfl rfl ?_
      refine w_nil ?_
      refine xn_then ?_
      refine w_seq ?_
      refine w_reg ?_
      refine wl_mv (.tmp 5) (pt t 0) (fun _ => rfl) f5 rfl ?_
      refine wl_un (fun v => Instr.fieldAt 31 v 4) (.tmp 8) (pt k1 0) (pt k1 4) (fun _ => rfl) f8 (by kernel_rfl) rfl ?_
      refine wl_load 3 (.tmp 109) (pt k1 4) (.int .i64 (o.c)) rfl rfl (run_one Q1 3 4 rfl Try.underlying3 rfl) rfl ?_
      refine wl_un (fun v => Instr.fieldAt 31 v 5) (.tmp 8) (pt k1 0) (pt k1 5) (fun _ => rfl) f8 (by kernel_rfl) rfl ?_
      refine wl_load 3 (.tmp 111) (pt k1 5) (.int .i64 (o.f)) rfl rfl (run_one Q1 3 5 rfl Try.underlying3 rfl) rfl ?_
      refine wl_un (fun v => Instr.fieldAt 31 v 6) (.tmp 8) (pt k1 0) (pt k1 6) (fun _ => rfl) f8 (by kernel_rfl) rfl ?_
      refine wl_load 3 (.tmp 113) (pt k1 6) (.int .i64 (o.e)) rfl rfl (run_one Q1 3 6 rfl Try.underlying3 rfl) rfl ?_
      refine wl_callx 11 [(.tmp 108), (.tmp 110), (.tmp 112), (.tmp 114)] _ [pt t 0, .int .i64 (o.c), .int .i64 (o.f), .int .i64 (o.e)] rfl rfl (fun _ _ => by kernel_rfl) (qry_b hG hb2 (by omega)) rfl ?_
      rintro _ w48 ⟨S9, cd9, lk3, rfl, hG, hk4, hk5, hM2⟩
      refine ⟨_, rfl, ?_⟩
      replace M := Wr.mo hM2 M (Nat.le_refl _)
      replace Q1 := Wr.at hM2 Q1 (by simp)
      clear hM2
      refine w_nil ?_
      refine xn_then ?_
      refine w_seq ?_
      refine w_seq ?_
      refine w_reg ?_
      refine wl_mv (.tmp 5) (pt t 0) (fun _ => rfl) f5 rfl ?_
      refine wl_call 14 [(.tmp 116)] _ [pt t 0] (.int .i64 (lk3)) rfl rfl (fun _ _ => by kernel_rfl) (looked_g hG) rfl ?_
      intro w49 hq
      replace Q1 := Q1.mo hq
      replace hG := hG.mo hq
      replace M := M.trans hq
      clear hq
      refine wl_mv (.tmp 10) (.int .i64 (lk2)) (fun _ => rfl) rfl rfl ?_
      refine wl_bin (fun x y => do eqGuard .sub 2 (.tmp 117) (.tmp 118) x y; binOp .sub 2 x y) (.tmp 117) (.tmp 118) (.int .i64 (lk3)) (.int .i64 (lk2)) (.int .i64 (lk3 - lk2)) (fun _ => rfl) rfl rfl (subL (by omega) (by omega) _ _ _) rfl ?_
      refine wl_mv (.tmp 5) (pt t 0) (fun _ => rfl) f5 rfl ?_
      refine wl_call 10 [(.tmp 120)] _ [pt t 0] (.int .i64 ((tr2.kv.length : Int))) rfl rfl (fun _ _ => by kernel_rfl) (len_g hG) rfl ?_
      intro w50 hq
      replace Q1 := Q1.mo hq
      replace hG := hG.mo hq
      replace M := M.trans hq
      clear hq
      have hbl3 := bitc_le (tr2.kv.length)
      refine wl_call 20 [(.tmp 121)] _ [.int .i64 ((tr2.kv.length : Int))] (.int .i64 ((bitc (tr2.kv.length) : Int))) rfl rfl (fun _ _ => by kernel_rfl) (bits_n (tr2.kv.length) _ (by omega) (by omega)) rfl ?_
      intro w51 hq
      replace Q1 := Q1.mo hq
      replace hG := hG.mo hq
      replace M := M.trans hq
      clear hq
      refine wl_bin (fun x y => do eqGuard .add 3 (.const (.int .i64 (1))) (.tmp 122) x y; binOp .add 3 x y) (.const (.int .i64 (1))) (.tmp 122) (.int .i64 (1)) (.int .i64 ((bitc (tr2.kv.length) : Int))) (.int .i64 (1 + ((bitc (tr2.kv.length) : Int)))) (fun _ => rfl) rfl rfl (addI (by omega) (by omega) _ _ _) rfl ?_
      refine wl_bin (fun x y => do eqGuard .mul 2 (.const (.int .i64 (24))) (.tmp 123) x y; binOp .mul 2 x y) (.const (.int .i64 (24))) (.tmp 123) (.int .i64 (24)) (.int .i64 (1 + ((bitc (tr2.kv.length) : Int)))) (.int .i64 (24 * (1 + ((bitc (tr2.kv.length) : Int))))) (fun _ => rfl) rfl rfl (mulL (by omega) (by omega) _ _ _) rfl ?_
      have hk5b := hk5
      unfold Bm at hk5b
      rw [Nat.max_self] at hk5b
      refine wl_bin (fun x y => do eqGuard .gtr 2 (.tmp 119) (.tmp 124) x y; binOp .gtr 2 x y) (.tmp 119) (.tmp 124) (.int .i64 (lk3 - lk2)) (.int .i64 (24 * (1 + ((bitc (tr2.kv.length) : Int))))) (.bool false) (fun _ => rfl) rfl rfl (gtL (decide_eq_false (by omega)) _ _ _) rfl ?_
      refine w_nil ?_
      refine xn_then ?_
      refine w_condF rfl ?_
      refine w_skip ?_
      refine xn_then ?_
      refine w_seq ?_
      refine w_reg ?_
      refine wl_mv (.tmp 5) (pt t 0) (fun _ => rfl) f5 rfl ?_
      refine wl_call 14 [(.tmp 126)] _ [pt t 0] (.int .i64 (lk3)) rfl rfl (fun _ _ => by kernel_rfl) (looked_g hG) rfl ?_
      intro w52 hq
      replace Q1 := Q1.mo hq
      replace hG := hG.mo hq
      replace M := M.trans hq
      clear hq
      refine wl_mv (.tmp 127) (.int .i64 (lk3)) (fun _ => rfl) rfl rfl ?_
      refine w_nil ?_
      refine xn_then ?_
      refine w_seq ?_
      refine w_reg ?_
      refine wl_mv (.tmp 5) (pt t 0) (fun _ => rfl) f5 rfl ?_
      refine wl_un (fun v => Instr.fieldAt 31 v 4) (.tmp 8) (pt k1 0) (pt k1 4) (fun _ => rfl) f8 (by kernel_rfl) rfl ?_
      refine wl_load 3 (.tmp 129) (pt k1 4) (.int .i64 (o.c)) rfl rfl (run_one Q1 3 4 rfl Try.underlying3 rfl) rfl ?_
      refine wl_callx 12 [(.tmp 128), (.tmp 130)] _ [pt t 0, .int .i64 (o.c)] rfl rfl (fun _ _ => by kernel_rfl) (sum_any hG (by omega)) rfl ?_
      rintro _ w53 ⟨S8, cd8, lk4, rfl, hG, _, hk6, hk7, hM2⟩
      refine ⟨_, rfl, ?_⟩
      replace M := Wr.mo hM2 M (Nat.le_refl _)
      replace Q1 := Wr.at hM2 Q1 (by simp)
      clear hM2
      refine w_nil ?_
      refine xn_then ?_
      refine w_seq ?_
      refine w_reg ?_
      refine wl_mv (.tmp 5) (pt t 0) (fun _ => rfl) f5 rfl ?_
      refine wl_call 14 [(.tmp 132)] _ [pt t 0] (.int .i64 (lk4)) rfl rfl (fun _ _ => by kernel_rfl) (looked_g hG) rfl ?_
      intro w54 hq
      replace Q1 := Q1.mo hq
      replace hG := hG.mo hq
      replace M := M.trans hq
      clear hq
      refine wl_mv (.tmp 10) (.int .i64 (lk3)) (fun _ => rfl) rfl rfl ?_
      refine wl_bin (fun x y => do eqGuard .sub 2 (.tmp 133) (.tmp 134) x y; binOp .sub 2 x y) (.tmp 133) (.tmp 134) (.int .i64 (lk4)) (.int .i64 (lk3)) (.int .i64 (lk4 - lk3)) (fun _ => rfl) rfl rfl (subL (by omega) (by omega) _ _ _) rfl ?_
      refine wl_bin (fun x y => do eqGuard .gtr 2 (.tmp 135) (.const (.int .i64 (1))) x y; binOp .gtr 2 x y) (.tmp 135) (.const (.int .i64 (1))) (.int .i64 (lk4 - lk3)) (.int .i64 (1)) (.bool false) (fun _ => rfl) rfl rfl (gtL (decide_eq_false (by omega)) _ _ _) rfl ?_
      refine w_nil ?_
      refine xn_then ?_
      refine w_condF rfl ?_
      refine w_skip ?_
      refine xn_blk ?_
      refine xn_then ?_
      refine w_reg ?_
      refine wl_bin (fun x y => do eqGuard .add 3 (.tmp 32) (.const (.int .i64 (1))) x y; binOp .add 3 x y) (.tmp 32) (.const (.int .i64 (1))) (.int .i64 (i : Int)) (.int .i64 (1)) (.int .i64 ((i : Int) + 1)) (fun _ => rfl) f32 rfl (addI (by omega) (by omega) _ _ _) rfl ?_
      refine wl_mv (.tmp 137) (.int .i64 ((i : Int) + 1)) (fun _ => rfl) rfl rfl ?_
      refine w_nil ?_
      exact xn_loop (r - 1) (by omega) ⟨i + 1, tr2, lk4, by omega, f30, f31, rfl, f5, hG.pop (fun _ e => by cases e), hb2, by omega, M⟩
    · skip
      refine w_seq ?_
      refine w_reg ?_
      refine wl_un (fun v => Instr.fieldAt 31 v 0) (.tmp 8) (pt k1 0) (pt k1 0) (fun _ => rfl) rfl (by kernel_rfl) rfl ?_
      refine wl_load 3 (.tmp 40) (pt k1 0) (.int .i64 (o.d)) rfl rfl (run_one Q1 3 0 rfl Try.underlying3 rfl) rfl ?_
      refine w_nil ?_
      refine xn_then ?_
      refine w_block ?_
      refine w_seq ?_
      cases hf1 : decide (o.d = 0) with
      | true =>
        have hf1p := of_decide_eq_true hf1
        refine w_reg ?_
        refine wl_bin (fun x y => do eqGuard .eql 3 (.tmp 41) (.const (.int .i64 (0))) x y; binOp .eql 3 x y) (.tmp 41) (.const (.int .i64 (0))) (.int .i64 (o.d)) (.int .i64 (0)) (.bool true) (fun _ => rfl) rfl rfl (eqI hf1 _ _ _) rfl ?_
        refine wl_mv (.tmp 52) (.bool true) (fun _ => rfl) rfl rfl ?_
        refine w_nil ?_
        refine xn_then ?_
        refine w_condT rfl ?_
        refine w_seq ?_
        cases hf2 : decide (insE mb.sc.length tr (o.a) (o.i) o.vs.length = 0) with
        | true =>
          have hf2p := of_decide_eq_true hf2
          refine w_reg ?_
          refine wl_mv (.tmp 5) (pt t 0) (fun _ => rfl) e5 rfl ?_
          refine wl_un (fun v => Instr.fieldAt 31 v 1) (.tmp 8) (pt k1 0) (pt k1 1) (fun _ => rfl) rfl (by kernel_rfl) rfl ?_
          refine wl_load 3 (.tmp 54) (pt k1 1) (.int .i64 (o.a)) rfl rfl (run_one Q1 3 1 rfl Try.underlying3 rfl) rfl ?_
          refine wl_un (fun v => Instr.fieldAt 31 v 2) (.tmp 8) (pt k1 0) (pt k1 2) (fun _ => rfl) rfl (by kernel_rfl) rfl ?_
          refine wl_load 2 (.tmp 56) (pt k1 2) (.int .i64 (o.i)) rfl rfl (run_one Q1 2 2 rfl Try.underlying2 rfl) rfl ?_
          refine wl_un (fun v => Instr.fieldAt 31 v 3) (.tmp 8) (pt k1 0) (pt k1 3) (fun _ => rfl) rfl (by kernel_rfl) rfl ?_
          refine wl_load 29 (.tmp 58) (pt k1 3) (.slice o.p o.vs.length o.cap) rfl rfl (run_one Q1 29 3 rfl Try.underlying29 rfl) rfl ?_
          refine wl_callx 9 [(.tmp 53), (.tmp 55), (.tmp 57), (.tmp 59)] _ [pt t 0, .int .i64 (o.a), .int .i64 (o.i), .slice o.p o.vs.length o.cap] rfl rfl (fun _ _ => by kernel_rfl) (ins_b hG hb hok.i (by omega) (fun w9 m9 => hSVo.mo (Wr.mo m9 M (Nat.le_refl _))) hok.v) rfl ?_
          rintro _ w15 ⟨tr2, lk2, rfl, hG, hb2, hk1, hk2, hk3, hM2⟩
          refine ⟨_, rfl, ?_⟩
          have hle2 := hG.le
          have hkl2 := tr2.kv_len
          have hz1 := bm_hi hle hle2
          have hz2 := bm_hi hle2 hle2
          replace M := Wr.mo hM2 M (Nat.le_refl _)
          replace Q1 := Wr.at hM2 Q1 (by simp)
          clear hM2
          refine wl_bin (fun x y => do eqGuard .eql 25 (.tmp 60) (.const (.int .i64 (0))) x y; binOp .eql 25 x y) (.tmp 60) (.const (.int .i64 (0))) (.int .i64 (insE mb.sc.length tr (o.a) (o.i) o.vs.length)) (.int .i64 (0)) (.bool true) (fun _ => rfl) rfl rfl (eqE hf2 _ _ _) rfl ?_
          refine w_nil ?_
          refine xn_then ?_
          refine w_condT rfl ?_
          refine w_reg ?_
          refine wl_mv (.const (.int .i64 (1))) (.int .i64 (1)) (fun _ => rfl) rfl rfl ?_
          refine w_nil ?_
          refine xn_blk ?_
          have hk2b := hk2
          unfold Bm at hk2b hz1
          exact xn_cut ⟨tr2, lk2, 24, 1, e30, e31, e32, e5, rfl, rfl, rfl, rfl, rfl, hG, hb2, by have := hk3 (of_decide_eq_true hf2); omega, by omega, by omega, by omega, by omega, Q1, M⟩
        | false =>
          have hf2p := of_decide_eq_false hf2
          refine w_reg ?_
          refine wl_mv (.tmp 5) (pt t 0) (fun _ => rfl) e5 rfl ?_
          refine wl_un (fun v => Instr.fieldAt 31 v 1) (.tmp 8) (pt k1 0) (pt k1 1) (fun _ => rfl) rfl (by kernel_rfl) rfl ?_
          refine wl_load 3 (.tmp 54) (pt k1 1) (.int .i64 (o.a)) rfl rfl (run_one Q1 3 1 rfl Try.underlying3 rfl) rfl ?_
          refine wl_un (fun v => Instr.fieldAt 31 v 2) (.tmp 8) (pt k1 0) (pt k1 2) (fun _ => rfl) rfl (by kernel_rfl) rfl ?_
          refine wl_load 2 (.tmp 56) (pt k1 2) (.int .i64 (o.i)) rfl rfl (run_one Q1 2 2 rfl Try.underlying2 rfl) rfl ?_
          refine wl_un (fun v => Instr.fieldAt 31 v 3) (.tmp 8) (pt k1 0) (pt k1 3) (fun _ => rfl) rfl (by kernel_rfl) rfl ?_
          refine wl_load 29 (.tmp 58) (pt k1 3) (.slice o.p o.vs.length o.cap) rfl rfl (run_one Q1 29 3 rfl Try.underlying29 rfl) rfl ?_
          refine wl_callx 9 [(.tmp 53), (.tmp 55), (.tmp 57), (.tmp 59)] _ [pt t 0, .int .i64 (o.a), .int .i64 (o.i), .slice o.p o.vs.length o.cap] rfl rfl (fun _ _ => by kernel_rfl) (ins_b hG hb hok.i (by omega) (fun w9 m9 => hSVo.mo (Wr.mo m9 M (Nat.le_refl _))) hok.v) rfl ?_
          rintro _ w15 ⟨tr2, lk2, rfl, hG, hb2, hk1, hk2, hk3, hM2⟩
          refine ⟨_, rfl, ?_⟩
          have hle2 := hG.le
          have hkl2 := tr2.kv_len
          have hz1 := bm_hi hle hle2
          have hz2 := bm_hi hle2 hle2
          replace M := Wr.mo hM2 M (Nat.le_refl _)
          replace Q1 := Wr.at hM2 Q1 (by simp)
          clear hM2
          refine wl_bin (fun x y => do eqGuard .eql 25 (.tmp 60) (.const (.int .i64 (0))) x y; binOp .eql 25 x y) (.tmp 60) (.const (.int .i64 (0))) (.int .i64 (insE mb.sc.length tr (o.a) (o.i) o.vs.length)) (.int .i64 (0)) (.bool false) (fun _ => rfl) rfl rfl (eqE hf2 _ _ _) rfl ?_
          refine w_nil ?_
          refine xn_then ?_
          refine w_condF rfl ?_
          refine w_skip ?_
          refine xn_blk ?_
          have hk2b := hk2
          unfold Bm at hk2b hz1
          exact xn_cut ⟨tr2, lk2, 24, 0, e30, e31, e32, e5, rfl, rfl, rfl, rfl, rfl, hG, hb2, by omega, by omega, by omega, by omega, by omega, Q1, M⟩
      | false =>
        have hf1p := of_decide_eq_false hf1
        refine w_reg ?_
        refine wl_bin (fun x y => do eqGuard .eql 3 (.tmp 41) (.const (.int .i64 (0))) x y; binOp .eql 3 x y) (.tmp 41) (.const (.int .i64 (0))) (.int .i64 (o.d)) (.int .i64 (0)) (.bool false) (fun _ => rfl) rfl rfl (eqI hf1 _ _ _) rfl ?_
        refine wl_mv (.tmp 52) (.bool false) (fun _ => rfl) rfl rfl ?_
        refine w_nil ?_
        refine xn_then ?_
        refine w_condF rfl ?_
        refine w_seq ?_
        cases hf2 : decide (o.d = 1) with
        | true =>
          have hf2p := of_decide_eq_true hf2
          refine w_reg ?_
          refine wl_bin (fun x y => do eqGuard .eql 3 (.tmp 41) (.const (.int .i64 (1))) x y; binOp .eql 3 x y) (.tmp 41) (.const (.int .i64 (1))) (.int .i64 (o.d)) (.int .i64 (1)) (.bool true) (fun _ => rfl) rfl rfl (eqI hf2 _ _ _) rfl ?_
          refine wl_mv (.tmp 63) (.bool true) (fun _ => rfl) rfl rfl ?_
          refine w_nil ?_
          refine xn_then ?_
          refine w_condT rfl ?_
          refine w_reg ?_
          refine wl_mv (.tmp 5) (pt t 0) (fun _ => rfl) e5 rfl ?_
          refine wl_un (fun v => Instr.fieldAt 31 v 2) (.tmp 8) (pt k1 0) (pt k1 2) (fun _ => rfl) rfl (by kernel_rfl) rfl ?_
          refine wl_load 2 (.tmp 65) (pt k1 2) (.int .i64 (o.i)) rfl rfl (run_one Q1 2 2 rfl Try.underlying2 rfl) rfl ?_
          refine wl_callx 15 [(.tmp 64), (.tmp 66)] _ [pt t 0, .int .i64 (o.i)] rfl rfl (fun _ _ => by kernel_rfl) (del_b hG hb hok.i (by omega)) rfl ?_
          rintro _ w15 ⟨p9, c9, tr2, lk2, rfl, hG, hb2, hk1, hk2, hM2⟩
          refine ⟨_, rfl, ?_⟩
          have hle2 := hG.le
          have hkl2 := tr2.kv_len
          have hz1 := bm_hi hle hle2
          have hz2 := bm_hi hle2 hle2
          replace M := Wr.mo hM2 M (Nat.le_refl _)
          replace Q1 := Wr.at hM2 Q1 (by simp)
          clear hM2
          refine w_nil ?_
          refine xn_blk ?_
          have hk2b := hk2
          unfold Bm at hk2b hz1
          exact xn_cut ⟨tr2, lk2, 24, 0, e30, e31, e32, e5, rfl, rfl, rfl, rfl, rfl, hG, hb2, by omega, by omega, by omega, by omega, by omega, Q1, M⟩
        | false =>
          have hf2p := of_decide_eq_false hf2
          refine w_reg ?_
          refine wl_bin (fun x y => do eqGuard .eql 3 (.tmp 41) (.const (.int .i64 (1))) x y; binOp .eql 3 x y) (.tmp 41) (.const (.int .i64 (1))) (.int .i64 (o.d)) (.int .i64 (1)) (.bool false) (fun _ => rfl) rfl rfl (eqI hf2 _ _ _) rfl ?_
          refine wl_mv (.tmp 63) (.bool false) (fun _ => rfl) rfl rfl ?_
          refine w_nil ?_
          refine xn_then ?_
          refine w_condF rfl ?_
          refine w_seq ?_
          cases hf3 : decide (o.d = 2) with
          | true =>
            have hf3p := of_decide_eq_true hf3
            refine w_reg ?_
            refine wl_bin (fun x y => do eqGuard .eql 3 (.tmp 41) (.const (.int .i64 (2))) x y; binOp .eql 3 x y) (.tmp 41) (.const (.int .i64 (2))) (.int .i64 (o.d)) (.int .i64 (2)) (.bool true) (fun _ => rfl) rfl rfl (eqI hf3 _ _ _) rfl ?_
            refine wl_mv (.tmp 69) (.bool true) (fun _ => rfl) rfl rfl ?_
            refine w_nil ?_
            refine xn_then ?_
            refine w_condT rfl ?_
            refine w_seq ?_
            refine w_reg ?_
            refine wl_mv (.tmp 5) (pt t 0) (fun _ => rfl) e5 rfl ?_
            refine wl_un (fun v => Instr.fieldAt 31 v 2) (.tmp 8) (pt k1 0) (pt k1 2) (fun _ => rfl) rfl (by kernel_rfl) rfl ?_
            refine wl_load 2 (.tmp 71) (pt k1 2) (.int .i64 (o.i)) rfl rfl (run_one Q1 2 2 rfl Try.underlying2 rfl) rfl ?_
            refine wl_un (fun v => Instr.fieldAt 31 v 1) (.tmp 8) (pt k1 0) (pt k1 1) (fun _ => rfl) rfl (by kernel_rfl) rfl ?_
            refine wl_load 3 (.tmp 73) (pt k1 1) (.int .i64 (o.a)) rfl rfl (run_one Q1 3 1 rfl Try.underlying3 rfl) rfl ?_
            refine wl_callx 16 [(.tmp 70), (.tmp 72), (.tmp 74)] _ [pt t 0, .int .i64 (o.i), .int .i64 (o.a)] rfl rfl (fun _ _ => by kernel_rfl) (mov_b hG hb hok.i (by omega)) rfl ?_
            rintro _ w15 ⟨p9, c9, tr2, lk2, rfl, hG, hb2, hk1, hk2, hM2⟩
            refine ⟨_, rfl, ?_⟩
            have hle2 := hG.le
            have hkl2 := tr2.kv_len
            have hz1 := bm_hi hle hle2
            have hz2 := bm_hi hle2 hle2
            replace M := Wr.mo hM2 M (Nat.le_refl _)
            replace Q1 := Wr.at hM2 Q1 (by simp)
            clear hM2
            refine w_nil ?_
            refine xn_then ?_
            refine w_reg ?_
            refine wl_mv (.tmp 11) (.int .i64 (24)) (fun _ => rfl) rfl rfl ?_
            refine wl_bin (fun x y => do eqGuard .mul 2 (.tmp 76) (.const (.int .i64 (2))) x y; binOp .mul 2 x y) (.tmp 76) (.const (.int .i64 (2))) (.int .i64 (24)) (.int .i64 (2)) (.int .i64 (48)) (fun _ => rfl) rfl rfl (by kernel_rfl) rfl ?_
            refine wl_mv (.tmp 77) (.int .i64 (48)) (fun _ => rfl) rfl rfl ?_
            refine w_nil ?_
            refine xn_blk ?_
            have hk2b := hk2
            unfold Bm at hk2b hz1
            exact xn_cut ⟨tr2, lk2, 48, 0, e30, e31, e32, e5, rfl, rfl, rfl, rfl, rfl, hG, hb2, by omega, by omega, by omega, by omega, by omega, Q1, M⟩
          | false =>
            have hf3p := of_decide_eq_false hf3
            refine w_reg ?_
            refine wl_bin (fun x y => do eqGuard .eql 3 (.tmp 41) (.const (.int .i64 (2))) x y; binOp .eql 3 x y) (.tmp 41) (.const (.int .i64 (2))) (.int .i64 (o.d)) (.int .i64 (2)) (.bool false) (fun _ => rfl) rfl rfl (eqI hf3 _ _ _) rfl ?_
            refine wl_mv (.tmp 69) (.bool false) (fun _ => rfl) rfl rfl ?_
            refine w_nil ?_
            refine xn_then ?_
            refine w_condF rfl ?_
            refine w_seq ?_
            cases hf4 : decide (setE mb.sc.length tr (o.i) (o.c) = 0) with
            | true =>
              have hf4p := of_decide_eq_true hf4
              refine w_any 7 [.inl (pt t 0), .inl (pt k1 2), .inl (.int .i64 (o.i)), .inl (pt k1 4), .inl (.int .i64 (o.c)), .inl (.agg #[.int .i64 (o.d), .int .i64 (o.a), .int .i64 (o.i), .slice o.p o.vs.length o.cap, .int .i64 (o.c), .int .i64 (o.f), .int .i64 (o.e)]), .inl (V10.v o.val)] [] (by kernel_rfl) (by kernel_rfl) (by kernel_rfl) (by kernel_rfl) rfl (by kernel_rfl) (by kernel_rfl) late_nil ?_ ?_ ?_
              · exact Ds.none rfl
              · refine ea_cons ?_ (ea_cons ?_ (ea_cons ?_ (ea_cons ?_ (ea_cons ?_ (ea_cons ?_ (ea_cons ?_ (ea_nil)))))))
                · exact og_eq (pt t 0) rfl (fun f wf hq hd K hK => go_run rfl (wo_mv (.tmp 5) (pt t 0) (fun _ => rfl) e5 (hK _ (Mo.refl _))))
                · exact og_eq (pt k1 2) rfl (fun f wf hq hd K hK => go_run rfl (wo_un (fun v => Instr.fieldAt 31 v 2) (.tmp 8) (pt k1 0) (pt k1 2) (fun _ => rfl) rfl (by kernel_rfl) (hK _ (Mo.refl _))))
                · exact og_eq (.int .i64 (o.i)) rfl (fun f wf hq hd K hK => have Q1 := Q1.mo hq; go_run rfl (wo_load 2 (.tmp 43) (pt k1 2) (.int .i64 (o.i)) rfl (hd 1 rfl) (run_one Q1 2 2 rfl Try.underlying2 rfl) (hK _ (Mo.refl _))))
                · exact og_eq (pt k1 4) rfl (fun f wf hq hd K hK => go_run rfl (wo_un (fun v => Instr.fieldAt 31 v 4) (.tmp 8) (pt k1 0) (pt k1 4) (fun _ => rfl) rfl (by kernel_rfl) (hK _ (Mo.refl _))))
                · exact og_eq (.int .i64 (o.c)) rfl (fun f wf hq hd K hK => have Q1 := Q1.mo hq; go_run rfl (wo_load 3 (.tmp 45) (pt k1 4) (.int .i64 (o.c)) rfl (hd 3 rfl) (run_one Q1 3 4 rfl Try.underlying3 rfl) (hK _ (Mo.refl _))))
                · exact og_eq (.agg #[.int .i64 (o.d), .int .i64 (o.a), .int .i64 (o.i), .slice o.p o.vs.length o.cap, .int .i64 (o.c), .int .i64 (o.f), .int .i64 (o.e)]) rfl (fun f wf hq hd K hK => have Q1 := Q1.mo hq; go_run rfl (wo_load 31 (.tmp 8) (pt k1 0) (.agg #[.int .i64 (o.d), .int .i64 (o.a), .int .i64 (o.i), .slice o.p o.vs.length o.cap, .int .i64 (o.c), .int .i64 (o.f), .int .i64 (o.e)]) rfl rfl (run_row Q1 31 0 7 [.int .i64 (o.d), .int .i64 (o.a), .int .i64 (o.i), .slice o.p o.vs.length o.cap, .int .i64 (o.c), .int .i64 (o.f), .int .i64 (o.e)] rfl Try.underlying31 rfl zs31) (hK _ (Mo.refl _))))
                · exact og_eq (V10.v o.val) rfl (fun f wf hq hd K hK => go_run rfl (wo_call 18 [(.tmp 47)] _ [.agg #[.int .i64 (o.d), .int .i64 (o.a), .int .i64 (o.i), .slice o.p o.vs.length o.cap, .int .i64 (o.c), .int .i64 (o.f), .int .i64 (o.e)]] (V10.v o.val) rfl (li1 (hd 5 rfl)) (fun _ _ => by kernel_rfl) (value_n o (hSVo.mo (M.trans hq))) hK))
              intro kf15 w15 hq hR hne
              replace Q1 := Q1.mo hq
              replace hG := hG.mo hq
              replace M := M.trans hq
              clear hq hR hne
              refine wl_callx 17 [(.tmp 42), (.tmp 44), (.tmp 46), (.tmp 48)] _ [pt t 0, .int .i64 (o.i), .int .i64 (o.c), V10.v o.val] rfl rfl (fun _ _ => by kernel_rfl) (set_b hG hb hok.i (Op6.val_ok hok) (by omega)) rfl ?_
              rintro _ w16 ⟨tr2, lk2, rfl, hG, hb2, hk1, hk2, hk3, hM2⟩
              refine ⟨_, rfl, ?_⟩
              have hle2 := hG.le
              have hkl2 := tr2.kv_len
              have hz1 := bm_hi hle hle2
              have hz2 := bm_hi hle2 hle2
              replace M := Wr.mo hM2 M (Nat.le_refl _)
              replace Q1 := Wr.at hM2 Q1 (by simp)
              clear hM2
              refine wl_bin (fun x y => do eqGuard .eql 25 (.tmp 49) (.const (.int .i64 (0))) x y; binOp .eql 25 x y) (.tmp 49) (.const (.int .i64 (0))) (.int .i64 (setE mb.sc.length tr (o.i) (o.c))) (.int .i64 (0)) (.bool true) (fun _ => rfl) rfl rfl (eqE hf4 _ _ _) rfl ?_
              refine w_nil ?_
              refine xn_then ?_
              refine w_condT rfl ?_
              refine w_reg ?_
              refine wl_mv (.const (.int .i64 (1))) (.int .i64 (1)) (fun _ => rfl) rfl rfl ?_
              refine w_nil ?_
              refine xn_blk ?_
              have hk2b := hk2
              unfold Bm at hk2b hz1
              exact xn_cut ⟨tr2, lk2, 24, 1, e30, e31, e32, e5, rfl, rfl, rfl, rfl, rfl, hG, hb2, by have := hk3 (of_decide_eq_true hf4); omega, by omega, by omega, by omega, by omega, Q1, M⟩
            | false =>
              have hf4p := of_decide_eq_false hf4
              refine w_any 7 [.inl (pt t 0), .inl (pt k1 2), .inl (.int .i64 (o.i)), .inl (pt k1 4), .inl (.int .i64 (o.c)), .inl (.agg #[.int .i64 (o.d), .int .i64 (o.a), .int .i64 (o.i), .slice o.p o.vs.length o.cap, .int .i64 (o.c), .int .i64 (o.f), .int .i64 (o.e)]), .inl (V10.v o.val)] [] (by kernel_rfl) (by kernel_rfl) (by kernel_rfl) (by kernel_rfl) rfl (by kernel_rfl) (by kernel_rfl) late_nil ?_ ?_ ?_
              · exact Ds.none rfl
              · refine ea_cons ?_ (ea_cons ?_ (ea_cons ?_ (ea_cons ?_ (ea_cons ?_ (ea_cons ?_ (ea_cons ?_ (ea_nil)))))))
                · exact og_eq (pt t 0) rfl (fun f wf hq hd K hK => go_run rfl (wo_mv (.tmp 5) (pt t 0) (fun _ => rfl) e5 (hK _ (Mo.refl _))))
                · exact og_eq (pt k1 2) rfl (fun f wf hq hd K hK => go_run rfl (wo_un (fun v => Instr.fieldAt 31 v 2) (.tmp 8) (pt k1 0) (pt k1 2) (fun _ => rfl) rfl (by kernel_rfl) (hK _ (Mo.refl _))))
                · exact og_eq (.int .i64 (o.i)) rfl (fun f wf hq hd K hK => have Q1 := Q1.mo hq; go_run rfl (wo_load 2 (.tmp 43) (pt k1 2) (.int .i64 (o.i)) rfl (hd 1 rfl) (run_one Q1 2 2 rfl Try.underlying2 rfl) (hK _ (Mo.refl _))))
                · exact og_eq (pt k1 4) rfl (fun f wf hq hd K hK => go_run rfl (wo_un (fun v => Instr.fieldAt 31 v 4) (.tmp 8) (pt k1 0) (pt k1 4) (fun _ => rfl) rfl (by kernel_rfl) (hK _ (Mo.refl _))))
                · exact og_eq (.int .i64 (o.c)) rfl (fun f wf hq hd K hK => have Q1 := Q1.mo hq; go_run rfl (wo_load 3 (.tmp 45) (pt k1 4) (.int .i64 (o.c)) rfl (hd 3 rfl) (run_one Q1 3 4 rfl Try.underlying3 rfl) (hK _ (Mo.refl _))))
                · exact og_eq (.agg #[.int .i64 (o.d), .int .i64 (o.a), .int .i64 (o.i), .slice o.p o.vs.length o.cap, .int .i64 (o.c), .int .i64 (o.f), .int .i64 (o.e)]) rfl (fun f wf hq hd K hK => have Q1 := Q1.mo hq; go_run rfl (wo_load 31 (.tmp 8) (pt k1 0) (.agg #[.int .i64 (o.d), .int .i64 (o.a), .int .i64 (o.i), .slice o.p o.vs.length o.cap, .int .i64 (o.c), .int .i64 (o.f), .int .i64 (o.e)]) rfl rfl (run_row Q1 31 0 7 [.int .i64 (o.d), .int .i64 (o.a), .int .i64 (o.i), .slice o.p o.vs.length o.cap, .int .i64 (o.c), .int .i64 (o.f), .int .i64 (o.e)] rfl Try.underlying31 rfl zs31) (hK _ (Mo.refl _))))
                · exact og_eq (V10.v o.val) rfl (fun f wf hq hd K hK => go_run rfl (wo_call 18 [(.tmp 47)] _ [.agg #[.int .i64 (o.d), .int .i64 (o.a), .int .i64 (o.i), .slice o.p o.vs.length o.cap, .int .i64 (o.c), .int .i64 (o.f), .int .i64 (o.e)]] (V10.v o.val) rfl (li1 (hd 5 rfl)) (fun _ _ => by kernel_rfl) (value_n o (hSVo.mo (M.trans hq))) hK))
              intro kf15 w15 hq hR hne
              replace Q1 := Q1.mo hq
              replace hG := hG.mo hq
              replace M := M.trans hq
              clear hq hR hne
              refine wl_callx 17 [(.tmp 42), (.tmp 44), (.tmp 46), (.tmp 48)] _ [pt t 0, .int .i64 (o.i), .int .i64 (o.c), V10.v o.val] rfl rfl (fun _ _ => by kernel_rfl) (set_b hG hb hok.i (Op6.val_ok hok) (by omega)) rfl ?_
              rintro _ w16 ⟨tr2, lk2, rfl, hG, hb2, hk1, hk2, hk3, hM2⟩
              refine ⟨_, rfl, ?_⟩
              have hle2 := hG.le
              have hkl2 := tr2.kv_len
              have hz1 := bm_hi hle hle2
              have hz2 := bm_hi hle2 hle2
              replace M := Wr.mo hM2 M (Nat.le_refl _)
              replace Q1 := Wr.at hM2 Q1 (by simp)
              clear hM2
              refine wl_bin (fun x y => do eqGuard .eql 25 (.tmp 49) (.const (.int .i64 (0))) x y; binOp .eql 25 x y) (.tmp 49) (.const (.int .i64 (0))) (.int .i64 (setE mb.sc.length tr (o.i) (o.c))) (.int .i64 (0)) (.bool false) (fun _ => rfl) rfl rfl (eqE hf4 _ _ _) rfl ?_
              refine w_nil ?_
              refine xn_then ?_
              refine w_condF rfl ?_
              refine w_skip ?_
              refine xn_blk ?_
              have hk2b := hk2
              unfold Bm at hk2b hz1
              exact xn_cut ⟨tr2, lk2, 24, 0, e30, e31, e32, e5, rfl, rfl, rfl, rfl, rfl, hG, hb2, by omega, by omega, by omega, by omega, by omega, Q1, M⟩
  | false =>
    have hf0p := of_decide_eq_false hf0
    refine w_reg ?_
    refine wl_bin (fun x y => do eqGuard .lss 3 (.tmp 32) (.tmp 31) x y; binOp .lss 3 x y) (.tmp 32) (.tmp 31) (.int .i64 (i : Int)) (.int .i64 (sc.length : Int)) (.bool false) (fun _ => rfl) e32 e31 (ltI hf0 _ _ _) rfl ?_
    refine w_nil ?_
    refine xn_then ?_
    refine w_seq ?_
    refine w_condF rfl ?_
    refine w_exit ?_
    refine xx_then ?_
    refine xx_then ?_
    refine xx_blk ?_
    refine xn_then ?_
    refine w_seq ?_
    refine w_reg ?_
    refine wl_mv (.const (.bool true)) (.bool true) (fun _ => rfl) rfl rfl ?_
    refine w_nil ?_
    refine xn_then ?_
    refine w_ret ?_
    exact w_ret1 _ (.bool true) rfl rfl ⟨rfl, M⟩
theorem balanced_n (scs : List Int) (ps : Option Addr) (caps : Nat) (hSN : SN w ps scs) (sc : List Op6) (p : Option Addr) (cap : Nat) (hsc : ∀ o ∈ sc, o.ok) (hSA : SA w p sc) (hn : sc.length ≤ 2000000000000) : Calls Try.prog 4 #[.slice ps scs.length caps, .slice p sc.length cap] w fun e w' => e = .returned (.bool true) ∧ Mo w w' := by
  by_cases h : scs.length ≤ 64
  · exact balanced_k scs ps caps sc p cap hsc hSN hSA hn h
  · exact balanced_x scs ps caps sc p cap (by omega)
end
end G
end Go.Proofs.Ythfemlhmnjfjiaa
/-
  Scripts that came in.
-/
namespace Go.Proofs.Ythfemlhmnjfjiaa
open Go.ChangeShapes Go.WideShapes Go.ChangeAt Go.RowKit
namespace G
theorem Try.own : ownKnob Try.prog.godebug = none := by kernel_rfl
theorem Try.cl2 : Try.prog.cellsOf 2 = 1 := by kernel_rfl
theorem Try.cl4 : Try.prog.cellsOf 4 = 1 := by kernel_rfl
theorem Try.cl9 : Try.prog.cellsOf 9 = 1 := by kernel_rfl
theorem Try.cl29 : Try.prog.cellsOf 29 = 1 := by kernel_rfl
theorem Try.cl31 : Try.prog.cellsOf 31 = 7 := by kernel_rfl
theorem Try.cl34 : Try.prog.cellsOf 34 = 1 := by kernel_rfl
theorem Try.cl38 : Try.prog.cellsOf 38 = 4 := by kernel_rfl
theorem Try.cl40 : Try.prog.cellsOf 40 = 6 := by kernel_rfl
theorem Try.cl55 : Try.prog.cellsOf 55 = 10 := by kernel_rfl
theorem Try.by31 : Try.prog.bytesOf 31 = 72 := by kernel_rfl
theorem Try.laidOut : laidOutB Try.prog = true := by kernel_rfl
theorem l0_vl {a b c d : Int} (h : U4 a b c d) : l0 (vl a b c d) = a := by unfold vl l0; unfold U4 U1 at h; omega
theorem l1_vl {a b c d : Int} (h : U4 a b c d) : l1 (vl a b c d) = b := by unfold vl l1; unfold U4 U1 at h; omega
theorem l2_vl {a b c d : Int} (h : U4 a b c d) : l2 (vl a b c d) = c := by unfold vl l2; unfold U4 U1 at h; omega
theorem l3_vl {a b c d : Int} (h : U4 a b c d) : l3 (vl a b c d) = d := by unfold vl l3; unfold U4 U1 at h; omega
theorem wf_u1 {x : Int} (h : (Lit.int .u64 x).wf = true) : U1 x := by
  simp [Lit.wf, IntKind.min, IntKind.max, IntKind.signed, IntKind.bits] at h
  exact ⟨by omega, by omega⟩
theorem wf_i1 {x : Int} (h : (Lit.int .i64 x).wf = true) : I64 x := by
  simp [Lit.wf, IntKind.min, IntKind.max, IntKind.signed, IntKind.bits] at h
  exact ⟨by omega, by omega⟩
theorem trodAll_stays {H : Type} {enc : TypeId × Value → H} {W W' : World} {sp' : Nat → Bool} : ∀ {ts : List TypeId} {vs : List Value} {ds : List (DataW H)} {ps : List MemPlace}, (∀ t ∈ ts, Try.prog.readableRec t = true ∧ t < Try.prog.types.size) → DataW.TrodAll enc Try.prog W 0 (fun _ => true) true ts vs ds ps → (∀ p ∈ ps, W.sameAt W' p) → (∀ p ∈ ps, sp' p.block = true) → DataW.TrodAll enc Try.prog W' 0 sp' true ts vs ds ps
  | [], [], [], _, _, h, _, _ => h
  | _ :: _, _ :: _, _ :: _, _, hT, ⟨p, q, h1, h2, e⟩, hm, hs => ⟨p, q, WideElems.Trod_stays Try.laidOut (hT _ (List.mem_cons.2 (Or.inl rfl))).1 (hT _ (List.mem_cons.2 (Or.inl rfl))).2 h1 (fun x hx => hm x (by rw [e]; exact List.mem_append_left _ hx)) (fun x hx => hs x (by rw [e]; exact List.mem_append_left _ hx)),
      trodAll_stays (fun t ht => hT t (List.mem_cons.2 (Or.inr ht))) h2 (fun x hx => hm x (by rw [e]; exact List.mem_append_right _ hx)) (fun x hx => hs x (by rw [e]; exact List.mem_append_right _ hx)), e⟩
section
variable {H : Type} {enc : TypeId × Value → H} {W : World} {sp : Nat → Bool} {fuel : Nat} {cs : List Value} {x : DataW H × List MemPlace}
set_option maxRecDepth 100000 in
theorem cut4 (h : DataW.trod enc Try.prog W 0 sp true fuel 38 cs = some x) : ∃ n : Int, (0 ≤ n ∧ n < MM) ∧ cs = [.int .u64 (l0 n), .int .u64 (l1 n), .int .u64 (l2 n), .int .u64 (l3 n)] := by
  obtain ⟨xs, m, rfl, _, hlen, hn, hi⟩ := DataW.trod_array Try.underlying38 h
  rw [Try.cl38] at hlen
  obtain ⟨c0, c1, c2, c3, rfl⟩ : ∃ c0 c1 c2 c3, cs = [c0, c1, c2, c3] := by
    match cs, hlen with
    | [a, b, c, d], _ => exact ⟨a, b, c, d, rfl⟩
  obtain ⟨y0, y1, y2, y3, rfl⟩ : ∃ y0 y1 y2 y3, xs = [y0, y1, y2, y3] := by
    match xs, hn with
    | [a, b, c, d], _ => exact ⟨a, b, c, d, rfl⟩
  have i0 := hi 0 (by decide)
  have i1 := hi 1 (by decide)
  have i2 := hi 2 (by decide)
  have i3 := hi 3 (by decide)
  simp only [Try.cl34] at i0 i1 i2 i3
  simp at i0 i1 i2 i3
  obtain ⟨x0, e0, _, w0⟩ := DataW.trod_int Try.underlying34 i0
  obtain ⟨x1, e1, _, w1⟩ := DataW.trod_int Try.underlying34 i1
  obtain ⟨x2, e2, _, w2⟩ := DataW.trod_int Try.underlying34 i2
  obtain ⟨x3, e3, _, w3⟩ := DataW.trod_int Try.underlying34 i3
  simp at e0 e1 e2 e3
  subst e0 e1 e2 e3
  have u : U4 x0 x1 x2 x3 := ⟨wf_u1 w0, wf_u1 w1, wf_u1 w2, wf_u1 w3⟩
  exact ⟨vl x0 x1 x2 x3, vl_bd u, by rw [l0_vl u, l1_vl u, l2_vl u, l3_vl u]⟩
set_option maxRecDepth 100000 in
theorem cut6 (h : DataW.trod enc Try.prog W 0 sp true fuel 40 cs = some x) : ∃ d : D3, d.ok ∧ cs = [.bool d.b, .int .u64 (l0 d.n), .int .u64 (l1 d.n), .int .u64 (l2 d.n), .int .u64 (l3 d.n), .int .i64 d.s] := by
  obtain ⟨y0, y1, y2, m, _, hl, h0, h1, h2⟩ := Go.Deep.trod_struct3 Try.underlying40 h
  rw [Try.cl40] at hl
  obtain ⟨c0, c1, c2, c3, c4, c5, rfl⟩ : ∃ c0 c1 c2 c3 c4 c5, cs = [c0, c1, c2, c3, c4, c5] := by
    match cs, hl with
    | [a, b, c, d, e, f], _ => exact ⟨a, b, c, d, e, f, rfl⟩
  simp [Try.cl4, Try.cl38, Try.cl3] at h0 h1 h2
  obtain ⟨b, e0, _⟩ := DataW.trod_bool Try.underlying4 h0
  obtain ⟨n, hn, e1⟩ := cut4 h1
  obtain ⟨s, e2, _, w2⟩ := DataW.trod_int Try.underlying3 h2
  simp at e0 e1 e2
  obtain ⟨e10, e11, e12, e13⟩ := e1
  subst e0 e10 e11 e12 e13 e2
  exact ⟨⟨b, n, s⟩, hn, rfl⟩
set_option maxRecDepth 100000 in
theorem cut10 (h : DataW.trod enc Try.prog W 0 sp true fuel 55 cs = some x) : ∃ v : V10, v.n.ok ∧ cs = v.cells := by
  obtain ⟨xs, n, rfl, _, hl, hlen, hi⟩ := DataW.trod_struct Try.underlying55 h
  rw [Try.cl55] at hl
  obtain ⟨c0, c1, c2, c3, c4, c5, c6, c7, c8, c9, rfl⟩ : ∃ c0 c1 c2 c3 c4 c5 c6 c7 c8 c9, cs = [c0, c1, c2, c3, c4, c5, c6, c7, c8, c9] := by
    match cs, hl with
    | [a0, a1, a2, a3, a4, a5, a6, a7, a8, a9], _ => exact ⟨a0, a1, a2, a3, a4, a5, a6, a7, a8, a9, rfl⟩
  obtain ⟨y0, y1, y2, y3, y4, rfl⟩ : ∃ y0 y1 y2 y3 y4, xs = [y0, y1, y2, y3, y4] := by
    match xs, hlen with
    | [a0, a1, a2, a3, a4], _ => exact ⟨a0, a1, a2, a3, a4, rfl⟩
  have i0 := hi 0 _ rfl
  have i1 := hi 1 _ rfl
  have i2 := hi 2 _ rfl
  have i3 := hi 3 _ rfl
  have i4 := hi 4 _ rfl
  simp [Try.cl3, Try.cl4, Try.cl9, Try.cl40] at i0 i1 i2 i3 i4
  obtain ⟨K, e0, _, w0⟩ := DataW.trod_int Try.underlying3 i0
  obtain ⟨d, hd, e1⟩ := cut6 i1
  obtain ⟨fl, e2, _⟩ := DataW.trod_bool Try.underlying4 i2
  obtain ⟨tx, e3, _⟩ := DataW.trod_string Try.underlying9 i3
  obtain ⟨er, e4, _, w4⟩ := DataW.trod_int Try.underlying3 i4
  simp at e0 e1 e2 e3 e4
  obtain ⟨e10, e11, e12, e13, e14, e15⟩ := e1
  subst e0 e10 e11 e12 e13 e14 e15 e2 e3 e4
  exact ⟨⟨K, d, fl, tx, er⟩, hd, rfl⟩
/-- A slice that came in, of whatever elements of n cells. -/
theorem cut_sl {t e : TypeId} (hu : Try.prog.underlying t = some (.slice e)) {n : Nat} (hn : 0 < n) (hcl : Try.prog.cellsOf e = n) {α : Type} (cells : α → List Value) (dflt : α) (ok : α → Prop) (hlen : ∀ y, (cells y).length = n)
    (hcut : ∀ {m : Nat} {cs : List Value} {y : DataW H × List MemPlace}, DataW.trod enc Try.prog W 0 sp true m e cs = some y → ∃ z, ok z ∧ cs = cells z) {v : Value} (h : DataW.trod enc Try.prog W 0 sp true fuel t [v] = some x) :
    ∃ (L : List α) (pa : Option Addr) (cap : Nat), v = .slice pa L.length cap ∧ (∀ o ∈ L, ok o) ∧ (∀ i o, L[i]? = some o → ∃ b off, pa = some ⟨b, off, none⟩ ∧ b < W.heap.size ∧ W.rangeAt b (off + i * n) (cells o)) ∧ (L = [] ∨ ∃ elems spare, x.1 = .slice elems spare ∧ elems.length = L.length) := by
  rcases Go.Deep.open_slice hu h with ⟨hcs, _⟩ | ⟨a, len, cap, m, k, D, Pl, hcs, _, hl, _, hm, hx, hel⟩
  · simp only [List.cons.injEq, and_true] at hcs
    subst hcs
    exact ⟨[], none, 0, rfl, fun _ e => (by cases e), fun _ _ e => (by cases e), Or.inl rfl⟩
  · simp only [List.cons.injEq, and_true] at hcs
    subst hcs
    have hm2 : len ≤ m := by rw [hm]; split <;> omega
    have first : ∀ o : α, ∃ u, (cells o)[0]? = some u := fun o => ⟨(cells o)[0]'(by rw [hlen]; exact hn), List.getElem?_eq_getElem _⟩
    have key : ∀ i : Nat, ∃ S : α, i < len → ok S ∧ ∃ b off, some a = some (⟨b, off, none⟩ : Addr) ∧ b < W.heap.size ∧ W.rangeAt b (off + i * n) (cells S) := by
      intro i
      by_cases hi : i < len
      · obtain ⟨cs', hc, ht⟩ := hel i (by omega)
        obtain ⟨o, ho, rfl⟩ := hcut ht
        refine ⟨o, fun _ => ⟨ho, ?_⟩⟩
        rw [hcl] at hc
        have hb := World.cells?_block hc hn
        obtain ⟨_, _, hcell⟩ := World.cells?_some hc
        obtain ⟨b, off, spot⟩ := a
        have hs : spot = none := by
          obtain ⟨cs0, hc0, ht0⟩ := hel 0 (by omega)
          obtain ⟨o0, _, rfl⟩ := hcut ht0
          rw [hcl] at hc0
          have h0 := (World.cells?_some hc0).2.2 0 hn
          obtain ⟨u, hu0⟩ := first o0
          rw [hu0] at h0
          have := World.cell?_spot (show W.cell? (((⟨b, off, spot⟩ : Addr).add (0 * n)).add 0) = some u from h0)
          simpa [Addr.add] using this
        subst hs
        refine ⟨b, off, rfl, by simpa [Addr.add_mid] using hb, fun j v hv => ?_⟩
        have hj : j < n := by rw [← hlen o]; exact (List.getElem?_eq_some_iff.1 hv).1
        have := hcell j hj
        rw [Addr.add_mid, Addr.add_mid, hv] at this
        exact this
      · exact ⟨dflt, fun e => absurd e hi⟩
    obtain ⟨f, hf2⟩ := Classical.skolem.1 key
    refine ⟨(List.range len).map f, some a, cap, by simp, fun o ho => ?_, fun i o e => ?_, Or.inr ⟨_, _, congrArg Prod.fst hx, by simp⟩⟩
    · obtain ⟨i, hi, rfl⟩ := List.mem_map.1 ho
      exact (hf2 i (by simpa using hi)).1
    · have hi : i < len := by have := (List.getElem?_eq_some_iff.1 e).1; simpa using this
      rw [List.getElem?_map, List.getElem?_range hi] at e
      cases e
      exact (hf2 i hi).2
set_option maxRecDepth 100000 in
theorem cut31 (h : DataW.trod enc Try.prog W 0 sp true fuel 31 cs = some x) : ∃ o : Op6, (o.ok ∧ SVv W o.p o.vs) ∧ cs = o.cells := by
  obtain ⟨xs, n, rfl, _, hl, hlen, hi⟩ := DataW.trod_struct Try.underlying31 h
  rw [Try.cl31] at hl
  obtain ⟨c0, c1, c2, c3, c4, c5, c6, rfl⟩ : ∃ c0 c1 c2 c3 c4 c5 c6, cs = [c0, c1, c2, c3, c4, c5, c6] := by
    match cs, hl with
    | [a0, a1, a2, a3, a4, a5, a6], _ => exact ⟨a0, a1, a2, a3, a4, a5, a6, rfl⟩
  obtain ⟨y0, y1, y2, y3, y4, y5, y6, rfl⟩ : ∃ y0 y1 y2 y3 y4 y5 y6, xs = [y0, y1, y2, y3, y4, y5, y6] := by
    match xs, hlen with
    | [a0, a1, a2, a3, a4, a5, a6], _ => exact ⟨a0, a1, a2, a3, a4, a5, a6, rfl⟩
  have i0 := hi 0 _ rfl
  have i1 := hi 1 _ rfl
  have i2 := hi 2 _ rfl
  have i3 := hi 3 _ rfl
  have i4 := hi 4 _ rfl
  have i5 := hi 5 _ rfl
  have i6 := hi 6 _ rfl
  simp [Try.cl3, Try.cl2, Try.cl29] at i0 i1 i2 i3 i4 i5 i6
  obtain ⟨d, e0, _, w0⟩ := DataW.trod_int Try.underlying3 i0
  obtain ⟨a, e1, _, w1⟩ := DataW.trod_int Try.underlying3 i1
  obtain ⟨i, e2, _, w2⟩ := DataW.trod_int Try.underlying2 i2
  obtain ⟨L, pa, cap, e3, hL, hSV, _⟩ := cut_sl Try.underlying29 (n := 10) (by decide) Try.cl55 V10.cells v0 (fun y => y.n.ok) (fun _ => rfl) (fun h => cut10 h) i3
  obtain ⟨c, e4, _, w4⟩ := DataW.trod_int Try.underlying3 i4
  obtain ⟨f, e5, _, w5⟩ := DataW.trod_int Try.underlying3 i5
  obtain ⟨g, e6, _, w6⟩ := DataW.trod_int Try.underlying3 i6
  simp at e0 e1 e2 e4 e5 e6
  subst e0 e1 e2 e3 e4 e5 e6
  exact ⟨⟨d, a, i, pa, L, cap, c, f, g⟩, ⟨⟨wf_i1 w0, wf_i1 w1, wf_i1 w2, hL, wf_i1 w4, wf_i1 w5, wf_i1 w6⟩, hSV⟩, rfl⟩
end
section
variable {H : Type} {enc : TypeId × Value → H} {W : World} {base : Nat} {v : Value} {d : DataW H} {p : List MemPlace}
set_option maxRecDepth 100000 in
theorem open_script (hv : Value.okWide Try.prog W .any base 23 v) (h : DataW.Trod enc Try.prog W 0 (fun _ => true) true 23 v d p) :
    ∃ (sc : List Op6) (pa : Option Addr) (cap : Nat), v = .slice pa sc.length cap ∧ (∀ o ∈ sc, o.ok) ∧ SA W pa sc ∧ (sc = [] ∨ ∃ elems spare, d = .slice elems spare ∧ elems.length = sc.length) := by
  obtain ⟨a0, len, cap0, rfl⟩ := okWide_slice Try.underlying23 hv
  obtain ⟨fuel, hf⟩ := h
  obtain ⟨L, pa, cap, h1, h2, h3, h4⟩ := cut_sl Try.underlying23 (n := 7) (by decide) Try.cl31 Op6.cells ⟨0, 0, 0, none, [], 0, 0, 0, 0⟩ (fun o => o.ok ∧ SVv W o.p o.vs) (fun _ => rfl) (fun h => cut31 h) (show DataW.trod enc Try.prog W 0 _ true fuel 23 [_] = some (d, p) from hf)
  exact ⟨L, pa, cap, h1, fun o ho => (h2 o ho).1, fun i o e => ⟨h3 i o e, (h2 o (List.mem_of_getElem? e)).2⟩, h4⟩
set_option maxRecDepth 100000 in
theorem open_ints (hv : Value.okWide Try.prog W .any base 22 v) (h : DataW.Trod enc Try.prog W 0 (fun _ => true) true 22 v d p) :
    ∃ (L : List Int) (pa : Option Addr) (cap : Nat), v = .slice pa L.length cap ∧ (∀ x ∈ L, I64 x) ∧ SN W pa L := by
  obtain ⟨a0, len, cap0, rfl⟩ := okWide_slice Try.underlying22 hv
  obtain ⟨fuel, hf⟩ := h
  obtain ⟨L, pa, cap, h1, h2, h3, _⟩ := cut_sl Try.underlying22 (n := 1) (by decide) Try.cl3 (fun x : Int => [.int .i64 x]) 0 I64 (fun _ => rfl) (fun h => by
    obtain ⟨z, e, _, w⟩ := DataW.trod_int Try.underlying3 h
    exact ⟨z, wf_i1 w, e⟩) (show DataW.trod enc Try.prog W 0 _ true fuel 22 [_] = some (d, p) from hf)
  exact ⟨L, pa, cap, h1, h2, h3⟩
end
end G
end Go.Proofs.Ythfemlhmnjfjiaa
