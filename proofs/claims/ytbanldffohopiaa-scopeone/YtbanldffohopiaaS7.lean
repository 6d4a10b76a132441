/-
  Check's parts: pages.
-/
import Derived.Test.YtbanldffohopiaaS6
namespace Go.Proofs.Ytbanldffohopiaa
open Go.RowKit D
theorem page_n {w : World} {z : Zc} {A : Al} (hC : CK w z A) (h0 : 0 < z.L.length) {pb : Nat} {P : List (ByteArray × Int)} (hP : OM w pb P) (x : Pg) (hL : LEx w x.wh) : Calls Try.prog 54 #[pt z.cb 0, .agg (x.cells).toArray, .map (some pb)] w fun e w' => e = .returned (.int .i64 (pgE z.L A P x)) ∧ Mo w w' := by
  refine w_enter 27 Try.func54 Try.ntmps54 rfl rfl ?_
  have M : Mo w w := Mo.refl _
  refine w_seq ?_
  refine w_reg ?_
  refine wl_box 90 (.tmp 1) (.agg (x.cells).toArray) (((x.cells).toArray)) rfl rfl (fun _ => by kernel_rfl) rfl ?_
  intro k1 w1 hk hz hq Q1
  have N_k1 : w.heap.size ≤ k1 := by have := M.size; omega
  replace M := M.trans hq
  clear hk hz hq
  refine wl_mv (.const (.int .i64 (0))) (.int .i64 (0)) (fun _ => rfl) rfl rfl ?_
  refine w_nil ?_
  refine xn_then ?_
  refine w_seq ?_
  refine w_block ?_
  refine w_seq ?_
  refine w_reg ?_
  refine wl_un (fun v => Instr.fieldAt 90 v 0) (.tmp 4) (pt k1 0) (pt k1 0) (fun _ => rfl) rfl (by kernel_rfl) rfl ?_
  refine wl_load 9 (.tmp 8) (pt k1 0) (.string x.nm) rfl rfl (run_one Q1 9 0 rfl Try.underlying9 rfl) rfl ?_
  cases hf0 : may x.nm with
  | true =>
    refine wl_call 48 [(.tmp 9)] _ [.string x.nm] (.bool true) rfl rfl (fun _ _ => by kernel_rfl) (cB hf0 (may_n x.nm _)) rfl ?_
    intro w2 hq
    replace Q1 := Q1.mo hq
    replace M := M.trans hq
    clear hq
    refine wl_un (fun v => Op.unary .not v) (.tmp 10) (.bool true) (.bool false) (fun _ => rfl) rfl (by kernel_rfl) rfl ?_
    refine wl_mv (.tmp 11) (.bool false) (fun _ => rfl) rfl rfl ?_
    refine w_nil ?_
    refine xn_then ?_
    refine w_condF rfl ?_
    refine w_seq ?_
    refine w_reg ?_
    refine wl_mv (.tmp 2) (.map (some pb)) (fun _ => rfl) rfl rfl ?_
    refine wl_un (fun v => Instr.fieldAt 90 v 0) (.tmp 4) (pt k1 0) (pt k1 0) (fun _ => rfl) rfl (by kernel_rfl) rfl ?_
    refine wl_load 9 (.tmp 14) (pt k1 0) (.string x.nm) rfl rfl (run_one Q1 9 0 rfl Try.underlying9 rfl) rfl ?_
    cases hf1 : (lk P x.nm).isSome with
    | true =>
      refine wl_call 65 [(.tmp 13), (.tmp 15)] _ [.map (some pb), .string x.nm] (.bool true) rfl rfl (fun _ _ => by kernel_rfl) (cB hf1 (has_n (hP.mo M) x.nm (Nat.le_trans (may_sz hf0) (by decide)))) rfl ?_
      intro w3 hq
      replace Q1 := Q1.mo hq
      replace M := M.trans hq
      clear hq
      refine wl_mv (.tmp 16) (.bool true) (fun _ => rfl) rfl rfl ?_
      refine w_nil ?_
      refine xn_then ?_
      refine w_condT rfl ?_
      refine w_seq ?_
      refine w_reg ?_
      refine wl_mv (.const (.int .i64 (5))) (.int .i64 (5)) (fun _ => rfl) rfl rfl ?_
      refine w_nil ?_
      refine xn_then ?_
      refine w_ret ?_
      refine xr_blk ?_
      refine xr_then ?_
      exact w_ret1 _ (.int .i64 (5)) rfl rfl ⟨by unfold pgE; rw [hf0, hf1]; first | done | rfl, M⟩
    | false =>
      refine wl_call 65 [(.tmp 13), (.tmp 15)] _ [.map (some pb), .string x.nm] (.bool false) rfl rfl (fun _ _ => by kernel_rfl) (cB hf1 (has_n (hP.mo M) x.nm (Nat.le_trans (may_sz hf0) (by decide)))) rfl ?_
      intro w3 hq
      replace Q1 := Q1.mo hq
      replace M := M.trans hq
      clear hq
      refine wl_mv (.tmp 16) (.bool false) (fun _ => rfl) rfl rfl ?_
      refine w_nil ?_
      refine xn_then ?_
      refine w_condF rfl ?_
      refine w_seq ?_
      refine w_reg ?_
      refine wl_un (fun v => Instr.fieldAt 90 v 2) (.tmp 4) (pt k1 0) (pt k1 18) (fun _ => rfl) rfl (by kernel_rfl) rfl ?_
      refine wl_load 45 (.tmp 18) (pt k1 18) (.slice x.pa x.its.length x.cap) rfl rfl (run_one Q1 45 18 rfl Try.underlying45 rfl) rfl ?_
      refine wl_val (.int .i64 ((x.its.length : Nat) : Int)) (len45 _ _ _ _ _ (by exact rfl) _ _ _ _ _ _) rfl ?_
      cases hf2 : decide (64 < x.its.length) with
      | true =>
        have hf2p := of_decide_eq_true hf2
        refine wl_bin (fun x y => do eqGuard .gtr 3 (.tmp 20) (.const (.int .i64 (64))) x y; binOp .gtr 3 x y) (.tmp 20) (.const (.int .i64 (64))) (.int .i64 ((x.its.length : Nat) : Int)) (.int .i64 (64)) (.bool true) (fun _ => rfl) rfl rfl (gtN hf2 _ _ _) rfl ?_
        refine wl_mv (.tmp 21) (.bool true) (fun _ => rfl) rfl rfl ?_
        refine w_nil ?_
        refine xn_then ?_
        refine w_condT rfl ?_
        refine w_seq ?_
        refine w_reg ?_
        refine wl_mv (.const (.int .i64 (92))) (.int .i64 (92)) (fun _ => rfl) rfl rfl ?_
        refine w_nil ?_
        refine xn_then ?_
        refine w_ret ?_
        refine xr_blk ?_
        refine xr_then ?_
        exact w_ret1 _ (.int .i64 (92)) rfl rfl ⟨by unfold pgE; rw [hf0, hf1, hf2]; first | done | rfl, M⟩
      | false =>
        have hf2p := of_decide_eq_false hf2
        refine wl_bin (fun x y => do eqGuard .gtr 3 (.tmp 20) (.const (.int .i64 (64))) x y; binOp .gtr 3 x y) (.tmp 20) (.const (.int .i64 (64))) (.int .i64 ((x.its.length : Nat) : Int)) (.int .i64 (64)) (.bool false) (fun _ => rfl) rfl rfl (gtN hf2 _ _ _) rfl ?_
        refine wl_mv (.tmp 21) (.bool false) (fun _ => rfl) rfl rfl ?_
        refine w_nil ?_
        refine xn_then ?_
        refine w_condF rfl ?_
        refine w_seq ?_
        refine w_reg ?_
        refine wl_mv (.tmp 0) (pt z.cb 0) (fun _ => rfl) rfl rfl ?_
        refine wl_un (fun v => Instr.fieldAt 90 v 1) (.tmp 4) (pt k1 0) (pt k1 1) (fun _ => rfl) rfl (by kernel_rfl) rfl ?_
        refine wl_load 64 (.tmp 24) (pt k1 1) (.agg (x.wh.cells).toArray) rfl rfl (run_row Q1 64 1 17 (x.wh.cells) rfl Try.underlying64 rfl sz64) rfl ?_
        cases hf3 : lck (kno z.L A 0) x.wh with
        | true =>
          refine wl_call 53 [(.tmp 23), (.const (.int .i64 (0))), (.tmp 25)] _ [pt z.cb 0, .int .i64 (0), .agg (x.wh.cells).toArray] (.bool true) rfl rfl (fun _ _ => by kernel_rfl) (cB hf3 (lacks_n 0 h0 x.wh (hC.mo M) (hL.kp M.kp))) rfl ?_
          intro w4 hq
          replace Q1 := Q1.mo hq
          replace M := M.trans hq
          clear hq
          refine wl_mv (.tmp 26) (.bool true) (fun _ => rfl) rfl rfl ?_
          refine w_nil ?_
          refine xn_then ?_
          refine w_condT rfl ?_
          refine w_seq ?_
          refine w_reg ?_
          refine wl_mv (.const (.int .i64 (91))) (.int .i64 (91)) (fun _ => rfl) rfl rfl ?_
          refine w_nil ?_
          refine xn_then ?_
          refine w_ret ?_
          refine xr_blk ?_
          refine xr_then ?_
          exact w_ret1 _ (.int .i64 (91)) rfl rfl ⟨by unfold pgE; rw [hf0, hf1, hf2, hf3]; first | done | rfl, M⟩
        | false =>
          refine wl_call 53 [(.tmp 23), (.const (.int .i64 (0))), (.tmp 25)] _ [pt z.cb 0, .int .i64 (0), .agg (x.wh.cells).toArray] (.bool false) rfl rfl (fun _ _ => by kernel_rfl) (cB hf3 (lacks_n 0 h0 x.wh (hC.mo M) (hL.kp M.kp))) rfl ?_
          intro w4 hq
          replace Q1 := Q1.mo hq
          replace M := M.trans hq
          clear hq
          refine wl_mv (.tmp 26) (.bool false) (fun _ => rfl) rfl rfl ?_
          refine w_nil ?_
          refine xn_then ?_
          refine w_condF rfl ?_
          refine w_skip ?_
          refine xn_blk ?_
          refine xn_then ?_
          refine w_seq ?_
          refine w_reg ?_
          refine wl_mv (.const (.int .i64 (0))) (.int .i64 (0)) (fun _ => rfl) rfl rfl ?_
          refine w_nil ?_
          refine xn_then ?_
          refine w_ret ?_
          exact w_ret1 _ (.int .i64 (0)) rfl rfl ⟨by unfold pgE; rw [hf0, hf1, hf2, hf3]; first | done | rfl, M⟩
  | false =>
    refine wl_call 48 [(.tmp 9)] _ [.string x.nm] (.bool false) rfl rfl (fun _ _ => by kernel_rfl) (cB hf0 (may_n x.nm _)) rfl ?_
    intro w2 hq
    replace Q1 := Q1.mo hq
    replace M := M.trans hq
    clear hq
    refine wl_un (fun v => Op.unary .not v) (.tmp 10) (.bool false) (.bool true) (fun _ => rfl) rfl (by kernel_rfl) rfl ?_
    refine wl_mv (.tmp 11) (.bool true) (fun _ => rfl) rfl rfl ?_
    refine w_nil ?_
    refine xn_then ?_
    refine w_condT rfl ?_
    refine w_seq ?_
    refine w_reg ?_
    refine wl_mv (.const (.int .i64 (90))) (.int .i64 (90)) (fun _ => rfl) rfl rfl ?_
    refine w_nil ?_
    refine xn_then ?_
    refine w_ret ?_
    refine xr_blk ?_
    refine xr_then ?_
    exact w_ret1 _ (.int .i64 (90)) rfl rfl ⟨by unfold pgE; rw [hf0]; first | done | rfl, M⟩
theorem show_n {w : World} {z : Zc} {A : Al} (hC : CK w z A) (h0 : 0 < z.L.length) {sb : Nat} {S : List (ByteArray × Int)} (hS : OM w sb S) (hsb : ¬ z.D sb) (p : Int) {pa : Option Addr} {cap : Nat} {its : List ByteArray} (hN : SL w 1 (fun s => [Value.string s]) pa its) (hz : ∀ s ∈ its, s.size ≤ maxLen) (hb : S.length + its.length < 1000000) : Calls Try.prog 55 #[pt z.cb 0, .int .i64 p, .slice pa its.length cap, .map (some sb)] w fun e w' => e = .returned (.int .i64 (shR A p S its)) ∧ Mk (fun j => j = sb) w w' ∧ (shR A p S its = 0 → OM w' sb (shA p S its its.length)) := by
  refine w_enter 46 Try.func55 Try.ntmps55 rfl rfl ?_
  have M : Mo w w := Mo.refl _
  refine w_seq ?_
  refine w_reg ?_
  refine wl_mv (.const (.int .i64 (0))) (.int .i64 (0)) (fun _ => rfl) rfl rfl ?_
  refine w_nil ?_
  refine xn_then ?_
  refine w_seq ?_
  refine w_seq ?_
  refine w_reg ?_
  refine wl_mv (.tmp 2) (.slice pa its.length cap) (fun _ => rfl) rfl rfl ?_
  refine wl_val (.int .i64 ((its.length : Nat) : Int)) (len45 _ _ _ _ _ (by exact rfl) _ _ _ _ _ _) rfl ?_
  refine wl_mv (.const (.int .i64 (0))) (.int .i64 (0)) (fun _ => rfl) rfl rfl ?_
  refine w_nil ?_
  refine xn_then ?_
  refine w_block ?_
  have hlm : 0 < z.MI.length := by rw [hC.lm]; exact h0
  have hlk : 0 < z.KI.length := by rw [hC.lk]; exact h0
  obtain ⟨ib, hib⟩ := get_of_lt hlm
  obtain ⟨kb, hkb⟩ := get_of_lt hlk
  refine w_loop (fun m l w1 => ∃ i : Nat, m = its.length - i ∧ i ≤ its.length ∧ look l 0 = pt z.cb 0 ∧ look l 1 = .int .i64 (p) ∧ look l 3 = .map (some sb) ∧ look l 11 = .slice pa its.length cap ∧ look l 12 = .int .i64 ((its.length : Nat) : Int) ∧ look l 13 = .int .i64 ((i : Nat) : Int) ∧ (CK w1 z A) ∧ (OM w1 sb (shA p S its i)) ∧ (∀ j, j < i → shG A p S its j = none) ∧ Mk (fun j => j = sb) w w1) _ ⟨0, rfl, Nat.zero_le _, rfl, rfl, rfl, rfl, rfl, rfl, hC.mo M, hS.mo M, (fun j hj => by omega), Mk.of _ M⟩ ?_
  clear M
  rintro m l40 wl40 ⟨i, rfl, hi, e40_0, e40_1, e40_3, e40_11, e40_12, e40_i, hC1, hS1, hG, MK⟩
  by_cases hil : i < its.length
  · skip
    have hid : decide (i < its.length) = true := decide_eq_true hil
    have M : Mo wl40 wl40 := Mo.refl _
    have hN1 := hN.kp (MK.kp (fun j e o => by rw [e]; exact hS.nocell o))
    obtain ⟨a, ha⟩ := get_of_lt hil
    have hza := hz a (List.mem_of_getElem? ha)
    have hIo := hC1.oi 0 ib hib
    have hKo := hC1.ok 0 kb hkb
    obtain ⟨b1, o1, hp1, hR1⟩ := D.SL.rw hN1 ha
    obtain ⟨b2, o2, hp2, hR2⟩ := D.SL.rw hC1.mi hib
    obtain ⟨b3, o3, hp3, hR3⟩ := D.SL.rw hC1.ki hkb
    refine w_seq ?_
    refine w_reg ?_
    refine wl_bin (fun x y => do eqGuard .lss 3 (.tmp 13) (.tmp 12) x y; binOp .lss 3 x y) (.tmp 13) (.tmp 12) (.int .i64 ((i : Nat) : Int)) (.int .i64 ((its.length : Nat) : Int)) (.bool true) (fun _ => rfl) e40_i e40_12 (ltN hid _ _ _) rfl ?_
    refine w_nil ?_
    refine xn_then ?_
    refine w_seq ?_
    refine w_condT rfl ?_
    refine w_skip ?_
    refine xn_then ?_
    refine w_seq ?_
    refine w_block ?_
    refine w_seq ?_
    refine w_reg ?_
    refine wl_bin (fun x y => Instr.indexAt 45 x y) (.tmp 11) (.tmp 13) (.slice pa its.length cap) (.int .i64 ((i : Nat) : Int)) (pt b1 (o1 + i * 1)) (fun _ => rfl) e40_11 e40_i (ix45 (i := i) hp1 hil _) rfl ?_
    refine wl_load 9 (.tmp 15) (pt b1 (o1 + i * 1)) (.string a) rfl rfl (D.run_oneR (hR1.mo M).at' 9 0 rfl Try.underlying9 rfl) rfl ?_
    refine wl_mv (.tmp 16) (.string a) (fun _ => rfl) rfl rfl ?_
    refine w_nil ?_
    refine xn_then ?_
    refine w_seq ?_
    refine w_block ?_
    refine w_seq ?_
    refine w_reg ?_
    refine wl_mv (.tmp 0) (pt z.cb 0) (fun _ => rfl) e40_0 rfl ?_
    refine wl_nc (.tmp 18) z.cb 0 rfl rfl rfl ?_
    refine wl_un (fun v => Instr.fieldAt 94 v 3) (.tmp 19) (pt z.cb 0) (pt z.cb 9) (fun _ => rfl) rfl (by kernel_rfl) rfl ?_
    refine wl_load 92 (.tmp 20) (pt z.cb 9) (.slice z.ip z.MI.length z.ic) rfl rfl (D.run_oneR (hC1.rw.mo M).at' 92 9 rfl Try.underlying92 rfl) rfl ?_
    refine wl_bin (fun x y => Instr.indexAt 92 x y) (.tmp 21) (.const (.int .i64 (0))) (.slice z.ip z.MI.length z.ic) (.int .i64 (0)) (pt b2 (o2 + 0 * 1)) (fun _ => rfl) rfl rfl (ix92 (i := 0) hp2 hlm _) rfl ?_
    refine wl_load 91 (.tmp 22) (pt b2 (o2 + 0 * 1)) (.map (some ib)) rfl rfl (D.run_oneR (hR2.mo M).at' 91 0 rfl Try.underlying91 rfl) rfl ?_
    refine wl_mv (.tmp 10) (.string a) (fun _ => rfl) rfl rfl ?_
    refine wl_val (.int .i64 ((lk (A.I 0) a).getD 0)) (lkp 91 (.tmp 23) (.tmp 24) false (.map (some ib)) (.string a) (.int .i64 ((lk (A.I 0) a).getD 0)) rfl rfl rfl ((hIo.mo M).look hza)) rfl ?_
    cases hf30 : decide ((lk (A.I 0) a).getD 0 = 1) with
    | true =>
      have hf30p := of_decide_eq_true hf30
      refine wl_bin (fun x y => do eqGuard .neq 3 (.tmp 25) (.const (.int .i64 (1))) x y; binOp .neq 3 x y) (.tmp 25) (.const (.int .i64 (1))) (.int .i64 ((lk (A.I 0) a).getD 0)) (.int .i64 (1)) (.bool false) (fun _ => rfl) rfl rfl (ne3 hf30 _ _ _) rfl ?_
      refine wl_mv (.tmp 26) (.bool false) (fun _ => rfl) rfl rfl ?_
      refine wl_skip rfl ?_
      refine wl_skip rfl ?_
      refine wl_skip rfl ?_
      refine wl_skip rfl ?_
      refine wl_skip rfl ?_
      refine wl_skip rfl ?_
      refine wl_skip rfl ?_
      refine wl_skip rfl ?_
      refine wl_skip rfl ?_
      refine wl_pick (.tmp 27) (.tmp 36) (.const (.bool false)) false (.bool false) (fun _ => rfl) rfl rfl rfl ?_
      refine wl_mv (.tmp 37) (.bool false) (fun _ => rfl) rfl rfl ?_
      refine w_nil ?_
      refine xn_then ?_
      refine w_condF rfl ?_
      refine w_seq ?_
      refine w_reg ?_
      refine wl_mv (.tmp 3) (.map (some sb)) (fun _ => rfl) e40_3 rfl ?_
      refine wl_mv (.tmp 10) (.string a) (fun _ => rfl) rfl rfl ?_
      cases hf31 : (lk (shA p S its i) a).isSome with
      | true =>
        refine wl_call 65 [(.tmp 39), (.tmp 40)] _ [.map (some sb), .string a] (.bool true) rfl rfl (fun _ _ => by kernel_rfl) (cB hf31 (has_n (hS1.mo M) a hza)) rfl ?_
        intro w41 hq
        replace M := M.trans hq
        clear hq
        refine wl_mv (.tmp 41) (.bool true) (fun _ => rfl) rfl rfl ?_
        refine w_nil ?_
        refine xn_then ?_
        refine w_condT rfl ?_
        refine w_seq ?_
        refine w_reg ?_
        refine wl_mv (.const (.int .i64 (5))) (.int .i64 (5)) (fun _ => rfl) rfl rfl ?_
        refine w_nil ?_
        refine xn_then ?_
        refine w_ret ?_
        refine xr_blk ?_
        refine xr_then ?_
        refine xr_blk ?_
        refine xr_then ?_
        refine xr_then ?_
        refine xr_blk ?_
        refine xr_then ?_
        have hsh : shR A p S its = 5 := by unfold shR; rw [fs_hit hG (x := 5) ((shG_of ha).trans (by rw [show shE A (shA p S its i) a = 5 from (by  unfold shE; rw [hf30, hf31]; first | done | rfl)]; rfl)) hil]; rfl
        exact w_ret1 _ (.int .i64 (5)) rfl rfl ⟨by rw [hsh], MK.trans M, fun h => by rw [hsh] at h; cases h⟩
      | false =>
        refine wl_call 65 [(.tmp 39), (.tmp 40)] _ [.map (some sb), .string a] (.bool false) rfl rfl (fun _ _ => by kernel_rfl) (cB hf31 (has_n (hS1.mo M) a hza)) rfl ?_
        intro w41 hq
        replace M := M.trans hq
        clear hq
        refine wl_mv (.tmp 41) (.bool false) (fun _ => rfl) rfl rfl ?_
        refine w_nil ?_
        refine xn_then ?_
        refine w_condF rfl ?_
        refine w_skip ?_
        refine xn_blk ?_
        refine xn_then ?_
        refine w_reg ?_
        refine wl_mv (.tmp 3) (.map (some sb)) (fun _ => rfl) e40_3 rfl ?_
        refine wl_mv (.tmp 10) (.string a) (fun _ => rfl) rfl rfl ?_
        refine wl_mv (.tmp 1) (.int .i64 (p)) (fun _ => rfl) e40_1 rfl ?_
        refine wl_mup (.tmp 42) (.tmp 43) (.tmp 44) sb a (p) (hS1.mo M) (by have := shA_len p S its i; omega) hza (isn hf31) rfl rfl rfl rfl rfl rfl ?_
        intro w42 hO9 hK9
        have hC9 := (hC1.mo M).other (hS1.mo M) hsb hK9
        replace MK := (MK.trans M).same hK9
        clear M
        have M : Mo w42 w42 := Mo.refl _
        refine w_nil ?_
        refine xn_blk ?_
        refine xn_then ?_
        refine w_reg ?_
        refine wl_bin (fun x y => do eqGuard .add 3 (.tmp 13) (.const (.int .i64 (1))) x y; binOp .add 3 x y) (.tmp 13) (.const (.int .i64 (1))) (.int .i64 ((i : Nat) : Int)) (.int .i64 (1)) (.int .i64 ((i + 1 : Nat) : Int)) (fun _ => rfl) e40_i rfl (add1r (k := i) (by omega) _ _ _) rfl ?_
        refine wl_mv (.tmp 45) (.int .i64 ((i + 1 : Nat) : Int)) (fun _ => rfl) rfl rfl ?_
        refine w_nil ?_
        exact xn_loop (its.length - (i + 1)) (by omega) ⟨i + 1, rfl, by omega, e40_0, e40_1, e40_3, e40_11, e40_12, rfl, hC9.mo M, by rw [shA_s ha]; exact hO9.mo M, fs_step hG ((shG_of ha).trans (by rw [show shE A (shA p S its i) a = 0 from (by  unfold shE; rw [hf30, hf31]; first | done | rfl)]; rfl)), MK.trans M⟩
    | false =>
      have hf30p := of_decide_eq_false hf30
      refine wl_bin (fun x y => do eqGuard .neq 3 (.tmp 25) (.const (.int .i64 (1))) x y; binOp .neq 3 x y) (.tmp 25) (.const (.int .i64 (1))) (.int .i64 ((lk (A.I 0) a).getD 0)) (.int .i64 (1)) (.bool true) (fun _ => rfl) rfl rfl (ne3 hf30 _ _ _) rfl ?_
      refine wl_mv (.tmp 26) (.bool true) (fun _ => rfl) rfl rfl ?_
      refine wl_mv (.tmp 0) (pt z.cb 0) (fun _ => rfl) e40_0 rfl ?_
      refine wl_nc (.tmp 28) z.cb 0 rfl rfl rfl ?_
      refine wl_un (fun v => Instr.fieldAt 94 v 4) (.tmp 29) (pt z.cb 0) (pt z.cb 10) (fun _ => rfl) rfl (by kernel_rfl) rfl ?_
      refine wl_load 92 (.tmp 30) (pt z.cb 10) (.slice z.kp z.KI.length z.kc) rfl rfl (D.run_oneR (hC1.rw.mo M).at' 92 10 rfl Try.underlying92 rfl) rfl ?_
      refine wl_bin (fun x y => Instr.indexAt 92 x y) (.tmp 31) (.const (.int .i64 (0))) (.slice z.kp z.KI.length z.kc) (.int .i64 (0)) (pt b3 (o3 + 0 * 1)) (fun _ => rfl) rfl rfl (ix92 (i := 0) hp3 hlk _) rfl ?_
      refine wl_load 91 (.tmp 32) (pt b3 (o3 + 0 * 1)) (.map (some kb)) rfl rfl (D.run_oneR (hR3.mo M).at' 91 0 rfl Try.underlying91 rfl) rfl ?_
      refine wl_mv (.tmp 10) (.string a) (fun _ => rfl) rfl rfl ?_
      cases hf31 : (lk (A.K 0) a).isSome with
      | true =>
        refine wl_call 65 [(.tmp 33), (.tmp 34)] _ [.map (some kb), .string a] (.bool true) rfl rfl (fun _ _ => by kernel_rfl) (cB hf31 (has_n (hKo.mo M) a hza)) rfl ?_
        intro w41 hq
        replace M := M.trans hq
        clear hq
        refine wl_un (fun v => Op.unary .not v) (.tmp 35) (.bool true) (.bool false) (fun _ => rfl) rfl (by kernel_rfl) rfl ?_
        refine wl_pick (.tmp 27) (.tmp 36) (.const (.bool false)) true (.bool false) (fun _ => rfl) rfl rfl rfl ?_
        refine wl_mv (.tmp 37) (.bool false) (fun _ => rfl) rfl rfl ?_
        refine w_nil ?_
        refine xn_then ?_
        refine w_condF rfl ?_
        refine w_seq ?_
        refine w_reg ?_
        refine wl_mv (.tmp 3) (.map (some sb)) (fun _ => rfl) e40_3 rfl ?_
        refine wl_mv (.tmp 10) (.string a) (fun _ => rfl) rfl rfl ?_
        cases hf32 : (lk (shA p S its i) a).isSome with
        | true =>
          refine wl_call 65 [(.tmp 39), (.tmp 40)] _ [.map (some sb), .string a] (.bool true) rfl rfl (fun _ _ => by kernel_rfl) (cB hf32 (has_n (hS1.mo M) a hza)) rfl ?_
          intro w42 hq
          replace M := M.trans hq
          clear hq
          refine wl_mv (.tmp 41) (.bool true) (fun _ => rfl) rfl rfl ?_
          refine w_nil ?_
          refine xn_then ?_
          refine w_condT rfl ?_
          refine w_seq ?_
          refine w_reg ?_
          refine wl_mv (.const (.int .i64 (5))) (.int .i64 (5)) (fun _ => rfl) rfl rfl ?_
          refine w_nil ?_
          refine xn_then ?_
          refine w_ret ?_
          refine xr_blk ?_
          refine xr_then ?_
          refine xr_blk ?_
          refine xr_then ?_
          refine xr_then ?_
          refine xr_blk ?_
          refine xr_then ?_
          have hsh : shR A p S its = 5 := by unfold shR; rw [fs_hit hG (x := 5) ((shG_of ha).trans (by rw [show shE A (shA p S its i) a = 5 from (by  unfold shE; rw [hf30, hf31, hf32]; first | done | rfl)]; rfl)) hil]; rfl
          exact w_ret1 _ (.int .i64 (5)) rfl rfl ⟨by rw [hsh], MK.trans M, fun h => by rw [hsh] at h; cases h⟩
        | false =>
          refine wl_call 65 [(.tmp 39), (.tmp 40)] _ [.map (some sb), .string a] (.bool false) rfl rfl (fun _ _ => by kernel_rfl) (cB hf32 (has_n (hS1.mo M) a hza)) rfl ?_
          intro w42 hq
          replace M := M.trans hq
          clear hq
          refine wl_mv (.tmp 41) (.bool false) (fun _ => rfl) rfl rfl ?_
          refine w_nil ?_
          refine xn_then ?_
          refine w_condF rfl ?_
          refine w_skip ?_
          refine xn_blk ?_
          refine xn_then ?_
          refine w_reg ?_
          refine wl_mv (.tmp 3) (.map (some sb)) (fun _ => rfl) e40_3 rfl ?_
          refine wl_mv (.tmp 10) (.string a) (fun _ => rfl) rfl rfl ?_
          refine wl_mv (.tmp 1) (.int .i64 (p)) (fun _ => rfl) e40_1 rfl ?_
          refine wl_mup (.tmp 42) (.tmp 43) (.tmp 44) sb a (p) (hS1.mo M) (by have := shA_len p S its i; omega) hza (isn hf32) rfl rfl rfl rfl rfl rfl ?_
          intro w43 hO9 hK9
          have hC9 := (hC1.mo M).other (hS1.mo M) hsb hK9
          replace MK := (MK.trans M).same hK9
          clear M
          have M : Mo w43 w43 := Mo.refl _
          refine w_nil ?_
          refine xn_blk ?_
          refine xn_then ?_
          refine w_reg ?_
          refine wl_bin (fun x y => do eqGuard .add 3 (.tmp 13) (.const (.int .i64 (1))) x y; binOp .add 3 x y) (.tmp 13) (.const (.int .i64 (1))) (.int .i64 ((i : Nat) : Int)) (.int .i64 (1)) (.int .i64 ((i + 1 : Nat) : Int)) (fun _ => rfl) e40_i rfl (add1r (k := i) (by omega) _ _ _) rfl ?_
          refine wl_mv (.tmp 45) (.int .i64 ((i + 1 : Nat) : Int)) (fun _ => rfl) rfl rfl ?_
          refine w_nil ?_
          exact xn_loop (its.length - (i + 1)) (by omega) ⟨i + 1, rfl, by omega, e40_0, e40_1, e40_3, e40_11, e40_12, rfl, hC9.mo M, by rw [shA_s ha]; exact hO9.mo M, fs_step hG ((shG_of ha).trans (by rw [show shE A (shA p S its i) a = 0 from (by  unfold shE; rw [hf30, hf31, hf32]; first | done | rfl)]; rfl)), MK.trans M⟩
      | false =>
        refine wl_call 65 [(.tmp 33), (.tmp 34)] _ [.map (some kb), .string a] (.bool false) rfl rfl (fun _ _ => by kernel_rfl) (cB hf31 (has_n (hKo.mo M) a hza)) rfl ?_
        intro w41 hq
        replace M := M.trans hq
        clear hq
        refine wl_un (fun v => Op.unary .not v) (.tmp 35) (.bool false) (.bool true) (fun _ => rfl) rfl (by kernel_rfl) rfl ?_
        refine wl_pick (.tmp 27) (.tmp 36) (.const (.bool false)) true (.bool true) (fun _ => rfl) rfl rfl rfl ?_
        refine wl_mv (.tmp 37) (.bool true) (fun _ => rfl) rfl rfl ?_
        refine w_nil ?_
        refine xn_then ?_
        refine w_condT rfl ?_
        refine w_seq ?_
        refine w_reg ?_
        refine wl_mv (.const (.int .i64 (91))) (.int .i64 (91)) (fun _ => rfl) rfl rfl ?_
        refine w_nil ?_
        refine xn_then ?_
        refine w_ret ?_
        refine xr_blk ?_
        refine xr_then ?_
        refine xr_blk ?_
        refine xr_then ?_
        refine xr_then ?_
        refine xr_blk ?_
        refine xr_then ?_
        have hsh : shR A p S its = 91 := by unfold shR; rw [fs_hit hG (x := 91) ((shG_of ha).trans (by rw [show shE A (shA p S its i) a = 91 from (by  unfold shE; rw [hf30, hf31]; first | done | rfl)]; rfl)) hil]; rfl
        exact w_ret1 _ (.int .i64 (91)) rfl rfl ⟨by rw [hsh], MK.trans M, fun h => by rw [hsh] at h; cases h⟩
  · skip
    have hid : decide (i < its.length) = false := decide_eq_false hil
    have hie : i = its.length := by omega
    have M : Mo wl40 wl40 := Mo.refl _
    refine w_seq ?_
    refine w_reg ?_
    refine wl_bin (fun x y => do eqGuard .lss 3 (.tmp 13) (.tmp 12) x y; binOp .lss 3 x y) (.tmp 13) (.tmp 12) (.int .i64 ((i : Nat) : Int)) (.int .i64 ((its.length : Nat) : Int)) (.bool false) (fun _ => rfl) e40_i e40_12 (ltN hid _ _ _) rfl ?_
    refine w_nil ?_
    refine xn_then ?_
    refine w_seq ?_
    refine w_condF rfl ?_
    refine w_exit ?_
    refine xx_then ?_
    refine xx_then ?_
    refine xx_blk ?_
    refine xn_then ?_
    refine w_seq ?_
    refine w_reg ?_
    refine wl_mv (.const (.int .i64 (0))) (.int .i64 (0)) (fun _ => rfl) rfl rfl ?_
    refine w_nil ?_
    refine xn_then ?_
    refine w_ret ?_
    exact w_ret1 _ (.int .i64 (0)) rfl rfl ⟨by unfold shR; rw [fs_none (by rw [← hie]; exact hG)]; rfl, MK.trans M, fun _ => by rw [hie] at hS1; exact hS1.mo M⟩
theorem pgE_0 {L : List S5} {A : Al} {P : List (ByteArray × Int)} {x : Pg} (h : pgE L A P x = 0) : may x.nm = true ∧ lk P x.nm = none ∧ x.its.length ≤ 64 := by
  unfold pgE at h
  split at h
  · rename_i h1
    split at h
    · cases h
    · rename_i h2
      split at h
      · cases h
      · rename_i h3
        exact ⟨h1, isn (by simpa using h2), by simpa using h3⟩
  · cases h
theorem pages_n {w : World} {z : Zc} {A : Al} (hC : CK w z A) (h0 : 0 < z.L.length) (hl : z.d.pg.length ≤ 16) : Calls Try.prog 34 #[pt z.cb 0] w fun e w' => e = .returned (rv (pgR z.L A z.d.pg)) ∧ Mo w w' := by
  refine w_enter 45 Try.func34 Try.ntmps34 rfl rfl ?_
  have M : Mo w w := Mo.refl _
  refine w_seq ?_
  refine w_reg ?_
  refine wl_alloc 33 #[.int .i64 0, .int .i64 0, .int .i64 0, .int .i64 0, .int .i64 0] rfl (fun _ => by kernel_rfl) rfl ?_
  intro k1 w1 hk hz hq Q1
  have N_k1 : w.heap.size ≤ k1 := by have := M.size; omega
  replace M := M.trans hq
  clear hk hz hq
  refine wl_mv (.const (.int .i64 (0))) (.int .i64 (0)) (fun _ => rfl) rfl rfl ?_
  refine w_nil ?_
  refine xn_then ?_
  refine w_seq ?_
  refine w_reg ?_
  refine wl_mm 91 rfl rfl ?_
  intro mb1 w2 hk hz9 hq hO_mb1
  have ne_k1_mb1 : k1 ≠ mb1 := by have := Q1.lt; omega
  have N_mb1 : w.heap.size ≤ mb1 := by have := M.size; omega
  replace Q1 := Q1.mo hq
  replace M := M.trans hq
  clear hk hz9 hq
  refine wl_mm 91 rfl rfl ?_
  intro mb2 w3 hk hz9 hq hO_mb2
  have ne_k1_mb2 : k1 ≠ mb2 := by have := Q1.lt; omega
  have nm_mb1_mb2 : mb1 ≠ mb2 := by have := hO_mb1.lt; omega
  have N_mb2 : w.heap.size ≤ mb2 := by have := M.size; omega
  replace Q1 := Q1.mo hq
  replace hO_mb1 := hO_mb1.mo hq
  replace M := M.trans hq
  clear hk hz9 hq
  refine wl_mv (.tmp 9) (.map (some mb1)) (fun _ => rfl) rfl rfl ?_
  refine wl_mv (.tmp 10) (.map (some mb2)) (fun _ => rfl) rfl rfl ?_
  refine w_nil ?_
  refine xn_then ?_
  refine w_seq ?_
  refine w_seq ?_
  refine w_reg ?_
  refine wl_mv (.tmp 0) (pt z.cb 0) (fun _ => rfl) rfl rfl ?_
  refine wl_nc (.tmp 11) z.cb 0 rfl rfl rfl ?_
  refine wl_un (fun v => Instr.fieldAt 94 v 0) (.tmp 12) (pt z.cb 0) (pt z.cb 0) (fun _ => rfl) rfl (by kernel_rfl) rfl ?_
  refine wl_un (fun v => Instr.fieldAt 29 v 3) (.tmp 13) (pt z.cb 0) (pt z.cb 6) (fun _ => rfl) rfl (by kernel_rfl) rfl ?_
  refine wl_load 27 (.tmp 14) (pt z.cb 6) (.slice z.d.pp z.d.pg.length z.d.cp) rfl rfl (D.run_oneR (hC.rw.mo M).at' 27 6 rfl Try.underlying27 rfl) rfl ?_
  refine wl_val (.int .i64 ((z.d.pg.length : Nat) : Int)) (len27 _ _ _ _ _ (by exact rfl) _ _ _ _ _ _) rfl ?_
  refine wl_mv (.const (.int .i64 (0))) (.int .i64 (0)) (fun _ => rfl) rfl rfl ?_
  refine w_nil ?_
  refine xn_then ?_
  refine w_block ?_
  have hpb : ¬ z.D mb1 := fun h => by have := hC.dlt h; omega
  have hsb : ¬ z.D mb2 := fun h => by have := hC.dlt h; omega
  refine w_loop (fun m l w1 => ∃ i : Nat, m = z.d.pg.length - i ∧ i ≤ z.d.pg.length ∧ look l 0 = pt z.cb 0 ∧ look l 2 = pt k1 0 ∧ look l 4 = .map (some mb1) ∧ look l 5 = .map (some mb2) ∧ look l 15 = .slice z.d.pp z.d.pg.length z.d.cp ∧ look l 16 = .int .i64 ((z.d.pg.length : Nat) : Int) ∧ look l 17 = .int .i64 ((i : Nat) : Int) ∧ At w1 k1 [.int .i64 0, .int .i64 0, .int .i64 0, .int .i64 0, .int .i64 0] ∧ (CK w1 z A) ∧ (OM w1 mb1 (pgA z.d.pg i)) ∧ (OM w1 mb2 (pgS z.d.pg i)) ∧ ((pgS z.d.pg i).length ≤ 64 * i) ∧ (∀ j, j < i → pgG z.L A z.d.pg j = none) ∧ Mk (fun _ => False) w w1) _ ⟨0, rfl, Nat.zero_le _, rfl, rfl, rfl, rfl, rfl, rfl, rfl, Q1, hC.mo M, hO_mb1, hO_mb2, Nat.zero_le _, (fun j hj => by omega), Mk.of _ M⟩ ?_
  clear Q1 M
  rintro m l40 wl40 ⟨i, rfl, hi, e40_0, e40_2, e40_4, e40_5, e40_15, e40_16, e40_i, Q1, hC1, hP1, hS1, hSl, hG, MK⟩
  by_cases hil : i < z.d.pg.length
  · skip
    have hid : decide (i < z.d.pg.length) = true := decide_eq_true hil
    have M : Mo wl40 wl40 := Mo.refl _
    obtain ⟨x, hx⟩ := get_of_lt hil
    have hxm := List.mem_of_getElem? hx
    obtain ⟨b1, o1, hp1, hR1⟩ := D.SL.rw hC1.df.pg hx
    refine w_seq ?_
    refine w_reg ?_
    refine wl_bin (fun x y => do eqGuard .lss 3 (.tmp 17) (.tmp 16) x y; binOp .lss 3 x y) (.tmp 17) (.tmp 16) (.int .i64 ((i : Nat) : Int)) (.int .i64 ((z.d.pg.length : Nat) : Int)) (.bool true) (fun _ => rfl) e40_i e40_16 (ltN hid _ _ _) rfl ?_
    refine w_nil ?_
    refine xn_then ?_
    refine w_seq ?_
    refine w_condT rfl ?_
    refine w_skip ?_
    refine xn_then ?_
    refine w_seq ?_
    refine w_block ?_
    refine w_seq ?_
    refine w_reg ?_
    refine wl_mv (.tmp 17) (.int .i64 ((i : Nat) : Int)) (fun _ => rfl) e40_i rfl ?_
    refine wl_bin (fun x y => Instr.indexAt 27 x y) (.tmp 15) (.tmp 17) (.slice z.d.pp z.d.pg.length z.d.cp) (.int .i64 ((i : Nat) : Int)) (pt b1 (o1 + i * 19)) (fun _ => rfl) e40_15 e40_i (ix27 (i := i) hp1 hil _) rfl ?_
    refine wl_load 90 (.tmp 20) (pt b1 (o1 + i * 19)) (.agg (x.cells).toArray) rfl rfl (D.run_partR (hR1.mo M).at' 90 0 19 (x.cells) rfl Try.underlying90 rfl sz90) rfl ?_
    refine wl_alloc 90 #[.string ⟨#[]⟩, .int .i64 0, .int .i64 0, .string ⟨#[]⟩, .string ⟨#[]⟩, .int .i64 0, .bool false, .int .u64 0, .int .u64 0, .int .u64 0, .int .u64 0, .int .i64 0, .bool false, .string ⟨#[]⟩, .int .i64 0, .int .i64 0, .int .i64 0, .slice none 0 0, .slice none 0 0] rfl (fun _ => by kernel_rfl) rfl ?_
    intro k2 w41 hk hz hq Q2
    have ne_k1_k2 : k1 ≠ k2 := by have := Q1.lt; omega
    have N_k2 : wl40.heap.size ≤ k2 := by have := M.size; omega
    replace Q1 := Q1.mo hq
    replace M := M.trans hq
    clear hk hz hq
    refine wl_mv (.tmp 19) (.int .i64 ((i : Nat) : Int)) (fun _ => rfl) rfl rfl ?_
    refine wl_st 90 (.tmp 7) (.tmp 21) k2 0 ((x.cells).toArray) [.string ⟨#[]⟩, .int .i64 0, .int .i64 0, .string ⟨#[]⟩, .string ⟨#[]⟩, .int .i64 0, .bool false, .int .u64 0, .int .u64 0, .int .u64 0, .int .u64 0, .int .i64 0, .bool false, .string ⟨#[]⟩, .int .i64 0, .int .i64 0, .int .i64 0, .slice none 0 0, .slice none 0 0] (x.cells) Q2 rfl rfl rfl rfl rfl sz90 rfl rfl rfl ?_
    intro w42 hS Qn
    replace Q2 := Qn
    clear Qn
    replace Q1 := hS.other _ _ ne_k1_k2 Q1
    replace M := hS.mo _ N_k2 M
    clear hS
    refine w_nil ?_
    refine xn_then ?_
    refine w_seq ?_
    refine w_reg ?_
    refine wl_mv (.tmp 0) (pt z.cb 0) (fun _ => rfl) e40_0 rfl ?_
    refine wl_load 90 (.tmp 7) (pt k2 0) (.agg (x.cells).toArray) rfl rfl (run_row Q2 90 0 19 (x.cells) rfl Try.underlying90 rfl sz90) rfl ?_
    refine wl_mv (.tmp 4) (.map (some mb1)) (fun _ => rfl) e40_4 rfl ?_
    refine wl_call 54 [(.tmp 22), (.tmp 23), (.tmp 24)] _ [pt z.cb 0, .agg (x.cells).toArray, .map (some mb1)] (.int .i64 (pgE z.L A (pgA z.d.pg i) x)) rfl rfl (fun _ _ => by kernel_rfl) (page_n (hC1.mo M) h0 (hP1.mo M) x ((hC1.df.wh x hxm).kp M.kp)) rfl ?_
    intro w43 hq
    replace Q1 := Q1.mo hq
    replace Q2 := Q2.mo hq
    replace M := M.trans hq
    clear hq
    refine wl_mv (.tmp 25) (.int .i64 (pgE z.L A (pgA z.d.pg i) x)) (fun _ => rfl) rfl rfl ?_
    refine w_nil ?_
    refine xn_then ?_
    refine w_seq ?_
    refine w_seq ?_
    refine w_reg ?_
    refine wl_mv (.tmp 8) (.int .i64 (pgE z.L A (pgA z.d.pg i) x)) (fun _ => rfl) rfl rfl ?_
    cases hf30 : decide (pgE z.L A (pgA z.d.pg i) x = 0) with
    | true =>
      have hf30p := of_decide_eq_true hf30
      refine wl_bin (fun x y => do eqGuard .eql 34 (.tmp 26) (.const (.int .i64 (0))) x y; binOp .eql 34 x y) (.tmp 26) (.const (.int .i64 (0))) (.int .i64 (pgE z.L A (pgA z.d.pg i) x)) (.int .i64 (0)) (.bool true) (fun _ => rfl) rfl rfl (eq34 hf30 _ _ _) rfl ?_
      refine w_nil ?_
      refine xn_then ?_
      refine w_condT rfl ?_
      refine w_reg ?_
      refine wl_mv (.tmp 0) (pt z.cb 0) (fun _ => rfl) e40_0 rfl ?_
      refine wl_mv (.tmp 6) (.int .i64 ((i : Nat) : Int)) (fun _ => rfl) rfl rfl ?_
      refine wl_un (fun v => Instr.fieldAt 90 v 2) (.tmp 7) (pt k2 0) (pt k2 18) (fun _ => rfl) rfl (by kernel_rfl) rfl ?_
      refine wl_load 45 (.tmp 30) (pt k2 18) (.slice x.pa x.its.length x.cap) rfl rfl (run_one Q2 45 18 rfl Try.underlying45 rfl) rfl ?_
      refine wl_mv (.tmp 5) (.map (some mb2)) (fun _ => rfl) e40_5 rfl ?_
      refine wl_callx 55 [(.tmp 28), (.tmp 29), (.tmp 31), (.tmp 32)] _ [pt z.cb 0, .int .i64 ((i : Nat) : Int), .slice x.pa x.its.length x.cap, .map (some mb2)] rfl rfl (fun _ _ => by kernel_rfl) (show_n (hC1.mo M) h0 (hS1.mo M) hsb _ ((hC1.df.it x hxm).kp M.kp) (hC1.df.iz x hxm) (by have := (pgE_0 hf30p).2.2; omega)) rfl ?_
      rintro e9 w44 ⟨rfl, hK9, hO9⟩
      refine ⟨_, rfl, ?_⟩
      have hC9 := (hC1.mo M).other (hS1.mo M) hsb hK9
      have hP9 := (hP1.mo M).mk hK9 nm_mb1_mb2
      replace MK := (MK.trans M).tr hK9 (fun j hj e => by omega)
      replace Q1 := Q1.kp (hK9.kp (fun j hj => fun o => by rw [hj]; exact (hS1.mo M).nocell o)) hK9.fz
      replace Q2 := Q2.kp (hK9.kp (fun j hj => fun o => by rw [hj]; exact (hS1.mo M).nocell o)) hK9.fz
      clear M
      have M : Mo w44 w44 := Mo.refl _
      refine wl_mv (.tmp 33) (.int .i64 (shR A ((i : Nat) : Int) (pgS z.d.pg i) x.its)) (fun _ => rfl) rfl rfl ?_
      refine w_nil ?_
      refine xn_then ?_
      refine w_seq ?_
      refine w_seq ?_
      refine w_reg ?_
      refine wl_mv (.tmp 8) (.int .i64 (shR A ((i : Nat) : Int) (pgS z.d.pg i) x.its)) (fun _ => rfl) rfl rfl ?_
      cases hf31 : decide (shR A ((i : Nat) : Int) (pgS z.d.pg i) x.its = 0) with
      | true =>
        have hf31p := of_decide_eq_true hf31
        refine wl_bin (fun x y => do eqGuard .neq 34 (.tmp 34) (.const (.int .i64 (0))) x y; binOp .neq 34 x y) (.tmp 34) (.const (.int .i64 (0))) (.int .i64 (shR A ((i : Nat) : Int) (pgS z.d.pg i) x.its)) (.int .i64 (0)) (.bool false) (fun _ => rfl) rfl rfl (ne34 hf31 _ _ _) rfl ?_
        refine w_nil ?_
        refine xn_then ?_
        refine w_condF rfl ?_
        refine w_skip ?_
        refine xn_then ?_
        refine w_reg ?_
        refine wl_mv (.tmp 4) (.map (some mb1)) (fun _ => rfl) e40_4 rfl ?_
        refine wl_un (fun v => Instr.fieldAt 90 v 0) (.tmp 7) (pt k2 0) (pt k2 0) (fun _ => rfl) rfl (by kernel_rfl) rfl ?_
        refine wl_load 9 (.tmp 40) (pt k2 0) (.string x.nm) rfl rfl (run_one Q2 9 0 rfl Try.underlying9 rfl) rfl ?_
        refine wl_mv (.tmp 6) (.int .i64 ((i : Nat) : Int)) (fun _ => rfl) rfl rfl ?_
        obtain ⟨hmy, hln, hit64⟩ := pgE_0 hf30p
        refine wl_mup (.tmp 39) (.tmp 41) (.tmp 42) mb1 x.nm (((i : Nat) : Int)) (hP9.mo M) (by have := pgA_len z.d.pg i; omega) (Nat.le_trans (may_sz hmy) (by decide)) hln rfl rfl rfl rfl rfl rfl ?_
        intro w45 hOp hKp
        have hCp := (hC9.mo M).other (hP9.mo M) hpb hKp
        have hSp := ((hO9 hf31p).mo M).mk hKp nm_mb1_mb2.symm
        replace Q1 := Q1.kp (hKp.kp (fun j hj o => by rw [hj]; exact (hP9.mo M).nocell o)) hKp.fz
        replace Q2 := Q2.kp (hKp.kp (fun j hj o => by rw [hj]; exact (hP9.mo M).nocell o)) hKp.fz
        replace MK := (MK.trans M).tr hKp (fun j hj e => by omega)
        clear M
        have M : Mo w45 w45 := Mo.refl _
        refine w_nil ?_
        refine xn_blk ?_
        refine xn_then ?_
        refine w_reg ?_
        refine wl_bin (fun x y => do eqGuard .add 3 (.tmp 17) (.const (.int .i64 (1))) x y; binOp .add 3 x y) (.tmp 17) (.const (.int .i64 (1))) (.int .i64 ((i : Nat) : Int)) (.int .i64 (1)) (.int .i64 ((i + 1 : Nat) : Int)) (fun _ => rfl) e40_i rfl (add1r (k := i) (by omega) _ _ _) rfl ?_
        refine wl_mv (.tmp 43) (.int .i64 ((i + 1 : Nat) : Int)) (fun _ => rfl) rfl rfl ?_
        refine w_nil ?_
        exact xn_loop (z.d.pg.length - (i + 1)) (by omega) ⟨i + 1, rfl, by omega, e40_0, e40_2, e40_4, e40_5, e40_15, e40_16, rfl, Q1, hCp.mo M, by rw [pgA_s hx]; exact hOp.mo M, by rw [pgS_s hx]; exact hSp.mo M, by rw [pgS_s hx]; have := shA_len ((i : Nat) : Int) (pgS z.d.pg i) x.its x.its.length; omega, fs_step hG ((pgG_of hx).trans (er_0 (by unfold pgF; rw [if_pos hf30p]; exact hf31p))), MK.trans M⟩
      | false =>
        have hf31p := of_decide_eq_false hf31
        refine wl_bin (fun x y => do eqGuard .neq 34 (.tmp 34) (.const (.int .i64 (0))) x y; binOp .neq 34 x y) (.tmp 34) (.const (.int .i64 (0))) (.int .i64 (shR A ((i : Nat) : Int) (pgS z.d.pg i) x.its)) (.int .i64 (0)) (.bool true) (fun _ => rfl) rfl rfl (ne34 hf31 _ _ _) rfl ?_
        refine w_nil ?_
        refine xn_then ?_
        refine w_condT rfl ?_
        refine w_seq ?_
        refine w_reg ?_
        refine wl_mv (.tmp 6) (.int .i64 ((i : Nat) : Int)) (fun _ => rfl) rfl rfl ?_
        refine wl_build 33 [(0, (.const (.int .i64 (4)))), (4, (.tmp 36))] [(0, .int .i64 (4)), (4, .int .i64 ((i : Nat) : Int))] (.agg #[.int .i64 (4), .int .i64 0, .int .i64 0, .int .i64 0, .int .i64 ((i : Nat) : Int)]) rfl rfl (by kernel_rfl) rfl ?_
        refine wl_mv (.tmp 8) (.int .i64 (shR A ((i : Nat) : Int) (pgS z.d.pg i) x.its)) (fun _ => rfl) rfl rfl ?_
        refine wl_stm 33 (.tmp 2) (.tmp 37) k1 0 #[.int .i64 (4), .int .i64 0, .int .i64 0, .int .i64 0, .int .i64 ((i : Nat) : Int)] [.int .i64 0, .int .i64 0, .int .i64 0, .int .i64 0, .int .i64 0] [.int .i64 (4), .int .i64 0, .int .i64 0, .int .i64 0, .int .i64 ((i : Nat) : Int)] Q1 rfl rfl e40_2 rfl rfl sz33 rfl rfl rfl ?_
        intro w45 hS hm9 Qn
        replace Q1 := Qn
        clear Qn
        replace Q2 := hS.other _ _ ne_k1_k2.symm Q2
        have hmT := (Mk.of (fun j => j = k1) M).same hm9
        replace MK := (MK.trans M).tr hm9 (fun j hj e => by omega)
        clear M hS hm9
        have M : Mo w45 w45 := Mo.refl _
        refine wl_mv (.tmp 38) (.int .i64 (shR A ((i : Nat) : Int) (pgS z.d.pg i) x.its)) (fun _ => rfl) rfl rfl ?_
        refine w_nil ?_
        refine xn_then ?_
        refine w_ret ?_
        refine xr_then ?_
        refine xr_blk ?_
        refine xr_then ?_
        refine xr_then ?_
        refine xr_blk ?_
        refine xr_then ?_
        exact w_ret2 _ _ (.agg #[.int .i64 (4), .int .i64 0, .int .i64 0, .int .i64 0, .int .i64 ((i : Nat) : Int)]) (.int .i64 (shR A ((i : Nat) : Int) (pgS z.d.pg i) x.its)) rfl ⟨k1, e40_2, (run_row Q1 33 0 5 [.int .i64 (4), .int .i64 0, .int .i64 0, .int .i64 0, .int .i64 ((i : Nat) : Int)] rfl Try.underlying33 rfl sz33)⟩ rfl ⟨by unfold pgR; rw [fs_hit hG ((pgG_of hx).trans (by rw [(show pgF z.L A z.d.pg i x = shR A ((i : Nat) : Int) (pgS z.d.pg i) x.its from if_pos hf30p)]; exact er_1 hf31p)) hil]; rfl, (MK.trans M).mo (Mo.refl _) (fun _ h => h.elim)⟩
    | false =>
      have hf30p := of_decide_eq_false hf30
      refine wl_bin (fun x y => do eqGuard .eql 34 (.tmp 26) (.const (.int .i64 (0))) x y; binOp .eql 34 x y) (.tmp 26) (.const (.int .i64 (0))) (.int .i64 (pgE z.L A (pgA z.d.pg i) x)) (.int .i64 (0)) (.bool false) (fun _ => rfl) rfl rfl (eq34 hf30 _ _ _) rfl ?_
      refine w_nil ?_
      refine xn_then ?_
      refine w_condF rfl ?_
      refine w_skip ?_
      refine xn_then ?_
      refine w_seq ?_
      refine w_seq ?_
      refine w_reg ?_
      refine wl_mv (.tmp 8) (.int .i64 (pgE z.L A (pgA z.d.pg i) x)) (fun _ => rfl) rfl rfl ?_
      refine wl_bin (fun x y => do eqGuard .neq 34 (.tmp 34) (.const (.int .i64 (0))) x y; binOp .neq 34 x y) (.tmp 34) (.const (.int .i64 (0))) (.int .i64 (pgE z.L A (pgA z.d.pg i) x)) (.int .i64 (0)) (.bool true) (fun _ => rfl) rfl rfl (ne34 hf30 _ _ _) rfl ?_
      refine w_nil ?_
      refine xn_then ?_
      refine w_condT rfl ?_
      refine w_seq ?_
      refine w_reg ?_
      refine wl_mv (.tmp 6) (.int .i64 ((i : Nat) : Int)) (fun _ => rfl) rfl rfl ?_
      refine wl_build 33 [(0, (.const (.int .i64 (4)))), (4, (.tmp 36))] [(0, .int .i64 (4)), (4, .int .i64 ((i : Nat) : Int))] (.agg #[.int .i64 (4), .int .i64 0, .int .i64 0, .int .i64 0, .int .i64 ((i : Nat) : Int)]) rfl rfl (by kernel_rfl) rfl ?_
      refine wl_mv (.tmp 8) (.int .i64 (pgE z.L A (pgA z.d.pg i) x)) (fun _ => rfl) rfl rfl ?_
      refine wl_stm 33 (.tmp 2) (.tmp 37) k1 0 #[.int .i64 (4), .int .i64 0, .int .i64 0, .int .i64 0, .int .i64 ((i : Nat) : Int)] [.int .i64 0, .int .i64 0, .int .i64 0, .int .i64 0, .int .i64 0] [.int .i64 (4), .int .i64 0, .int .i64 0, .int .i64 0, .int .i64 ((i : Nat) : Int)] Q1 rfl rfl e40_2 rfl rfl sz33 rfl rfl rfl ?_
      intro w44 hS hm9 Qn
      replace Q1 := Qn
      clear Qn
      replace Q2 := hS.other _ _ ne_k1_k2.symm Q2
      have hmT := (Mk.of (fun j => j = k1) M).same hm9
      replace MK := (MK.trans M).tr hm9 (fun j hj e => by omega)
      clear M hS hm9
      have M : Mo w44 w44 := Mo.refl _
      refine wl_mv (.tmp 38) (.int .i64 (pgE z.L A (pgA z.d.pg i) x)) (fun _ => rfl) rfl rfl ?_
      refine w_nil ?_
      refine xn_then ?_
      refine w_ret ?_
      refine xr_then ?_
      refine xr_blk ?_
      refine xr_then ?_
      refine xr_then ?_
      refine xr_blk ?_
      refine xr_then ?_
      exact w_ret2 _ _ (.agg #[.int .i64 (4), .int .i64 0, .int .i64 0, .int .i64 0, .int .i64 ((i : Nat) : Int)]) (.int .i64 (pgE z.L A (pgA z.d.pg i) x)) rfl ⟨k1, e40_2, (run_row Q1 33 0 5 [.int .i64 (4), .int .i64 0, .int .i64 0, .int .i64 0, .int .i64 ((i : Nat) : Int)] rfl Try.underlying33 rfl sz33)⟩ rfl ⟨by unfold pgR; rw [fs_hit hG ((pgG_of hx).trans (by rw [(show pgF z.L A z.d.pg i x = pgE z.L A (pgA z.d.pg i) x from if_neg hf30p)]; exact er_1 hf30p)) hil]; rfl, (MK.trans M).mo (Mo.refl _) (fun _ h => h.elim)⟩
  · skip
    have hid : decide (i < z.d.pg.length) = false := decide_eq_false hil
    have hie : i = z.d.pg.length := by omega
    have M : Mo wl40 wl40 := Mo.refl _
    refine w_seq ?_
    refine w_reg ?_
    refine wl_bin (fun x y => do eqGuard .lss 3 (.tmp 17) (.tmp 16) x y; binOp .lss 3 x y) (.tmp 17) (.tmp 16) (.int .i64 ((i : Nat) : Int)) (.int .i64 ((z.d.pg.length : Nat) : Int)) (.bool false) (fun _ => rfl) e40_i e40_16 (ltN hid _ _ _) rfl ?_
    refine w_nil ?_
    refine xn_then ?_
    refine w_seq ?_
    refine w_condF rfl ?_
    refine w_exit ?_
    refine xx_then ?_
    refine xx_then ?_
    refine xx_blk ?_
    refine xn_then ?_
    refine w_seq ?_
    refine w_reg ?_
    refine wl_build 33 [] [] (.agg #[.int .i64 0, .int .i64 0, .int .i64 0, .int .i64 0, .int .i64 0]) rfl rfl (by kernel_rfl) rfl ?_
    refine wl_stm 33 (.tmp 2) (.tmp 44) k1 0 #[.int .i64 0, .int .i64 0, .int .i64 0, .int .i64 0, .int .i64 0] [.int .i64 0, .int .i64 0, .int .i64 0, .int .i64 0, .int .i64 0] [.int .i64 0, .int .i64 0, .int .i64 0, .int .i64 0, .int .i64 0] Q1 rfl rfl e40_2 rfl rfl sz33 rfl rfl rfl ?_
    intro w41 hS hm9 Qn
    replace Q1 := Qn
    clear Qn
    have hmT := (Mk.of (fun j => j = k1) M).same hm9
    replace MK := (MK.trans M).tr hm9 (fun j hj e => by omega)
    clear M hS hm9
    have M : Mo w41 w41 := Mo.refl _
    refine wl_mv (.const (.int .i64 (0))) (.int .i64 (0)) (fun _ => rfl) rfl rfl ?_
    refine w_nil ?_
    refine xn_then ?_
    refine w_ret ?_
    exact w_ret2 _ _ (.agg #[.int .i64 0, .int .i64 0, .int .i64 0, .int .i64 0, .int .i64 0]) (.int .i64 (0)) rfl ⟨k1, e40_2, (run_row Q1 33 0 5 [.int .i64 0, .int .i64 0, .int .i64 0, .int .i64 0, .int .i64 0] rfl Try.underlying33 rfl sz33)⟩ rfl ⟨by unfold pgR; rw [fs_none (by rw [← hie]; exact hG)]; rfl, (MK.trans M).mo (Mo.refl _) (fun _ h => h.elim)⟩
end Go.Proofs.Ytbanldffohopiaa
