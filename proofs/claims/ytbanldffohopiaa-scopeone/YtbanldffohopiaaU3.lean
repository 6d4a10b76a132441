/-
  ScopeOne.
-/
import Derived.Test.YtbanldffohopiaaU1
import Derived.Test.YtbanldffohopiaaU2
namespace Go.Proofs.Ytbanldffohopiaa
open Go.RowKit D
theorem sone_n (d : Df) {w : World} (hD : LDf w d) (hAS : ASe d.rt) : Calls Try.prog 6 #[.agg (d.cells).toArray] w fun e w' => e = .returned (.bool true) ∧ Mo w w' := by
  refine w_enter 61 Try.func6 Try.ntmps6 rfl rfl ?_
  have M : Mo w w := Mo.refl _
  refine w_seq ?_
  refine w_reg ?_
  refine wl_box 29 (.tmp 0) (.agg (d.cells).toArray) (((d.cells).toArray)) rfl rfl (fun _ => by kernel_rfl) rfl ?_
  intro k1 u1 hk hz hq Q1
  have N_k1 : w.heap.size ≤ k1 := by have := M.size; omega
  replace M := M.trans hq
  clear hk hz hq
  refine wl_mv (.const (.bool false)) (.bool false) (fun _ => rfl) rfl rfl ?_
  refine w_nil ?_
  refine xn_then ?_
  refine w_seq ?_
  refine w_seq ?_
  refine w_reg ?_
  refine wl_load 29 (.tmp 1) (pt k1 0) (.agg (d.cells).toArray) rfl rfl (run_row Q1 29 0 7 (d.cells) rfl Try.underlying29 rfl sz29) rfl ?_
  refine wl_callx 8 [(.tmp 11)] _ [.agg (d.cells).toArray] rfl rfl (fun _ _ => by kernel_rfl) (fits_n d (hD.kp M.kp)) rfl ?_
  rintro e9 u2 ⟨b9, rfl, hq⟩
  refine ⟨_, rfl, ?_⟩
  replace Q1 := Q1.mo hq
  replace M := M.trans hq
  clear hq
  cases b9 with
  | true =>
    refine wl_un (fun v => Op.unary .not v) (.tmp 12) (.bool true) (.bool false) (fun _ => rfl) rfl (by kernel_rfl) rfl ?_
    refine wl_mv (.tmp 13) (.bool false) (fun _ => rfl) rfl rfl ?_
    refine wl_call 9 [] _ [] (.bool true) rfl rfl (fun _ _ => by kernel_rfl) (live_n _) rfl ?_
    intro u3 hq
    replace Q1 := Q1.mo hq
    replace M := M.trans hq
    clear hq
    refine wl_un (fun v => Op.unary .not v) (.tmp 15) (.bool true) (.bool false) (fun _ => rfl) rfl (by kernel_rfl) rfl ?_
    refine wl_pick (.tmp 14) (.const (.bool true)) (.tmp 16) false (.bool false) (fun _ => rfl) rfl rfl rfl ?_
    refine w_nil ?_
    refine xn_then ?_
    refine w_condF rfl ?_
    refine w_skip ?_
    refine xn_then ?_
    refine w_seq ?_
    refine w_seq ?_
    refine w_reg ?_
    refine wl_load 29 (.tmp 1) (pt k1 0) (.agg (d.cells).toArray) rfl rfl (run_row Q1 29 0 7 (d.cells) rfl Try.underlying29 rfl sz29) rfl ?_
    cases hf0 : (chk d).isNone with
    | true =>
      have hck := isnn hf0
      refine wl_call 10 [(.tmp 20)] _ [.agg (d.cells).toArray] (.tuple #[.agg #[.int .i64 0, .int .i64 0, .int .i64 0, .int .i64 0, .int .i64 0], .int .i64 (0)]) rfl rfl (fun _ _ => by kernel_rfl) (by have h := check_n d (hD.kp M.kp); rw [hck] at h; exact h) rfl ?_
      intro u4 hq
      replace Q1 := Q1.mo hq
      replace M := M.trans hq
      clear hq
      refine wl_mv (.tmp 21) (.tuple #[.agg #[.int .i64 0, .int .i64 0, .int .i64 0, .int .i64 0, .int .i64 0], .int .i64 (0)]) (fun _ => rfl) rfl rfl ?_
      refine wl_un (fun v => Instr.extract v 0) (.tmp 19) (.tuple #[.agg #[.int .i64 0, .int .i64 0, .int .i64 0, .int .i64 0, .int .i64 0], .int .i64 (0)]) (.agg #[.int .i64 0, .int .i64 0, .int .i64 0, .int .i64 0, .int .i64 0]) (fun _ => rfl) rfl (by kernel_rfl) rfl ?_
      refine wl_un (fun v => Instr.extract v 1) (.tmp 19) (.tuple #[.agg #[.int .i64 0, .int .i64 0, .int .i64 0, .int .i64 0, .int .i64 0], .int .i64 (0)]) (.int .i64 (0)) (fun _ => rfl) rfl (by kernel_rfl) rfl ?_
      refine wl_alloc 33 #[.int .i64 0, .int .i64 0, .int .i64 0, .int .i64 0, .int .i64 0] rfl (fun _ => by kernel_rfl) rfl ?_
      intro k2 u5 hk hz hq Q2
      have ne_k1_k2 : k1 ≠ k2 := by have := Q1.lt; omega
      have N_k2 : w.heap.size ≤ k2 := by have := M.size; omega
      replace Q1 := Q1.mo hq
      replace M := M.trans hq
      clear hk hz hq
      refine wl_st 33 (.tmp 3) (.tmp 22) k2 0 #[.int .i64 0, .int .i64 0, .int .i64 0, .int .i64 0, .int .i64 0] [.int .i64 0, .int .i64 0, .int .i64 0, .int .i64 0, .int .i64 0] [.int .i64 0, .int .i64 0, .int .i64 0, .int .i64 0, .int .i64 0] Q2 rfl rfl rfl rfl rfl sz33 rfl rfl rfl ?_
      intro u6 hS Qn
      replace Q2 := Qn
      clear Qn
      replace Q1 := hS.other _ _ ne_k1_k2 Q1
      replace M := hS.mo _ N_k2 M
      clear hS
      refine wl_mv (.tmp 23) (.int .i64 (0)) (fun _ => rfl) rfl rfl ?_
      refine w_nil ?_
      refine xn_then ?_
      refine w_seq ?_
      refine w_reg ?_
      refine wl_mv (.tmp 4) (.int .i64 (0)) (fun _ => rfl) rfl rfl ?_
      refine wl_bin (fun x y => do eqGuard .neq 34 (.tmp 24) (.const (.int .i64 (0))) x y; binOp .neq 34 x y) (.tmp 24) (.const (.int .i64 (0))) (.int .i64 (0)) (.int .i64 (0)) (.bool false) (fun _ => rfl) rfl rfl (ne34 (r := true) rfl _ _ _) rfl ?_
      refine w_nil ?_
      refine xn_then ?_
      refine w_condF rfl ?_
      refine w_skip ?_
      refine xn_then ?_
      refine w_seq ?_
      refine w_reg ?_
      refine wl_load 29 (.tmp 1) (pt k1 0) (.agg (d.cells).toArray) rfl rfl (run_row Q1 29 0 7 (d.cells) rfl Try.underlying29 rfl sz29) rfl ?_
      have hse := chk_se hck
      refine wl_callx 23 [(.tmp 26)] _ [.agg (d.cells).toArray] rfl rfl (fun _ _ => by kernel_rfl) (pflat_n d (hD.kp M.kp) (fun x hx => ⟨by obtain ⟨n, hn⟩ := List.getElem?_of_mem hx; have := ap4 hse hn; omega, fla_as hAS x hx⟩)) rfl ?_
      rintro e9 u7 ⟨pa, cap, R, rfl, hRk, hSR, hSI, hq⟩
      refine ⟨_, rfl, ?_⟩
      replace Q1 := Q1.mo hq
      replace Q2 := Q2.mo hq
      replace M := M.trans hq
      clear hq
      obtain ⟨L, hL⟩ : ∃ L, L = fla d := ⟨_, rfl⟩
      rw [← hL] at hRk hse
      have hw : Wf L := by rw [hL]; exact fla_wf d
      have hz : L.length ≤ 64 := by rw [hL]; exact fla_len d
      have hRl : R.length = L.length := by have := congrArg List.length hRk; simpa using this
      have MF := M
      clear M
      have M : Mo u7 u7 := Mo.refl _
      refine wl_mv (.tmp 27) (.slice pa R.length cap) (fun _ => rfl) rfl rfl ?_
      refine w_nil ?_
      refine xn_then ?_
      refine w_seq ?_
      refine w_seq ?_
      refine w_reg ?_
      refine wl_mv (.tmp 5) (.slice pa R.length cap) (fun _ => rfl) rfl rfl ?_
      refine wl_val (.int .i64 ((R.length : Nat) : Int)) (len37 _ _ _ _ _ (by exact rfl) _ _ _ _ _ _) rfl ?_
      refine wl_mv (.const (.int .i64 (0))) (.int .i64 (0)) (fun _ => rfl) rfl rfl ?_
      refine w_nil ?_
      refine xn_then ?_
      refine w_block ?_
      refine w_loop (fun m l w1 => ∃ i : Nat, m = R.length - i ∧ i ≤ R.length ∧ look l 5 = .slice pa R.length cap ∧ look l 29 = .int .i64 ((R.length : Nat) : Int) ∧ look l 30 = .int .i64 ((i : Nat) : Int) ∧ Mo u7 w1) _ ⟨0, rfl, Nat.zero_le _, rfl, rfl, rfl, M⟩ ?_
      clear M
      rintro m l40 wl40 ⟨i, rfl, hi, e40_5, e40_29, e40_i, M⟩
      by_cases hil : i < R.length
      · skip
        have hid : decide (i < R.length) = true := decide_eq_true hil
        have hiL : i < L.length := by omega
        obtain ⟨xi, hxi⟩ := get_of_lt hiL
        refine w_seq ?_
        refine w_reg ?_
        refine wl_bin (fun x y => do eqGuard .lss 3 (.tmp 30) (.tmp 29) x y; binOp .lss 3 x y) (.tmp 30) (.tmp 29) (.int .i64 ((i : Nat) : Int)) (.int .i64 ((R.length : Nat) : Int)) (.bool true) (fun _ => rfl) e40_i e40_29 (ltN hid _ _ _) rfl ?_
        refine w_nil ?_
        refine xn_then ?_
        refine w_seq ?_
        refine w_condT rfl ?_
        refine w_skip ?_
        refine xn_then ?_
        refine w_seq ?_
        refine w_block ?_
        refine w_seq ?_
        refine w_reg ?_
        refine wl_mv (.tmp 30) (.int .i64 ((i : Nat) : Int)) (fun _ => rfl) e40_i rfl ?_
        refine wl_mv (.tmp 32) (.int .i64 ((i : Nat) : Int)) (fun _ => rfl) rfl rfl ?_
        refine w_nil ?_
        refine xn_then ?_
        refine w_seq ?_
        refine w_reg ?_
        refine wl_mmb 50 rfl rfl ?_
        intro mb u41 hk hz9 hq hO
        have N_mb : u7.heap.size ≤ mb := by have := M.size; omega
        replace M := M.trans hq
        clear hk hz9 hq
        refine wl_mv (.tmp 33) (.map (some mb)) (fun _ => rfl) rfl rfl ?_
        refine w_nil ?_
        refine xn_then ?_
        refine w_seq ?_
        refine w_reg ?_
        refine wl_mv (.tmp 6) (.int .i64 ((i : Nat) : Int)) (fun _ => rfl) rfl rfl ?_
        refine wl_mv (.tmp 34) (.int .i64 ((i : Nat) : Int)) (fun _ => rfl) rfl rfl ?_
        refine w_nil ?_
        refine xn_then ?_
        refine w_block ?_
        refine w_loop (fun m l w1 => ∃ (a : Int) (A P : List Nat) (S : List ByteArray), m = A.length ∧ look l 5 = .slice pa R.length cap ∧ look l 7 = .map (some mb) ∧ look l 8 = .int .i64 (a) ∧ look l 29 = .int .i64 ((R.length : Nat) : Int) ∧ look l 30 = .int .i64 ((i : Nat) : Int) ∧ Up L a A ∧ anc L i = P ++ A ∧ OB w1 mb S ∧ (∀ q ∈ S, ∃ b ∈ P, q ∈ nmsO L b) ∧ S.length ≤ 64 * P.length ∧ Mo u7 w1) _ ⟨((i : Nat) : Int), anc L i, [], [], rfl, e40_5, rfl, rfl, e40_29, e40_i, Up.start hiL, rfl, hO, (fun q h => by cases h), Nat.zero_le _, M⟩ ?_
        clear M hO
        rintro m l50 wl50 ⟨a, A, P, S, rfl, e5, e7, e8, e29, e30, hU, hP, hO, hS, hSl, M⟩
        rcases hU with ⟨ha, rfl⟩ | ⟨k, rfl, hk, rfl⟩
        · skip
          have h0 : decide (0 ≤ a) = false := decide_eq_false (by omega)
          refine w_seq ?_
          refine w_seq ?_
          refine w_reg ?_
          refine wl_mv (.tmp 8) (.int .i64 (a)) (fun _ => rfl) e8 rfl ?_
          refine wl_bin (fun x y => do eqGuard .geq 3 (.tmp 35) (.const (.int .i64 (0))) x y; binOp .geq 3 x y) (.tmp 35) (.const (.int .i64 (0))) (.int .i64 (a)) (.int .i64 (0)) (.bool false) (fun _ => rfl) rfl rfl (ge3 h0 _ _ _) rfl ?_
          refine w_nil ?_
          refine xn_then ?_
          refine w_condF rfl ?_
          refine w_exit ?_
          refine xx_then ?_
          refine xx_then ?_
          refine xx_blk ?_
          refine xn_blk ?_
          refine xn_then ?_
          refine w_reg ?_
          refine wl_bin (fun x y => do eqGuard .add 3 (.tmp 30) (.const (.int .i64 (1))) x y; binOp .add 3 x y) (.tmp 30) (.const (.int .i64 (1))) (.int .i64 ((i : Nat) : Int)) (.int .i64 (1)) (.int .i64 ((i + 1 : Nat) : Int)) (fun _ => rfl) e30 rfl (add1r (k := i) (by omega) _ _ _) rfl ?_
          refine wl_mv (.tmp 60) (.int .i64 ((i + 1 : Nat) : Int)) (fun _ => rfl) rfl rfl ?_
          refine w_nil ?_
          exact xn_loop (R.length - (i + 1)) (by omega) ⟨i + 1, rfl, by omega, e5, e29, rfl, M⟩
        · skip
          have h0 : decide (0 ≤ ((k : Nat) : Int)) = true := decide_eq_true (by omega)
          have hkR : k < R.length := by omega
          obtain ⟨x, hx⟩ := get_of_lt hkR
          have hmx := List.mem_of_getElem? hx
          obtain ⟨xl, hxl, hpr, hnm⟩ := br hRk hx
          obtain ⟨A, hA, hU⟩ := anc_step hw hxl
          rw [← hpr] at hU
          rw [hA] at hP ⊢
          have hPl : P.length + (k :: A).length ≤ 64 := by rw [← List.length_append, ← hP]; have := anc_len L i; omega
          have hxn : x.items.length ≤ 64 := by have h8 := ap4 hse hxl; have h9 := congrArg List.length hnm; unfold nmsO at h9; rw [itO_of hxl] at h9; simp at h9; omega
          obtain ⟨bp, op, hpp, hRp⟩ := D.SL.rw hSR hx
          refine w_seq ?_
          refine w_seq ?_
          refine w_reg ?_
          refine wl_mv (.tmp 8) (.int .i64 ((k : Nat) : Int)) (fun _ => rfl) e8 rfl ?_
          refine wl_bin (fun x y => do eqGuard .geq 3 (.tmp 35) (.const (.int .i64 (0))) x y; binOp .geq 3 x y) (.tmp 35) (.const (.int .i64 (0))) (.int .i64 ((k : Nat) : Int)) (.int .i64 (0)) (.bool true) (fun _ => rfl) rfl rfl (ge3 h0 _ _ _) rfl ?_
          refine w_nil ?_
          refine xn_then ?_
          refine w_condT rfl ?_
          refine w_skip ?_
          refine xn_then ?_
          refine w_seq ?_
          refine w_block ?_
          refine w_seq ?_
          refine w_reg ?_
          refine wl_mv (.tmp 5) (.slice pa R.length cap) (fun _ => rfl) e5 rfl ?_
          refine wl_mv (.tmp 8) (.int .i64 ((k : Nat) : Int)) (fun _ => rfl) e8 rfl ?_
          refine wl_bin (fun x y => Instr.indexAt 37 x y) (.tmp 42) (.tmp 43) (.slice pa R.length cap) (.int .i64 ((k : Nat) : Int)) (pt bp (op + k * 5)) (fun _ => rfl) rfl rfl (ix37 (i := k) hpp hkR _) rfl ?_
          refine wl_un (fun v => Instr.fieldAt 52 v 4) (.tmp 44) (pt bp (op + k * 5)) (pt bp (op + k * 5 + 4)) (fun _ => rfl) rfl (by kernel_rfl) rfl ?_
          refine wl_load 22 (.tmp 45) (pt bp (op + k * 5 + 4)) (.slice x.pi x.items.length x.ci) rfl rfl (D.run_oneR (hRp.mo M).at' 22 4 rfl Try.underlying22 rfl) rfl ?_
          refine wl_val (.int .i64 ((x.items.length : Nat) : Int)) (len22 _ _ _ _ _ (by exact rfl) _ _ _ _ _ _) rfl ?_
          refine wl_mv (.const (.int .i64 (0))) (.int .i64 (0)) (fun _ => rfl) rfl rfl ?_
          refine w_nil ?_
          refine xn_then ?_
          refine w_block ?_
          refine w_loop (fun m l w1 => ∃ j : Nat, m = x.items.length - j ∧ j ≤ x.items.length ∧ look l 5 = .slice pa R.length cap ∧ look l 7 = .map (some mb) ∧ look l 8 = .int .i64 ((k : Nat) : Int) ∧ look l 29 = .int .i64 ((R.length : Nat) : Int) ∧ look l 30 = .int .i64 ((i : Nat) : Int) ∧ look l 46 = .slice x.pi x.items.length x.ci ∧ look l 47 = .int .i64 ((x.items.length : Nat) : Int) ∧ look l 48 = .int .i64 ((j : Nat) : Int) ∧ (∃ S : List ByteArray, OB w1 mb S ∧ (∀ q ∈ S, (∃ b ∈ P, q ∈ nmsO L b) ∨ q ∈ (nmsO L k).take j) ∧ S.length ≤ 64 * P.length + j) ∧ Mo u7 w1) _ ⟨0, rfl, Nat.zero_le _, e5, e7, e8, e29, e30, rfl, rfl, rfl, ⟨S, hO, (fun q h => Or.inl (hS q h)), by omega⟩, M⟩ ?_
          clear M
          rintro m l80 wl80 ⟨j, rfl, hj, e80_5, e80_7, e80_8, e80_29, e80_30, e80_46, e80_47, e80_i, hE, M⟩
          by_cases hjl : j < x.items.length
          · skip
            have hjd : decide (j < x.items.length) = true := decide_eq_true hjl
            obtain ⟨S, hO, hS, hSl⟩ := hE
            obtain ⟨y, hy⟩ := get_of_lt hjl
            have hIt := (hSI x hmx).kp M.kp
            have M0 := M
            clear M
            have M : Mo wl80 wl80 := Mo.refl _
            obtain ⟨bt, ot, hpt, hRt⟩ := D.SL.rw hIt hy
            have hq0 : (nmsO L k)[j]? = some y.nm := by rw [hnm, List.getElem?_map, hy]; rfl
            have hsz : y.nm.size ≤ maxLen := ap3 hse hxl (List.mem_of_getElem? hq0)
            have hnf : y.nm ∉ S := fun h => by
              rcases hS _ h with ⟨b, hb, hq⟩ | h2
              · obtain ⟨h3, h4⟩ := anc_split hw i xi hxi P (k :: A) hP b hb k (List.mem_cons_self ..)
                have h5 : b ≤ i := anc_le L i b (by rw [hP]; exact List.mem_append_left _ hb)
                exact ap1 hse h3 h4 (by omega) hq (List.mem_of_getElem? hq0)
              · exact ap2 hse hw hxl hq0 h2
            refine w_seq ?_
            refine w_reg ?_
            refine wl_bin (fun x y => do eqGuard .lss 3 (.tmp 48) (.tmp 47) x y; binOp .lss 3 x y) (.tmp 48) (.tmp 47) (.int .i64 ((j : Nat) : Int)) (.int .i64 ((x.items.length : Nat) : Int)) (.bool true) (fun _ => rfl) e80_i e80_47 (ltN hjd _ _ _) rfl ?_
            refine w_nil ?_
            refine xn_then ?_
            refine w_seq ?_
            refine w_condT rfl ?_
            refine w_skip ?_
            refine xn_then ?_
            refine w_seq ?_
            refine w_block ?_
            refine w_seq ?_
            refine w_reg ?_
            refine wl_bin (fun x y => Instr.indexAt 22 x y) (.tmp 46) (.tmp 48) (.slice x.pi x.items.length x.ci) (.int .i64 ((j : Nat) : Int)) (pt bt (ot + j * 23)) (fun _ => rfl) e80_46 e80_i (ix22 (i := j) hpt hjl _) rfl ?_
            refine wl_load 66 (.tmp 50) (pt bt (ot + j * 23)) (.agg (y.cells).toArray) rfl rfl (D.run_partR (hRt.mo M).at' 66 0 23 (y.cells) rfl Try.underlying66 rfl sz66) rfl ?_
            refine wl_alloc 66 #[.string ⟨#[]⟩, .int .i64 0, .int .i64 0, .int .i64 0, .bool false, .int .i64 0, .int .i64 0, .int .i64 0, .string ⟨#[]⟩, .string ⟨#[]⟩, .int .i64 0, .bool false, .int .u64 0, .int .u64 0, .int .u64 0, .int .u64 0, .int .i64 0, .bool false, .string ⟨#[]⟩, .int .i64 0, .int .i64 0, .int .i64 0, .slice none 0 0] rfl (fun _ => by kernel_rfl) rfl ?_
            intro k3 u81 hk hz hq Q3
            have N_k3 : wl80.heap.size ≤ k3 := by have := M.size; omega
            replace M := M.trans hq
            clear hk hz hq
            refine wl_st 66 (.tmp 10) (.tmp 51) k3 0 ((y.cells).toArray) [.string ⟨#[]⟩, .int .i64 0, .int .i64 0, .int .i64 0, .bool false, .int .i64 0, .int .i64 0, .int .i64 0, .string ⟨#[]⟩, .string ⟨#[]⟩, .int .i64 0, .bool false, .int .u64 0, .int .u64 0, .int .u64 0, .int .u64 0, .int .i64 0, .bool false, .string ⟨#[]⟩, .int .i64 0, .int .i64 0, .int .i64 0, .slice none 0 0] (y.cells) Q3 rfl rfl rfl rfl rfl sz66 rfl rfl rfl ?_
            intro u82 hS Qn
            replace Q3 := Qn
            clear Qn
            replace M := hS.mo _ N_k3 M
            clear hS
            refine w_nil ?_
            refine xn_then ?_
            refine w_seq ?_
            refine w_seq ?_
            refine w_reg ?_
            refine wl_mv (.tmp 7) (.map (some mb)) (fun _ => rfl) e80_7 rfl ?_
            refine wl_un (fun v => Instr.fieldAt 66 v 0) (.tmp 10) (pt k3 0) (pt k3 0) (fun _ => rfl) rfl (by kernel_rfl) rfl ?_
            refine wl_load 9 (.tmp 53) (pt k3 0) (.string y.nm) rfl rfl (run_one Q3 9 0 rfl Try.underlying9 rfl) rfl ?_
            refine wl_val (.bool false) (lkp 50 (.tmp 52) (.tmp 54) false (.map (some mb)) (.string y.nm) (.bool false) rfl rfl rfl ((hO.mo M).look hsz hnf)) rfl ?_
            refine w_nil ?_
            refine xn_then ?_
            refine w_condF rfl ?_
            refine w_skip ?_
            refine xn_then ?_
            refine w_reg ?_
            refine wl_mv (.tmp 7) (.map (some mb)) (fun _ => rfl) e80_7 rfl ?_
            refine wl_un (fun v => Instr.fieldAt 66 v 0) (.tmp 10) (pt k3 0) (pt k3 0) (fun _ => rfl) rfl (by kernel_rfl) rfl ?_
            refine wl_load 9 (.tmp 57) (pt k3 0) (.string y.nm) rfl rfl (run_one Q3 9 0 rfl Try.underlying9 rfl) rfl ?_
            refine wl_mupb (.tmp 56) (.tmp 58) (.const (.bool true)) mb y.nm (hO.mo M) (by simp at hPl; omega) hsz hnf rfl rfl rfl rfl rfl rfl ?_
            intro u83 hO9 hK9
            replace M0 := hK9.mo (M0.trans M) (fun k e => by rw [e]; exact N_mb)
            clear M hK9
            have M : Mo u83 u83 := Mo.refl _
            have hS9 : ∀ q ∈ y.nm :: S, (∃ b ∈ P, q ∈ nmsO L b) ∨ q ∈ (nmsO L k).take (j + 1) := fun q hq => by
              rw [List.take_add_one, hq0]
              rcases List.mem_cons.1 hq with rfl | h
              · exact Or.inr (by simp)
              · exact (hS q h).imp_right (fun h => List.mem_append_left _ h)
            refine w_nil ?_
            refine xn_blk ?_
            refine xn_then ?_
            refine w_reg ?_
            refine wl_bin (fun x y => do eqGuard .add 3 (.tmp 48) (.const (.int .i64 (1))) x y; binOp .add 3 x y) (.tmp 48) (.const (.int .i64 (1))) (.int .i64 ((j : Nat) : Int)) (.int .i64 (1)) (.int .i64 ((j + 1 : Nat) : Int)) (fun _ => rfl) e80_i rfl (add1r (k := j) (by omega) _ _ _) rfl ?_
            refine wl_mv (.tmp 59) (.int .i64 ((j + 1 : Nat) : Int)) (fun _ => rfl) rfl rfl ?_
            refine w_nil ?_
            exact xn_loop (x.items.length - (j + 1)) (by omega) ⟨j + 1, rfl, by omega, e80_5, e80_7, e80_8, e80_29, e80_30, e80_46, e80_47, rfl, ⟨_, hO9, hS9, by simp; omega⟩, M0.trans M⟩
          · skip
            have hjd : decide (j < x.items.length) = false := decide_eq_false hjl
            have hje : j = x.items.length := by omega
            obtain ⟨S, hO, hS, hSl⟩ := hE
            have hS2 : ∀ q ∈ S, ∃ b ∈ P ++ [k], q ∈ nmsO L b := fun q hq => by
              rcases hS q hq with ⟨b, hb, h⟩ | h
              · exact ⟨b, List.mem_append_left _ hb, h⟩
              · exact ⟨k, by simp, List.mem_of_mem_take h⟩
            refine w_seq ?_
            refine w_reg ?_
            refine wl_bin (fun x y => do eqGuard .lss 3 (.tmp 48) (.tmp 47) x y; binOp .lss 3 x y) (.tmp 48) (.tmp 47) (.int .i64 ((j : Nat) : Int)) (.int .i64 ((x.items.length : Nat) : Int)) (.bool false) (fun _ => rfl) e80_i e80_47 (ltN hjd _ _ _) rfl ?_
            refine w_nil ?_
            refine xn_then ?_
            refine w_seq ?_
            refine w_condF rfl ?_
            refine w_exit ?_
            refine xx_then ?_
            refine xx_then ?_
            refine xx_blk ?_
            refine xn_blk ?_
            refine xn_then ?_
            refine w_reg ?_
            refine wl_mv (.tmp 5) (.slice pa R.length cap) (fun _ => rfl) e80_5 rfl ?_
            refine wl_mv (.tmp 8) (.int .i64 ((k : Nat) : Int)) (fun _ => rfl) e80_8 rfl ?_
            refine wl_bin (fun x y => Instr.indexAt 37 x y) (.tmp 37) (.tmp 38) (.slice pa R.length cap) (.int .i64 ((k : Nat) : Int)) (pt bp (op + k * 5)) (fun _ => rfl) rfl rfl (ix37 (i := k) hpp hkR _) rfl ?_
            refine wl_un (fun v => Instr.fieldAt 52 v 0) (.tmp 39) (pt bp (op + k * 5)) (pt bp (op + k * 5)) (fun _ => rfl) rfl (by kernel_rfl) rfl ?_
            refine wl_load 3 (.tmp 40) (pt bp (op + k * 5)) (.int .i64 (x.pr)) rfl rfl (D.run_oneR (hRp.mo M).at' 3 0 rfl Try.underlying3 rfl) rfl ?_
            refine wl_mv (.tmp 41) (.int .i64 (x.pr)) (fun _ => rfl) rfl rfl ?_
            refine w_nil ?_
            exact xn_loop A.length (by simp) ⟨_, A, P ++ [k], S, rfl, e80_5, e80_7, rfl, e80_29, e80_30, hU, by rw [hP]; simp, hO, hS2, by simp; simp at hPl; omega, M⟩
      · skip
        have hid : decide (i < R.length) = false := decide_eq_false hil
        have hie : i = R.length := by omega
        refine w_seq ?_
        refine w_reg ?_
        refine wl_bin (fun x y => do eqGuard .lss 3 (.tmp 30) (.tmp 29) x y; binOp .lss 3 x y) (.tmp 30) (.tmp 29) (.int .i64 ((i : Nat) : Int)) (.int .i64 ((R.length : Nat) : Int)) (.bool false) (fun _ => rfl) e40_i e40_29 (ltN hid _ _ _) rfl ?_
        refine w_nil ?_
        refine xn_then ?_
        refine w_seq ?_
        refine w_condF rfl ?_
        refine w_exit ?_
        refine xx_then ?_
        refine xx_then ?_
        refine xx_blk ?_
        refine xn_then ?_
        refine w_seq ?_
        refine w_reg ?_
        refine wl_mv (.const (.bool true)) (.bool true) (fun _ => rfl) rfl rfl ?_
        refine w_nil ?_
        refine xn_then ?_
        refine w_ret ?_
        exact w_ret1 _ (.bool true) rfl rfl ⟨rfl, MF.trans M⟩
    | false =>
      obtain ⟨k9, s9, i9, t9, p9, e9, hck, hne⟩ := Pk.some (pk_chk d) hf0
      refine wl_call 10 [(.tmp 20)] _ [.agg (d.cells).toArray] (.tuple #[.agg #[.int .i64 k9, .int .i64 s9, .int .i64 i9, .int .i64 t9, .int .i64 p9], .int .i64 (e9)]) rfl rfl (fun _ _ => by kernel_rfl) (by have h := check_n d (hD.kp M.kp); rw [hck] at h; exact h) rfl ?_
      intro u4 hq
      replace Q1 := Q1.mo hq
      replace M := M.trans hq
      clear hq
      refine wl_mv (.tmp 21) (.tuple #[.agg #[.int .i64 k9, .int .i64 s9, .int .i64 i9, .int .i64 t9, .int .i64 p9], .int .i64 (e9)]) (fun _ => rfl) rfl rfl ?_
      refine wl_un (fun v => Instr.extract v 0) (.tmp 19) (.tuple #[.agg #[.int .i64 k9, .int .i64 s9, .int .i64 i9, .int .i64 t9, .int .i64 p9], .int .i64 (e9)]) (.agg #[.int .i64 k9, .int .i64 s9, .int .i64 i9, .int .i64 t9, .int .i64 p9]) (fun _ => rfl) rfl (by kernel_rfl) rfl ?_
      refine wl_un (fun v => Instr.extract v 1) (.tmp 19) (.tuple #[.agg #[.int .i64 k9, .int .i64 s9, .int .i64 i9, .int .i64 t9, .int .i64 p9], .int .i64 (e9)]) (.int .i64 (e9)) (fun _ => rfl) rfl (by kernel_rfl) rfl ?_
      refine wl_alloc 33 #[.int .i64 0, .int .i64 0, .int .i64 0, .int .i64 0, .int .i64 0] rfl (fun _ => by kernel_rfl) rfl ?_
      intro k2 u5 hk hz hq Q2
      have ne_k1_k2 : k1 ≠ k2 := by have := Q1.lt; omega
      have N_k2 : w.heap.size ≤ k2 := by have := M.size; omega
      replace Q1 := Q1.mo hq
      replace M := M.trans hq
      clear hk hz hq
      refine wl_st 33 (.tmp 3) (.tmp 22) k2 0 #[.int .i64 k9, .int .i64 s9, .int .i64 i9, .int .i64 t9, .int .i64 p9] [.int .i64 0, .int .i64 0, .int .i64 0, .int .i64 0, .int .i64 0] [.int .i64 k9, .int .i64 s9, .int .i64 i9, .int .i64 t9, .int .i64 p9] Q2 rfl rfl rfl rfl rfl sz33 rfl rfl rfl ?_
      intro u6 hS Qn
      replace Q2 := Qn
      clear Qn
      replace Q1 := hS.other _ _ ne_k1_k2 Q1
      replace M := hS.mo _ N_k2 M
      clear hS
      refine wl_mv (.tmp 23) (.int .i64 (e9)) (fun _ => rfl) rfl rfl ?_
      refine w_nil ?_
      refine xn_then ?_
      refine w_seq ?_
      refine w_reg ?_
      refine wl_mv (.tmp 4) (.int .i64 (e9)) (fun _ => rfl) rfl rfl ?_
      refine wl_bin (fun x y => do eqGuard .neq 34 (.tmp 24) (.const (.int .i64 (0))) x y; binOp .neq 34 x y) (.tmp 24) (.const (.int .i64 (0))) (.int .i64 (e9)) (.int .i64 (0)) (.bool true) (fun _ => rfl) rfl rfl (ne34 (decide_eq_false hne) _ _ _) rfl ?_
      refine w_nil ?_
      refine xn_then ?_
      refine w_condT rfl ?_
      refine w_seq ?_
      refine w_reg ?_
      refine wl_mv (.const (.bool true)) (.bool true) (fun _ => rfl) rfl rfl ?_
      refine w_nil ?_
      refine xn_then ?_
      refine w_ret ?_
      refine xr_then ?_
      exact w_ret1 _ (.bool true) rfl rfl ⟨rfl, M⟩
  | false =>
    refine wl_un (fun v => Op.unary .not v) (.tmp 12) (.bool false) (.bool true) (fun _ => rfl) rfl (by kernel_rfl) rfl ?_
    refine wl_mv (.tmp 13) (.bool true) (fun _ => rfl) rfl rfl ?_
    refine wl_skip rfl ?_
    refine wl_skip rfl ?_
    refine wl_pick (.tmp 14) (.const (.bool true)) (.tmp 16) true (.bool true) (fun _ => rfl) rfl rfl rfl ?_
    refine w_nil ?_
    refine xn_then ?_
    refine w_condT rfl ?_
    refine w_seq ?_
    refine w_reg ?_
    refine wl_call 9 [] _ [] (.bool true) rfl rfl (fun _ _ => by kernel_rfl) (live_n _) rfl ?_
    intro u3 hq
    replace Q1 := Q1.mo hq
    replace M := M.trans hq
    clear hq
    refine wl_mv (.tmp 18) (.bool true) (fun _ => rfl) rfl rfl ?_
    refine w_nil ?_
    refine xn_then ?_
    refine w_ret ?_
    refine xr_then ?_
    exact w_ret1 _ (.bool true) rfl rfl ⟨rfl, M⟩
end Go.Proofs.Ytbanldffohopiaa
