/-
  The kind of a name, of an aggregate, of a node.
-/
import Derived.Test.YtepfokoepibkcaaGreatK4
namespace Go.Proofs.YtepfokoepibkcaaGreat
open Go.RowKit D
theorem agK_of {L : List S5} {s kk kz iz : Nat} {x : Ex} {y : It} (h1 : L.findIdx? (pKd s x.se) = some kk) (h2 : ¬ x.op = 16) (h3 : fnF L x.nm (kk + 1) = some (kz, iz)) (h4 : kz = kk) (h5 : itA L kz iz = some y) : agK L s x = sui (colK x.op y.tk) := by
  subst h4
  unfold agK
  rw [h1]
  simp only [h2, h3, h5, if_false, if_true]
theorem nmK_n {w : World} {d : Df} {sp : Option Addr} {L : List S5} {s : Nat} (hR : RD w d sp L s) (sc : Nat) (nm : ByteArray) : Calls Tryz.prog 103 #[.agg (rdr d sp L sc s).toArray, .string nm] w fun e w' => e = .returned (tu2 (nmK L s nm)) ∧ Mo w w' := by
  refine w_enter 36 Tryz.func103 Tryz.ntmps103 rfl rfl ?_
  have M : Mo w w := Mo.refl _
  refine w_seq ?_
  refine w_reg ?_
  refine wl_box 65 (.tmp 0) (.agg (rdr d sp L sc s).toArray) (((rdr d sp L sc s).toArray)) rfl rfl (fun _ => by kernel_rfl) rfl ?_
  intro k1 u1 hk hz hq Q1
  have N_k1 : w.heap.size ≤ k1 := by have := M.size; omega
  replace M := M.trans hq
  clear hk hz hq
  refine wl_mv (.const (.int .i64 (0))) (.int .i64 (0)) (fun _ => rfl) rfl rfl ?_
  refine wl_mv (.const (.int .i64 (0))) (.int .i64 (0)) (fun _ => rfl) rfl rfl ?_
  refine w_nil ?_
  refine xn_then ?_
  refine w_seq ?_
  refine w_reg ?_
  refine wl_un (fun v => Instr.fieldAt 65 v 1) (.tmp 2) (pt k1 0) (pt k1 7) (fun _ => rfl) rfl (by kernel_rfl) rfl ?_
  refine wl_load 37 (.tmp 11) (pt k1 7) (.slice sp L.length sc) rfl rfl (run_one Q1 37 7 rfl Tryz.underlying37 rfl) rfl ?_
  refine wl_un (fun v => Instr.fieldAt 65 v 2) (.tmp 2) (pt k1 0) (pt k1 8) (fun _ => rfl) rfl (by kernel_rfl) rfl ?_
  refine wl_load 3 (.tmp 13) (pt k1 8) (.int .i64 ((s : Nat) : Int)) rfl rfl (run_one Q1 3 8 rfl Tryz.underlying3 rfl) rfl ?_
  refine wl_mv (.tmp 1) (.string nm) (fun _ => rfl) rfl rfl ?_
  cases hf0 : (fnF L nm (s + 1)).isSome with
  | true =>
    obtain ⟨⟨kz, iz⟩, hrz⟩ := Option.isSome_iff_exists.1 hf0
    obtain ⟨xz, yz, hxz, hyz⟩ := fnF_some _ hrz
    have hmxz := List.mem_of_getElem? hxz
    have hcz := find_s (hR.ls.kp M.kp) (fun x hx => (hR.it x hx).kp M.kp) hR.wf hR.ln s hR.lt nm (c := sc)
    rw [hrz] at hcz
    refine wl_call 122 [(.tmp 12), (.tmp 14), (.tmp 15)] _ [.slice sp L.length sc, .int .i64 ((s : Nat) : Int), .string nm] (.tuple #[.int .i64 ((kz : Nat) : Int), .int .i64 ((iz : Nat) : Int), .bool true]) rfl rfl (fun _ _ => by kernel_rfl) (hcz) rfl ?_
    intro u2 hq
    replace Q1 := Q1.mo hq
    replace M := M.trans hq
    clear hq
    refine wl_mv (.tmp 16) (.tuple #[.int .i64 ((kz : Nat) : Int), .int .i64 ((iz : Nat) : Int), .bool true]) (fun _ => rfl) rfl rfl ?_
    refine wl_un (fun v => Instr.extract v 0) (.tmp 10) (.tuple #[.int .i64 ((kz : Nat) : Int), .int .i64 ((iz : Nat) : Int), .bool true]) (.int .i64 ((kz : Nat) : Int)) (fun _ => rfl) rfl (by kernel_rfl) rfl ?_
    refine wl_un (fun v => Instr.extract v 1) (.tmp 10) (.tuple #[.int .i64 ((kz : Nat) : Int), .int .i64 ((iz : Nat) : Int), .bool true]) (.int .i64 ((iz : Nat) : Int)) (fun _ => rfl) rfl (by kernel_rfl) rfl ?_
    refine wl_un (fun v => Instr.extract v 2) (.tmp 10) (.tuple #[.int .i64 ((kz : Nat) : Int), .int .i64 ((iz : Nat) : Int), .bool true]) (.bool true) (fun _ => rfl) rfl (by kernel_rfl) rfl ?_
    refine wl_mv (.tmp 17) (.int .i64 ((kz : Nat) : Int)) (fun _ => rfl) rfl rfl ?_
    refine wl_mv (.tmp 18) (.int .i64 ((iz : Nat) : Int)) (fun _ => rfl) rfl rfl ?_
    refine wl_mv (.tmp 19) (.bool true) (fun _ => rfl) rfl rfl ?_
    refine w_nil ?_
    refine xn_then ?_
    refine w_seq ?_
    refine w_seq ?_
    refine w_reg ?_
    refine wl_mv (.tmp 8) (.bool true) (fun _ => rfl) rfl rfl ?_
    refine wl_un (fun v => Op.unary .not v) (.tmp 20) (.bool true) (.bool false) (fun _ => rfl) rfl (by kernel_rfl) rfl ?_
    refine w_nil ?_
    refine xn_then ?_
    refine w_condF rfl ?_
    refine w_skip ?_
    refine xn_then ?_
    refine w_seq ?_
    refine w_reg ?_
    refine wl_un (fun v => Instr.fieldAt 65 v 1) (.tmp 2) (pt k1 0) (pt k1 7) (fun _ => rfl) rfl (by kernel_rfl) rfl ?_
    refine wl_load 37 (.tmp 22) (pt k1 7) (.slice sp L.length sc) rfl rfl (run_one Q1 37 7 rfl Tryz.underlying37 rfl) rfl ?_
    refine wl_mv (.tmp 6) (.int .i64 ((kz : Nat) : Int)) (fun _ => rfl) rfl rfl ?_
    obtain ⟨buz, ouz, hpuz, hRuz⟩ := D.SL.rw hR.ls hxz
    refine wl_bin (fun x y => Instr.indexAt 37 x y) (.tmp 23) (.tmp 24) (.slice sp L.length sc) (.int .i64 ((kz : Nat) : Int)) (pt buz (ouz + kz * 5)) (fun _ => rfl) rfl rfl (ix37 (i := kz) hpuz (lt_of_get hxz) _) rfl ?_
    refine wl_un (fun v => Instr.fieldAt 40 v 4) (.tmp 25) (pt buz (ouz + kz * 5)) (pt buz (ouz + kz * 5 + 4)) (fun _ => rfl) rfl (by kernel_rfl) rfl ?_
    refine wl_load 22 (.tmp 26) (pt buz (ouz + kz * 5 + 4)) (.slice xz.pi xz.items.length xz.ci) rfl rfl (D.run_oneR (hRuz.mo M).at' 22 4 rfl Tryz.underlying22 rfl) rfl ?_
    refine wl_mv (.tmp 7) (.int .i64 ((iz : Nat) : Int)) (fun _ => rfl) rfl rfl ?_
    obtain ⟨bvz, ovz, hpvz, hRvz⟩ := D.SL.rw (hR.it xz hmxz) hyz
    refine wl_bin (fun x y => Instr.indexAt 22 x y) (.tmp 27) (.tmp 28) (.slice xz.pi xz.items.length xz.ci) (.int .i64 ((iz : Nat) : Int)) (pt bvz (ovz + iz * 23)) (fun _ => rfl) rfl rfl (ix22 (i := iz) hpvz (lt_of_get hyz) _) rfl ?_
    refine wl_un (fun v => Instr.fieldAt 54 v 2) (.tmp 29) (pt bvz (ovz + iz * 23)) (pt bvz (ovz + iz * 23 + 2)) (fun _ => rfl) rfl (by kernel_rfl) rfl ?_
    refine wl_load 42 (.tmp 30) (pt bvz (ovz + iz * 23 + 2)) (.agg #[.int .i64 yz.tk, .int .i64 yz.ts]) rfl rfl (D.run_partR (hRvz.mo M).at' 42 2 2 [.int .i64 yz.tk, .int .i64 yz.ts] rfl Tryz.underlying42 rfl sz42) rfl ?_
    refine wl_alloc 42 #[.int .i64 0, .int .i64 0] rfl (fun _ => by kernel_rfl) rfl ?_
    intro k2 u3 hk hz hq Q2
    have ne_k1_k2 : k1 ≠ k2 := by have := Q1.lt; omega
    have N_k2 : w.heap.size ≤ k2 := by have := M.size; omega
    replace Q1 := Q1.mo hq
    replace M := M.trans hq
    clear hk hz hq
    refine wl_st 42 (.tmp 9) (.tmp 31) k2 0 #[.int .i64 yz.tk, .int .i64 yz.ts] [.int .i64 0, .int .i64 0] [.int .i64 yz.tk, .int .i64 yz.ts] Q2 rfl rfl rfl rfl rfl sz42 rfl rfl rfl ?_
    intro u4 hS Qn
    replace Q2 := Qn
    clear Qn
    replace Q1 := hS.other _ _ ne_k1_k2 Q1
    replace M := hS.mo _ N_k2 M
    clear hS
    refine w_nil ?_
    refine xn_then ?_
    refine w_seq ?_
    refine w_any 4 [.inl (pt k2 0), .inl (.int .i64 (yz.tk)), .inl (.agg #[.int .i64 yz.tk, .int .i64 yz.ts]), .inl (.int .i64 (tyc yz.tk yz.ts))] [] (by kernel_rfl) (by kernel_rfl) (by kernel_rfl) (by kernel_rfl) rfl (by kernel_rfl) (by kernel_rfl) late_nil ?_ ?_ ?_
    · exact Ds.none rfl
    · refine ea_cons ?_ (ea_cons ?_ (ea_cons ?_ (ea_cons ?_ (ea_nil))))
      · exact og_eq (pt k2 0) rfl (fun f wf hq hd K hK => go_run rfl (wo_un (fun v => Instr.fieldAt 42 v 0) (.tmp 9) (pt k2 0) (pt k2 0) (fun _ => rfl) rfl (by kernel_rfl) (hK _ (Mo.refl _))))
      · exact og_eq (.int .i64 (yz.tk)) rfl (fun f wf hq hd K hK => have Q2 := Q2.mo hq; go_run rfl (wo_load 3 (.tmp 32) (pt k2 0) (.int .i64 (yz.tk)) rfl (hd 0 rfl) (run_one Q2 3 0 rfl Tryz.underlying3 rfl) (hK _ (Mo.refl _))))
      · exact og_eq (.agg #[.int .i64 yz.tk, .int .i64 yz.ts]) rfl (fun f wf hq hd K hK => have Q2 := Q2.mo hq; go_run rfl (wo_load 42 (.tmp 9) (pt k2 0) (.agg #[.int .i64 yz.tk, .int .i64 yz.ts]) rfl rfl (run_row Q2 42 0 2 [.int .i64 yz.tk, .int .i64 yz.ts] rfl Tryz.underlying42 rfl sz42) (hK _ (Mo.refl _))))
      · exact og_eq (.int .i64 (tyc yz.tk yz.ts)) rfl (fun f wf hq hd K hK => go_run rfl (wo_call 26 [(.tmp 34)] _ [.agg #[.int .i64 yz.tk, .int .i64 yz.ts]] (.int .i64 (tyc yz.tk yz.ts)) rfl (li1 (hd 2 rfl)) (fun _ _ => by kernel_rfl) (typ_n yz.tk yz.ts _) hK))
    intro kf5 u5 hq hR hne
    replace Q1 := Q1.mo hq
    replace Q2 := Q2.mo hq
    replace M := M.trans hq
    clear hq hR hne
    refine wl_mv (.tmp 33) (.int .i64 (yz.tk)) (fun _ => rfl) rfl rfl ?_
    refine wl_mv (.tmp 35) (.int .i64 (tyc yz.tk yz.ts)) (fun _ => rfl) rfl rfl ?_
    refine w_nil ?_
    refine xn_then ?_
    refine w_ret ?_
    exact w_ret2 _ _ (.int .i64 (yz.tk)) (.int .i64 (tyc yz.tk yz.ts)) rfl rfl rfl ⟨by rw [nmK_of hrz (itA_of hxz hyz)], M⟩
  | false =>
    have hrz : fnF L nm (s + 1) = none := by simpa using hf0
    have hcz := find_s (hR.ls.kp M.kp) (fun x hx => (hR.it x hx).kp M.kp) hR.wf hR.ln s hR.lt nm (c := sc)
    rw [hrz] at hcz
    refine wl_call 122 [(.tmp 12), (.tmp 14), (.tmp 15)] _ [.slice sp L.length sc, .int .i64 ((s : Nat) : Int), .string nm] (.tuple #[.int .i64 (0), .int .i64 (0), .bool false]) rfl rfl (fun _ _ => by kernel_rfl) (hcz) rfl ?_
    intro u2 hq
    replace Q1 := Q1.mo hq
    replace M := M.trans hq
    clear hq
    refine wl_mv (.tmp 16) (.tuple #[.int .i64 (0), .int .i64 (0), .bool false]) (fun _ => rfl) rfl rfl ?_
    refine wl_un (fun v => Instr.extract v 0) (.tmp 10) (.tuple #[.int .i64 (0), .int .i64 (0), .bool false]) (.int .i64 (0)) (fun _ => rfl) rfl (by kernel_rfl) rfl ?_
    refine wl_un (fun v => Instr.extract v 1) (.tmp 10) (.tuple #[.int .i64 (0), .int .i64 (0), .bool false]) (.int .i64 (0)) (fun _ => rfl) rfl (by kernel_rfl) rfl ?_
    refine wl_un (fun v => Instr.extract v 2) (.tmp 10) (.tuple #[.int .i64 (0), .int .i64 (0), .bool false]) (.bool false) (fun _ => rfl) rfl (by kernel_rfl) rfl ?_
    refine wl_mv (.tmp 17) (.int .i64 (0)) (fun _ => rfl) rfl rfl ?_
    refine wl_mv (.tmp 18) (.int .i64 (0)) (fun _ => rfl) rfl rfl ?_
    refine wl_mv (.tmp 19) (.bool false) (fun _ => rfl) rfl rfl ?_
    refine w_nil ?_
    refine xn_then ?_
    refine w_seq ?_
    refine w_seq ?_
    refine w_reg ?_
    refine wl_mv (.tmp 8) (.bool false) (fun _ => rfl) rfl rfl ?_
    refine wl_un (fun v => Op.unary .not v) (.tmp 20) (.bool false) (.bool true) (fun _ => rfl) rfl (by kernel_rfl) rfl ?_
    refine w_nil ?_
    refine xn_then ?_
    refine w_condT rfl ?_
    refine w_seq ?_
    refine w_reg ?_
    refine wl_mv (.const (.int .i64 (0))) (.int .i64 (0)) (fun _ => rfl) rfl rfl ?_
    refine wl_mv (.const (.int .i64 (91))) (.int .i64 (91)) (fun _ => rfl) rfl rfl ?_
    refine w_nil ?_
    refine xn_then ?_
    refine w_ret ?_
    refine xr_then ?_
    exact w_ret2 _ _ (.int .i64 (0)) (.int .i64 (91)) rfl rfl rfl ⟨by rw [nmK_no hrz], M⟩
theorem agK_n {w : World} {d : Df} {sp : Option Addr} {L : List S5} {s : Nat} (hR : RD w d sp L s) (sc : Nat) (x : Ex) : Calls Tryz.prog 104 #[.agg (rdr d sp L sc s).toArray, .agg (x.cells).toArray] w fun e w' => e = .returned (tu2 (agK L s x)) ∧ Mo w w' := by
  refine w_enter 62 Tryz.func104 Tryz.ntmps104 rfl rfl ?_
  have M : Mo w w := Mo.refl _
  refine w_seq ?_
  refine w_reg ?_
  refine wl_box 65 (.tmp 0) (.agg (rdr d sp L sc s).toArray) (((rdr d sp L sc s).toArray)) rfl rfl (fun _ => by kernel_rfl) rfl ?_
  intro k1 u1 hk hz hq Q1
  have N_k1 : w.heap.size ≤ k1 := by have := M.size; omega
  replace M := M.trans hq
  clear hk hz hq
  refine wl_box 52 (.tmp 1) (.agg (x.cells).toArray) (((x.cells).toArray)) rfl rfl (fun _ => by kernel_rfl) rfl ?_
  intro k2 u2 hk hz hq Q2
  have ne_k1_k2 : k1 ≠ k2 := by have := Q1.lt; omega
  have N_k2 : w.heap.size ≤ k2 := by have := M.size; omega
  replace Q1 := Q1.mo hq
  replace M := M.trans hq
  clear hk hz hq
  refine wl_mv (.const (.int .i64 (0))) (.int .i64 (0)) (fun _ => rfl) rfl rfl ?_
  refine wl_mv (.const (.int .i64 (0))) (.int .i64 (0)) (fun _ => rfl) rfl rfl ?_
  refine w_nil ?_
  refine xn_then ?_
  refine w_seq ?_
  refine w_reg ?_
  refine wl_un (fun v => Instr.fieldAt 65 v 1) (.tmp 2) (pt k1 0) (pt k1 7) (fun _ => rfl) rfl (by kernel_rfl) rfl ?_
  refine wl_load 37 (.tmp 11) (pt k1 7) (.slice sp L.length sc) rfl rfl (run_one Q1 37 7 rfl Tryz.underlying37 rfl) rfl ?_
  refine wl_un (fun v => Instr.fieldAt 65 v 2) (.tmp 2) (pt k1 0) (pt k1 8) (fun _ => rfl) rfl (by kernel_rfl) rfl ?_
  refine wl_load 3 (.tmp 13) (pt k1 8) (.int .i64 ((s : Nat) : Int)) rfl rfl (run_one Q1 3 8 rfl Tryz.underlying3 rfl) rfl ?_
  refine wl_un (fun v => Instr.fieldAt 52 v 3) (.tmp 3) (pt k2 0) (pt k2 3) (fun _ => rfl) rfl (by kernel_rfl) rfl ?_
  refine wl_load 9 (.tmp 15) (pt k2 3) (.string x.se) rfl rfl (run_one Q2 9 3 rfl Tryz.underlying9 rfl) rfl ?_
  cases hf0 : (L.findIdx? (pKd s x.se)).isSome with
  | true =>
    have hck := kid_n (hR.ls.kp M.kp) (c := sc) ((s : Nat) : Int) x.se
    obtain ⟨kk, hkk⟩ := Option.isSome_iff_exists.1 hf0
    have hkl : kk < L.length := by obtain ⟨h9, _⟩ := List.findIdx?_eq_some_iff_getElem.1 hkk; exact h9
    rw [show L.findIdx? (fun y : S5 => decide (y.pr = ((s : Nat) : Int)) && decide (y.nm = x.se)) = some kk from hkk] at hck
    refine wl_call 123 [(.tmp 12), (.tmp 14), (.tmp 16)] _ [.slice sp L.length sc, .int .i64 ((s : Nat) : Int), .string x.se] (.tuple #[.int .i64 ((kk : Nat) : Int), .bool true]) rfl rfl (fun _ _ => by kernel_rfl) (hck) rfl ?_
    intro u3 hq
    replace Q1 := Q1.mo hq
    replace Q2 := Q2.mo hq
    replace M := M.trans hq
    clear hq
    refine wl_mv (.tmp 17) (.tuple #[.int .i64 ((kk : Nat) : Int), .bool true]) (fun _ => rfl) rfl rfl ?_
    refine wl_un (fun v => Instr.extract v 0) (.tmp 10) (.tuple #[.int .i64 ((kk : Nat) : Int), .bool true]) (.int .i64 ((kk : Nat) : Int)) (fun _ => rfl) rfl (by kernel_rfl) rfl ?_
    refine wl_un (fun v => Instr.extract v 1) (.tmp 10) (.tuple #[.int .i64 ((kk : Nat) : Int), .bool true]) (.bool true) (fun _ => rfl) rfl (by kernel_rfl) rfl ?_
    refine wl_mv (.tmp 18) (.int .i64 ((kk : Nat) : Int)) (fun _ => rfl) rfl rfl ?_
    refine wl_mv (.tmp 19) (.bool true) (fun _ => rfl) rfl rfl ?_
    refine w_nil ?_
    refine xn_then ?_
    refine w_seq ?_
    refine w_seq ?_
    refine w_reg ?_
    refine wl_mv (.tmp 7) (.bool true) (fun _ => rfl) rfl rfl ?_
    refine wl_un (fun v => Op.unary .not v) (.tmp 20) (.bool true) (.bool false) (fun _ => rfl) rfl (by kernel_rfl) rfl ?_
    refine w_nil ?_
    refine xn_then ?_
    refine w_condF rfl ?_
    refine w_skip ?_
    refine xn_then ?_
    refine w_seq ?_
    refine w_seq ?_
    refine w_reg ?_
    refine wl_un (fun v => Instr.fieldAt 52 v 1) (.tmp 3) (pt k2 0) (pt k2 1) (fun _ => rfl) rfl (by kernel_rfl) rfl ?_
    refine wl_load 3 (.tmp 22) (pt k2 1) (.int .i64 (x.op)) rfl rfl (run_one Q2 3 1 rfl Tryz.underlying3 rfl) rfl ?_
    cases hf1 : decide (x.op = 16) with
    | true =>
      have hf1p := of_decide_eq_true hf1
      refine wl_bin (fun x y => do eqGuard .eql 3 (.tmp 23) (.const (.int .i64 (16))) x y; binOp .eql 3 x y) (.tmp 23) (.const (.int .i64 (16))) (.int .i64 (x.op)) (.int .i64 (16)) (.bool true) (fun _ => rfl) rfl rfl (eq3 hf1 _ _ _) rfl ?_
      refine w_nil ?_
      refine xn_then ?_
      refine w_condT rfl ?_
      refine w_seq ?_
      refine w_seq ?_
      refine w_reg ?_
      refine wl_un (fun v => Instr.fieldAt 52 v 2) (.tmp 3) (pt k2 0) (pt k2 2) (fun _ => rfl) rfl (by kernel_rfl) rfl ?_
      refine wl_load 9 (.tmp 25) (pt k2 2) (.string x.nm) rfl rfl (run_one Q2 9 2 rfl Tryz.underlying9 rfl) rfl ?_
      cases hf2 : decide (x.nm = ⟨#[]⟩) with
      | true =>
        have hf2p := of_decide_eq_true hf2
        refine wl_bin (fun x y => do eqGuard .neq 9 (.tmp 26) (.const (.string ⟨#[]⟩)) x y; binOp .neq 9 x y) (.tmp 26) (.const (.string ⟨#[]⟩)) (.string x.nm) (.string ⟨#[]⟩) (.bool false) (fun _ => rfl) rfl rfl (sn9 hf2 _ _ _) rfl ?_
        refine w_nil ?_
        refine xn_then ?_
        refine w_condF rfl ?_
        refine w_skip ?_
        refine xn_then ?_
        refine w_seq ?_
        refine w_reg ?_
        refine wl_mv (.const (.int .i64 (1))) (.int .i64 (1)) (fun _ => rfl) rfl rfl ?_
        refine wl_mv (.const (.int .i64 (0))) (.int .i64 (0)) (fun _ => rfl) rfl rfl ?_
        refine w_nil ?_
        refine xn_then ?_
        refine w_ret ?_
        refine xr_then ?_
        exact w_ret2 _ _ (.int .i64 (1)) (.int .i64 (0)) rfl rfl rfl ⟨by unfold agK; rw [hkk]; simp only [hf1p, hf2p]; rfl, M⟩
      | false =>
        have hf2p := of_decide_eq_false hf2
        refine wl_bin (fun x y => do eqGuard .neq 9 (.tmp 26) (.const (.string ⟨#[]⟩)) x y; binOp .neq 9 x y) (.tmp 26) (.const (.string ⟨#[]⟩)) (.string x.nm) (.string ⟨#[]⟩) (.bool true) (fun _ => rfl) rfl rfl (sn9 hf2 _ _ _) rfl ?_
        refine w_nil ?_
        refine xn_then ?_
        refine w_condT rfl ?_
        refine w_seq ?_
        refine w_reg ?_
        refine wl_mv (.const (.int .i64 (0))) (.int .i64 (0)) (fun _ => rfl) rfl rfl ?_
        refine wl_mv (.const (.int .i64 (100))) (.int .i64 (100)) (fun _ => rfl) rfl rfl ?_
        refine w_nil ?_
        refine xn_then ?_
        refine w_ret ?_
        refine xr_then ?_
        refine xr_then ?_
        exact w_ret2 _ _ (.int .i64 (0)) (.int .i64 (100)) rfl rfl rfl ⟨by unfold agK; rw [hkk]; simp only [hf1p, hf2p]; rfl, M⟩
    | false =>
      have hf1p := of_decide_eq_false hf1
      refine wl_bin (fun x y => do eqGuard .eql 3 (.tmp 23) (.const (.int .i64 (16))) x y; binOp .eql 3 x y) (.tmp 23) (.const (.int .i64 (16))) (.int .i64 (x.op)) (.int .i64 (16)) (.bool false) (fun _ => rfl) rfl rfl (eq3 hf1 _ _ _) rfl ?_
      refine w_nil ?_
      refine xn_then ?_
      refine w_condF rfl ?_
      refine w_skip ?_
      refine xn_then ?_
      refine w_seq ?_
      refine w_reg ?_
      refine wl_un (fun v => Instr.fieldAt 65 v 1) (.tmp 2) (pt k1 0) (pt k1 7) (fun _ => rfl) rfl (by kernel_rfl) rfl ?_
      refine wl_load 37 (.tmp 29) (pt k1 7) (.slice sp L.length sc) rfl rfl (run_one Q1 37 7 rfl Tryz.underlying37 rfl) rfl ?_
      refine wl_mv (.tmp 6) (.int .i64 ((kk : Nat) : Int)) (fun _ => rfl) rfl rfl ?_
      refine wl_un (fun v => Instr.fieldAt 52 v 2) (.tmp 3) (pt k2 0) (pt k2 2) (fun _ => rfl) rfl (by kernel_rfl) rfl ?_
      refine wl_load 9 (.tmp 32) (pt k2 2) (.string x.nm) rfl rfl (run_one Q2 9 2 rfl Tryz.underlying9 rfl) rfl ?_
      cases hf2 : (fnF L x.nm (kk + 1)).isSome with
      | true =>
        obtain ⟨⟨kz, iz⟩, hrz⟩ := Option.isSome_iff_exists.1 hf2
        obtain ⟨xz, yz, hxz, hyz⟩ := fnF_some _ hrz
        have hmxz := List.mem_of_getElem? hxz
        have hcz := find_s (hR.ls.kp M.kp) (fun x hx => (hR.it x hx).kp M.kp) hR.wf hR.ln kk hkl x.nm (c := sc)
        rw [hrz] at hcz
        refine wl_call 122 [(.tmp 30), (.tmp 31), (.tmp 33)] _ [.slice sp L.length sc, .int .i64 ((kk : Nat) : Int), .string x.nm] (.tuple #[.int .i64 ((kz : Nat) : Int), .int .i64 ((iz : Nat) : Int), .bool true]) rfl rfl (fun _ _ => by kernel_rfl) (hcz) rfl ?_
        intro u4 hq
        replace Q1 := Q1.mo hq
        replace Q2 := Q2.mo hq
        replace M := M.trans hq
        clear hq
        refine wl_mv (.tmp 34) (.tuple #[.int .i64 ((kz : Nat) : Int), .int .i64 ((iz : Nat) : Int), .bool true]) (fun _ => rfl) rfl rfl ?_
        refine wl_un (fun v => Instr.extract v 0) (.tmp 28) (.tuple #[.int .i64 ((kz : Nat) : Int), .int .i64 ((iz : Nat) : Int), .bool true]) (.int .i64 ((kz : Nat) : Int)) (fun _ => rfl) rfl (by kernel_rfl) rfl ?_
        refine wl_un (fun v => Instr.extract v 1) (.tmp 28) (.tuple #[.int .i64 ((kz : Nat) : Int), .int .i64 ((iz : Nat) : Int), .bool true]) (.int .i64 ((iz : Nat) : Int)) (fun _ => rfl) rfl (by kernel_rfl) rfl ?_
        refine wl_un (fun v => Instr.extract v 2) (.tmp 28) (.tuple #[.int .i64 ((kz : Nat) : Int), .int .i64 ((iz : Nat) : Int), .bool true]) (.bool true) (fun _ => rfl) rfl (by kernel_rfl) rfl ?_
        refine wl_mv (.tmp 35) (.int .i64 ((kz : Nat) : Int)) (fun _ => rfl) rfl rfl ?_
        refine wl_mv (.tmp 36) (.int .i64 ((iz : Nat) : Int)) (fun _ => rfl) rfl rfl ?_
        refine wl_mv (.tmp 37) (.bool true) (fun _ => rfl) rfl rfl ?_
        refine w_nil ?_
        refine xn_then ?_
        refine w_seq ?_
        refine w_seq ?_
        refine w_reg ?_
        refine wl_mv (.tmp 7) (.bool true) (fun _ => rfl) rfl rfl ?_
        refine wl_un (fun v => Op.unary .not v) (.tmp 38) (.bool true) (.bool false) (fun _ => rfl) rfl (by kernel_rfl) rfl ?_
        refine wl_mv (.tmp 39) (.bool false) (fun _ => rfl) rfl rfl ?_
        refine wl_mv (.tmp 8) (.int .i64 ((kz : Nat) : Int)) (fun _ => rfl) rfl rfl ?_
        refine wl_mv (.tmp 6) (.int .i64 ((kk : Nat) : Int)) (fun _ => rfl) rfl rfl ?_
        cases hf3 : decide (((kz : Nat) : Int) = ((kk : Nat) : Int)) with
        | true =>
          have hf3p := of_decide_eq_true hf3
          refine wl_bin (fun x y => do eqGuard .neq 3 (.tmp 41) (.tmp 42) x y; binOp .neq 3 x y) (.tmp 41) (.tmp 42) (.int .i64 ((kz : Nat) : Int)) (.int .i64 ((kk : Nat) : Int)) (.bool false) (fun _ => rfl) rfl rfl (ne3 hf3 _ _ _) rfl ?_
          refine wl_pick (.tmp 40) (.const (.bool true)) (.tmp 43) false (.bool false) (fun _ => rfl) rfl rfl rfl ?_
          refine w_nil ?_
          refine xn_then ?_
          refine w_condF rfl ?_
          refine w_skip ?_
          refine xn_then ?_
          refine w_seq ?_
          have hxk : L[kk]? = some xz := by rw [show kk = kz by omega]; exact hxz
          obtain ⟨buk, ouk, hpuk, hRuk⟩ := D.SL.rw hR.ls hxk
          obtain ⟨bvz, ovz, hpvz, hRvz⟩ := D.SL.rw (hR.it xz hmxz) hyz
          refine w_any 17 [.inl (pt k2 1), .inl (.int .i64 (x.op)), .inl (pt k1 7), .inl (.slice sp L.length sc), .inl (.int .i64 ((kk : Nat) : Int)), .inl (pt buk (ouk + kk * 5)), .inl (pt buk (ouk + kk * 5 + 4)), .inl (.slice xz.pi xz.items.length xz.ci), .inl (.int .i64 ((iz : Nat) : Int)), .inl (pt bvz (ovz + iz * 23)), .inl (pt bvz (ovz + iz * 23 + 2)), .inl (pt bvz (ovz + iz * 23 + 2)), .inl (.int .i64 (yz.tk)), .inl (.int .i64 (colK x.op yz.tk)), .inl (.tuple #[.int .i64 ((sui (colK x.op yz.tk)).1), .int .i64 ((sui (colK x.op yz.tk)).2)]), .inl (.int .i64 ((sui (colK x.op yz.tk)).1)), .inl (.int .i64 ((sui (colK x.op yz.tk)).2))] [] (by kernel_rfl) (by kernel_rfl) (by kernel_rfl) (by kernel_rfl) rfl (by kernel_rfl) (by kernel_rfl) late_nil ?_ ?_ ?_
          · exact Ds.none rfl
          · refine ea_cons ?_ (ea_cons ?_ (ea_cons ?_ (ea_cons ?_ (ea_cons ?_ (ea_cons ?_ (ea_cons ?_ (ea_cons ?_ (ea_cons ?_ (ea_cons ?_ (ea_cons ?_ (ea_cons ?_ (ea_cons ?_ (ea_cons ?_ (ea_cons ?_ (ea_cons ?_ (ea_cons ?_ (ea_nil)))))))))))))))))
            · exact og_eq (pt k2 1) rfl (fun f wf hq hd K hK => go_run rfl (wo_un (fun v => Instr.fieldAt 52 v 1) (.tmp 3) (pt k2 0) (pt k2 1) (fun _ => rfl) rfl (by kernel_rfl) (hK _ (Mo.refl _))))
            · exact og_eq (.int .i64 (x.op)) rfl (fun f wf hq hd K hK => have Q2 := Q2.mo hq; go_run rfl (wo_load 3 (.tmp 45) (pt k2 1) (.int .i64 (x.op)) rfl (hd 0 rfl) (run_one Q2 3 1 rfl Tryz.underlying3 rfl) (hK _ (Mo.refl _))))
            · exact og_eq (pt k1 7) rfl (fun f wf hq hd K hK => go_run rfl (wo_un (fun v => Instr.fieldAt 65 v 1) (.tmp 2) (pt k1 0) (pt k1 7) (fun _ => rfl) rfl (by kernel_rfl) (hK _ (Mo.refl _))))
            · exact og_eq (.slice sp L.length sc) rfl (fun f wf hq hd K hK => have Q1 := Q1.mo hq; go_run rfl (wo_load 37 (.tmp 47) (pt k1 7) (.slice sp L.length sc) rfl (hd 2 rfl) (run_one Q1 37 7 rfl Tryz.underlying37 rfl) (hK _ (Mo.refl _))))
            · exact og_eq (.int .i64 ((kk : Nat) : Int)) rfl (fun f wf hq hd K hK => go_run rfl (wo_mv (.tmp 6) (.int .i64 ((kk : Nat) : Int)) (fun _ => rfl) rfl (hK _ (Mo.refl _))))
            · exact og_eq (pt buk (ouk + kk * 5)) rfl (fun f wf hq hd K hK => go_run rfl (wo_bin (fun x y => Instr.indexAt 37 x y) (.tmp 48) (.tmp 49) (.slice sp L.length sc) (.int .i64 ((kk : Nat) : Int)) (pt buk (ouk + kk * 5)) (fun _ => rfl) (hd 3 rfl) (hd 4 rfl) (ix37 (i := kk) hpuk hkl _) (hK _ (Mo.refl _))))
            · exact og_eq (pt buk (ouk + kk * 5 + 4)) rfl (fun f wf hq hd K hK => go_run rfl (wo_un (fun v => Instr.fieldAt 40 v 4) (.tmp 50) (pt buk (ouk + kk * 5)) (pt buk (ouk + kk * 5 + 4)) (fun _ => rfl) (hd 5 rfl) (by kernel_rfl) (hK _ (Mo.refl _))))
            · exact og_eq (.slice xz.pi xz.items.length xz.ci) rfl (fun f wf hq hd K hK => go_run rfl (wo_load 22 (.tmp 51) (pt buk (ouk + kk * 5 + 4)) (.slice xz.pi xz.items.length xz.ci) rfl (hd 6 rfl) (D.run_oneR (hRuk.mo (M.trans hq)).at' 22 4 rfl Tryz.underlying22 rfl) (hK _ (Mo.refl _))))
            · exact og_eq (.int .i64 ((iz : Nat) : Int)) rfl (fun f wf hq hd K hK => go_run rfl (wo_mv (.tmp 9) (.int .i64 ((iz : Nat) : Int)) (fun _ => rfl) rfl (hK _ (Mo.refl _))))
            · exact og_eq (pt bvz (ovz + iz * 23)) rfl (fun f wf hq hd K hK => go_run rfl (wo_bin (fun x y => Instr.indexAt 22 x y) (.tmp 52) (.tmp 53) (.slice xz.pi xz.items.length xz.ci) (.int .i64 ((iz : Nat) : Int)) (pt bvz (ovz + iz * 23)) (fun _ => rfl) (hd 7 rfl) (hd 8 rfl) (ix22 (i := iz) hpvz (lt_of_get hyz) _) (hK _ (Mo.refl _))))
            · exact og_eq (pt bvz (ovz + iz * 23 + 2)) rfl (fun f wf hq hd K hK => go_run rfl (wo_un (fun v => Instr.fieldAt 54 v 2) (.tmp 54) (pt bvz (ovz + iz * 23)) (pt bvz (ovz + iz * 23 + 2)) (fun _ => rfl) (hd 9 rfl) (by kernel_rfl) (hK _ (Mo.refl _))))
            · exact og_eq (pt bvz (ovz + iz * 23 + 2)) rfl (fun f wf hq hd K hK => go_run rfl (wo_un (fun v => Instr.fieldAt 42 v 0) (.tmp 55) (pt bvz (ovz + iz * 23 + 2)) (pt bvz (ovz + iz * 23 + 2)) (fun _ => rfl) (hd 10 rfl) (by kernel_rfl) (hK _ (Mo.refl _))))
            · exact og_eq (.int .i64 (yz.tk)) rfl (fun f wf hq hd K hK => go_run rfl (wo_load 3 (.tmp 56) (pt bvz (ovz + iz * 23 + 2)) (.int .i64 (yz.tk)) rfl (hd 11 rfl) (D.run_oneR (hRvz.mo (M.trans hq)).at' 3 2 rfl Tryz.underlying3 rfl) (hK _ (Mo.refl _))))
            · exact og_eq (.int .i64 (colK x.op yz.tk)) rfl (fun f wf hq hd K hK => go_run rfl (wo_call 124 [(.tmp 46), (.tmp 57)] _ [.int .i64 (x.op), .int .i64 (yz.tk)] (.int .i64 (colK x.op yz.tk)) rfl (li2 (hd 1 rfl) (hd 12 rfl)) (fun _ _ => by kernel_rfl) (colK_n x.op yz.tk _) hK))
            · exact og_eq (.tuple #[.int .i64 ((sui (colK x.op yz.tk)).1), .int .i64 ((sui (colK x.op yz.tk)).2)]) rfl (fun f wf hq hd K hK => go_run rfl (wo_call 107 [(.tmp 58)] _ [.int .i64 (colK x.op yz.tk)] (.tuple #[.int .i64 ((sui (colK x.op yz.tk)).1), .int .i64 ((sui (colK x.op yz.tk)).2)]) rfl (li1 (hd 13 rfl)) (fun _ _ => by kernel_rfl) (sui_n (colK x.op yz.tk) _) hK))
            · exact og_eq (.int .i64 ((sui (colK x.op yz.tk)).1)) rfl (fun f wf hq hd K hK => go_run rfl (wo_un (fun v => Instr.extract v 0) (.tmp 59) (.tuple #[.int .i64 ((sui (colK x.op yz.tk)).1), .int .i64 ((sui (colK x.op yz.tk)).2)]) (.int .i64 ((sui (colK x.op yz.tk)).1)) (fun _ => rfl) (hd 14 rfl) (by kernel_rfl) (hK _ (Mo.refl _))))
            · exact og_eq (.int .i64 ((sui (colK x.op yz.tk)).2)) rfl (fun f wf hq hd K hK => go_run rfl (wo_un (fun v => Instr.extract v 1) (.tmp 59) (.tuple #[.int .i64 ((sui (colK x.op yz.tk)).1), .int .i64 ((sui (colK x.op yz.tk)).2)]) (.int .i64 ((sui (colK x.op yz.tk)).2)) (fun _ => rfl) (hd 14 rfl) (by kernel_rfl) (hK _ (Mo.refl _))))
          intro kf5 u5 hq hR hne
          replace Q1 := Q1.mo hq
          replace Q2 := Q2.mo hq
          replace M := M.trans hq
          clear hq hR hne
          refine wl_mv (.tmp 60) (.int .i64 ((sui (colK x.op yz.tk)).1)) (fun _ => rfl) rfl rfl ?_
          refine wl_mv (.tmp 61) (.int .i64 ((sui (colK x.op yz.tk)).2)) (fun _ => rfl) rfl rfl ?_
          refine w_nil ?_
          refine xn_then ?_
          refine w_ret ?_
          exact w_ret2 _ _ (.int .i64 ((sui (colK x.op yz.tk)).1)) (.int .i64 ((sui (colK x.op yz.tk)).2)) rfl rfl rfl ⟨by rw [agK_of hkk hf1p hrz (by omega) (itA_of hxz hyz)], M⟩
        | false =>
          have hf3p := of_decide_eq_false hf3
          refine wl_bin (fun x y => do eqGuard .neq 3 (.tmp 41) (.tmp 42) x y; binOp .neq 3 x y) (.tmp 41) (.tmp 42) (.int .i64 ((kz : Nat) : Int)) (.int .i64 ((kk : Nat) : Int)) (.bool true) (fun _ => rfl) rfl rfl (ne3 hf3 _ _ _) rfl ?_
          refine wl_pick (.tmp 40) (.const (.bool true)) (.tmp 43) false (.bool true) (fun _ => rfl) rfl rfl rfl ?_
          refine w_nil ?_
          refine xn_then ?_
          refine w_condT rfl ?_
          refine w_seq ?_
          refine w_reg ?_
          refine wl_mv (.const (.int .i64 (0))) (.int .i64 (0)) (fun _ => rfl) rfl rfl ?_
          refine wl_mv (.const (.int .i64 (91))) (.int .i64 (91)) (fun _ => rfl) rfl rfl ?_
          refine w_nil ?_
          refine xn_then ?_
          refine w_ret ?_
          refine xr_then ?_
          exact w_ret2 _ _ (.int .i64 (0)) (.int .i64 (91)) rfl rfl rfl ⟨by unfold agK; rw [hkk]; simp only [hf1p, hrz]; rw [if_neg (show ¬ kz = kk by omega)]; simp only [if_false], M⟩
      | false =>
        have hrz : fnF L x.nm (kk + 1) = none := by simpa using hf2
        have hcz := find_s (hR.ls.kp M.kp) (fun x hx => (hR.it x hx).kp M.kp) hR.wf hR.ln kk hkl x.nm (c := sc)
        rw [hrz] at hcz
        refine wl_call 122 [(.tmp 30), (.tmp 31), (.tmp 33)] _ [.slice sp L.length sc, .int .i64 ((kk : Nat) : Int), .string x.nm] (.tuple #[.int .i64 (0), .int .i64 (0), .bool false]) rfl rfl (fun _ _ => by kernel_rfl) (hcz) rfl ?_
        intro u4 hq
        replace Q1 := Q1.mo hq
        replace Q2 := Q2.mo hq
        replace M := M.trans hq
        clear hq
        refine wl_mv (.tmp 34) (.tuple #[.int .i64 (0), .int .i64 (0), .bool false]) (fun _ => rfl) rfl rfl ?_
        refine wl_un (fun v => Instr.extract v 0) (.tmp 28) (.tuple #[.int .i64 (0), .int .i64 (0), .bool false]) (.int .i64 (0)) (fun _ => rfl) rfl (by kernel_rfl) rfl ?_
        refine wl_un (fun v => Instr.extract v 1) (.tmp 28) (.tuple #[.int .i64 (0), .int .i64 (0), .bool false]) (.int .i64 (0)) (fun _ => rfl) rfl (by kernel_rfl) rfl ?_
        refine wl_un (fun v => Instr.extract v 2) (.tmp 28) (.tuple #[.int .i64 (0), .int .i64 (0), .bool false]) (.bool false) (fun _ => rfl) rfl (by kernel_rfl) rfl ?_
        refine wl_mv (.tmp 35) (.int .i64 (0)) (fun _ => rfl) rfl rfl ?_
        refine wl_mv (.tmp 36) (.int .i64 (0)) (fun _ => rfl) rfl rfl ?_
        refine wl_mv (.tmp 37) (.bool false) (fun _ => rfl) rfl rfl ?_
        refine w_nil ?_
        refine xn_then ?_
        refine w_seq ?_
        refine w_seq ?_
        refine w_reg ?_
        refine wl_mv (.tmp 7) (.bool false) (fun _ => rfl) rfl rfl ?_
        refine wl_un (fun v => Op.unary .not v) (.tmp 38) (.bool false) (.bool true) (fun _ => rfl) rfl (by kernel_rfl) rfl ?_
        refine wl_mv (.tmp 39) (.bool true) (fun _ => rfl) rfl rfl ?_
        refine wl_skip rfl ?_
        refine wl_skip rfl ?_
        refine wl_skip rfl ?_
        refine wl_pick (.tmp 40) (.const (.bool true)) (.tmp 43) true (.bool true) (fun _ => rfl) rfl rfl rfl ?_
        refine w_nil ?_
        refine xn_then ?_
        refine w_condT rfl ?_
        refine w_seq ?_
        refine w_reg ?_
        refine wl_mv (.const (.int .i64 (0))) (.int .i64 (0)) (fun _ => rfl) rfl rfl ?_
        refine wl_mv (.const (.int .i64 (91))) (.int .i64 (91)) (fun _ => rfl) rfl rfl ?_
        refine w_nil ?_
        refine xn_then ?_
        refine w_ret ?_
        refine xr_then ?_
        exact w_ret2 _ _ (.int .i64 (0)) (.int .i64 (91)) rfl rfl rfl ⟨by unfold agK; rw [hkk]; simp only [hf1p, hrz]; rfl, M⟩
  | false =>
    have hck := kid_n (hR.ls.kp M.kp) (c := sc) ((s : Nat) : Int) x.se
    have hkk : L.findIdx? (pKd s x.se) = none := by simpa using hf0
    rw [show L.findIdx? (fun y : S5 => decide (y.pr = ((s : Nat) : Int)) && decide (y.nm = x.se)) = none from hkk] at hck
    refine wl_call 123 [(.tmp 12), (.tmp 14), (.tmp 16)] _ [.slice sp L.length sc, .int .i64 ((s : Nat) : Int), .string x.se] (.tuple #[.int .i64 (0), .bool false]) rfl rfl (fun _ _ => by kernel_rfl) (hck) rfl ?_
    intro u3 hq
    replace Q1 := Q1.mo hq
    replace Q2 := Q2.mo hq
    replace M := M.trans hq
    clear hq
    refine wl_mv (.tmp 17) (.tuple #[.int .i64 (0), .bool false]) (fun _ => rfl) rfl rfl ?_
    refine wl_un (fun v => Instr.extract v 0) (.tmp 10) (.tuple #[.int .i64 (0), .bool false]) (.int .i64 (0)) (fun _ => rfl) rfl (by kernel_rfl) rfl ?_
    refine wl_un (fun v => Instr.extract v 1) (.tmp 10) (.tuple #[.int .i64 (0), .bool false]) (.bool false) (fun _ => rfl) rfl (by kernel_rfl) rfl ?_
    refine wl_mv (.tmp 18) (.int .i64 (0)) (fun _ => rfl) rfl rfl ?_
    refine wl_mv (.tmp 19) (.bool false) (fun _ => rfl) rfl rfl ?_
    refine w_nil ?_
    refine xn_then ?_
    refine w_seq ?_
    refine w_seq ?_
    refine w_reg ?_
    refine wl_mv (.tmp 7) (.bool false) (fun _ => rfl) rfl rfl ?_
    refine wl_un (fun v => Op.unary .not v) (.tmp 20) (.bool false) (.bool true) (fun _ => rfl) rfl (by kernel_rfl) rfl ?_
    refine w_nil ?_
    refine xn_then ?_
    refine w_condT rfl ?_
    refine w_seq ?_
    refine w_reg ?_
    refine wl_mv (.const (.int .i64 (0))) (.int .i64 (0)) (fun _ => rfl) rfl rfl ?_
    refine wl_mv (.const (.int .i64 (91))) (.int .i64 (91)) (fun _ => rfl) rfl rfl ?_
    refine w_nil ?_
    refine xn_then ?_
    refine w_ret ?_
    refine xr_then ?_
    exact w_ret2 _ _ (.int .i64 (0)) (.int .i64 (91)) rfl rfl rfl ⟨by unfold agK; rw [hkk], M⟩
end Go.Proofs.YtepfokoepibkcaaGreat

