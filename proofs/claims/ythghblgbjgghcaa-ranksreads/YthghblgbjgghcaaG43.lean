/-
  The law of what reads what.
-/
import Derived.Test.YthghblgbjgghcaaGrb
namespace Go.Proofs.Ythghblgbjgghcaa
open Go.RowKit D
theorem rdl_n {w : World} {l : List S5} {pl : Option Addr} {cl : Nat} (hL : SL w 5 S5.cells pl l) (hLx : ∀ x ∈ l, LS5 w x) (hz : l.length < 400000) (hzI : nI l < 400000) (hnd : ∀ y ∈ l, ∀ z ∈ y.items, nd z.ex ≤ 3000000) (hcl : l.length ≤ cl) (hci : ∀ x ∈ l, x.items.length ≤ x.ci) (n sc it : Int) (hn : n ≤ 9223372036854775807) : Calls Try.prog 3 #[.agg #[.slice pl l.length cl, .int .i64 n, .int .i64 sc, .int .i64 it]] w fun e w' => e = .returned (.bool true) ∧ Mo w w' := by
  obtain ⟨a9, b9, hnu⟩ := nuA_form l sc it
  refine w_enter 111 Try.func3 Try.ntmps3 rfl rfl ?_
  have M : Mo w w := Mo.refl _
  refine w_seq ?_
  refine w_reg ?_
  refine wl_boxO 24 (.tmp 0) (.agg #[.slice pl l.length cl, .int .i64 n, .int .i64 sc, .int .i64 it]) [.slice pl l.length cl, .int .i64 n, .int .i64 sc, .int .i64 it] rfl rfl (fun _ => by kernel_rfl) rfl ?_
  intro k1 u1 hk hz9 hq O1
  have Q1 := O1.at
  have N_k1 : w.heap.size ≤ k1 := by have := M.size; omega
  replace M := M.trans hq
  clear hk hz9 hq
  refine wl_mv (.const (.bool false)) (.bool false) (fun _ => rfl) rfl rfl ?_
  refine w_nil ?_
  refine xn_then ?_
  refine w_seq ?_
  have hsm9 : Smos [vq (pt k1 0), vq (.slice pl l.length cl), vq (pt k1 1), vq (.int .i64 (n)), vq (pt k1 2), vq (.int .i64 (sc)), vq (pt k1 3), vq (.int .i64 (it)), vq (.slice pl l.length cl), vq (.int .i64 (n)), vq (.int .i64 (sc)), vq (.int .i64 (it))] := smos_cons (smo_vq _) (smos_cons (smo_vq _) (smos_cons (smo_vq _) (smos_cons (smo_vq _) (smos_cons (smo_vq _) (smos_cons (smo_vq _) (smos_cons (smo_vq _) (smos_cons (smo_vq _) (smos_cons (smo_vq _) (smos_cons (smo_vq _) (smos_cons (smo_vq _) (smos_cons (smo_vq _) (smos_nil))))))))))))
  refine w_ogc 12 (fun w9 => Mo u1 w9) [vq (pt k1 0), vq (.slice pl l.length cl), vq (pt k1 1), vq (.int .i64 (n)), vq (pt k1 2), vq (.int .i64 (sc)), vq (pt k1 3), vq (.int .i64 (it)), vq (.slice pl l.length cl), vq (.int .i64 (n)), vq (.int .i64 (sc)), vq (.int .i64 (it))] [] (by kernel_rfl) (by kernel_rfl) (by kernel_rfl) (by kernel_rfl) rfl (by kernel_rfl) (by kernel_rfl) latec_nil ((Mo.refl _).drew) ?_ ?_
  · refine ea_cons ?_ (ea_cons ?_ (ea_cons ?_ (ea_cons ?_ (ea_cons ?_ (ea_cons ?_ (ea_cons ?_ (ea_cons ?_ (ea_cons ?_ (ea_cons ?_ (ea_cons ?_ (ea_cons ?_ (ea_nil))))))))))))
    · exact oc_eq (pt k1 0) rfl (fun _ _ h m => h.trans m) hsm9 (fun f wf hq hd K hK => go_run rfl (wo_un (fun v => Instr.fieldAt 24 v 0) (.tmp 1) (pt k1 0) (pt k1 0) (fun _ => rfl) rfl (by kernel_rfl) (hK _ (Mo.refl _))))
    · exact oc_eq (.slice pl l.length cl) rfl (fun _ _ h m => h.trans m) hsm9 (fun f wf hq hd K hK => have Q1 := Q1.mo hq; go_run rfl (wo_load 22 (.tmp 17) (pt k1 0) (.slice pl l.length cl) rfl (hd 0 rfl) (run_one Q1 22 0 rfl Try.underlying22 rfl) (hK _ (Mo.refl _))))
    · exact oc_eq (pt k1 1) rfl (fun _ _ h m => h.trans m) hsm9 (fun f wf hq hd K hK => go_run rfl (wo_un (fun v => Instr.fieldAt 24 v 1) (.tmp 1) (pt k1 0) (pt k1 1) (fun _ => rfl) rfl (by kernel_rfl) (hK _ (Mo.refl _))))
    · exact oc_eq (.int .i64 (n)) rfl (fun _ _ h m => h.trans m) hsm9 (fun f wf hq hd K hK => have Q1 := Q1.mo hq; go_run rfl (wo_load 3 (.tmp 19) (pt k1 1) (.int .i64 (n)) rfl (hd 2 rfl) (run_one Q1 3 1 rfl Try.underlying3 rfl) (hK _ (Mo.refl _))))
    · exact oc_eq (pt k1 2) rfl (fun _ _ h m => h.trans m) hsm9 (fun f wf hq hd K hK => go_run rfl (wo_un (fun v => Instr.fieldAt 24 v 2) (.tmp 1) (pt k1 0) (pt k1 2) (fun _ => rfl) rfl (by kernel_rfl) (hK _ (Mo.refl _))))
    · exact oc_eq (.int .i64 (sc)) rfl (fun _ _ h m => h.trans m) hsm9 (fun f wf hq hd K hK => have Q1 := Q1.mo hq; go_run rfl (wo_load 3 (.tmp 21) (pt k1 2) (.int .i64 (sc)) rfl (hd 4 rfl) (run_one Q1 3 2 rfl Try.underlying3 rfl) (hK _ (Mo.refl _))))
    · exact oc_eq (pt k1 3) rfl (fun _ _ h m => h.trans m) hsm9 (fun f wf hq hd K hK => go_run rfl (wo_un (fun v => Instr.fieldAt 24 v 3) (.tmp 1) (pt k1 0) (pt k1 3) (fun _ => rfl) rfl (by kernel_rfl) (hK _ (Mo.refl _))))
    · exact oc_eq (.int .i64 (it)) rfl (fun _ _ h m => h.trans m) hsm9 (fun f wf hq hd K hK => have Q1 := Q1.mo hq; go_run rfl (wo_load 3 (.tmp 23) (pt k1 3) (.int .i64 (it)) rfl (hd 6 rfl) (run_one Q1 3 3 rfl Try.underlying3 rfl) (hK _ (Mo.refl _))))
    · exact oc_eq (.slice pl l.length cl) rfl (fun _ _ h m => h.trans m) hsm9 (fun f wf hq hd K hK => go_run rfl (wo_mv (.tmp 18) (.slice pl l.length cl) (fun _ => rfl) (hd 1 rfl) (hK _ (Mo.refl _))))
    · exact oc_eq (.int .i64 (n)) rfl (fun _ _ h m => h.trans m) hsm9 (fun f wf hq hd K hK => go_run rfl (wo_mv (.tmp 20) (.int .i64 (n)) (fun _ => rfl) (hd 3 rfl) (hK _ (Mo.refl _))))
    · exact oc_eq (.int .i64 (sc)) rfl (fun _ _ h m => h.trans m) hsm9 (fun f wf hq hd K hK => go_run rfl (wo_mv (.tmp 22) (.int .i64 (sc)) (fun _ => rfl) (hd 5 rfl) (hK _ (Mo.refl _))))
    · exact oc_eq (.int .i64 (it)) rfl (fun _ _ h m => h.trans m) hsm9 (fun f wf hq hd K hK => go_run rfl (wo_mv (.tmp 24) (.int .i64 (it)) (fun _ => rfl) (hd 7 rfl) (hK _ (Mo.refl _))))
  intro f u2 hq hR9
  have er0 := hR9 0 rfl
  have er1 := hR9 1 rfl
  have er2 := hR9 2 rfl
  have er3 := hR9 3 rfl
  have er4 := hR9 4 rfl
  have er5 := hR9 5 rfl
  have er6 := hR9 6 rfl
  have er7 := hR9 7 rfl
  have er8 := hR9 8 rfl
  have er9 := hR9 9 rfl
  have er10 := hR9 10 rfl
  have er11 := hR9 11 rfl
  clear hR9 hsm9
  replace Q1 := Q1.mo hq
  replace O1 := O1.mo hq
  replace M := M.trans hq
  clear hq
  refine w_nil ?_
  refine xn_then ?_
  refine w_seq ?_
  refine w_seq ?_
  refine w_reg ?_
  refine wl_mv (.tmp 3) (.slice pl l.length cl) (fun _ => rfl) er8 rfl ?_
  refine wl_callx 8 [(.tmp 25)] _ [.slice pl l.length cl] rfl rfl (fun _ _ => by kernel_rfl) (small_n (hL.kp M.kp) (fun x hx => (hLx x hx).kp M.kp) hcl hci) rfl ?_
  rintro e9 u3 ⟨bs, rfl, hq⟩
  refine ⟨_, rfl, ?_⟩
  replace Q1 := Q1.mo hq
  replace O1 := O1.mo hq
  replace M := M.trans hq
  clear hq
  cases bs with
  | true =>
    refine wl_un (fun v => Op.unary .not v) (.tmp 26) (.bool true) (.bool false) (fun _ => rfl) rfl (by kernel_rfl) rfl ?_
    refine wl_mv (.tmp 27) (.bool false) (fun _ => rfl) rfl rfl ?_
    refine wl_callx 9 [] _ [] rfl rfl (fun _ _ => by kernel_rfl) (live_n _) rfl ?_
    rintro e9 u4 ⟨rfl, hq⟩
    refine ⟨_, rfl, ?_⟩
    replace Q1 := Q1.mo hq
    replace O1 := O1.mo hq
    replace M := M.trans hq
    clear hq
    refine wl_un (fun v => Op.unary .not v) (.tmp 29) (.bool true) (.bool false) (fun _ => rfl) rfl (by kernel_rfl) rfl ?_
    refine wl_pick (.tmp 28) (.const (.bool true)) (.tmp 30) false (.bool false) (fun _ => rfl) rfl rfl rfl ?_
    refine w_nil ?_
    refine xn_then ?_
    refine w_condF rfl ?_
    refine w_skip ?_
    refine xn_then ?_
    refine w_seq ?_
    refine w_reg ?_
    refine wl_mv (.tmp 3) (.slice pl l.length cl) (fun _ => rfl) er8 rfl ?_
    refine wl_mv (.tmp 5) (.int .i64 (sc)) (fun _ => rfl) er10 rfl ?_
    refine wl_mv (.tmp 6) (.int .i64 (it)) (fun _ => rfl) er11 rfl ?_
    refine wl_callx 10 [(.tmp 34), (.tmp 35), (.tmp 36)] _ [.slice pl l.length cl, .int .i64 (sc), .int .i64 (it)] rfl rfl (fun _ _ => by kernel_rfl) ((num10_all (hL.kp M.kp) hz hzI sc it)) rfl ?_
    rintro e9 u5 ⟨rfl, hq⟩
    refine ⟨_, rfl, ?_⟩
    rw [hnu]
    replace Q1 := Q1.mo hq
    replace O1 := O1.mo hq
    replace M := M.trans hq
    clear hq
    refine wl_mv (.tmp 37) (.tuple #[.int .i64 (a9), .bool b9]) (fun _ => rfl) rfl rfl ?_
    refine wl_un (fun v => Instr.extract v 0) (.tmp 33) (.tuple #[.int .i64 (a9), .bool b9]) (.int .i64 (a9)) (fun _ => rfl) rfl (by kernel_rfl) rfl ?_
    refine wl_un (fun v => Instr.extract v 1) (.tmp 33) (.tuple #[.int .i64 (a9), .bool b9]) (.bool b9) (fun _ => rfl) rfl (by kernel_rfl) rfl ?_
    refine wl_mv (.tmp 38) (.int .i64 (a9)) (fun _ => rfl) rfl rfl ?_
    refine wl_mv (.tmp 39) (.bool b9) (fun _ => rfl) rfl rfl ?_
    refine w_nil ?_
    refine xn_then ?_
    refine w_seq ?_
    refine w_reg ?_
    refine wl_mv (.tmp 3) (.slice pl l.length cl) (fun _ => rfl) er8 rfl ?_
    refine wl_mv (.tmp 5) (.int .i64 (sc)) (fun _ => rfl) er10 rfl ?_
    refine wl_mv (.tmp 6) (.int .i64 (it)) (fun _ => rfl) er11 rfl ?_
    refine wl_callx 11 [(.tmp 41), (.tmp 42), (.tmp 43)] _ [.slice pl l.length cl, .int .i64 (sc), .int .i64 (it)] rfl rfl (fun _ _ => by kernel_rfl) ((num11_all (hL.kp M.kp) hz hzI sc it)) rfl ?_
    rintro e9 u6 ⟨rfl, hq⟩
    refine ⟨_, rfl, ?_⟩
    rw [hnu]
    replace Q1 := Q1.mo hq
    replace O1 := O1.mo hq
    replace M := M.trans hq
    clear hq
    refine wl_mv (.tmp 44) (.tuple #[.int .i64 (a9), .bool b9]) (fun _ => rfl) rfl rfl ?_
    refine wl_un (fun v => Instr.extract v 0) (.tmp 40) (.tuple #[.int .i64 (a9), .bool b9]) (.int .i64 (a9)) (fun _ => rfl) rfl (by kernel_rfl) rfl ?_
    refine wl_un (fun v => Instr.extract v 1) (.tmp 40) (.tuple #[.int .i64 (a9), .bool b9]) (.bool b9) (fun _ => rfl) rfl (by kernel_rfl) rfl ?_
    refine wl_mv (.tmp 45) (.int .i64 (a9)) (fun _ => rfl) rfl rfl ?_
    refine wl_mv (.tmp 46) (.bool b9) (fun _ => rfl) rfl rfl ?_
    refine w_nil ?_
    refine xn_then ?_
    refine w_seq ?_
    refine w_reg ?_
    refine wl_mv (.tmp 3) (.slice pl l.length cl) (fun _ => rfl) er8 rfl ?_
    refine wl_mv (.tmp 4) (.int .i64 (n)) (fun _ => rfl) er9 rfl ?_
    refine wl_callx 12 [(.tmp 48), (.tmp 49)] _ [.slice pl l.length cl, .int .i64 (n)] rfl rfl (fun _ _ => by kernel_rfl) ((of12_any (hL.kp M.kp) hz hzI n hn)) rfl ?_
    rintro e9 u7 ⟨a1, b1, c1, rfl, hof, hq⟩
    refine ⟨_, rfl, ?_⟩
    replace Q1 := Q1.mo hq
    replace O1 := O1.mo hq
    replace M := M.trans hq
    clear hq
    refine wl_mv (.tmp 50) (.tuple #[.int .i64 (a1), .int .i64 (b1), .bool c1]) (fun _ => rfl) rfl rfl ?_
    refine wl_un (fun v => Instr.extract v 0) (.tmp 47) (.tuple #[.int .i64 (a1), .int .i64 (b1), .bool c1]) (.int .i64 (a1)) (fun _ => rfl) rfl (by kernel_rfl) rfl ?_
    refine wl_un (fun v => Instr.extract v 1) (.tmp 47) (.tuple #[.int .i64 (a1), .int .i64 (b1), .bool c1]) (.int .i64 (b1)) (fun _ => rfl) rfl (by kernel_rfl) rfl ?_
    refine wl_un (fun v => Instr.extract v 2) (.tmp 47) (.tuple #[.int .i64 (a1), .int .i64 (b1), .bool c1]) (.bool c1) (fun _ => rfl) rfl (by kernel_rfl) rfl ?_
    refine wl_mv (.tmp 51) (.int .i64 (a1)) (fun _ => rfl) rfl rfl ?_
    refine wl_mv (.tmp 52) (.int .i64 (b1)) (fun _ => rfl) rfl rfl ?_
    refine wl_mv (.tmp 53) (.bool c1) (fun _ => rfl) rfl rfl ?_
    refine w_nil ?_
    refine xn_then ?_
    refine w_seq ?_
    refine w_reg ?_
    refine wl_mv (.tmp 3) (.slice pl l.length cl) (fun _ => rfl) er8 rfl ?_
    refine wl_mv (.tmp 4) (.int .i64 (n)) (fun _ => rfl) er9 rfl ?_
    refine wl_callx 13 [(.tmp 55), (.tmp 56)] _ [.slice pl l.length cl, .int .i64 (n)] rfl rfl (fun _ _ => by kernel_rfl) ((of13_any (hL.kp M.kp) hz hzI n hn)) rfl ?_
    rintro e9 u8 ⟨a2, b2, c2, rfl, hof2, hq⟩
    refine ⟨_, rfl, ?_⟩
    obtain ⟨e1, e2, e3⟩ := hof2.one hof
    subst e1
    subst e2
    subst e3
    replace Q1 := Q1.mo hq
    replace O1 := O1.mo hq
    replace M := M.trans hq
    clear hq
    refine wl_mv (.tmp 57) (.tuple #[.int .i64 (a2), .int .i64 (b2), .bool c2]) (fun _ => rfl) rfl rfl ?_
    refine wl_un (fun v => Instr.extract v 0) (.tmp 54) (.tuple #[.int .i64 (a2), .int .i64 (b2), .bool c2]) (.int .i64 (a2)) (fun _ => rfl) rfl (by kernel_rfl) rfl ?_
    refine wl_un (fun v => Instr.extract v 1) (.tmp 54) (.tuple #[.int .i64 (a2), .int .i64 (b2), .bool c2]) (.int .i64 (b2)) (fun _ => rfl) rfl (by kernel_rfl) rfl ?_
    refine wl_un (fun v => Instr.extract v 2) (.tmp 54) (.tuple #[.int .i64 (a2), .int .i64 (b2), .bool c2]) (.bool c2) (fun _ => rfl) rfl (by kernel_rfl) rfl ?_
    refine wl_mv (.tmp 58) (.int .i64 (a2)) (fun _ => rfl) rfl rfl ?_
    refine wl_mv (.tmp 59) (.int .i64 (b2)) (fun _ => rfl) rfl rfl ?_
    refine wl_mv (.tmp 60) (.bool c2) (fun _ => rfl) rfl rfl ?_
    refine w_nil ?_
    refine xn_then ?_
    refine w_seq ?_
    refine w_reg ?_
    refine wl_mv (.tmp 7) (.int .i64 (a9)) (fun _ => rfl) rfl rfl ?_
    refine wl_mv (.tmp 9) (.int .i64 (a9)) (fun _ => rfl) rfl rfl ?_
    refine wl_bin (fun x y => do eqGuard .eql 3 (.tmp 61) (.tmp 62) x y; binOp .eql 3 x y) (.tmp 61) (.tmp 62) (.int .i64 (a9)) (.int .i64 (a9)) (.bool true) (fun _ => rfl) rfl rfl (eq3 (r := true) (decide_eq_true rfl) _ _ _) rfl ?_
    refine wl_mv (.tmp 63) (.bool true) (fun _ => rfl) rfl rfl ?_
    refine wl_mv (.tmp 8) (.bool b9) (fun _ => rfl) rfl rfl ?_
    refine wl_mv (.tmp 10) (.bool b9) (fun _ => rfl) rfl rfl ?_
    refine wl_bin (fun x y => do eqGuard .eql 4 (.tmp 65) (.tmp 66) x y; binOp .eql 4 x y) (.tmp 65) (.tmp 66) (.bool b9) (.bool b9) (.bool true) (fun _ => rfl) rfl rfl (eq4t b9 _ _ _) rfl ?_
    refine wl_pick (.tmp 64) (.tmp 67) (.const (.bool false)) true (.bool true) (fun _ => rfl) rfl rfl rfl ?_
    refine wl_mv (.tmp 68) (.bool true) (fun _ => rfl) rfl rfl ?_
    refine wl_mv (.tmp 11) (.int .i64 (a2)) (fun _ => rfl) rfl rfl ?_
    refine wl_mv (.tmp 14) (.int .i64 (a2)) (fun _ => rfl) rfl rfl ?_
    refine wl_bin (fun x y => do eqGuard .eql 3 (.tmp 70) (.tmp 71) x y; binOp .eql 3 x y) (.tmp 70) (.tmp 71) (.int .i64 (a2)) (.int .i64 (a2)) (.bool true) (fun _ => rfl) rfl rfl (eq3 (r := true) (decide_eq_true rfl) _ _ _) rfl ?_
    refine wl_pick (.tmp 69) (.tmp 72) (.const (.bool false)) true (.bool true) (fun _ => rfl) rfl rfl rfl ?_
    refine wl_mv (.tmp 73) (.bool true) (fun _ => rfl) rfl rfl ?_
    refine wl_mv (.tmp 12) (.int .i64 (b2)) (fun _ => rfl) rfl rfl ?_
    refine wl_mv (.tmp 15) (.int .i64 (b2)) (fun _ => rfl) rfl rfl ?_
    refine wl_bin (fun x y => do eqGuard .eql 3 (.tmp 75) (.tmp 76) x y; binOp .eql 3 x y) (.tmp 75) (.tmp 76) (.int .i64 (b2)) (.int .i64 (b2)) (.bool true) (fun _ => rfl) rfl rfl (eq3 (r := true) (decide_eq_true rfl) _ _ _) rfl ?_
    refine wl_pick (.tmp 74) (.tmp 77) (.const (.bool false)) true (.bool true) (fun _ => rfl) rfl rfl rfl ?_
    refine wl_mv (.tmp 78) (.bool true) (fun _ => rfl) rfl rfl ?_
    refine wl_mv (.tmp 13) (.bool c2) (fun _ => rfl) rfl rfl ?_
    refine wl_mv (.tmp 16) (.bool c2) (fun _ => rfl) rfl rfl ?_
    refine wl_bin (fun x y => do eqGuard .eql 4 (.tmp 80) (.tmp 81) x y; binOp .eql 4 x y) (.tmp 80) (.tmp 81) (.bool c2) (.bool c2) (.bool true) (fun _ => rfl) rfl rfl (eq4t c2 _ _ _) rfl ?_
    refine wl_pick (.tmp 79) (.tmp 82) (.const (.bool false)) true (.bool true) (fun _ => rfl) rfl rfl rfl ?_
    refine wl_mv (.tmp 83) (.bool true) (fun _ => rfl) rfl rfl ?_
    refine wl_mv (.tmp 3) (.slice pl l.length cl) (fun _ => rfl) er8 rfl ?_
    refine wl_mv (.tmp 4) (.int .i64 (n)) (fun _ => rfl) er9 rfl ?_
    refine wl_callx 15 [(.tmp 85), (.tmp 86)] _ [.slice pl l.length cl, .int .i64 (n)] rfl rfl (fun _ _ => by kernel_rfl) ((reads15_any (hL.kp M.kp) (fun x hx => (hLx x hx).kp M.kp) hz hzI hnd n hn)) rfl ?_
    rintro e9 u9 ⟨pr1, cr1, rfl, hA, hq⟩
    refine ⟨_, rfl, ?_⟩
    replace Q1 := Q1.mo hq
    replace O1 := O1.mo hq
    replace M := M.trans hq
    clear hq
    refine wl_mv (.tmp 3) (.slice pl l.length cl) (fun _ => rfl) er8 rfl ?_
    refine wl_mv (.tmp 4) (.int .i64 (n)) (fun _ => rfl) er9 rfl ?_
    refine wl_callx 16 [(.tmp 88), (.tmp 89)] _ [.slice pl l.length cl, .int .i64 (n)] rfl rfl (fun _ _ => by kernel_rfl) ((reads16_any (hL.kp M.kp) (fun x hx => (hLx x hx).kp M.kp) hz hzI n hn)) rfl ?_
    rintro e9 u10 ⟨pr2, cr2, rfl, hB, hq⟩
    refine ⟨_, rfl, ?_⟩
    replace Q1 := Q1.mo hq
    replace O1 := O1.mo hq
    replace hA := hA.mo hq
    replace M := M.trans hq
    clear hq
    refine wl_callx 14 [(.tmp 87), (.tmp 90)] _ [.slice pr1 (rowZ l n).length cr1, .slice pr2 (rowZ l n).length cr2] rfl rfl (fun _ _ => by kernel_rfl) ((equal_t9 hA.sl hB.sl _ _ rfl)) rfl ?_
    rintro e9 u11 ⟨rfl, hq⟩
    refine ⟨_, rfl, ?_⟩
    replace Q1 := Q1.mo hq
    replace O1 := O1.mo hq
    replace hA := hA.mo hq
    replace hB := hB.mo hq
    replace M := M.trans hq
    clear hq
    refine wl_pick (.tmp 84) (.tmp 91) (.const (.bool false)) true (.bool true) (fun _ => rfl) rfl rfl rfl ?_
    refine wl_mv (.tmp 92) (.bool true) (fun _ => rfl) rfl rfl ?_
    refine wl_mv (.tmp 3) (.slice pl l.length cl) (fun _ => rfl) er8 rfl ?_
    refine wl_mv (.tmp 4) (.int .i64 (n)) (fun _ => rfl) er9 rfl ?_
    refine wl_callx 17 [(.tmp 94), (.tmp 95)] _ [.slice pl l.length cl, .int .i64 (n)] rfl rfl (fun _ _ => by kernel_rfl) ((users17_any (hL.kp M.kp) (fun x hx => (hLx x hx).kp M.kp) hz hzI hnd n)) rfl ?_
    rintro e9 u12 ⟨pu1, cu1, rfl, hC, hq⟩
    refine ⟨_, rfl, ?_⟩
    replace Q1 := Q1.mo hq
    replace O1 := O1.mo hq
    replace hA := hA.mo hq
    replace hB := hB.mo hq
    replace M := M.trans hq
    clear hq
    refine wl_mv (.tmp 3) (.slice pl l.length cl) (fun _ => rfl) er8 rfl ?_
    refine wl_mv (.tmp 4) (.int .i64 (n)) (fun _ => rfl) er9 rfl ?_
    refine wl_callx 18 [(.tmp 97), (.tmp 98)] _ [.slice pl l.length cl, .int .i64 (n)] rfl rfl (fun _ _ => by kernel_rfl) ((users18_any (hL.kp M.kp) (fun x hx => (hLx x hx).kp M.kp) hz hzI n)) rfl ?_
    rintro e9 u13 ⟨pu2, cu2, rfl, hD, hq⟩
    refine ⟨_, rfl, ?_⟩
    replace Q1 := Q1.mo hq
    replace O1 := O1.mo hq
    replace hA := hA.mo hq
    replace hB := hB.mo hq
    replace hC := hC.mo hq
    replace M := M.trans hq
    clear hq
    refine wl_callx 14 [(.tmp 96), (.tmp 99)] _ [.slice pu1 (ris (nI l) (usP l n)).length cu1, .slice pu2 (ris (nI l) (usP l n)).length cu2] rfl rfl (fun _ _ => by kernel_rfl) ((equal_t9 hC.sl hD.sl _ _ rfl)) rfl ?_
    rintro e9 u14 ⟨rfl, hq⟩
    refine ⟨_, rfl, ?_⟩
    replace Q1 := Q1.mo hq
    replace O1 := O1.mo hq
    replace hA := hA.mo hq
    replace hB := hB.mo hq
    replace hC := hC.mo hq
    replace hD := hD.mo hq
    replace M := M.trans hq
    clear hq
    refine wl_pick (.tmp 93) (.tmp 100) (.const (.bool false)) true (.bool true) (fun _ => rfl) rfl rfl rfl ?_
    refine wl_mv (.tmp 101) (.bool true) (fun _ => rfl) rfl rfl ?_
    refine wl_mv (.tmp 3) (.slice pl l.length cl) (fun _ => rfl) er8 rfl ?_
    refine wl_mv (.tmp 4) (.int .i64 (n)) (fun _ => rfl) er9 rfl ?_
    refine wl_callx 19 [(.tmp 103), (.tmp 104)] _ [.slice pl l.length cl, .int .i64 (n)] rfl rfl (fun _ _ => by kernel_rfl) ((below19_any (hL.kp M.kp) (fun x hx => (hLx x hx).kp M.kp) hz hzI hnd n)) rfl ?_
    rintro e9 u15 ⟨U1, pb1, cb1, rfl, hE, hB_hE, hq⟩
    refine ⟨_, rfl, ?_⟩
    replace Q1 := Q1.mo hq
    replace O1 := O1.mo hq
    replace hA := hA.mo hq
    replace hB := hB.mo hq
    replace hC := hC.mo hq
    replace hD := hD.mo hq
    replace M := M.trans hq
    clear hq
    refine wl_mv (.tmp 3) (.slice pl l.length cl) (fun _ => rfl) er8 rfl ?_
    refine wl_mv (.tmp 4) (.int .i64 (n)) (fun _ => rfl) er9 rfl ?_
    refine wl_callx 20 [(.tmp 106), (.tmp 107)] _ [.slice pl l.length cl, .int .i64 (n)] rfl rfl (fun _ _ => by kernel_rfl) ((below20_any (hL.kp M.kp) (fun x hx => (hLx x hx).kp M.kp) hz hzI n)) rfl ?_
    rintro e9 u16 ⟨U2, pb2, cb2, rfl, hF, hB_hF, hq⟩
    refine ⟨_, rfl, ?_⟩
    have hUU := hB_hE.one hB_hF
    replace Q1 := Q1.mo hq
    replace O1 := O1.mo hq
    replace hA := hA.mo hq
    replace hB := hB.mo hq
    replace hC := hC.mo hq
    replace hD := hD.mo hq
    replace hE := hE.mo hq
    replace M := M.trans hq
    clear hq
    refine wl_callx 14 [(.tmp 105), (.tmp 108)] _ [.slice pb1 U1.length cb1, .slice pb2 U2.length cb2] rfl rfl (fun _ _ => by kernel_rfl) ((equal_t9 hE.sl hF.sl _ _ hUU)) rfl ?_
    rintro e9 u17 ⟨rfl, hq⟩
    refine ⟨_, rfl, ?_⟩
    replace Q1 := Q1.mo hq
    replace O1 := O1.mo hq
    replace hA := hA.mo hq
    replace hB := hB.mo hq
    replace hC := hC.mo hq
    replace hD := hD.mo hq
    replace hE := hE.mo hq
    replace hF := hF.mo hq
    replace M := M.trans hq
    clear hq
    refine wl_pick (.tmp 102) (.tmp 109) (.const (.bool false)) true (.bool true) (fun _ => rfl) rfl rfl rfl ?_
    refine wl_mv (.tmp 110) (.bool true) (fun _ => rfl) rfl rfl ?_
    refine w_nil ?_
    refine xn_then ?_
    refine w_ret ?_
    exact w_ret1 _ (.bool true) rfl rfl ⟨rfl, M⟩
  | false =>
    refine wl_un (fun v => Op.unary .not v) (.tmp 26) (.bool false) (.bool true) (fun _ => rfl) rfl (by kernel_rfl) rfl ?_
    refine wl_mv (.tmp 27) (.bool true) (fun _ => rfl) rfl rfl ?_
    refine wl_skip rfl ?_
    refine wl_skip rfl ?_
    refine wl_pick (.tmp 28) (.const (.bool true)) (.tmp 30) true (.bool true) (fun _ => rfl) rfl rfl rfl ?_
    refine w_nil ?_
    refine xn_then ?_
    refine w_condT rfl ?_
    refine w_seq ?_
    refine w_reg ?_
    refine wl_callx 9 [] _ [] rfl rfl (fun _ _ => by kernel_rfl) (live_n _) rfl ?_
    rintro e9 u4 ⟨rfl, hq⟩
    refine ⟨_, rfl, ?_⟩
    replace Q1 := Q1.mo hq
    replace O1 := O1.mo hq
    replace M := M.trans hq
    clear hq
    refine wl_mv (.tmp 32) (.bool true) (fun _ => rfl) rfl rfl ?_
    refine w_nil ?_
    refine xn_then ?_
    refine w_ret ?_
    refine xr_then ?_
    exact w_ret1 _ (.bool true) rfl rfl ⟨rfl, M⟩
end Go.Proofs.Ythghblgbjgghcaa
