/-
  The tree's turn.
-/
import Derived.Test.YtbmbldloeblbbaaSb
namespace Go.Proofs.Ytbmbldloeblbbaa
open Go.RowKit
section
variable {D : Nat → Prop} {t mb : Nat} {R : Mp} {root : Option Nat} {lk : Int}
theorem hkU_s {R : Mp} {a x : Option Nat} {j : Nat} {r : Rc} (h : R j = some r) : ∃ r', hkU R a x j = some r' ∧ r'.s = r.s := by
  by_cases e : x = some j
  · subst e; exact ⟨⟨a, r.l, r.r, r.s, r.i⟩, by rw [hkU_some h]; exact ud_same _ _ _, rfl⟩
  · exact ⟨r, (hkU_ne e).trans h, rfl⟩
theorem hkR_s {R : Mp} {a x : Option Nat} {d : Bool} {j : Nat} {r : Rc} (h : R j = some r) : ∃ r', hkR R a d x j = some r' ∧ r'.s = r.s := by
  obtain ⟨r1, h1, h2⟩ := hkU_s (a := a) (x := x) h
  by_cases e : a = some j
  · subst e; exact ⟨⟨r1.u, if d then r1.l else x, if d then x else r1.r, r1.s, r1.i⟩, by rw [hkR_some h1]; exact ud_same _ _ _, h2⟩
  · exact ⟨r1, (hkR_off e).trans h1, h2⟩
theorem szo.hk {R : Mp} {x : Option Nat} {s : Int} (h : szo R x s) (a y : Option Nat) (d : Bool) : szo (hkR R a d y) x s := by
  cases x with
  | none => exact h
  | some k =>
    obtain ⟨r, hr, rfl⟩ := h
    exact hkR_s hr
theorem szo.ud {R : Mp} {x : Option Nat} {s : Int} (h : szo R x s) {k : Nat} (q : Rc) (hk : x ≠ some k) : szo (ud R k q) x s := by
  cases x with
  | none => exact h
  | some j =>
    obtain ⟨r, hr, rfl⟩ := h
    exact ⟨r, (ud_ne _ _ (fun e => hk (by rw [e]))).trans hr, rfl⟩
/-- What a turn leaves: the kid kk above, the node k below it. x: what was between them. -/
structure Tn (R R' : Mp) (u x : Option Nat) (k kk : Nat) (dC : Bool) (rk rkk : Rc) : Prop where
  hk : R' k = some rk
  hkk : R' kk = some rkk
  hx : ∀ j r, x = some j → R j = some r → R' j = some ⟨some k, r.l, r.r, r.s, r.i⟩
  hu : ∀ p q, u = some p → R p = some q → R' p = some ⟨q.u, if dC then q.l else some kk, if dC then some kk else q.r, q.s, q.i⟩
  ho : ∀ j, j ≠ k → j ≠ kk → x ≠ some j → u ≠ some j → R' j = R j
theorem turn_0 {w : World} (hS : HS D w t mb R root lk) {u x y o : Option Nat} {k kk : Nat} {s i ss ii sx sy so : Int} (dC : Bool) (hk : R k = some ⟨u, (some kk), o, (s), (i)⟩) (hkk : R kk = some ⟨(some k), y, x, (ss), (ii)⟩) (ne_k_kk : k ≠ kk) (hukk : u ≠ some k) (huk : u ≠ some kk) (hxk : x ≠ some k) (hxkk : x ≠ some kk) (hyk : y ≠ some k) (hux : ∀ {j : Nat}, u = some j → x ≠ some j)
    (hsd : ∀ {w : World}, HS D w t mb R root lk → Calls Try.prog 41 #[pt k 0] w fun e w' => e = .returned (.int .i64 (if dC then 1 else 0)) ∧ Mo w w') (hpar : ∀ p, u = some p → ∃ q, R p = some q) (hin0 : ∀ j, x = some j → ∃ r, R j = some r)
    (hsx : szo R x sx) (hsy : szo R y sy) (ho : szo R o so) (b1 : 0 ≤ sx ∧ sx ≤ 100000) (b2 : 0 ≤ sy ∧ sy ≤ 100000) (b3 : 0 ≤ so ∧ so ≤ 100000) :
    Calls Try.prog 52 #[pt t 0, pt k 0, .int .i64 0] w fun e w' => e = .returned (pt kk 0) ∧ ∃ R' root', HS D w' t mb R' root' lk ∧ root' = hkO root u (some kk) ∧ Tn R R' u x k kk dC ⟨some kk, x, o, 1 + sx + so, i⟩ ⟨u, y, some k, 1 + sy + (1 + sx + so), ii⟩ ∧ Mk D w w' := by
  refine w_enter 52 Try.func52 Try.ntmps52 rfl rfl ?_
  have M : Mk D w w := Mk.refl _ _
  refine w_seq ?_
  refine w_reg ?_
  refine wl_mv (.const (.pointer none)) (pp none) (fun _ => rfl) rfl rfl ?_
  refine w_nil ?_
  refine xn_then ?_
  refine w_seq ?_
  refine w_reg ?_
  refine wl_mv (.tmp 1) (pt k 0) (fun _ => rfl) rfl rfl ?_
  refine wl_mv (.tmp 2) (.int .i64 (0)) (fun _ => rfl) rfl rfl ?_
  refine wl_nc (.tmp 8) k 0 rfl rfl rfl ?_
  refine wl_un (fun v => Instr.fieldAt 66 v 0) (.tmp 10) (pt k 0) (pt k 0) (fun _ => rfl) rfl (by kernel_rfl) rfl ?_
  refine wl_un (fun v => Instr.fieldAt 64 v 1) (.tmp 11) (pt k 0) (pt k 1) (fun _ => rfl) rfl (by kernel_rfl) rfl ?_
  refine wl_bin (fun x y => Instr.indexAt 62 x y) (.tmp 12) (.tmp 9) (pt k 1) (.int .i64 (0)) (pt k 1) (fun _ => rfl) rfl rfl (by kernel_rfl) rfl ?_
  refine wl_load 56 (.tmp 13) (pt k 1) (pt kk 0) rfl rfl (run_one (hS.rc k _ hk) 56 1 rfl Try.underlying56 rfl) rfl ?_
  refine wl_mv (.tmp 14) (pt kk 0) (fun _ => rfl) rfl rfl ?_
  refine w_nil ?_
  refine xn_then ?_
  refine w_seq ?_
  refine w_any 9 [.inl (pt t 0), .inl (pt k 0), .inl (pt k 0), .inl (pt k 0), .inl (pt k 0), .inl (pp u), .inl (pt k 0), .inl (.int .i64 (if dC then 1 else 0)), .inl (pt kk 0)] [] (by kernel_rfl) (by kernel_rfl) (by kernel_rfl) (by kernel_rfl) rfl (by kernel_rfl) (by kernel_rfl) late_nil ?_ ?_ ?_
  · exact Ds.none rfl
  · refine ea_cons ?_ (ea_cons ?_ (ea_cons ?_ (ea_cons ?_ (ea_cons ?_ (ea_cons ?_ (ea_cons ?_ (ea_cons ?_ (ea_cons ?_ (ea_nil)))))))))
    · exact og_eq (pt t 0) rfl (fun f wf hq hd K hK => go_run rfl (wo_mv (.tmp 0) (pt t 0) (fun _ => rfl) rfl (hK _ (Mo.refl _))))
    · exact og_eq (pt k 0) rfl (fun f wf hq hd K hK => go_run rfl (wo_mv (.tmp 1) (pt k 0) (fun _ => rfl) rfl (hK _ (Mo.refl _))))
    · exact og_eq (pt k 0) rfl (fun f wf hq hd K hK => go_run rfl (wo_nc (.tmp 16) k 0 rfl (hd 1 rfl) (hK _ (Mo.refl _))))
    · exact og_eq (pt k 0) rfl (fun f wf hq hd K hK => go_run rfl (wo_un (fun v => Instr.fieldAt 66 v 0) (.tmp 17) (pt k 0) (pt k 0) (fun _ => rfl) (hd 2 rfl) (by kernel_rfl) (hK _ (Mo.refl _))))
    · exact og_eq (pt k 0) rfl (fun f wf hq hd K hK => go_run rfl (wo_un (fun v => Instr.fieldAt 64 v 0) (.tmp 18) (pt k 0) (pt k 0) (fun _ => rfl) (hd 3 rfl) (by kernel_rfl) (hK _ (Mo.refl _))))
    · exact og_eq (pp u) rfl (fun f wf hq hd K hK => have hS := hS.mo hq; go_run rfl (wo_load 56 (.tmp 19) (pt k 0) (pp u) rfl (hd 4 rfl) (run_one (hS.rc k _ hk) 56 0 rfl Try.underlying56 rfl) (hK _ (Mo.refl _))))
    · exact og_eq (pt k 0) rfl (fun f wf hq hd K hK => go_run rfl (wo_mv (.tmp 1) (pt k 0) (fun _ => rfl) rfl (hK _ (Mo.refl _))))
    · exact og_eq (.int .i64 (if dC then 1 else 0)) rfl (fun f wf hq hd K hK => have hS := hS.mo hq; go_run rfl (wo_call 41 [(.tmp 21)] _ [pt k 0] (.int .i64 (if dC then 1 else 0)) rfl (li1 (hd 6 rfl)) (fun _ _ => by kernel_rfl) (hsd hS) hK))
    · exact og_eq (pt kk 0) rfl (fun f wf hq hd K hK => go_run rfl (wo_mv (.tmp 7) (pt kk 0) (fun _ => rfl) rfl (hK _ (Mo.refl _))))
  intro kf1 w1 hq _ _
  replace hS := hS.mo hq
  replace M := M.trans hq
  clear hq
  refine wl_callg 43 [(.tmp 15), (.tmp 20), (.tmp 22), (.tmp 23)] _ [pt t 0, pp u, .int .i64 (if dC then 1 else 0), pt kk 0] (.tuple #[]) rfl rfl (fun _ _ => by kernel_rfl) (hang_n hS u (some kk) dC (fun j e => by cases e; exact ⟨_, hkk⟩) hpar (fun j e => by cases e; exact huk)) rfl ?_
  intro w2 hF
  obtain ⟨hS2, hM2⟩ := hF
  replace hS := hS2
  replace M := M.same hM2
  clear hS2 hM2
  obtain ⟨root1, eroot⟩ : ∃ X, X = hkO root u (some kk) := ⟨_, rfl⟩
  rw [← eroot] at hS
  obtain ⟨R1, eR1⟩ : ∃ X, X = hkR R u dC (some kk) := ⟨_, rfl⟩
  rw [← eR1] at hS
  replace hk : R1 k = some ⟨u, (some kk), o, (s), (i)⟩ := by rw [eR1, hkR_ne (fun e => ne_k_kk (Option.some.inj e).symm) hukk]; exact hk
  replace hkk : R1 kk = some ⟨u, y, x, (ss), (ii)⟩ := by rw [eR1]; exact hkR_self hkk huk
  have hin : ∀ j, x = some j → ∃ r, R1 j = some r := fun j e => by obtain ⟨r, hr⟩ := hin0 j e; obtain ⟨r2, h2, _⟩ := hkR_s (a := u) (d := dC) (x := some kk) hr; exact ⟨r2, by rw [eR1]; exact h2⟩
  refine w_nil ?_
  refine xn_then ?_
  refine w_seq ?_
  refine w_reg ?_
  refine wl_mv (.tmp 0) (pt t 0) (fun _ => rfl) rfl rfl ?_
  refine wl_mv (.tmp 1) (pt k 0) (fun _ => rfl) rfl rfl ?_
  refine wl_mv (.tmp 2) (.int .i64 (0)) (fun _ => rfl) rfl rfl ?_
  refine wl_mv (.tmp 7) (pt kk 0) (fun _ => rfl) rfl rfl ?_
  refine wl_mv (.tmp 2) (.int .i64 (0)) (fun _ => rfl) rfl rfl ?_
  refine wl_bin (fun x y => do eqGuard .sub 3 (.const (.int .i64 (1))) (.tmp 29) x y; binOp .sub 3 x y) (.const (.int .i64 (1))) (.tmp 29) (.int .i64 (1)) (.int .i64 (0)) (.int .i64 (1)) (fun _ => rfl) rfl rfl (subI (a := 1) (b := 0) (by decide) (by decide) _ _ _) rfl ?_
  refine wl_nc (.tmp 28) kk 0 rfl rfl rfl ?_
  refine wl_un (fun v => Instr.fieldAt 66 v 0) (.tmp 31) (pt kk 0) (pt kk 0) (fun _ => rfl) rfl (by kernel_rfl) rfl ?_
  refine wl_un (fun v => Instr.fieldAt 64 v 1) (.tmp 32) (pt kk 0) (pt kk 1) (fun _ => rfl) rfl (by kernel_rfl) rfl ?_
  refine wl_bin (fun x y => Instr.indexAt 62 x y) (.tmp 33) (.tmp 30) (pt kk 1) (.int .i64 (1)) (pt kk 2) (fun _ => rfl) rfl rfl (by kernel_rfl) rfl ?_
  refine wl_load 56 (.tmp 34) (pt kk 2) (pp x) rfl rfl (run_one (hS.rc kk _ hkk) 56 2 rfl Try.underlying56 rfl) rfl ?_
  refine wl_callg 43 [(.tmp 25), (.tmp 26), (.tmp 27), (.tmp 35)] _ [pt t 0, pt k 0, .int .i64 (0), pp x] (.tuple #[]) rfl rfl (fun _ _ => by kernel_rfl) (hang_n hS (some k) x false hin (fun j e => by cases e; exact ⟨_, hk⟩) (fun j e q => hxk (by rw [e, q]))) rfl ?_
  intro w3 hF
  obtain ⟨hS2, hM2⟩ := hF
  replace hS := hS2
  replace M := M.same hM2
  clear hS2 hM2
  replace hS : HS D _ t mb _ root1 lk := hS
  obtain ⟨R2, eR2⟩ : ∃ X, X = hkR R1 (some k) false x := ⟨_, rfl⟩
  rw [← eR2] at hS
  replace hk : R2 k = some ⟨u, x, o, (s), (i)⟩ := by rw [eR2]; exact hkR_par hk hxk
  replace hkk : R2 kk = some ⟨u, y, x, (ss), (ii)⟩ := by rw [eR2, hkR_ne hxkk (fun e => ne_k_kk (Option.some.inj e))]; exact hkk
  refine w_nil ?_
  refine xn_then ?_
  refine w_seq ?_
  refine w_reg ?_
  refine wl_mv (.tmp 0) (pt t 0) (fun _ => rfl) rfl rfl ?_
  refine wl_mv (.tmp 7) (pt kk 0) (fun _ => rfl) rfl rfl ?_
  refine wl_mv (.tmp 2) (.int .i64 (0)) (fun _ => rfl) rfl rfl ?_
  refine wl_bin (fun x y => do eqGuard .sub 3 (.const (.int .i64 (1))) (.tmp 39) x y; binOp .sub 3 x y) (.const (.int .i64 (1))) (.tmp 39) (.int .i64 (1)) (.int .i64 (0)) (.int .i64 (1)) (fun _ => rfl) rfl rfl (subI (a := 1) (b := 0) (by decide) (by decide) _ _ _) rfl ?_
  refine wl_mv (.tmp 1) (pt k 0) (fun _ => rfl) rfl rfl ?_
  refine wl_callg 43 [(.tmp 37), (.tmp 38), (.tmp 40), (.tmp 41)] _ [pt t 0, pt kk 0, .int .i64 (1), pt k 0] (.tuple #[]) rfl rfl (fun _ _ => by kernel_rfl) (hang_n hS (some kk) (some k) true (fun j e => by cases e; exact ⟨_, hk⟩) (fun j e => by cases e; exact ⟨_, hkk⟩) (fun j e q => by cases e; cases q; exact ne_k_kk rfl)) rfl ?_
  intro w4 hF
  obtain ⟨hS2, hM2⟩ := hF
  replace hS := hS2
  replace M := M.same hM2
  clear hS2 hM2
  replace hS : HS D _ t mb _ root1 lk := hS
  obtain ⟨R3, eR3⟩ : ∃ X, X = hkR R2 (some kk) true (some k) := ⟨_, rfl⟩
  rw [← eR3] at hS
  replace hkk : R3 kk = some ⟨u, y, (some k), (ss), (ii)⟩ := by rw [eR3]; exact hkR_par hkk (fun e => ne_k_kk (Option.some.inj e))
  replace hk : R3 k = some ⟨(some kk), x, o, (s), (i)⟩ := by rw [eR3]; exact hkR_self hk (fun e => ne_k_kk (Option.some.inj e).symm)
  have z1 : szo R3 o so := by rw [eR3, eR2, eR1]; exact ((ho.hk _ _ _).hk _ _ _).hk _ _ _
  have z2 : szo R3 x sx := by rw [eR3, eR2, eR1]; exact ((hsx.hk _ _ _).hk _ _ _).hk _ _ _
  have z3 : szo R3 y sy := by rw [eR3, eR2, eR1]; exact ((hsy.hk _ _ _).hk _ _ _).hk _ _ _
  refine w_nil ?_
  refine xn_then ?_
  refine w_seq ?_
  refine w_reg ?_
  refine wl_mv (.tmp 1) (pt k 0) (fun _ => rfl) rfl rfl ?_
  refine wl_nc (.tmp 43) k 0 rfl rfl rfl ?_
  refine wl_un (fun v => Instr.fieldAt 66 v 0) (.tmp 44) (pt k 0) (pt k 0) (fun _ => rfl) rfl (by kernel_rfl) rfl ?_
  refine wl_callg 48 [(.tmp 45)] _ [pt k 0] (.tuple #[]) rfl rfl (fun _ _ => by kernel_rfl) (resize_n hS hk z2 (by omega) (by omega) z1 (by omega) (by omega)) rfl ?_
  intro w5 hF
  obtain ⟨hS2, hM2⟩ := hF
  replace hS := hS2
  replace M := M.same hM2
  clear hS2 hM2
  obtain ⟨R4, eR4⟩ : ∃ X, X = ud R3 k ⟨(some kk), x, o, (1 + sx + so), (i)⟩ := ⟨_, rfl⟩
  rw [← eR4] at hS
  have hk : R4 k = some ⟨(some kk), x, o, (1 + sx + so), (i)⟩ := by rw [eR4]; exact ud_same _ _ _
  replace hkk : R4 kk = some ⟨u, y, (some k), (ss), (ii)⟩ := by rw [eR4, ud_ne _ _ ne_k_kk.symm]; exact hkk
  replace z3 : szo R4 y sy := by rw [eR4]; exact z3.ud _ hyk
  have z4 : szo R4 (some k) (1 + sx + so) := ⟨_, hk, rfl⟩
  refine w_nil ?_
  refine xn_then ?_
  refine w_seq ?_
  refine w_reg ?_
  refine wl_mv (.tmp 7) (pt kk 0) (fun _ => rfl) rfl rfl ?_
  refine wl_nc (.tmp 47) kk 0 rfl rfl rfl ?_
  refine wl_un (fun v => Instr.fieldAt 66 v 0) (.tmp 48) (pt kk 0) (pt kk 0) (fun _ => rfl) rfl (by kernel_rfl) rfl ?_
  refine wl_callg 48 [(.tmp 49)] _ [pt kk 0] (.tuple #[]) rfl rfl (fun _ _ => by kernel_rfl) (resize_n hS hkk z3 (by omega) (by omega) z4 (by omega) (by omega)) rfl ?_
  intro w6 hF
  obtain ⟨hS2, hM2⟩ := hF
  replace hS := hS2
  replace M := M.same hM2
  clear hS2 hM2
  obtain ⟨R5, eR5⟩ : ∃ X, X = ud R4 kk ⟨u, y, (some k), (1 + sy + (1 + sx + so)), (ii)⟩ := ⟨_, rfl⟩
  rw [← eR5] at hS
  replace hk : R5 k = some ⟨(some kk), x, o, (1 + sx + so), (i)⟩ := by rw [eR5, ud_ne _ _ ne_k_kk]; exact hk
  have hkk : R5 kk = some ⟨u, y, (some k), (1 + sy + (1 + sx + so)), (ii)⟩ := by rw [eR5]; exact ud_same _ _ _
  refine w_nil ?_
  refine xn_then ?_
  refine w_seq ?_
  refine w_reg ?_
  refine wl_mv (.tmp 7) (pt kk 0) (fun _ => rfl) rfl rfl ?_
  refine wl_mv (.tmp 51) (pt kk 0) (fun _ => rfl) rfl rfl ?_
  refine w_nil ?_
  refine xn_then ?_
  refine w_ret ?_
  refine w_ret1 _ (pt kk 0) rfl rfl ⟨rfl, R5, root1, hS, eroot, ⟨hk, hkk, fun j r e hr => ?_, fun p q e hq => ?_, fun j h1 h2 h3 h4 => ?_⟩, M⟩
  · have hjk : j ≠ k := fun q => hxk (by rw [e, q])
    have hjkk : j ≠ kk := fun q => hxkk (by rw [e, q])
    have huj : u ≠ some j := fun q => hux q e
    rw [eR5, ud_ne _ _ hjkk, eR4, ud_ne _ _ hjk, eR3, hkR_ne (fun q => hjk (Option.some.inj q).symm) (fun q => hjkk (Option.some.inj q).symm), eR2, e]
    exact hkR_self (by rw [eR1, hkR_ne (fun q => hjkk (Option.some.inj q).symm) huj]; exact hr) (fun q => hjk (Option.some.inj q).symm)
  · have hpk : p ≠ k := fun q => hukk (by rw [e, q])
    have hpkk : p ≠ kk := fun q => huk (by rw [e, q])
    have hxp : x ≠ some p := fun q => hux e q
    rw [eR5, ud_ne _ _ hpkk, eR4, ud_ne _ _ hpk, eR3, hkR_ne (fun q => hpk (Option.some.inj q).symm) (fun q => hpkk (Option.some.inj q).symm), eR2, hkR_ne hxp (fun q => hpk (Option.some.inj q).symm), eR1, e]
    exact hkR_par hq (fun q => hpkk (Option.some.inj q).symm)
  · rw [eR5, ud_ne _ _ h2, eR4, ud_ne _ _ h1, eR3, hkR_ne (fun q => h1 (Option.some.inj q).symm) (fun q => h2 (Option.some.inj q).symm), eR2, hkR_ne h3 (fun q => h1 (Option.some.inj q).symm), eR1]
    exact hkR_ne (fun q => h2 (Option.some.inj q).symm) h4
theorem turn_1 {w : World} (hS : HS D w t mb R root lk) {u x y o : Option Nat} {k kk : Nat} {s i ss ii sx sy so : Int} (dC : Bool) (hk : R k = some ⟨u, o, (some kk), (s), (i)⟩) (hkk : R kk = some ⟨(some k), x, y, (ss), (ii)⟩) (ne_k_kk : k ≠ kk) (hukk : u ≠ some k) (huk : u ≠ some kk) (hxk : x ≠ some k) (hxkk : x ≠ some kk) (hyk : y ≠ some k) (hux : ∀ {j : Nat}, u = some j → x ≠ some j)
    (hsd : ∀ {w : World}, HS D w t mb R root lk → Calls Try.prog 41 #[pt k 0] w fun e w' => e = .returned (.int .i64 (if dC then 1 else 0)) ∧ Mo w w') (hpar : ∀ p, u = some p → ∃ q, R p = some q) (hin0 : ∀ j, x = some j → ∃ r, R j = some r)
    (hsx : szo R x sx) (hsy : szo R y sy) (ho : szo R o so) (b1 : 0 ≤ sx ∧ sx ≤ 100000) (b2 : 0 ≤ sy ∧ sy ≤ 100000) (b3 : 0 ≤ so ∧ so ≤ 100000) :
    Calls Try.prog 52 #[pt t 0, pt k 0, .int .i64 1] w fun e w' => e = .returned (pt kk 0) ∧ ∃ R' root', HS D w' t mb R' root' lk ∧ root' = hkO root u (some kk) ∧ Tn R R' u x k kk dC ⟨some kk, o, x, 1 + so + sx, i⟩ ⟨u, some k, y, 1 + (1 + so + sx) + sy, ii⟩ ∧ Mk D w w' := by
  refine w_enter 52 Try.func52 Try.ntmps52 rfl rfl ?_
  have M : Mk D w w := Mk.refl _ _
  refine w_seq ?_
  refine w_reg ?_
  refine wl_mv (.const (.pointer none)) (pp none) (fun _ => rfl) rfl rfl ?_
  refine w_nil ?_
  refine xn_then ?_
  refine w_seq ?_
  refine w_reg ?_
  refine wl_mv (.tmp 1) (pt k 0) (fun _ => rfl) rfl rfl ?_
  refine wl_mv (.tmp 2) (.int .i64 (1)) (fun _ => rfl) rfl rfl ?_
  refine wl_nc (.tmp 8) k 0 rfl rfl rfl ?_
  refine wl_un (fun v => Instr.fieldAt 66 v 0) (.tmp 10) (pt k 0) (pt k 0) (fun _ => rfl) rfl (by kernel_rfl) rfl ?_
  refine wl_un (fun v => Instr.fieldAt 64 v 1) (.tmp 11) (pt k 0) (pt k 1) (fun _ => rfl) rfl (by kernel_rfl) rfl ?_
  refine wl_bin (fun x y => Instr.indexAt 62 x y) (.tmp 12) (.tmp 9) (pt k 1) (.int .i64 (1)) (pt k 2) (fun _ => rfl) rfl rfl (by kernel_rfl) rfl ?_
  refine wl_load 56 (.tmp 13) (pt k 2) (pt kk 0) rfl rfl (run_one (hS.rc k _ hk) 56 2 rfl Try.underlying56 rfl) rfl ?_
  refine wl_mv (.tmp 14) (pt kk 0) (fun _ => rfl) rfl rfl ?_
  refine w_nil ?_
  refine xn_then ?_
  refine w_seq ?_
  refine w_any 9 [.inl (pt t 0), .inl (pt k 0), .inl (pt k 0), .inl (pt k 0), .inl (pt k 0), .inl (pp u), .inl (pt k 0), .inl (.int .i64 (if dC then 1 else 0)), .inl (pt kk 0)] [] (by kernel_rfl) (by kernel_rfl) (by kernel_rfl) (by kernel_rfl) rfl (by kernel_rfl) (by kernel_rfl) late_nil ?_ ?_ ?_
  · exact Ds.none rfl
  · refine ea_cons ?_ (ea_cons ?_ (ea_cons ?_ (ea_cons ?_ (ea_cons ?_ (ea_cons ?_ (ea_cons ?_ (ea_cons ?_ (ea_cons ?_ (ea_nil)))))))))
    · exact og_eq (pt t 0) rfl (fun f wf hq hd K hK => go_run rfl (wo_mv (.tmp 0) (pt t 0) (fun _ => rfl) rfl (hK _ (Mo.refl _))))
    · exact og_eq (pt k 0) rfl (fun f wf hq hd K hK => go_run rfl (wo_mv (.tmp 1) (pt k 0) (fun _ => rfl) rfl (hK _ (Mo.refl _))))
    · exact og_eq (pt k 0) rfl (fun f wf hq hd K hK => go_run rfl (wo_nc (.tmp 16) k 0 rfl (hd 1 rfl) (hK _ (Mo.refl _))))
    · exact og_eq (pt k 0) rfl (fun f wf hq hd K hK => go_run rfl (wo_un (fun v => Instr.fieldAt 66 v 0) (.tmp 17) (pt k 0) (pt k 0) (fun _ => rfl) (hd 2 rfl) (by kernel_rfl) (hK _ (Mo.refl _))))
    · exact og_eq (pt k 0) rfl (fun f wf hq hd K hK => go_run rfl (wo_un (fun v => Instr.fieldAt 64 v 0) (.tmp 18) (pt k 0) (pt k 0) (fun _ => rfl) (hd 3 rfl) (by kernel_rfl) (hK _ (Mo.refl _))))
    · exact og_eq (pp u) rfl (fun f wf hq hd K hK => have hS := hS.mo hq; go_run rfl (wo_load 56 (.tmp 19) (pt k 0) (pp u) rfl (hd 4 rfl) (run_one (hS.rc k _ hk) 56 0 rfl Try.underlying56 rfl) (hK _ (Mo.refl _))))
    · exact og_eq (pt k 0) rfl (fun f wf hq hd K hK => go_run rfl (wo_mv (.tmp 1) (pt k 0) (fun _ => rfl) rfl (hK _ (Mo.refl _))))
    · exact og_eq (.int .i64 (if dC then 1 else 0)) rfl (fun f wf hq hd K hK => have hS := hS.mo hq; go_run rfl (wo_call 41 [(.tmp 21)] _ [pt k 0] (.int .i64 (if dC then 1 else 0)) rfl (li1 (hd 6 rfl)) (fun _ _ => by kernel_rfl) (hsd hS) hK))
    · exact og_eq (pt kk 0) rfl (fun f wf hq hd K hK => go_run rfl (wo_mv (.tmp 7) (pt kk 0) (fun _ => rfl) rfl (hK _ (Mo.refl _))))
  intro kf1 w1 hq _ _
  replace hS := hS.mo hq
  replace M := M.trans hq
  clear hq
  refine wl_callg 43 [(.tmp 15), (.tmp 20), (.tmp 22), (.tmp 23)] _ [pt t 0, pp u, .int .i64 (if dC then 1 else 0), pt kk 0] (.tuple #[]) rfl rfl (fun _ _ => by kernel_rfl) (hang_n hS u (some kk) dC (fun j e => by cases e; exact ⟨_, hkk⟩) hpar (fun j e => by cases e; exact huk)) rfl ?_
  intro w2 hF
  obtain ⟨hS2, hM2⟩ := hF
  replace hS := hS2
  replace M := M.same hM2
  clear hS2 hM2
  obtain ⟨root1, eroot⟩ : ∃ X, X = hkO root u (some kk) := ⟨_, rfl⟩
  rw [← eroot] at hS
  obtain ⟨R1, eR1⟩ : ∃ X, X = hkR R u dC (some kk) := ⟨_, rfl⟩
  rw [← eR1] at hS
  replace hk : R1 k = some ⟨u, o, (some kk), (s), (i)⟩ := by rw [eR1, hkR_ne (fun e => ne_k_kk (Option.some.inj e).symm) hukk]; exact hk
  replace hkk : R1 kk = some ⟨u, x, y, (ss), (ii)⟩ := by rw [eR1]; exact hkR_self hkk huk
  have hin : ∀ j, x = some j → ∃ r, R1 j = some r := fun j e => by obtain ⟨r, hr⟩ := hin0 j e; obtain ⟨r2, h2, _⟩ := hkR_s (a := u) (d := dC) (x := some kk) hr; exact ⟨r2, by rw [eR1]; exact h2⟩
  refine w_nil ?_
  refine xn_then ?_
  refine w_seq ?_
  refine w_reg ?_
  refine wl_mv (.tmp 0) (pt t 0) (fun _ => rfl) rfl rfl ?_
  refine wl_mv (.tmp 1) (pt k 0) (fun _ => rfl) rfl rfl ?_
  refine wl_mv (.tmp 2) (.int .i64 (1)) (fun _ => rfl) rfl rfl ?_
  refine wl_mv (.tmp 7) (pt kk 0) (fun _ => rfl) rfl rfl ?_
  refine wl_mv (.tmp 2) (.int .i64 (1)) (fun _ => rfl) rfl rfl ?_
  refine wl_bin (fun x y => do eqGuard .sub 3 (.const (.int .i64 (1))) (.tmp 29) x y; binOp .sub 3 x y) (.const (.int .i64 (1))) (.tmp 29) (.int .i64 (1)) (.int .i64 (1)) (.int .i64 (0)) (fun _ => rfl) rfl rfl (subI (a := 1) (b := 1) (by decide) (by decide) _ _ _) rfl ?_
  refine wl_nc (.tmp 28) kk 0 rfl rfl rfl ?_
  refine wl_un (fun v => Instr.fieldAt 66 v 0) (.tmp 31) (pt kk 0) (pt kk 0) (fun _ => rfl) rfl (by kernel_rfl) rfl ?_
  refine wl_un (fun v => Instr.fieldAt 64 v 1) (.tmp 32) (pt kk 0) (pt kk 1) (fun _ => rfl) rfl (by kernel_rfl) rfl ?_
  refine wl_bin (fun x y => Instr.indexAt 62 x y) (.tmp 33) (.tmp 30) (pt kk 1) (.int .i64 (0)) (pt kk 1) (fun _ => rfl) rfl rfl (by kernel_rfl) rfl ?_
  refine wl_load 56 (.tmp 34) (pt kk 1) (pp x) rfl rfl (run_one (hS.rc kk _ hkk) 56 1 rfl Try.underlying56 rfl) rfl ?_
  refine wl_callg 43 [(.tmp 25), (.tmp 26), (.tmp 27), (.tmp 35)] _ [pt t 0, pt k 0, .int .i64 (1), pp x] (.tuple #[]) rfl rfl (fun _ _ => by kernel_rfl) (hang_n hS (some k) x true hin (fun j e => by cases e; exact ⟨_, hk⟩) (fun j e q => hxk (by rw [e, q]))) rfl ?_
  intro w3 hF
  obtain ⟨hS2, hM2⟩ := hF
  replace hS := hS2
  replace M := M.same hM2
  clear hS2 hM2
  replace hS : HS D _ t mb _ root1 lk := hS
  obtain ⟨R2, eR2⟩ : ∃ X, X = hkR R1 (some k) true x := ⟨_, rfl⟩
  rw [← eR2] at hS
  replace hk : R2 k = some ⟨u, o, x, (s), (i)⟩ := by rw [eR2]; exact hkR_par hk hxk
  replace hkk : R2 kk = some ⟨u, x, y, (ss), (ii)⟩ := by rw [eR2, hkR_ne hxkk (fun e => ne_k_kk (Option.some.inj e))]; exact hkk
  refine w_nil ?_
  refine xn_then ?_
  refine w_seq ?_
  refine w_reg ?_
  refine wl_mv (.tmp 0) (pt t 0) (fun _ => rfl) rfl rfl ?_
  refine wl_mv (.tmp 7) (pt kk 0) (fun _ => rfl) rfl rfl ?_
  refine wl_mv (.tmp 2) (.int .i64 (1)) (fun _ => rfl) rfl rfl ?_
  refine wl_bin (fun x y => do eqGuard .sub 3 (.const (.int .i64 (1))) (.tmp 39) x y; binOp .sub 3 x y) (.const (.int .i64 (1))) (.tmp 39) (.int .i64 (1)) (.int .i64 (1)) (.int .i64 (0)) (fun _ => rfl) rfl rfl (subI (a := 1) (b := 1) (by decide) (by decide) _ _ _) rfl ?_
  refine wl_mv (.tmp 1) (pt k 0) (fun _ => rfl) rfl rfl ?_
  refine wl_callg 43 [(.tmp 37), (.tmp 38), (.tmp 40), (.tmp 41)] _ [pt t 0, pt kk 0, .int .i64 (0), pt k 0] (.tuple #[]) rfl rfl (fun _ _ => by kernel_rfl) (hang_n hS (some kk) (some k) false (fun j e => by cases e; exact ⟨_, hk⟩) (fun j e => by cases e; exact ⟨_, hkk⟩) (fun j e q => by cases e; cases q; exact ne_k_kk rfl)) rfl ?_
  intro w4 hF
  obtain ⟨hS2, hM2⟩ := hF
  replace hS := hS2
  replace M := M.same hM2
  clear hS2 hM2
  replace hS : HS D _ t mb _ root1 lk := hS
  obtain ⟨R3, eR3⟩ : ∃ X, X = hkR R2 (some kk) false (some k) := ⟨_, rfl⟩
  rw [← eR3] at hS
  replace hkk : R3 kk = some ⟨u, (some k), y, (ss), (ii)⟩ := by rw [eR3]; exact hkR_par hkk (fun e => ne_k_kk (Option.some.inj e))
  replace hk : R3 k = some ⟨(some kk), o, x, (s), (i)⟩ := by rw [eR3]; exact hkR_self hk (fun e => ne_k_kk (Option.some.inj e).symm)
  have z1 : szo R3 o so := by rw [eR3, eR2, eR1]; exact ((ho.hk _ _ _).hk _ _ _).hk _ _ _
  have z2 : szo R3 x sx := by rw [eR3, eR2, eR1]; exact ((hsx.hk _ _ _).hk _ _ _).hk _ _ _
  have z3 : szo R3 y sy := by rw [eR3, eR2, eR1]; exact ((hsy.hk _ _ _).hk _ _ _).hk _ _ _
  refine w_nil ?_
  refine xn_then ?_
  refine w_seq ?_
  refine w_reg ?_
  refine wl_mv (.tmp 1) (pt k 0) (fun _ => rfl) rfl rfl ?_
  refine wl_nc (.tmp 43) k 0 rfl rfl rfl ?_
  refine wl_un (fun v => Instr.fieldAt 66 v 0) (.tmp 44) (pt k 0) (pt k 0) (fun _ => rfl) rfl (by kernel_rfl) rfl ?_
  refine wl_callg 48 [(.tmp 45)] _ [pt k 0] (.tuple #[]) rfl rfl (fun _ _ => by kernel_rfl) (resize_n hS hk z1 (by omega) (by omega) z2 (by omega) (by omega)) rfl ?_
  intro w5 hF
  obtain ⟨hS2, hM2⟩ := hF
  replace hS := hS2
  replace M := M.same hM2
  clear hS2 hM2
  obtain ⟨R4, eR4⟩ : ∃ X, X = ud R3 k ⟨(some kk), o, x, (1 + so + sx), (i)⟩ := ⟨_, rfl⟩
  rw [← eR4] at hS
  have hk : R4 k = some ⟨(some kk), o, x, (1 + so + sx), (i)⟩ := by rw [eR4]; exact ud_same _ _ _
  replace hkk : R4 kk = some ⟨u, (some k), y, (ss), (ii)⟩ := by rw [eR4, ud_ne _ _ ne_k_kk.symm]; exact hkk
  replace z3 : szo R4 y sy := by rw [eR4]; exact z3.ud _ hyk
  have z4 : szo R4 (some k) (1 + so + sx) := ⟨_, hk, rfl⟩
  refine w_nil ?_
  refine xn_then ?_
  refine w_seq ?_
  refine w_reg ?_
  refine wl_mv (.tmp 7) (pt kk 0) (fun _ => rfl) rfl rfl ?_
  refine wl_nc (.tmp 47) kk 0 rfl rfl rfl ?_
  refine wl_un (fun v => Instr.fieldAt 66 v 0) (.tmp 48) (pt kk 0) (pt kk 0) (fun _ => rfl) rfl (by kernel_rfl) rfl ?_
  refine wl_callg 48 [(.tmp 49)] _ [pt kk 0] (.tuple #[]) rfl rfl (fun _ _ => by kernel_rfl) (resize_n hS hkk z4 (by omega) (by omega) z3 (by omega) (by omega)) rfl ?_
  intro w6 hF
  obtain ⟨hS2, hM2⟩ := hF
  replace hS := hS2
  replace M := M.same hM2
  clear hS2 hM2
  obtain ⟨R5, eR5⟩ : ∃ X, X = ud R4 kk ⟨u, (some k), y, (1 + (1 + so + sx) + sy), (ii)⟩ := ⟨_, rfl⟩
  rw [← eR5] at hS
  replace hk : R5 k = some ⟨(some kk), o, x, (1 + so + sx), (i)⟩ := by rw [eR5, ud_ne _ _ ne_k_kk]; exact hk
  have hkk : R5 kk = some ⟨u, (some k), y, (1 + (1 + so + sx) + sy), (ii)⟩ := by rw [eR5]; exact ud_same _ _ _
  refine w_nil ?_
  refine xn_then ?_
  refine w_seq ?_
  refine w_reg ?_
  refine wl_mv (.tmp 7) (pt kk 0) (fun _ => rfl) rfl rfl ?_
  refine wl_mv (.tmp 51) (pt kk 0) (fun _ => rfl) rfl rfl ?_
  refine w_nil ?_
  refine xn_then ?_
  refine w_ret ?_
  refine w_ret1 _ (pt kk 0) rfl rfl ⟨rfl, R5, root1, hS, eroot, ⟨hk, hkk, fun j r e hr => ?_, fun p q e hq => ?_, fun j h1 h2 h3 h4 => ?_⟩, M⟩
  · have hjk : j ≠ k := fun q => hxk (by rw [e, q])
    have hjkk : j ≠ kk := fun q => hxkk (by rw [e, q])
    have huj : u ≠ some j := fun q => hux q e
    rw [eR5, ud_ne _ _ hjkk, eR4, ud_ne _ _ hjk, eR3, hkR_ne (fun q => hjk (Option.some.inj q).symm) (fun q => hjkk (Option.some.inj q).symm), eR2, e]
    exact hkR_self (by rw [eR1, hkR_ne (fun q => hjkk (Option.some.inj q).symm) huj]; exact hr) (fun q => hjk (Option.some.inj q).symm)
  · have hpk : p ≠ k := fun q => hukk (by rw [e, q])
    have hpkk : p ≠ kk := fun q => huk (by rw [e, q])
    have hxp : x ≠ some p := fun q => hux e q
    rw [eR5, ud_ne _ _ hpkk, eR4, ud_ne _ _ hpk, eR3, hkR_ne (fun q => hpk (Option.some.inj q).symm) (fun q => hpkk (Option.some.inj q).symm), eR2, hkR_ne hxp (fun q => hpk (Option.some.inj q).symm), eR1, e]
    exact hkR_par hq (fun q => hpkk (Option.some.inj q).symm)
  · rw [eR5, ud_ne _ _ h2, eR4, ud_ne _ _ h1, eR3, hkR_ne (fun q => h1 (Option.some.inj q).symm) (fun q => h2 (Option.some.inj q).symm), eR2, hkR_ne h3 (fun q => h1 (Option.some.inj q).symm), eR1]
    exact hkR_ne (fun q => h2 (Option.some.inj q).symm) h4
end
end Go.Proofs.Ytbmbldloeblbbaa
