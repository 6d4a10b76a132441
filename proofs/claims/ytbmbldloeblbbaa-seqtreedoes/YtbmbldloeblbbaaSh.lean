/-
  The tree's takeOver and take.
-/
import Derived.Test.YtbmbldloeblbbaaSg
namespace Go.Proofs.Ytbmbldloeblbbaa
open Go.RowKit
section
variable {D : Nat → Prop} {w : World} {t mb : Nat} {R : Mp} {root : Option Nat} {lk : Int}
theorem RepC.deep {R : Mp} {root : Option Nat} {f : Fr} {C : Cx} : ∀ {Ls : Cx} {p : Option Nat}, RepC R root (Ls ++ f :: C) p → ∃ q, R f.k = some (f.rc (top C) q)
  | [], p, h => ⟨p, h.1⟩
  | _ :: Ls, _, h => RepC.deep (Ls := Ls) h.2.2
theorem top_app (Ls : Cx) (f g : Fr) (C : Cx) (h : f.k = g.k) : top (Ls ++ f :: C) = top (Ls ++ g :: C) := by
  cases Ls with
  | nil => show some f.k = some g.k; rw [h]
  | cons y Ls => rfl
theorem mem_deep : ∀ (L : Cx) (f : Fr) (C : Cx), f.k ∈ adC (L ++ f :: C)
  | [], f, C => by show f.k ∈ f.k :: (f.o.ad ++ adC C); simp
  | y :: L, f, C => by show f.k ∈ y.k :: (y.o.ad ++ adC (L ++ f :: C)); simp [mem_deep L f C]
theorem repC_setid {R : Mp} {root : Option Nat} {k : Nat} {i j s : Int} {d : Bool} {o : T} {C : Cx} {q : Option Nat} (hq : R k = some ((⟨k, i, s, d, o⟩ : Fr).rc (top C) q)) : ∀ {Ls : Cx} {p : Option Nat}, RepC R root (Ls ++ ⟨k, i, s, d, o⟩ :: C) p → (adC (Ls ++ ⟨k, i, s, d, o⟩ :: C)).Nodup →
    RepC (ud R k ((⟨k, j, s, d, o⟩ : Fr).rc (top C) q)) root (Ls ++ ⟨k, j, s, d, o⟩ :: C) p
  | [], p, h, hn => by
    have hnd := List.nodup_cons.1 hn
    simp only [List.mem_append, not_or] at hnd
    have e := h.1.symm.trans hq
    refine ⟨?_, Rep.ud hnd.1.1 h.2.1, RepC.ud hnd.1.2 h.2.2⟩
    rw [ud_same]
    simp only [Option.some.injEq, Fr.rc, Rc.mk.injEq] at e ⊢
    cases d <;> simp_all
  | g :: Ls, p, h, hn => by
    have hnd := List.nodup_cons.1 hn
    simp only [List.mem_append, not_or] at hnd
    have hk : ∀ (L : Cx), k ∈ adC (L ++ ⟨k, i, s, d, o⟩ :: C) := fun L => mem_deep L ⟨k, i, s, d, o⟩ C
    have hgk : g.k ≠ k := fun e => hnd.1.2 (by rw [e]; exact hk Ls)
    have hn2 := List.nodup_append.1 hnd.2
    have hgo : k ∉ g.o.ad := fun m => hn2.2.2 k m k (hk Ls) rfl
    refine ⟨(ud_ne _ _ hgk).trans ?_, Rep.ud hgo h.2.1, repC_setid hq h.2.2 hn2.2.1⟩
    rw [h.1]
    show some (g.rc (top (Ls ++ _)) p) = _
    rw [top_app Ls ⟨k, i, s, d, o⟩ ⟨k, j, s, d, o⟩ C rfl]
    rfl
theorem adC_setid (k : Nat) (i j s : Int) (d : Bool) (o : T) (C : Cx) : ∀ Ls : Cx, adC (Ls ++ ⟨k, i, s, d, o⟩ :: C) = adC (Ls ++ ⟨k, j, s, d, o⟩ :: C)
  | [] => rfl
  | g :: Ls => by show g.k :: (g.o.ad ++ adC (Ls ++ _)) = g.k :: (g.o.ad ++ adC (Ls ++ _)); rw [adC_setid k i j s d o C Ls]
theorem plug_mem : ∀ (C : Cx) {tr : T} {x : Int}, x ∈ tr.ids → x ∈ (plug C tr).ids
  | [], _, _, h => h
  | f :: C, tr, x, h => by
    unfold plug
    refine plug_mem C ?_
    unfold Fr.jn
    split <;> simp [T.ids, h]
theorem over_n {C : Cx} {k rk : Nat} {i s ri rs : Int} {l ra rb : T} {f : Int → Option Nat} {n : Nat} (hT : TS D w t mb C (.n k i s l (.n rk ri rs ra rb)) lk) (hM : OM w mb f n) (hn1 : n ≤ 2000) (hwr : ∀ j ∈ (T.n rk ri rs ra rb).ids, (Lit.int .i64 j).wf = true) (ot : (T.n k i s l (.n rk ri rs ra rb)).ok) (hlk : 0 ≤ lk ∧ lk + 2 + (T.n rk ri rs ra rb).ht ≤ 4000000000000000000) :
    Calls Try.prog 45 #[pt t 0, pt k 0] w fun e w' => ∃ (Ls : Cx) (kn : Nat) (i2 s2 : Int) (b : T) (lk' : Int), e = .returned (pt kn 0) ∧ plug Ls (.n kn i2 s2 .e b) = (T.n rk ri rs ra rb) ∧ okC Ls ∧ (∀ g ∈ Ls, g.d = false) ∧ (T.n kn i2 s2 .e b).ok ∧ csz Ls + b.sz + 1 = (T.n rk ri rs ra rb).sz ∧ lk ≤ lk' ∧ lk' ≤ lk + 2 + Ls.length ∧ Ls.length + 1 ≤ (T.n rk ri rs ra rb).ht ∧
      TS D w' t mb (Ls ++ (⟨k, i2, s, true, l⟩ : Fr) :: C) (.n kn i2 s2 .e b) lk' ∧ OM w' mb (fu f i2 (some k)) (if (f i2).isSome then n else n + 1) ∧ Mk (fun j => D j ∨ j = mb) w w' := by
  obtain ⟨R0, root0, hS, hC0, hR0, hn0⟩ := hT
  have hk := hR0.1
  obtain ⟨H, eH⟩ : ∃ H, (T.n rk ri rs ra rb).ht = H := ⟨_, rfl⟩
  rw [eH] at hlk
  refine w_enter 51 Try.func45 Try.ntmps45 rfl rfl ?_
  have M : Mk (fun j => D j ∨ j = mb) w w := Mk.refl _ _
  refine w_seq ?_
  refine w_reg ?_
  refine wl_mv (.const (.pointer none)) (pp none) (fun _ => rfl) rfl rfl ?_
  refine w_nil ?_
  refine xn_then ?_
  refine w_seq ?_
  refine w_reg ?_
  refine wl_mv (.tmp 1) (pt k 0) (fun _ => rfl) rfl rfl ?_
  refine wl_nc (.tmp 6) k 0 rfl rfl rfl ?_
  refine wl_un (fun v => Instr.fieldAt 66 v 0) (.tmp 7) (pt k 0) (pt k 0) (fun _ => rfl) rfl (by kernel_rfl) rfl ?_
  refine wl_un (fun v => Instr.fieldAt 64 v 1) (.tmp 8) (pt k 0) (pt k 1) (fun _ => rfl) rfl (by kernel_rfl) rfl ?_
  refine wl_bin (fun x y => Instr.indexAt 62 x y) (.tmp 9) (.const (.int .i64 (1))) (pt k 1) (.int .i64 (1)) (pt k 2) (fun _ => rfl) rfl rfl (by kernel_rfl) rfl ?_
  refine wl_load 56 (.tmp 10) (pt k 2) (pt rk 0) rfl rfl (run_one (hS.rc k _ hk) 56 2 rfl Try.underlying56 rfl) rfl ?_
  refine wl_mv (.tmp 11) (pt rk 0) (fun _ => rfl) rfl rfl ?_
  refine w_nil ?_
  refine xn_then ?_
  refine w_seq ?_
  refine w_reg ?_
  refine wl_mv (.tmp 0) (pt t 0) (fun _ => rfl) rfl rfl ?_
  refine wl_mv (.tmp 1) (pt k 0) (fun _ => rfl) rfl rfl ?_
  refine wl_mv (.tmp 5) (pt rk 0) (fun _ => rfl) rfl rfl ?_
  refine wl_bsl [(0, (.tmp 13)), (1, (.tmp 14))] [pp (some k), pp (some rk)] 2 rfl rfl (bs2 (some k) (some rk)) rfl ?_
  intro g1 w1 hk hz hq Q1
  have nd_g1 : ¬ D g1 := fun e => by have := hS.lt e; omega
  replace hS := hS.mo hq
  replace hM := hM.mo hq
  replace M := M.trans hq
  clear hk hz hq
  refine wl_callg 39 [(.tmp 12), (.tmp 15)] _ [pt t 0, .slice (some ⟨g1, 0, none⟩) 2 2] (.tuple #[]) rfl rfl (fun _ _ => by kernel_rfl) (look_n [(some k), (some rk)] g1 hS Q1 nd_g1 (by simp only [List.length_cons, List.length_nil]; omega)) rfl ?_
  intro w2 hF
  have hc1 := cnt_le [(some k), (some rk)]
  simp only [List.length_cons, List.length_nil] at hc1
  obtain ⟨hS2, hM2⟩ := hF
  replace hS := hS2
  replace M := M.tr hM2 (fun _ _ e => Or.inl e)
  replace hM := hM.mk hM2 hS.nb
  clear hS2 hM2 Q1 nd_g1
  refine w_nil ?_
  refine xn_then ?_
  refine w_seq ?_
  refine w_block ?_
  refine w_loop (fun m l0 w1 => ∃ (Ls : Cx) (tr1 : T) (lk1 : Int) (k1 : Nat), m = tr1.ht ∧ look l0 0 = pt t 0 ∧ look l0 1 = pt k 0 ∧ look l0 5 = pt k1 0 ∧ tr1.p = some k1 ∧ TS D w1 t mb (Ls ++ (⟨k, i, s, true, l⟩ : Fr) :: C) tr1 lk1 ∧ OM w1 mb f n ∧ tr1.ok ∧ okC Ls ∧ (∀ g ∈ Ls, g.d = false) ∧ plug Ls tr1 = (T.n rk ri rs ra rb) ∧ csz Ls + tr1.sz = (T.n rk ri rs ra rb).sz ∧ lk ≤ lk1 ∧ lk1 ≤ lk + 2 + Ls.length ∧ Ls.length + tr1.ht ≤ H ∧ Mk (fun j => D j ∨ j = mb) w w1) _ ⟨[], T.n rk ri rs ra rb, ((lk) + cnt [(some k), (some rk)]), rk, rfl, rfl, rfl, rfl, rfl, TS.dn (f := (⟨k, i, s, true, l⟩ : Fr)) ⟨R0, root0, hS, hC0, hR0, hn0⟩, hM, ot.2.2, fun _ h => (by cases h), fun _ h => (by cases h), rfl, by simp only [csz]; omega, by omega, by simp only [List.length_nil]; omega, by rw [eH]; simp, M⟩ ?_
  clear M hS hM hk hC0 hR0 hn0
  rintro m l1 wl ⟨Ls, tr1, lk1, k1, rfl, e0, e1, e5, hp1, hT, hM, ok1, okL, hLd, hpl, hcs, hl1, hl2, hht, M⟩
  obtain ⟨R, root, hS, hC, hR, hn⟩ := hT
  have hlk0 : 0 ≤ lk1 := by omega
  cases tr1 with
  | e => cases hp1
  | n kk i2 s2 a b =>
    cases hp1
    have hR1 := hR
    obtain ⟨hkk, ha, hb⟩ := hR
    have h0a := T.sz_nn a; have h0b := T.sz_nn b
    simp only [T.ht] at hht
    have hml := Nat.le_max_left a.ht b.ht
    cases a with
    | n ak ai az al ar =>
      refine w_seq ?_
      refine w_seq ?_
      refine w_reg ?_
      refine wl_mv (.tmp 5) (pt k1 0) (fun _ => rfl) e5 rfl ?_
      refine wl_nc (.tmp 17) k1 0 rfl rfl rfl ?_
      refine wl_un (fun v => Instr.fieldAt 66 v 0) (.tmp 18) (pt k1 0) (pt k1 0) (fun _ => rfl) rfl (by kernel_rfl) rfl ?_
      refine wl_un (fun v => Instr.fieldAt 64 v 1) (.tmp 19) (pt k1 0) (pt k1 1) (fun _ => rfl) rfl (by kernel_rfl) rfl ?_
      refine wl_bin (fun x y => Instr.indexAt 62 x y) (.tmp 20) (.const (.int .i64 (0))) (pt k1 1) (.int .i64 (0)) (pt k1 1) (fun _ => rfl) rfl rfl (by kernel_rfl) rfl ?_
      refine wl_load 56 (.tmp 21) (pt k1 1) (pt ak 0) rfl rfl (run_one (hS.rc k1 _ hkk) 56 1 rfl Try.underlying56 rfl) rfl ?_
      refine wl_bin (fun x y => do eqGuard .neq 56 (.tmp 22) (.const (.pointer none)) x y; binOp .neq 56 x y) (.tmp 22) (.const (.pointer none)) (pt ak 0) (pp none) (.bool true) (fun _ => rfl) rfl rfl (ne56 (some ak) _ _ _) rfl ?_
      refine w_nil ?_
      refine xn_then ?_
      refine w_condT rfl ?_
      refine w_skip ?_
      refine xn_then ?_
      refine w_block ?_
      refine w_seq ?_
      refine w_reg ?_
      refine wl_mv (.tmp 5) (pt k1 0) (fun _ => rfl) e5 rfl ?_
      refine wl_nc (.tmp 24) k1 0 rfl rfl rfl ?_
      refine wl_un (fun v => Instr.fieldAt 66 v 0) (.tmp 25) (pt k1 0) (pt k1 0) (fun _ => rfl) rfl (by kernel_rfl) rfl ?_
      refine wl_un (fun v => Instr.fieldAt 64 v 1) (.tmp 26) (pt k1 0) (pt k1 1) (fun _ => rfl) rfl (by kernel_rfl) rfl ?_
      refine wl_bin (fun x y => Instr.indexAt 62 x y) (.tmp 27) (.const (.int .i64 (0))) (pt k1 1) (.int .i64 (0)) (pt k1 1) (fun _ => rfl) rfl rfl (by kernel_rfl) rfl ?_
      refine wl_load 56 (.tmp 28) (pt k1 1) (pt ak 0) rfl rfl (run_one (hS.rc k1 _ hkk) 56 1 rfl Try.underlying56 rfl) rfl ?_
      refine wl_mv (.tmp 29) (pt ak 0) (fun _ => rfl) rfl rfl ?_
      refine w_nil ?_
      refine xn_then ?_
      refine w_reg ?_
      refine wl_mv (.tmp 0) (pt t 0) (fun _ => rfl) e0 rfl ?_
      refine wl_mv (.tmp 5) (pt ak 0) (fun _ => rfl) rfl rfl ?_
      refine wl_bsl [(0, (.tmp 31))] [pp (some ak)] 1 rfl rfl (bs1 (some ak)) rfl ?_
      intro g11 w11 hk hz hq Q11
      have nd_g11 : ¬ D g11 := fun e => by have := hS.lt e; omega
      replace hS := hS.mo hq
      replace hM := hM.mo hq
      replace M := M.trans hq
      clear hk hz hq
      refine wl_callg 39 [(.tmp 30), (.tmp 32)] _ [pt t 0, .slice (some ⟨g11, 0, none⟩) 1 1] (.tuple #[]) rfl rfl (fun _ _ => by kernel_rfl) (look_n [(some ak)] g11 hS Q11 nd_g11 (by simp only [List.length_cons, List.length_nil]; omega)) rfl ?_
      intro w12 hF
      have hc1 := cnt_le [(some ak)]
      simp only [List.length_cons, List.length_nil] at hc1
      obtain ⟨hS2, hM2⟩ := hF
      replace hS := hS2
      replace M := M.tr hM2 (fun _ _ e => Or.inl e)
      replace hM := hM.mk hM2 hS.nb
      clear hS2 hM2 Q11 nd_g11
      refine w_nil ?_
      refine xn_blk ?_
      exact xn_loop (T.n ak ai az al ar).ht (by simp only [T.ht]; omega) ⟨(⟨k1, i2, s2, false, b⟩ : Fr) :: Ls, (T.n ak ai az al ar), ((lk1) + cnt [(some ak)]), ak, rfl, e0, e1, rfl, rfl, TS.dn (f := (⟨k1, i2, s2, false, b⟩ : Fr)) ⟨R, root, hS, hC, hR1, hn⟩, hM, ok1.2.1, fun g hg => by rcases List.mem_cons.1 hg with rfl | hg; exact ok1.2.2; exact okL g hg, fun g hg => by rcases List.mem_cons.1 hg with rfl | hg; rfl; exact hLd g hg, hpl, by simp only [csz, T.sz] at hcs ⊢; omega, by omega, by simp only [List.length_cons]; omega, by simp only [List.length_cons]; omega, M⟩
    | e =>
      obtain ⟨q, hqk⟩ := hC.deep
      unfold Fr.rc at hqk
      replace hqk : R k = some ⟨top C, l.p, q, s, i⟩ := hqk
      have n1 := nd_pos hn
      have hne : k ≠ k1 := fun e => n1.2.2 k (mem_deep Ls (⟨k, i, s, true, l⟩ : Fr) C) (by rw [e]; unfold T.ad; simp)
      have hq0 := hqk
      have hkm : k ∈ adC (Ls ++ (⟨k, i, s, true, l⟩ : Fr) :: C) := mem_deep Ls (⟨k, i, s, true, l⟩ : Fr) C
      have hkb : k ∉ b.ad := fun m => n1.2.2 k hkm (by unfold T.ad; simp [m])
      have hi2m : i2 ∈ (T.n rk ri rs ra rb).ids := by rw [← hpl]; exact plug_mem Ls (by unfold T.ids; simp)
      refine w_seq ?_
      refine w_seq ?_
      refine w_reg ?_
      refine wl_mv (.tmp 5) (pt k1 0) (fun _ => rfl) e5 rfl ?_
      refine wl_nc (.tmp 17) k1 0 rfl rfl rfl ?_
      refine wl_un (fun v => Instr.fieldAt 66 v 0) (.tmp 18) (pt k1 0) (pt k1 0) (fun _ => rfl) rfl (by kernel_rfl) rfl ?_
      refine wl_un (fun v => Instr.fieldAt 64 v 1) (.tmp 19) (pt k1 0) (pt k1 1) (fun _ => rfl) rfl (by kernel_rfl) rfl ?_
      refine wl_bin (fun x y => Instr.indexAt 62 x y) (.tmp 20) (.const (.int .i64 (0))) (pt k1 1) (.int .i64 (0)) (pt k1 1) (fun _ => rfl) rfl rfl (by kernel_rfl) rfl ?_
      refine wl_load 56 (.tmp 21) (pt k1 1) (pp none) rfl rfl (run_one (hS.rc k1 _ hkk) 56 1 rfl Try.underlying56 rfl) rfl ?_
      refine wl_bin (fun x y => do eqGuard .neq 56 (.tmp 22) (.const (.pointer none)) x y; binOp .neq 56 x y) (.tmp 22) (.const (.pointer none)) (pp none) (pp none) (.bool false) (fun _ => rfl) rfl rfl (ne56 none _ _ _) rfl ?_
      refine w_nil ?_
      refine xn_then ?_
      refine w_condF rfl ?_
      refine w_exit ?_
      refine xx_then ?_
      refine xx_then ?_
      refine xx_blk ?_
      refine xn_then ?_
      refine w_seq ?_
      refine w_reg ?_
      refine wl_mv (.tmp 1) (pt k 0) (fun _ => rfl) e1 rfl ?_
      refine wl_mv (.tmp 5) (pt k1 0) (fun _ => rfl) e5 rfl ?_
      refine wl_nc (.tmp 35) k1 0 rfl rfl rfl ?_
      refine wl_un (fun v => Instr.fieldAt 66 v 1) (.tmp 36) (pt k1 0) (pt k1 4) (fun _ => rfl) rfl (by kernel_rfl) rfl ?_
      refine wl_load 2 (.tmp 37) (pt k1 4) (.int .i64 (i2)) rfl rfl (run_one (hS.rc k1 _ hkk) 2 4 rfl Try.underlying2 rfl) rfl ?_
      refine wl_nc (.tmp 34) k 0 rfl rfl rfl ?_
      refine wl_un (fun v => Instr.fieldAt 66 v 1) (.tmp 39) (pt k 0) (pt k 4) (fun _ => rfl) rfl (by kernel_rfl) rfl ?_
      have ne_k_k1 := hne
      refine wl_st1x 2 (.tmp 40) (.tmp 38) k 4 (.int .i64 (i2)) [pp (top C), pp l.p, pp q, .int .i64 (s), .int .i64 (i)] [pp (top C), pp l.p, pp q, .int .i64 (s), .int .i64 (i2)] (hS.rc k _ hqk) rfl rfl rfl rfl rfl sz2 rfl rfl rfl rfl ?_
      intro w11 hT hA
      replace hM := hM.mk ((Mk.refl D _).st hT (hS.dk hqk)) hS.nb
      replace M := M.st hT (Or.inl (hS.dk hqk))
      replace hS := hS.put hqk ⟨(top C), l.p, q, (s), (i2)⟩ hT hA
      clear hT hA
      obtain ⟨R1, eR1⟩ : ∃ X, X = ud R k ⟨(top C), l.p, q, (s), (i2)⟩ := ⟨_, rfl⟩
      rw [← eR1] at hS
      replace hkk : R1 k1 = some ⟨(top (Ls ++ (⟨k, i, s, true, l⟩ : Fr) :: C)), none, b.p, (s2), (i2)⟩ := by rw [eR1, ud_ne _ _ ne_k_k1.symm]; exact hkk
      have hqk : R1 k = some ⟨(top C), l.p, q, (s), (i2)⟩ := by rw [eR1]; exact ud_same _ _ _
      refine w_nil ?_
      refine xn_then ?_
      refine w_seq ?_
      refine w_any 9 [.inl (pt t 0), .inl (pt t 0), .inl (pt t 1), .inl (.map (some mb)), .inl (pt k 0), .inl (pt k 0), .inl (pt k 4), .inl (.int .i64 (i2)), .inl (pt k 0)] [] (by kernel_rfl) (by kernel_rfl) (by kernel_rfl) (by kernel_rfl) rfl (by kernel_rfl) (by kernel_rfl) late_nil ?_ ?_ ?_
      · exact Ds.none rfl
      · refine ea_cons ?_ (ea_cons ?_ (ea_cons ?_ (ea_cons ?_ (ea_cons ?_ (ea_cons ?_ (ea_cons ?_ (ea_cons ?_ (ea_cons ?_ (ea_nil)))))))))
        · exact og_eq (pt t 0) rfl (fun f wf hq hd K hK => go_run rfl (wo_mv (.tmp 0) (pt t 0) (fun _ => rfl) e0 (hK _ (Mo.refl _))))
        · exact og_eq (pt t 0) rfl (fun f wf hq hd K hK => go_run rfl (wo_nc (.tmp 41) t 0 rfl (hd 0 rfl) (hK _ (Mo.refl _))))
        · exact og_eq (pt t 1) rfl (fun f wf hq hd K hK => go_run rfl (wo_un (fun v => Instr.fieldAt 59 v 1) (.tmp 42) (pt t 0) (pt t 1) (fun _ => rfl) (hd 1 rfl) (by kernel_rfl) (hK _ (Mo.refl _))))
        · exact og_eq (.map (some mb)) rfl (fun f wf hq hd K hK => have hS := hS.mo hq; go_run rfl (wo_load 57 (.tmp 43) (pt t 1) (.map (some mb)) rfl (hd 2 rfl) (run_one hS.tr 57 1 rfl Try.underlying57 rfl) (hK _ (Mo.refl _))))
        · exact og_eq (pt k 0) rfl (fun f wf hq hd K hK => go_run rfl (wo_mv (.tmp 1) (pt k 0) (fun _ => rfl) e1 (hK _ (Mo.refl _))))
        · exact og_eq (pt k 0) rfl (fun f wf hq hd K hK => go_run rfl (wo_nc (.tmp 45) k 0 rfl (hd 4 rfl) (hK _ (Mo.refl _))))
        · exact og_eq (pt k 4) rfl (fun f wf hq hd K hK => go_run rfl (wo_un (fun v => Instr.fieldAt 66 v 1) (.tmp 46) (pt k 0) (pt k 4) (fun _ => rfl) (hd 5 rfl) (by kernel_rfl) (hK _ (Mo.refl _))))
        · exact og_eq (.int .i64 (i2)) rfl (fun f wf hq hd K hK => have hS := hS.mo hq; go_run rfl (wo_load 2 (.tmp 47) (pt k 4) (.int .i64 (i2)) rfl (hd 6 rfl) (run_one (hS.rc k _ hqk) 2 4 rfl Try.underlying2 rfl) (hK _ (Mo.refl _))))
        · exact og_eq (pt k 0) rfl (fun f wf hq hd K hK => go_run rfl (wo_mv (.tmp 1) (pt k 0) (fun _ => rfl) e1 (hK _ (Mo.refl _))))
      intro kf12 w12 hq _ _
      replace hS := hS.mo hq
      replace hM := hM.mo hq
      replace M := M.trans hq
      clear hq
      refine wl_mup (.tmp 44) (.tmp 48) (.tmp 49) mb i2 k hM (by omega) (hwr i2 hi2m) rfl rfl rfl rfl rfl rfl ?_
      intro w13 hM9 hK
      replace hM := hM9
      replace hS := hS.kept hK (fun j e q => hS.nb (by rw [← q]; exact e))
      replace M := M.tr hK (fun _ _ e => Or.inr e)
      clear hM9 hK
      refine w_nil ?_
      refine xn_then ?_
      refine w_seq ?_
      refine w_reg ?_
      refine wl_mv (.tmp 5) (pt k1 0) (fun _ => rfl) e5 rfl ?_
      refine wl_mv (.tmp 50) (pt k1 0) (fun _ => rfl) rfl rfl ?_
      refine w_nil ?_
      refine xn_then ?_
      refine w_ret ?_
      exact w_ret1 _ (pt k1 0) rfl rfl ⟨Ls, k1, i2, s2, b, (lk1), rfl, hpl, okL, hLd, ok1, by simp only [T.sz] at hcs ⊢; omega, by omega, by omega, by rw [eH]; omega, ⟨R1, root, hS, by rw [eR1]; exact repC_setid (j := i2) hq0 hC n1.1, ⟨by rw [← top_app Ls (⟨k, i, s, true, l⟩ : Fr) (⟨k, i2, s, true, l⟩ : Fr) C rfl]; exact hkk, trivial, by rw [eR1]; exact hb.ud (fun m => hkb m)⟩, by rw [← adC_setid k i i2 s true l C Ls]; exact hn⟩, hM, M⟩
end
end Go.Proofs.Ytbmbldloeblbbaa
