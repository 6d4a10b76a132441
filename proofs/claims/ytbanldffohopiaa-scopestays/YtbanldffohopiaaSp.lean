/-
  What scope's calls say, over lists; what a checker holds, and that it lies there.
-/
import Derived.Test.YtbanldffohopiaaDa
namespace Go.Proofs.Ytbanldffohopiaa
open Go.RowKit D
/-- The reserved words. -/
def wds : List ByteArray := [⟨#[114, 101, 116, 117, 114, 110]⟩, ⟨#[102, 105, 101, 108, 100]⟩, ⟨#[108, 105, 110, 101]⟩, ⟨#[99, 104, 101, 99, 107]⟩, ⟨#[115, 101, 99, 116, 105, 111, 110]⟩, ⟨#[116, 97, 98, 108, 101]⟩, ⟨#[112, 97, 103, 101]⟩, ⟨#[119, 104, 101, 110]⟩, ⟨#[109, 97, 120]⟩, ⟨#[102, 114, 111, 109]⟩, ⟨#[98, 97, 115, 101]⟩, ⟨#[114, 97, 116, 101]⟩, ⟨#[110, 101, 101, 100, 101, 100]⟩, ⟨#[97, 109, 111, 117, 110, 116]⟩, ⟨#[102, 108, 97, 103]⟩, ⟨#[116, 101, 120, 116]⟩, ⟨#[105, 102]⟩, ⟨#[114, 111, 117, 110, 100]⟩, ⟨#[98, 108, 97, 110, 107]⟩, ⟨#[114, 111, 119, 115]⟩, ⟨#[115, 117, 109]⟩, ⟨#[99, 111, 117, 110, 116]⟩, ⟨#[109, 105, 110]⟩, ⟨#[97, 110, 100]⟩, ⟨#[111, 114]⟩, ⟨#[110, 111, 116]⟩, ⟨#[116, 114, 117, 101]⟩, ⟨#[102, 97, 108, 115, 101]⟩, ⟨#[104, 97, 108, 102, 95, 117, 112]⟩, ⟨#[104, 97, 108, 102, 95, 101, 118, 101, 110]⟩, ⟨#[100, 111, 119, 110]⟩, ⟨#[117, 112]⟩, ⟨#[102, 108, 111, 111, 114]⟩]
def rsv (s : ByteArray) : Bool := wds.any (fun x => decide (s = x))
def may (s : ByteArray) : Bool := nam s && !rsv s
def cbr (k : Int) : Bool := decide (k = 1) || decide (k = 2)
def prn (L : List S5) (s : Nat) : Int := ((L[s]?).map (·.pr)).getD (-1)
def nmO (L : List S5) (s : Nat) : ByteArray := ((L[s]?).map (·.nm)).getD ⟨#[]⟩
def itO (L : List S5) (s : Nat) : List It := ((L[s]?).map (·.items)).getD []
/-- A section's number, and those of the sections around it. -/
def anc (L : List S5) (s : Nat) : List Nat := s :: (if _h : 0 ≤ prn L s ∧ (prn L s).toNat < s then anc L (prn L s).toNat else [])
/-- Parents stand ahead. -/
def Wf (L : List S5) : Prop := ∀ (i : Nat) (x : S5), L[i]? = some x → x.pr < i ∧ -1 ≤ x.pr ∧ (0 < i → 0 ≤ x.pr)
/-- The numbers from a section on upwards, of which the first is a. -/
def Up (L : List S5) (a : Int) (R : List Nat) : Prop := (a < 0 ∧ R = []) ∨ ∃ k : Nat, a = k ∧ k < L.length ∧ R = anc L k
theorem prn_of {L : List S5} {k : Nat} {x : S5} (h : L[k]? = some x) : prn L k = x.pr := by unfold prn; rw [h]; rfl
theorem nmO_of {L : List S5} {k : Nat} {x : S5} (h : L[k]? = some x) : nmO L k = x.nm := by unfold nmO; rw [h]; rfl
theorem itO_of {L : List S5} {k : Nat} {x : S5} (h : L[k]? = some x) : itO L k = x.items := by unfold itO; rw [h]; rfl
theorem lt_of_get {α : Type} {L : List α} {k : Nat} {x : α} (h : L[k]? = some x) : k < L.length := (List.getElem?_eq_some_iff.1 h).1
theorem get_of_lt {α : Type} {L : List α} {k : Nat} (h : k < L.length) : ∃ x, L[k]? = some x := ⟨_, List.getElem?_eq_getElem h⟩
theorem anc_step {L : List S5} (hw : Wf L) {k : Nat} {x : S5} (h : L[k]? = some x) : ∃ R, anc L k = k :: R ∧ Up L x.pr R := by
  have hp := prn_of h
  obtain ⟨h1, h2, _⟩ := hw k x h
  have hk := lt_of_get h
  rw [anc]
  refine ⟨_, rfl, ?_⟩
  by_cases h0 : 0 ≤ x.pr
  · rw [dif_pos (by rw [hp]; omega)]
    exact Or.inr ⟨x.pr.toNat, by omega, by omega, by rw [hp]⟩
  · rw [dif_neg (by rw [hp]; omega)]
    exact Or.inl ⟨by omega, rfl⟩
theorem Up.start {L : List S5} {k : Nat} (h : k < L.length) : Up L k (anc L k) := Or.inr ⟨k, rfl, h, rfl⟩
/-- Has a section, or one around it, or an item of these, the name? -/
def tkn (L : List S5) (I : Nat → List (ByteArray × Int)) (s : Nat) (nm : ByteArray) : Bool := (anc L s).any (fun a => decide (nmO L a = nm) || (lk (I a) nm).isSome)
def fnd (L : List S5) (I : Nat → List (ByteArray × Int)) (s : Nat) (nm : ByteArray) : Bool := (anc L s).any (fun a => cbr ((lk (I a) nm).getD 0))
/-- What the maps say: tables, each section's items and kids. -/
structure Al where
  T : List (ByteArray × Int)
  I : Nat → List (ByteArray × Int)
  K : Nat → List (ByteArray × Int)
/-- Is there what an expression's node reads? -/
def kno (L : List S5) (A : Al) (s : Nat) (x : Ex) : Bool :=
  if x.k = 2 then fnd L A.I s x.nm
  else if x.k = 10 then (lk (A.K s) x.se).isSome && (decide (x.op = 16) || cbr ((lk (A.I ((lk (A.K s) x.se).getD 0).toNat) x.nm).getD 0))
  else if x.k = 8 then (lk A.T x.nm).isSome else true
/-- Does an expression, or one of its parts, say no? -/
def lck (f : Ex → Bool) : Ex → Bool
  | .mk k op nm se v sc po pa cap args => !f (.mk k op nm se v sc po pa cap args) || args.attach.any (fun a => have := a.2; lck f a.1)
theorem lck_eq (f : Ex → Bool) : ∀ x : Ex, lck f x = (!f x || x.args.any (lck f))
  | .mk k op nm se v sc po pa cap args => by
    rw [lck]
    have e : args.any (lck f) = args.attach.any (fun a => lck f a.1) := by
      conv => lhs; rw [← List.attach_map_subtype_val args, List.any_map]
      rfl
    show _ = (_ || args.any (lck f))
    rw [e]
/-! A checker. -/
abbrev mpc (b : Nat) : List Value := [.map (some b)]
structure Zc where
  cb : Nat
  d : Df
  L : List S5
  sp : Option Addr
  sc : Nat
  tb : Nat
  MI : List Nat
  ip : Option Addr
  ic : Nat
  KI : List Nat
  kp : Option Addr
  kc : Nat
def Zc.cells (z : Zc) : List Value := [.string z.d.nm, .string z.d.rt.nm, .int .i64 z.d.rt.mx, .slice z.d.rt.pi z.d.rt.items.length z.d.rt.ci, .slice z.d.rt.pk z.d.rt.kids.length z.d.rt.ck, .slice z.d.pt z.d.tb.length z.d.ct, .slice z.d.pp z.d.pg.length z.d.cp, .slice z.sp z.L.length z.sc, .map (some z.tb), .slice z.ip z.MI.length z.ic, .slice z.kp z.KI.length z.kc]
structure CK (w : World) (z : Zc) (A : Al) : Prop where
  at' : At w z.cb z.cells
  df : LDf w z.d
  ls : SL w 5 S5.cells z.sp z.L
  l5 : ∀ x ∈ z.L, LS5 w x
  mi : SL w 1 mpc z.ip z.MI
  ki : SL w 1 mpc z.kp z.KI
  lm : z.MI.length = z.L.length
  lk : z.KI.length = z.L.length
  om : OM w z.tb A.T
  oi : ∀ i b, z.MI[i]? = some b → OM w b (A.I i)
  ok : ∀ i b, z.KI[i]? = some b → OM w b (A.K i)
  nd : (z.tb :: (z.MI ++ z.KI)).Nodup
  wf : Wf z.L
  kr : ∀ i p, p ∈ A.K i → 0 ≤ p.2 ∧ p.2 < z.L.length
variable {w w' : World} {z : Zc} {A : Al}
theorem CK.mo (h : CK w z A) (m : Mo w w') : CK w' z A :=
  ⟨h.at'.mo m, h.df.kp m.kp, h.ls.kp m.kp, fun x hx => (h.l5 x hx).kp m.kp, h.mi.kp m.kp, h.ki.kp m.kp, h.lm, h.lk, h.om.mo m, fun i b e => (h.oi i b e).mo m, fun i b e => (h.ok i b e).mo m, h.nd, h.wf, h.kr⟩
theorem CK.rw (h : CK w z A) : Rw w z.cb 0 z.cells := ⟨h.at'.2.2, h.at'.1⟩
/-- The blocks of a checker's maps. -/
def Zc.D (z : Zc) (k : Nat) : Prop := k ∈ z.tb :: (z.MI ++ z.KI)
theorem Zc.dt : z.D z.tb := List.mem_cons_self ..
theorem Zc.di {i b : Nat} (h : z.MI[i]? = some b) : z.D b := List.mem_cons_of_mem _ (List.mem_append_left _ (List.mem_of_getElem? h))
theorem Zc.dk {i b : Nat} (h : z.KI[i]? = some b) : z.D b := List.mem_cons_of_mem _ (List.mem_append_right _ (List.mem_of_getElem? h))
def upF (f : Nat → List (ByteArray × Int)) (i : Nat) (v : List (ByteArray × Int)) (j : Nat) : List (ByteArray × Int) := if j = i then v else f j
theorem upF_same (f : Nat → List (ByteArray × Int)) (i : Nat) (v : List (ByteArray × Int)) : upF f i v i = v := if_pos rfl
theorem upF_ne (f : Nat → List (ByteArray × Int)) {i j : Nat} (v : List (ByteArray × Int)) (h : j ≠ i) : upF f i v j = f j := if_neg h
theorem OM.keep {b : Nat} {al : List (ByteArray × Int)} (hb : OM w b al) (m : Mk (fun j => j = b) w w') : Kp w w' := m.kp (fun k e o => by rw [e]; exact hb.nocell o)
theorem nodup_get {α : Type} {L : List α} (h : L.Nodup) {i j : Nat} {a : α} (hi : L[i]? = some a) (hj : L[j]? = some a) : i = j := by
  obtain ⟨h1, e1⟩ := List.getElem?_eq_some_iff.1 hi
  obtain ⟨h2, e2⟩ := List.getElem?_eq_some_iff.1 hj
  have hp := List.pairwise_iff_getElem.1 h
  rcases Nat.lt_trichotomy i j with q | q | q
  · exact absurd (e1.trans e2.symm) (hp i j h1 h2 q)
  · exact q
  · exact absurd (e2.trans e1.symm) (hp j i h2 h1 q)
theorem CK.putT (h : CK w z A) {al : List (ByteArray × Int)} (hO : OM w' z.tb al) (m : Mk (fun j => j = z.tb) w w') : CK w' z ⟨al, A.I, A.K⟩ := by
  have k := h.om.keep m
  have hn := List.nodup_cons.1 h.nd
  exact ⟨h.at'.kp k m.fz, h.df.kp k, h.ls.kp k, fun x hx => (h.l5 x hx).kp k, h.mi.kp k, h.ki.kp k, h.lm, h.lk, hO, fun i b e => (h.oi i b e).mk m (fun q => hn.1 (by rw [← q]; exact List.mem_append_left _ (List.mem_of_getElem? e))), fun i b e => (h.ok i b e).mk m (fun q => hn.1 (by rw [← q]; exact List.mem_append_right _ (List.mem_of_getElem? e))), h.nd, h.wf, h.kr⟩
theorem CK.putI (h : CK w z A) {i b : Nat} (hb : z.MI[i]? = some b) {al : List (ByteArray × Int)} (hO : OM w' b al) (m : Mk (fun j => j = b) w w') : CK w' z ⟨A.T, upF A.I i al, A.K⟩ := by
  have k := (h.oi i b hb).keep m
  have hn := List.nodup_cons.1 h.nd
  have hn2 := List.nodup_append.1 hn.2
  have hbm := List.mem_of_getElem? hb
  refine ⟨h.at'.kp k m.fz, h.df.kp k, h.ls.kp k, fun x hx => (h.l5 x hx).kp k, h.mi.kp k, h.ki.kp k, h.lm, h.lk, h.om.mk m (fun q => hn.1 (by rw [q]; exact List.mem_append_left _ hbm)), fun j c e => ?_, fun j c e => (h.ok j c e).mk m (fun q => hn2.2.2 b hbm c (List.mem_of_getElem? e) q.symm), h.nd, h.wf, h.kr⟩
  by_cases hj : j = i
  · subst hj
    have : c = b := Option.some.inj (e.symm.trans hb)
    subst this
    show OM w' c (upF A.I j al j)
    rw [upF_same]; exact hO
  · show OM w' c (upF A.I i al j)
    rw [upF_ne _ _ hj]
    exact (h.oi j c e).mk m (fun q => hj (nodup_get hn2.1 e (by rw [q]; exact hb)))
theorem CK.putK (h : CK w z A) {i b : Nat} (hb : z.KI[i]? = some b) {s : ByteArray} {v : Int} (hv : 0 ≤ v ∧ v < z.L.length) (hO : OM w' b ((s, v) :: A.K i)) (m : Mk (fun j => j = b) w w') : CK w' z ⟨A.T, A.I, upF A.K i ((s, v) :: A.K i)⟩ := by
  have k := (h.ok i b hb).keep m
  have hn := List.nodup_cons.1 h.nd
  have hn2 := List.nodup_append.1 hn.2
  have hbm := List.mem_of_getElem? hb
  refine ⟨h.at'.kp k m.fz, h.df.kp k, h.ls.kp k, fun x hx => (h.l5 x hx).kp k, h.mi.kp k, h.ki.kp k, h.lm, h.lk, h.om.mk m (fun q => hn.1 (by rw [q]; exact List.mem_append_right _ hbm)), fun j c e => (h.oi j c e).mk m (fun q => hn2.2.2 c (List.mem_of_getElem? e) b hbm q), fun j c e => ?_, h.nd, h.wf, fun j p hp => ?_⟩
  · by_cases hj : j = i
    · subst hj
      have : c = b := Option.some.inj (e.symm.trans hb)
      subst this
      show OM w' c (upF A.K j _ j)
      rw [upF_same]; exact hO
    · show OM w' c (upF A.K i _ j)
      rw [upF_ne _ _ hj]
      exact (h.ok j c e).mk m (fun q => hj (nodup_get hn2.2.1 e (by rw [q]; exact hb)))
  · by_cases hj : j = i
    · subst hj
      rw [show (⟨A.T, A.I, upF A.K j ((s, v) :: A.K j)⟩ : Al).K j = (s, v) :: A.K j from upF_same _ _ _] at hp
      rcases List.mem_cons.1 hp with e | hp
      · rw [e]; exact hv
      · exact h.kr j p hp
    · rw [show (⟨A.T, A.I, upF A.K i ((s, v) :: A.K i)⟩ : Al).K j = A.K j from upF_ne _ _ hj] at hp
      exact h.kr j p hp
theorem CK.other (h : CK w z A) {b : Nat} {al : List (ByteArray × Int)} (hO : OM w b al) (hb : ¬ z.D b) (m : Mk (fun j => j = b) w w') : CK w' z A := by
  have k := hO.keep m
  refine ⟨h.at'.kp k m.fz, h.df.kp k, h.ls.kp k, fun x hx => (h.l5 x hx).kp k, h.mi.kp k, h.ki.kp k, h.lm, h.lk, h.om.mk m (fun q => hb (by rw [← q]; exact Zc.dt)), fun i c e => (h.oi i c e).mk m (fun q => hb (by rw [← q]; exact Zc.di e)), fun i c e => (h.ok i c e).mk m (fun q => hb (by rw [← q]; exact Zc.dk e)), h.nd, h.wf, h.kr⟩
theorem CK.dlt (h : CK w z A) {k : Nat} (hk : z.D k) : k < w.heap.size := by
  rcases List.mem_cons.1 hk with e | hk
  · rw [e]; exact h.om.lt
  · rcases List.mem_append.1 hk with hk | hk
    · obtain ⟨i, hi⟩ := List.getElem?_of_mem hk; exact (h.oi i k hi).lt
    · obtain ⟨i, hi⟩ := List.getElem?_of_mem hk; exact (h.ok i k hi).lt
theorem lk_mem {al : List (ByteArray × Int)} {s : ByteArray} {k : Int} (h : Go.Proofs.Ytbanldffohopiaa.lk al s = some k) : ∃ p ∈ al, p.2 = k := by
  unfold Go.Proofs.Ytbanldffohopiaa.lk at h
  obtain ⟨p, hp, e⟩ := Option.map_eq_some_iff.1 h
  exact ⟨p, List.mem_of_find?_eq_some hp, e⟩
end Go.Proofs.Ytbanldffohopiaa
