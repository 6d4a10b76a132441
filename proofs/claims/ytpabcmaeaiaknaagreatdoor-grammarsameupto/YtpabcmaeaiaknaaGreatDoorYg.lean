/-
  Definitions that are the same: both sides. What lies in certain blocks. slices.Clone. Copies of lists. Copies of expressions and items. Copies of sections, tables, pages, definitions. A store into what is told of. What keeps where cells are put anew, each with one of its kind. The law of the same. GrammarSame: what the call owes its row, for arguments of no great bulk where the tables are laid.
-/
import Derived.Test.YtpabcmaeaiaknaaGreatDoorYf
import Derived.Test.YtpabcmaeaiaknaaGreatDoorYe
import Derived.Carry
namespace Go.Proofs.YtpabcmaeaiaknaaGreatDoor
open S Go.RowKit
theorem LD.tab2p {w : World} {d e : Nat} {x y : Dfn} (hx : LD w d e x) (hy : LD w d e y) : Each2 Tab.c 2 49 w x.tp x.tabs y.tp y.tabs seT := fun i u v hu hv => ⟨(hx.2.2.2.2.1 i u hu).1, (hy.2.2.2.2.1 i v hv).1, fun W E => p_sameT u v W ((hx.2.2.2.2.1 i u hu).2.mono E) ((hy.2.2.2.2.1 i v hv).2.mono E)⟩
theorem LD.tab2q {w : World} {d e : Nat} {x y : Dfn} (hx : LD w d e x) (hy : LD w d e y) : Each2 Tab.c 2 45 w x.tp x.tabs y.tp y.tabs seT := fun i u v hu hv => ⟨(hx.2.2.2.2.1 i u hu).1, (hy.2.2.2.2.1 i v hv).1, fun W E => q_sameT u v W ((hx.2.2.2.2.1 i u hu).2.mono E) ((hy.2.2.2.2.1 i v hv).2.mono E)⟩
theorem LD.pag2p {w : World} {d e : Nat} {x y : Dfn} (hx : LD w d e x) (hy : LD w d e y) : Each2 Pag.c 19 51 w x.pp x.pags y.pp y.pags (seP d) := fun i u v hu hv => ⟨(hx.2.2.2.2.2 i u hu).1, (hy.2.2.2.2.2 i v hv).1, fun W E => p_sameP d u v W ((hx.2.2.2.2.2 i u hu).2.mono E) ((hy.2.2.2.2.2 i v hv).2.mono E)⟩
theorem LD.pag2q {w : World} {d e : Nat} {x y : Dfn} (hx : LD w d e x) (hy : LD w d e y) : Each2 Pag.c 19 46 w x.pp x.pags y.pp y.pags (seP d) := fun i u v hu hv => ⟨(hx.2.2.2.2.2 i u hu).1, (hy.2.2.2.2.2 i v hv).1, fun W E => q_sameP d u v W ((hx.2.2.2.2.2 i u hu).2.mono E) ((hy.2.2.2.2.2 i v hv).2.mono E)⟩
set_option maxRecDepth 20000 in
theorem p_sameD (d e : Nat) (x y : Dfn) (w : World) (hx : LD w d e x) (hy : LD w d e y) : Calls Tryz.prog 18 #[x.w, y.w] w fun r W => r = .returned (.bool (seD d e x y)) /\ Mb w W := by
  refine fn_pure [x.y, y.y] Tryz.func18 rfl rfl rfl (run_ok (st mo ?_))
  repeat refine st mo ?_
  refine ⟨fun h0 => ?_, fun h0 => ?_⟩
  rotate_left
  · (repeat refine st mo ?_); show _ = _; unfold seD; rw [decide_eq_false h0]; rfl
  repeat refine st mo ?_
  cases h1 : seS d e x.r y.r with
  | false =>
    refine ⟨_, fun _ => r_call (t := litF) rfl rfl Tryz.func47 (fun W M E => h1 ▸ p_sameS d e x.r y.r W (hx.2.1.mono E) (hy.2.1.mono E)), st mo ?_⟩
    repeat refine st mo ?_
    show _ = _; unfold seD; rw [h1]; simp
  | true =>
  refine ⟨_, fun _ => r_call (t := litT) rfl rfl Tryz.func47 (fun W M E => h1 ▸ p_sameS d e x.r y.r W (hx.2.1.mono E) (hy.2.1.mono E)), st mo ?_⟩
  have he : seD d e x y = (eqL seT x.tabs y.tabs && eqL (seP d) x.pags y.pags) := by unfold seD; rw [decide_eq_true h0, h1]; rfl
  rw [he]
  repeat refine st mo ?_
  cases h2 : eqL seT x.tabs y.tabs with
  | false =>
    refine ⟨_, fun _ => r_c (tc := litF) [] [] [] rfl rfl (p_eqf48 x.tp x.tcl x.tabs y.tp y.tcl y.tabs seT hx.2.2.1 (Or.inr ⟨rfl, h2⟩) w (hx.tab2p hy)) (by exact fitL_cons fv (fitL_cons fv (fitL_cons (ff (l := []) (m := []) (by rfl)) (by rfl)))) trivial uv trivial, st mo ?_⟩
    repeat refine st mo ?_
    rfl
  | true =>
    refine ⟨_, fun _ => r_c (tc := litT) [] [] [] rfl rfl (p_eqf48 x.tp x.tcl x.tabs y.tp y.tcl y.tabs seT hx.2.2.1 (Or.inl ⟨rfl, h2⟩) w (hx.tab2p hy)) (by exact fitL_cons fv (fitL_cons fv (fitL_cons (ff (l := []) (m := []) (by rfl)) (by rfl)))) trivial uv trivial, st mo ?_⟩
    repeat refine st mo ?_
    cases h3 : eqL (seP d) x.pags y.pags with
    | false =>
      refine ⟨_, fun _ => r_c (tc := litF) [] [] [] rfl rfl (p_eqf50 x.pp x.pcl x.pags y.pp y.pcl y.pags (seP d) hx.2.2.2.1 (Or.inr ⟨rfl, h3⟩) w (hx.pag2p hy)) (by exact fitL_cons fv (fitL_cons fv (fitL_cons (ff (l := []) (m := []) (by rfl)) (by rfl)))) trivial uv trivial, st mo ?_⟩
      repeat refine st mo ?_
      rfl
    | true =>
      refine ⟨_, fun _ => r_c (tc := litT) [] [] [] rfl rfl (p_eqf50 x.pp x.pcl x.pags y.pp y.pcl y.pags (seP d) hx.2.2.2.1 (Or.inl ⟨rfl, h3⟩) w (hx.pag2p hy)) (by exact fitL_cons fv (fitL_cons fv (fitL_cons (ff (l := []) (m := []) (by rfl)) (by rfl)))) trivial uv trivial, st mo ?_⟩
      repeat refine st mo ?_
      rfl
set_option maxHeartbeats 1000000 in
set_option maxRecDepth 20000 in
theorem q_sameD (d e : Nat) (x y : Dfn) (w : World) (hx : LD w d e x) (hy : LD w d e y) : Calls Tryz.prog 17 #[x.w, y.w] w fun r W => r = .returned (.bool (seD d e x y)) /\ Mb w W := by
  have hb1 := hx.2.2.1
  have hb2 := hx.2.2.2.1
  refine fn_pure [x.y, y.y] Tryz.func17 rfl rfl rfl (run_ok (st mo ?_))
  repeat refine st mo ?_
  refine ⟨fun h0 => ?_, fun h0 => ?_⟩
  · (repeat refine st mo ?_); show _ = _; unfold seD; rw [decide_eq_false h0]; rfl
  repeat refine st mo ?_
  cases h1 : seS d e x.r y.r with
  | false =>
    refine ⟨_, fun _ => r_call (t := litF) rfl rfl Tryz.func44 (fun W M E => h1 ▸ q_sameS d e x.r y.r W (hx.2.1.mono E) (hy.2.1.mono E)), st mo ?_⟩
    repeat refine st mo ?_
    show _ = _; unfold seD; rw [h1]; simp
  | true =>
  refine ⟨_, fun _ => r_call (t := litT) rfl rfl Tryz.func44 (fun W M E => h1 ▸ q_sameS d e x.r y.r W (hx.2.1.mono E) (hy.2.1.mono E)), st mo ?_⟩
  have he : seD d e x y = (eqL seT x.tabs y.tabs && eqL (seP d) x.pags y.pags) := by unfold seD; rw [decide_eq_true h0, h1]; rfl
  rw [he]
  repeat refine st mo ?_
  refine ⟨fun h2 => ?_, fun h2 => ?_⟩
  · (repeat refine st mo ?_); show _ = _; rw [eqL_nl (g := seT) (show x.tabs.length ≠ y.tabs.length by omega)]; rfl
  repeat refine st mo ?_
  refine ⟨fun h3 => ?_, fun h3 => ?_⟩
  · (repeat refine st mo ?_); show _ = _; rw [eqL_nl (g := seP d) (show x.pags.length ≠ y.pags.length by omega)]; simp
  repeat refine st mo ?_
  refine w_loop (fun i : Nat => ⟨⟨76, [(2, P0), (3, P1), (5, .int .i64 (i : Int))]⟩, [(0, some (x.c.map rel1)), (1, some (y.c.map rel1))], 2, w⟩) (fun i => i <= x.tabs.length /\ ((x.tabs.zip y.tabs).take i).all (fun z => seT z.1 z.2) = true) (fun i => x.tabs.length - i) 0 ⟨Nat.zero_le _, rfl⟩ [0, 1] ⟨rfl, ⟨fp, fp, fv, trivial⟩, ⟨flr rfl, flr rfl, trivial⟩, xf, rfl, rfl⟩ ?_
  intro i hi
  repeat refine st mo ?_
  refine ⟨fun hlt => ?_, fun hge => ?_⟩
  · have hil : i < x.tabs.length := by omega
    obtain ⟨u, hu⟩ : ∃ u, x.tabs[i]? = some u := ⟨_, List.getElem?_eq_getElem hil⟩
    obtain ⟨v, hv⟩ : ∃ v, y.tabs[i]? = some v := ⟨_, List.getElem?_eq_getElem (by omega)⟩
    obtain ⟨⟨b, o, h4, h5⟩, ⟨b', o', h4', h5'⟩, h6⟩ := ((hx.tab2q hy) i u v hu hv)
    have hst := all_takeA (g := fun z : Tab × Tab => seT z.1 z.2) (zip_at hu hv)
    repeat refine st mo ?_
    refine ⟨b, o, i, h4, rfl, hil, ?_⟩
    repeat refine st mo ?_
    refine ⟨u.c, rfl, h5, ?_⟩
    repeat refine st mo ?_
    refine ⟨b', o', i, h4', rfl, by omega, ?_⟩
    repeat refine st mo ?_
    refine ⟨v.c, rfl, h5', ?_⟩
    repeat refine st mo ?_
    cases hg : seT u v with
    | false =>
      refine ⟨_, fun _ => r_call (t := litF) rfl rfl Tryz.func45 (fun W M E => hg ▸ h6 W E), st mo ?_⟩
      repeat refine st mo ?_
      refine ⟨dk, st mo ?_⟩
      repeat refine st mo ?_
      show _ = _; rw [eqL_no hu hv hg]; simp
    | true =>
      refine ⟨_, fun _ => r_call (t := litT) rfl rfl Tryz.func45 (fun W M E => hg ▸ h6 W E), st mo ?_⟩
      repeat refine st mo ?_
      refine ⟨dk, st mo ?_⟩
      repeat refine st mo ?_
      refine ⟨_, wz (i + 1) rfl, st mo ?_⟩
      exact ⟨i + 1, ⟨hil, by rw [hst, hi.2]; simp [hg]⟩, by show x.tabs.length - (i + 1) < x.tabs.length - i; omega, [0, 1], rfl, ⟨fp, fp, fv, trivial⟩, ⟨flr rfl, flr rfl, trivial⟩, xf, rfl, rfl⟩
  · skip
    have hI := eqL_to (g := seT) (show x.tabs.length = y.tabs.length by omega) (show i = x.tabs.length by omega) hi.2
    rw [hI]
    repeat refine st mo ?_
    refine w_loop (fun i : Nat => ⟨⟨76, [(2, P0), (3, P1), (6, .int .i64 (i : Int))]⟩, [(0, some (x.c.map rel1)), (1, some (y.c.map rel1))], 2, w⟩) (fun i => i <= x.pags.length /\ ((x.pags.zip y.pags).take i).all (fun z => seP d z.1 z.2) = true) (fun i => x.pags.length - i) 0 ⟨Nat.zero_le _, rfl⟩ [0, 1] ⟨rfl, ⟨fp, fp, fv, trivial⟩, ⟨flr rfl, flr rfl, trivial⟩, xf, rfl, rfl⟩ ?_
    intro i hi
    repeat refine st mo ?_
    refine ⟨fun hlt => ?_, fun hge => ?_⟩
    · have hil : i < x.pags.length := by omega
      obtain ⟨u, hu⟩ : ∃ u, x.pags[i]? = some u := ⟨_, List.getElem?_eq_getElem hil⟩
      obtain ⟨v, hv⟩ : ∃ v, y.pags[i]? = some v := ⟨_, List.getElem?_eq_getElem (by omega)⟩
      obtain ⟨⟨b, o, h4, h5⟩, ⟨b', o', h4', h5'⟩, h6⟩ := ((hx.pag2q hy) i u v hu hv)
      have hst := all_takeA (g := fun z : Pag × Pag => seP d z.1 z.2) (zip_at hu hv)
      repeat refine st mo ?_
      refine ⟨b, o, i, h4, rfl, hil, ?_⟩
      repeat refine st mo ?_
      refine ⟨u.c, rfl, h5, ?_⟩
      repeat refine st mo ?_
      refine ⟨b', o', i, h4', rfl, by omega, ?_⟩
      repeat refine st mo ?_
      refine ⟨v.c, rfl, h5', ?_⟩
      repeat refine st mo ?_
      cases hg : seP d u v with
      | false =>
        refine ⟨_, fun _ => r_call (t := litF) rfl rfl Tryz.func46 (fun W M E => hg ▸ h6 W E), st mo ?_⟩
        repeat refine st mo ?_
        refine ⟨dk, st mo ?_⟩
        repeat refine st mo ?_
        show _ = _; rw [eqL_no hu hv hg]; simp
      | true =>
        refine ⟨_, fun _ => r_call (t := litT) rfl rfl Tryz.func46 (fun W M E => hg ▸ h6 W E), st mo ?_⟩
        repeat refine st mo ?_
        refine ⟨dk, st mo ?_⟩
        repeat refine st mo ?_
        refine ⟨_, wz (i + 1) rfl, st mo ?_⟩
        exact ⟨i + 1, ⟨hil, by rw [hst, hi.2]; simp [hg]⟩, by show x.pags.length - (i + 1) < x.pags.length - i; omega, [0, 1], rfl, ⟨fp, fp, fv, trivial⟩, ⟨flr rfl, flr rfl, trivial⟩, xf, rfl, rfl⟩
    · skip
      have hK := eqL_to (g := seP d) (show x.pags.length = y.pags.length by omega) (show i = x.pags.length by omega) hi.2
      repeat refine st mo ?_
      show _ = _; rw [hK]; rfl
namespace S
theorem fvd {σ : List Nat} {u v : Value} (hd : den2 u = den2 v := by rfl) (hu : pur2 u = true := by rfl) (hv : pur2 v = true := by rfl) : fitV σ u v := fun k w hw => by
  rw [pur2_eq hw hu, hd]; exact pur2_vx hv
theorem rxi {P : Program} {w0 : B0} {C : Exit -> St -> Prop} {ops op0 : Array Oper} {id r0 w1 : Nat} {l0 : List (Nat × Nat)} {f : FT} {h : HT} {n : Nat} {X : World} {stk : List It} (i : Nat)
    (hh : Rn P w0 (mid P w0 C ops (ops.toList.getD i default) (ops.toList.drop (i + 1)) stk) ⟨ops, ops.toList.take i, false, ⟨f, h, n, 0, 0, []⟩, X, []⟩) (ho : ops.toList = ops.toList.take i ++ ops.toList.getD i default :: ops.toList.drop (i + 1) := by rfl) (hg : (ops.toList.getD i default).guard = none := by rfl) : Rn P w0 C ⟨op0, [], false, ⟨f, h, n, r0, w1, l0⟩, X, co (.region id ops false) :: stk⟩ := rx _ _ _ ho hg hh
end S
def LO (S : Nat -> Prop) (X X' : World) : Prop := ∀ (b : Nat) (o : Obj), S b -> X.heap[b]? = some o -> o ≠ hole X -> X'.heap[b]? = some o /\ o ≠ hole X'
def Wz (w : World) (b : Nat) : Prop := ∃ cs ty, w.heap[b]? = some (.cells cs ty (0, 0)) /\ Obj.cells cs ty (0, 0) ≠ hole w
theorem Wz.lo {S : Nat -> Prop} {w w' : World} {b : Nat} (h : Wz w b) (hL : LO S w w') (hb : S b) : Wz w' b := by
  obtain ⟨cs, ty, h1, h2⟩ := h
  obtain ⟨g1, g2⟩ := hL b _ hb h1 h2
  exact ⟨cs, ty, g1, g2⟩
theorem LO.xf {S : Nat -> Prop} {X X' : World} (h : Xf X' X) : LO S X X' := fun b o _ => h.2 b o
theorem lies_lo {X X' : World} {b o : Nat} {us : List Value} (h : ∀ o : Obj, X.heap[b]? = some o -> o ≠ hole X -> X'.heap[b]? = some o /\ o ≠ hole X') (hl : Lies X b o us) : Lies X' b o us := fun j u hj => by
  have hc := hl j u hj
  unfold World.cell? at hc ⊢
  dsimp only at hc ⊢
  split at hc
  · rename_i c ty fz hx
    have : (Obj.cells c ty fz) ≠ hole X := fun e => by
      unfold hole at e
      cases e
      simp at hc
    rw [(h _ hx this).1]; exact hc
  · cases hc
def Lin {T : Type} (c : T -> List Value) (N : Nat) (S : Nat -> Prop) (w : World) (p : Option Addr) (i : Nat) (y : T) : Prop := ∃ b o, (S b /\ Wz w b) /\ p = some ⟨b, o, none⟩ /\ Lies w b (o + i * N) (c y)
section
variable {T : Type} {c : T -> List Value} {N : Nat} {S S' : Nat -> Prop} {w w' : World} {p : Option Addr} {i : Nat} {y : T}
theorem Lin.on (h : Lin c N S w p i y) : ∃ b o, p = some ⟨b, o, none⟩ /\ Lies w b (o + i * N) (c y) := by obtain ⟨b, o, _, h1, h2⟩ := h; exact ⟨b, o, h1, h2⟩
theorem Lin.le (hS : ∀ b, S b -> S' b) (h : Lin c N S w p i y) : Lin c N S' w p i y := by obtain ⟨b, o, h0, h1, h2⟩ := h; exact ⟨b, o, ⟨hS b h0.1, h0.2⟩, h1, h2⟩
theorem Lin.lo (hL : LO S w w') (h : Lin c N S w p i y) : Lin c N S w' p i y := by obtain ⟨b, o, h0, h1, h2⟩ := h; exact ⟨b, o, ⟨h0.1, h0.2.lo hL h0.1⟩, h1, lies_lo (fun o' => hL b o' h0.1) h2⟩
end
def Lal {T : Type} (c : T -> List Value) (N : Nat) (S : Nat -> Prop) (w : World) (p : Option Addr) (l : List T) (R : T -> Prop) : Prop := ∀ i y, l[i]? = some y -> Lin c N S w p i y /\ R y
theorem Lal.le {T : Type} {c : T -> List Value} {N : Nat} {S S' : Nat -> Prop} {w : World} {p : Option Addr} {l : List T} {R R' : T -> Prop} (hS : ∀ b, S b -> S' b) (hR : ∀ y ∈ l, R y -> R' y) (h : Lal c N S w p l R) : Lal c N S' w p l R' := fun i y hy => ⟨(h i y hy).1.le hS, hR y (List.mem_of_getElem? hy) (h i y hy).2⟩
theorem Lal.lo {T : Type} {c : T -> List Value} {N : Nat} {S : Nat -> Prop} {w w' : World} {p : Option Addr} {l : List T} {R R' : T -> Prop} (hL : LO S w w') (hR : ∀ y ∈ l, R y -> R' y) (h : Lal c N S w p l R) : Lal c N S w' p l R' := fun i y hy => ⟨(h i y hy).1.lo hL, hR y (List.mem_of_getElem? hy) (h i y hy).2⟩
def LNX (S : Nat -> Prop) (w : World) : Nat -> Ex -> Prop
  | 0, x => x.ok /\ x.a = []
  | d + 1, x => x.ok /\ Lal Ex.c 17 S w x.p x.a (LNX S w d)
theorem LNX.lt {S : Nat -> Prop} {w : World} : ∀ {d : Nat} {x : Ex}, LNX S w d x -> LT w d x
  | 0, _, h => h
  | _ + 1, _, h => ⟨h.1, fun i y hy => ⟨(h.2 i y hy).1.on, (h.2 i y hy).2.lt⟩⟩
theorem LNX.le {S S' : Nat -> Prop} (hS : ∀ b, S b -> S' b) {w : World} : ∀ {d : Nat} {x : Ex}, LNX S w d x -> LNX S' w d x
  | 0, _, h => h
  | _ + 1, _, h => ⟨h.1, h.2.le hS fun _ _ g => LNX.le hS g⟩
theorem LNX.lo {S : Nat -> Prop} {w w' : World} (hL : LO S w w') : ∀ {d : Nat} {x : Ex}, LNX S w d x -> LNX S w' d x
  | 0, _, h => h
  | _ + 1, _, h => ⟨h.1, h.2.lo hL fun _ _ g => LNX.lo hL g⟩
def LNI (S : Nat -> Prop) (w : World) (d : Nat) (y : Itm) : Prop := LNX S w d y.x /\ y.nm.size <= 9223372036854775806
theorem LNI.le {S S' : Nat -> Prop} (hS : ∀ b, S b -> S' b) {w : World} {d : Nat} {y : Itm} (h : LNI S w d y) : LNI S' w d y := ⟨h.1.le hS, h.2⟩
theorem LNI.lo {S : Nat -> Prop} {w w' : World} (hL : LO S w w') {d : Nat} {y : Itm} (h : LNI S w d y) : LNI S w' d y := ⟨h.1.lo hL, h.2⟩
def LNS0 (S : Nat -> Prop) (w : World) (d : Nat) (y : Sec) : Prop := Lal Itm.c 23 S w y.ip y.its (LNI S w d) /\ y.its.length <= 9223372036854775806 /\ y.nm.size <= 9223372036854775806 /\ y.secs.length <= 9223372036854775806
theorem LNS0.ls {S : Nat -> Prop} {w : World} {d : Nat} {y : Sec} (h : LNS0 S w d y) : LS0 w d y := ⟨fun i z hz => ⟨(h.1 i z hz).1.on, (h.1 i z hz).2.1.lt, (h.1 i z hz).2.2⟩, h.2⟩
theorem LNS0.le {S S' : Nat -> Prop} (hS : ∀ b, S b -> S' b) {w : World} {d : Nat} {y : Sec} (h : LNS0 S w d y) : LNS0 S' w d y := ⟨h.1.le hS fun _ _ g => g.le hS, h.2⟩
theorem LNS0.lo {S : Nat -> Prop} {w w' : World} (hL : LO S w w') {d : Nat} {y : Sec} (h : LNS0 S w d y) : LNS0 S w' d y := ⟨h.1.lo hL fun _ _ g => g.lo hL, h.2⟩
def LNS (S : Nat -> Prop) (w : World) (d : Nat) : Nat -> Sec -> Prop
  | 0, y => LNS0 S w d y /\ y.secs = []
  | e + 1, y => LNS0 S w d y /\ Lal Sec.c 4 S w y.sp y.secs (LNS S w d e)
theorem LNS.ls {S : Nat -> Prop} {w : World} {d : Nat} : ∀ {e : Nat} {y : Sec}, LNS S w d e y -> LS w d e y
  | 0, _, h => ⟨h.1.ls, h.2⟩
  | _ + 1, _, h => ⟨h.1.ls, fun i z hz => ⟨(h.2 i z hz).1.on, (h.2 i z hz).2.ls⟩⟩
theorem LNS.le {S S' : Nat -> Prop} (hS : ∀ b, S b -> S' b) {w : World} {d : Nat} : ∀ {e : Nat} {y : Sec}, LNS S w d e y -> LNS S' w d e y
  | 0, _, h => ⟨h.1.le hS, h.2⟩
  | _ + 1, _, h => ⟨h.1.le hS, h.2.le hS fun _ _ g => LNS.le hS g⟩
theorem LNS.lo {S : Nat -> Prop} {w w' : World} (hL : LO S w w') {d : Nat} : ∀ {e : Nat} {y : Sec}, LNS S w d e y -> LNS S w' d e y
  | 0, _, h => ⟨h.1.lo hL, h.2⟩
  | _ + 1, _, h => ⟨h.1.lo hL, h.2.lo hL fun _ _ g => LNS.lo hL g⟩
def LNT (S : Nat -> Prop) (w : World) (y : Tab) : Prop := y.nm.size <= 9223372036854775806 /\ y.a.length <= 9223372036854775806 /\ Lal Rat'.c 18 S w y.p y.a Rat'.ok
theorem LNT.lt {S : Nat -> Prop} {w : World} {y : Tab} (h : LNT S w y) : LTb w y := ⟨h.1, h.2.1, fun i z hz => ⟨(h.2.2 i z hz).1.on, (h.2.2 i z hz).2⟩⟩
theorem LNT.le {S S' : Nat -> Prop} (hS : ∀ b, S b -> S' b) {w : World} {y : Tab} (h : LNT S w y) : LNT S' w y := ⟨h.1, h.2.1, h.2.2.le hS fun _ _ g => g⟩
theorem LNT.lo {S : Nat -> Prop} {w w' : World} (hL : LO S w w') {y : Tab} (h : LNT S w y) : LNT S w' y := ⟨h.1, h.2.1, h.2.2.lo hL fun _ _ g => g⟩
def bc (s : ByteArray) : List Value := [.string s]
def LNP (S : Nat -> Prop) (w : World) (d : Nat) (y : Pag) : Prop := y.nm.size <= 9223372036854775806 /\ LNX S w d y.x /\ y.a.length <= 9223372036854775806 /\ Lal bc 1 S w y.p y.a fun z => z.size <= 9223372036854775806
theorem LNP.lp {S : Nat -> Prop} {w : World} {d : Nat} {y : Pag} (h : LNP S w d y) : LPg w d y := ⟨h.1, h.2.1.lt, h.2.2.1, fun i z hz => ⟨by
  obtain ⟨b, o, h1, h2⟩ := (h.2.2.2 i z hz).1.on
  exact ⟨b, o, h1, h2 0 _ rfl⟩, (h.2.2.2 i z hz).2⟩⟩
theorem LNP.le {S S' : Nat -> Prop} (hS : ∀ b, S b -> S' b) {w : World} {d : Nat} {y : Pag} (h : LNP S w d y) : LNP S' w d y := ⟨h.1, h.2.1.le hS, h.2.2.1, h.2.2.2.le hS fun _ _ g => g⟩
theorem LNP.lo {S : Nat -> Prop} {w w' : World} (hL : LO S w w') {d : Nat} {y : Pag} (h : LNP S w d y) : LNP S w' d y := ⟨h.1, h.2.1.lo hL, h.2.2.1, h.2.2.2.lo hL fun _ _ g => g⟩
def LND (S : Nat -> Prop) (w : World) (d e : Nat) (y : Dfn) : Prop := y.nm.size <= 9223372036854775806 /\ LNS S w d e y.r /\ y.tabs.length <= 9223372036854775806 /\ y.pags.length <= 9223372036854775806 /\ Lal Tab.c 2 S w y.tp y.tabs (LNT S w) /\ Lal Pag.c 19 S w y.pp y.pags (LNP S w d)
theorem LND.ld {S : Nat -> Prop} {w : World} {d e : Nat} {y : Dfn} (h : LND S w d e y) : LD w d e y := ⟨h.1, h.2.1.ls, h.2.2.1, h.2.2.2.1, fun i z hz => ⟨(h.2.2.2.2.1 i z hz).1.on, (h.2.2.2.2.1 i z hz).2.lt⟩, fun i z hz => ⟨(h.2.2.2.2.2 i z hz).1.on, (h.2.2.2.2.2 i z hz).2.lp⟩⟩
theorem LND.le {S S' : Nat -> Prop} (hS : ∀ b, S b -> S' b) {w : World} {d e : Nat} {y : Dfn} (h : LND S w d e y) : LND S' w d e y := ⟨h.1, h.2.1.le hS, h.2.2.1, h.2.2.2.1, h.2.2.2.2.1.le hS fun _ _ g => g.le hS, h.2.2.2.2.2.le hS fun _ _ g => g.le hS⟩
theorem LND.lo {S : Nat -> Prop} {w w' : World} (hL : LO S w w') {d e : Nat} {y : Dfn} (h : LND S w d e y) : LND S w' d e y := ⟨h.1, h.2.1.lo hL, h.2.2.1, h.2.2.2.1, h.2.2.2.2.1.lo hL fun _ _ g => g.lo hL, h.2.2.2.2.2.lo hL fun _ _ g => g.lo hL⟩
structure FC {T : Type} (LN : (Nat -> Prop) -> World -> T -> Prop) (se : T -> T -> Bool) (x y : T) (S : Nat -> Prop) (W : World) : Prop where
  l : LN S W y
  e : se x y = true
structure Loc {T : Type} (LN : (Nat -> Prop) -> World -> T -> Prop) : Prop where
  le : ∀ {S S' : Nat -> Prop} {w : World} {y : T}, (∀ b, S b -> S' b) -> LN S w y -> LN S' w y
  lo : ∀ {S : Nat -> Prop} {w w' : World} {y : T}, LO S w w' -> LN S w y -> LN S w' y
theorem loc_FC {T : Type} {LN : (Nat -> Prop) -> World -> T -> Prop} (h : Loc LN) (se : T -> T -> Bool) (x : T) : Lcl (FC LN se x) := ⟨fun _ _ _ _ hS g => ⟨h.le hS g.l, g.e⟩, fun _ _ _ _ hL g => ⟨h.lo hL g.l, g.e⟩⟩
abbrev YL (T : Type) := List T × Option Addr × Nat
structure FL {T : Type} (c : T -> List Value) (N : Nat) (LN : (Nat -> Prop) -> World -> T -> Prop) (se : T -> T -> Bool) (l : List T) (y : YL T) (S : Nat -> Prop) (W : World) : Prop where
  al : Lal c N S W y.2.1 y.1 (LN S W)
  eq : eqL se l y.1 = true
theorem loc_FL {T : Type} {c : T -> List Value} {N : Nat} {LN : (Nat -> Prop) -> World -> T -> Prop} (h : Loc LN) (se : T -> T -> Bool) (l : List T) : Lcl (FL c N LN se l) := ⟨fun _ _ _ _ hS g => ⟨g.al.le hS fun _ _ => h.le hS, g.eq⟩, fun _ _ _ _ hL g => ⟨g.al.lo hL fun _ _ => h.lo hL, g.eq⟩⟩
theorem locX (d : Nat) : Loc fun S w => LNX S w d := ⟨fun hS h => h.le hS, fun hL h => h.lo hL⟩
theorem locI (d : Nat) : Loc fun S w => LNI S w d := ⟨fun hS h => h.le hS, fun hL h => h.lo hL⟩
theorem locS (d e : Nat) : Loc fun S w => LNS S w d e := ⟨fun hS h => h.le hS, fun hL h => h.lo hL⟩
theorem locT : Loc LNT := ⟨fun hS h => h.le hS, fun hL h => h.lo hL⟩
theorem locP (d : Nat) : Loc fun S w => LNP S w d := ⟨fun hS h => h.le hS, fun hL h => h.lo hL⟩
theorem locD (d e : Nat) : Loc fun S w => LND S w d e := ⟨fun hS h => h.le hS, fun hL h => h.lo hL⟩
theorem loc0 {T : Type} (R : T -> Prop) : Loc fun (_ : Nat -> Prop) (_ : World) => R := ⟨fun _ h => h, fun _ h => h⟩
namespace S
section
variable {P : Program} {w0 : B0} {C : Exit -> St -> Prop}
theorem Rl.toldZ {s t : St} {σ : List Nat} {k : K} {W : World} {a : Act} {i b z : Nat} {cs : List Value} (R : Rl w0 s k W a) (F : Fit w0.m s t σ) (hk : k i = some (b, z + 1)) (hcs : hget s.h i = some cs) (hp : cs.all pur1 = true) (hσ : ∀ j ∈ σ, j ≠ i /\ live s.h j) : ∃ X' : World, Xf X' s.X /\ Ho s.X b /\ (Lies X' b 0 (cs.map den1) /\ Wz X' b) /\ Rl w0 ⟨t.f, t.h, t.n, X'⟩ (ren σ k) W a := by
  obtain ⟨X', hXs, hXo, hXi, hXn⟩ := ex_mask W (fun b => ∃ (j i z : Nat), σ[j]? = some i /\ k i = some (b, z))
  have hall : ∀ i, live s.h i -> i < s.n := fun i hl => by
    rcases Nat.lt_or_ge i s.n with h | h
    · exact h
    · exact absurd hl (not_live (R.nn i h))
  have hb : ¬ ∃ (j i z : Nat), σ[j]? = some i /\ k i = some (b, z) := fun ⟨j, i', z', h1, h2⟩ => by
    obtain ⟨h3, h4⟩ := hσ i' (List.mem_of_getElem? h1)
    exact R.hr.inj i' i (tb_ones.2 (hall i' h4)) (tb_ones.2 (hall i ⟨cs, hcs⟩)) h4 ⟨cs, hcs⟩ h3 b _ b _ h2 hk rfl
  obtain ⟨b2, us, sp, ty, e1, e2, e3⟩ := ((R.hr.all R.nn (bit i)).rep i (tb_bit.2 rfl) cs hcs).cel hk
  rw [hk] at e1; cases e1
  have h6 := LR.map (p := pur1) (d := den1) (fun _ _ h => pur1_eq h) e3 hp
  refine ⟨X', ⟨by rw [hXs]; exact R.am.sz, fun b' o h1 h2 => ?_⟩, R.am.out i b _ hk, ⟨fun j u hj => ?_, ?_⟩, R.grow F (fun b' o h1 h2 => by rw [hXo b' (fun h => h2 (hXi b' o h h1))] at h1; exact h1) (fun j i b' z' h1 h2 o ho => hXi b' o ⟨j, i, z', h1, h2⟩ ho) (by rw [hXs]; exact Nat.le_refl _)⟩
  · have h3 := R.am.see b' o h1 h2
    exact ⟨by rw [hXo b' (fun ⟨j, i', z', _, h5⟩ => h2 (R.am.out i' b' z' h5 o h1))]; exact h3, hXn b' o h3⟩
  · have e2' : X'.heap[b]? = some (.cells (us ++ sp).toArray ty (0, 0)) := by rw [hXo b hb]; exact e2
    rw [← h6] at hj
    rw [cell_of e2', Nat.zero_add, List.getElem?_append_left (List.getElem?_eq_some_iff.1 hj).1]; exact hj
  · exact ⟨_, _, by rw [hXo b hb]; exact e2, hXn b _ e2⟩
theorem told_fZ {op0 : Array Oper} {r0 w1 : Nat} {l0 : List (Nat × Nat)} {f : FT} {h : HT} {n : Nat} {X : World} {c : Code} {l : List It} (tm i len es : Nat) (cs : List Value) (σ : List Nat) (t : Nat -> Nat -> FT × HT × Nat) (hv : fget f tm = .slice (some ⟨i, 0, none⟩) len es) (ht : Nat.blt tm f.m = true) (hcs : hget h i = some cs) (hp : cs.all pur1 = true) (hσ : lives h i σ = true)
    (F : ∀ b cap, Fit w0.m ⟨fput f tm (raw (.slice (some ⟨b, 0, none⟩) len cap)), h, n, X⟩ ⟨(t b cap).1, (t b cap).2.1, (t b cap).2.2, X⟩ σ)
    (H : ∀ b cap X', len <= cap -> Xf X' X -> Ho X b -> Lies X' b 0 (cs.map den1) -> Wz X' b -> Rn P w0 C (cf ⟨(t b cap).1, (t b cap).2.1, (t b cap).2.2, X'⟩ (co c :: l))) : Rn P w0 C ⟨op0, [], false, ⟨f, h, n, r0, w1, l0⟩, X, co c :: l⟩ := by
  intro nn
  refine ⟨_, rfl, fun h => (by cases h), ?_⟩
  show WC P w0 c ⟨f, h, n, X⟩ (RnE P w0 C l)
  intro Q k W a R hK
  have h1 := R.fr.get tm
  rw [hv] at h1
  obtain ⟨_, b, z, cap, hk, hu, hl, hz⟩ := h1.slc_inv
  have R1 : Rl w0 ⟨fput f tm (raw (.slice (some ⟨b, 0, none⟩) len cap)), h, n, X⟩ k W a := ⟨⟨by rw [fput_m]; exact R.fr.m, fun t' => by
    by_cases e : tm = t'
    · subst e
      rw [fget_same _ (by rw [Nat.blt_eq] at ht; exact ht)]
      have : a.tmps.getD tm undef = .slice (some ⟨b, 0, none⟩) len cap := hu
      rw [this]; exact VX.raw
    · rw [fget_ne _ e]; exact R.fr.get t', R.fr.df⟩, R.hr, R.nn, R.nk, R.am⟩
  obtain ⟨X', g1, g2, g3, R2⟩ := R1.toldZ (F b cap) hk hcs hp (lives_at hσ)
  have hr := H b cap X' hl g1 g2 g3.1 g3.2
  have hw : WC P w0 c ⟨(t b cap).1, (t b cap).2.1, (t b cap).2.2, X'⟩ (RnE P w0 C l) := cf_sem R2.nn hr
  exact hw Q _ W a R2 hK
end
section
variable {P : Program} {w0 : B0} {X : World} {o : Oper} {fr : FT} {h : HT} {n : Nat} {t' : TypeId}
theorem r_eqNil {t e : TypeId} {y z : Operand} (p : Option Addr) (m c : Nat) (ho : o.op = .binOp .eql t y z t' := by rfl) (hy : evo fr y = raw (.slice p m c) := by rfl) (hz : evo fr z = .slice none 0 0 := by rfl) (hu : P.underlying t = some (.slice e) := by rfl) : Oa (Am w0 X) P o fr h n ⟨.bool p.isNone, h, n, 0, 0⟩ :=
  Oo.to (s_bin0 ho (fun k u hv => by rw [hy] at hv; exact hv.raw_inv) (fun k u hv => by rw [hz] at hv; exact hv.nilslc_inv) rfl (fun w => by
    have g : (eqGuard .eql t y z (.slice p m c) (.slice none 0 0)).run P w = .ok () w := by unfold eqGuard; rfl
    rw [Sem.run_bind, g, Result.andThen_ok]
    exact Lib.run_eql_slice_nil w t e p m c 0 0 hu))
theorem r_bs0 {t e : TypeId} {z : Nat} (ho : o.op = .buildSlice t 0 #[] := by rfl) (hu : P.underlying t = some (.slice e) := by rfl) (hz : szOf P e = some z := by rfl) (hn : Nat.blt n 4096 = true := by rfl) (nn : ∀ i, n <= i -> hget h i = none) : Oa (Am w0 X) P o fr h n ⟨.slice (some ⟨n, 0, none⟩) 0 z, hs12 h n (some []), n + 1, 0, bit n⟩ := by
  obtain ⟨inf, hinf, hsi⟩ := szOf_info hz
  have hnew : oNew h n (.slice (some ⟨n, 0, none⟩) 0 z) [] 0 0 = some ⟨.slice (some ⟨n, 0, none⟩) 0 z, hs12 h n (some []), n + 1, 0, Nat.lor 0 (bit n)⟩ := by unfold oNew; rw [hn]; rfl
  have key := new_ok (P := P) (o := o) (fr := fr) nn hnew fun k W a _ _ => by
    refine ⟨[], [], e, .slice (some ⟨W.heap.size, 0, none⟩) 0 0, W.alloc (.cells #[] e), rfl, ?_, by show W.heap.push _ = _; simp, rfl, ⟨rfl, Nat.le_refl _, Ty.push rfl⟩, rfl, fun k' _ hk' => VX.of0 ⟨trivial, _, _, 0, hk', rfl, Nat.le_refl _, by simp⟩⟩
    simp [execOp, ho, Instr.buildSlice, run_underlying hu, sizeOf, typeInfo, hinf, Instr.fill, newRow]
    rw [Array.eq_empty_of_size_eq_zero (xs := Array.map (fun _ => (default : Value)) (Array.range 0)) (by simp)]
  have hz : Nat.lor 0 (bit n) = bit n := by show 0 ||| bit n = bit n; simp
  rw [hz] at key
  exact Oo.to key
end
theorem put_rawA {P : Program} {h : HT} {w0 : B0} {X : World} {t e : TypeId} {sz m c : Nat} {a : Addr} {us : List Value} (hu : P.underlying t = some (.slice e)) (hl : us.length = m * sz) (hc : ∀ j u, us[j]? = some u -> X.cell? (a.add j) = some u) (h1 : ∀ u ∈ us, u.oneCell' = true) : Put (Am w0 X) P h t sz (raw (.slice (some a) m c)) m (us.map rel1) 0 := ⟨fun k W u hA _ hv => by
  rw [hv.raw_inv]
  exact ⟨us, rels_vx us, Src.ofSlice W hu _ m c _ hl (fun j u hu' => hA.cell (hc j u hu')) h1⟩⟩
end S
abbrev cT {T : Type} (c : T -> List Value) (l : List T) : List Value := l.flatMap c
section
variable {T : Type} {c : T -> List Value} {N : Nat}
theorem cT_len (hN : ∀ y, (c y).length = N) : ∀ l : List T, (cT c l).length = l.length * N
  | [] => by simp
  | y :: l => by rw [cT, List.flatMap_cons, List.length_append, List.length_cons, show (List.flatMap c l).length = l.length * N from cT_len hN l, hN y, Nat.succ_mul]; omega
theorem cT_at (hN : ∀ y, (c y).length = N) : ∀ (l : List T) (i : Nat) (y : T), l[i]? = some y -> ∀ (j : Nat) (u : Value), (c y)[j]? = some u -> (cT c l)[i * N + j]? = some u
  | [], _, _, h, _, _, _ => by cases h
  | z :: l, 0, y, h, j, u, hu => by
    simp at h; subst h
    rw [cT, List.flatMap_cons, Nat.zero_mul, Nat.zero_add, List.getElem?_append_left (List.getElem?_eq_some_iff.1 hu).1]; exact hu
  | z :: l, i + 1, y, h, j, u, hu => by
    have hz := hN z
    rw [cT, List.flatMap_cons, List.getElem?_append_right (by rw [hz, Nat.succ_mul]; omega)]
    rw [show (i + 1) * N + j - (c z).length = i * N + j by rw [hz, Nat.succ_mul]; omega]
    exact cT_at hN l i y (by simpa using h) j u hu
theorem cT_cell (hN : ∀ y, (c y).length = N) (hN0 : 0 < N) {X : World} {p : Option Addr} (l : List T) (hL : ∀ i y, l[i]? = some y -> ∃ b o, p = some ⟨b, o, none⟩ /\ Lies X b (o + i * N) (c y)) {a : Addr} (hp : p = some a) (j : Nat) (u : Value) (hu : (cT c l)[j]? = some u) : X.cell? (a.add j) = some u := by
  have hj : j < l.length * N := by rw [← cT_len hN l]; exact (List.getElem?_eq_some_iff.1 hu).1
  have hi : j / N < l.length := (Nat.div_lt_iff_lt_mul hN0).2 hj
  obtain ⟨y, hy⟩ : ∃ y, l[j / N]? = some y := ⟨_, List.getElem?_eq_getElem hi⟩
  obtain ⟨b, o, hp', hl⟩ := hL _ y hy
  have hm : j % N < (c y).length := by rw [hN y]; exact Nat.mod_lt _ hN0
  have e1 := cT_at hN l _ y hy (j % N) _ (List.getElem?_eq_getElem hm)
  have e2 : j / N * N + j % N = j := by rw [Nat.mul_comm]; exact Nat.div_add_mod j N
  rw [e2, hu] at e1
  have e3 := hl (j % N) _ (List.getElem?_eq_getElem hm)
  rw [hp] at hp'; cases hp'
  rw [Addr.add_mid, ← e2, ← Nat.add_assoc, e1]; exact e3
end
theorem pur_cT (l : List Value) : (l.map rel1).all pur1 = true := by simp [pur_rel1]
theorem den_rel (l : List Value) : (l.map rel1).map den1 = l := by rw [List.map_map, show den1 ∘ rel1 = id from funext den_rel1, List.map_id]
theorem stB_rf (y : ByteArray) : stB y y = true := decide_eq_true rfl
set_option maxRecDepth 20000 in
theorem cl_99 (p : Option Addr) (cl : Nat) (l : List Rat') (hlen : l.length <= 1000000000) (X : World) (hL : ∀ i y, l[i]? = some y -> (∃ b o, p = some ⟨b, o, none⟩ /\ Lies X b (o + i * 18) (Rat'.c y)) /\ y.ok) :
    CtrX Tryz.prog X 99 [raw (.slice p l.length cl)] [] 0 0 (fun y : YL Rat' => raw (.slice y.2.1 y.1.length y.2.2)) (fun _ => []) 0 (FL Rat'.c 18 (fun _ _ => Rat'.ok) seR l) := by
  refine fn_x (loc_FL (loc0 _) seR l) _ Tryz.func99 rfl rfl rfl rfl (fun w ll tw X' hX => run_ok (st mo ?_))
  repeat refine st mo ?_
  refine ⟨p.isNone, r_eqNil p l.length cl, fun h => ?_, fun h => ?_⟩
  · repeat refine st mo ?_
    have hp : p = none := by simpa using h
    have h0 : l = [] := by
      cases l with
      | nil => rfl
      | cons u m => obtain ⟨⟨b, o, h1, _⟩, _⟩ := hL 0 u rfl; rw [hp] at h1; cases h1
    exact ⟨xf, ([], none, 0), [], ⟨fun i z hz => (by cases hz), by rw [h0]; rfl⟩, fvd, trivial, rfl, rfl⟩
  · obtain ⟨a, ha⟩ : ∃ a, p = some a := Option.isSome_iff_exists.1 (by cases p <;> simp at h ⊢)
    subst ha
    have hlenT : (cT Rat'.c l).length = l.length * 18 := cT_len (c := Rat'.c) (N := 18) (fun _ => rfl) l
    have hnn : 0 + l.length = l.length := Nat.zero_add _
    repeat refine st mo ?_
    refine ⟨_, fun nn => r_bs0 (nn := nn), st mo ?_⟩
    repeat refine st mo ?_
    refine ⟨rfl, l.length, (cT Rat'.c l).map rel1, 0, put_rawA rfl hlenT (fun j u hu => xce hX _ _ (cT_cell (c := Rat'.c) (N := 18) (fun _ => rfl) (by decide) l (fun i y hy => (hL i y hy).1) rfl j u hu)) (fun u hu => ?_), by omega, _, rfl, adv_ok mo 1 _ ?_⟩
    · obtain ⟨y, hy, hu⟩ := List.mem_flatMap.1 hu
      simp only [Rat'.c, List.mem_cons, List.not_mem_nil, or_false] at hu; rcases hu with rfl | rfl | rfl | rfl | rfl | rfl | rfl | rfl | rfl | rfl | rfl | rfl | rfl | rfl | rfl | rfl | rfl | rfl <;> rfl
    show Rn _ _ _ _
    refine told_fZ 2 1 (0 + l.length) 18 ((cT Rat'.c l).map rel1) [] (fun b cap => (⟨8, [(2, raw (.slice (some ⟨b, 0, none⟩) (0 + l.length) cap))]⟩, [], 0)) rfl rfl rfl (pur_cT _) rfl (fun b cap => ⟨rfl, ⟨fv, trivial⟩, trivial, xf, rfl, rfl⟩) (fun b cap X2 hcap hX2 hb hl hz0 => st mo ?_)
    rw [den_rel] at hl
    refine ⟨hX2, (l, some ⟨b, 0, none⟩, cap), [], ⟨fun i z hz => ⟨⟨b, 0, ⟨hb, hz0⟩, rfl, fun j u hu => ?_⟩, (hL i z hz).2⟩, eqL_rf fun y _ => seR_rf y⟩, fv (by show raw (.slice (some ⟨b, 0, none⟩) (0 + l.length) cap) = _; rw [hnn]), trivial, rfl, rfl⟩
    have := hl _ u (cT_at (c := Rat'.c) (N := 18) (fun _ => rfl) l i z hz j u hu)
    rw [Nat.zero_add] at this
    show X2.cell? ⟨b, 0 + i * 18 + j, none⟩ = some u
    rw [Nat.zero_add]; exact this
set_option maxRecDepth 20000 in
theorem cl_101 (p : Option Addr) (cl : Nat) (l : List ByteArray) (hlen : l.length <= 1000000000) (X : World) (hL : ∀ i y, l[i]? = some y -> (∃ b o, p = some ⟨b, o, none⟩ /\ Lies X b (o + i * 1) (bc y)) /\ y.size <= 9223372036854775806) :
    CtrX Tryz.prog X 101 [raw (.slice p l.length cl)] [] 0 0 (fun y : YL ByteArray => raw (.slice y.2.1 y.1.length y.2.2)) (fun _ => []) 0 (FL bc 1 (fun _ _ (z : ByteArray) => z.size <= 9223372036854775806) stB l) := by
  refine fn_x (loc_FL (loc0 _) stB l) _ Tryz.func101 rfl rfl rfl rfl (fun w ll tw X' hX => run_ok (st mo ?_))
  repeat refine st mo ?_
  refine ⟨p.isNone, r_eqNil p l.length cl, fun h => ?_, fun h => ?_⟩
  · repeat refine st mo ?_
    have hp : p = none := by simpa using h
    have h0 : l = [] := by
      cases l with
      | nil => rfl
      | cons u m => obtain ⟨⟨b, o, h1, _⟩, _⟩ := hL 0 u rfl; rw [hp] at h1; cases h1
    exact ⟨xf, ([], none, 0), [], ⟨fun i z hz => (by cases hz), by rw [h0]; rfl⟩, fvd, trivial, rfl, rfl⟩
  · obtain ⟨a, ha⟩ : ∃ a, p = some a := Option.isSome_iff_exists.1 (by cases p <;> simp at h ⊢)
    subst ha
    have hlenT : (cT bc l).length = l.length * 1 := cT_len (c := bc) (N := 1) (fun _ => rfl) l
    have hnn : 0 + l.length = l.length := Nat.zero_add _
    repeat refine st mo ?_
    refine ⟨_, fun nn => r_bs0 (nn := nn), st mo ?_⟩
    repeat refine st mo ?_
    refine ⟨rfl, l.length, (cT bc l).map rel1, 0, put_rawA rfl hlenT (fun j u hu => xce hX _ _ (cT_cell (c := bc) (N := 1) (fun _ => rfl) (by decide) l (fun i y hy => (hL i y hy).1) rfl j u hu)) (fun u hu => ?_), by omega, _, rfl, adv_ok mo 1 _ ?_⟩
    · obtain ⟨y, hy, hu⟩ := List.mem_flatMap.1 hu
      simp only [bc, List.mem_cons, List.not_mem_nil, or_false] at hu; subst hu; rfl
    show Rn _ _ _ _
    refine told_fZ 2 1 (0 + l.length) 1 ((cT bc l).map rel1) [] (fun b cap => (⟨8, [(2, raw (.slice (some ⟨b, 0, none⟩) (0 + l.length) cap))]⟩, [], 0)) rfl rfl rfl (pur_cT _) rfl (fun b cap => ⟨rfl, ⟨fv, trivial⟩, trivial, xf, rfl, rfl⟩) (fun b cap X2 hcap hX2 hb hl hz0 => st mo ?_)
    rw [den_rel] at hl
    refine ⟨hX2, (l, some ⟨b, 0, none⟩, cap), [], ⟨fun i z hz => ⟨⟨b, 0, ⟨hb, hz0⟩, rfl, fun j u hu => ?_⟩, (hL i z hz).2⟩, eqL_rf fun y _ => stB_rf y⟩, fv (by show raw (.slice (some ⟨b, 0, none⟩) (0 + l.length) cap) = _; rw [hnn]), trivial, rfl, rfl⟩
    have := hl _ u (cT_at (c := bc) (N := 1) (fun _ => rfl) l i z hz j u hu)
    rw [Nat.zero_add] at this
    show X2.cell? ⟨b, 0 + i * 1 + j, none⟩ = some u
    rw [Nat.zero_add]; exact this
abbrev JC (T : Type) := Nat × List T × World
structure JcP {T : Type} (LN : (Nat -> Prop) -> World -> T -> Prop) (se : T -> T -> Bool) (l : List T) (X' : World) (a : JC T) : Prop where
  le : a.1 <= l.length
  xf : Xf a.2.2 X'
  len : a.2.1.length = a.1
  ok : ∀ z ∈ a.2.1, LN (Ho X') a.2.2 z
  m : ∀ (i : Nat) (u v : T), l[i]? = some u -> a.2.1[i]? = some v -> se u v = true
theorem JcP.step {T : Type} {LN : (Nat -> Prop) -> World -> T -> Prop} {se : T -> T -> Bool} {l : List T} {X' X2 : World} {a : JC T} {y z : T} (h : JcP LN se l X' a) (hy : l[a.1]? = some y) (hX : Xf X2 a.2.2) (hz : FC LN se y z (Ho a.2.2) X2) (hloc : Loc LN) : JcP LN se l X' (a.1 + 1, a.2.1 ++ [z], X2) := by
  refine ⟨(List.getElem?_eq_some_iff.1 hy).1, S.Xf.tr hX h.xf, by simp [h.len], fun w hw => ?_, fun i u v hu hv => ?_⟩
  · rcases List.mem_append.1 hw with hw | hw
    · exact hloc.lo (LO.xf hX) (h.ok w hw)
    · simp at hw; subst hw
      exact hloc.le (fun b hb => hb.xf h.xf) hz.l
  · have hln := h.len
    have hv : (a.2.1 ++ [z])[i]? = some v := hv
    by_cases hi : i < a.2.1.length
    · rw [List.getElem?_append_left hi] at hv; exact h.m i u v hu hv
    · rw [List.getElem?_append_right (by omega)] at hv
      have h0 : i - a.2.1.length = 0 := by
        have := (List.getElem?_eq_some_iff.1 hv).1
        simp at this; exact this
      rw [h0] at hv
      simp at hv
      have : i = a.1 := by omega
      rw [this, hy] at hu
      simp at hu; subst hu; subst hv
      exact hz.e
theorem JcP.eq {T : Type} {LN : (Nat -> Prop) -> World -> T -> Prop} {se : T -> T -> Bool} {l : List T} {X' : World} {a : JC T} (h : JcP LN se l X' a) (hl : a.1 = l.length) : eqL se l a.2.1 = true := by
  unfold eqL
  rw [decide_eq_true (by rw [h.len, hl]), Bool.true_and, List.all_eq_true]
  rintro ⟨u, v⟩ hz
  obtain ⟨i, hi⟩ := List.getElem?_of_mem hz
  rw [List.getElem?_zip_eq_some] at hi
  exact h.m i u v hi.1 hi.2
def jcF168 (p : Option Addr) (cl : Nat) (l : List Ex) (i : Nat) (a : Value) : FT := ⟨22, [(1, fnv 100), (5, a), (8, raw (.slice p l.length cl)), (9, .int .i64 (l.length : Int)), (10, .int .i64 (i : Int))]⟩
def jcS168 (p : Option Addr) (cl : Nat) (l : List Ex) (a : JC Ex) : St := match a with
  | (0, _, X) => ⟨jcF168 p cl l 0 (.slice none 0 0), [], 0, X⟩
  | (i + 1, ys, X) => ⟨jcF168 p cl l (i + 1) (.slice (some ⟨0, 0, none⟩) (i + 1) 17), [(0 + 4096, none), (0, some ((cT Ex.c ys).map rel1))], 1, X⟩
set_option maxRecDepth 20000 in
theorem cp_168 {LN : (Nat -> Prop) -> World -> Ex -> Prop} (hloc : Loc LN) (se : Ex -> Ex -> Bool) (p : Option Addr) (cl : Nat) (l : List Ex) (hlen : l.length <= 1000000000) (X : World) (hL : ∀ i y, l[i]? = some y -> ∃ b o, p = some ⟨b, o, none⟩ /\ Lies X b (o + i * 17) y.c)
    (ih : ∀ y ∈ l, ∀ X1, Xf X1 X -> CtrX Tryz.prog X1 100 [y.y] [] 0 0 (fun z : Ex => z.y) (fun _ => []) 0 (FC LN se y)) :
    CtrX Tryz.prog X 168 [raw (.slice p l.length cl), fnv 100] [] 0 0 (fun y : YL Ex => raw (.slice y.2.1 y.1.length y.2.2)) (fun _ => []) 0 (FL Ex.c 17 LN se l) := by
  refine fn_x (loc_FL hloc se l) _ Tryz.func168 rfl rfl rfl rfl (fun w ll tw X' hX => run_ok (st mo ?_))
  repeat refine st mo ?_
  refine S.w_loop (jcS168 p cl l) (JcP LN se l X') (fun a => l.length - a.1) (0, [], X') ⟨Nat.zero_le _, xf, rfl, fun z hz => (by cases hz), fun i u v _ hv => (by cases hv)⟩ [] ⟨rfl, ⟨by exact ff (l := []) (m := []) rfl, fv, fv, fv, fv, trivial⟩, trivial, xf, rfl, rfl⟩ ?_
  rintro ⟨i, ys, X1⟩ hp
  have hX1 : Xf X1 X := S.Xf.tr hp.xf hX
  have hL1 : ∀ i y, l[i]? = some y -> ∃ b o, p = some ⟨b, o, none⟩ /\ Lies X1 b (o + i * 17) y.c := fun i y hy => by
    obtain ⟨b, o, h1, h2⟩ := hL i y hy
    exact ⟨b, o, h1, fun j u hu => xce hX1 _ _ (h2 j u hu)⟩
  rcases i with _ | i
  · refine st mo ⟨fun hlt => su 5 mo ?_, fun hge => st mo ?_⟩
    · have hil : 0 < l.length := by omega
      obtain ⟨y, hy⟩ : ∃ y, l[0]? = some y := ⟨_, List.getElem?_eq_getElem hil⟩
      obtain ⟨b, o, h4, h5⟩ := hL1 0 y hy
      refine ⟨b, o, 0, h4, rfl, hil, su 5 mo ⟨y.c, rfl, h5, su 5 mo ?_⟩⟩
      refine rxi 3 (st mo ⟨Ex, _, _, _, r_cx (tc := fun z => z.y) (loc_FC hloc se y) [] (fun _ => []) [] rfl rfl (ih y (List.mem_of_getElem? hy) X1 hX1) (fitL_cons fv rfl) trivial (fun _ => uv) (fun _ => trivial) (fun _ => rfl), fun z X2 hX2 hz => ?_⟩)
      refine ⟨(⟨22, [(14, .slice none 0 0), (17, z.y), (1, fnv 100), (8, raw (.slice p l.length cl)), (9, .int .i64 (l.length : Int)), (10, .int .i64 (0 : Int))]⟩, [], 0), [], ⟨rfl, ⟨fv, fv, by exact ff (l := []) (m := []) rfl, fv, fv, fv, trivial⟩, trivial, xf, rfl, rfl⟩, rfl, st mo ?_⟩
      refine ⟨1, z.c.map rel1, _, put_own rfl rfl rfl rfl rfl, by omega, by omega, st mo ⟨_, wz 1 rfl, st mo ?_⟩⟩
      refine ⟨(1, ys ++ [z], X2), hp.step hy hX2 hz (hloc), by dsimp; omega, [1], rfl, ⟨by exact ff (l := []) (m := []) rfl, fs, fv, fv, fv, trivial⟩, ⟨trivial, ?_, trivial⟩, xf, rfl, rfl⟩
      have hys : ys = [] := List.eq_nil_of_length_eq_zero hp.len
      rw [hys]; exact flr (by simp)
    · have h0 : l = [] := List.eq_nil_of_length_eq_zero (by omega)
      refine st mo ?_
      exact ⟨hp.xf, ([], none, 0), [], ⟨fun i z hz => (by cases hz), by rw [h0]; rfl⟩, fvd, trivial, rfl, rfl⟩
  · have hln := hp.len
    have hle := hp.le
    refine st mo ⟨fun hlt => su 5 mo ?_, fun hge => st mo ?_⟩
    · have hil : i + 1 < l.length := by omega
      obtain ⟨y, hy⟩ : ∃ y, l[i + 1]? = some y := ⟨_, List.getElem?_eq_getElem hil⟩
      obtain ⟨b, o, h4, h5⟩ := hL1 (i + 1) y hy
      refine ⟨b, o, i + 1, h4, rfl, hil, su 5 mo ⟨y.c, rfl, h5, su 5 mo ?_⟩⟩
      refine rxi 3 (st mo ⟨Ex, _, _, _, r_cx (tc := fun z => z.y) (loc_FC hloc se y) [] (fun _ => []) [] rfl rfl (ih y (List.mem_of_getElem? hy) X1 hX1) (fitL_cons fv rfl) trivial (fun _ => uv) (fun _ => trivial) (fun _ => rfl), fun z X2 hX2 hz => ?_⟩)
      refine ⟨(⟨22, [(14, .slice (some ⟨0, 0, none⟩) (i + 1) 17), (17, z.y), (1, fnv 100), (8, raw (.slice p l.length cl)), (9, .int .i64 (l.length : Int)), (10, .int .i64 ((i + 1 : Nat) : Int))]⟩, [(0 + 4096, none), (0, some ((cT Ex.c ys).map rel1))], 1), [0], ⟨rfl, ⟨fs, fv, by exact ff (l := []) (m := []) rfl, fv, fv, fv, trivial⟩, ⟨trivial, flr rfl, trivial⟩, xf, rfl, rfl⟩, rfl, st mo ?_⟩
      refine ⟨((List.length_map _).trans (cT_len (c := Ex.c) (N := 17) (fun _ => rfl) ys)).trans (by rw [show ys.length = i + 1 from hln]; rfl), 1, z.c.map rel1, _, put_own rfl rfl rfl rfl rfl, by omega, _, rfl, st mo ⟨_, wz (i + 2) rfl, st mo ?_⟩⟩
      exact ⟨(i + 1 + 1, ys ++ [z], X2), hp.step hy hX2 hz hloc, by dsimp; omega, [2], rfl, ⟨by exact ff (l := []) (m := []) rfl, fs, fv, fv, fv, trivial⟩, ⟨trivial, flr (by simp), trivial⟩, xf, rfl, rfl⟩
    · have hie : i + 1 = l.length := by omega
      refine told_fZ 5 0 (i + 1) 17 ((cT Ex.c ys).map rel1) [] (fun b cap => (⟨22, [(5, raw (.slice (some ⟨b, 0, none⟩) (i + 1) cap))]⟩, [], 0)) rfl rfl rfl (pur_cT _) rfl (fun b cap => ⟨rfl, ⟨fv, trivial⟩, trivial, xf, rfl, rfl⟩) (fun b cap X2 hcap hX2 hb hl hz0 => st mo ?_)
      rw [den_rel] at hl
      refine ⟨S.Xf.tr hX2 hp.xf, (ys, some ⟨b, 0, none⟩, cap), [], ⟨fun j z hz => ⟨⟨b, 0, ⟨hb.xf hp.xf, hz0⟩, rfl, fun q u hu => ?_⟩, hloc.lo (LO.xf hX2) (hp.ok z (List.mem_of_getElem? hz))⟩, hp.eq (by omega)⟩, ?_, trivial, rfl, rfl⟩
      · have := hl _ u (cT_at (c := Ex.c) (N := 17) (fun _ => rfl) ys j z hz q u hu)
        rw [Nat.zero_add] at this
        show X2.cell? ⟨b, 0 + j * 17 + q, none⟩ = some u
        rw [Nat.zero_add]; exact this
      · exact fv (by show raw (.slice (some ⟨b, 0, none⟩) (i + 1) cap) = raw (.slice (some ⟨b, 0, none⟩) ys.length cap); rw [show ys.length = i + 1 from hln])
def jcF96 (p : Option Addr) (cl : Nat) (l : List Itm) (i : Nat) (a : Value) : FT := ⟨22, [(1, fnv 97), (5, a), (8, raw (.slice p l.length cl)), (9, .int .i64 (l.length : Int)), (10, .int .i64 (i : Int))]⟩
def jcS96 (p : Option Addr) (cl : Nat) (l : List Itm) (a : JC Itm) : St := match a with
  | (0, _, X) => ⟨jcF96 p cl l 0 (.slice none 0 0), [], 0, X⟩
  | (i + 1, ys, X) => ⟨jcF96 p cl l (i + 1) (.slice (some ⟨0, 0, none⟩) (i + 1) 23), [(0 + 4096, none), (0, some ((cT Itm.c ys).map rel1))], 1, X⟩
set_option maxRecDepth 20000 in
theorem cp_96 {LN : (Nat -> Prop) -> World -> Itm -> Prop} (hloc : Loc LN) (se : Itm -> Itm -> Bool) (p : Option Addr) (cl : Nat) (l : List Itm) (hlen : l.length <= 1000000000) (X : World) (hL : ∀ i y, l[i]? = some y -> ∃ b o, p = some ⟨b, o, none⟩ /\ Lies X b (o + i * 23) y.c)
    (ih : ∀ y ∈ l, ∀ X1, Xf X1 X -> CtrX Tryz.prog X1 97 [y.y] [] 0 0 (fun z : Itm => z.y) (fun _ => []) 0 (FC LN se y)) :
    CtrX Tryz.prog X 96 [raw (.slice p l.length cl), fnv 97] [] 0 0 (fun y : YL Itm => raw (.slice y.2.1 y.1.length y.2.2)) (fun _ => []) 0 (FL Itm.c 23 LN se l) := by
  refine fn_x (loc_FL hloc se l) _ Tryz.func96 rfl rfl rfl rfl (fun w ll tw X' hX => run_ok (st mo ?_))
  repeat refine st mo ?_
  refine S.w_loop (jcS96 p cl l) (JcP LN se l X') (fun a => l.length - a.1) (0, [], X') ⟨Nat.zero_le _, xf, rfl, fun z hz => (by cases hz), fun i u v _ hv => (by cases hv)⟩ [] ⟨rfl, ⟨by exact ff (l := []) (m := []) rfl, fv, fv, fv, fv, trivial⟩, trivial, xf, rfl, rfl⟩ ?_
  rintro ⟨i, ys, X1⟩ hp
  have hX1 : Xf X1 X := S.Xf.tr hp.xf hX
  have hL1 : ∀ i y, l[i]? = some y -> ∃ b o, p = some ⟨b, o, none⟩ /\ Lies X1 b (o + i * 23) y.c := fun i y hy => by
    obtain ⟨b, o, h1, h2⟩ := hL i y hy
    exact ⟨b, o, h1, fun j u hu => xce hX1 _ _ (h2 j u hu)⟩
  rcases i with _ | i
  · refine st mo ⟨fun hlt => su 5 mo ?_, fun hge => st mo ?_⟩
    · have hil : 0 < l.length := by omega
      obtain ⟨y, hy⟩ : ∃ y, l[0]? = some y := ⟨_, List.getElem?_eq_getElem hil⟩
      obtain ⟨b, o, h4, h5⟩ := hL1 0 y hy
      refine ⟨b, o, 0, h4, rfl, hil, su 5 mo ⟨y.c, rfl, h5, su 5 mo ?_⟩⟩
      refine rxi 3 (st mo ⟨Itm, _, _, _, r_cx (tc := fun z => z.y) (loc_FC hloc se y) [] (fun _ => []) [] rfl rfl (ih y (List.mem_of_getElem? hy) X1 hX1) (fitL_cons fv rfl) trivial (fun _ => uv) (fun _ => trivial) (fun _ => rfl), fun z X2 hX2 hz => ?_⟩)
      refine ⟨(⟨22, [(14, .slice none 0 0), (17, z.y), (1, fnv 97), (8, raw (.slice p l.length cl)), (9, .int .i64 (l.length : Int)), (10, .int .i64 (0 : Int))]⟩, [], 0), [], ⟨rfl, ⟨fv, fv, by exact ff (l := []) (m := []) rfl, fv, fv, fv, trivial⟩, trivial, xf, rfl, rfl⟩, rfl, st mo ?_⟩
      refine ⟨1, z.c.map rel1, _, put_own rfl rfl rfl rfl rfl, by omega, by omega, st mo ⟨_, wz 1 rfl, st mo ?_⟩⟩
      refine ⟨(1, ys ++ [z], X2), hp.step hy hX2 hz (hloc), by dsimp; omega, [1], rfl, ⟨by exact ff (l := []) (m := []) rfl, fs, fv, fv, fv, trivial⟩, ⟨trivial, ?_, trivial⟩, xf, rfl, rfl⟩
      have hys : ys = [] := List.eq_nil_of_length_eq_zero hp.len
      rw [hys]; exact flr (by simp)
    · have h0 : l = [] := List.eq_nil_of_length_eq_zero (by omega)
      refine st mo ?_
      exact ⟨hp.xf, ([], none, 0), [], ⟨fun i z hz => (by cases hz), by rw [h0]; rfl⟩, fvd, trivial, rfl, rfl⟩
  · have hln := hp.len
    have hle := hp.le
    refine st mo ⟨fun hlt => su 5 mo ?_, fun hge => st mo ?_⟩
    · have hil : i + 1 < l.length := by omega
      obtain ⟨y, hy⟩ : ∃ y, l[i + 1]? = some y := ⟨_, List.getElem?_eq_getElem hil⟩
      obtain ⟨b, o, h4, h5⟩ := hL1 (i + 1) y hy
      refine ⟨b, o, i + 1, h4, rfl, hil, su 5 mo ⟨y.c, rfl, h5, su 5 mo ?_⟩⟩
      refine rxi 3 (st mo ⟨Itm, _, _, _, r_cx (tc := fun z => z.y) (loc_FC hloc se y) [] (fun _ => []) [] rfl rfl (ih y (List.mem_of_getElem? hy) X1 hX1) (fitL_cons fv rfl) trivial (fun _ => uv) (fun _ => trivial) (fun _ => rfl), fun z X2 hX2 hz => ?_⟩)
      refine ⟨(⟨22, [(14, .slice (some ⟨0, 0, none⟩) (i + 1) 23), (17, z.y), (1, fnv 97), (8, raw (.slice p l.length cl)), (9, .int .i64 (l.length : Int)), (10, .int .i64 ((i + 1 : Nat) : Int))]⟩, [(0 + 4096, none), (0, some ((cT Itm.c ys).map rel1))], 1), [0], ⟨rfl, ⟨fs, fv, by exact ff (l := []) (m := []) rfl, fv, fv, fv, trivial⟩, ⟨trivial, flr rfl, trivial⟩, xf, rfl, rfl⟩, rfl, st mo ?_⟩
      refine ⟨((List.length_map _).trans (cT_len (c := Itm.c) (N := 23) (fun _ => rfl) ys)).trans (by rw [show ys.length = i + 1 from hln]; rfl), 1, z.c.map rel1, _, put_own rfl rfl rfl rfl rfl, by omega, _, rfl, st mo ⟨_, wz (i + 2) rfl, st mo ?_⟩⟩
      exact ⟨(i + 1 + 1, ys ++ [z], X2), hp.step hy hX2 hz hloc, by dsimp; omega, [2], rfl, ⟨by exact ff (l := []) (m := []) rfl, fs, fv, fv, fv, trivial⟩, ⟨trivial, flr (by simp), trivial⟩, xf, rfl, rfl⟩
    · have hie : i + 1 = l.length := by omega
      refine told_fZ 5 0 (i + 1) 23 ((cT Itm.c ys).map rel1) [] (fun b cap => (⟨22, [(5, raw (.slice (some ⟨b, 0, none⟩) (i + 1) cap))]⟩, [], 0)) rfl rfl rfl (pur_cT _) rfl (fun b cap => ⟨rfl, ⟨fv, trivial⟩, trivial, xf, rfl, rfl⟩) (fun b cap X2 hcap hX2 hb hl hz0 => st mo ?_)
      rw [den_rel] at hl
      refine ⟨S.Xf.tr hX2 hp.xf, (ys, some ⟨b, 0, none⟩, cap), [], ⟨fun j z hz => ⟨⟨b, 0, ⟨hb.xf hp.xf, hz0⟩, rfl, fun q u hu => ?_⟩, hloc.lo (LO.xf hX2) (hp.ok z (List.mem_of_getElem? hz))⟩, hp.eq (by omega)⟩, ?_, trivial, rfl, rfl⟩
      · have := hl _ u (cT_at (c := Itm.c) (N := 23) (fun _ => rfl) ys j z hz q u hu)
        rw [Nat.zero_add] at this
        show X2.cell? ⟨b, 0 + j * 23 + q, none⟩ = some u
        rw [Nat.zero_add]; exact this
      · exact fv (by show raw (.slice (some ⟨b, 0, none⟩) (i + 1) cap) = raw (.slice (some ⟨b, 0, none⟩) ys.length cap); rw [show ys.length = i + 1 from hln])
def jcF98 (p : Option Addr) (cl : Nat) (l : List Sec) (i : Nat) (a : Value) : FT := ⟨22, [(1, fnv 39), (5, a), (8, raw (.slice p l.length cl)), (9, .int .i64 (l.length : Int)), (10, .int .i64 (i : Int))]⟩
def jcS98 (p : Option Addr) (cl : Nat) (l : List Sec) (a : JC Sec) : St := match a with
  | (0, _, X) => ⟨jcF98 p cl l 0 (.slice none 0 0), [], 0, X⟩
  | (i + 1, ys, X) => ⟨jcF98 p cl l (i + 1) (.slice (some ⟨0, 0, none⟩) (i + 1) 4), [(0 + 4096, none), (0, some ((cT Sec.c ys).map rel1))], 1, X⟩
set_option maxRecDepth 20000 in
theorem cp_98 {LN : (Nat -> Prop) -> World -> Sec -> Prop} (hloc : Loc LN) (se : Sec -> Sec -> Bool) (p : Option Addr) (cl : Nat) (l : List Sec) (hlen : l.length <= 1000000000) (X : World) (hL : ∀ i y, l[i]? = some y -> ∃ b o, p = some ⟨b, o, none⟩ /\ Lies X b (o + i * 4) y.c)
    (ih : ∀ y ∈ l, ∀ X1, Xf X1 X -> CtrX Tryz.prog X1 39 [y.y] [] 0 0 (fun z : Sec => z.y) (fun _ => []) 0 (FC LN se y)) :
    CtrX Tryz.prog X 98 [raw (.slice p l.length cl), fnv 39] [] 0 0 (fun y : YL Sec => raw (.slice y.2.1 y.1.length y.2.2)) (fun _ => []) 0 (FL Sec.c 4 LN se l) := by
  refine fn_x (loc_FL hloc se l) _ Tryz.func98 rfl rfl rfl rfl (fun w ll tw X' hX => run_ok (st mo ?_))
  repeat refine st mo ?_
  refine S.w_loop (jcS98 p cl l) (JcP LN se l X') (fun a => l.length - a.1) (0, [], X') ⟨Nat.zero_le _, xf, rfl, fun z hz => (by cases hz), fun i u v _ hv => (by cases hv)⟩ [] ⟨rfl, ⟨by exact ff (l := []) (m := []) rfl, fv, fv, fv, fv, trivial⟩, trivial, xf, rfl, rfl⟩ ?_
  rintro ⟨i, ys, X1⟩ hp
  have hX1 : Xf X1 X := S.Xf.tr hp.xf hX
  have hL1 : ∀ i y, l[i]? = some y -> ∃ b o, p = some ⟨b, o, none⟩ /\ Lies X1 b (o + i * 4) y.c := fun i y hy => by
    obtain ⟨b, o, h1, h2⟩ := hL i y hy
    exact ⟨b, o, h1, fun j u hu => xce hX1 _ _ (h2 j u hu)⟩
  rcases i with _ | i
  · refine st mo ⟨fun hlt => su 5 mo ?_, fun hge => st mo ?_⟩
    · have hil : 0 < l.length := by omega
      obtain ⟨y, hy⟩ : ∃ y, l[0]? = some y := ⟨_, List.getElem?_eq_getElem hil⟩
      obtain ⟨b, o, h4, h5⟩ := hL1 0 y hy
      refine ⟨b, o, 0, h4, rfl, hil, su 5 mo ⟨y.c, rfl, h5, su 5 mo ?_⟩⟩
      refine rxi 3 (st mo ⟨Sec, _, _, _, r_cx (tc := fun z => z.y) (loc_FC hloc se y) [] (fun _ => []) [] rfl rfl (ih y (List.mem_of_getElem? hy) X1 hX1) (fitL_cons fv rfl) trivial (fun _ => uv) (fun _ => trivial) (fun _ => rfl), fun z X2 hX2 hz => ?_⟩)
      refine ⟨(⟨22, [(14, .slice none 0 0), (17, z.y), (1, fnv 39), (8, raw (.slice p l.length cl)), (9, .int .i64 (l.length : Int)), (10, .int .i64 (0 : Int))]⟩, [], 0), [], ⟨rfl, ⟨fv, fv, by exact ff (l := []) (m := []) rfl, fv, fv, fv, trivial⟩, trivial, xf, rfl, rfl⟩, rfl, st mo ?_⟩
      refine ⟨1, z.c.map rel1, _, put_own rfl rfl rfl rfl rfl, by omega, by omega, st mo ⟨_, wz 1 rfl, st mo ?_⟩⟩
      refine ⟨(1, ys ++ [z], X2), hp.step hy hX2 hz (hloc), by dsimp; omega, [1], rfl, ⟨by exact ff (l := []) (m := []) rfl, fs, fv, fv, fv, trivial⟩, ⟨trivial, ?_, trivial⟩, xf, rfl, rfl⟩
      have hys : ys = [] := List.eq_nil_of_length_eq_zero hp.len
      rw [hys]; exact flr (by simp)
    · have h0 : l = [] := List.eq_nil_of_length_eq_zero (by omega)
      refine st mo ?_
      exact ⟨hp.xf, ([], none, 0), [], ⟨fun i z hz => (by cases hz), by rw [h0]; rfl⟩, fvd, trivial, rfl, rfl⟩
  · have hln := hp.len
    have hle := hp.le
    refine st mo ⟨fun hlt => su 5 mo ?_, fun hge => st mo ?_⟩
    · have hil : i + 1 < l.length := by omega
      obtain ⟨y, hy⟩ : ∃ y, l[i + 1]? = some y := ⟨_, List.getElem?_eq_getElem hil⟩
      obtain ⟨b, o, h4, h5⟩ := hL1 (i + 1) y hy
      refine ⟨b, o, i + 1, h4, rfl, hil, su 5 mo ⟨y.c, rfl, h5, su 5 mo ?_⟩⟩
      refine rxi 3 (st mo ⟨Sec, _, _, _, r_cx (tc := fun z => z.y) (loc_FC hloc se y) [] (fun _ => []) [] rfl rfl (ih y (List.mem_of_getElem? hy) X1 hX1) (fitL_cons fv rfl) trivial (fun _ => uv) (fun _ => trivial) (fun _ => rfl), fun z X2 hX2 hz => ?_⟩)
      refine ⟨(⟨22, [(14, .slice (some ⟨0, 0, none⟩) (i + 1) 4), (17, z.y), (1, fnv 39), (8, raw (.slice p l.length cl)), (9, .int .i64 (l.length : Int)), (10, .int .i64 ((i + 1 : Nat) : Int))]⟩, [(0 + 4096, none), (0, some ((cT Sec.c ys).map rel1))], 1), [0], ⟨rfl, ⟨fs, fv, by exact ff (l := []) (m := []) rfl, fv, fv, fv, trivial⟩, ⟨trivial, flr rfl, trivial⟩, xf, rfl, rfl⟩, rfl, st mo ?_⟩
      refine ⟨((List.length_map _).trans (cT_len (c := Sec.c) (N := 4) (fun _ => rfl) ys)).trans (by rw [show ys.length = i + 1 from hln]; rfl), 1, z.c.map rel1, _, put_own rfl rfl rfl rfl rfl, by omega, _, rfl, st mo ⟨_, wz (i + 2) rfl, st mo ?_⟩⟩
      exact ⟨(i + 1 + 1, ys ++ [z], X2), hp.step hy hX2 hz hloc, by dsimp; omega, [2], rfl, ⟨by exact ff (l := []) (m := []) rfl, fs, fv, fv, fv, trivial⟩, ⟨trivial, flr (by simp), trivial⟩, xf, rfl, rfl⟩
    · have hie : i + 1 = l.length := by omega
      refine told_fZ 5 0 (i + 1) 4 ((cT Sec.c ys).map rel1) [] (fun b cap => (⟨22, [(5, raw (.slice (some ⟨b, 0, none⟩) (i + 1) cap))]⟩, [], 0)) rfl rfl rfl (pur_cT _) rfl (fun b cap => ⟨rfl, ⟨fv, trivial⟩, trivial, xf, rfl, rfl⟩) (fun b cap X2 hcap hX2 hb hl hz0 => st mo ?_)
      rw [den_rel] at hl
      refine ⟨S.Xf.tr hX2 hp.xf, (ys, some ⟨b, 0, none⟩, cap), [], ⟨fun j z hz => ⟨⟨b, 0, ⟨hb.xf hp.xf, hz0⟩, rfl, fun q u hu => ?_⟩, hloc.lo (LO.xf hX2) (hp.ok z (List.mem_of_getElem? hz))⟩, hp.eq (by omega)⟩, ?_, trivial, rfl, rfl⟩
      · have := hl _ u (cT_at (c := Sec.c) (N := 4) (fun _ => rfl) ys j z hz q u hu)
        rw [Nat.zero_add] at this
        show X2.cell? ⟨b, 0 + j * 4 + q, none⟩ = some u
        rw [Nat.zero_add]; exact this
      · exact fv (by show raw (.slice (some ⟨b, 0, none⟩) (i + 1) cap) = raw (.slice (some ⟨b, 0, none⟩) ys.length cap); rw [show ys.length = i + 1 from hln])
def jcF40 (p : Option Addr) (cl : Nat) (l : List Tab) (i : Nat) (a : Value) : FT := ⟨22, [(1, fnv 41), (5, a), (8, raw (.slice p l.length cl)), (9, .int .i64 (l.length : Int)), (10, .int .i64 (i : Int))]⟩
def jcS40 (p : Option Addr) (cl : Nat) (l : List Tab) (a : JC Tab) : St := match a with
  | (0, _, X) => ⟨jcF40 p cl l 0 (.slice none 0 0), [], 0, X⟩
  | (i + 1, ys, X) => ⟨jcF40 p cl l (i + 1) (.slice (some ⟨0, 0, none⟩) (i + 1) 2), [(0 + 4096, none), (0, some ((cT Tab.c ys).map rel1))], 1, X⟩
set_option maxRecDepth 20000 in
theorem cp_40 {LN : (Nat -> Prop) -> World -> Tab -> Prop} (hloc : Loc LN) (se : Tab -> Tab -> Bool) (p : Option Addr) (cl : Nat) (l : List Tab) (hlen : l.length <= 1000000000) (X : World) (hL : ∀ i y, l[i]? = some y -> ∃ b o, p = some ⟨b, o, none⟩ /\ Lies X b (o + i * 2) y.c)
    (ih : ∀ y ∈ l, ∀ X1, Xf X1 X -> CtrX Tryz.prog X1 41 [y.y] [] 0 0 (fun z : Tab => z.y) (fun _ => []) 0 (FC LN se y)) :
    CtrX Tryz.prog X 40 [raw (.slice p l.length cl), fnv 41] [] 0 0 (fun y : YL Tab => raw (.slice y.2.1 y.1.length y.2.2)) (fun _ => []) 0 (FL Tab.c 2 LN se l) := by
  refine fn_x (loc_FL hloc se l) _ Tryz.func40 rfl rfl rfl rfl (fun w ll tw X' hX => run_ok (st mo ?_))
  repeat refine st mo ?_
  refine S.w_loop (jcS40 p cl l) (JcP LN se l X') (fun a => l.length - a.1) (0, [], X') ⟨Nat.zero_le _, xf, rfl, fun z hz => (by cases hz), fun i u v _ hv => (by cases hv)⟩ [] ⟨rfl, ⟨by exact ff (l := []) (m := []) rfl, fv, fv, fv, fv, trivial⟩, trivial, xf, rfl, rfl⟩ ?_
  rintro ⟨i, ys, X1⟩ hp
  have hX1 : Xf X1 X := S.Xf.tr hp.xf hX
  have hL1 : ∀ i y, l[i]? = some y -> ∃ b o, p = some ⟨b, o, none⟩ /\ Lies X1 b (o + i * 2) y.c := fun i y hy => by
    obtain ⟨b, o, h1, h2⟩ := hL i y hy
    exact ⟨b, o, h1, fun j u hu => xce hX1 _ _ (h2 j u hu)⟩
  rcases i with _ | i
  · refine st mo ⟨fun hlt => su 5 mo ?_, fun hge => st mo ?_⟩
    · have hil : 0 < l.length := by omega
      obtain ⟨y, hy⟩ : ∃ y, l[0]? = some y := ⟨_, List.getElem?_eq_getElem hil⟩
      obtain ⟨b, o, h4, h5⟩ := hL1 0 y hy
      refine ⟨b, o, 0, h4, rfl, hil, su 5 mo ⟨y.c, rfl, h5, su 5 mo ?_⟩⟩
      refine rxi 3 (st mo ⟨Tab, _, _, _, r_cx (tc := fun z => z.y) (loc_FC hloc se y) [] (fun _ => []) [] rfl rfl (ih y (List.mem_of_getElem? hy) X1 hX1) (fitL_cons fv rfl) trivial (fun _ => uv) (fun _ => trivial) (fun _ => rfl), fun z X2 hX2 hz => ?_⟩)
      refine ⟨(⟨22, [(14, .slice none 0 0), (17, z.y), (1, fnv 41), (8, raw (.slice p l.length cl)), (9, .int .i64 (l.length : Int)), (10, .int .i64 (0 : Int))]⟩, [], 0), [], ⟨rfl, ⟨fv, fv, by exact ff (l := []) (m := []) rfl, fv, fv, fv, trivial⟩, trivial, xf, rfl, rfl⟩, rfl, st mo ?_⟩
      refine ⟨1, z.c.map rel1, _, put_own rfl rfl rfl rfl rfl, by omega, by omega, st mo ⟨_, wz 1 rfl, st mo ?_⟩⟩
      refine ⟨(1, ys ++ [z], X2), hp.step hy hX2 hz (hloc), by dsimp; omega, [1], rfl, ⟨by exact ff (l := []) (m := []) rfl, fs, fv, fv, fv, trivial⟩, ⟨trivial, ?_, trivial⟩, xf, rfl, rfl⟩
      have hys : ys = [] := List.eq_nil_of_length_eq_zero hp.len
      rw [hys]; exact flr (by simp)
    · have h0 : l = [] := List.eq_nil_of_length_eq_zero (by omega)
      refine st mo ?_
      exact ⟨hp.xf, ([], none, 0), [], ⟨fun i z hz => (by cases hz), by rw [h0]; rfl⟩, fvd, trivial, rfl, rfl⟩
  · have hln := hp.len
    have hle := hp.le
    refine st mo ⟨fun hlt => su 5 mo ?_, fun hge => st mo ?_⟩
    · have hil : i + 1 < l.length := by omega
      obtain ⟨y, hy⟩ : ∃ y, l[i + 1]? = some y := ⟨_, List.getElem?_eq_getElem hil⟩
      obtain ⟨b, o, h4, h5⟩ := hL1 (i + 1) y hy
      refine ⟨b, o, i + 1, h4, rfl, hil, su 5 mo ⟨y.c, rfl, h5, su 5 mo ?_⟩⟩
      refine rxi 3 (st mo ⟨Tab, _, _, _, r_cx (tc := fun z => z.y) (loc_FC hloc se y) [] (fun _ => []) [] rfl rfl (ih y (List.mem_of_getElem? hy) X1 hX1) (fitL_cons fv rfl) trivial (fun _ => uv) (fun _ => trivial) (fun _ => rfl), fun z X2 hX2 hz => ?_⟩)
      refine ⟨(⟨22, [(14, .slice (some ⟨0, 0, none⟩) (i + 1) 2), (17, z.y), (1, fnv 41), (8, raw (.slice p l.length cl)), (9, .int .i64 (l.length : Int)), (10, .int .i64 ((i + 1 : Nat) : Int))]⟩, [(0 + 4096, none), (0, some ((cT Tab.c ys).map rel1))], 1), [0], ⟨rfl, ⟨fs, fv, by exact ff (l := []) (m := []) rfl, fv, fv, fv, trivial⟩, ⟨trivial, flr rfl, trivial⟩, xf, rfl, rfl⟩, rfl, st mo ?_⟩
      refine ⟨((List.length_map _).trans (cT_len (c := Tab.c) (N := 2) (fun _ => rfl) ys)).trans (by rw [show ys.length = i + 1 from hln]; rfl), 1, z.c.map rel1, _, put_own rfl rfl rfl rfl rfl, by omega, _, rfl, st mo ⟨_, wz (i + 2) rfl, st mo ?_⟩⟩
      exact ⟨(i + 1 + 1, ys ++ [z], X2), hp.step hy hX2 hz hloc, by dsimp; omega, [2], rfl, ⟨by exact ff (l := []) (m := []) rfl, fs, fv, fv, fv, trivial⟩, ⟨trivial, flr (by simp), trivial⟩, xf, rfl, rfl⟩
    · have hie : i + 1 = l.length := by omega
      refine told_fZ 5 0 (i + 1) 2 ((cT Tab.c ys).map rel1) [] (fun b cap => (⟨22, [(5, raw (.slice (some ⟨b, 0, none⟩) (i + 1) cap))]⟩, [], 0)) rfl rfl rfl (pur_cT _) rfl (fun b cap => ⟨rfl, ⟨fv, trivial⟩, trivial, xf, rfl, rfl⟩) (fun b cap X2 hcap hX2 hb hl hz0 => st mo ?_)
      rw [den_rel] at hl
      refine ⟨S.Xf.tr hX2 hp.xf, (ys, some ⟨b, 0, none⟩, cap), [], ⟨fun j z hz => ⟨⟨b, 0, ⟨hb.xf hp.xf, hz0⟩, rfl, fun q u hu => ?_⟩, hloc.lo (LO.xf hX2) (hp.ok z (List.mem_of_getElem? hz))⟩, hp.eq (by omega)⟩, ?_, trivial, rfl, rfl⟩
      · have := hl _ u (cT_at (c := Tab.c) (N := 2) (fun _ => rfl) ys j z hz q u hu)
        rw [Nat.zero_add] at this
        show X2.cell? ⟨b, 0 + j * 2 + q, none⟩ = some u
        rw [Nat.zero_add]; exact this
      · exact fv (by show raw (.slice (some ⟨b, 0, none⟩) (i + 1) cap) = raw (.slice (some ⟨b, 0, none⟩) ys.length cap); rw [show ys.length = i + 1 from hln])
def jcF42 (p : Option Addr) (cl : Nat) (l : List Pag) (i : Nat) (a : Value) : FT := ⟨22, [(1, fnv 43), (5, a), (8, raw (.slice p l.length cl)), (9, .int .i64 (l.length : Int)), (10, .int .i64 (i : Int))]⟩
def jcS42 (p : Option Addr) (cl : Nat) (l : List Pag) (a : JC Pag) : St := match a with
  | (0, _, X) => ⟨jcF42 p cl l 0 (.slice none 0 0), [], 0, X⟩
  | (i + 1, ys, X) => ⟨jcF42 p cl l (i + 1) (.slice (some ⟨0, 0, none⟩) (i + 1) 19), [(0 + 4096, none), (0, some ((cT Pag.c ys).map rel1))], 1, X⟩
set_option maxRecDepth 20000 in
theorem cp_42 {LN : (Nat -> Prop) -> World -> Pag -> Prop} (hloc : Loc LN) (se : Pag -> Pag -> Bool) (p : Option Addr) (cl : Nat) (l : List Pag) (hlen : l.length <= 1000000000) (X : World) (hL : ∀ i y, l[i]? = some y -> ∃ b o, p = some ⟨b, o, none⟩ /\ Lies X b (o + i * 19) y.c)
    (ih : ∀ y ∈ l, ∀ X1, Xf X1 X -> CtrX Tryz.prog X1 43 [y.y] [] 0 0 (fun z : Pag => z.y) (fun _ => []) 0 (FC LN se y)) :
    CtrX Tryz.prog X 42 [raw (.slice p l.length cl), fnv 43] [] 0 0 (fun y : YL Pag => raw (.slice y.2.1 y.1.length y.2.2)) (fun _ => []) 0 (FL Pag.c 19 LN se l) := by
  refine fn_x (loc_FL hloc se l) _ Tryz.func42 rfl rfl rfl rfl (fun w ll tw X' hX => run_ok (st mo ?_))
  repeat refine st mo ?_
  refine S.w_loop (jcS42 p cl l) (JcP LN se l X') (fun a => l.length - a.1) (0, [], X') ⟨Nat.zero_le _, xf, rfl, fun z hz => (by cases hz), fun i u v _ hv => (by cases hv)⟩ [] ⟨rfl, ⟨by exact ff (l := []) (m := []) rfl, fv, fv, fv, fv, trivial⟩, trivial, xf, rfl, rfl⟩ ?_
  rintro ⟨i, ys, X1⟩ hp
  have hX1 : Xf X1 X := S.Xf.tr hp.xf hX
  have hL1 : ∀ i y, l[i]? = some y -> ∃ b o, p = some ⟨b, o, none⟩ /\ Lies X1 b (o + i * 19) y.c := fun i y hy => by
    obtain ⟨b, o, h1, h2⟩ := hL i y hy
    exact ⟨b, o, h1, fun j u hu => xce hX1 _ _ (h2 j u hu)⟩
  rcases i with _ | i
  · refine st mo ⟨fun hlt => su 5 mo ?_, fun hge => st mo ?_⟩
    · have hil : 0 < l.length := by omega
      obtain ⟨y, hy⟩ : ∃ y, l[0]? = some y := ⟨_, List.getElem?_eq_getElem hil⟩
      obtain ⟨b, o, h4, h5⟩ := hL1 0 y hy
      refine ⟨b, o, 0, h4, rfl, hil, su 5 mo ⟨y.c, rfl, h5, su 5 mo ?_⟩⟩
      refine rxi 3 (st mo ⟨Pag, _, _, _, r_cx (tc := fun z => z.y) (loc_FC hloc se y) [] (fun _ => []) [] rfl rfl (ih y (List.mem_of_getElem? hy) X1 hX1) (fitL_cons fv rfl) trivial (fun _ => uv) (fun _ => trivial) (fun _ => rfl), fun z X2 hX2 hz => ?_⟩)
      refine ⟨(⟨22, [(14, .slice none 0 0), (17, z.y), (1, fnv 43), (8, raw (.slice p l.length cl)), (9, .int .i64 (l.length : Int)), (10, .int .i64 (0 : Int))]⟩, [], 0), [], ⟨rfl, ⟨fv, fv, by exact ff (l := []) (m := []) rfl, fv, fv, fv, trivial⟩, trivial, xf, rfl, rfl⟩, rfl, st mo ?_⟩
      refine ⟨1, z.c.map rel1, _, put_own rfl rfl rfl rfl rfl, by omega, by omega, st mo ⟨_, wz 1 rfl, st mo ?_⟩⟩
      refine ⟨(1, ys ++ [z], X2), hp.step hy hX2 hz (hloc), by dsimp; omega, [1], rfl, ⟨by exact ff (l := []) (m := []) rfl, fs, fv, fv, fv, trivial⟩, ⟨trivial, ?_, trivial⟩, xf, rfl, rfl⟩
      have hys : ys = [] := List.eq_nil_of_length_eq_zero hp.len
      rw [hys]; exact flr (by simp)
    · have h0 : l = [] := List.eq_nil_of_length_eq_zero (by omega)
      refine st mo ?_
      exact ⟨hp.xf, ([], none, 0), [], ⟨fun i z hz => (by cases hz), by rw [h0]; rfl⟩, fvd, trivial, rfl, rfl⟩
  · have hln := hp.len
    have hle := hp.le
    refine st mo ⟨fun hlt => su 5 mo ?_, fun hge => st mo ?_⟩
    · have hil : i + 1 < l.length := by omega
      obtain ⟨y, hy⟩ : ∃ y, l[i + 1]? = some y := ⟨_, List.getElem?_eq_getElem hil⟩
      obtain ⟨b, o, h4, h5⟩ := hL1 (i + 1) y hy
      refine ⟨b, o, i + 1, h4, rfl, hil, su 5 mo ⟨y.c, rfl, h5, su 5 mo ?_⟩⟩
      refine rxi 3 (st mo ⟨Pag, _, _, _, r_cx (tc := fun z => z.y) (loc_FC hloc se y) [] (fun _ => []) [] rfl rfl (ih y (List.mem_of_getElem? hy) X1 hX1) (fitL_cons fv rfl) trivial (fun _ => uv) (fun _ => trivial) (fun _ => rfl), fun z X2 hX2 hz => ?_⟩)
      refine ⟨(⟨22, [(14, .slice (some ⟨0, 0, none⟩) (i + 1) 19), (17, z.y), (1, fnv 43), (8, raw (.slice p l.length cl)), (9, .int .i64 (l.length : Int)), (10, .int .i64 ((i + 1 : Nat) : Int))]⟩, [(0 + 4096, none), (0, some ((cT Pag.c ys).map rel1))], 1), [0], ⟨rfl, ⟨fs, fv, by exact ff (l := []) (m := []) rfl, fv, fv, fv, trivial⟩, ⟨trivial, flr rfl, trivial⟩, xf, rfl, rfl⟩, rfl, st mo ?_⟩
      refine ⟨((List.length_map _).trans (cT_len (c := Pag.c) (N := 19) (fun _ => rfl) ys)).trans (by rw [show ys.length = i + 1 from hln]; rfl), 1, z.c.map rel1, _, put_own rfl rfl rfl rfl rfl, by omega, _, rfl, st mo ⟨_, wz (i + 2) rfl, st mo ?_⟩⟩
      exact ⟨(i + 1 + 1, ys ++ [z], X2), hp.step hy hX2 hz hloc, by dsimp; omega, [2], rfl, ⟨by exact ff (l := []) (m := []) rfl, fs, fv, fv, fv, trivial⟩, ⟨trivial, flr (by simp), trivial⟩, xf, rfl, rfl⟩
    · have hie : i + 1 = l.length := by omega
      refine told_fZ 5 0 (i + 1) 19 ((cT Pag.c ys).map rel1) [] (fun b cap => (⟨22, [(5, raw (.slice (some ⟨b, 0, none⟩) (i + 1) cap))]⟩, [], 0)) rfl rfl rfl (pur_cT _) rfl (fun b cap => ⟨rfl, ⟨fv, trivial⟩, trivial, xf, rfl, rfl⟩) (fun b cap X2 hcap hX2 hb hl hz0 => st mo ?_)
      rw [den_rel] at hl
      refine ⟨S.Xf.tr hX2 hp.xf, (ys, some ⟨b, 0, none⟩, cap), [], ⟨fun j z hz => ⟨⟨b, 0, ⟨hb.xf hp.xf, hz0⟩, rfl, fun q u hu => ?_⟩, hloc.lo (LO.xf hX2) (hp.ok z (List.mem_of_getElem? hz))⟩, hp.eq (by omega)⟩, ?_, trivial, rfl, rfl⟩
      · have := hl _ u (cT_at (c := Pag.c) (N := 19) (fun _ => rfl) ys j z hz q u hu)
        rw [Nat.zero_add] at this
        show X2.cell? ⟨b, 0 + j * 19 + q, none⟩ = some u
        rw [Nat.zero_add]; exact this
      · exact fv (by show raw (.slice (some ⟨b, 0, none⟩) (i + 1) cap) = raw (.slice (some ⟨b, 0, none⟩) ys.length cap); rw [show ys.length = i + 1 from hln])
def zEx : List Value := [.int .i64 0, .int .i64 0, .string ⟨#[]⟩, .string ⟨#[]⟩, .int .i64 0, .bool false, .int .u64 0, .int .u64 0, .int .u64 0, .int .u64 0, .int .i64 0, .bool false, .string ⟨#[]⟩, .int .i64 0, .int .i64 0, .int .i64 0, .slice none 0 0]
def bX (x : Ex) (y : YL Ex) : Ex := { x with p := y.2.1, cl := y.2.2, a := y.1 }
theorem bX_ok {x : Ex} {y : YL Ex} (hx : x.ok) (hl : x.a.length = y.1.length) : (bX x y).ok := ⟨hx.1, hx.2.1, hx.2.2.1, hx.2.2.2.1, by show y.1.length <= _; rw [← hl]; exact hx.2.2.2.2⟩
abbrev CX (d : Nat) (x : Ex) (X : World) : Prop := CtrX Tryz.prog X 100 [x.y] [] 0 0 (fun z : Ex => z.y) (fun _ => []) 0 (FC (fun S w => LNX S w d) (seE d) x)
set_option maxRecDepth 20000 in
theorem cx_node (d : Nat) (x : Ex) (hx : x.ok) (hlen : x.a.length <= 1000000000) (X : World) (hL : ∀ i y, x.a[i]? = some y -> ∃ b o, x.p = some ⟨b, o, none⟩ /\ Lies X b (o + i * 17) y.c) (ih : ∀ y ∈ x.a, ∀ X1, Xf X1 X -> CX d y X1) : CX (d + 1) x X := by
  refine fn_x (loc_FC (locX (d + 1)) _ x) _ Tryz.func100 rfl rfl rfl rfl (fun w ll tw X' hX => run_ok (su 1 mo ?_))
  refine rxi 2 (st mo ⟨YL Ex, _, _, _, r_cx (tc := fun y => raw (.slice y.2.1 y.1.length y.2.2)) (loc_FL (locX d) (seE d) x.a) [] (fun _ => []) [] rfl rfl (cp_168 (locX d) (seE d) x.p x.cl x.a hlen X' (fun i y hy => by
    obtain ⟨b, o, h1, h2⟩ := hL i y hy
    exact ⟨b, o, h1, fun j u hu => xce hX _ _ (h2 j u hu)⟩) (fun y hy X1 h1 => ih y hy X1 (S.Xf.tr h1 hX))) (fitL_cons fv (fitL_cons (ff (l := []) (m := []) rfl) rfl)) trivial (fun _ => uv) (fun _ => trivial) (fun _ => rfl), fun y X2 hX2 hy => ?_⟩)
  refine ⟨(⟨8, [(1, P0), (2, P1), (5, raw (.slice y.2.1 y.1.length y.2.2))]⟩, [(0, some (x.c.map rel1)), (1, some zEx)], 2), [0, 1], ⟨rfl, ⟨fp, fp, fv, trivial⟩, ⟨flr rfl, fl rfl rfl, trivial⟩, xf, rfl, rfl⟩, rfl, st mo ?_⟩
  repeat refine st mo ?_
  have hs : snd x (bX x y) = true := snd_rf x
  exact ⟨hX2, bX x y, [], ⟨⟨bX_ok hx (eqL_len hy.eq), hy.al⟩, by show (snd x (bX x y) && eqL (seE d) x.a y.1) = true; rw [hs, hy.eq]; rfl⟩, fvd, trivial, rfl, rfl⟩
theorem FC.low {x z : Ex} {S : Nat -> Prop} {W : World} (hx : x.a = []) (h : FC (fun S w => LNX S w (0 + 1)) (seE (0 + 1)) x z S W) : FC (fun S w => LNX S w 0) (seE 0) x z S W := by
  have he : (snd x z && eqL (seE 0) x.a z.a) = true := h.e
  rw [Bool.and_eq_true] at he
  have hz : z.a = [] := List.eq_nil_of_length_eq_zero (by rw [← eqL_len he.2, hx]; rfl)
  exact ⟨⟨h.l.1, hz⟩, by show (snd x z && eqL (fun _ _ => true) x.a z.a) = true; rw [he.1, hx, hz]; rfl⟩
theorem CtrX.mono {P : Program} {Y : Type} {X : World} {f : FuncId} {vs : List Value} {h : HT} {n m n' : Nat} {t : Y -> Value} {h' : Y -> HT} {F G : Y -> (Nat -> Prop) -> World -> Prop} (hF : ∀ y S W, F y S W -> G y S W) (c : CtrX P X f vs h n m t h' n' F) : CtrX P X f vs h n m t h' n' G := fun W k us ky hs hl => (c W k us ky hs hl).mono fun _ _ ⟨y, u, k', h1, h2, h3, h4⟩ => ⟨y, u, k', h1, h2, h3, fun X2 h5 => hF _ _ _ (h4 X2 h5)⟩
theorem sm_mem {T : Type} {f : T -> Nat} : ∀ {l : List T} {y : T}, y ∈ l -> f y <= sm f l
  | x :: l, y, h => by
    rw [sm_cons]
    rcases List.mem_cons.1 h with rfl | h
    · omega
    · have := sm_mem (f := f) h; omega
theorem sm_len {T : Type} {f : T -> Nat} (hf : ∀ y, 1 <= f y) : ∀ l : List T, l.length <= sm f l
  | [] => Nat.zero_le _
  | x :: l => by
    have := sm_len hf l
    have := hf x
    rw [sm_cons, List.length_cons]; omega
theorem nd_pos' (d : Nat) (x : Ex) : 1 <= nd d x := by cases d; exact Nat.le_refl 1; show 1 <= 1 + _; omega
theorem nd_kid {d : Nat} {x : Ex} {B : Nat} (h : nd (d + 1) x <= B) : x.a.length <= B /\ ∀ y ∈ x.a, nd d y <= B := by
  have h1 : 1 + sm (nd d) x.a <= B := h
  have h2 := sm_len (nd_pos' d) x.a
  exact ⟨by omega, fun y hy => by have := sm_mem (f := nd d) hy; omega⟩
theorem cx_all : ∀ (d : Nat) (x : Ex) (X : World), LT X d x -> nd d x <= 1000000000 -> CX d x X
  | 0, x, X, hL, hB => CtrX.mono (fun _ _ _ h => FC.low hL.2 h) (cx_node 0 x hL.1 (by rw [hL.2]; decide) X (fun i y hy => by rw [hL.2] at hy; cases hy) (fun y hy => by rw [hL.2] at hy; cases hy))
  | d + 1, x, X, hL, hB => cx_node d x hL.1 (nd_kid hB).1 X (fun i y hy => (hL.2 i y hy).1) (fun y hy X1 h1 => by
    obtain ⟨i, hi⟩ := List.getElem?_of_mem hy
    exact cx_all d y X1 ((hL.2 i y hi).2.mono (xce h1)) ((nd_kid hB).2 y hy))
def zIt : List Value := [.string ⟨#[]⟩, .int .i64 0, .int .i64 0, .int .i64 0, .bool false, .int .i64 0] ++ zEx
def itX (y : Itm) (z : Ex) : Itm := { y with x := z }
abbrev CI (d : Nat) (y : Itm) (X : World) : Prop := CtrX Tryz.prog X 97 [y.y] [] 0 0 (fun z : Itm => z.y) (fun _ => []) 0 (FC (fun S w => LNI S w d) (seI d) y)
theorem seI_x {d : Nat} {y : Itm} {z : Ex} (h : seE d y.x z = true) : seI d y (itX y z) = true := by
  show seI0 (seE d) y (itX y z) = true
  unfold seI0 ityB itX
  dsimp only
  rw [h]; simp
set_option maxRecDepth 20000 in
theorem ci_all (d : Nat) (y : Itm) (X : World) (hL : LT X d y.x) (hn : y.nm.size <= 9223372036854775806) (hB : nd d y.x <= 1000000000) : CI d y X := by
  refine fn_x (loc_FC (locI d) _ y) _ Tryz.func97 rfl rfl rfl rfl (fun w ll tw X' hX => run_ok (su 1 mo ?_))
  refine rxi 2 (st mo ⟨Ex, _, _, _, r_cx (tc := fun z => z.y) (loc_FC (locX d) (seE d) y.x) [] (fun _ => []) [] rfl rfl (cx_all d y.x X' (hL.mono (xce hX)) hB) (fitL_cons fv rfl) trivial (fun _ => uv) (fun _ => trivial) (fun _ => rfl), fun z X2 hX2 hz => ?_⟩)
  refine ⟨(⟨8, [(1, P0), (2, P1), (5, z.y)]⟩, [(0, some (y.c.map rel1)), (1, some zIt)], 2), [0, 1], ⟨rfl, ⟨fp, fp, fv, trivial⟩, ⟨flr rfl, fl rfl rfl, trivial⟩, xf, rfl, rfl⟩, rfl, st mo ?_⟩
  repeat refine st mo ?_
  exact ⟨hX2, itX y z, [], ⟨⟨hz.l, hn⟩, seI_x hz.e⟩, fvd, trivial, rfl, rfl⟩
theorem lies_up {T : Type} {c : T -> List Value} {N : Nat} {X X' : World} (hX : Xf X' X) {p : Option Addr} {i : Nat} {y : T} (h : ∃ b o, p = some ⟨b, o, none⟩ /\ Lies X b (o + i * N) (c y)) : ∃ b o, p = some ⟨b, o, none⟩ /\ Lies X' b (o + i * N) (c y) := by
  obtain ⟨b, o, h1, h2⟩ := h
  exact ⟨b, o, h1, fun j u hu => xce hX _ _ (h2 j u hu)⟩
def zSc : List Value := [.string ⟨#[]⟩, .int .i64 0, .slice none 0 0, .slice none 0 0]
def scX (s : Sec) (y : YL Itm) (z : YL Sec) : Sec := { s with ip := y.2.1, icl := y.2.2, its := y.1, sp := z.2.1, scl := z.2.2, secs := z.1 }
abbrev CSC (d e : Nat) (y : Sec) (X : World) : Prop := CtrX Tryz.prog X 39 [y.y] [] 0 0 (fun z : Sec => z.y) (fun _ => []) 0 (FC (fun S w => LNS S w d e) (seS d e) y)
set_option maxRecDepth 20000 in
theorem cs_node (d e : Nat) (y : Sec) (X : World) (h0 : LS0 X d y) (hB : sm (itN d) y.its <= 1000000000) (hsl : y.secs.length <= 1000000000) (hS : ∀ i z, y.secs[i]? = some z -> ∃ b o, y.sp = some ⟨b, o, none⟩ /\ Lies X b (o + i * 4) z.c) (ih : ∀ z ∈ y.secs, ∀ X1, Xf X1 X -> CSC d e z X1) : CSC d (e + 1) y X := by
  have hil : y.its.length <= 1000000000 := Nat.le_trans (sm_len (fun z => by show 1 <= 1 + _; omega) y.its) hB
  refine fn_x (loc_FC (locS d (e + 1)) _ y) _ Tryz.func39 rfl rfl rfl rfl (fun w ll tw X' hX => run_ok (su 1 mo ?_))
  refine rxi 2 (st mo ⟨YL Itm, _, _, _, r_cx (tc := fun y => raw (.slice y.2.1 y.1.length y.2.2)) (loc_FL (locI d) (seI d) y.its) [] (fun _ => []) [] rfl rfl (cp_96 (locI d) (seI d) y.ip y.icl y.its hil X' (fun i z hz => lies_up hX (h0.1 i z hz).1) (fun z hz X1 h1 => by
    obtain ⟨i, hi⟩ := List.getElem?_of_mem hz
    have hn := sm_mem (f := itN d) hz
    have hn : 1 + nd d z.x <= sm (itN d) y.its := hn
    exact ci_all d z X1 ((h0.1 i z hi).2.1.mono (xce (S.Xf.tr h1 hX))) (h0.1 i z hi).2.2 (by omega))) (fitL_cons fv (fitL_cons (ff (l := []) (m := []) rfl) rfl)) trivial (fun _ => uv) (fun _ => trivial) (fun _ => rfl), fun u X2 hX2 hu => ?_⟩)
  refine ⟨(⟨12, [(1, P0), (2, P1), (5, raw (.slice u.2.1 u.1.length u.2.2))]⟩, [(0, some (y.c.map rel1)), (1, some zSc)], 2), [0, 1], ⟨rfl, ⟨fp, fp, fv, trivial⟩, ⟨flr rfl, fl rfl rfl, trivial⟩, xf, rfl, rfl⟩, rfl, su 2 mo ?_⟩
  refine rxi 2 (st mo ⟨YL Sec, _, _, _, r_cx (tc := fun y => raw (.slice y.2.1 y.1.length y.2.2)) (loc_FL (locS d e) (seS d e) y.secs) [] (fun _ => []) [] rfl rfl (cp_98 (locS d e) (seS d e) y.sp y.scl y.secs hsl X2 (fun i z hz => lies_up hX2 (lies_up hX (hS i z hz))) (fun z hz X1 h1 => ih z hz X1 (S.Xf.tr h1 (S.Xf.tr hX2 hX)))) (fitL_cons fv (fitL_cons (ff (l := []) (m := []) rfl) rfl)) trivial (fun _ => uv) (fun _ => trivial) (fun _ => rfl), fun v X3 hX3 hv => ?_⟩)
  refine ⟨(⟨12, [(1, P0), (2, P1), (9, raw (.slice v.2.1 v.1.length v.2.2))]⟩, [(0, some [.string y.nm, .int .i64 y.mx, raw (.slice u.2.1 u.1.length u.2.2), raw (.slice y.sp y.secs.length y.scl)]), (1, some zSc)], 2), [0, 1], ⟨rfl, ⟨fp, fp, fv, trivial⟩, ⟨fl rfl rfl, fl rfl rfl, trivial⟩, xf, rfl, rfl⟩, rfl, st mo ?_⟩
  repeat refine st mo ?_
  have hul := eqL_len hu.eq
  have hvl := eqL_len hv.eq
  refine ⟨S.Xf.tr hX3 hX2, scX y u v, [], ⟨⟨⟨?_, ?_, h0.2.2.1, ?_⟩, ?_⟩, ?_⟩, fvd, trivial, rfl, rfl⟩
  · exact hu.al.lo (LO.xf hX3) fun _ _ g => g.lo (LO.xf hX3)
  · show u.1.length <= _; rw [← hul]; exact h0.2.1
  · show v.1.length <= _; rw [← hvl]; exact h0.2.2.2
  · exact hv.al.le (fun b hb => hb.xf hX2) fun _ _ g => g.le fun b hb => hb.xf hX2
  · show (decide (y.nm = y.nm) && (decide (y.mx = y.mx) && (eqL (seI d) y.its u.1 && eqL (seS d e) y.secs v.1))) = true
    rw [hu.eq, hv.eq]; simp
theorem FC.lowS {d : Nat} {x z : Sec} {S : Nat -> Prop} {W : World} (hx : x.secs = []) (h : FC (fun S w => LNS S w d (0 + 1)) (seS d (0 + 1)) x z S W) : FC (fun S w => LNS S w d 0) (seS d 0) x z S W := by
  have he : (decide (x.nm = z.nm) && (decide (x.mx = z.mx) && (eqL (seI d) x.its z.its && eqL (seS d 0) x.secs z.secs))) = true := h.e
  simp only [Bool.and_eq_true] at he
  have hz : z.secs = [] := List.eq_nil_of_length_eq_zero (by rw [← eqL_len he.2.2.2, hx]; rfl)
  refine ⟨⟨h.l.1, hz⟩, ?_⟩
  show (decide (x.nm = z.nm) && (decide (x.mx = z.mx) && (eqL (seI d) x.its z.its && eqL (fun _ _ => true) x.secs z.secs))) = true
  rw [he.1, he.2.1, he.2.2.1, hx, hz]; rfl
theorem pt_kid {d e : Nat} {y : Sec} {B : Nat} (h : ptN d (e + 1) y <= B) : sm (itN d) y.its <= B /\ y.secs.length <= B /\ ∀ z ∈ y.secs, ptN d e z <= B := by
  have h1 : sm (itN d) y.its + sm (fun z => 1 + ptN d e z) y.secs <= B := h
  have h2 := sm_len (f := fun z => 1 + ptN d e z) (fun z => by show 1 <= 1 + _; omega) y.secs
  exact ⟨by omega, by omega, fun z hz => by have := sm_mem (f := fun z => 1 + ptN d e z) hz; omega⟩
theorem cs_all (d : Nat) : ∀ (e : Nat) (y : Sec) (X : World), LS X d e y -> ptN d e y <= 1000000000 -> CSC d e y X
  | 0, y, X, hL, hB => CtrX.mono (fun _ _ _ h => FC.lowS hL.2 h) (cs_node d 0 y X hL.1 hB (by rw [hL.2]; decide) (fun i z hz => by rw [hL.2] at hz; cases hz) (fun z hz => by rw [hL.2] at hz; cases hz))
  | e + 1, y, X, hL, hB => cs_node d e y X hL.1 (pt_kid hB).1 (pt_kid hB).2.1 (fun i z hz => (hL.2 i z hz).1) (fun z hz X1 h1 => by
    obtain ⟨i, hi⟩ := List.getElem?_of_mem hz
    exact cs_all d e z X1 ((hL.2 i z hi).2.mono (xce h1)) ((pt_kid hB).2.2 z hz))
def zTb : List Value := [.string ⟨#[]⟩, .slice none 0 0]
def tbX (t : Tab) (y : YL Rat') : Tab := { t with p := y.2.1, cl := y.2.2, a := y.1 }
set_option maxRecDepth 20000 in
theorem ct_all (y : Tab) (X : World) (hL : LTb X y) (hB : y.a.length <= 1000000000) : CtrX Tryz.prog X 41 [y.y] [] 0 0 (fun z : Tab => z.y) (fun _ => []) 0 (FC LNT seT y) := by
  refine fn_x (loc_FC locT _ y) _ Tryz.func41 rfl rfl rfl rfl (fun w ll tw X' hX => run_ok (su 1 mo ?_))
  refine rxi 2 (st mo ⟨YL Rat', _, _, _, r_cx (tc := fun y => raw (.slice y.2.1 y.1.length y.2.2)) (loc_FL (loc0 _) seR y.a) [] (fun _ => []) [] rfl rfl (cl_99 y.p y.cl y.a hB X' (fun i z hz => ⟨lies_up hX (hL.2.2 i z hz).1, (hL.2.2 i z hz).2⟩)) (fitL_cons fv rfl) trivial (fun _ => uv) (fun _ => trivial) (fun _ => rfl), fun u X2 hX2 hu => ?_⟩)
  refine ⟨(⟨8, [(1, P0), (2, P1), (5, raw (.slice u.2.1 u.1.length u.2.2))]⟩, [(0, some (y.c.map rel1)), (1, some zTb)], 2), [0, 1], ⟨rfl, ⟨fp, fp, fv, trivial⟩, ⟨flr rfl, fl rfl rfl, trivial⟩, xf, rfl, rfl⟩, rfl, st mo ?_⟩
  repeat refine st mo ?_
  refine ⟨hX2, tbX y u, [], ⟨⟨hL.1, by show u.1.length <= _; rw [← eqL_len hu.eq]; exact hL.2.1, hu.al⟩, ?_⟩, fvd, trivial, rfl, rfl⟩
  show (decide (y.nm = y.nm) && eqL seR y.a u.1) = true
  rw [hu.eq]; simp
def zPg : List Value := .string ⟨#[]⟩ :: (zEx ++ [.slice none 0 0])
def pgX (p : Pag) (x : Ex) (y : YL ByteArray) : Pag := { p with x := x, p := y.2.1, cl := y.2.2, a := y.1 }
set_option maxRecDepth 20000 in
theorem cg_all (d : Nat) (y : Pag) (X : World) (hL : LPg X d y) (hB : nd d y.x <= 1000000000) (hBl : y.a.length <= 1000000000) : CtrX Tryz.prog X 43 [y.y] [] 0 0 (fun z : Pag => z.y) (fun _ => []) 0 (FC (fun S w => LNP S w d) (seP d) y) := by
  refine fn_x (loc_FC (locP d) _ y) _ Tryz.func43 rfl rfl rfl rfl (fun w ll tw X' hX => run_ok (su 1 mo ?_))
  refine rxi 2 (st mo ⟨Ex, _, _, _, r_cx (tc := fun z => z.y) (loc_FC (locX d) (seE d) y.x) [] (fun _ => []) [] rfl rfl (cx_all d y.x X' (hL.2.1.mono (xce hX)) hB) (fitL_cons fv rfl) trivial (fun _ => uv) (fun _ => trivial) (fun _ => rfl), fun z X2 hX2 hz => ?_⟩)
  refine ⟨(⟨12, [(1, P0), (2, P1), (5, z.y)]⟩, [(0, some (y.c.map rel1)), (1, some zPg)], 2), [0, 1], ⟨rfl, ⟨fp, fp, fv, trivial⟩, ⟨flr rfl, fl rfl rfl, trivial⟩, xf, rfl, rfl⟩, rfl, su 2 mo ?_⟩
  refine rxi 2 (st mo ⟨YL ByteArray, _, _, _, r_cx (tc := fun y => raw (.slice y.2.1 y.1.length y.2.2)) (loc_FL (loc0 _) stB y.a) [] (fun _ => []) [] rfl rfl (cl_101 y.p y.cl y.a hBl X2 (fun i s hs => ⟨lies_up hX2 (lies_up hX (by
    obtain ⟨b, o, h1, h2⟩ := (hL.2.2.2 i s hs).1
    refine ⟨b, o, h1, fun j u hu => ?_⟩
    cases j with
    | zero => simp [bc] at hu; subst hu; exact h2
    | succ j => simp [bc] at hu)), (hL.2.2.2 i s hs).2⟩)) (fitL_cons fv rfl) trivial (fun _ => uv) (fun _ => trivial) (fun _ => rfl), fun v X3 hX3 hv => ?_⟩)
  refine ⟨(⟨12, [(1, P0), (2, P1), (9, raw (.slice v.2.1 v.1.length v.2.2))]⟩, [(0, some ((pgX y z (y.a, y.p, y.cl)).c.map rel1)), (1, some zPg)], 2), [0, 1], ⟨rfl, ⟨fp, fp, fv, trivial⟩, ⟨flr rfl, fl rfl rfl, trivial⟩, xf, rfl, rfl⟩, rfl, st mo ?_⟩
  repeat refine st mo ?_
  refine ⟨S.Xf.tr hX3 hX2, pgX y z v, [], ⟨⟨hL.1, hz.l.lo (LO.xf hX3), by show v.1.length <= _; rw [← eqL_len hv.eq]; exact hL.2.2.1, hv.al.le (fun b hb => hb.xf hX2) fun _ _ g => g⟩, ?_⟩, fvd, trivial, rfl, rfl⟩
  show (decide (y.nm = y.nm) && (seE d y.x z && eqL stB y.a v.1)) = true
  rw [hz.e, hv.eq]; simp
def zDf : List Value := [.string ⟨#[]⟩, .string ⟨#[]⟩, .int .i64 0, .slice none 0 0, .slice none 0 0, .slice none 0 0, .slice none 0 0]
def dfX (y : Dfn) (r : Sec) (t : YL Tab) (p : YL Pag) : Dfn := { y with r := r, tp := t.2.1, tcl := t.2.2, tabs := t.1, pp := p.2.1, pcl := p.2.2, pags := p.1 }
set_option maxRecDepth 20000 in
theorem cd_all (d e : Nat) (y : Dfn) (X : World) (hL : LD X d e y) (hB : dfN d e y <= 1000000000) : CtrX Tryz.prog X 16 [y.y] [] 0 0 (fun z : Dfn => z.y) (fun _ => []) 0 (FC (fun S w => LND S w d e) (seD d e) y) := by
  have hB' : 1 + ptN d e y.r + sm tbN y.tabs + sm (pgN d) y.pags <= 1000000000 := hB
  have ht := sm_len (f := tbN) (fun z => by show 1 <= 1 + _; omega) y.tabs
  have hp := sm_len (f := pgN d) (fun z => by show 1 <= 1 + _ + _; omega) y.pags
  refine fn_x (loc_FC (locD d e) _ y) _ Tryz.func16 rfl rfl rfl rfl (fun w ll tw X' hX => run_ok (su 1 mo ?_))
  refine rxi 2 (st mo ⟨Sec, _, _, _, r_cx (tc := fun z => z.y) (loc_FC (locS d e) (seS d e) y.r) [] (fun _ => []) [] rfl rfl (cs_all d e y.r X' (hL.2.1.mono (xce hX)) (by omega)) (fitL_cons fv rfl) trivial (fun _ => uv) (fun _ => trivial) (fun _ => rfl), fun r X2 hX2 hr => ?_⟩)
  refine ⟨(⟨16, [(1, P0), (2, P1), (5, r.y)]⟩, [(0, some (y.c.map rel1)), (1, some zDf)], 2), [0, 1], ⟨rfl, ⟨fp, fp, fv, trivial⟩, ⟨flr rfl, fl rfl rfl, trivial⟩, xf, rfl, rfl⟩, rfl, su 2 mo ?_⟩
  have hX02 := S.Xf.tr hX2 hX
  refine rxi 2 (st mo ⟨YL Tab, _, _, _, r_cx (tc := fun y => raw (.slice y.2.1 y.1.length y.2.2)) (loc_FL locT seT y.tabs) [] (fun _ => []) [] rfl rfl (cp_40 locT seT y.tp y.tcl y.tabs (by omega) X2 (fun i z hz => lies_up hX02 (hL.2.2.2.2.1 i z hz).1) (fun z hz X1 h1 => by
    obtain ⟨i, hi⟩ := List.getElem?_of_mem hz
    have hn := sm_mem (f := tbN) hz
    have hn : 1 + z.a.length <= sm tbN y.tabs := hn
    exact ct_all z X1 ((hL.2.2.2.2.1 i z hi).2.mono (xce (S.Xf.tr h1 hX02))) (by omega))) (fitL_cons fv (fitL_cons (ff (l := []) (m := []) rfl) rfl)) trivial (fun _ => uv) (fun _ => trivial) (fun _ => rfl), fun t X3 hX3 hT => ?_⟩)
  refine ⟨(⟨16, [(1, P0), (2, P1), (9, raw (.slice t.2.1 t.1.length t.2.2))]⟩, [(0, some ((dfX y r (y.tabs, y.tp, y.tcl) (y.pags, y.pp, y.pcl)).c.map rel1)), (1, some zDf)], 2), [0, 1], ⟨rfl, ⟨fp, fp, fv, trivial⟩, ⟨flr rfl, fl rfl rfl, trivial⟩, xf, rfl, rfl⟩, rfl, su 3 mo ?_⟩
  have hX03 := S.Xf.tr hX3 hX02
  refine rxi 2 (st mo ⟨YL Pag, _, _, _, r_cx (tc := fun y => raw (.slice y.2.1 y.1.length y.2.2)) (loc_FL (locP d) (seP d) y.pags) [] (fun _ => []) [] rfl rfl (cp_42 (locP d) (seP d) y.pp y.pcl y.pags (by omega) X3 (fun i z hz => lies_up hX03 (hL.2.2.2.2.2 i z hz).1) (fun z hz X1 h1 => by
    obtain ⟨i, hi⟩ := List.getElem?_of_mem hz
    have hn := sm_mem (f := pgN d) hz
    have hn : 1 + nd d z.x + z.a.length <= sm (pgN d) y.pags := hn
    exact cg_all d z X1 ((hL.2.2.2.2.2 i z hi).2.mono (xce (S.Xf.tr h1 hX03))) (by omega) (by omega))) (fitL_cons fv (fitL_cons (ff (l := []) (m := []) rfl) rfl)) trivial (fun _ => uv) (fun _ => trivial) (fun _ => rfl), fun p X4 hX4 hP => ?_⟩)
  refine ⟨(⟨16, [(1, P0), (2, P1), (13, raw (.slice p.2.1 p.1.length p.2.2))]⟩, [(0, some ((dfX y r t (y.pags, y.pp, y.pcl)).c.map rel1)), (1, some zDf)], 2), [0, 1], ⟨rfl, ⟨fp, fp, fv, trivial⟩, ⟨flr rfl, fl rfl rfl, trivial⟩, xf, rfl, rfl⟩, rfl, st mo ?_⟩
  repeat refine st mo ?_
  have hX34 := S.Xf.tr hX4 hX3
  refine ⟨S.Xf.tr hX34 hX2, dfX y r t p, [], ⟨⟨hL.1, hr.l.lo (LO.xf hX34), ?_, ?_, ?_, ?_⟩, ?_⟩, fvd, trivial, rfl, rfl⟩
  · show t.1.length <= _; rw [← eqL_len hT.eq]; exact hL.2.2.1
  · show p.1.length <= _; rw [← eqL_len hP.eq]; exact hL.2.2.2.1
  · exact (hT.al.lo (LO.xf hX4) fun _ _ g => g.lo (LO.xf hX4)).le (fun b hb => hb.xf hX2) fun _ _ g => g.le fun b hb => hb.xf hX2
  · exact hP.al.le (fun b hb => hb.xf (S.Xf.tr hX3 hX2)) fun _ _ g => g.le fun b hb => hb.xf (S.Xf.tr hX3 hX2)
  · show (decide (y.nm = y.nm) && (seS d e y.r r && (eqL seT y.tabs t.1 && eqL (seP d) y.pags p.1))) = true
    rw [hr.e, hT.eq, hP.eq]; simp
namespace S
section
variable {P : Program} {w0 : B0} {C : Exit -> St -> Prop}
theorem set_one {W : World} {b q : Nat} {cs : Array Value} {ty : TypeId} {v : Value} (h : W.heap[b]? = some (.cells cs ty (0, 0))) (hq : q < cs.size) : (W.setCells b q [v]).heap[b]? = some (.cells (cs.toList.take q ++ [v] ++ cs.toList.drop (q + 1)).toArray ty (0, 0)) := by
  have h' : W.heap[b]? = some (.cells cs.toList.toArray ty (0, 0)) := by simpa using h
  have := heap_setCells (b := b) (ty := ty) [v] q W cs.toList h' (by simp; omega)
  simpa using this
theorem Rl.put1 {s : St} {k : K} {W : World} {a : Act} {b q : Nat} {cs : Array Value} {ty : TypeId} {v : Value} (R : Rl w0 s k W a) (hw0 : w0.w.heap.size = 0) (hb : s.X.heap[b]? = some (.cells cs ty (0, 0))) (hne : Obj.cells cs ty (0, 0) ≠ hole s.X) (hq : q < cs.size) : Rl w0 ⟨s.f, s.h, s.n, s.X.setCells b q [v]⟩ k (W.setCells b q [v]) a := by
  have hW : W.heap[b]? = some (.cells cs ty (0, 0)) := R.am.see b _ hb hne
  have hno : ∀ i z, k i ≠ some (b, z) := fun i z hk => hne (R.am.out i b z hk _ hb)
  obtain ⟨hos, htp, hout⟩ := rest_setCells b [v] q W
  have hX1 : (s.X.setCells b q [v]).drawn = s.X.drawn := rfl
  have hhole : hole (s.X.setCells b q [v]) = hole s.X := by unfold hole; rw [hX1]
  refine ⟨R.fr, ⟨fun i hi c hc => ?_, fun i j hi hj li lj => R.hr.inj i j hi hj li lj⟩, R.nn, R.nk, ⟨⟨by rw [hos]; exact R.am.old.os, by rw [htp.1]; exact R.am.old.tape, by rw [hout]; exact R.am.old.output, by rw [size_setCells]; exact R.am.old.size, fun c hc => absurd hc (by omega)⟩, R.am.own, fun c o h1 h2 => ?_, fun i c z hk o ho => ?_, by rw [size_setCells, size_setCells]; exact R.am.sz, R.am.kp, Nat.le_trans R.am.dr htp.2, R.am.ty.trans htp.3⟩⟩
  · rcases R.hr.rep i hi c hc with ⟨b1, us, sp, ty', e1, e2, e3⟩ | ⟨b1, es', e1, e2, e3⟩
    · have hb1 : b1 ≠ b := fun e => hno i _ (e ▸ e1)
      exact Or.inl ⟨b1, us, sp, ty', e1, by rw [heap_setCells_other hb1]; exact e2, e3⟩
    · have hb1 : b1 ≠ b := fun e => hno i _ (e ▸ e1)
      exact Or.inr ⟨b1, es', e1, ⟨by rw [heap_setCells_other hb1]; exact e2.1, e2.2⟩, e3⟩
  · rw [hhole] at h2
    by_cases hcb : c = b
    · subst hcb
      have h1 : (s.X.setCells c q [v]).heap[c]? = some o := h1
      rw [set_one hb hq] at h1
      rw [set_one hW hq]; exact h1
    · have h1 : (s.X.setCells b q [v]).heap[c]? = some o := h1
      rw [heap_setCells_other hcb] at h1
      rw [heap_setCells_other hcb]; exact R.am.see c o h1 h2
  · rw [hhole]
    have hcb : c ≠ b := fun e => hno i z (e ▸ hk)
    have ho : (s.X.setCells b q [v]).heap[c]? = some o := ho
    rw [heap_setCells_other hcb] at ho
    exact R.am.out i c z hk o ho
def midS (P : Program) (w0 : B0) (C : Exit -> St -> Prop) (ops : Array Oper) (o : Oper) (rest : List Oper) (stk : List It) (_ : Exit) (s : St) : Prop := match s with
  | ⟨f, h, n, X⟩ => ∃ (t : TypeId) (y z : Operand) (b q : Nat) (v : Value) (cs : Array Value) (ty : TypeId), o.op = .store t y z /\ o.dst = none /\ szOf P t = some 1 /\ evo f y = raw (.pointer (some ⟨b, q, none⟩)) /\ (evo f z = v /\ flat1 v = true) /\ (X.heap[b]? = some (.cells cs ty (0, 0)) /\ Obj.cells cs ty (0, 0) ≠ hole X /\ q < cs.size) /\ Rn P w0 C ⟨ops, rest, false, ⟨f, h, n, 0, 0, []⟩, X.setCells b q [v], stk⟩
theorem flat1_one {v : Value} (h : flat1 v = true) : v.oneCell' = true /\ v.cells.toList = [v] := by
  cases v <;> first | exact ⟨rfl, rfl⟩ | cases h
theorem rst {ops op0 : Array Oper} {id r0 w1 : Nat} {l0 : List (Nat × Nat)} {f : FT} {h : HT} {n : Nat} {X : World} {stk : List It} (i : Nat) (hw0 : w0.w.heap.size = 0)
    (hh : Rn P w0 (midS P w0 C ops (ops.toList.getD i default) (ops.toList.drop (i + 1)) stk) ⟨ops, ops.toList.take i, false, ⟨f, h, n, 0, 0, []⟩, X, []⟩) (ho : ops.toList = ops.toList.take i ++ ops.toList.getD i default :: ops.toList.drop (i + 1) := by rfl) (hg : (ops.toList.getD i default).guard = none := by rfl) : Rn P w0 C ⟨op0, [], false, ⟨f, h, n, r0, w1, l0⟩, X, co (.region id ops false) :: stk⟩ := by
  generalize ops.toList.getD i default = o at hh ho hg
  intro nn
  refine ⟨_, rfl, fun h => (by cases h), ?_⟩
  show WC P w0 (.region id ops false) ⟨f, h, n, X⟩ (RnE P w0 C stk)
  intro Q k W a R hK
  obtain ⟨s1, h1, _, hC⟩ := hh nn
  obtain ⟨t, y, z, b, q, v, cs, ty, hop, hds, hsz, hy, ⟨hz, hf1⟩, ⟨hb, hne, hq⟩, hr⟩ := hC
  obtain ⟨r, w, ss, ok⟩ := list_app (Am.stable w0 X) (o :: ops.toList.drop (i + 1)) _ ⟨f, h, n, 0, 0, []⟩ s1 nn h1
  refine wp_region_list ?_
  rw [ho]
  refine ok k W a Q R.am R.fr (R.hr.all R.nn _) (fun i h1 _ => R.nk i h1) fun k1 W1 a1 hd hf => ?_
  have R1 : Rl w0 ⟨s1.f, s1.h, s1.n, X⟩ k1 W1 a1 := R.step ss hd hf
  have hW : W1.heap[b]? = some (.cells cs ty (0, 0)) := R1.am.see b _ hb hne
  have R2 := R1.put1 (v := v) hw0 hb hne hq
  refine wpList_plain hg fun K hKK => ?_
  have e1 : a1.eval y = .pointer (some ⟨b, q, none⟩) := by have := R1.fr.ev y; rw [hy] at this; exact this.raw_inv
  have e2 : a1.eval z = v := by have := R1.fr.ev z; rw [hz] at this; exact flat1_eq this hf1
  obtain ⟨g1, g2⟩ := flat1_one hf1
  have hW' : W1.heap[b]? = some (.cells cs.toList.toArray ty (0, 0)) := by simpa using hW
  have hst := run_storeCells_cells (P := P) b q [v] 0 W1 (fun j hj => by
    have : j = 0 := by simp at hj; exact hj
    subst this
    rw [cell_of hW', List.getElem?_eq_getElem (by simpa using hq)]; rfl) (fun j _ => fz_of hW' _) (fun u hu => by simp at hu; subst hu; exact g1)
  simp only [Nat.add_zero] at hst
  obtain ⟨inf, hi, hs⟩ := szOf_info hsz
  have hsz' : v.cells.size = inf.size := by
    have g3 : v.cells.toList.length = 1 := by rw [g2]; rfl
    rw [hs, ← g3, Array.length_toList]
  have hrun : (execOp a1.eval (o)).run P W1 = .ok .skip (W1.setCells b q [v]) := by
    simp [execOp, hop, e1, e2, Instr.storeAt, Instr.sureAddr, storeVar, sizeOf, typeInfo, hi, hsz', g2, hst]
  unfold Oper.wp
  rw [hrun, Oper.upon_skip]
  refine hKK _ _ ?_
  obtain ⟨s3, e1, _, e3⟩ := hr R2.nn
  obtain ⟨r2, w2, _, _, ss2, ok2⟩ := list_ok (Am.stable w0 (X.setCells b q [v])) (ops.toList.drop (i + 1)) ⟨s1.f, s1.h, s1.n, 0, 0, []⟩ s3 R2.nn e1
  have e4 : a1.put (o).dst undef = a1 := by rw [hds]; rfl
  rw [e4]
  exact ok2 _ _ _ Q R2.am R2.fr (R2.hr.all R2.nn _) (fun i h1 _ => R2.nk i h1) fun k3 W3 a3 hd3 hf3 => hK .normal _ k3 W3 a3 (R2.step ss2 hd3 hf3) e3
end
section
variable {P : Program} {Y : Type} {F : Y -> (Nat -> Prop) -> World -> Prop}
theorem fn_x0 (hF : Lcl F) {X : World} {f : FuncId} {fn : Func} {c : Code} {h : HT} {h' : Y -> HT} {n m n' : Nat} {t : Y -> Value} (vs : List Value) (hf : P.funcs[f]? = some fn) (hb : fn.body = some c) (hm : Nat.ble vs.length fn.ntmps = true) (hfull : full h n = true) (hmn : Nat.ble m n = true)
    (H : ∀ w l tw X', w.heap.size = 0 -> Xf X' X -> WC P ⟨w, m, l, tw⟩ c ⟨⟨fn.ntmps, argl 0 vs⟩, h, n, X'⟩ (retX P fn X' m t h' n' F)) : CtrX P X f vs h n m t h' n' F := by
  intro W k us ky hX hv
  refine calls_of_wp hf hb ?_
  have hmn' : m <= n := Nat.le_of_ble_eq_true hmn
  have hks : ∀ i, i < n -> ∃ b z, k i = some (b, z) /\ b < W.heap.size := fun i hi => by
    obtain ⟨cs, hcs⟩ := full_at hfull i hi
    exact (ky.hr.rep i (tb_ones.2 hi)).lt ⟨cs, hcs⟩
  obtain ⟨X', hXs, hXo, hXi, hN'⟩ := ex_mask W (fun b => ∃ j z, j < n /\ k j = some (b, z))
  have hXf : Xf X' X := by
    refine ⟨by rw [hXs]; exact hX.sz, fun b o h1 h2 => ?_⟩
    have h3 := hX.see b o h1 h2
    have h4 : ¬ (∃ j z, j < n /\ k j = some (b, z)) := fun ⟨j, z, _, hk⟩ => h2 (hX.out j b z hk o h1)
    exact ⟨by rw [hXo b h4]; exact h3, hN' b o h3⟩
  have R0 : Rl ⟨{ W with heap := #[] }, m, fun i => (k i).getD (0, 0), W⟩ ⟨⟨fn.ntmps, argl 0 vs⟩, h, n, X'⟩ k W { tmps := us.toArray ++ Array.replicate (fn.ntmps - us.toArray.size) undef, defers := [] } := by
    refine ⟨args_fr hv (Nat.le_of_ble_eq_true hm), ky.hr, ky.nn, ky.nk, ⟨⟨rfl, rfl, rfl, Nat.zero_le _, fun b hb => absurd hb (Nat.not_lt_zero b)⟩, fun i b z _ => Nat.zero_le _, fun b o h1 h2 => ?_, fun i b z hk o ho => ?_, by rw [hXs]; exact Nat.le_refl _, fun i hi => ?_, Nat.le_refl _, Ty.refl _⟩⟩
    · have h4 : ¬ (∃ j z, j < n /\ k j = some (b, z)) := fun hb => h2 (hXi b o hb h1)
      rw [hXo b h4] at h1; exact h1
    · refine hXi b o ⟨i, z, ?_, hk⟩ ho
      rcases Nat.lt_or_ge i n with h' | h'
      · exact h'
      · rw [ky.nk i h'] at hk; cases hk
    · obtain ⟨b, z, hk, _⟩ := hks i (Nat.lt_of_lt_of_le hi hmn')
      show k i = some ((k i).getD (0, 0))
      rw [hk]; rfl
  refine H _ _ _ X' rfl hXf _ _ _ _ R0 fun e s k1 W' a Rs hC => ?_
  obtain ⟨hX1, hC⟩ := hC
  have told : ∀ (b : Nat) (o : Obj), ¬ (∃ j z, j < n /\ k j = some (b, z)) -> W.heap[b]? = some o -> s.X.heap[b]? = some o /\ o ≠ hole s.X := fun b o hno h8 => hX1.2 b o (by rw [hXo b hno]; exact h8) (hN' b o h8)
  have key : resK P s.f s.h fn.results.toList (fun vs => ∃ y σ, F y (Ho X') s.X /\ fitV σ (single vs) (t y) /\ fitH σ s.h (h' y) /\ σ.length = n' /\ (apartL σ && pfx m σ) = true) -> ∃ u, (results fn a.tmps).run P W' = .ok u W' /\ (∃ y u' k', Ending.returned u = .returned u' /\ VX k' (t y) u' /\ Af k n m W k' (h' y) n' W' ∧
      ∀ X2 : World, (∀ (b : Nat) (o : Obj), Fp k n W b -> W'.heap[b]? = some o -> (∀ i z, k' i ≠ some (b, z)) -> X2.heap[b]? = some o /\ o ≠ hole X2) -> F y (Fp k n W) X2) := fun hC => by
    obtain ⟨vs', u, ⟨y, σ, g0, g1, g2, g3, g4⟩, h2, h3⟩ := results_run Rs.fr (fun m => Rs.hr.all Rs.nn m) hC
    rw [Bool.and_eq_true] at g4
    obtain ⟨g4, g5⟩ := g4
    have kyf : Ky (ren σ k1) (h' y) n' W' := by
      rw [← g3]
      exact ky_ren (Rs.hr.all Rs.nn _) (tb_max σ) g2 g4
    refine ⟨u, h3, y, u, ren σ k1, rfl, g1 k1 u h2, ⟨kyf, fun i hi => ?_, fun i b z hk => ?_, fun b hb hj => ?_, ?_, Rs.am.old.os, ⟨Rs.am.old.tape, Rs.am.dr, Rs.am.ty⟩, Rs.am.old.output⟩, fun X2 h2 => ?_⟩
    · obtain ⟨b, z, hk, _⟩ := hks i (Nat.lt_of_lt_of_le hi hmn')
      rw [ren_at (pfx_at g5 i hi), Rs.am.kp i hi]
      show some ((k i).getD (0, 0)) = k i
      rw [hk]; rfl
    · obtain ⟨i0, _, hk0⟩ := ren_some hk
      rcases Nat.lt_or_ge b W.heap.size with h7 | h7
      · refine Or.inr (Classical.byContradiction fun hne => ?_)
        obtain ⟨h9, h10⟩ := told b _ hne (Array.getElem?_eq_getElem h7)
        exact h10 (Rs.am.out i0 b _ hk0 _ h9)
      · exact Or.inl h7
    · have h8 : W.heap[b]? = some W.heap[b] := Array.getElem?_eq_getElem hb
      obtain ⟨h9, h10⟩ := told b _ (fun ⟨j, z', h8, h9⟩ => hj j z' h8 h9) h8
      rw [h8]
      exact Rs.am.see b _ h9 h10
    · exact Nat.le_trans (by rw [← hXs]; exact hX1.1) Rs.am.sz
    · refine hF.lo y _ s.X X2 (fun b o hb h4 h5 => h2 b o hb (Rs.am.see b o h4 h5) fun i z hk => ?_) (hF.le y _ _ _ (fun b hb => ?_) g0)
      · obtain ⟨i0, _, hk0⟩ := ren_some hk
        exact h5 (Rs.am.out i0 b z hk0 o h4)
      · refine Classical.byContradiction fun hne => ?_
        have h7 : b < W.heap.size := Nat.lt_of_not_le fun h => hne (Or.inl h)
        have h8 : W.heap[b]? = some W.heap[b] := Array.getElem?_eq_getElem h7
        exact hN' b _ h8 (hb _ (by rw [hXo b (fun h => hne (Or.inr h))]; exact h8))
  cases e with
  | normal => obtain ⟨u, h1, h2⟩ := key hC; exact ⟨Rs.fr.df, u, h1, h2⟩
  | ret => obtain ⟨u, h1, h2⟩ := key hC; exact ⟨Rs.fr.df, u, h1, h2⟩
  | _ => exact hC.elim
end
end S
def Sim (m : Nat) (u v : Value) : Prop := u = v ∨ (∃ s t, u = .string s /\ v = .string t /\ t.size <= s.size + m) ∨ ∃ i j, u = .int .i64 i /\ v = .int .i64 j
theorem Sim.up {m m' : Nat} (h : m <= m') {u v : Value} (g : Sim m u v) : Sim m' u v := by
  rcases g with h1 | ⟨s, t, h1, h2, h3⟩ | h1
  · exact Or.inl h1
  · exact Or.inr (Or.inl ⟨s, t, h1, h2, by omega⟩)
  · exact Or.inr (Or.inr h1)
structure Kw (X0 X2 : World) (m : Nat) (X : World) : Prop where
  c : ∀ a u, X2.cell? a = some u -> ∃ u', X.cell? a = some u' /\ Sim m u u'
  w : ∀ b, Wz X2 b -> Wz X b
  f : Xf X X0
theorem Kw.rf {X0 X2 : World} (h : Xf X2 X0) : Kw X0 X2 0 X2 := ⟨fun _ u h => ⟨u, h, Or.inl rfl⟩, fun _ h => h, h⟩
theorem Kw.up {X0 X2 X : World} {m m' : Nat} (hm : m <= m') (h : Kw X0 X2 m X) : Kw X0 X2 m' X := ⟨fun a u hc => by obtain ⟨u', h1, h2⟩ := h.c a u hc; exact ⟨u', h1, h2.up hm⟩, h.w, h.f⟩
section
variable {X0 X2 X : World} {m : Nat} {b q : Nat} {u v : Value}
theorem Kw.sl (h : Kw X0 X2 m X) {a : Addr} {p : Option Addr} {l c : Nat} (hc : X2.cell? a = some (.slice p l c)) : X.cell? a = some (.slice p l c) := by
  obtain ⟨u', h1, h2⟩ := h.c _ _ hc
  rcases h2 with rfl | ⟨s, t, h2, _⟩ | ⟨i, j, h2, _⟩
  · exact h1
  · cases h2
  · cases h2
theorem Kw.st (h : Kw X0 X2 m X) {a : Addr} {s : ByteArray} (hc : X2.cell? a = some (.string s)) : ∃ t, X.cell? a = some (.string t) /\ t.size <= s.size + m := by
  obtain ⟨u', h1, h2⟩ := h.c _ _ hc
  rcases h2 with rfl | ⟨s', t, h2, rfl, h3⟩ | ⟨i, j, h2, _⟩
  · exact ⟨_, h1, by omega⟩
  · cases h2; exact ⟨_, h1, h3⟩
  · cases h2
theorem Kw.it (h : Kw X0 X2 m X) {a : Addr} {i : Int} (hc : X2.cell? a = some (.int .i64 i)) : ∃ j, X.cell? a = some (.int .i64 j) := by
  obtain ⟨u', h1, h2⟩ := h.c _ _ hc
  rcases h2 with rfl | ⟨s', t, h2, rfl, _⟩ | ⟨i', j, h2, rfl⟩
  · exact ⟨_, h1⟩
  · cases h2
  · exact ⟨_, h1⟩
theorem cell_put {cs : Array Value} {ty : TypeId} (hb : X.heap[b]? = some (.cells cs ty (0, 0))) (hq : q < cs.size) (a : Addr) (w : Value) (hw : X.cell? a = some w) : (X.setCells b q [v]).cell? a = some (if a.block = b /\ a.off = q then v else w) := by
  have hsp := World.cell?_spot hw
  obtain ⟨c, r, sp⟩ := a
  have hsp : sp = none := hsp
  subst hsp
  by_cases hc : c = b
  · subst hc
    have e1 := set_one (v := v) hb hq
    have hb' : X.heap[c]? = some (.cells cs.toList.toArray ty (0, 0)) := by simpa using hb
    rw [cell_of hb'] at hw
    rw [cell_of e1]
    by_cases hr : r = q
    · subst hr
      have hl : (cs.toList.take r).length = r := by simp; omega
      rw [if_pos ⟨rfl, rfl⟩, List.append_assoc, List.getElem?_append_right (by rw [hl]; exact Nat.le_refl _), hl, Nat.sub_self]
      rfl
    · rw [if_neg (fun h => hr h.2)]
      rcases Nat.lt_or_ge r q with hl | hl
      · rw [List.append_assoc, List.getElem?_append_left (by simp; omega), List.getElem?_take_of_lt hl]; exact hw
      · rw [List.getElem?_append_right (by simp; omega), List.getElem?_drop]
        rw [← hw]; congr 1
        simp; omega
  · rw [if_neg (fun h => hc h.1)]
    unfold World.cell? at hw ⊢
    rw [heap_setCells_other (b := b) (c := c) hc]; exact hw
theorem Kw.put {m' : Nat} (hm : m <= m') (h : Kw X0 X2 m X) (hb : Ho X0 b) (hz : Wz X2 b) (hc : X2.cell? ⟨b, q, none⟩ = some u) (hs : Sim m' u v) : (∃ cs ty, X.heap[b]? = some (.cells cs ty (0, 0)) /\ Obj.cells cs ty (0, 0) ≠ hole X /\ q < cs.size) /\ Kw X0 X2 m' (X.setCells b q [v]) := by
  obtain ⟨cs, ty, h1, h2⟩ := h.w b hz
  obtain ⟨u', h3, _⟩ := h.c _ _ hc
  have h1' : X.heap[b]? = some (.cells cs.toList.toArray ty (0, 0)) := by simpa using h1
  have hq : q < cs.size := by
    rw [cell_of h1'] at h3
    simpa using (List.getElem?_eq_some_iff.1 h3).1
  have hhole : hole (X.setCells b q [v]) = hole X := rfl
  have hnn : ∀ l : List Value, (l.take q ++ [v] ++ l.drop (q + 1)).toArray ≠ #[] := fun l e => by
    have := congrArg Array.size e
    simp at this
  refine ⟨⟨cs, ty, h1, h2, hq⟩, ⟨fun a w hw => ?_, fun c hcz => ?_, ⟨by rw [size_setCells]; exact h.f.1, fun c o ho hne => ?_⟩⟩⟩
  · obtain ⟨w', g1, g2⟩ := h.c _ _ hw
    refine ⟨_, cell_put h1 hq a w' g1, ?_⟩
    split
    · rename_i hab
      have hsp := World.cell?_spot hw
      obtain ⟨c, r, sp⟩ := a
      have hsp : sp = none := hsp
      obtain ⟨rfl, rfl⟩ := hab
      subst hsp
      rw [hc] at hw; cases hw
      exact hs
    · exact g2.up hm
  · obtain ⟨cs', ty', g1, g2⟩ := h.w c hcz
    by_cases hcb : c = b
    · subst hcb
      refine ⟨_, _, set_one h1 hq, fun e => ?_⟩
      rw [hhole] at e
      unfold hole at e
      injection e with e1
      exact hnn _ e1
    · exact ⟨cs', ty', by rw [heap_setCells_other hcb]; exact g1, by rw [hhole]; exact g2⟩
  · have hcb : c ≠ b := fun e => hne (hb o (e ▸ ho))
    obtain ⟨g1, g2⟩ := h.f.2 c o ho hne
    exact ⟨by rw [heap_setCells_other hcb]; exact g1, by rw [hhole]; exact g2⟩
end
abbrev P2 : Value := .pointer (some ⟨2, 0, none⟩)
abbrev P3 : Value := .pointer (some ⟨3, 0, none⟩)
theorem neb_run (a b : Bool) (x y : Operand) (w : World) : (do eqGuard .neq 4 x y (.bool a) (.bool b); binOp .neq 4 (.bool a) (.bool b) : Sem Value).run Tryz.prog w = .ok (.bool (a != b)) w := by
  have g : (eqGuard .neq 4 x y (.bool a) (.bool b)).run Tryz.prog w = .ok () w := by unfold eqGuard; rfl
  rw [Sem.run_bind, g, Result.andThen_ok]
  have e : binOp .neq 4 (.bool a) (.bool b) = (do pure (.bool (!(← Op.equalIn 10000 4 (.bool a) (.bool b))))) := rfl
  rw [e, Sem.run_bind, show (10000 : Nat) = 9999 + 1 from rfl, run_equalIn_bool w 9999 4 a b Tryz.underlying4]; rfl
section
variable {w0 : B0} {X : World} {o : Oper} {fr : FT} {h : HT} {n : Nat} {y z : Operand} {t' : TypeId}
theorem r_neB (a b : Bool) (ho : o.op = .binOp .neq 4 y z t' := by rfl) (hy : evo fr y = .bool a := by rfl) (hz : evo fr z = .bool b := by rfl) : Oa (Am w0 X) Tryz.prog o fr h n ⟨.bool (a != b), h, n, 0, 0⟩ :=
  Oo.to (s_bin0 ho (fun k u hu => by rw [hy] at hu; exact hu.bool_inv) (fun k u hu => by rw [hz] at hu; exact hu.bool_inv) rfl (fun w => neb_run a b y z w))
end
theorem xce_see {X' X : World} (h : Xf X' X) {W : World} (hs : ∀ (b : Nat) (o : Obj), X'.heap[b]? = some o -> o ≠ hole X' -> W.heap[b]? = some o) (b : Nat) (o : Obj) (h1 : X.heap[b]? = some o) (h2 : o ≠ hole X) : W.heap[b]? = some o := by
  obtain ⟨g1, g2⟩ := h.2 b o h1 h2
  exact hs b o g1 g2
theorem LNX.kid {S : Nat -> Prop} {w : World} {d : Nat} {x : Ex} (h : LNX S w d x) {k : Nat} {z : Ex} (hk : x.a[k]? = some z) : Lin Ex.c 17 S w x.p k z := by
  cases d with
  | zero => rw [h.2] at hk; cases hk
  | succ d => exact (h.2 k z hk).1
theorem LNS.kid {S : Nat -> Prop} {w : World} {d e : Nat} {y : Sec} (h : LNS S w d e y) {k : Nat} {z : Sec} (hk : y.secs[k]? = some z) : Lin Sec.c 4 S w y.sp k z := by
  cases e with
  | zero => rw [h.2] at hk; cases hk
  | succ e => exact (h.2 k z hk).1
theorem eqL_get {T : Type} {g : T -> T -> Bool} {l m : List T} (h : eqL g l m = true) {i : Nat} {v : T} (hv : m[i]? = some v) : ∃ u, l[i]? = some u /\ g u v = true := by
  have hl := eqL_len h
  have hi := (List.getElem?_eq_some_iff.1 hv).1
  exact ⟨_, List.getElem?_eq_getElem (by omega), eqL_at h (List.getElem?_eq_getElem (by omega)) hv⟩
theorem seD_parts {d e : Nat} {x y : Dfn} (h : seD d e x y = true) : eqL (seI d) x.r.its y.r.its = true /\ eqL (seP d) x.pags y.pags = true := by
  unfold seD at h
  simp only [Bool.and_eq_true] at h
  refine ⟨?_, h.2.2.2⟩
  have h1 := h.2.1
  cases e <;> (unfold seS at h1; simp only [Bool.and_eq_true] at h1; exact h1.2.2.1)
set_option maxHeartbeats 4000000 in
set_option maxRecDepth 20000 in
theorem law_same (n m k : Nat) (a b : Dfn) (x y : Ex) (X : World) (hA : LD X n n a) (hA2 : LD X m m a) (hB : LD X m m b) (hx : LT X k x) (hy : LT X k y) (hNa : dfN n n a <= 1000000000) (hSm : (∀ z ∈ a.r.its, z.nm.size <= 1048576) /\ ∀ z ∈ a.pags, ∀ s ∈ z.a, s.size <= 1048576)
    (hbeg : ∀ W, (∀ (b : Nat) (o : Obj), X.heap[b]? = some o -> o ≠ hole X -> W.heap[b]? = some o) -> Calls Tryz.prog 10 #[] W fun r W' => r = .returned (.bool true) /\ Mb W W') :
    CtrX Tryz.prog X 5 [a.y, b.y, x.y, y.y] [] 0 0 (fun _ : Unit => litT) (fun _ => []) 0 (fun _ _ _ => True) := by
  refine fn_x0 ⟨fun _ _ _ _ _ _ => trivial, fun _ _ _ _ _ _ => trivial⟩ _ Tryz.func5 rfl rfl rfl rfl (fun w ll tw X' hw0 hX => run_ok (su 1 mo ?_))
  refine rxi 1 (st mo ⟨Dfn, _, _, _, r_cx (tc := fun z => z.y) (loc_FC (locD n n) (seD n n) a) [] (fun _ => []) [] rfl rfl (cd_all n n a X' (hA.mono (xce hX)) hNa) (fitL_cons fv rfl) trivial (fun _ => uv) (fun _ => trivial) (fun _ => rfl), fun c X2 hX2 hc => ?_⟩)
  refine ⟨(⟨205, [(4, P0), (5, P1), (6, P2), (7, P3), (22, c.y)]⟩, [(0, some (a.c.map rel1)), (1, some (b.c.map rel1)), (2, some (x.c.map rel1)), (3, some (y.c.map rel1))], 4), [0, 1, 2, 3], ⟨rfl, ⟨fp, fp, fp, fp, fv, trivial⟩, ⟨flr rfl, flr rfl, flr rfl, flr rfl, trivial⟩, xf, rfl, rfl⟩, rfl, su 2 mo ?_⟩
  have hX02 := S.Xf.tr hX2 hX
  have hsA : seD n n a c = true := hc.e
  have hLc : LD X2 n n c := hc.l.ld
  have hA' : LD X2 n n a := hA.mono (xce hX02)
  have hA2' := hA2.mono (xce hX02)
  have hB' := hB.mono (xce hX02)
  have hx' := hx.mono (xce hX02)
  have hy' := hy.mono (xce hX02)
  refine st mo ?_
  refine ⟨_, fun _ => r_callS (t := litT) rfl rfl Tryz.func10 (fun W M E => hbeg W (xce_see hX02 E)), st mo ?_⟩
  repeat refine st mo ?_
  refine ⟨_, fun _ => r_call (t := litT) rfl rfl Tryz.func17 (fun W M E => hsA ▸ q_sameD n n a c W (hA'.mono E) (hLc.mono E)), st mo ?_⟩
  repeat refine st mo ?_
  refine ⟨_, fun _ => r_call (t := .bool (seD m m a b)) rfl rfl Tryz.func18 (fun W M E => p_sameD m m a b W (hA2'.mono E) (hB'.mono E)), st mo ?_⟩
  repeat refine st mo ?_
  refine ⟨_, fun _ => r_call (t := .bool (seD m m a b)) rfl rfl Tryz.func17 (fun W M E => q_sameD m m a b W (hA2'.mono E) (hB'.mono E)), st mo ?_⟩
  repeat refine st mo ?_
  refine ⟨_, r_neB (seD m m a b) (seD m m a b), fun h => absurd h (by simp), fun _ => ?_⟩
  repeat refine st mo ?_
  refine ⟨_, fun _ => r_call (t := litT) rfl rfl Tryz.func18 (fun W M E => seD_rf n n a ▸ p_sameD n n a a W (hA'.mono E) (hA'.mono E)), st mo ?_⟩
  repeat refine st mo ?_
  refine ⟨_, fun _ => r_call (t := .bool (seE k x y)) rfl rfl Tryz.func19 (fun W M E => p_sameX k x y W (hx'.mono E) (hy'.mono E)), st mo ?_⟩
  repeat refine st mo ?_
  refine ⟨_, fun _ => r_call (t := .bool (seE k x y)) rfl rfl Tryz.func11 (fun W M E => q_sameX k x y W (hx'.mono E) (hy'.mono E)), st mo ?_⟩
  repeat refine st mo ?_
  refine ⟨_, r_neB (seE k x y) (seE k x y), fun h => absurd h (by simp), fun _ => ?_⟩
  repeat refine st mo ?_
  refine ⟨_, fun _ => r_call (t := litT) rfl rfl Tryz.func19 (fun W M E => seE_rf k x ▸ p_sameX k x x W (hx'.mono E) (hx'.mono E)), st mo ?_⟩
  repeat refine st mo ?_
  refine ⟨dk, st mo ?_⟩
  repeat refine st mo ?_
  obtain ⟨s1, n1, e1⟩ := prQ_t n n a
  refine ⟨_, fun _ => r_callS (t := .tuple #[.string s1, .int .i64 n1]) rfl rfl Tryz.func13 (fun W M E => by
    have := q_print n n a W (hA'.mono (see_cell E))
    rw [e1] at this; exact this), st mo ?_⟩
  repeat refine st mo ?_
  have hc5 := hc.l
  obtain ⟨_, hcS, hcTl, _, hcT, hcP⟩ := id hc5
  obtain ⟨hqI, hqP⟩ := seD_parts hsA
  have hN1 : 1 + ptN n n a.r + sm tbN a.tabs + sm (pgN n) a.pags <= 1000000000 := hNa
  have hcN : ∀ (i : Nat) (u : Itm), c.r.its[i]? = some u -> u.nm.size <= 1048576 := fun i u hu => by
    obtain ⟨v, hv, hg⟩ := eqL_get hqI hu
    have hg : seI0 (seE n) v u = true := hg
    unfold seI0 at hg
    rw [Bool.and_eq_true] at hg
    rw [← of_decide_eq_true hg.1]; exact hSm.1 v (List.mem_of_getElem? hv)
  have hcp : ∀ (i : Nat) (u : Pag), c.pags[i]? = some u -> ∃ v ∈ a.pags, eqL stB v.a u.a = true := fun i u hu => by
    obtain ⟨v, hv, hg⟩ := eqL_get hqP hu
    unfold seP at hg
    simp only [Bool.and_eq_true] at hg
    exact ⟨v, List.mem_of_getElem? hv, hg.2.2⟩
  have hcL : ∀ (i : Nat) (u : Pag), c.pags[i]? = some u -> u.a.length <= 1000000000 := fun i u hu => by
    obtain ⟨v, hv, hg⟩ := hcp i u hu
    have h1 := sm_mem (f := pgN n) hv
    have h1 : 1 + nd n v.x + v.a.length <= sm (pgN n) a.pags := h1
    have := eqL_len hg
    omega
  have hcV : ∀ (i : Nat) (u : Pag), c.pags[i]? = some u -> ∀ (k : Nat) (s : ByteArray), u.a[k]? = some s -> s.size <= 1048576 := fun i u hu k s hs => by
    obtain ⟨v, hv, hg⟩ := hcp i u hu
    obtain ⟨s', hs', hg'⟩ := eqL_get hg hs
    rw [← of_decide_eq_true (p := s' = s) hg']; exact hSm.2 v hv s' (List.mem_of_getElem? hs')
  have hcIl : c.r.its.length <= 1000000000 := by
    have h1 := sm_len (f := itN n) (fun z => by show 1 <= 1 + _; omega) a.r.its
    have h2 : sm (itN n) a.r.its <= ptN n n a.r := by
      cases n with
      | zero => exact Nat.le_refl _
      | succ e => exact Nat.le_add_right _ _
    have := eqL_len hqI
    omega
  have hcPl : c.pags.length <= 1000000000 := by
    have h1 := sm_len (f := pgN n) (fun z => by show 1 <= 1 + _ + _; omega) a.pags
    have := eqL_len hqP
    omega
  have hcI : Lal Itm.c 23 (Ho X') X2 c.r.ip c.r.its (LNI (Ho X') X2 n) := by cases n <;> exact hcS.1.1
  have hsl0 : c.r.secs.length <= 9223372036854775806 := by cases n <;> exact hcS.1.2.2.2
  have hil0 : c.r.its.length <= 9223372036854775806 := by cases n <;> exact hcS.1.2.1
  refine w_loop (fun z : Nat × World => ⟨⟨205, [(4, P0), (9, P1), (10, .string s1), (11, .int .i64 n1), (69, .int .i64 (c.r.its.length : Int)), (70, .int .i64 (z.1 : Int))]⟩, [(0, some (a.c.map rel1)), (1, some (c.c.map rel1))], 2, z.2⟩) (fun z => z.1 <= c.r.its.length /\ Kw X' X2 (z.1) z.2) (fun z => c.r.its.length - z.1) (0, X2) ⟨Nat.zero_le _, Kw.rf hX2⟩ [0, 4] ⟨rfl, ⟨fp, fp, fv, fv, fv, fv, trivial⟩, ⟨flr rfl, flr rfl, trivial⟩, xf, rfl, rfl⟩ ?_
  rintro ⟨i, X3⟩ ⟨hi, hK⟩
  have hi : i <= c.r.its.length := hi
  have hK : Kw X' X2 (i) X3 := hK
  repeat refine st mo ?_
  refine ⟨fun hlt => ?_, fun hge => ?_⟩
  rotate_left
  · repeat refine st mo ?_
    have hi' : i = c.r.its.length := by omega
    refine w_loop (fun z : Nat × World => ⟨⟨205, [(4, P0), (9, P1), (10, .string s1), (11, .int .i64 n1), (114, .int .i64 (c.tabs.length : Int)), (115, .int .i64 (z.1 : Int))]⟩, [(0, some (a.c.map rel1)), (1, some (c.c.map rel1))], 2, z.2⟩) (fun z => z.1 <= c.tabs.length /\ Kw X' X2 (c.r.its.length + 0 * z.1) z.2) (fun z => c.tabs.length - z.1) (0, X3) ⟨Nat.zero_le _, hK.up (by omega)⟩ [0, 1] ⟨rfl, ⟨fp, fp, fv, fv, fv, fv, trivial⟩, ⟨flr rfl, flr rfl, trivial⟩, xf, rfl, rfl⟩ ?_
    rintro ⟨i, X3⟩ ⟨hi, hK⟩
    have hi : i <= c.tabs.length := hi
    have hK : Kw X' X2 (c.r.its.length + 0 * i) X3 := hK
    repeat refine st mo ?_
    refine ⟨fun hlt => ?_, fun hge => ?_⟩
    rotate_left
    · repeat refine st mo ?_
      have hi' : i = c.tabs.length := by omega
      refine w_loop (fun z : Nat × World => ⟨⟨205, [(4, P0), (9, P1), (10, .string s1), (11, .int .i64 n1), (148, .int .i64 (c.r.secs.length : Int)), (149, .int .i64 (z.1 : Int))]⟩, [(0, some (a.c.map rel1)), (1, some (c.c.map rel1))], 2, z.2⟩) (fun z => z.1 <= c.r.secs.length /\ Kw X' X2 (c.r.its.length + 0 * z.1) z.2) (fun z => c.r.secs.length - z.1) (0, X3) ⟨Nat.zero_le _, hK.up (by omega)⟩ [0, 1] ⟨rfl, ⟨fp, fp, fv, fv, fv, fv, trivial⟩, ⟨flr rfl, flr rfl, trivial⟩, xf, rfl, rfl⟩ ?_
      rintro ⟨i, X3⟩ ⟨hi, hK⟩
      have hi : i <= c.r.secs.length := hi
      have hK : Kw X' X2 (c.r.its.length + 0 * i) X3 := hK
      repeat refine st mo ?_
      refine ⟨fun hlt => ?_, fun hge => ?_⟩
      rotate_left
      · repeat refine st mo ?_
        have hi' : i = c.r.secs.length := by omega
        refine w_loop (fun z : Nat × World => ⟨⟨205, [(4, P0), (9, P1), (10, .string s1), (11, .int .i64 n1), (165, .int .i64 (c.pags.length : Int)), (166, .int .i64 (z.1 : Int))]⟩, [(0, some (a.c.map rel1)), (1, some (c.c.map rel1))], 2, z.2⟩) (fun z => z.1 <= c.pags.length /\ Kw X' X2 (c.r.its.length + 1000000000 * z.1) z.2) (fun z => c.pags.length - z.1) (0, X3) ⟨Nat.zero_le _, hK.up (by omega)⟩ [0, 1] ⟨rfl, ⟨fp, fp, fv, fv, fv, fv, trivial⟩, ⟨flr rfl, flr rfl, trivial⟩, xf, rfl, rfl⟩ ?_
        rintro ⟨i, X3⟩ ⟨hi, hK⟩
        have hi : i <= c.pags.length := hi
        have hK : Kw X' X2 (c.r.its.length + 1000000000 * i) X3 := hK
        repeat refine st mo ?_
        refine ⟨fun hlt => ?_, fun hge => ?_⟩
        rotate_left
        · repeat refine st mo ?_
          have hi' : i = c.pags.length := by omega
          have hfX := S.Xf.tr hK.f hX
          refine ⟨_, fun _ => r_callS (t := .tuple #[.string s1, .int .i64 n1]) rfl rfl Tryz.func13 (fun W M E => by
            have := q_print n n a W ((hA.mono (xce hfX)).mono (see_cell E))
            rw [e1] at this; exact this), st mo ?_⟩
          repeat refine st mo ?_
          refine ⟨fun _ => ?_, fun h => absurd rfl h⟩
          repeat refine st mo ?_
          refine ⟨fun _ => ?_, fun h => absurd rfl h⟩
          repeat refine st mo ?_
          exact ⟨hK.f, (), [], trivial, fvd, trivial, rfl, rfl⟩
        have hil : i < c.pags.length := by omega
        obtain ⟨u, hu⟩ : ∃ u, c.pags[i]? = some u := ⟨_, List.getElem?_eq_getElem hil⟩
        obtain ⟨⟨b0, o0, _, h4, h5⟩, hui⟩ := hcP i u hu
        have hual := hcL i u hu
        repeat refine st mo ?_
        refine ⟨b0, o0, i, h4, rfl, hil, ?_⟩
        repeat refine st mo ?_
        refine ⟨_, hK.sl (h5 18 _ rfl), st mo ?_⟩
        repeat refine st mo ?_
        refine w_loop (fun z : Nat × World => ⟨⟨205, [(4, P0), (9, P1), (10, .string s1), (11, .int .i64 n1), (165, .int .i64 (c.pags.length : Int)), (166, .int .i64 (i : Int)), (17, .int .i64 (i : Int)), (175, .int .i64 (u.a.length : Int)), (176, .int .i64 (z.1 : Int))]⟩, [(0, some (a.c.map rel1)), (1, some (c.c.map rel1))], 2, z.2⟩) (fun z => z.1 <= u.a.length /\ Kw X' X2 (c.r.its.length + 1000000000 * i + z.1) z.2) (fun z => u.a.length - z.1) (0, X3) ⟨Nat.zero_le _, hK⟩ [0, 1] ⟨rfl, ⟨fp, fp, fv, fv, fv, fv, fv, fv, fv, trivial⟩, ⟨flr rfl, flr rfl, trivial⟩, xf, rfl, rfl⟩ ?_
        rintro ⟨k, X5⟩ ⟨hk, hK5⟩
        have hk : k <= u.a.length := hk
        have hK5 : Kw X' X2 (c.r.its.length + 1000000000 * i + k) X5 := hK5
        repeat refine st mo ?_
        refine ⟨fun hlt => ?_, fun hge => ?_⟩
        rotate_left
        · repeat refine st mo ?_
          refine ⟨_, wz (i + 1) rfl, st mo ?_⟩
          exact ⟨(i + 1, X5), ⟨hil, hK5.up (by show _ <= c.r.its.length + 1000000000 * (i + 1); omega)⟩, by show c.pags.length - (i + 1) < c.pags.length - i; omega, [0, 1], rfl, ⟨fp, fp, fv, fv, fv, fv, trivial⟩, ⟨flr rfl, flr rfl, trivial⟩, xf, rfl, rfl⟩
        have hkl : k < u.a.length := by omega
        obtain ⟨v, hv⟩ : ∃ v, u.a[k]? = some v := ⟨_, List.getElem?_eq_getElem hkl⟩
        obtain ⟨b1, o1, ⟨hS1, hz1⟩, g4, g5⟩ := (hui.2.2.2 k v hv).1
        obtain ⟨t, ht, hts⟩ := hK5.st (g5 0 _ rfl)
        have hun := hcV i u hu k v hv
        have h120 : (⟨#[120]⟩ : ByteArray).size = 1 := rfl
        obtain ⟨⟨cs1, ty1, hcs1⟩, hK6⟩ := hK5.put (m' := c.r.its.length + 1000000000 * i + (k + 1)) (by omega) hS1 hz1 (g5 0 _ rfl) (v := .string (t ++ (⟨#[120]⟩ : ByteArray))) (Or.inr (Or.inl ⟨_, _, rfl, rfl, by rw [ByteArray.size_append]; omega⟩))
        refine su 35 mo ?_
        show Rn _ _ _ _
        refine rst 11 hw0 (st mo ?_)
        repeat refine st mo ?_
        refine ⟨b0, o0, i, h4, rfl, hil, ?_⟩
        repeat refine st mo ?_
        refine ⟨_, hK5.sl (h5 18 _ rfl), st mo ?_⟩
        repeat refine st mo ?_
        refine ⟨b1, o1, k, g4, rfl, hkl, ?_⟩
        repeat refine st mo ?_
        refine ⟨_, ht, st mo ?_⟩
        repeat refine st mo ?_
        refine ⟨.string (t ++ (⟨#[120]⟩ : ByteArray)), fun w => sad t ⟨#[120]⟩ (by omega) w, rfl, ?_⟩
        repeat refine st mo ?_
        refine ⟨b1, o1, k, g4, rfl, hkl, ?_⟩
        repeat refine st mo ?_
        refine ⟨9, .tmp 189, .tmp 188, b1, o1 + k * 1 + 0, .string (t ++ (⟨#[120]⟩ : ByteArray)), cs1, ty1, rfl, rfl, rfl, rfl, ⟨rfl, rfl⟩, hcs1, ?_⟩
        generalize X5.setCells b1 (o1 + k * 1 + 0) [.string (t ++ (⟨#[120]⟩ : ByteArray))] = X6 at hK6 ⊢
        refine st mo ?_
        repeat refine st mo ?_
        refine ⟨_, wz (k + 1) rfl, st mo ?_⟩
        exact ⟨(k + 1, X6), ⟨hkl, hK6⟩, by show u.a.length - (k + 1) < u.a.length - k; omega, [0, 1], rfl, ⟨fp, fp, fv, fv, fv, fv, fv, fv, fv, trivial⟩, ⟨flr rfl, flr rfl, trivial⟩, xf, rfl, rfl⟩
      have hil : i < c.r.secs.length := by omega
      obtain ⟨u, hu⟩ : ∃ u, c.r.secs[i]? = some u := ⟨_, List.getElem?_eq_getElem hil⟩
      obtain ⟨b0, o0, ⟨hS0, hz0⟩, h4, h5⟩ := hcS.kid hu
      obtain ⟨j, hj⟩ := hK.it (h5 1 _ rfl)
      obtain ⟨⟨cs1, ty1, hcs1⟩, hK6⟩ := hK.put (Nat.le_refl _) hS0 hz0 (h5 1 _ rfl) (v := .int .i64 (IntKind.i64.wrap (j + 1))) (Or.inr (Or.inr ⟨_, _, rfl, rfl⟩))
      refine su 27 mo ?_
      show Rn _ _ _ _
      refine rst 10 hw0 (st mo ?_)
      repeat refine st mo ?_
      refine ⟨b0, o0, i, h4, rfl, hil, ?_⟩
      repeat refine st mo ?_
      refine ⟨_, hj, st mo ?_⟩
      repeat refine st mo ?_
      refine ⟨_, rfl, ?_⟩
      repeat refine st mo ?_
      refine ⟨b0, o0, i, h4, rfl, hil, ?_⟩
      repeat refine st mo ?_
      refine ⟨3, .tmp 161, .tmp 159, b0, o0 + i * 4 + 1, .int .i64 (IntKind.i64.wrap (j + 1)), cs1, ty1, rfl, rfl, rfl, rfl, ⟨rfl, rfl⟩, hcs1, ?_⟩
      generalize X3.setCells b0 (o0 + i * 4 + 1) [.int .i64 (IntKind.i64.wrap (j + 1))] = X6 at hK6 ⊢
      refine st mo ?_
      repeat refine st mo ?_
      refine ⟨_, wz (i + 1) rfl, st mo ?_⟩
      exact ⟨(i + 1, X6), ⟨hil, hK6.up (by omega)⟩, by show c.r.secs.length - (i + 1) < c.r.secs.length - i; omega, [0, 1], rfl, ⟨fp, fp, fv, fv, fv, fv, trivial⟩, ⟨flr rfl, flr rfl, trivial⟩, xf, rfl, rfl⟩
    have hil : i < c.tabs.length := by omega
    obtain ⟨u, hu⟩ : ∃ u, c.tabs[i]? = some u := ⟨_, List.getElem?_eq_getElem hil⟩
    obtain ⟨⟨b0, o0, _, h4, h5⟩, hui⟩ := hcT i u hu
    have hual : u.a.length <= 9223372036854775806 := hui.2.1
    repeat refine st mo ?_
    refine ⟨b0, o0, i, h4, rfl, hil, ?_⟩
    repeat refine st mo ?_
    refine ⟨_, hK.sl (h5 1 _ rfl), st mo ?_⟩
    repeat refine st mo ?_
    refine w_loop (fun z : Nat × World => ⟨⟨205, [(4, P0), (9, P1), (10, .string s1), (11, .int .i64 n1), (114, .int .i64 (c.tabs.length : Int)), (115, .int .i64 (i : Int)), (14, .int .i64 (i : Int)), (124, .int .i64 (u.a.length : Int)), (125, .int .i64 (z.1 : Int))]⟩, [(0, some (a.c.map rel1)), (1, some (c.c.map rel1))], 2, z.2⟩) (fun z => z.1 <= u.a.length /\ Kw X' X2 (c.r.its.length + 0 * i) z.2) (fun z => u.a.length - z.1) (0, X3) ⟨Nat.zero_le _, hK⟩ [0, 1] ⟨rfl, ⟨fp, fp, fv, fv, fv, fv, fv, fv, fv, trivial⟩, ⟨flr rfl, flr rfl, trivial⟩, xf, rfl, rfl⟩ ?_
    rintro ⟨k, X5⟩ ⟨hk, hK5⟩
    have hk : k <= u.a.length := hk
    have hK5 : Kw X' X2 (c.r.its.length + 0 * i) X5 := hK5
    repeat refine st mo ?_
    refine ⟨fun hlt => ?_, fun hge => ?_⟩
    rotate_left
    · repeat refine st mo ?_
      refine ⟨_, wz (i + 1) rfl, st mo ?_⟩
      exact ⟨(i + 1, X5), ⟨hil, hK5.up (by omega)⟩, by show c.tabs.length - (i + 1) < c.tabs.length - i; omega, [0, 1], rfl, ⟨fp, fp, fv, fv, fv, fv, trivial⟩, ⟨flr rfl, flr rfl, trivial⟩, xf, rfl, rfl⟩
    have hkl : k < u.a.length := by omega
    obtain ⟨v, hv⟩ : ∃ v, u.a[k]? = some v := ⟨_, List.getElem?_eq_getElem hkl⟩
    obtain ⟨b1, o1, ⟨hS1, hz1⟩, g4, g5⟩ := (hui.2.2 k v hv).1
    obtain ⟨j, hj⟩ := hK5.it (g5 5 _ rfl)
    obtain ⟨⟨cs1, ty1, hcs1⟩, hK6⟩ := hK5.put (Nat.le_refl _) hS1 hz1 (g5 5 _ rfl) (v := .int .i64 (IntKind.i64.wrap (j + 1))) (Or.inr (Or.inr ⟨_, _, rfl, rfl⟩))
    refine su 21 mo ?_
    show Rn _ _ _ _
    refine rst 15 hw0 (st mo ?_)
    repeat refine st mo ?_
    refine ⟨b0, o0, i, h4, rfl, hil, ?_⟩
    repeat refine st mo ?_
    refine ⟨_, hK5.sl (h5 1 _ rfl), st mo ?_⟩
    repeat refine st mo ?_
    refine ⟨b1, o1, k, g4, rfl, hkl, ?_⟩
    repeat refine st mo ?_
    refine ⟨_, hj, st mo ?_⟩
    repeat refine st mo ?_
    refine ⟨_, rfl, ?_⟩
    repeat refine st mo ?_
    refine ⟨b1, o1, k, g4, rfl, hkl, ?_⟩
    repeat refine st mo ?_
    refine ⟨3, .tmp 142, .tmp 139, b1, o1 + k * 18 + 5, .int .i64 (IntKind.i64.wrap (j + 1)), cs1, ty1, rfl, rfl, rfl, rfl, ⟨rfl, rfl⟩, hcs1, ?_⟩
    generalize X5.setCells b1 (o1 + k * 18 + 5) [.int .i64 (IntKind.i64.wrap (j + 1))] = X6 at hK6 ⊢
    refine st mo ?_
    repeat refine st mo ?_
    refine ⟨_, wz (k + 1) rfl, st mo ?_⟩
    exact ⟨(k + 1, X6), ⟨hkl, hK6⟩, by show u.a.length - (k + 1) < u.a.length - k; omega, [0, 1], rfl, ⟨fp, fp, fv, fv, fv, fv, fv, fv, fv, trivial⟩, ⟨flr rfl, flr rfl, trivial⟩, xf, rfl, rfl⟩
  have hil : i < c.r.its.length := by omega
  obtain ⟨u, hu⟩ : ∃ u, c.r.its[i]? = some u := ⟨_, List.getElem?_eq_getElem hil⟩
  obtain ⟨⟨b0, o0, ⟨hS0, hz0⟩, h4, h5⟩, hui⟩ := hcI i u hu
  obtain ⟨t, ht, hts⟩ := hK.st (h5 0 _ rfl)
  have hun := hcN i u hu
  have hual : u.x.a.length <= 9223372036854775806 := hui.1.lt.ok.2.2.2.2
  have h120 : (⟨#[120]⟩ : ByteArray).size = 1 := rfl
  obtain ⟨⟨cs, ty, hcs⟩, hK2⟩ := hK.put (m' := i + 1) (by omega) hS0 hz0 (h5 0 _ rfl) (v := .string (t ++ (⟨#[120]⟩ : ByteArray))) (Or.inr (Or.inl ⟨_, _, rfl, rfl, by rw [ByteArray.size_append]; omega⟩))
  refine su 8 mo ?_
  show Rn _ _ _ _
  refine rst 10 hw0 (st mo ?_)
  repeat refine st mo ?_
  refine ⟨b0, o0, i, h4, rfl, hil, ?_⟩
  repeat refine st mo ?_
  refine ⟨_, ht, st mo ?_⟩
  repeat refine st mo ?_
  refine ⟨.string (t ++ (⟨#[120]⟩ : ByteArray)), fun w => sad t ⟨#[120]⟩ (by omega) w, rfl, ?_⟩
  repeat refine st mo ?_
  refine ⟨b0, o0, i, h4, rfl, hil, ?_⟩
  repeat refine st mo ?_
  refine ⟨9, .tmp 82, .tmp 80, b0, o0 + i * 23 + 0, .string (t ++ (⟨#[120]⟩ : ByteArray)), cs, ty, rfl, rfl, rfl, rfl, ⟨rfl, rfl⟩, hcs, ?_⟩
  generalize X3.setCells b0 (o0 + i * 23 + 0) [.string (t ++ (⟨#[120]⟩ : ByteArray))] = X4 at hK2 ⊢
  refine st mo ?_
  repeat refine st mo ?_
  refine ⟨b0, o0, i, h4, rfl, hil, ?_⟩
  repeat refine st mo ?_
  refine ⟨_, hK2.sl (h5 22 _ rfl), st mo ?_⟩
  repeat refine st mo ?_
  refine w_loop (fun z : Nat × World => ⟨⟨205, [(4, P0), (9, P1), (10, .string s1), (11, .int .i64 n1), (69, .int .i64 (c.r.its.length : Int)), (70, .int .i64 (i : Int)), (12, .int .i64 (i : Int)), (91, .int .i64 (u.x.a.length : Int)), (92, .int .i64 (z.1 : Int))]⟩, [(0, some (a.c.map rel1)), (1, some (c.c.map rel1))], 2, z.2⟩) (fun z => z.1 <= u.x.a.length /\ Kw X' X2 (i + 1) z.2) (fun z => u.x.a.length - z.1) (0, X4) ⟨Nat.zero_le _, hK2⟩ [0, 1] ⟨rfl, ⟨fp, fp, fv, fv, fv, fv, fv, fv, fv, trivial⟩, ⟨flr rfl, flr rfl, trivial⟩, xf, rfl, rfl⟩ ?_
  rintro ⟨k, X5⟩ ⟨hk, hK5⟩
  have hk : k <= u.x.a.length := hk
  have hK5 : Kw X' X2 (i + 1) X5 := hK5
  repeat refine st mo ?_
  refine ⟨fun hlt => ?_, fun hge => ?_⟩
  rotate_left
  · repeat refine st mo ?_
    refine ⟨_, wz (i + 1) rfl, st mo ?_⟩
    exact ⟨(i + 1, X5), ⟨hil, hK5⟩, by show c.r.its.length - (i + 1) < c.r.its.length - i; omega, [0, 1], rfl, ⟨fp, fp, fv, fv, fv, fv, trivial⟩, ⟨flr rfl, flr rfl, trivial⟩, xf, rfl, rfl⟩
  have hkl : k < u.x.a.length := by omega
  obtain ⟨v, hv⟩ : ∃ v, u.x.a[k]? = some v := ⟨_, List.getElem?_eq_getElem hkl⟩
  obtain ⟨b1, o1, ⟨hS1, hz1⟩, g4, g5⟩ := hui.1.kid hv
  obtain ⟨j, hj⟩ := hK5.it (g5 0 _ rfl)
  obtain ⟨⟨cs1, ty1, hcs1⟩, hK6⟩ := hK5.put (Nat.le_refl _) hS1 hz1 (g5 0 _ rfl) (v := .int .i64 (IntKind.i64.wrap (j + 1))) (Or.inr (Or.inr ⟨_, _, rfl, rfl⟩))
  refine su 12 mo ?_
  show Rn _ _ _ _
  refine rst 15 hw0 (st mo ?_)
  repeat refine st mo ?_
  refine ⟨b0, o0, i, h4, rfl, hil, ?_⟩
  repeat refine st mo ?_
  refine ⟨_, hK5.sl (h5 22 _ rfl), st mo ?_⟩
  repeat refine st mo ?_
  refine ⟨b1, o1, k, g4, rfl, hkl, ?_⟩
  repeat refine st mo ?_
  refine ⟨_, hj, st mo ?_⟩
  repeat refine st mo ?_
  refine ⟨_, rfl, ?_⟩
  repeat refine st mo ?_
  refine ⟨b1, o1, k, g4, rfl, hkl, ?_⟩
  repeat refine st mo ?_
  refine ⟨3, .tmp 109, .tmp 107, b1, o1 + k * 17 + 0, .int .i64 (IntKind.i64.wrap (j + 1)), cs1, ty1, rfl, rfl, rfl, rfl, ⟨rfl, rfl⟩, hcs1, ?_⟩
  generalize X5.setCells b1 (o1 + k * 17 + 0) [.int .i64 (IntKind.i64.wrap (j + 1))] = X6 at hK6 ⊢
  refine st mo ?_
  repeat refine st mo ?_
  refine ⟨_, wz (k + 1) rfl, st mo ?_⟩
  exact ⟨(k + 1, X6), ⟨hkl, hK6⟩, by show u.x.a.length - (k + 1) < u.x.a.length - k; omega, [0, 1], rfl, ⟨fp, fp, fv, fv, fv, fv, fv, fv, fv, trivial⟩, ⟨flr rfl, flr rfl, trivial⟩, xf, rfl, rfl⟩
end Go.Proofs.YtpabcmaeaiaknaaGreatDoor
namespace Go.Proofs.YtpabcmaeaiaknaaGreatDoor
open Go.ChangeShapes Go.WideShapes Go.ChangeAt Go.RowKit Go.ChangeMaps
section
open S
theorem LI.le {w : World} {d d' : Nat} (h : d <= d') {p : Option Addr} {l : List Itm} (g : LI w d p l) : LI w d' p l := fun i y hy => ⟨(g i y hy).1, (g i y hy).2.1.le h, (g i y hy).2.2⟩
theorem LS.led {w : World} {d d' : Nat} (h : d <= d') : ∀ {e : Nat} {y : Sec}, LS w d e y -> LS w d' e y
  | 0, _, g => ⟨⟨g.1.1.le h, g.1.2⟩, g.2⟩
  | _ + 1, _, g => ⟨⟨g.1.1.le h, g.1.2⟩, fun i z hz => ⟨(g.2 i z hz).1, LS.led h (g.2 i z hz).2⟩⟩
theorem LD.le {w : World} {d d' e e' : Nat} (h : d <= d') (h' : e <= e') {y : Dfn} (g : LD w d e y) : LD w d' e' y :=
  ⟨g.1, (D.LSle (g.2.1.led h) h').1, g.2.2.1, g.2.2.2.1, g.2.2.2.2.1, fun i z hz => ⟨(g.2.2.2.2.2 i z hz).1, (g.2.2.2.2.2 i z hz).2.1, (g.2.2.2.2.2 i z hz).2.2.1.le h, (g.2.2.2.2.2 i z hz).2.2.2⟩⟩
namespace S
theorem CtrX.plain {Y : Type} {P : Program} {W : World} {f : FuncId} {vs : List Value} {t : Y -> Value} {F : Y -> (Nat -> Prop) -> World -> Prop} (H : ∀ X : World, (∀ b : Nat, X.heap[b]? = W.heap[b]?) -> (∀ (b : Nat) (o : Obj), W.heap[b]? = some o -> o ≠ hole X) -> CtrX P X f vs [] 0 0 t (fun _ => []) 0 F) (hp : vs.all pur2 = true) (ht : ∀ y, pur2 (t y) = true) :
    Calls P f (vs.map den2).toArray W fun e W' => ∃ y, e = .returned (den2 (t y)) /\ Mb W W' := by
  obtain ⟨X, hXs, hXo, _, hXn⟩ := ex_mask W (fun _ => False)
  have hk0 : ∀ W : World, Ky (fun _ => none) [] 0 W := fun W => ⟨⟨fun i hi => absurd (tb_ones.1 hi) (Nat.not_lt_zero _), fun i j hi => absurd (tb_ones.1 hi) (Nat.not_lt_zero _)⟩, fun i _ => by unfold hget; cases Nat.blt i 4096 <;> rfl, fun _ _ => rfl⟩
  have hv : LR (VX fun _ => none) vs (vs.map den2) := LR.mk (p := pur2) (d := den2) (fun _ h => pur2_vx h) hp
  refine (H X (fun b => hXo b id) hXn W (fun _ => none) _ (hk0 W) ⟨fun b o h1 _ => by rw [← hXo b id]; exact h1, fun i b z h => (by cases h), by rw [hXs]; exact Nat.le_refl _⟩ hv).mono ?_
  rintro e W' ⟨y, u, k', rfl, hu, af, _⟩
  exact ⟨y, by rw [pur2_eq hu (ht y)], ⟨⟨af.os, af.tape.1, af.output, af.size, fun b hb => af.frm b hb fun j z _ h => by cases h⟩, af.tape.2⟩⟩
end S
theorem cell_eq {A B : World} (h : ∀ b : Nat, A.heap[b]? = B.heap[b]?) (a : Addr) (u : Value) (hc : A.cell? a = some u) : B.cell? a = some u := by
  unfold World.cell? at hc ⊢; rw [← h]; exact hc
theorem law_same2 (na nb kx ky : Nat) (a b : Dfn) (x y : Ex) (w : World) (hA : LD w na na a) (hB : LD w nb nb b) (hx : LT w kx x) (hy : LT w ky y) (hNa : dfN na na a <= 1000000000) (hSm : (∀ z ∈ a.r.its, z.nm.size <= 1048576) /\ ∀ z ∈ a.pags, ∀ s ∈ z.a, s.size <= 1048576)
    (hbeg : ∀ W, (∀ (b : Nat) (o : Obj), w.heap[b]? = some o -> o ≠ hole w -> W.heap[b]? = some o) -> Calls Tryz.prog 10 #[] W fun r W' => r = .returned (.bool true) /\ Mb W W') : Calls Tryz.prog 5 #[a.w, b.w, x.w, y.w] w fun r W => r = .returned (.bool true) /\ Mb w W := by
  refine (S.CtrX.plain (vs := [a.y, b.y, x.y, y.y]) (t := fun _ : Unit => litT) (F := fun _ _ _ => True) (fun X hX hn => ?_) rfl (fun _ => rfl)).mono (fun e W ⟨_, h1, h2⟩ => ⟨h1, h2⟩)
  have E : ∀ a u, w.cell? a = some u -> X.cell? a = some u := cell_eq fun b => (hX b).symm
  exact law_same na (max na nb) (max kx ky) a b x y X (hA.mono E) ((hA.le (Nat.le_max_left _ _) (Nat.le_max_left _ _)).mono E) ((hB.le (Nat.le_max_right _ _) (Nat.le_max_right _ _)).mono E) ((hx.le (Nat.le_max_left _ _)).mono E) ((hy.le (Nat.le_max_right _ _)).mono E) hNa hSm fun W hs => hbeg W fun b o h1 _ => hs b o (by rw [hX]; exact h1) (hn b o h1)
end
theorem hbeg_same {w : World} (h : laidMetH Tryz.prog Rows.grammarSameUptoRow.laid w) : ∀ W, (∀ (b : Nat) (o : Obj), w.heap[b]? = some o -> o ≠ S.hole w -> W.heap[b]? = some o) -> Calls Tryz.prog 10 #[] W fun r W' => r = .returned (.bool true) /\ S.Mb W W' := by
  have h1 : laidMet Tryz.prog [("unicode/utf8.acceptRanges", Rows.laid_unicode_utf8_acceptRanges), ("excise/grammar.operators", strD opw), ("excise/grammar.policies", strD plw), ("unicode/utf8.first", Rows.laid_unicode_utf8_first)] w := h
  have h3 := laid_tail h1
  obtain ⟨b1, o1, k1⟩ := sb_of (g := 1) (t := 61) opw (by decide) (by kernel_rfl) (by kernel_rfl) Tryz.underlying61 h3
  obtain ⟨b0, o0, k0⟩ := sb_of (g := 0) (t := 61) plw (by decide) (by kernel_rfl) (by kernel_rfl) Tryz.underlying61 (laid_tail h3)
  intro W hs
  exact E.beg_ok (t2_of (k0.see (by decide) hs) (k1.see (by decide) hs))
theorem tys5 : ∀ t ∈ ([45, 45, 31, 31] : List TypeId), Tryz.prog.readableRec t = true /\ t < Tryz.prog.types.size := by
  intro t ht
  simp only [List.mem_cons, List.not_mem_nil, or_false] at ht
  rcases ht with rfl | rfl | rfl | rfl
  · exact tys4 _ (by simp)
  · exact tys4 _ (by simp)
  · exact tys4 _ (by simp)
  · exact tys4 _ (by simp)
set_option maxHeartbeats 1000000 in
set_option maxRecDepth 100000 in
theorem same_owes {H : Type} {enc : TypeId × Value -> H} (F : Stop.Interp) (W : World) (base : Nat) (args : Array Value) (ds gs : List (DataW H)) (before : List MemPlace)
    (hval0 : ∀ (j : Nat) t v, Tryz.f5.params[j]? = some t -> args[j]? = some v -> Value.okWide Tryz.prog W .any base t v)
    (hW : DataW.Whole enc Tryz.prog Tryz.f5.params.toList (Rows.OpenSpec.upto Rows.grammarSameSpec).vars false W args.toList ds gs before) (hk : Rows.uptoSmall H (ds ++ gs) = true) (hX : laidMetH Tryz.prog Rows.grammarSameUptoRow.laid W) :
    Calls Tryz.prog 5 args W fun e W' => ∃ v, e = .returned v /\ ((Rows.OpenSpec.upto Rows.grammarSameSpec).at F).post enc Tryz.prog Tryz.f5 false true false false W args v W' := by
  have hval : ∀ (j : Nat) t v, Tryz.f5.params[j]? = some t -> args[j]? = some v -> Value.okWide Tryz.prog W .any base t v := hval0
  have hW' := hW
  obtain ⟨p, q, hA0, hV, rfl, _, _⟩ := hW
  have hA : DataW.TrodAll enc Tryz.prog W 0 (fun _ => true) true Tryz.f5.params.toList args.toList ds p := hA0
  have hAk := hA
  rw [Tryz.params5] at hA hval
  obtain ⟨v0, v1, v2, v3, d0, d1, d2, d3, p0, p1, p2, p3, rfl, rfl, _, h0, h1, h2, h3⟩ := trodAll_four hA
  obtain ⟨rfl, rfl⟩ := trodVars_none hV
  have hbk : Rows.uptoBulk d0 + Rows.uptoBulk d1 + Rows.uptoBulk d2 + Rows.uptoBulk d3 <= 1048576 := by
    have h := of_decide_eq_true hk
    simp only [List.append_nil, Rows.uptoBulkAll] at h
    omega
  obtain ⟨na, a, hLa, hNa, hSm, rfl⟩ := open_df2 (by omega) (hval 0 45 v0 rfl rfl) h0
  obtain ⟨nb, b, hLb, _, rfl⟩ := open_df (by omega) (hval 1 45 v1 rfl rfl) h1
  obtain ⟨kx, x, hx, _, rfl⟩ := open_ex (by omega) (hval 2 31 v2 rfl rfl) h2
  obtain ⟨ky, y, hy, _, rfl⟩ := open_ex (by omega) (hval 3 31 v3 rfl rfl) h3
  clear hA0 hval0
  refine (law_same2 na nb kx ky a b x y W hLa hLb hx hy (Nat.le_trans hNa (by decide)) hSm (hbeg_same hX)).mono fun e W' ⟨he, hg⟩ => ?_
  subst he
  simp only [List.append_nil] at hW'
  have hlt : ∀ x ∈ p, x.block < W.heap.size := fun x hx => by simpa using hW'.lt x hx
  exact ⟨_, rfl, post_mw (s := (Rows.OpenSpec.upto Rows.grammarSameSpec).at F) hW' (fun _ _ _ => trodAll_mk1 (shut_bool Tryz.underlying4 _)) (fun sp hsp => trodAll_stays (by rw [Tryz.params5]; exact tys5) hAk (fun x hx => hg.toBelow.same (hlt x hx)) hsp) (fun _ => rfl) hg.toBelow⟩
end Go.Proofs.YtpabcmaeaiaknaaGreatDoor
