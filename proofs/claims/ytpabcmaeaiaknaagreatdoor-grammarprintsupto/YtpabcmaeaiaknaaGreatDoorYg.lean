/-
  A region that draws its order comes to what was reckoned in one order. One more comes up; all have come up. Calls whose answers are known. Code, calls: what was reckoned of a closed call is what each run of it does. Regions whose operations may give up or put calls off; what was put off; calls. What was put off is done; calls. A region that draws its order, of which one operation gives up: whatever came up ahead of it only read. Code, calls: what was reckoned of a closed call is what each run of it does. Calls that the model stands in for. Tables in a world; a call over them. Begun of grammar, run by the kernel over the two tables. Begun comes to true, where the tables lie. Begun comes to true in each world that sees one in which the tables are laid. GrammarPrints: what the call owes its row, for arguments of no great bulk where the tables are laid. GrammarPrints: the row.
-/
import Derived.Test.YtpabcmaeaiaknaaGreatDoorYf
import Derived.Scope
import Derived.Recover
import Derived.Laws.Externs
import Derived.Lib.Bytealg
import Derived.KernelRfl
import Derived.Test.YtpabcmaeaiaknaaGreatDoorYe
import Derived.Stop.Joined
import Derived.JoinedOf
import Derived.Deep.DeepWitnessRef
namespace Go.Proofs.YtpabcmaeaiaknaaGreatDoor
namespace E
open Go.CheckFast (force force_eq)
def Cn (N : Nat) (L : Nat -> Prop) (wr : Nat -> Prop) (c : Nat) : Prop := ∀ j, j < N -> wr j -> (L j ↔ j < c)
def wt (ops : Array Oper) (t j : Nat) : Prop := ∃ o, ops[j]? = some o /\ o.dst = some t
structure Dt (P : Program) (ops : Array Oper) (st : Nat -> RL) (r w : Nat -> Nat) (v : Nat -> Value) (i : Nat) (o : Oper) : Prop where
  l : (st (i + 1)).l = (r i, w i) :: (st i).l
  f : (st (i + 1)).f = put (st i).f o.dst (v i)
  mr : ∀ j, tb (st (i + 1)).r j ↔ tb (st i).r j ∨ tb (r i) j
  mw : ∀ j, tb (st (i + 1)).w j ↔ tb (st i).w j ∨ tb (w i) j
  ss : Ss (st i).h (st i).n (st (i + 1)).h (st (i + 1)).n (r i) (w i)
  ok : ∀ (k : K) (W : World) (a : Act) (K' : Act -> World -> Prop) (Q : Exit -> Act -> World -> Prop), GK k /\ (st i).f.m = a.tmps.size -> (∀ y ∈ o.op.operands.toList, VX k (evo (st i).f y) (a.eval y)) -> (∀ j w t, o.guard = some (j, w) -> (ops[j]?).bind (·.dst) = some t -> VX k (fget (st i).f t) (a.tmps.getD t undef)) ->
    HR k (st i).h W (r i) -> (∀ m, (st i).n <= m -> m < (st (i + 1)).n -> k m = none) -> (∀ u W' k', Sd (st i).h (st i).n (st (i + 1)).h (st (i + 1)).n (r i) (w i) k W k' W' -> VX k' (v i) u -> K' (a.put o.dst u) W') ->
    if Region.wanted o (yielded ops a.tmps) = true then o.wp P a W K' Q else K' (a.put o.dst undef) W
structure Iv (ops : Array Oper) (st : Nat -> RL) (w : Nat -> Nat) (RR WW : Nat -> Prop) (k0 : K) (W0 : World) (listed : Array Bool) (a : Act) (W : World) (k : K) : Prop where
  sh : ∀ j o, ops[j]? = some o -> listed.getD j false = true -> ∀ e ∈ o.after, Region.binds .any e = true -> listed.getD e.on false = true
  m : (st 0).f.m = a.tmps.size
  df : DR k (st 0).f.d a.defers
  gl : GK k
  fr : ∀ t c, c <= ops.size -> Cn ops.size (fun j => listed.getD j false = true) (wt ops t) c -> VX k (fget (st c).f t) (a.tmps.getD t undef)
  hp : ∀ i c, c <= ops.size -> RR i -> Cn ops.size (fun j => listed.getD j false = true) (fun j => tb (w j) i) c -> Rp k (st c).h W i
  inj : ∀ i i' c c', c <= ops.size -> c' <= ops.size -> RR i -> RR i' -> Cn ops.size (fun j => listed.getD j false = true) (fun j => tb (w j) i) c -> Cn ops.size (fun j => listed.getD j false = true) (fun j => tb (w j) i') c' ->
    live (st c).h i -> live (st c').h i' -> i ≠ i' -> (isTab i = false ∨ isTab i' = false) -> ∀ b z b' z', k i = some (b, z) -> k i' = some (b', z') -> b ≠ b'
  ext : ∀ i p, k0 i = some p -> k i = some p
  dom : ∀ i, i < (st 0).n ∨ (st ops.size).n <= i -> k i = k0 i
  new : ∀ j, j < ops.size -> ¬ listed.getD j false = true -> ∀ i, (st j).n <= i -> i < (st (j + 1)).n -> k i = none
  frm : ∀ b, b < W0.heap.size -> (∀ j z, WW j -> live (st 0).h j -> k0 j ≠ some (b, z)) -> W.heap[b]? = W0.heap[b]?
  fresh : ∀ i c b z, c <= ops.size -> RR i -> Cn ops.size (fun j => listed.getD j false = true) (fun j => tb (w j) i) c -> (st 0).n <= i -> i < (st ops.size).n -> live (st c).h i -> k i = some (b, z) ->
    W0.heap.size <= b ∨ ∃ j z', WW j /\ j < (st 0).n /\ live (st 0).h j /\ (∀ c', c' <= ops.size -> Cn ops.size (fun j => listed.getD j false = true) (fun i => tb (w i) j) c' -> ¬ live (st c').h j) /\ k0 j = some (b, z')
  size : W0.heap.size <= W.heap.size
  os : W.os = W0.os
  tape : Tp W W0
  output : W.output = W0.output
  fz : ∀ x, W.frozen? x = W0.frozen? x
section
variable {P : Program} {ops : Array Oper} {st : Nat -> RL} {r w : Nat -> Nat} {v : Nat -> Value}
theorem op_at {i : Nat} (hi : i < ops.size) : ops[i]? = some ops[i] := by simp [hi]
theorem st_n (D : ∀ i o, ops[i]? = some o -> Dt P ops st r w v i o) : ∀ {i j : Nat}, i <= j -> j <= ops.size -> (st i).n <= (st j).n := by
  intro i j hij
  induction hij with
  | refl => intro _; exact Nat.le_refl _
  | step h ih => intro hj; exact Nat.le_trans (ih (by omega)) (D _ _ (op_at (by omega))).ss.le
theorem st_nn (D : ∀ i o, ops[i]? = some o -> Dt P ops st r w v i o) (nn : ∀ i, (st 0).n <= i -> hget (st 0).h i = none) : ∀ j, j <= ops.size -> ∀ i, (st j).n <= i -> hget (st j).h i = none := by
  intro j
  induction j with
  | zero => intro _; exact nn
  | succ j ih => intro hj; exact (D j _ (op_at (by omega))).ss.nn (ih (by omega))
theorem st_h (D : ∀ i o, ops[i]? = some o -> Dt P ops st r w v i o) {m : Nat} : ∀ {c d : Nat}, c <= d -> d <= ops.size -> (∀ j, c <= j -> j < d -> ¬ tb (w j) m) -> hget (st d).h m = hget (st c).h m := by
  intro c d hcd
  induction hcd with
  | refl => intro _ _; rfl
  | @step d h ih =>
    intro hd hj
    rw [(D d _ (op_at (by omega))).ss.same m (hj d h (by omega))]
    exact ih (by omega) (fun j h1 h2 => hj j h1 (by omega))
theorem st_m (D : ∀ i o, ops[i]? = some o -> Dt P ops st r w v i o) : ∀ c, c <= ops.size -> (st c).f.m = (st 0).f.m := by
  intro c
  induction c with
  | zero => intro _; rfl
  | succ c ih => intro hc; rw [(D c _ (op_at (by omega))).f, put_m]; exact ih (by omega)
theorem st_d (D : ∀ i o, ops[i]? = some o -> Dt P ops st r w v i o) : ∀ c, c <= ops.size -> (st c).f.d = (st 0).f.d := by
  intro c
  induction c with
  | zero => intro _; rfl
  | succ c ih => intro hc; rw [(D c _ (op_at (by omega))).f, put_d]; exact ih (by omega)
theorem st_f (D : ∀ i o, ops[i]? = some o -> Dt P ops st r w v i o) (hle : (st 0).f.m <= 256) {t : Nat} : ∀ {c d : Nat}, c <= d -> d <= ops.size -> (∀ j, c <= j -> j < d -> ¬ wt ops t j) -> fget (st d).f t = fget (st c).f t := by
  intro c d hcd
  induction hcd with
  | refl => intro _ _; rfl
  | @step d h ih =>
    intro hd hj
    have ho := op_at (ops := ops) (i := d) (by omega)
    have hn := hj d h (by omega)
    rw [(D d _ ho).f]
    have : fget (put (st d).f ops[d].dst (v d)) t = fget (st d).f t := by
      cases e : ops[d].dst with
      | none => rfl
      | some s => exact fget_ne _ (by rw [st_m D d (by omega)]; exact hle) (fun e' => hn ⟨_, ho, by rw [e, e']⟩)
    rw [this]
    exact ih (by omega) (fun j h1 h2 => hj j h1 (by omega))
theorem st_back (D : ∀ i o, ops[i]? = some o -> Dt P ops st r w v i o) {m : Nat} (hm : m < (st 0).n) : ∀ c, c <= ops.size -> live (st c).h m -> live (st 0).h m := by
  intro c
  induction c with
  | zero => intro _ h; exact h
  | succ c ih => intro hc h; exact ih (by omega) ((D c _ (op_at (by omega))).ss.back m (Nat.lt_of_lt_of_le hm (st_n D (Nat.zero_le c) (by omega))) h)
theorem Cn.same {N i c : Nat} {L L' : Nat -> Prop} {wr : Nat -> Prop} (hL : ∀ j, j ≠ i -> (L' j ↔ L j)) (hi : ¬ wr i) (h : Cn N L' wr c) : Cn N L wr c := fun j hj hw => by
  rw [← hL j (fun e => hi (e ▸ hw))]; exact h j hj hw
theorem put_other {a : Act} {d : Option Tmp} {u : Value} {t : Nat} (h : d ≠ some t) : (a.put d u).tmps.getD t undef = a.tmps.getD t undef := by
  cases d with
  | none => rfl
  | some s => simp only [Act.put, Array.getD_eq_getD_getElem?, Array.getElem?_setIfInBounds_ne (fun e => h (by rw [e]) : s ≠ t)]
theorem wt_tb {o : Oper} {j t : Nat} (ho : ops[j]? = some o) : wt ops t j ↔ tb (setT o) t := by
  constructor
  · rintro ⟨o', h1, h2⟩
    rw [ho] at h1; cases h1
    unfold setT; rw [h2]; exact tb_bit.2 rfl
  · intro h
    unfold setT at h
    split at h
    · rename_i s hs; exact ⟨o, ho, by rw [hs, tb_bit.1 h]⟩
    · exact absurd h tb_zero
theorem look_op {o : Oper} {t : Nat} (h : .tmp t ∈ o.op.operands.toList) : tb (lookT ops o) t := by
  unfold lookT
  refine tb_or.2 (Or.inl ?_)
  have : ∀ (l : List Operand) (s : Nat), (tb s t ∨ .tmp t ∈ l) -> tb (l.foldl (fun m x => Nat.lor m (tmpOf x)) s) t := by
    intro l
    induction l with
    | nil => intro s h; rcases h with h | h
             · exact h
             · cases h
    | cons x l ih =>
      intro s h
      rw [List.foldl_cons]
      refine ih _ ?_
      rcases h with h | h
      · exact Or.inl (tb_or.2 (Or.inl h))
      · rcases List.mem_cons.1 h with h | h
        · subst h; exact Or.inl (tb_or.2 (Or.inr (tb_bit.2 rfl)))
        · exact Or.inr h
  exact this _ 0 (Or.inr h)
theorem look_guard {o : Oper} {t j : Nat} {b : Bool} (hg : o.guard = some (j, b)) (h : (ops[j]?).bind (·.dst) = some t) : tb (lookT ops o) t := by
  unfold lookT
  refine tb_or.2 (Or.inr ?_)
  rw [hg]
  simp only [h]
  exact tb_bit.2 rfl
theorem dl_ops (ops : Array Oper) (g : Oper -> Nat × Nat) (d : Oper) : ops.toList.reverse.map g = dl (fun i => g (ops.getD i d)) ops.size := by
  have : ∀ (n : Nat), n <= ops.size -> ((ops.toList.take n).reverse.map g) = dl (fun i => g (ops.getD i d)) n := by
    intro n
    induction n with
    | zero => intro _; rfl
    | succ n ih =>
      intro hn
      have h1 : ops.toList.take (n + 1) = ops.toList.take n ++ [ops.getD n d] := by
        rw [List.take_add_one]
        have : ops.toList[n]? = some (ops.getD n d) := by
          have hlt : n < ops.size := by omega
          simp [hlt]
        rw [this]; rfl
      rw [h1, List.reverse_append, List.reverse_singleton, List.map_append, ih (by omega)]
      rfl
  have h := this ops.size (Nat.le_refl _)
  rw [List.take_of_length_le (by simp)] at h
  exact h
end
end E
end Go.Proofs.YtpabcmaeaiaknaaGreatDoor
namespace Go.Proofs.YtpabcmaeaiaknaaGreatDoor
namespace E
open Go.CheckFast (force force_eq)
section
variable {P : Program} {ops : Array Oper} {st : Nat -> RL} {r w : Nat -> Nat} {v : Nat -> Value} {RR WW : Nat -> Prop} {k0 : K} {W0 : World}
theorem Iv.step (D : ∀ i o, ops[i]? = some o -> Dt P ops st r w v i o) (nn : ∀ i, (st 0).n <= i -> hget (st 0).h i = none) (hle : (st 0).f.m <= 256)
    (hdh : drawn (bef ops) ops.size (dl (fun i => (r i, w i)) ops.size) = true) (hdt : drawn (bef ops) ops.size (dl (fun i => (lookT ops (ops.getD i default), setT (ops.getD i default))) ops.size) = true)
    (hRr : ∀ j, j < ops.size -> ∀ i, tb (r j) i -> RR i) (hRw : ∀ j, j < ops.size -> ∀ i, tb (w j) i -> RR i) (hWw : ∀ j, j < ops.size -> ∀ i, tb (w j) i -> WW i)
    {listed : Array Bool} {a : Act} {W : World} {k : K} (I : Iv ops st w RR WW k0 W0 listed a W k) (hsz : listed.size = ops.size) {i : Nat} {o : Oper} (ho : ops[i]? = some o) (hu : listed.getD i true = false)
    (hall : ∀ e ∈ o.after, Region.binds .any e = true -> listed.getD e.on false = true) (Q : Exit -> Act -> World -> Prop) (K' : Act -> World -> Prop)
    (hK : ∀ a' W' k', Iv ops st w RR WW k0 W0 (listed.setIfInBounds i true) a' W' k' -> K' a' W') :
    if Region.wanted o (yielded ops a.tmps) = true then o.wp P a W K' Q else K' (a.put o.dst undef) W := by
  have hi := (Array.getElem?_eq_some_iff.1 ho).1
  have hil : i < listed.size := by omega
  have hu' : ¬ listed.getD i false = true := by simp [hil] at hu ⊢; exact hu
  have hgd : ops.getD i default = o := by simp [hi] at ho ⊢; exact ho
  have hL : ∀ j, j ≠ i -> ((listed.setIfInBounds i true).getD j false = true ↔ listed.getD j false = true) := fun j hj => by rw [getD_set_ne false (Ne.symm hj)]
  have hLi : (listed.setIfInBounds i true).getD i false = true := by simp [hil]
  have nni := st_nn D nn
  have d := D i o ho
  -- cuts at the operation itself
  have ch : ∀ m, (tb (r i) m ∨ tb (w i) m) -> Cn ops.size (fun j => listed.getD j false = true) (fun j => tb (w j) m) i := fun m hm j hj hw => order hdh I.sh ho hu' hall (m := m) hm j hj hw
  have ct : ∀ t, (tb (lookT ops o) t ∨ wt ops t i) -> Cn ops.size (fun j => listed.getD j false = true) (wt ops t) i := fun t ht j hj hw => by
    refine order hdt I.sh ho hu' hall (m := t) ?_ j hj ?_
    · rw [hgd]; exact ht.imp id (wt_tb ho).1
    · have : ops.getD j default = ops[j] := by simp [hj]
      rw [this]; exact (wt_tb (op_at hj)).1 hw
  -- a place that the operation writes, at a cut behind it
  have wcut : ∀ (wr : Nat -> Prop) c, wr i -> Cn ops.size (fun j => listed.getD j false = true) wr i -> Cn ops.size (fun j => (listed.setIfInBounds i true).getD j false = true) wr c -> i < c /\ ∀ j, i + 1 <= j -> j < c -> j < ops.size -> ¬ wr j := by
    intro wr c hwi h1 h2
    refine ⟨(h2 i hi hwi).1 hLi, fun j hj hjc hjs hw => ?_⟩
    have h3 : (listed.setIfInBounds i true).getD j false = true := (h2 j hjs hw).2 hjc
    rw [hL j (by omega)] at h3
    have := (h1 j hjs hw).1 h3
    omega
  have hsame : ∀ m c, c <= ops.size -> tb (w i) m -> Cn ops.size (fun j => (listed.setIfInBounds i true).getD j false = true) (fun j => tb (w j) m) c -> hget (st c).h m = hget (st (i + 1)).h m := fun m c hc hm h => by
    obtain ⟨h1, h2⟩ := wcut (fun j => tb (w j) m) c hm (ch m (Or.inr hm)) h
    exact st_h D h1 hc (fun j a b => h2 j a b (by omega))
  have hold : ∀ m c, ¬ tb (w i) m -> Cn ops.size (fun j => (listed.setIfInBounds i true).getD j false = true) (fun j => tb (w j) m) c -> Cn ops.size (fun j => listed.getD j false = true) (fun j => tb (w j) m) c := fun m c hm h => Cn.same hL hm h
  refine d.ok k W a K' Q ⟨I.gl, by rw [st_m D i (by omega)]; exact I.m⟩ (fun y hy => ev_of y (fun t ht => ?_) I.gl) (fun j b t hg ht => ?_) ⟨fun m hm => ?_, fun m m' hm hm' => ?_⟩ (fun m h1 h2 => I.new i hi hu' m h1 h2) (fun u W' k' hd hv => hK _ _ k' ?_)
  · subst ht; exact I.fr t i (by omega) (ct t (Or.inl (look_op hy)))
  · exact I.fr t i (by omega) (ct t (Or.inl (look_guard hg ht)))
  · exact I.hp m i (by omega) (hRr i hi m hm) (ch m (Or.inl hm))
  · exact I.inj m m' i i (by omega) (by omega) (hRr i hi m hm) (hRr i hi m' hm') (ch m (Or.inl hm)) (ch m' (Or.inl hm'))
  -- what lived there and was not written
  have hkk : ∀ m c, c <= ops.size -> RR m -> ¬ tb (w i) m -> Cn ops.size (fun j => listed.getD j false = true) (fun j => tb (w j) m) c -> live (st c).h m -> ∀ b z, k' m = some (b, z) -> k m = some (b, z) /\ b < W.heap.size := fun m c hc hR hm h hl b z hk => by
    obtain ⟨b', z', e1, e2⟩ := (I.hp m c hc hR h).lt hl
    have := hd.ext m _ e1
    rw [hk] at this; cases this
    exact ⟨e1, e2⟩
  have hlo : ∀ m, live (st i).h m -> m < (st i).n := fun m hl => by
    rcases Nat.lt_or_ge m (st i).n with h' | h'
    · exact h'
    · exact absurd hl (not_live (nni i (by omega) m h'))
  have hlo1 : ∀ m, live (st (i + 1)).h m -> m < (st (i + 1)).n := fun m hl => by
    rcases Nat.lt_or_ge m (st (i + 1)).n with h' | h'
    · exact h'
    · exact absurd hl (not_live (nni (i + 1) (by omega) m h'))
  have hmix : ∀ m m' c c', c <= ops.size -> c' <= ops.size -> RR m -> RR m' -> ¬ tb (w i) m -> tb (w i) m' -> Cn ops.size (fun j => (listed.setIfInBounds i true).getD j false = true) (fun j => tb (w j) m) c -> Cn ops.size (fun j => (listed.setIfInBounds i true).getD j false = true) (fun j => tb (w j) m') c' ->
      live (st c).h m -> live (st c').h m' -> m ≠ m' -> (isTab m = false ∨ isTab m' = false) -> ∀ b z b' z', k' m = some (b, z) -> k' m' = some (b', z') -> b ≠ b' := by
    intro m m' c c' hc hc' hR hR' hm hm' h h' hl hl' hne hta b z b' z' ek ek'
    have h0 := hold m c hm h
    obtain ⟨km, hb⟩ := hkk m c hc hR hm h0 hl b z ek
    have hl1 : live (st (i + 1)).h m' := by obtain ⟨cs, e⟩ := hl'; exact ⟨cs, by rw [← hsame m' c' hc' hm' h']; exact e⟩
    rcases Nat.lt_or_ge m' (st i).n with hn | hn
    · have hl0 := d.ss.back m' hn hl1
      rw [hd.dom m' (Or.inl hn)] at ek'
      exact I.inj m m' c i hc (by omega) hR hR' h0 (ch m' (Or.inr hm')) hl hl0 hne hta b z b' z' km ek'
    · rcases hd.fresh m' b' z' hn (hlo1 m' hl1) hl1 ek' with hB | ⟨j, zj, j1, j2, j3, _, j5⟩
      · omega
      · exact I.inj m j c i hc (by omega) hR (hRw i hi j j1) h0 (ch j (Or.inr j1)) hl j3 (fun e => hm (e ▸ j1)) (Or.inr (d.ss.nt j j1)) b z b' zj km j5
  -- what was let go stays so
  have hdead : ∀ j, j < (st 0).n -> (∀ c', c' <= ops.size -> Cn ops.size (fun j => listed.getD j false = true) (fun i => tb (w i) j) c' -> ¬ live (st c').h j) -> ∀ c', c' <= ops.size -> Cn ops.size (fun j => (listed.setIfInBounds i true).getD j false = true) (fun i => tb (w i) j) c' -> ¬ live (st c').h j := by
    intro j hj h c' hc' hcn hl
    by_cases hw : tb (w i) j
    · have hl1 : live (st (i + 1)).h j := by obtain ⟨cs, e⟩ := hl; exact ⟨cs, by rw [← hsame j c' hc' hw hcn]; exact e⟩
      exact h i (by omega) (ch j (Or.inr hw)) (d.ss.back j (Nat.lt_of_lt_of_le hj (st_n D (Nat.zero_le i) (by omega))) hl1)
    · exact h c' hc' (hold j c' hw hcn) hl
  have hfresh : ∀ m b z, (st 0).n <= m -> m < (st i).n -> (tb (r i) m ∨ tb (w i) m) -> live (st i).h m -> k m = some (b, z) -> W0.heap.size <= b ∨ ∃ j z', WW j /\ j < (st 0).n /\ live (st 0).h j /\ (∀ c', c' <= ops.size -> Cn ops.size (fun j => (listed.setIfInBounds i true).getD j false = true) (fun i => tb (w i) j) c' -> ¬ live (st c').h j) /\ k0 j = some (b, z') := by
    intro m b z h1 h2 h3 h4 h5
    rcases I.fresh m i b z (by omega) (h3.elim (hRr i hi m) (hRw i hi m)) (ch m h3) h1 (Nat.lt_of_lt_of_le h2 (st_n D (by omega) (Nat.le_refl _))) h4 h5 with h | ⟨j, z', a1, a2, a3, a4, a5⟩
    · exact Or.inl h
    · exact Or.inr ⟨j, z', a1, a2, a3, hdead j a2 a4, a5⟩
  refine ⟨?_, ?_, ?_, ?_, ?_, ?_, ?_, fun m p hp => hd.ext m p (I.ext m p hp), ?_, ?_, ?_, ?_, Nat.le_trans I.size hd.size, hd.os.trans I.os, hd.tape.trans I.tape, hd.output.trans I.output, fun x => (hd.fz x).trans (I.fz x)⟩
  · intro j oj hoj hlj e he hb
    by_cases hji : j = i
    · subst hji
      rw [ho] at hoj; cases hoj
      exact getD_set_true (hall e he hb)
    · rw [hL j hji] at hlj
      exact getD_set_true (I.sh j oj hoj hlj e he hb)
  · rw [put_sz]; exact I.m
  · rw [put_df]; exact I.df.mono hd.ext
  · exact I.gl.mono hd.ext
  · intro t c hc hcn
    by_cases hw : wt ops t i
    · obtain ⟨h1, h2⟩ := wcut (wt ops t) c hw (ct t (Or.inr hw)) hcn
      rw [st_f D hle h1 hc (fun j a b => h2 j a b (by omega)), d.f]
      exact put_get (by rw [st_m D i (by omega)]; exact I.m) (by rw [st_m D i (by omega)]; exact hle) hv t ((I.fr t i (by omega) (ct t (Or.inr hw))).mono hd.ext)
    · rw [put_other (fun e => hw ⟨o, ho, e⟩)]
      exact (I.fr t c hc (Cn.same hL hw hcn)).mono hd.ext
  · intro m c hc hR hcn
    by_cases hw : tb (w i) m
    · intro cs hcs
      rw [hsame m c hc hw hcn] at hcs
      exact hd.rep.rep m (tb_or.2 (Or.inr hw)) cs hcs
    · intro cs hcs
      have h0 := hold m c hw hcn
      refine (I.hp m c hc hR h0 cs hcs).mono (hd.ext m) (fun b z e1 hb => ?_) (fun us => LX.mono hd.ext) rfl (fun _ => hd.ext _)
      refine hd.frm b hb (fun j z hj hl hk => ?_)
      exact I.inj m j c i hc (by omega) hR (hRw i hi j hj) h0 (ch j (Or.inr hj)) ⟨cs, hcs⟩ hl (fun e => hw (e ▸ hj)) (Or.inr (d.ss.nt j hj)) _ _ _ _ e1 hk rfl
  · intro m m' c c' hc hc' hR hR' hcn hcn' hl hl' hne hta b z b' z' ek ek'
    by_cases hw : tb (w i) m <;> by_cases hw' : tb (w i) m'
    · have e1 := hsame m c hc hw hcn
      have e2 := hsame m' c' hc' hw' hcn'
      obtain ⟨cs, e⟩ := hl
      obtain ⟨cs', e'⟩ := hl'
      exact hd.rep.inj m m' (tb_or.2 (Or.inr hw)) (tb_or.2 (Or.inr hw')) ⟨cs, by rw [← e1]; exact e⟩ ⟨cs', by rw [← e2]; exact e'⟩ hne hta b z b' z' ek ek'
    · exact fun e => hmix m' m c' c hc' hc hR' hR hw' hw hcn' hcn hl' hl (Ne.symm hne) hta.symm b' z' b z ek' ek e.symm
    · exact hmix m m' c c' hc hc' hR hR' hw hw' hcn hcn' hl hl' hne hta b z b' z' ek ek'
    · have h0 := hold m c hw hcn
      have h0' := hold m' c' hw' hcn'
      exact I.inj m m' c c' hc hc' hR hR' h0 h0' hl hl' hne hta b z b' z' (hkk m c hc hR hw h0 hl b z ek).1 (hkk m' c' hc' hR' hw' h0' hl' b' z' ek').1
  · intro m hm
    have h1 := st_n D (Nat.zero_le i) (by omega)
    have h2 := st_n D (show i + 1 <= ops.size by omega) (Nat.le_refl _)
    rw [hd.dom m (by omega)]
    exact I.dom m hm
  · intro j hj hnl m h1 h2
    by_cases hji : j = i
    · subst hji; exact absurd hLi hnl
    · rw [hL j hji] at hnl
      have : k' m = k m := by
        rcases Nat.lt_or_ge j i with h | h
        · exact hd.dom m (Or.inl (Nat.lt_of_lt_of_le h2 (st_n D h (by omega))))
        · exact hd.dom m (Or.inr (Nat.le_trans (st_n D (show i + 1 <= j by omega) (by omega)) h1))
      rw [this]
      exact I.new j hj hnl m h1 h2
  · intro b hb hj
    rw [hd.frm b (Nat.lt_of_lt_of_le hb I.size) (fun j z hw hl hk => ?_)]
    · exact I.frm b hb hj
    · rcases Nat.lt_or_ge j (st 0).n with hjn | hjn
      · have hin := st_n D (Nat.zero_le i) (by omega)
        exact hj j z (hWw i hi j hw) (st_back D hjn i (by omega) hl) (by rw [← I.dom j (Or.inl hjn)]; exact hk)
      · rcases hfresh j b z hjn (hlo j hl) (Or.inr hw) hl hk with h' | ⟨j0, z0, a1, a2, a3, _, a5⟩
        · omega
        · exact hj j0 z0 a1 a3 a5
  · intro m c b z hc hR hcn hm1 hm2 hl hk
    by_cases hw : tb (w i) m
    · have hl1 : live (st (i + 1)).h m := by obtain ⟨cs, e⟩ := hl; exact ⟨cs, by rw [← hsame m c hc hw hcn]; exact e⟩
      rcases Nat.lt_or_ge m (st i).n with hn | hn
      · rw [hd.dom m (Or.inl hn)] at hk
        exact hfresh m b z hm1 hn (Or.inr hw) (d.ss.back m hn hl1) hk
      · rcases hd.fresh m b z hn (hlo1 m hl1) hl1 hk with hB | ⟨j, zj, j1, j2, j3, j4, j5⟩
        · exact Or.inl (Nat.le_trans I.size hB)
        · rcases Nat.lt_or_ge j (st 0).n with hjn | hjn
          · refine Or.inr ⟨j, zj, hWw i hi j j1, hjn, st_back D hjn i (by omega) j3, fun c' hc' hcn' hl' => ?_, by rw [← I.dom j (Or.inl hjn)]; exact j5⟩
            obtain ⟨cs, e⟩ := hl'
            exact j4 ⟨cs, by rw [← hsame j c' hc' j1 hcn']; exact e⟩
          · exact hfresh j b zj hjn j2 (Or.inr j1) j3 j5
    · have h0 := hold m c hw hcn
      rcases I.fresh m c b z hc hR h0 hm1 hm2 hl (hkk m c hc hR hw h0 hl b z hk).1 with h | ⟨j, z', a1, a2, a3, a4, a5⟩
      · exact Or.inl h
      · exact Or.inr ⟨j, z', a1, a2, a3, hdead j a2 a4, a5⟩
theorem draw_ok {cf : Nat -> List Value -> HT -> Nat -> Option R5} (hcf : Cs P cf) (hmo : P.follows .mixedOrders = true) {s s' : RL} (nn : ∀ i, s.n <= i -> hget s.h i = none) (hl : s.l = []) (hr0 : s.r = 0) (hw0 : s.w = 0)
    (e : opsL P cf ops ops.toList s = some s') (hdk : drawOk ops = true) (hdr : drawn (bef ops) ops.size s'.l = true) :
    Ss s.h s.n s'.h s'.n s'.r s'.w ∧
      ∀ (k : K) (W : World) (a : Act) (Q : Exit -> Act -> World -> Prop) (id : Nat), FR k s.f a -> HR k s.h W s'.r -> (∀ i, s.n <= i -> i < s'.n -> k i = none) -> (∀ k' W' a', Sd s.h s.n s'.h s'.n s'.r s'.w k W k' W' -> FR k' s'.f a' -> Q .normal a' W') -> (Code.region id ops true).wp P Q a W := by
  obtain ⟨r1, w1, h1, h2, ss, _⟩ := list_ok hcf _ _ _ nn e
  have ss' : Ss s.h s.n s'.h s'.n s'.r s'.w := ss.congr (fun i => by rw [h1, hr0]; exact ⟨Or.inr, fun h => h.resolve_left tb_zero⟩) (fun i => by rw [h2, hw0]; exact ⟨Or.inr, fun h => h.resolve_left tb_zero⟩)
  refine ⟨ss', ?_⟩
  obtain ⟨st, e0, eN, hst⟩ := opsL_states _ _ _ e
  rw [show ops.toList.length = ops.size by simp] at eN
  -- what each operation does
  have nnst : ∀ i, i <= ops.size -> ∀ m, (st i).n <= m -> hget (st i).h m = none := by
    intro i
    induction i with
    | zero => intro _; rw [e0]; exact nn
    | succ i ih =>
      intro hi
      obtain ⟨_, _, _, _, _, _, _, hs, _⟩ := step_ok hcf (ih (by omega)) (hst i ops[i] (by rw [Array.getElem?_toList]; exact op_at (by omega)))
      exact hs.nn (ih (by omega))
  have ex : ∀ i, ∃ q : Nat × Nat × Value, ∀ o, ops[i]? = some o -> Dt P ops st (fun _ => q.1) (fun _ => q.2.1) (fun _ => q.2.2) i o := by
    intro i
    cases ho : ops[i]? with
    | none => exact ⟨(0, 0, undef), fun o h => by cases h⟩
    | some o =>
      obtain ⟨r, w, v, a1, a2, a3, a4, a5, a6⟩ := step_ok hcf (nnst i (Nat.le_of_lt (Array.getElem?_eq_some_iff.1 ho).1)) (hst i o (by rw [Array.getElem?_toList]; exact ho))
      refine ⟨(r, w, v), fun o' h => ?_⟩
      cases h
      exact ⟨a1, a2, a3, a4, a5, a6⟩
  let q : Nat -> Nat × Nat × Value := fun i => Classical.choose (ex i)
  have D : ∀ i o, ops[i]? = some o -> Dt P ops st (fun i => (q i).1) (fun i => (q i).2.1) (fun i => (q i).2.2) i o := fun i o ho => by
    have := Classical.choose_spec (ex i) o ho
    exact ⟨this.l, this.f, this.mr, this.mw, this.ss, this.ok⟩
  generalize hqr : (fun i => (q i).1) = r at D
  generalize hqw : (fun i => (q i).2.1) = w at D
  generalize hqv : (fun i => (q i).2.2) = v at D
  have hdl : ∀ i, i <= ops.size -> (st i).l = dl (fun i => (r i, w i)) i := by
    intro i
    induction i with
    | zero => intro _; rw [e0, hl]; rfl
    | succ i ih => intro hi; rw [(D i _ (op_at (by omega))).l, ih (by omega)]; rfl
  have hmr : ∀ i, i <= ops.size -> ∀ m, tb (st i).r m ↔ ∃ j, j < i /\ tb (r j) m := by
    intro i
    induction i with
    | zero => intro _ m; rw [e0, hr0]; exact ⟨fun h => absurd h tb_zero, fun ⟨j, h, _⟩ => absurd h (by omega)⟩
    | succ i ih =>
      intro hi m
      rw [(D i _ (op_at (by omega))).mr, ih (by omega)]
      constructor
      · rintro (⟨j, a, b⟩ | h)
        · exact ⟨j, by omega, b⟩
        · exact ⟨i, by omega, h⟩
      · rintro ⟨j, a, b⟩
        by_cases hji : j = i
        · subst hji; exact Or.inr b
        · exact Or.inl ⟨j, by omega, b⟩
  have hmw : ∀ i, i <= ops.size -> ∀ m, tb (st i).w m ↔ ∃ j, j < i /\ tb (w j) m := by
    intro i
    induction i with
    | zero => intro _ m; rw [e0, hw0]; exact ⟨fun h => absurd h tb_zero, fun ⟨j, h, _⟩ => absurd h (by omega)⟩
    | succ i ih =>
      intro hi m
      rw [(D i _ (op_at (by omega))).mw, ih (by omega)]
      constructor
      · rintro (⟨j, a, b⟩ | h)
        · exact ⟨j, by omega, b⟩
        · exact ⟨i, by omega, h⟩
      · rintro ⟨j, a, b⟩
        by_cases hji : j = i
        · subst hji; exact Or.inr b
        · exact Or.inl ⟨j, by omega, b⟩
  have hR := hmr ops.size (Nat.le_refl _)
  have hW := hmw ops.size (Nat.le_refl _)
  rw [eN] at hR hW
  unfold drawOk at hdk
  simp only [Bool.and_eq_true] at hdk
  obtain ⟨hedge, hdt⟩ := hdk
  rw [dl_ops ops _ default] at hdt
  have hdh : drawn (bef ops) ops.size (dl (fun i => (r i, w i)) ops.size) = true := by rw [← hdl ops.size (Nat.le_refl _), eN]; exact hdr
  intro k W a Q id hf H hnew hk
  have hle : (st 0).f.m <= 256 := by rw [e0]; exact hf.le
  have nn0 : ∀ i, (st 0).n <= i -> hget (st 0).h i = none := by rw [e0]; exact nn
  refine wp_region_any hmo ?_
  refine wpAny_inv (fun listed a' W' => listed.size = ops.size /\ ∃ k', Iv ops st w (fun i => tb s'.r i ∨ tb s'.w i) (fun i => tb s'.w i) k { W with drawn := W.drawn + 1 } listed a' W' k') hedge ?_ ?_ _ _ _ _ ?_ ⟨by simp, k, ?_⟩
  · rintro listed a' W' i o ⟨hsz, k', I⟩ ho hu hall
    refine wpOp_step ho fun K hK => ?_
    refine I.step D nn0 hle hdh hdt (fun j hj m hm => Or.inl ((hR m).2 ⟨j, hj, hm⟩)) (fun j hj m hm => Or.inr ((hW m).2 ⟨j, hj, hm⟩)) (fun j hj m hm => (hW m).2 ⟨j, hj, hm⟩) hsz ho hu hall Q K (fun a2 W2 k2 I2 => hK _ _ ⟨by simpa using hsz, k2, I2⟩)
  · rintro listed a' W' ⟨hsz, k', I⟩ hall
    have hc : ∀ wr : Nat -> Prop, Cn ops.size (fun j => listed.getD j false = true) wr ops.size := fun wr j hj _ => ⟨fun _ => hj, fun _ => by
      have := hall j hj
      have h2 : j < listed.size := by omega
      simpa [h2] using this⟩
    have hfr := fun t => I.fr t ops.size (Nat.le_refl _) (hc _)
    have hhp := fun i hi => I.hp i ops.size (Nat.le_refl _) hi (hc _)
    rw [eN] at hfr hhp
    refine hk k' W' a' ⟨I.ext, ?_, ⟨fun i hi => hhp i (tb_or.1 hi), fun i j hi hj li lj hne => ?_⟩, ?_, ?_, I.size, I.os, ⟨I.tape.1, Nat.le_trans (Nat.le_succ _) I.tape.2⟩, I.output, I.fz⟩ ⟨?_, ?_, hfr, ?_, I.gl⟩
    · have := I.dom; rw [e0, eN] at this; exact this
    · exact I.inj i j ops.size ops.size (Nat.le_refl _) (Nat.le_refl _) (tb_or.1 hi) (tb_or.1 hj) (hc _) (hc _) (by rw [eN]; exact li) (by rw [eN]; exact lj) hne
    · have := I.frm; rw [e0] at this; exact this
    · intro i b z h1 h2 h3 h4
      by_cases hwi : tb s'.w i
      · rcases I.fresh i ops.size b z (Nat.le_refl _) (Or.inr hwi) (hc _) (by rw [e0]; exact h1) (by rw [eN]; exact h2) (by rw [eN]; exact h3) h4 with h | ⟨j, z', a1, a2, a3, a4, a5⟩
        · exact Or.inl h
        · rw [e0] at a2 a3
          refine Or.inr ⟨j, z', a1, a2, a3, ?_, a5⟩
          have := a4 ops.size (Nat.le_refl _) (hc _)
          rw [eN] at this; exact this
      · obtain ⟨cs, h3⟩ := h3
        rw [ss'.same i hwi, nn i h1] at h3
        cases h3
    · have := st_m D ops.size (Nat.le_refl _)
      rw [eN, e0] at this
      rw [this, ← e0]; exact I.m
    · have := st_m D ops.size (Nat.le_refl _)
      rw [eN, e0] at this
      rw [this]; exact hf.le
    · have := st_d D ops.size (Nat.le_refl _)
      rw [eN] at this
      rw [this]; exact I.df
  · simp
  · have hz : ∀ j, ¬ (Array.replicate ops.size false).getD j false = true := fun j => by
      rcases Nat.lt_or_ge j ops.size with h | h <;> simp [h]
    have hcn : ∀ wr c, c <= ops.size -> Cn ops.size (fun j => (Array.replicate ops.size false).getD j false = true) wr c -> ∀ j, 0 <= j -> j < c -> ¬ wr j := fun wr c hc h j _ hj hw => hz j ((h j (by omega) hw).2 hj)
    have hh : ∀ i c, c <= ops.size -> Cn ops.size (fun j => (Array.replicate ops.size false).getD j false = true) (fun j => tb (w j) i) c -> hget (st c).h i = hget s.h i := fun i c hc h => by
      rw [st_h D (Nat.zero_le c) hc (hcn _ c hc h), e0]
    -- what is written and was there was read
    have hrd : ∀ i c, c <= ops.size -> (tb s'.r i ∨ tb s'.w i) -> live s.h i -> tb s'.r i := fun i c _ h hl => by
      rcases h with h | h
      · exact h
      · refine ss'.old i h ?_
        rcases Nat.lt_or_ge i s.n with h' | h'
        · exact h'
        · exact absurd hl (not_live (nn i h'))
    refine ⟨fun j o _ h => absurd h (hz j), by rw [e0]; exact hf.m, by rw [e0]; exact hf.df, hf.gl, fun t c hc h => ?_, fun i c hc hi h cs hcs => ?_, fun i i' c c' hc hc' hi hi' h h' hl hl' hne => ?_, fun _ _ h => h, fun _ _ => rfl, fun j hj _ i h1 h2 => ?_, fun _ _ _ => rfl, fun i c b z hc hi h h1 h2 hl => ?_, Nat.le_refl _, rfl, ⟨rfl, Nat.le_refl _⟩, rfl, fun _ => rfl⟩
    · rw [st_f D hle (Nat.zero_le c) hc (hcn _ c hc h), e0]; exact hf.get t
    · rw [hh i c hc h] at hcs
      exact H.rep i (hrd i c hc hi ⟨cs, hcs⟩) cs hcs
    · obtain ⟨cs, hl⟩ := hl
      obtain ⟨cs', hl'⟩ := hl'
      rw [hh i c hc h] at hl
      rw [hh i' c' hc' h'] at hl'
      exact H.inj i i' (hrd i c hc hi ⟨cs, hl⟩) (hrd i' c' hc' hi' ⟨cs', hl'⟩) ⟨cs, hl⟩ ⟨cs', hl'⟩ hne
    · have a1 := st_n D (Nat.zero_le j) (by omega)
      have a2 := st_n D (show j + 1 <= ops.size by omega) (Nat.le_refl _)
      rw [e0] at a1; rw [eN] at a2
      exact hnew i (by omega) (by omega)
    · obtain ⟨cs, hl⟩ := hl
      rw [hh i c hc h, nn i (by rw [e0] at h1; exact h1)] at hl
      cases hl
end
end E
end Go.Proofs.YtpabcmaeaiaknaaGreatDoor
namespace Go.Proofs.YtpabcmaeaiaknaaGreatDoor
namespace E
open Go.CheckFast (force force_eq)
theorem beqL_some {a b : ByteArray} (h : beqL a.data.toList b.data.toList = true) : a = b := by
  rw [beqL_eq] at h
  apply ByteArray.ext
  apply Array.ext'
  simpa using h
theorem aeq_eq {v u : Value} (h : aeq v u = true) : v = u := by
  unfold aeq at h
  split at h <;> (try split at h) <;> first
    | (cases h; done)
    | rfl
    | (simp only [Bool.and_eq_true, Nat.beq_eq] at h; obtain ⟨h1, h2⟩ := h; subst h1; subst h2; rfl)
    | (simp only [Bool.and_eq_true, Nat.beq_eq] at h; obtain ⟨⟨⟨h1, h2⟩, h3⟩, h4⟩ := h; subst h1; subst h2; subst h3; subst h4; rfl)
    | (rw [beqL_some h])
    | (simp only [Bool.and_eq_true, keq, decide_eq_true_eq] at h; obtain ⟨h1, h2⟩ := h; rw [ieq_eq] at h2; rw [h1, eq_of_beq h2])
    | (rw [eq_of_beq h])
theorem leq_eq : ∀ {l m : List Value}, leq l m = true -> l = m
  | [], [], _ => rfl
  | [], _ :: _, h => by cases h
  | _ :: _, [], h => by cases h
  | v :: x, u :: y, h => by
    simp only [leq] at h
    cases ha : aeq v u with
    | false => rw [ha] at h; cases h
    | true => rw [ha] at h; rw [aeq_eq ha, leq_eq h]
theorem veq1_eq {v u : Value} (h : veq1 v u = true) : v = u := by
  unfold veq1 at h
  split at h
  · split at h
    · congr 1; exact Array.ext' (leq_eq h)
    · cases h
  · exact aeq_eq h
theorem leq1_eq : ∀ {l m : List Value}, leq1 l m = true -> l = m
  | [], [], _ => rfl
  | [], _ :: _, h => by cases h
  | _ :: _, [], h => by cases h
  | v :: x, u :: y, h => by
    simp only [leq1] at h
    cases ha : veq1 v u with
    | false => rw [ha] at h; cases h
    | true => rw [ha] at h; rw [veq1_eq ha, leq1_eq h]
theorem veq2_eq {v u : Value} (h : veq2 v u = true) : v = u := by
  unfold veq2 at h
  split at h
  · split at h
    · congr 1; exact Array.ext' (leq1_eq h)
    · cases h
  · exact veq1_eq h
section
variable {k k' : K} {g : Nat -> Nat}
theorem r0 (hg : ∀ i p, k (g i) = some p -> k' i = some p) {v u : Value} (ha : at0 v = true) (h : VX k (s0 g v) u) : VX k' v u := by
  cases v with
  | pointer a => cases a with
    | none => exact VX.of0 (h.v0 trivial)
    | some a => obtain ⟨h1, b, z, h2, h3⟩ := h.ptr_inv (by simpa [at0] using ha); exact VX.atP ⟨h1, b, z, hg _ _ h2, h3⟩
  | slice a n c => cases a with
    | none => exact VX.of0 h.nilslc_inv
    | some a => obtain ⟨h1, b, z, c, h2, h3⟩ := h.slc_inv (by simpa [at0] using ha); exact VX.atS ⟨h1, b, z, c, hg _ _ h2, h3⟩
  | agg _ => cases ha
  | tuple _ => cases ha
  | func _ _ _ => cases ha
  | iface _ _ => cases ha
  | chan _ => cases ha
  | map _ => cases ha
  | _ => exact VX.of0 (h.v0 trivial)
theorem rL (hg : ∀ i p, k (g i) = some p -> k' i = some p) : ∀ {l m : List Value}, l.all at0 = true -> LR (VX k) (sL g l) m -> LR (VX k') l m
  | [], _, _, h => h
  | v :: l, _, ha, ⟨y, ys, e, h1, h2⟩ => by
    simp only [List.all_cons, Bool.and_eq_true] at ha
    exact ⟨y, ys, e, r0 hg ha.1 h1, rL hg ha.2 h2⟩
theorem r1 (hg : ∀ i p, k (g i) = some p -> k' i = some p) {v u : Value} (ha : at1 v = true) (h : VX k (s1 g v) u) : VX k' v u := by
  cases v with
  | agg cs =>
    obtain ⟨us, e, h1⟩ := h.agg_inv
    rw [e]
    have := VX.agg (rL hg ha (by simpa using h1))
    simpa using this
  | _ => exact r0 hg ha h
theorem rM (hg : ∀ i p, k (g i) = some p -> k' i = some p) : ∀ {l m : List Value}, l.all at1 = true -> LR (VX k) (sM g l) m -> LR (VX k') l m
  | [], _, _, h => h
  | v :: l, _, ha, ⟨y, ys, e, h1, h2⟩ => by
    simp only [List.all_cons, Bool.and_eq_true] at ha
    exact ⟨y, ys, e, r1 hg ha.1 h1, rM hg ha.2 h2⟩
theorem r2 (hg : ∀ i p, k (g i) = some p -> k' i = some p) {v u : Value} (ha : at2 v = true) (h : VX k (s2 g v) u) : VX k' v u := by
  cases v with
  | tuple cs =>
    obtain ⟨us, e, h1⟩ := h.tuple_inv
    rw [e]
    have := VX.tuple (rM hg ha (by simpa using h1))
    simpa using this
  | _ => exact r1 hg ha h
theorem t0 (hg : ∀ i p, k' i = some p -> k (g i) = some p) {v u : Value} (ha : at0 v = true) (h : VX k' v u) : VX k (s0 g v) u := by
  cases v with
  | pointer a => cases a with
    | none => exact VX.of0 (h.v0 trivial)
    | some a => obtain ⟨h1, b, z, h2, h3⟩ := h.ptr_inv (by simpa [at0] using ha); exact VX.atP ⟨h1, b, z, hg _ _ h2, h3⟩
  | slice a n c => cases a with
    | none => exact VX.of0 h.nilslc_inv
    | some a => obtain ⟨h1, b, z, c, h2, h3⟩ := h.slc_inv (by simpa [at0] using ha); exact VX.atS ⟨h1, b, z, c, hg _ _ h2, h3⟩
  | agg _ => cases ha
  | tuple _ => cases ha
  | func _ _ _ => cases ha
  | iface _ _ => cases ha
  | chan _ => cases ha
  | map _ => cases ha
  | _ => exact VX.of0 (h.v0 trivial)
theorem tL (hg : ∀ i p, k' i = some p -> k (g i) = some p) : ∀ {l m : List Value}, l.all at0 = true -> LR (VX k') l m -> LR (VX k) (sL g l) m
  | [], _, _, h => h
  | v :: l, _, ha, ⟨y, ys, e, h1, h2⟩ => by
    simp only [List.all_cons, Bool.and_eq_true] at ha
    exact ⟨y, ys, e, t0 hg ha.1 h1, tL hg ha.2 h2⟩
theorem t1 (hg : ∀ i p, k' i = some p -> k (g i) = some p) {v u : Value} (ha : at1 v = true) (h : VX k' v u) : VX k (s1 g v) u := by
  cases v with
  | agg cs =>
    obtain ⟨us, e, h1⟩ := h.agg_inv
    rw [e]
    exact VX.agg (tL hg ha h1)
  | _ => have hh := fun p => t0 hg p h; exact hh ha
theorem tM (hg : ∀ i p, k' i = some p -> k (g i) = some p) : ∀ {l m : List Value}, l.all at1 = true -> LR (VX k') l m -> LR (VX k) (sM g l) m
  | [], _, _, h => h
  | v :: l, _, ha, ⟨y, ys, e, h1, h2⟩ => by
    simp only [List.all_cons, Bool.and_eq_true] at ha
    exact ⟨y, ys, e, t1 hg ha.1 h1, tM hg ha.2 h2⟩
theorem t2 (hg : ∀ i p, k' i = some p -> k (g i) = some p) {v u : Value} (ha : at2 v = true) (h : VX k' v u) : VX k (s2 g v) u := by
  cases v with
  | tuple cs =>
    obtain ⟨us, e, h1⟩ := h.tuple_inv
    rw [e]
    exact VX.tuple (tM hg ha h1)
  | _ => have hh := fun p => t1 hg p h; exact hh ha
end
structure EnOk (P : Program) (e : En) : Prop where
  wv : at2 e.v = true
  wb : ∀ b ∈ e.bs, b.all at0 = true
  nt : ∀ i, isTab i = false
  wa : e.args.all flat1 = true
  enter : ∀ args w, (callFunc e.f args).run P w = .ok (.enter e.f args) w
  ok : ∀ W, Calls P e.f e.args.toArray W fun r W' => ∃ u k', r = .returned u /\ VX k' e.v u /\ (∀ i, e.bs.length <= i -> k' i = none) ∧
    (∀ i cs, e.bs[i]? = some cs -> RB k' W' i cs /\ ∀ b z, k' i = some (b, z) -> W.heap.size <= b) ∧
    (∀ i j b z b' z', i ≠ j -> k' i = some (b, z) -> k' j = some (b', z') -> b ≠ b') /\ (∀ b, b < W.heap.size -> W'.heap[b]? = W.heap[b]?) /\ W.heap.size <= W'.heap.size /\ W'.os = W.os /\ Tp W' W /\ W'.output = W.output /\ ∀ a, W'.frozen? a = W.frozen? a
theorem tb_bits : ∀ {m n i : Nat}, tb (bits n m) i ↔ n <= i /\ i < n + m
  | 0, n, i => by simp only [bits]; exact ⟨fun h => absurd h tb_zero, fun h => by omega⟩
  | m + 1, n, i => by
    simp only [bits, tb_or, tb_bit, tb_bits (m := m)]
    omega
theorem lays_get {n : Nat} : ∀ (l : List (List Value)) (i : Nat) (h : HT) (j : Nat), i + l.length <= 4096 -> hget (lays n l i h) j = if i <= j /\ j < i + l.length then (l[j - i]?).map (sL (Nat.add n)) else hget h j
  | [], i, h, j, _ => by rw [lays, if_neg (by simp only [List.length_nil]; omega)]
  | b :: l, i, h, j, hl => by
    simp only [List.length_cons] at hl ⊢
    rw [lays, lays_get l (Nat.succ i) _ j (by omega)]
    by_cases e : i = j
    · subst e
      rw [if_neg (by omega), if_pos (by omega), hget_same _ (by omega)]
      simp
    · rw [hget_ne _ (by omega) e]
      by_cases h1 : i <= j /\ j < i + (l.length + 1)
      · rw [if_pos (by omega), if_pos h1, show j - i = (j - Nat.succ i) + 1 by omega, List.getElem?_cons_succ]
      · rw [if_neg (by omega), if_neg h1]
theorem find_some {f : Nat} {args : List Value} : ∀ {l : List En} {e : En}, find f args l = some e -> e ∈ l /\ f = e.f /\ args = e.args
  | [], _, h => by cases h
  | x :: l, e, h => by
    simp only [find] at h
    cases hc : (Nat.beq f x.f && leq args x.args) with
    | false =>
      rw [hc] at h
      obtain ⟨h1, h2⟩ := find_some (l := l) h
      exact ⟨by simp [h1], h2⟩
    | true =>
      rw [hc] at h
      cases h
      simp only [Bool.and_eq_true, Nat.beq_eq] at hc
      exact ⟨by simp, hc.1, leq_eq hc.2⟩
theorem known_ok {P : Program} {e : En} (he : EnOk P e) {h : HT} {n : Nat} {x : R5} (hx : known e h n = some x) : Ss h n x.h x.n x.r x.w /\ (∀ args w, (callFunc e.f args).run P w = .ok (.enter e.f args) w) ∧
    ∀ (k : K) (W : World) (us : List Value), LR (VX k) e.args us -> HR k h W x.r -> (∀ i, n <= i -> i < x.n -> k i = none) -> Calls P e.f us.toArray W fun r W' => ∃ u k', r = .returned u /\ Sd h n x.h x.n x.r x.w k W k' W' /\ VX k' x.v u := by
  obtain ⟨hle, hx⟩ := bif_some hx
  rw [Nat.ble_eq] at hle
  cases hx
  have hg := fun j => lays_get (n := n) e.bs n h j hle
  refine ⟨⟨Nat.le_add_right _ _, fun nn i hi => ?_, fun i hi => ?_, fun i hi hn => ?_, fun i hi => (tb_bits.1 hi).2, fun i hi ⟨cs, hl⟩ => ?_, fun i _ => he.nt i⟩, he.enter, fun k W us hus H hnew => ?_⟩
  · have hi' : n + e.bs.length <= i := hi
    rw [hg, if_neg (by omega)]; exact nn i (by omega)
  · rw [hg, if_neg (fun h => hi (tb_bits.2 h))]
  · have := (tb_bits.1 hi).1; omega
  · rw [hg, if_neg (by omega)] at hl; exact ⟨cs, hl⟩
  · have hue := flatL_eq hus he.wa
    subst hue
    refine (he.ok W).mono ?_
    rintro r W' ⟨u, k', rfl, a1, a2, a3, a4, a5, a6, a7, a8, a9, a10⟩
    let k2 : K := fun i => if n <= i /\ i < n + e.bs.length then k' (i - n) else k i
    have hin : ∀ i, n <= i -> i < n + e.bs.length -> k2 i = k' (i - n) := fun i h1 h2 => if_pos ⟨h1, h2⟩
    have hout : ∀ i, ¬ (n <= i /\ i < n + e.bs.length) -> k2 i = k i := fun i h => if_neg h
    have hk2 : ∀ i p, k' i = some p -> k2 (Nat.add n i) = some p := fun i p hp => by
      have hi : i < e.bs.length := by
        rcases Nat.lt_or_ge i e.bs.length with h' | h'
        · exact h'
        · rw [a2 i h'] at hp; cases hp
      show k2 (n + i) = some p
      rw [hin (n + i) (by omega) (by omega), show n + i - n = i by omega]; exact hp
    refine ⟨u, k2, rfl, ⟨fun i p hp => ?_, fun i hi => hout i (by simp only at hi; omega), ⟨fun i hi cs hcs => ?_, fun i j hi hj _ _ hne _ b z b' z' hb hb' => ?_⟩, fun b hb _ => a5 b hb, fun i b z h1 h2 _ hk => Or.inl ?_, a6, a7, a8, a9, a10⟩, t2 hk2 he.wv a1⟩
    · rw [hout i (fun h => by rw [hnew i h.1 h.2] at hp; cases hp)]; exact hp
    · have hi' := tb_bits.1 ((tb_or.1 hi).resolve_left tb_zero)
      rw [hg, if_pos hi'] at hcs
      cases hb : e.bs[i - n]? with
      | none => rw [hb] at hcs; cases hcs
      | some c =>
        rw [hb] at hcs
        cases hcs
        exact (a3 (i - n) c hb).1.mono (fun p hp => by rw [hin i hi'.1 hi'.2]; exact hp) (fun _ _ _ _ => rfl) (fun us => tL hk2 (he.wb c (List.mem_of_getElem? hb))) (by rw [he.nt, he.nt]) (fun h => by rw [he.nt] at h; cases h)
    · have hi' := tb_bits.1 ((tb_or.1 hi).resolve_left tb_zero)
      have hj' := tb_bits.1 ((tb_or.1 hj).resolve_left tb_zero)
      rw [hin i hi'.1 hi'.2] at hb
      rw [hin j hj'.1 hj'.2] at hb'
      exact a4 (i - n) (j - n) b z b' z' (by omega) hb hb'
    · rw [hin i h1 h2] at hk
      cases hb : e.bs[i - n]? with
      | none => rw [a2 (i - n) (by rw [List.getElem?_eq_none_iff] at hb; exact hb)] at hk; cases hk
      | some c =>
        exact (a3 (i - n) c hb).2 _ _ hk
end E
end Go.Proofs.YtpabcmaeaiaknaaGreatDoor
namespace Go.Proofs.YtpabcmaeaiaknaaGreatDoor
namespace E
open Go.CheckFast (force force_eq)
section
variable {P : Program}
def Rn (P : Program) (rn : Code -> FT -> HT -> Nat -> Option RC) : Prop := ∀ c f h n x, (∀ i, n <= i -> hget h i = none) -> rn c f h n = some x -> Ss h n x.h x.n x.r x.w ∧
  ∀ (k : K) (W : World) (a : Act) (Q : Exit -> Act -> World -> Prop), FR k f a -> HR k h W x.r -> (∀ i, n <= i -> i < x.n -> k i = none) -> (∀ k' W' a', Sd h n x.h x.n x.r x.w k W k' W' -> FR k' x.f a' -> Q x.e a' W') -> c.wp P Q a W
theorem args_m : ∀ (l : List Value) (f : FT) (i : Nat), (args' f i l).m = f.m
  | [], _, _ => rfl
  | v :: l, f, i => by rw [args', args_m l, fput_m]
theorem args_d : ∀ (l : List Value) (f : FT) (i : Nat), (args' f i l).d = f.d
  | [], _, _ => rfl
  | v :: l, f, i => by rw [args', args_d l]; exact put_d f (some i) v
theorem args_get : ∀ (l : List Value) (f : FT) (i t : Nat), f.m <= 256 -> i + l.length <= f.m -> fget (args' f i l) t = if i <= t then (l[t - i]?).getD (fget f t) else fget f t
  | [], f, i, t, _, _ => by simp [args']
  | v :: l, f, i, t, hm, hl => by
    simp only [List.length_cons] at hl
    rw [args', args_get l (fput f i v) (i + 1) t (by rw [fput_m]; exact hm) (by rw [fput_m]; omega)]
    by_cases e : i = t
    · subst e
      rw [if_neg (by omega), if_pos (Nat.le_refl _), fget_same v hm (by omega)]
      simp
    · rw [fget_ne v hm e]
      by_cases h : i <= t
      · rw [if_pos (by omega), if_pos h, show t - i = (t - (i + 1)) + 1 by omega, List.getElem?_cons_succ]
      · rw [if_neg (by omega), if_neg h]
theorem LR.get' {R : Value -> Value -> Prop} : ∀ {l m : List Value} (i : Nat) (d : Value), LR R l m -> R d d -> R ((l[i]?).getD d) ((m[i]?).getD d)
  | [], _, i, d, e, h => by rw [e]; simpa using h
  | x :: xs, _, 0, d, ⟨y, ys, e, r, _⟩, h => by rw [e]; simpa using r
  | x :: xs, _, i + 1, d, ⟨y, ys, e, _, q⟩, h => by rw [e]; simpa using q.get' i d h
theorem args_fr {k : K} (gk : GK k) {vs us : List Value} {m : Nat} (h : LR (VX k) vs us) (hm : m <= 256) (hl : vs.length <= m) : FR k (args' ⟨m, fe5, fe8, []⟩ 0 vs) { tmps := us.toArray ++ Array.replicate (m - us.toArray.size) undef, defers := [] } := by
  have hlen := h.len
  refine ⟨by rw [args_m]; simp; omega, by rw [args_m]; exact hm, fun t => ?_, by rw [args_d]; rfl, gk⟩
  rw [args_get vs _ 0 t hm (by simpa using hl), if_pos (Nat.zero_le _), fget_new, Nat.sub_zero]
  have : (us.toArray ++ Array.replicate (m - us.toArray.size) undef).getD t undef = (us[t]?).getD undef := by
    rw [Array.getD_eq_getD_getElem?]
    by_cases ht : t < us.length
    · rw [Array.getElem?_append_left (by simpa using ht)]; simp
    · rw [Array.getElem?_append_right (by simpa using ht)]
      rw [List.getElem?_eq_none (by omega)]
      by_cases h2 : t - us.toArray.size < m - us.toArray.size
      · rw [Array.getElem?_replicate, if_pos h2]; rfl
      · rw [Array.getElem?_replicate, if_neg h2]
  rw [this]
  exact h.get' t undef undef_vx
def resF (tmps : Array Value) (x : ResultVar) : Sem Value := match x with
  | .tmp t => pure (tmps.getD t undef)
  | .cell b t => do loadVar t (← asAddr (tmps.getD b undef))
theorem res_ok {k : K} {f : FT} {tmps : Array Value} {h : HT} {W : World} (hf : ∀ t, VX k (fget f t) (tmps.getD t undef)) : ∀ (l : List ResultVar) (y : List Value × Nat), res P f h l = some y -> HR k h W y.2 ->
    ∃ us, LR (VX k) y.1 us /\ (l.mapM (resF tmps)).run P W = .ok us W
  | [], y, e, _ => by cases e; exact ⟨[], rfl, rfl⟩
  | x :: l, y, e, H => by
    simp only [res] at e
    obtain ⟨y', h1, e⟩ := bind_some e
    cases x with
    | tmp t =>
      cases e
      obtain ⟨us, h2, h3⟩ := res_ok hf l y' h1 H
      exact ⟨_, ⟨_, us, rfl, hf t, h2⟩, by rw [List.mapM_cons]; simp only [resF, Sem.run_bind, Sem.run_pure, Result.andThen_ok, h3]⟩
    | cell b t =>
      obtain ⟨z, h4, e⟩ := bind_some e
      cases e
      obtain ⟨us, h2, h3⟩ := res_ok hf l y' h1 (H.sub fun i hi => tb_or.2 (Or.inl hi))
      obtain ⟨p, q, hv, h5⟩ := onP_some h4
      obtain ⟨_, _, hr, _, h6⟩ := ld_ok h5
      have h7 := hf b
      have hv' : fget f b = .pointer (some ⟨p, q, none⟩) := hv
      rw [hv'] at h7
      obtain ⟨_, b', zz, hk, h8⟩ := h7.ptr_inv
      obtain ⟨u, h9, h10⟩ := h6 k W b' zz (H.sub fun i hi => tb_or.2 (Or.inr (by rw [hr]; exact hi))) hk
      refine ⟨u :: us, ⟨u, us, rfl, h9, h2⟩, ?_⟩
      rw [List.mapM_cons]
      simp only [resF, Sem.run_bind, Sem.run_pure, Result.andThen_ok, h8, asAddr, h10, h3]
theorem results_run {k : K} {f : FT} {tmps : Array Value} {h : HT} {W : World} {fn : Func} (hf : ∀ t, VX k (fget f t) (tmps.getD t undef)) {y : List Value × Nat} (e : res P f h fn.results.toList = some y) (H : HR k h W y.2) : ∃ u, VX k (single y.1) u /\ (results fn tmps).run P W = .ok u W := by
  obtain ⟨us, h1, h2⟩ := res_ok (P := P) hf _ y e H
  refine ⟨if us.length = 1 then us.headD undef else .tuple us.toArray, ?_, ?_⟩
  · obtain ⟨vs, m⟩ := y
    simp only at h1 ⊢
    cases vs with
    | nil => rw [h1]; exact VX.tuple (cs := []) (us := []) rfl
    | cons v vs =>
      obtain ⟨u, us', rfl, r1, r2⟩ := h1
      cases vs with
      | nil => rw [r2]; exact r1
      | cons v' vs' =>
        have hl := r2.len
        rw [if_neg (by intro h0; simp only [List.length_cons] at h0 hl; omega)]
        exact VX.tuple ⟨u, us', rfl, r1, r2⟩
  · have e1 : results fn tmps = (do
        let vs ← fn.results.mapM (resF tmps)
        pure (if h : vs.size = 1 then vs[0] else .tuple vs)) := rfl
    rw [e1, Array.mapM_eq_mapM_toList]
    simp only [map_eq_pure_bind, Sem.run_bind, h2, Result.andThen_ok, Sem.run_pure]
    congr 1
    by_cases hl : us.length = 1
    · rw [if_pos hl, dif_pos (by simpa using hl)]
      cases us with
      | nil => cases hl
      | cons u us => simp
    · rw [if_neg hl, dif_neg (by simpa using hl)]

def Cx (P : Program) (cx : Nat -> List Value -> HT -> Nat -> Option CX) : Prop := ∀ f vs h n y, (∀ i, n <= i -> hget h i = none) -> cx f vs h n = some y -> Ss h n y.x.h y.x.n y.x.r y.x.w ∧
  ∀ (k : K) (W : World) (us : List Value), GK k -> LR (VX k) vs us -> HR k h W y.x.r -> (∀ i, n <= i -> i < y.x.n -> k i = none) -> CallS P f us.toArray W fun e W' => ∃ u k', e = (bif y.e then .panicked [⟨u, false, false⟩] else .returned u) /\ Sd h n y.x.h y.x.n y.x.r y.x.w k W k' W' /\ VX k' y.x.v u
theorem cfOf_ok {cx : Nat -> List Value -> HT -> Nat -> Option CX} (hcx : Cx P cx) : Cs P (cfOf cx) := by
  intro f vs h n x nn e
  obtain ⟨y, hy, e⟩ := bind_some (show (cx f vs h n).bind (fun y => bif y.e then none else some y.x) = some x from e)
  obtain ⟨b, z⟩ := y
  cases b with
  | true => cases e
  | false =>
    cases e
    exact hcx f vs h n _ nn hy
theorem noCf_ok : Cs P noCf := fun _ _ _ _ _ _ e => by cases e
theorem noCx_ok : Cx P noCx := fun _ _ _ _ _ _ e => by cases e
structure OoX (P : Program) (o : Oper) (fr : FT) (h : HT) (n : Nat) (y : CX) : Prop where
  ss : Ss h n y.x.h y.x.n y.x.r y.x.w
  ok : ∀ (k : K) (W : World) (a : Act) (K' : Act -> World -> Prop) (Q : Exit -> Act -> World -> Prop), GK k -> (∀ z ∈ o.op.operands.toList, VX k (evo fr z) (a.eval z)) -> HR k h W y.x.r -> (∀ i, n <= i -> i < y.x.n -> k i = none) ->
    (∀ u W' k', Sd h n y.x.h y.x.n y.x.r y.x.w k W k' W' -> VX k' y.x.v u -> bif y.e then Q (.panic [⟨u, false, false⟩]) a W' else K' (a.put o.dst u) W') -> o.wp P a W K' Q
theorem okOf_call {o : Op} {x : Operand} {xs : List Operand} (h : okOf o = ⟨1, x, xs⟩) : ∃ c : Call, o = .call c /\ c.callee = .value x /\ c.args.toList = xs := by
  unfold okOf at h
  split at h
  · rename_i c
    split at h
    · rename_i y hy; cases h; exact ⟨c, rfl, hy, rfl⟩
    · cases h
  · cases h
  · split at h <;> cases h
  · cases h
theorem okOf_pan {o : Op} {x : Operand} {xs : List Operand} (h : okOf o = ⟨2, x, xs⟩) : o = .panic x := by
  unfold okOf at h
  split at h
  · split at h <;> cases h
  · cases h; rfl
  · split at h <;> cases h
  · cases h
theorem okOf_dfr {o : Op} {x : Operand} {xs : List Operand} (h : okOf o = ⟨3, x, xs⟩) : ∃ c : Call, o = .defer c /\ c.callee = .value x /\ c.args.toList = xs := by
  unfold okOf at h
  split at h
  · split at h <;> cases h
  · cases h
  · rename_i c
    split at h
    · rename_i y hy; cases h; exact ⟨c, rfl, hy, rfl⟩
    · cases h
  · cases h
theorem isIf_some {v : Value} (h : isIf v = true) : ∃ t u, v = .iface t u := by
  cases v <;> first | exact ⟨_, _, rfl⟩ | cases h
theorem isIf_eq {k : K} {v u : Value} (h : isIf v = true) (r : VX k v u) : u = v := by
  obtain ⟨t, x, rfl⟩ := isIf_some h
  exact r.v0 trivial
theorem isIf_vx {k : K} {v : Value} (h : isIf v = true) : VX k v v := by
  obtain ⟨t, x, rfl⟩ := isIf_some h
  exact VX.of0 rfl
section
variable {cx : Nat -> List Value -> HT -> Nat -> Option CX} {o : Oper} {fr : FT} {h : HT} {n : Nat} {y : CX}
theorem opX_ok (hcx : Cx P cx) (nn : ∀ i, n <= i -> hget h i = none) (e : opX P cx o.op fr h n = some y) : OoX P o fr h n y := by
  unfold opX at e
  split at e
  · rename_i x xs hk
    obtain ⟨⟨cal, ar, ts⟩, ho, hc, hx⟩ := okOf_call hk
    simp only at hc hx
    subst hc hx
    unfold oCallX at e
    split at e
    · rename_i f first captured hv
      obtain ⟨h1, h3⟩ := hcx _ _ _ _ _ nn e
      refine ⟨h1, fun k W a K' Q gk hop H hnew hk => ?_⟩
      have h4 := hop x (by rw [ho]; simp [Op.operands, Call.operands])
      rw [hv] at h4
      obtain ⟨fi, ca, h5, h6, h7⟩ := h4.func_inv
      have h8 := evl_rel (fr := fr) (k := k) (a := a) ar.toList (fun y hy => hop y (by rw [ho]; simp [Op.operands, Call.operands]; right; simpa using hy))
      have h9 := h3 k W (fi ++ ar.toList.map a.eval ++ ca) gk ((h6.app h8).app h7) H hnew
      have hrun : (execOp a.eval o).run P W = (callFunc f (fi ++ ar.toList.map a.eval ++ ca).toArray).run P W := by
        simp only [execOp, ho, resolve, h5, Deferred.ofValue, invoke, Sem.run_bind, Sem.run_pure, Result.andThen_ok]
        congr 2
        apply Array.ext'
        simp
      unfold Oper.wp
      rw [hrun]
      obtain ⟨b, z⟩ := y
      cases b with
      | false =>
        rcases h9 with ⟨h2, h9⟩ | ⟨u, h2, u', k', e', hd, hvx⟩
        · rw [h2, Oper.upon_enter]
          refine h9.mono ?_
          rintro e W' ⟨u, k', rfl, hd, hvx⟩
          exact hk u W' k' hd hvx
        · cases e'
          rw [h2, Oper.upon_value]
          exact hk u W k' hd hvx
      | true =>
        rcases h9 with ⟨h2, h9⟩ | ⟨u, h2, u', k', e', hd, hvx⟩
        · rw [h2, Oper.upon_enter]
          refine h9.mono ?_
          rintro e W' ⟨u, k', rfl, hd, hvx⟩
          exact hk u W' k' hd hvx
        · cases e'
    · cases e
  · rename_i x _ hk
    have ho := okOf_pan hk
    unfold oPan at e
    obtain ⟨h1, e⟩ := bif_some e
    cases e
    refine ⟨Ss.refl h n, fun k W a K' Q _ hop _ _ hk => ?_⟩
    have h2 := isIf_eq h1 (hop x (by rw [ho]; simp [Op.operands]))
    obtain ⟨t, v, h3⟩ := isIf_some h1
    have hrun : (execOp a.eval o).run P W = .halt (.panic (.iface t v)) W := by
      simp [execOp, ho, h2, h3, Instr.panic, goPanic]
    unfold Oper.wp
    rw [hrun, Oper.upon_panic]
    exact hk (.iface t v) W k (Sd.refl h n k W) (by show VX k (evo fr x) _; rw [h3]; exact VX.of0 rfl)
  · cases e
  · obtain ⟨x, hx, e⟩ := bind_some (show (op1 P noCf o.op fr h n).bind (fun x => some (⟨false, x⟩ : CX)) = some y from e)
    cases e
    have := s_op (o := o) noCf_ok nn hx
    exact ⟨this.ss, this.ok⟩
theorem def_ok {f : FT} (e : defC o.op fr = some f) (k : K) (W : World) (a : Act) (K' : Act -> World -> Prop) (Q : Exit -> Act -> World -> Prop) (hf : FR k fr a) (hk : ∀ a', FR k (put f o.dst undef) a' -> K' a' W) : o.wp P a W K' Q := by
  unfold defC at e
  split at e
  · rename_i x xs hk1
    obtain ⟨⟨cal, ar, ts⟩, ho, hc, hx⟩ := okOf_dfr hk1
    simp only at hc hx
    subst hc hx
    unfold defV at e
    split at e
    · rename_i g first captured hv
      cases e
      have h4 := hf.ev x
      rw [hv] at h4
      obtain ⟨fi, ca, h5, h6, h7⟩ := h4.func_inv
      have h8 := evl_rel (fr := fr) (k := k) (a := a) ar.toList (fun y _ => hf.ev y)
      have hrun : (execOp a.eval o).run P W = .ok (.defer { target := .fn (.func g) ca.toArray, args := fi.toArray ++ ar.map a.eval }) W := by
        simp [execOp, ho, resolve, h5, Deferred.ofValue]
      unfold Oper.wp
      rw [hrun, Oper.upon_defer]
      have h9 : LR (VX k) (first.toList ++ evl fr ar.toList ++ captured.toList) ((fi.toArray ++ ar.map a.eval) ++ ca.toArray).toList := by
        have := (h6.app h8).app h7
        simpa using this
      have h10 : DR k ((g, first.toList ++ evl fr ar.toList ++ captured.toList) :: fr.d) ({ target := .fn (.func g) ca.toArray, args := fi.toArray ++ ar.map a.eval } :: a.defers) := ⟨_, _, _, rfl, rfl, h9, hf.df⟩
      exact hk _ (FR.put (f := ⟨fr.m, fr.a, fr.b, (g, first.toList ++ evl fr ar.toList ++ captured.toList) :: fr.d⟩) (a := { a with defers := { target := .fn (.func g) ca.toArray, args := fi.toArray ++ ar.map a.eval } :: a.defers }) ⟨hf.m, hf.le, hf.get, h10, hf.gl⟩ o.dst undef_vx)
    · cases e
  · cases e
end
def wpL (P : Program) (ops : Array Oper) (Q : Exit -> Act -> World -> Prop) : List Oper -> Act -> World -> Prop
  | [], a, w => Q .normal a w
  | o :: rest, a, w => if Region.wanted o (yielded ops a.tmps) = true then o.wp P a w (wpL P ops Q rest) Q else wpL P ops Q rest (a.put o.dst undef) w
theorem upon_mono {o : Oper} {a : Act} {K1 K2 : Act -> World -> Prop} {Q : Exit -> Act -> World -> Prop} {r : Result Next} (hK : ∀ a w, K1 a w -> K2 a w) (h : o.upon P a K1 Q r) : o.upon P a K2 Q r := by
  cases r with
  | ok x w =>
    cases x with
    | value v => exact hK _ _ h
    | skip => exact hK _ _ h
    | defer d => exact hK _ _ h
    | enter f args => exact Calls.mono h fun e w he => by cases e <;> first | exact hK _ _ he | exact he
    | row r args => exact Rows.mono h fun v w he => hK _ _ he
    | _ => exact (h : False).elim
  | halt x w => cases x <;> first | exact h | exact (h : False).elim
theorem wpL_list {ops : Array Oper} {Q : Exit -> Act -> World -> Prop} : ∀ (l : List Oper) (a : Act) (w : World), wpL P ops Q l a w -> wpList P ops Q l a w
  | [], _, _, h => h
  | o :: l, a, w, h => wpList_step fun K hK => by
    unfold wpL at h
    split at h
    · rename_i hw; rw [if_pos hw]; exact upon_mono (fun a w h => hK _ _ (wpL_list l a w h)) h
    · rename_i hw; rw [if_neg hw]; exact hK _ _ (wpL_list l _ _ h)
end
end E
end Go.Proofs.YtpabcmaeaiaknaaGreatDoor
namespace Go.Proofs.YtpabcmaeaiaknaaGreatDoor
namespace E
open Go.CheckFast (force force_eq)
section
variable {P : Program}
theorem listX_ok {cx : Nat -> List Value -> HT -> Nat -> Option CX} (hcx : Cx P cx) {ops : Array Oper} : ∀ (l : List Oper) (s s' : RC), s.e = .normal -> (∀ i, s.n <= i -> hget s.h i = none) -> opsX P cx ops l s = some s' ->
    ∃ r w, (∀ i, tb s'.r i ↔ tb s.r i ∨ tb r i) /\ (∀ i, tb s'.w i ↔ tb s.w i ∨ tb w i) /\ Ss s.h s.n s'.h s'.n r w ∧
      ∀ (k : K) (W : World) (a : Act) (Q : Exit -> Act -> World -> Prop), FR k s.f a -> HR k s.h W r -> (∀ i, s.n <= i -> i < s'.n -> k i = none) -> (∀ k' W' a', Sd s.h s.n s'.h s'.n r w k W k' W' -> FR k' s'.f a' -> Q s'.e a' W') -> wpL P ops Q l a W
  | [], s, s', hs, nn, e => by
    cases e
    exact ⟨0, 0, fun i => ⟨Or.inl, fun h => h.resolve_right tb_zero⟩, fun i => ⟨Or.inl, fun h => h.resolve_right tb_zero⟩, Ss.refl _ _, fun k W a Q hf _ _ hk => by
      have := hk k W a (Sd.refl _ _ _ _) hf
      rw [hs] at this; exact this⟩
  | o :: l, s, s', hs, nn, e => by
    simp only [opsX] at e
    obtain ⟨b, hb, e⟩ := bind_some e
    have want := fun (k : K) (a : Act) (hf : FR k s.f a) => want_of (ops := ops) (o := o) hb (fun j w t _ _ => hf.get t)
    cases b with
    | false =>
      obtain ⟨r, w, h1, h2, ss, ok⟩ := listX_ok hcx l ⟨.normal, put s.f o.dst undef, s.h, s.n, s.r, s.w⟩ s' rfl nn e
      refine ⟨r, w, h1, h2, ss, fun k W a Q hf H hnew hk => ?_⟩
      unfold wpL
      rw [want k a hf, if_neg (by simp)]
      exact ok k W _ Q (hf.put o.dst undef_vx) H hnew hk
    | true =>
      cases hd : isDef o.op with
      | true =>
        rw [hd] at e
        obtain ⟨f, hf', e⟩ := bind_some (x := defC o.op s.f) e
        obtain ⟨r, w, h1, h2, ss, ok⟩ := listX_ok hcx l ⟨.normal, put f o.dst undef, s.h, s.n, s.r, s.w⟩ s' rfl nn e
        refine ⟨r, w, h1, h2, ss, fun k W a Q hf H hnew hk => ?_⟩
        unfold wpL
        rw [want k a hf, if_pos rfl]
        exact def_ok hf' k W a _ Q hf (fun a' hf => ok k W a' Q hf H hnew hk)
      | false =>
        rw [hd] at e
        obtain ⟨y, hy, e⟩ := bind_some (x := opX P cx o.op s.f s.h s.n) e
        rw [force_eq, force_eq, force_eq] at e
        have ho := opX_ok hcx nn hy
        cases hye : y.e with
        | true =>
          rw [hye] at e
          obtain ⟨h1, e⟩ := bif_some (show (bif isIf y.x.v then some _ else none) = some s' from e)
          cases e
          refine ⟨y.x.r, y.x.w, fun i => tb_or, fun i => tb_or, ho.ss, fun k W a Q hf H hnew hk => ?_⟩
          unfold wpL
          rw [want k a hf, if_pos rfl]
          refine ho.ok k W a _ Q hf.gl (fun y _ => hf.ev y) H hnew (fun u W' k' hd hv => ?_)
          rw [hye]
          have hu := isIf_eq h1 hv
          subst hu
          exact hk k' W' a hd (hf.mono hd.ext)
        | false =>
          rw [hye] at e
          obtain ⟨r, w, h1, h2, ss, ok⟩ := listX_ok hcx l ⟨.normal, put s.f o.dst y.x.v, y.x.h, y.x.n, Nat.lor s.r y.x.r, Nat.lor s.w y.x.w⟩ s' rfl (ho.ss.nn nn) e
          refine ⟨Nat.lor y.x.r r, Nat.lor y.x.w w, fun i => by rw [h1, tb_or, tb_or, or_assoc], fun i => by rw [h2, tb_or, tb_or, or_assoc], ho.ss.trans ss, fun k W a Q hf H hnew hk => ?_⟩
          unfold wpL
          rw [want k a hf, if_pos rfl]
          refine ho.ok k W a _ Q hf.gl (fun y _ => hf.ev y) (H.sub fun i hi => tb_or.2 (Or.inl hi)) (fun i h1 h2 => hnew i h1 (Nat.lt_of_lt_of_le h2 ss.le)) (fun u W' k' hd hv => ?_)
          rw [hye]
          have H2 := Sd.next ho.ss hd nn H
          exact ok k' W' _ Q ((hf.mono hd.ext).put o.dst hv) (H2.sub fun i hi => tb_or.2 (Or.inr hi)) (fun i h1 h2 => by rw [hd.dom i (Or.inr h1)]; exact hnew i (Nat.le_trans ho.ss.le h1) h2) (fun k2 W2 a2 hd2 hf2 => hk k2 W2 a2 (Sd.trans ho.ss hd ss hd2 nn H) hf2)
theorem wpL_S {ops : Array Oper} {Q : Exit -> Act -> List Frame -> World -> Prop} {cs : List Frame} : ∀ (l : List Oper) (i : Nat) (a : Act) (w : World), (∀ j, l[j]? = ops[i + j]?) -> wpL P ops (fun e a w => Q e a cs w) l a w -> wpOpsS P ops Q (List.range' i l.length) a cs w
  | [], _, _, _, _, h => h
  | o :: l, i, a, w, hl, h => by
    have h0 : ops[i]? = some o := by simpa using (hl 0).symm
    have ih := fun a w => wpL_S (Q := Q) (cs := cs) l (i + 1) a w (fun j => by have := hl (j + 1); simpa [Nat.add_assoc, Nat.add_comm 1 j] using this)
    simp only [List.length_cons, List.range'_succ, wpOpsS, h0]
    unfold wpL at h
    split at h
    · rename_i hw
      rw [if_pos hw]
      unfold Oper.wp at h
      split
      · rename_i hr; rw [hr] at h; exact h.elim
      · exact upon_mono (fun a w h => ih a w h) h
    · rename_i hw
      rw [if_neg hw]
      exact ih _ _ h
theorem thenC_some {x : Option RC} {g : FT -> HT -> Nat -> Option RC} {z : RC} (e : thenC x g = some z) : ∃ y, x = some y /\ ((y.e ≠ .normal /\ z = y) ∨ (y.e = .normal /\ ∃ u, g y.f y.h y.n = some u /\ z = ⟨u.e, u.f, u.h, u.n, Nat.lor y.r u.r, Nat.lor y.w u.w⟩)) := by
  obtain ⟨y, hy, e⟩ := bind_some e
  refine ⟨y, hy, ?_⟩
  cases he : y.e with
  | normal =>
    rw [he] at e
    obtain ⟨u, hu, e⟩ := bind_some (x := g y.f y.h y.n) e
    rw [force_eq, force_eq] at e
    cases e
    exact Or.inr ⟨rfl, u, hu, rfl⟩
  | _ => rw [he] at e; cases e; exact Or.inl ⟨by simp, rfl⟩
def MR (m : Option Value) (u : FrameMode) : Prop := match m with
  | none => u = .returning
  | some v => u = .panicking [⟨v, false, false⟩]
theorem isRec_run {o : Oper} (h : isRec o = true) : o.guard = none /\ ∀ (a : Act) (W : World), (execOp a.eval o).run P W = .ok .recover W := by
  unfold isRec at h
  split at h
  · rename_i c hc
    rw [Bool.and_eq_true] at h
    obtain ⟨h1, h2⟩ := h
    refine ⟨by cases hg : o.guard <;> simp_all, fun a W => ?_⟩
    obtain ⟨cal, ar, ts⟩ := c
    split at h1
    · rename_i hb
      simp only at hb
      subst hb
      simp [execOp, hc, resolve, invoke, builtin]
    · cases h1
  · cases h
theorem callS_ok {rn : Code -> FT -> HT -> Nat -> Option RC} (hrn : Rn P rn) {g : Nat} {vs : List Value} {m : Option Value} {h : HT} {n : Nat} {x : RC} (nn : ∀ i, n <= i -> hget h i = none) (e : callS P rn g vs m h n = some x) :
    Ss h n x.h x.n x.r x.w /\ (∀ args w, (callFunc g args).run P w = .ok (.enter g args) w) ∧
    ∀ (k : K) (W : World) (us : List Value) (u : FrameMode), GK k -> LR (VX k) vs us -> HR k h W x.r -> (∀ i, n <= i -> i < x.n -> k i = none) -> MR m u -> CallsD P g us.toArray u W fun e u' W' => (∃ z, e = .returned z) /\ settle u' = .returning /\ ∃ k', Sd h n x.h x.n x.r x.w k W k' W' := by
  unfold callS at e
  split at e
  · rename_i fn hfn
    split at e
    · rename_i id ops c hc
      split at e
      · rename_i o rest hops
        obtain ⟨hok, e⟩ := bif_some e
        simp only [Bool.and_eq_true] at hok
        obtain ⟨⟨⟨hok, hres⟩, hrec⟩, hm⟩ := hok
        unfold fnok at hok
        simp only [Bool.and_eq_true, Nat.ble_eq, Bool.not_eq_true'] at hok
        obtain ⟨⟨o1, o2⟩, o3⟩ := hok
        obtain ⟨x', hx, e⟩ := bind_some e
        obtain ⟨he, e⟩ := bif_some e
        cases e
        rw [Bool.and_eq_true] at he
        obtain ⟨hend, hdd⟩ := he
        have hdd : x.f.d = [] := by cases hq : x.f.d <;> simp_all
        have hres : fn.results.toList = [] := by
          have : fn.results.size = 0 := by simpa using hres
          cases hq : fn.results.toList with
          | nil => rfl
          | cons a l => have := congrArg List.length hq; simp at this; omega
        obtain ⟨hg, hrun⟩ := isRec_run (P := P) hrec
        have hmv : ∀ k : K, VX k (m.getD .nilIface) (m.getD .nilIface) := fun k => by
          cases m with
          | none => exact VX.of0 rfl
          | some v => exact isIf_vx hm
        obtain ⟨y, hy, hyx⟩ := thenC_some hx
        obtain ⟨r1, w1, m1, m2, ss1, ok1⟩ := listX_ok noCx_ok rest _ y rfl nn hy
        have hr1 : ∀ i, tb y.r i ↔ tb r1 i := fun i => by rw [m1]; exact ⟨fun h => h.resolve_left tb_zero, Or.inr⟩
        have hw1 : ∀ i, tb y.w i ↔ tb w1 i := fun i => by rw [m2]; exact ⟨fun h => h.resolve_left tb_zero, Or.inr⟩
        -- the whole, from the state in which what was thrown is told
        have key : Ss h n x.h x.n x.r x.w /\ ∀ (k : K) (W : World) (us : List Value) (cs' : List Frame) (Q : Exit -> Act -> List Frame -> World -> Prop) (a : Act), FR k (put (args' ⟨fn.ntmps, fe5, fe8, []⟩ 0 vs) o.dst (m.getD .nilIface)) a -> HR k h W x.r -> (∀ i, n <= i -> i < x.n -> k i = none) ->
            (∀ k' W' a', Sd h n x.h x.n x.r x.w k W k' W' -> FR k' x.f a' -> Q x.e a' cs' W') -> wpL P ops (fun e a w => Exit.thenS (c.wpS P Q) Q e a cs' w) rest a W := by
          rcases hyx with ⟨hne, rfl⟩ | ⟨hye, z, hz, rfl⟩
          · refine ⟨ss1.congr (fun i => (hr1 i).symm) (fun i => (hw1 i).symm), fun k W us cs' Q a hf H hnew hk => ?_⟩
            refine ok1 k W a _ hf (H.sub fun i hi => (hr1 i).2 hi) hnew (fun k' W' a' hd hf' => ?_)
            have := hk k' W' a' (hd.congr (fun i => (hr1 i).symm) (fun i => (hw1 i).symm)) hf'
            cases hxe : x.e with
            | normal => exact absurd hxe hne
            | _ => rw [hxe] at this; exact this
          · have ss1' := ss1.congr (fun i => (hr1 i).symm) (fun i => (hw1 i).symm)
            obtain ⟨ss2, ok2⟩ := hrn _ _ _ _ _ (ss1.nn nn) hz
            refine ⟨ss1'.trans ss2, fun k W us cs' Q a hf H hnew hk => ?_⟩
            refine ok1 k W a _ hf (H.sub fun i hi => tb_or.2 (Or.inl ((hr1 i).2 hi))) (fun i h1 h2 => hnew i h1 (Nat.lt_of_lt_of_le h2 ss2.le)) (fun k1 W1 a1 hd hf1 => ?_)
            have hd := hd.congr (fun i => (hr1 i).symm) (fun i => (hw1 i).symm)
            rw [hye]
            have H2 := Sd.next ss1' hd nn H
            refine wpS_of_wp ?_
            exact ok2 k1 W1 a1 _ hf1 (H2.sub fun i hi => tb_or.2 (Or.inr hi)) (fun i h1 h2 => by rw [hd.dom i (Or.inr h1)]; exact hnew i (Nat.le_trans ss1.le h1) h2) (fun k2 W2 a2 hd2 hf2 => hk k2 W2 a2 (Sd.trans ss1' hd ss2 hd2 nn H) hf2)
        obtain ⟨ss, ok⟩ := key
        refine ⟨ss, fun args w => ?_, fun k W us u gk hvs H hnew hu => ?_⟩
        · have hb : fn.body.isNone = false := by rw [hc]; rfl
          simp only [callFunc, Sem.run_bind, program, Sem.run, Result.andThen_ok, hfn]
          rw [if_neg (by rw [o3]; simp), hb]
          simp
        · refine callsD_of_wpS hfn hc fun c₀ cs hc0 => ?_
          refine wpS_seq (wpS_region ?_)
          have hsz : ops.size = rest.length + 1 := by rw [← Array.length_toList, hops]; rfl
          have h0 : ops[0]? = some o := by rw [← Array.getElem?_toList, hops]; rfl
          have hl : ∀ j, rest[j]? = ops[1 + j]? := fun j => by rw [← Array.getElem?_toList, hops, Nat.add_comm 1 j, List.getElem?_cons_succ]
          rw [List.range_eq_range', hsz, List.range'_succ]
          simp only [wpOpsS, h0]
          have hw : ∀ t : Array Value, Region.wanted o (yielded ops t) = true := fun t => by unfold Region.wanted; rw [hg]
          rw [if_pos (hw _), hrun]
          simp only
          have fin : ∀ (u' : FrameMode) (a0 : Act), settle u' = .returning -> FR k (put (args' ⟨fn.ntmps, fe5, fe8, []⟩ 0 vs) o.dst (m.getD .nilIface)) a0 -> wpOpsS P ops (Exit.thenS (c.wpS P (bodyPostS P fn c₀ cs fun e u' W' => (∃ z, e = .returned z) /\ settle u' = .returning /\ ∃ k', Sd h n x.h x.n x.r x.w k W k' W')) (bodyPostS P fn c₀ cs fun e u' W' => (∃ z, e = .returned z) /\ settle u' = .returning /\ ∃ k', Sd h n x.h x.n x.r x.w k W k' W')) (List.range' (0 + 1) rest.length) a0 ({ c₀ with mode := u' } :: cs) W := by
            intro u' a0 hu' hf0
            refine wpL_S rest 1 a0 W hl (ok k W us ({ c₀ with mode := u' } :: cs) _ a0 hf0 H hnew fun k' W' a' hd hf' => ?_)
            have hdf : a'.defers = [] := by have := hf'.df; rw [hdd] at this; exact this
            obtain ⟨v, _, hv⟩ := results_run (fn := fn) (h := h) (W := W') (y := ([], 0)) hf'.get (by rw [hres]; rfl) HR.none
            have : a'.defers = [] /\ ∃ u'', ({ c₀ with mode := u' } :: cs : List Frame) = { c₀ with mode := u'' } :: cs /\ ∃ v, (results fn a'.tmps).run P W' = .ok v W' /\ ((∃ z, Ending.returned v = .returned z) /\ settle u'' = .returning /\ ∃ k', Sd h n x.h x.n x.r x.w k W k' W') := ⟨hdf, u', rfl, v, hv, ⟨v, rfl⟩, hu', k', hd⟩
            cases hxe : x.e with
            | normal => exact this
            | ret => exact this
            | _ => rw [hxe] at hend; cases hend
          have hfr := args_fr gk hvs o2 o1
          cases m with
          | none =>
            have hu : u = .returning := hu
            subst hu
            have hrc : recoverD (c₀ :: cs) = none := by simp [recoverD, hc0]
            rw [hrc]
            have := fin .returning _ rfl (hfr.put o.dst (hmv k))
            have hc1 : ({ c₀ with mode := .returning } : Frame) = c₀ := by rw [← hc0]
            rw [hc1] at this
            exact this
          | some v =>
            have hu : u = .panicking [⟨v, false, false⟩] := hu
            subst hu
            have hrc : recoverD (c₀ :: cs) = some (v, { c₀ with mode := .panicking [⟨v, true, false⟩] } :: cs) := by simp [recoverD, hc0]
            rw [hrc]
            exact fin (.panicking [⟨v, true, false⟩]) _ rfl (hfr.put o.dst (hmv k))
      · cases e
    · cases e
  · cases e
end
end E
end Go.Proofs.YtpabcmaeaiaknaaGreatDoor
namespace Go.Proofs.YtpabcmaeaiaknaaGreatDoor
namespace E
open Go.CheckFast (force force_eq)
section
variable {P : Program}
theorem leave_ok {rn : Code -> FT -> HT -> Nat -> Option RC} (hrn : Rn P rn) {fn : Func} {f : FT} : ∀ (ds : List (Nat × List Value)) (m : Option Value) (h : HT) (n r w : Nat) (y : CX), (∀ i, n <= i -> hget h i = none) -> leaveX P rn fn f ds m h n r w = some y ->
    ∃ r1 w1, (∀ i, tb y.x.r i ↔ tb r i ∨ tb r1 i) /\ (∀ i, tb y.x.w i ↔ tb w i ∨ tb w1 i) /\ Ss h n y.x.h y.x.n r1 w1 ∧
      ∀ (k : K) (W : World) (tmps : Array Value) (dl : List Deferred) (u : FrameMode) (R : Ending -> World -> Prop), GK k -> (∀ t, VX k (fget f t) (tmps.getD t undef)) -> DR k ds dl -> HR k h W r1 -> (∀ i, n <= i -> i < y.x.n -> k i = none) -> MR m u ->
        (∀ e u' k' W', e = (bif y.e then Ending.panicked [⟨u', false, false⟩] else .returned u') -> Sd h n y.x.h y.x.n r1 w1 k W k' W' -> VX k' y.x.v u' -> R e W') -> Leaves P fn tmps R dl u W
  | [], none, h, n, r, w, y, nn, e => by
    obtain ⟨z, hz, e⟩ := bind_some (show (res P f h fn.results.toList).bind (fun y => some (⟨false, ⟨single y.1, h, n, Nat.lor r y.2, w⟩⟩ : CX)) = some y from e)
    cases e
    refine ⟨z.2, 0, fun i => tb_or, fun i => ⟨Or.inl, fun h => h.resolve_right tb_zero⟩, Ss.read h n z.2, fun k W tmps dl u R gk hf hd H _ hu hk => ?_⟩
    have hu : u = .returning := hu
    have hd : dl = [] := hd
    subst hu hd
    obtain ⟨v, h1, h2⟩ := results_run hf hz H
    exact ⟨v, h2, hk _ v k W rfl (Sd.read H) h1⟩
  | [], some v, h, n, r, w, y, nn, e => by
    obtain ⟨h1, e⟩ := bif_some (show (bif isIf v then some (⟨true, ⟨v, h, n, r, w⟩⟩ : CX) else none) = some y from e)
    cases e
    refine ⟨0, 0, fun i => ⟨Or.inl, fun h => h.resolve_right tb_zero⟩, fun i => ⟨Or.inl, fun h => h.resolve_right tb_zero⟩, Ss.refl h n, fun k W tmps dl u R gk hf hd H _ hu hk => ?_⟩
    have hu : u = .panicking [⟨v, false, false⟩] := hu
    have hd : dl = [] := hd
    subst hu hd
    exact hk _ v k W rfl (Sd.refl h n k W) (isIf_vx h1)
  | p :: ds, m, h, n, r, w, y, nn, e => by
    obtain ⟨x, hx, e⟩ := bind_some (show (callS P rn p.1 p.2 m h n).bind (fun x => force (Nat.lor r x.r) fun r => force (Nat.lor w x.w) fun w => leaveX P rn fn f ds none x.h x.n r w) = some y from e)
    rw [force_eq, force_eq] at e
    obtain ⟨ss1, hen, ok1⟩ := callS_ok hrn nn hx
    obtain ⟨r2, w2, h1, h2, ss2, ok2⟩ := leave_ok hrn ds none x.h x.n _ _ y (ss1.nn nn) e
    refine ⟨Nat.lor x.r r2, Nat.lor x.w w2, fun i => by rw [h1, tb_or, tb_or, or_assoc], fun i => by rw [h2, tb_or, tb_or, or_assoc], ss1.trans ss2, fun k W tmps dl u R gk hf hd H hnew hu hk => ?_⟩
    obtain ⟨⟨tg, ar⟩, dl', cap, rfl, ht, hl, hd'⟩ := hd
    simp only at ht
    subst ht
    refine leaves_cons (f := p.1) (args := ar ++ cap) ?_ (hen _ _) ?_
    · cases m with
      | none => have hu : u = .returning := hu; subst hu; simp
      | some v => have hu : u = .panicking [⟨v, false, false⟩] := hu; subst hu; simp
    · have := ok1 k W (ar ++ cap).toList u gk hl (H.sub fun i hi => tb_or.2 (Or.inl hi)) (fun i h1 h2 => hnew i h1 (Nat.lt_of_lt_of_le h2 ss2.le)) hu
      have hE : (ar ++ cap).toList.toArray = ar ++ cap := by simp
      rw [hE] at this
      refine this.mono ?_
      rintro e u' W' ⟨⟨z, rfl⟩, hs, k', hd1⟩
      show Leaves P fn tmps R dl' (settle u') W'
      rw [hs]
      have H2 := Sd.next ss1 hd1 nn H
      exact ok2 k' W' tmps dl' .returning R (gk.mono hd1.ext) (fun t => (hf t).mono hd1.ext) (hd'.mono hd1.ext) (H2.sub fun i hi => tb_or.2 (Or.inr hi)) (fun i h1 h2 => by rw [hd1.dom i (Or.inr h1)]; exact hnew i (Nat.le_trans ss1.le h1) h2) rfl (fun e u' k2 W2 he hd2 hv => hk e u' k2 W2 he (Sd.trans ss1 hd1 ss2 hd2 nn H) hv)
theorem call0X_ok {rn : Code -> FT -> HT -> Nat -> Option RC} (hrn : Rn P rn) {f : Nat} {vs : List Value} {h : HT} {n : Nat} {y : CX} (nn : ∀ i, n <= i -> hget h i = none) (e : call0X P rn f vs h n = some y) : Ss h n y.x.h y.x.n y.x.r y.x.w /\ (∀ args w, (callFunc f args).run P w = .ok (.enter f args) w) ∧
    ∀ (k : K) (W : World) (us : List Value), GK k -> LR (VX k) vs us -> HR k h W y.x.r -> (∀ i, n <= i -> i < y.x.n -> k i = none) -> Calls P f us.toArray W fun e W' => ∃ u k', e = (bif y.e then .panicked [⟨u, false, false⟩] else .returned u) /\ Sd h n y.x.h y.x.n y.x.r y.x.w k W k' W' /\ VX k' y.x.v u := by
  unfold call0X at e
  split at e
  · rename_i fn hfn
    split at e
    · rename_i c hc
      obtain ⟨hok, e⟩ := bif_some e
      unfold fnok at hok
      simp only [Bool.and_eq_true, Nat.ble_eq, Bool.not_eq_true'] at hok
      obtain ⟨⟨o1, o2⟩, o3⟩ := hok
      unfold callB at e
      obtain ⟨x, hx, e⟩ := bind_some e
      obtain ⟨m, hm, e⟩ := bind_some e
      obtain ⟨ss1, ok1⟩ := hrn _ _ _ _ _ nn hx
      obtain ⟨r2, w2, h1, h2, ss2, ok2⟩ := leave_ok hrn _ _ _ _ _ _ y (ss1.nn nn) e
      have hr : ∀ i, tb (Nat.lor x.r r2) i ↔ tb y.x.r i := fun i => by rw [h1, tb_or]
      have hw : ∀ i, tb (Nat.lor x.w w2) i ↔ tb y.x.w i := fun i => by rw [h2, tb_or]
      refine ⟨(ss1.trans ss2).congr hr hw, fun args w => ?_, fun k W us gk hvs H hnew => ?_⟩
      · have hb : fn.body.isNone = false := by rw [hc]; rfl
        simp only [callFunc, Sem.run_bind, program, Sem.run, Result.andThen_ok, hfn]
        rw [if_neg (by rw [o3]; simp), hb]
        simp
      · refine calls_of_wp_defers hfn hc ?_
        have H : HR k h W (Nat.lor x.r r2) := H.sub fun i hi => (hr i).1 hi
        refine ok1 k W _ _ (args_fr gk hvs o2 o1) (H.sub fun i hi => tb_or.2 (Or.inl hi)) (fun i h1 h2 => hnew i h1 (Nat.lt_of_lt_of_le h2 ss2.le)) (fun k' W' a' hd hf => ?_)
        have H2 := Sd.next ss1 hd nn H
        have lv := fun u hu => ok2 k' W' a'.tmps a'.defers u (fun e W' => ∃ u k', e = (bif y.e then .panicked [⟨u, false, false⟩] else .returned u) /\ Sd h n y.x.h y.x.n y.x.r y.x.w k W k' W' /\ VX k' y.x.v u) hf.gl hf.get hf.df (H2.sub fun i hi => tb_or.2 (Or.inr hi)) (fun i h1 h2 => by rw [hd.dom i (Or.inr h1)]; exact hnew i (Nat.le_trans ss1.le h1) h2) hu (fun e u' k2 W2 he hd2 hv => ⟨u', k2, he, (Sd.trans ss1 hd ss2 hd2 nn H).congr hr hw, hv⟩)
        unfold modeOf at hm
        split at hm
        · rename_i hxe; cases hm; rw [hxe]; exact lv .returning rfl
        · rename_i hxe; cases hm; rw [hxe]; exact lv .returning rfl
        · rename_i v hxe; cases hm; rw [hxe]; exact lv (.panicking [⟨v, false, false⟩]) rfl
        · cases hm
    · cases e
  · cases e
end
end E
end Go.Proofs.YtpabcmaeaiaknaaGreatDoor
namespace Go.Proofs.YtpabcmaeaiaknaaGreatDoor
namespace E
open Go.CheckFast (force force_eq)
section
variable {P : Program}
theorem fu5_get : ∀ t, fg5 fu5 t = unk := gS_const (gS_const (gS_const (gS_const (gS_const fun _ => rfl))))
theorem fu8_get : ∀ t, fg8 fu8 t = unk := gS_const (gS_const (gS_const (gS_const (gS_const (gS_const (gS_const (gS_const fun _ => rfl)))))))
theorem unkF {k : K} {a : Act} {f : FT} (hm : f.m = a.tmps.size) (hle : f.m <= 256) (hd : DR k f.d a.defers) (gk : GK k) : FR k ⟨f.m, fu5, fu8, f.d⟩ a := by
  refine ⟨hm, hle, fun t => ?_, hd, gk⟩
  unfold fget
  cases h1 : Nat.blt t 32 with
  | true => show VX k (fg5 fu5 t) _; rw [fu5_get]; exact unk_vx
  | false =>
    cases h2 : Nat.blt t 256 with
    | true => show VX k (fg8 fu8 t) _; rw [fu8_get]; exact unk_vx
    | false =>
      have h3 : 256 <= t := by
        rcases Nat.lt_or_ge t 256 with h | h
        · rw [blt_t h] at h2; cases h2
        · exact h
      have : a.tmps.getD t undef = undef := by
        rw [Array.getD_eq_getD_getElem?, Array.getElem?_eq_none (by omega)]; rfl
      rw [this]; exact undef_vx
theorem pre_at {ops : Array Oper} {p i : Nat} (hi : i < p) : (pre ops p)[i]? = ops[i]? := by
  simp [pre, hi]
theorem pre_size {ops : Array Oper} {p : Nat} (hp : p <= ops.size) : (pre ops p).size = p := by
  simp [pre, hp]
theorem opsP_some {cx : Nat -> List Value -> HT -> Nat -> Option CX} {ops : Array Oper} {f : FT} {h : HT} {n : Nat} {x : RC} (e : opsP P cx ops f h n = some x) :
    ∃ p o s y, ops[p]? = some o /\ opsL P noCf (pre ops p) (pre ops p).toList ⟨f, h, n, 0, 0, []⟩ = some s /\ opX P cx o.op s.f s.h s.n = some y /\ y.e = true /\ isIf y.x.v = true /\ o.guard = none /\ s.w = 0 /\ s.n = n /\ drawOk (pre ops p) = true /\ drawn (bef (pre ops p)) (pre ops p).size s.l = true ∧
      edgesBack ops = true /\ guardsBack (pre ops p) p = true /\ laterOk ops p = true /\ lookOk ops p o = true /\ x = ⟨.panic [⟨y.x.v, false, false⟩], ⟨f.m, fu5, fu8, f.d⟩, y.x.h, y.x.n, Nat.lor s.r y.x.r, y.x.w⟩ := by
  obtain ⟨p, _, e⟩ := bind_some (x := firstCall ops.toList 0) e
  obtain ⟨o, ho, e⟩ := bind_some (x := ops[p]?) e
  obtain ⟨s, hs, e⟩ := bind_some (x := opsL P noCf (pre ops p) (pre ops p).toList ⟨f, h, n, 0, 0, []⟩) e
  obtain ⟨y, hy, e⟩ := bind_some (x := opX P cx o.op s.f s.h s.n) e
  rw [force_eq, force_eq, force_eq] at e
  obtain ⟨hc, e⟩ := bif_some e
  simp only [Bool.and_eq_true, Nat.beq_eq] at hc
  obtain ⟨⟨c1, c2⟩, c3, c4, c5, c6, c7, c8, c9, c10, c11⟩ := hc
  cases e
  exact ⟨p, o, s, y, ho, hs, hy, c1, c2, by cases hg : o.guard <;> simp_all, c4, c5, c6, c7, c8, c9, c10, c11, rfl⟩

theorem sts {cf : Nat -> List Value -> HT -> Nat -> Option R5} {ops : Array Oper} (hcf : Cs P cf) {s s' : RL} (nn : ∀ i, s.n <= i -> hget s.h i = none) (hl : s.l = []) (hr0 : s.r = 0) (hw0 : s.w = 0) (e : opsL P cf ops ops.toList s = some s') :
    ∃ (st : Nat -> RL) (r w : Nat -> Nat) (v : Nat -> Value), st 0 = s /\ st ops.size = s' /\ (∀ i o, ops[i]? = some o -> Dt P ops st r w v i o) /\ s'.l = dl (fun i => (r i, w i)) ops.size /\ (∀ m, tb s'.r m ↔ ∃ j, j < ops.size /\ tb (r j) m) /\ ∀ m, tb s'.w m ↔ ∃ j, j < ops.size /\ tb (w j) m := by
  obtain ⟨st, e0, eN, hst⟩ := opsL_states _ _ _ e
  rw [show ops.toList.length = ops.size by simp] at eN
  have nnst : ∀ i, i <= ops.size -> ∀ m, (st i).n <= m -> hget (st i).h m = none := by
    intro i
    induction i with
    | zero => intro _; rw [e0]; exact nn
    | succ i ih =>
      intro hi
      obtain ⟨_, _, _, _, _, _, _, hs, _⟩ := step_ok hcf (ih (by omega)) (hst i ops[i] (by rw [Array.getElem?_toList]; exact op_at (by omega)))
      exact hs.nn (ih (by omega))
  have ex : ∀ i, ∃ q : Nat × Nat × Value, ∀ o, ops[i]? = some o -> Dt P ops st (fun _ => q.1) (fun _ => q.2.1) (fun _ => q.2.2) i o := by
    intro i
    cases ho : ops[i]? with
    | none => exact ⟨(0, 0, undef), fun o h => by cases h⟩
    | some o =>
      obtain ⟨r, w, v, a1, a2, a3, a4, a5, a6⟩ := step_ok hcf (nnst i (Nat.le_of_lt (Array.getElem?_eq_some_iff.1 ho).1)) (hst i o (by rw [Array.getElem?_toList]; exact ho))
      refine ⟨(r, w, v), fun o' h => ?_⟩
      cases h
      exact ⟨a1, a2, a3, a4, a5, a6⟩
  let q : Nat -> Nat × Nat × Value := fun i => Classical.choose (ex i)
  have D : ∀ i o, ops[i]? = some o -> Dt P ops st (fun i => (q i).1) (fun i => (q i).2.1) (fun i => (q i).2.2) i o := fun i o ho => by
    have := Classical.choose_spec (ex i) o ho
    exact ⟨this.l, this.f, this.mr, this.mw, this.ss, this.ok⟩
  generalize (fun i => (q i).1) = r at D
  generalize (fun i => (q i).2.1) = w at D
  generalize (fun i => (q i).2.2) = v at D
  have hdl : ∀ i, i <= ops.size -> (st i).l = dl (fun i => (r i, w i)) i := by
    intro i
    induction i with
    | zero => intro _; rw [e0, hl]; rfl
    | succ i ih => intro hi; rw [(D i _ (op_at (by omega))).l, ih (by omega)]; rfl
  have hmr : ∀ i, i <= ops.size -> ∀ m, tb (st i).r m ↔ ∃ j, j < i /\ tb (r j) m := by
    intro i
    induction i with
    | zero => intro _ m; rw [e0, hr0]; exact ⟨fun h => absurd h tb_zero, fun ⟨j, h, _⟩ => absurd h (by omega)⟩
    | succ i ih =>
      intro hi m
      rw [(D i _ (op_at (by omega))).mr, ih (by omega)]
      constructor
      · rintro (⟨j, a, b⟩ | h)
        · exact ⟨j, by omega, b⟩
        · exact ⟨i, by omega, h⟩
      · rintro ⟨j, a, b⟩
        by_cases hji : j = i
        · subst hji; exact Or.inr b
        · exact Or.inl ⟨j, by omega, b⟩
  have hmw : ∀ i, i <= ops.size -> ∀ m, tb (st i).w m ↔ ∃ j, j < i /\ tb (w j) m := by
    intro i
    induction i with
    | zero => intro _ m; rw [e0, hw0]; exact ⟨fun h => absurd h tb_zero, fun ⟨j, h, _⟩ => absurd h (by omega)⟩
    | succ i ih =>
      intro hi m
      rw [(D i _ (op_at (by omega))).mw, ih (by omega)]
      constructor
      · rintro (⟨j, a, b⟩ | h)
        · exact ⟨j, by omega, b⟩
        · exact ⟨i, by omega, h⟩
      · rintro ⟨j, a, b⟩
        by_cases hji : j = i
        · subst hji; exact Or.inr b
        · exact Or.inl ⟨j, by omega, b⟩
  have h1 := hmr ops.size (Nat.le_refl _)
  have h2 := hmw ops.size (Nat.le_refl _)
  have h3 := hdl ops.size (Nat.le_refl _)
  rw [eN] at h1 h2 h3
  exact ⟨st, r, w, v, e0, eN, D, h3, h1, h2⟩
theorem wanted_pre {ops : Array Oper} {p : Nat} (hg : guardsBack (pre ops p) p = true) {i : Nat} {o : Oper} (ho : (pre ops p)[i]? = some o) (t : Array Value) : Region.wanted o (yielded (pre ops p) t) = Region.wanted o (yielded ops t) := by
  have h1 := List.all_eq_true.1 hg o (by rw [← Array.getElem?_toList] at ho; exact List.mem_of_getElem? ho)
  unfold Region.wanted
  cases hgd : o.guard with
  | none => rfl
  | some q =>
    obtain ⟨j, b⟩ := q
    rw [hgd] at h1
    have h2 : j < p := by simpa using h1
    simp only
    unfold yielded
    rw [pre_at h2]

theorem panD_ok {cx : Nat -> List Value -> HT -> Nat -> Option CX} (hcx : Cx P cx) (hmo : P.follows .mixedOrders = true) {ops : Array Oper} {f : FT} {h : HT} {n : Nat} {x : RC} (nn : ∀ i, n <= i -> hget h i = none) (e : opsP P cx ops f h n = some x) :
    Ss h n x.h x.n x.r x.w ∧
      ∀ (k : K) (W : World) (a : Act) (Q : Exit -> Act -> World -> Prop) (id : Nat), FR k f a -> HR k h W x.r -> (∀ i, n <= i -> i < x.n -> k i = none) -> (∀ k' W' a', Sd h n x.h x.n x.r x.w k W k' W' -> FR k' x.f a' -> Q x.e a' W') -> (Code.region id ops true).wp P Q a W := by
  obtain ⟨p, o, s, y, ho, hs, hy, hye, hif, hog, hsw, hsn, hdk, hdr, hedge, hgb, hlater, hlook, rfl⟩ := opsP_some e
  have hp : p < ops.size := (Array.getElem?_eq_some_iff.1 ho).1
  have hps : (pre ops p).size = p := pre_size (Nat.le_of_lt hp)
  obtain ⟨st, r, w, v, e0, eN, D, hdl, hR, hW⟩ := sts noCf_ok nn rfl rfl rfl hs
  rw [hps] at eN hdl hR hW
  rw [hps] at hdr
  have hw0 : ∀ j, j < p -> ∀ m, ¬ tb (w j) m := fun j hj m hm => by
    have := (hW m).2 ⟨j, hj, hm⟩
    rw [hsw] at this; exact tb_zero this
  have hstn : ∀ i, i <= p -> (st i).n = n := fun i hi => by
    have h1 := st_n D (Nat.zero_le i) (by rw [hps]; exact hi)
    have h2 := st_n D (show i <= p from hi) (by rw [hps]; exact Nat.le_refl _)
    rw [e0] at h1; rw [eN, hsn] at h2
    have h1 : n <= (st i).n := h1
    omega
  have hsth : ∀ c, c <= p -> ∀ m, hget (st c).h m = hget h m := fun c hc m => by
    rw [st_h D (Nat.zero_le c) (by rw [hps]; exact hc) (fun j _ hj => hw0 j (by omega) m), e0]
  have hsh : ∀ m, hget s.h m = hget h m := fun m => by rw [← eN]; exact hsth p (Nat.le_refl _) m
  have nns : ∀ i, s.n <= i -> hget s.h i = none := fun i hi => by rw [hsh]; exact nn i (by rw [← hsn]; exact hi)
  have ho2 := opX_ok hcx nns hy
  have ss1 : Ss h n s.h s.n s.r 0 := by
    obtain ⟨r1, w1, h1, h2, ss, _⟩ := list_ok noCf_ok _ _ _ nn hs
    refine ss.congr (fun i => by rw [h1]; exact ⟨Or.inr, fun h => h.resolve_left tb_zero⟩) (fun i => ?_)
    rw [← hsw, h2]; exact ⟨Or.inr, fun h => h.resolve_left tb_zero⟩
  have l0 : ∀ i, tb (Nat.lor 0 y.x.w) i ↔ tb y.x.w i := fun i => by rw [tb_or]; exact ⟨fun h => h.resolve_left tb_zero, Or.inr⟩
  refine ⟨(ss1.trans ho2.ss).congr (fun _ => Iff.rfl) l0, fun k W a Q id hf H hnew hk => ?_⟩
  unfold drawOk at hdk
  simp only [Bool.and_eq_true] at hdk
  obtain ⟨_, hdt⟩ := hdk
  rw [dl_ops (pre ops p) _ default] at hdt
  have hdh : drawn (bef (pre ops p)) (pre ops p).size (dl (fun i => (r i, w i)) (pre ops p).size) = true := by rw [hps, ← hdl]; exact hdr
  have hle : (st 0).f.m <= 256 := by rw [e0]; exact hf.le
  have nn0 : ∀ i, (st 0).n <= i -> hget (st 0).h i = none := by rw [e0]; exact nn
  have cn : ∀ (L : Nat -> Prop) m c, Cn (pre ops p).size L (fun j => tb (w j) m) c := fun L m c j hj hw => absurd hw (hw0 j (by rw [← hps]; exact hj) m)
  refine wp_region_any hmo ?_
  refine wpAny_inv (fun listed a' W' => listed.size = ops.size /\ listed.getD p true = false /\ (∀ j o, ops[j]? = some o -> listed.getD j false = true -> ∀ e ∈ o.after, Region.binds .any e = true -> listed.getD e.on false = true) ∧
    ∃ (l2 : Array Bool) (k' : K), l2.size = p /\ (∀ j, j < p -> l2.getD j false = listed.getD j false) /\ Iv (pre ops p) st w (fun i => tb s.r i ∨ tb y.x.r i) (fun _ => False) k { W with drawn := W.drawn + 1 } l2 a' W' k') hedge ?_ ?_ _ _ _ _ ?_ ⟨by simp, ?_, fun j o _ hl => ?_, Array.replicate p false, k, by simp, fun j hj => ?_, ?_⟩
  · rintro listed a' W' i oi ⟨hsz, hpu, sh, l2, k', hl2, heq, I⟩ hoi hu hall
    refine wpOp_step hoi fun K hK => ?_
    have hi := (Array.getElem?_eq_some_iff.1 hoi).1
    have hil : i < listed.size := by omega
    have hu0 : listed.getD i false = false := by simp [hil] at hu ⊢; exact hu
    rcases Nat.lt_trichotomy i p with hip | hip | hip
    · have hoi2 : (pre ops p)[i]? = some oi := by rw [pre_at hip]; exact hoi
      have hil2 : i < l2.size := by omega
      have key := I.step D nn0 hle hdh hdt (fun j hj m hm => Or.inl ((hR m).2 ⟨j, by rw [← hps]; exact hj, hm⟩)) (fun j hj m hm => absurd hm (hw0 j (by rw [← hps]; exact hj) m)) (fun j hj m hm => absurd hm (hw0 j (by rw [← hps]; exact hj) m)) (by rw [hps]; exact hl2) hoi2 (by
          have := heq i hip
          rw [hu0] at this
          simpa [hil2] using this) (fun e he hb => by
          have hlt := edgesBack_spec hedge hoi e he hb
          rw [heq e.on (by omega)]; exact hall e he hb) Q K (fun a2 W2 k2 I2 => hK a2 W2 ⟨by simpa using hsz, ?_, ?_, l2.setIfInBounds i true, k2, by simpa using hl2, ?_, I2⟩)
      · rw [wanted_pre hgb hoi2] at key
        exact key
      · rw [getD_set_ne true (by omega)]; exact hpu
      · intro j oj hoj hlj e he hb
        by_cases hji : j = i
        · subst hji
          rw [hoi] at hoj; cases hoj
          exact getD_set_true (hall e he hb)
        · rw [getD_set_ne false (Ne.symm hji)] at hlj
          exact getD_set_true (sh j oj hoj hlj e he hb)
      · intro j hj
        by_cases hji : j = i
        · subst hji; simp [hil, hil2]
        · rw [getD_set_ne false (Ne.symm hji), getD_set_ne false (Ne.symm hji)]; exact heq j hj
    · subst hip
      rw [ho] at hoi; cases hoi
      have hwt : Region.wanted o (yielded ops a'.tmps) = true := by unfold Region.wanted; rw [hog]
      rw [if_pos hwt]
      have hfe : (st i).f = s.f := by rw [eN]
      have I0 : ∀ m, m < n ∨ n <= m := fun m => by omega
      have hkk : ∀ m, k' m = k m := fun m => I.dom m (by rw [hps, hstn 0 (Nat.zero_le _), hstn i (Nat.le_refl _)]; exact I0 m)
      have rep : ∀ m, (tb s.r m ∨ tb y.x.r m) -> Rp k' s.h W' m := fun m hm => by
        have := I.hp m i (by rw [hps]; exact Nat.le_refl _) hm (cn _ _ _)
        rw [eN] at this; exact this
      have inj : ∀ m m', (tb s.r m ∨ tb y.x.r m) -> (tb s.r m' ∨ tb y.x.r m') -> live s.h m -> live s.h m' -> m ≠ m' -> (isTab m = false ∨ isTab m' = false) -> ∀ b z b' z', k' m = some (b, z) -> k' m' = some (b', z') -> b ≠ b' := fun m m' hm hm' hl hl' => by
        have := I.inj m m' i i (by rw [hps]; exact Nat.le_refl _) (by rw [hps]; exact Nat.le_refl _) hm hm' (cn _ _ _) (cn _ _ _)
        rw [eN] at this; exact this hl hl'
      have hd1 : Sd h n s.h s.n s.r 0 k W k' W' := by
        refine ⟨I.ext, fun m _ => hkk m, ⟨fun m hm => rep m (Or.inl ((tb_or.1 hm).resolve_right tb_zero)), fun m m' hm hm' => inj m m' (Or.inl ((tb_or.1 hm).resolve_right tb_zero)) (Or.inl ((tb_or.1 hm').resolve_right tb_zero))⟩, fun b hb _ => I.frm b hb (fun j z hF => hF.elim), fun m b z h1 h2 => ?_, I.size, I.os, ⟨I.tape.1, Nat.le_trans (Nat.le_succ _) I.tape.2⟩, I.output, I.fz⟩
        rw [hsn] at h2; omega
      refine ho2.ok k' W' a' K Q I.gl (fun z hz => ev_of z (fun t ht => ?_) I.gl) ⟨fun m hm => rep m (Or.inr hm), fun m m' hm hm' => inj m m' (Or.inr hm) (Or.inr hm')⟩ (fun m h1 h2 => by rw [hkk]; exact hnew m (by rw [← hsn]; exact h1) h2) (fun u W2 k2 hd hv => ?_)
      · subst ht
        have := I.fr t i (by rw [hps]; exact Nat.le_refl _) (fun j hj hw => ?_)
        · rw [hfe] at this; exact this
        · rw [hps] at hj
          refine ⟨fun _ => hj, fun _ => ?_⟩
          show l2.getD j false = true
          rw [heq j hj]
          have hlk := List.all_eq_true.1 hlook j (List.mem_range.2 hj)
          rw [Bool.or_eq_true] at hlk
          rcases hlk with hlk | hlk
          · exact waits sh i o ho hall j hlk
          · exfalso
            rw [Nat.beq_eq] at hlk
            obtain ⟨oj, hoj, hdj⟩ := hw
            rw [pre_at hj] at hoj
            have h1 : tb (setT (ops.getD j default)) t := by
              have : ops.getD j default = oj := by
                have hjs := (Array.getElem?_eq_some_iff.1 hoj).1
                simp [hjs] at hoj ⊢; exact hoj
              rw [this]
              exact (wt_tb hoj).1 ⟨oj, hoj, hdj⟩
            exact land_zero hlk h1 (look_op hz)
      · rw [hye]
        have hu := isIf_eq hif hv
        subst hu
        have hd2 := (Sd.trans ss1 hd1 ho2.ss hd nn H).congr (fun _ => Iff.rfl) l0
        refine hk k2 W2 a' hd2 (unkF ?_ hf.le ?_ (I.gl.mono hd.ext))
        · have := I.m; rw [e0] at this; exact this
        · have := I.df; rw [e0] at this; exact this.mono hd.ext
    · exfalso
      have hlt := List.all_eq_true.1 hlater i (List.mem_range.2 hi)
      rw [Bool.or_eq_true] at hlt
      rcases hlt with hlt | hlt
      · rw [Nat.ble_eq] at hlt; omega
      · have := waits sh i oi hoi hall p hlt
        have hpl : p < listed.size := by omega
        simp [hpl] at this hpu
        rw [this] at hpu; cases hpu
  · rintro listed a' W' ⟨hsz, hpu, _⟩ hall
    rw [hall p hp] at hpu; cases hpu
  · simp
  · simp [hp]
  · exfalso
    rcases Nat.lt_or_ge j ops.size with h | h <;> simp [h] at hl
  · rcases Nat.lt_or_ge j ops.size with h | h <;> simp [h, hj]
  · have hz : ∀ j, ¬ (Array.replicate p false).getD j false = true := fun j => by
      rcases Nat.lt_or_ge j p with h | h <;> simp [h]
    refine ⟨fun j o _ h => absurd h (hz j), by rw [e0]; exact hf.m, by rw [e0]; exact hf.df, hf.gl, fun t c hc h => ?_, fun i c hc hi _ cs hcs => ?_, fun i i' c c' hc hc' hi hi' _ _ hl hl' hne => ?_, fun _ _ h => h, fun _ _ => rfl, fun j hj _ i h1 h2 => ?_, fun _ _ _ => rfl, fun i c b z hc hi _ h1 h2 => ?_, Nat.le_refl _, rfl, ⟨rfl, Nat.le_refl _⟩, rfl, fun _ => rfl⟩
    · rw [st_f D hle (Nat.zero_le c) hc (fun j _ hj hw => hz j ((h j (by omega) hw).2 hj)), e0]; exact hf.get t
    · rw [hsth c (by rw [← hps]; exact hc)] at hcs
      exact H.rep i (tb_or.2 hi) cs hcs
    · obtain ⟨cs, hl⟩ := hl
      obtain ⟨cs', hl'⟩ := hl'
      rw [hsth c (by rw [← hps]; exact hc)] at hl
      rw [hsth c' (by rw [← hps]; exact hc')] at hl'
      exact H.inj i i' (tb_or.2 hi) (tb_or.2 hi') ⟨cs, hl⟩ ⟨cs', hl'⟩ hne
    · rw [hps] at hj
      rw [hstn j (by omega)] at h1
      rw [hstn (j + 1) (by omega)] at h2
      omega
    · rw [hstn 0 (Nat.zero_le _)] at h1
      rw [hps, hstn p (Nat.le_refl _)] at h2
      omega
end
end E
end Go.Proofs.YtpabcmaeaiaknaaGreatDoor
namespace Go.Proofs.YtpabcmaeaiaknaaGreatDoor
namespace E
open Go.CheckFast (force force_eq)
section
variable {P : Program}
structure TbOk (P : Program) (t : Tb) : Prop where
  l : ∀ e ∈ t.l, EnOk P e
  x : ∀ f vs v, t.x f vs = some v -> vs.all flat1 = true /\ (∀ k : K, VX k v v) /\ ∀ w, (callFunc f vs.toArray).run P w = .ok (.value v) w
theorem call_ok {tb' : Tb} {rn : Code -> FT -> HT -> Nat -> Option RC} (ht : TbOk P tb') (hrn : Rn P rn) : Cx P (call P tb' rn) := by
  intro f vs h n y nn e
  unfold call at e
  split at e
  · rename_i v hv
    cases e
    obtain ⟨h1, h2, h3⟩ := ht.x f vs v hv
    exact ⟨Ss.refl h n, fun k W us gk hus _ _ => Or.inr ⟨v, by rw [flatL_eq hus h1]; exact h3 W, v, k, rfl, Sd.refl h n k W, h2 k⟩⟩
  · split at e
    · rename_i en hfd
      obtain ⟨x, hx, e⟩ := bind_some (show (known en h n).bind (fun x => some (⟨false, x⟩ : CX)) = some y from e)
      cases e
      obtain ⟨h1, rfl, rfl⟩ := find_some hfd
      obtain ⟨a1, a2, a3⟩ := known_ok (ht.l en h1) hx
      exact ⟨a1, fun k W us gk hus H hn => Or.inl ⟨a2 _ _, a3 k W us hus H hn⟩⟩
    · obtain ⟨a1, a2, a3⟩ := call0X_ok hrn nn e
      exact ⟨a1, fun k W us gk hus H hn => Or.inl ⟨a2 _ _, a3 k W us gk hus H hn⟩⟩
theorem call0_ok {rn : Code -> FT -> HT -> Nat -> Option RC} (hrn : Rn P rn) {f : Nat} {vs : List Value} {h : HT} {n : Nat} {x : R5} (nn : ∀ i, n <= i -> hget h i = none) (e : call0 P rn f vs h n = some x) : Ss h n x.h x.n x.r x.w /\ (∀ args w, (callFunc f args).run P w = .ok (.enter f args) w) ∧
    ∀ (k : K) (W : World) (us : List Value), GK k -> LR (VX k) vs us -> HR k h W x.r -> (∀ i, n <= i -> i < x.n -> k i = none) -> Calls P f us.toArray W fun e W' => ∃ u k', e = .returned u /\ Sd h n x.h x.n x.r x.w k W k' W' /\ VX k' x.v u := by
  obtain ⟨⟨b, z⟩, hy, e⟩ := bind_some (show (call0X P rn f vs h n).bind (fun y => bif y.e then none else some y.x) = some x from e)
  cases b with
  | true => cases e
  | false =>
    cases e
    exact call0X_ok hrn nn hy
theorem then_ok {f : FT} {h : HT} {n : Nat} {x y z : RC} {a b : Code} (nn : ∀ i, n <= i -> hget h i = none)
    (sa : Ss h n x.h x.n x.r x.w) (oka : ∀ (k : K) (W : World) (a' : Act) (Q : Exit -> Act -> World -> Prop), FR k f a' -> HR k h W x.r -> (∀ i, n <= i -> i < x.n -> k i = none) -> (∀ k' W' a', Sd h n x.h x.n x.r x.w k W k' W' -> FR k' x.f a' -> Q x.e a' W') -> a.wp P Q a' W)
    (sb : Ss x.h x.n y.h y.n y.r y.w) (hz : z = ⟨y.e, y.f, y.h, y.n, Nat.lor x.r y.r, Nat.lor x.w y.w⟩) (he : x.e = .normal)
    {T : (Exit -> Act -> World -> Prop) -> Act -> World -> Prop} (okb : ∀ (k : K) (W : World) (a' : Act) (Q : Exit -> Act -> World -> Prop), FR k x.f a' -> HR k x.h W y.r -> (∀ i, x.n <= i -> i < y.n -> k i = none) -> (∀ k' W' a', Sd x.h x.n y.h y.n y.r y.w k W k' W' -> FR k' y.f a' -> Q y.e a' W') -> T Q a' W) :
    Ss h n z.h z.n z.r z.w /\ ∀ (k : K) (W : World) (a' : Act) (Q : Exit -> Act -> World -> Prop), FR k f a' -> HR k h W z.r -> (∀ i, n <= i -> i < z.n -> k i = none) -> (∀ k' W' a', Sd h n z.h z.n z.r z.w k W k' W' -> FR k' z.f a' -> Q z.e a' W') -> a.wp P (Exit.then (T Q) Q) a' W := by
  have _ := b
  subst hz
  refine ⟨sa.trans sb, fun k W a' Q hf H hnew hk => ?_⟩
  refine oka k W a' _ hf (H.sub fun i hi => tb_or.2 (Or.inl hi)) (fun i h1 h2 => hnew i h1 (Nat.lt_of_lt_of_le h2 sb.le)) (fun k1 W1 a1 hd hf1 => ?_)
  rw [he]
  have H2 := Sd.next sa hd nn H
  refine okb k1 W1 a1 Q hf1 (H2.sub fun i hi => tb_or.2 (Or.inr hi)) (fun i h1 h2 => by rw [hd.dom i (Or.inr h1)]; exact hnew i (Nat.le_trans sa.le h1) h2) (fun k2 W2 a2 hd2 hf2 => hk k2 W2 a2 (Sd.trans sa hd sb hd2 nn H) hf2)
def SW (P : Program) (c d : Code) (Q : Exit -> Act -> World -> Prop) (a : Act) (w : World) : Prop :=
  ∀ (b : Frame) (k : List Item) (cs : List Frame), ∃ e a' w', Q e a' w' /\ Arrives P (lone (b.at a (.code d :: .inScope c :: k)) cs w) b k cs e a' w'
theorem sw_in {c : Code} {Q : Exit -> Act -> World -> Prop} {a : Act} {w : World} (h : SW P c c Q a w) : (Code.scope c).wp P Q a w := fun b k cs => by
  obtain ⟨e, a', w', hq, harr⟩ := h b k cs
  exact ⟨e, a', w', hq, .of_steps (.one step_scope) harr⟩
def toL (l : Nat) (J : Act -> World -> Prop) (Q : Exit -> Act -> World -> Prop) : Exit -> Act -> World -> Prop
  | .goto l', a, w => l' = l /\ J a w
  | e, a, w => Q e a w
theorem sw_go {c d r : Code} {l : Nat} {Q : Exit -> Act -> World -> Prop} {a : Act} {w : World} (hf : findLabel c l = some r) (h : d.wp P (toL l (SW P c r Q) Q) a w) : SW P c d Q a w := fun b k cs => by
  obtain ⟨e, a₁, w₁, hq, harr⟩ := h b (.inScope c :: k) cs
  cases e with
  | normal => exact ⟨.normal, a₁, w₁, hq, Steps.trans harr (.one step_inScope)⟩
  | exit id => exact ⟨.exit id, a₁, w₁, hq, fun k' hk => harr k' (by simp [exitTo, hk])⟩
  | goto l' =>
    obtain ⟨rfl, hJ⟩ := hq
    obtain ⟨e₂, a₂, w₂, hq₂, harr₂⟩ := hJ b k cs
    exact ⟨e₂, a₂, w₂, hq₂, .of_steps (harr _ (by simp [gotoIn, hf])) harr₂⟩
  | ret => exact ⟨_, a₁, w₁, hq, harr⟩
  | panic ch => exact ⟨_, a₁, w₁, hq, harr⟩
  | outgrown => exact ⟨_, a₁, w₁, hq, harr⟩
def noG (Q : Exit -> Act -> World -> Prop) : Exit -> Act -> World -> Prop
  | .goto _, _, _ => False
  | e, a, w => Q e a w
theorem sw_no {c d : Code} {Q : Exit -> Act -> World -> Prop} {a : Act} {w : World} (h : d.wp P (noG Q) a w) : SW P c d Q a w := fun b k cs => by
  obtain ⟨e, a₁, w₁, hq, harr⟩ := h b (.inScope c :: k) cs
  cases e with
  | normal => exact ⟨.normal, a₁, w₁, hq, Steps.trans harr (.one step_inScope)⟩
  | exit id => exact ⟨.exit id, a₁, w₁, hq, fun k' hk => harr k' (by simp [exitTo, hk])⟩
  | goto l' => exact absurd hq id
  | ret => exact ⟨_, a₁, w₁, hq, harr⟩
  | panic ch => exact ⟨_, a₁, w₁, hq, harr⟩
  | outgrown => exact ⟨_, a₁, w₁, hq, harr⟩
theorem jumps_ok {rn : Code -> FT -> HT -> Nat -> Option RC} (hrn : Rn P rn) (c : Code) : ∀ (m : Nat) (d : Code) f h n x, (∀ i, n <= i -> hget h i = none) -> jumps rn c m (rn d f h n) = some x -> Ss h n x.h x.n x.r x.w ∧
    ∀ (k : K) (W : World) (a : Act) (Q : Exit -> Act -> World -> Prop), FR k f a -> HR k h W x.r -> (∀ i, n <= i -> i < x.n -> k i = none) -> (∀ k' W' a', Sd h n x.h x.n x.r x.w k W k' W' -> FR k' x.f a' -> Q x.e a' W') -> SW P c d Q a W := by
  intro m
  induction m with
  | zero => intro d f h n x _ e; cases e
  | succ m ih =>
    intro d f h n x nn e
    obtain ⟨y, hy, e⟩ := bind_some (show (rn d f h n).bind _ = some x from e)
    obtain ⟨sa, oka⟩ := hrn _ _ _ _ _ nn hy
    cases hye : y.e with
    | goto l =>
      rw [hye] at e
      have e : (match findLabel c l with
        | some r => orC (jumps rn c m (rn r y.f y.h y.n)) y.r y.w
        | none => none) = some x := e
      cases hfl : findLabel c l with
      | none => rw [hfl] at e; cases e
      | some r =>
        rw [hfl] at e
        obtain ⟨u, hu, e⟩ := bind_some (show (jumps rn c m (rn r y.f y.h y.n)).bind _ = some x from e)
        rw [force_eq, force_eq] at e
        cases e
        obtain ⟨sb, okb⟩ := ih r y.f y.h y.n u (sa.nn nn) hu
        refine ⟨sa.trans sb, fun k W a Q hf H hnew hk => sw_go hfl ?_⟩
        refine oka k W a _ hf (H.sub fun i hi => tb_or.2 (Or.inl hi)) (fun i h1 h2 => hnew i h1 (Nat.lt_of_lt_of_le h2 sb.le)) (fun k1 W1 a1 hd hf1 => ?_)
        rw [hye]
        have H2 := Sd.next sa hd nn H
        exact ⟨rfl, okb k1 W1 a1 Q hf1 (H2.sub fun i hi => tb_or.2 (Or.inr hi)) (fun i h1 h2 => by rw [hd.dom i (Or.inr h1)]; exact hnew i (Nat.le_trans sa.le h1) h2) (fun k2 W2 a2 hd2 hf2 => hk k2 W2 a2 (Sd.trans sa hd sb hd2 nn H) hf2)⟩
    | _ =>
      rw [hye] at e
      cases e
      refine ⟨sa, fun k W a Q hf H hnew hk => sw_no (oka k W a _ hf H hnew fun k' W' a' hd hf' => ?_)⟩
      have := hk k' W' a' hd hf'
      rw [hye] at this ⊢
      exact this
theorem run_ok {tb' : Tb} (ht : TbOk P tb') (hmo : P.follows .mixedOrders = true) : ∀ fuel, Rn P (run P tb' fuel) /\ ∀ c f h n x, (∀ i, n <= i -> hget h i = none) -> run P tb' fuel (.loop c) f h n = some x -> Ss h n x.h x.n x.r x.w ∧
    ∀ (k : K) (W : World) (a : Act) (Q : Exit -> Act -> World -> Prop), FR k f a -> HR k h W x.r -> (∀ i, n <= i -> i < x.n -> k i = none) -> (∀ k' W' a', Sd h n x.h x.n x.r x.w k W k' W' -> FR k' x.f a' -> Q x.e a' W') -> Code.rounds P c Q fuel a W := by
  intro fuel
  induction fuel with
  | zero => exact ⟨fun c f h n x _ e => (by cases e), fun c f h n x _ e => (by cases e)⟩
  | succ fuel ih =>
    obtain ⟨ih1, ih2⟩ := ih
    have lp : ∀ c f h n x, (∀ i, n <= i -> hget h i = none) -> run P tb' (fuel + 1) (.loop c) f h n = some x -> Ss h n x.h x.n x.r x.w ∧
        ∀ (k : K) (W : World) (a : Act) (Q : Exit -> Act -> World -> Prop), FR k f a -> HR k h W x.r -> (∀ i, n <= i -> i < x.n -> k i = none) -> (∀ k' W' a', Sd h n x.h x.n x.r x.w k W k' W' -> FR k' x.f a' -> Q x.e a' W') -> Code.rounds P c Q (fuel + 1) a W := by
      intro c f h n x nn e
      obtain ⟨y, hy, e'⟩ := thenC_some (show thenC (run P tb' fuel c f h n) (run P tb' fuel (.loop c)) = some x from e)
      obtain ⟨sa, oka⟩ := ih1 _ _ _ _ _ nn hy
      rcases e' with ⟨he, rfl⟩ | ⟨he, u, hu, hx⟩
      · refine ⟨sa, fun k W a Q hf H hnew hk => ?_⟩
        refine oka k W a _ hf H hnew (fun k' W' a' hd hf' => ?_)
        have := hk k' W' a' hd hf'
        cases hxe : x.e with
        | normal => exact absurd hxe he
        | _ => rw [hxe] at this; exact this
      · obtain ⟨sb, okb⟩ := ih2 _ _ _ _ _ (sa.nn nn) hu
        exact then_ok (b := .skip) nn sa oka sb hx he (T := fun Q => Code.rounds P c Q fuel) okb
    refine ⟨fun c f h n x nn e => ?_, lp⟩
    cases c with
    | skip => cases e; exact ⟨Ss.refl _ _, fun k W a Q hf _ _ hk => wp_skip (hk k W a (Sd.refl _ _ _ _) hf)⟩
    | label l => cases e; exact ⟨Ss.refl _ _, fun k W a Q hf _ _ hk => wp_label (hk k W a (Sd.refl _ _ _ _) hf)⟩
    | ret => cases e; exact ⟨Ss.refl _ _, fun k W a Q hf _ _ hk => wp_ret (hk k W a (Sd.refl _ _ _ _) hf)⟩
    | exit i => cases e; exact ⟨Ss.refl _ _, fun k W a Q hf _ _ hk => wp_exit (hk k W a (Sd.refl _ _ _ _) hf)⟩
    | seq c1 c2 =>
      obtain ⟨y, hy, e'⟩ := thenC_some (show thenC (run P tb' fuel c1 f h n) (run P tb' fuel c2) = some x from e)
      obtain ⟨sa, oka⟩ := ih1 _ _ _ _ _ nn hy
      rcases e' with ⟨he, rfl⟩ | ⟨he, u, hu, hx⟩
      · refine ⟨sa, fun k W a Q hf H hnew hk => wp_seq ?_⟩
        refine oka k W a _ hf H hnew (fun k' W' a' hd hf' => ?_)
        have := hk k' W' a' hd hf'
        cases hxe : x.e with
        | normal => exact absurd hxe he
        | _ => rw [hxe] at this; exact this
      · obtain ⟨sb, okb⟩ := ih1 _ _ _ _ _ (sa.nn nn) hu
        obtain ⟨s1, s2⟩ := then_ok (b := c2) nn sa oka sb hx he (T := fun Q => c2.wp P Q) okb
        exact ⟨s1, fun k W a Q hf H hnew hk => wp_seq (s2 k W a Q hf H hnew hk)⟩
    | cond c c1 c2 =>
      obtain ⟨t, ht, e'⟩ := onB_some (show onB (evo f c) (run P tb' fuel c1 f h n) (run P tb' fuel c2 f h n) = some x from e)
      have hc : ∀ (k : K) (a : Act), FR k f a -> a.eval c = .bool t := fun k a hf => by
        have := hf.ev c; rw [ht] at this; exact this.bool_inv
      cases t with
      | true =>
        obtain ⟨sa, oka⟩ := ih1 _ _ _ _ _ nn e'
        exact ⟨sa, fun k W a Q hf H hnew hk => wp_cond_true (hc k a hf) (oka k W a Q hf H hnew hk)⟩
      | false =>
        obtain ⟨sa, oka⟩ := ih1 _ _ _ _ _ nn e'
        exact ⟨sa, fun k W a Q hf H hnew hk => wp_cond_false (hc k a hf) (oka k W a Q hf H hnew hk)⟩
    | block id c =>
      obtain ⟨y, hy, e'⟩ := bind_some (show (run P tb' fuel c f h n).bind (fun x => some ⟨outE id x.e, x.f, x.h, x.n, x.r, x.w⟩) = some x from e)
      cases e'
      obtain ⟨sa, oka⟩ := ih1 _ _ _ _ _ nn hy
      refine ⟨sa, fun k W a Q hf H hnew hk => wp_block (oka k W a _ hf H hnew fun k' W' a' hd hf' => ?_)⟩
      have := hk k' W' a' hd hf'
      cases hye : y.e with
      | exit i =>
        rw [hye] at this
        show if i = id then Q .normal a' W' else Q (.exit i) a' W'
        by_cases hid : i = id
        · have hb : Nat.beq i id = true := by rw [Nat.beq_eq]; exact hid
          simp only [outE, hb, cond_true] at this
          rw [if_pos hid]; exact this
        · have hb : Nat.beq i id = false := by rw [← Bool.not_eq_true, Nat.beq_eq]; exact hid
          simp only [outE, hb, cond_false] at this
          rw [if_neg hid]; exact this
      | _ => rw [hye] at this; exact this
    | loop c =>
      obtain ⟨s1, s2⟩ := lp c f h n x nn e
      exact ⟨s1, fun k W a Q hf H hnew hk => wp_loop_rounds (fuel + 1) (s2 k W a Q hf H hnew hk)⟩
    | region id ops draw =>
      have hcx := call_ok ht ih1
      cases draw with
      | false =>
        have e : opsX P (call P tb' (run P tb' fuel)) ops ops.toList ⟨.normal, f, h, n, 0, 0⟩ = some x := e
        obtain ⟨r, w, h1, h2, ss, ok⟩ := listX_ok hcx _ _ _ rfl nn e
        have hr : ∀ i, tb r i ↔ tb x.r i := fun i => by rw [h1]; exact ⟨Or.inr, fun h => h.resolve_left tb_zero⟩
        have hw : ∀ i, tb w i ↔ tb x.w i := fun i => by rw [h2]; exact ⟨Or.inr, fun h => h.resolve_left tb_zero⟩
        refine ⟨ss.congr hr hw, fun k W a Q hf H hnew hk => wp_region_list (wpL_list _ _ _ (ok k W a Q hf (H.sub fun i hi => (hr i).1 hi) hnew fun k' W' a' hd' hf' => hk k' W' a' (hd'.congr hr hw) hf'))⟩
      | true =>
        cases hreg : regC ops true (opsL P (cfOf (call P tb' (run P tb' fuel))) ops ops.toList ⟨f, h, n, 0, 0, []⟩) with
        | none =>
          have e : orP (regC ops true (opsL P (cfOf (call P tb' (run P tb' fuel))) ops ops.toList ⟨f, h, n, 0, 0, []⟩)) (fun _ => opsP P (call P tb' (run P tb' fuel)) ops f h n) = some x := e
          rw [hreg] at e
          obtain ⟨s1, s2⟩ := panD_ok hcx hmo nn (show opsP P (call P tb' (run P tb' fuel)) ops f h n = some x from e)
          exact ⟨s1, fun k W a Q hf H hnew hk => s2 k W a Q id hf H hnew hk⟩
        | some z =>
          have e : orP (regC ops true (opsL P (cfOf (call P tb' (run P tb' fuel))) ops ops.toList ⟨f, h, n, 0, 0, []⟩)) (fun _ => opsP P (call P tb' (run P tb' fuel)) ops f h n) = some x := e
          rw [hreg] at e
          have e : z = x := by cases e; rfl
          subst e
          obtain ⟨s, hs, e'⟩ := bind_some (show (opsL P (cfOf (call P tb' (run P tb' fuel))) ops ops.toList ⟨f, h, n, 0, 0, []⟩).bind (fun s => bif !true || (drawOk ops && drawn (bef ops) ops.size s.l) then some ⟨.normal, s.f, s.h, s.n, s.r, s.w⟩ else none) = some z from hreg)
          obtain ⟨hd, e'⟩ := bif_some e'
          cases e'
          simp only [Bool.not_true, Bool.false_or, Bool.and_eq_true] at hd
          obtain ⟨s1, s2⟩ := draw_ok (cfOf_ok hcx) hmo nn rfl rfl rfl hs hd.1 hd.2
          exact ⟨s1, fun k W a Q hf H hnew hk => s2 k W a Q id hf H hnew hk⟩
    | rangeFunc _ _ _ _ => cases e
    | scope c =>
      obtain ⟨s1, s2⟩ := jumps_ok ih1 c 100000 c f h n x nn (show jumps (run P tb' fuel) c 100000 (run P tb' fuel c f h n) = some x from e)
      exact ⟨s1, fun k W a Q hf H hnew hk => sw_in (s2 k W a Q hf H hnew hk)⟩
    | goto l => cases e; exact ⟨Ss.refl _ _, fun k W a Q hf _ _ hk => wp_goto (hk k W a (Sd.refl _ _ _ _) hf)⟩
    | refuse _ => cases e
theorem closed {tb' : Tb} (hgt : gtab = []) (ht : TbOk P tb') (hmo : P.follows .mixedOrders = true) {fuel f : Nat} {args : List Value} (ha : args.all cok1 = true) {x : R5} (e : call0 P (run P tb' fuel) f args he12 0 = some x) (W : World) :
    (∀ a w, (callFunc f a).run P w = .ok (.enter f a) w) /\ Calls P f args.toArray W fun r W' => ∃ u k', r = .returned u /\ Sd he12 0 x.h x.n x.r x.w (fun _ => none) W k' W' /\ VX k' x.v u := by
  obtain ⟨_, h2, h3⟩ := call0_ok (run_ok ht hmo fuel).1 (fun i _ => hget_new i) e
  refine ⟨h2, h3 _ W args (fun i g h => by rw [hgt] at h; simp at h) (cokL_vx ha) ⟨fun i _ cs h => ?_, fun i j _ _ hi => ?_⟩ (fun _ _ _ => rfl)⟩
  · rw [hget_new] at h; cases h
  · exact absurd hi (not_live (hget_new i))
theorem closedG {tb' : Tb} (ht : TbOk P tb') (hmo : P.follows .mixedOrders = true) {fuel f n : Nat} {h : HT} {args : List Value} (nn : ∀ i, n <= i -> hget h i = none) (ha : args.all cok1 = true) {x : R5} (e : call0 P (run P tb' fuel) f args h n = some x) {k : K} {W : World} (gk : GK k) (H : HR k h W x.r) (hnew : ∀ i, n <= i -> i < x.n -> k i = none) :
    Calls P f args.toArray W fun r W' => ∃ u k', r = .returned u /\ Sd h n x.h x.n x.r x.w k W k' W' /\ VX k' x.v u :=
  (call0_ok (run_ok ht hmo fuel).1 nn e).2.2 k W args gk (cokL_vx ha) H hnew
theorem apartL_spec : ∀ {l : List Nat}, apartL l = true -> ∀ (i j a : Nat), l[i]? = some a -> l[j]? = some a -> i = j
  | [], _, _, _, _, h, _ => by cases h
  | x :: l, h, i, j, a, hi, hj => by
    simp only [apartL] at h
    cases hc : l.any (Nat.beq x) with
    | true => rw [hc] at h; cases h
    | false =>
      rw [hc] at h
      have hx : ∀ y ∈ l, x ≠ y := fun y hy e => by
        have := List.any_eq_false.1 hc y hy
        rw [Nat.beq_eq] at this
        exact this e
      cases i with
      | zero => cases j with
        | zero => rfl
        | succ j => simp at hi hj; subst hi; exact absurd rfl (hx x (List.mem_of_getElem? hj))
      | succ i => cases j with
        | zero => simp at hi hj; subst hj; exact absurd rfl (hx x (List.mem_of_getElem? hi))
        | succ j => simp at hi hj; rw [apartL_spec h i j a hi hj]
theorem blocksOk_spec {h : HT} {g : Nat -> Nat} : ∀ {is : List Nat} {bs : List (List Value)}, blocksOk h g is bs = true -> is.length = bs.length /\ ∀ (j i : Nat) (b : List Value), is[j]? = some i -> bs[j]? = some b -> hget h i = some (sL g b)
  | [], [], _ => ⟨rfl, fun j i b h => by cases h⟩
  | [], _ :: _, e => by cases e
  | _ :: _, [], e => by cases e
  | i :: is, b :: bs, e => by
    simp only [blocksOk] at e
    cases hc : hget h i with
    | none => rw [hc] at e; cases e
    | some cs =>
      rw [hc] at e
      simp only at e
      cases hl : leq cs (sL g b) with
      | false => rw [hl] at e; cases e
      | true =>
        rw [hl] at e
        obtain ⟨h1, h2⟩ := blocksOk_spec (is := is) (bs := bs) e
        refine ⟨by simp [h1], fun j i' b' hi hb => ?_⟩
        cases j with
        | zero => simp at hi hb; subst hi; subst hb; rw [hc, leq_eq hl]
        | succ j => exact h2 j i' b' (by simpa using hi) (by simpa using hb)
theorem entry {tb' : Tb} (hgt : gtab = []) (hnt : ∀ i, isTab i = false) (ht : TbOk P tb') (hmo : P.follows .mixedOrders = true) {fuel : Nat} {ids : List Nat} {e : En} (h : entOk (call0 P (run P tb' fuel) e.f e.args he12 0) ids e = true) : EnOk P e := by
  unfold entOk at h
  split at h
  · rename_i x hx
    cases h1 : veq2 x.v (s2 (ix ids) e.v) with
    | false => rw [h1] at h; cases h
    | true =>
      rw [h1] at h
      cases h2 : (apartL ids && Nat.ble x.n 4096 && at2 e.v && e.bs.all (·.all at0) && e.args.all flat1) with
      | false => rw [h2] at h; cases h
      | true =>
        rw [h2] at h
        simp only [Bool.and_eq_true, Nat.ble_eq] at h2
        obtain ⟨⟨⟨⟨c1, c2⟩, c3⟩, c4⟩, c5⟩ := h2
        obtain ⟨l1, l2⟩ := blocksOk_spec h
        have hv := veq2_eq h1
        have hfl : e.args.all cok1 = true := by
          rw [List.all_eq_true] at c5 ⊢
          intro v hv
          have := c5 v hv
          cases v <;> first | rfl | cases this
        have cl := fun W => closed (fuel := fuel) hgt ht hmo hfl hx W
        refine ⟨c3, fun b hb => List.all_eq_true.1 c4 b hb, hnt, c5, (cl default).1, fun W => (cl W).2.mono ?_⟩
        rintro r W' ⟨u, k', rfl, hd, hvx⟩
        have hnx : ∀ i, x.n <= i -> k' i = none := fun i hi => hd.dom i (Or.inr hi)
        have hg : ∀ i p, k' (ix ids i) = some p -> (fun i => k' (ix ids i)) i = some p := fun i p h => h
        have hlive : ∀ (j i : Nat) (b : List Value), ids[j]? = some i -> e.bs[j]? = some b -> tb (Nat.lor x.r x.w) i /\ live x.h i := fun j i b hi hb => by
          have h3 := l2 j i b hi hb
          refine ⟨tb_or.2 (Or.inr ?_), ⟨_, h3⟩⟩
          refine Classical.byContradiction fun hn => ?_
          have h4 := (call0_ok (run_ok ht hmo fuel).1 (fun i _ => hget_new i) hx).1.same i hn
          rw [h3, hget_new] at h4
          cases h4
        have hix : ∀ (j i : Nat), ids[j]? = some i -> ix ids j = i := fun j i h => by unfold ix; rw [h]; rfl
        have hnone : ∀ i, e.bs.length <= i -> k' (ix ids i) = none := fun i hi => by
          have : ix ids i = 4096 := by unfold ix; rw [List.getElem?_eq_none (by omega)]; rfl
          rw [this]; exact hnx 4096 c2
        have hgi : ∀ i : Nat, i < e.bs.length -> ∃ a b, ids[i]? = some a /\ e.bs[i]? = some b := fun i hi => ⟨ids[i], e.bs[i], by simp [l1, hi], by simp [hi]⟩
        have hsm : ∀ i p, k' (ix ids i) = some p -> i < e.bs.length := fun i p hp => by
          rcases Nat.lt_or_ge i e.bs.length with h' | h'
          · exact h'
          · rw [hnone i h'] at hp; cases hp
        refine ⟨u, fun i => k' (ix ids i), rfl, r2 hg c3 (by rw [← hv]; exact hvx), hnone, fun i cs hcs => ?_, fun i j b z b' z' hne hb hb' => ?_, fun b hb => hd.frm b hb (fun j z _ hl => absurd hl (not_live (hget_new j))), hd.size, hd.os, hd.tape, hd.output, hd.fz⟩
        · have hi : i < e.bs.length := (List.getElem?_eq_some_iff.1 hcs).1
          obtain ⟨a, b0, ha, hb0⟩ := hgi i hi
          obtain ⟨ht1, hl1⟩ := hlive i a cs ha hcs
          refine ⟨(hd.rep.rep a ht1 _ (l2 i a cs ha hcs)).mono (fun p hp => by show k' (ix ids i) = _; rw [hix i a ha]; exact hp) (fun _ _ _ _ => rfl) (fun us => rL hg (List.all_eq_true.1 c4 cs (List.mem_of_getElem? hcs))) (by rw [hnt, hnt]) (fun h => by rw [hnt] at h; cases h), fun b z e1 => ?_⟩
          have e1 : k' a = some (b, z) := by rw [← hix i a ha]; exact e1
          have han : a < x.n := by
            rcases Nat.lt_or_ge a x.n with h' | h'
            · exact h'
            · rw [hnx a h'] at e1; cases e1
          rcases hd.fresh a b _ (Nat.zero_le _) han hl1 e1 with h' | ⟨j, _, _, h', _⟩
          · exact h'
          · omega
        · have hi := hsm i _ hb
          have hj := hsm j _ hb'
          obtain ⟨a1, b1, ha1, hb1⟩ := hgi i hi
          obtain ⟨a2, b2, ha2, hb2⟩ := hgi j hj
          obtain ⟨t1, l1'⟩ := hlive i a1 b1 ha1 hb1
          obtain ⟨t2, l2'⟩ := hlive j a2 b2 ha2 hb2
          have hb3 : k' a1 = some (b, z) := by rw [← hix i a1 ha1]; exact hb
          have hb4 : k' a2 = some (b', z') := by rw [← hix j a2 ha2]; exact hb'
          exact hd.rep.inj a1 a2 t1 t2 l1' l2' (fun e => hne (apartL_spec c1 i j a1 ha1 (by rw [e]; exact ha2))) (Or.inl (hnt a1)) b z b' z' hb3 hb4
  · cases h
end
end E
end Go.Proofs.YtpabcmaeaiaknaaGreatDoor
namespace Go.Proofs.YtpabcmaeaiaknaaGreatDoor
namespace E
def xadd (vs : List Value) : Option Value := match vs with
  | [.int .u64 x, .int .u64 y, .int .u64 c] => match x with
    | .ofNat x => match y with
      | .ofNat y => match c with
        | .ofNat c => bif Nat.ble c 1 then Go.CheckFast.force (Nat.add (Nat.add x y) c) fun s => Go.CheckFast.force (Nat.mod s 18446744073709551616) fun a => Go.CheckFast.force (Nat.div s 18446744073709551616) fun b => some (.tuple #[.int .u64 (.ofNat a), .int .u64 (.ofNat b)]) else none
        | _ => none
      | _ => none
    | _ => none
  | _ => none
def ixB (c : Nat) : Nat -> List UInt8 -> Int
  | _, [] => -1
  | i, b :: l => bif Nat.beq b.toNat c then .ofNat i else ixB c (Nat.succ i) l
def xix (vs : List Value) : Option Value := match vs with
  | [.string s, .int .u8 c] => match c with
    | .ofNat c => bif Nat.blt c 256 then some (.int .i64 (ixB c 0 s.data.toList)) else none
    | _ => none
  | _ => none
theorem ixB_eq {c : Nat} (hc : c < 256) : ∀ (l : List UInt8) (i : Nat), ixB c i l = if Lib.indexByte l c.toUInt8 = -1 then -1 else Lib.indexByte l c.toUInt8 + i
  | [], i => by simp [ixB, Lib.indexByte]
  | b :: l, i => by
    have ih := ixB_eq hc l (i + 1)
    have hn : ∀ l : List UInt8, -1 <= Lib.indexByte l c.toUInt8 := by
      intro l
      induction l with
      | nil => simp [Lib.indexByte]
      | cons b l ih => simp only [Lib.indexByte]; split <;> (try split) <;> omega
    have := hn l
    by_cases h : b.toNat = c
    · have hb : b = c.toUInt8 := by
        apply UInt8.toNat_inj.1
        rw [h]; simp [Nat.toUInt8, UInt8.toNat_ofNat']; omega
      have h1 : Nat.beq b.toNat c = true := by rw [Nat.beq_eq]; exact h
      have e : Lib.indexByte (b :: l) c.toUInt8 = 0 := by simp only [Lib.indexByte]; rw [if_pos (by simp [hb])]
      rw [e]
      simp [ixB, h1]
    · have h1 : Nat.beq b.toNat c = false := by rw [← Bool.not_eq_true, Nat.beq_eq]; exact h
      have hb : ¬ (b == c.toUInt8) = true := by
        intro h2
        have h2 : b = c.toUInt8 := by simpa using h2
        apply h
        rw [h2]; simp [Nat.toUInt8, UInt8.toNat_ofNat']; omega
      have e : Lib.indexByte (b :: l) c.toUInt8 = if (Lib.indexByte l c.toUInt8 == -1) = true then -1 else Lib.indexByte l c.toUInt8 + 1 := by
        simp only [Lib.indexByte]; rw [if_neg hb]
      have e2 : ixB c i (b :: l) = ixB c (i + 1) l := by simp [ixB, h1]
      rw [e2, ih, e]
      by_cases h3 : Lib.indexByte l c.toUInt8 = -1
      · have h4 : (Lib.indexByte l c.toUInt8 == -1) = true := by rw [h3]; rfl
        rw [if_pos h3, if_pos h4]; rfl
      · have h4 : ¬ (Lib.indexByte l c.toUInt8 == -1) = true := by simpa using h3
        rw [if_neg h3, if_neg h4, if_neg (by omega)]
        omega
theorem xadd_ok {vs : List Value} {v : Value} (h : xadd vs = some v) : vs.all flat1 = true /\ (∀ k : K, VX k v v) /\ ∀ w, (callFunc 280 vs.toArray).run Tryz.prog w = .ok (.value v) w := by
  unfold xadd at h
  split at h
  · rename_i x y c
    split at h
    · rename_i x
      split at h
      · rename_i y
        split at h
        · rename_i c
          obtain ⟨hc, h⟩ := bif_some h
          rw [Nat.ble_eq] at hc
          simp only [Go.CheckFast.force_eq] at h
          cases h
          refine ⟨rfl, fun k => VX.tuple (cs := [_, _]) (us := [_, _]) ⟨_, _, rfl, VX.of0 rfl, _, _, rfl, VX.of0 rfl, rfl⟩, fun w => ?_⟩
          have := run_callFunc_extern (P := Tryz.prog) Tryz.func280 (by kernel_rfl) (by kernel_rfl) (by kernel_rfl) (e := add64Entry) (by kernel_rfl) #[.int .u64 (.ofNat x), .int .u64 (.ofNat y), .int .u64 (.ofNat c)] w
          have h2 := run_add64 (P := Tryz.prog) (.ofNat x) (.ofNat y) (.ofNat c) (Int.natCast_nonneg x) (Int.natCast_nonneg y) (Int.natCast_nonneg c) (by show (c : Int) <= 1; omega) w
          rw [this, h2]
          rfl
        · cases h
      · cases h
    · cases h
  · cases h
theorem xix_ok {vs : List Value} {v : Value} (h : xix vs = some v) : vs.all flat1 = true /\ (∀ k : K, VX k v v) /\ ∀ w, (callFunc 227 vs.toArray).run Tryz.prog w = .ok (.value v) w := by
  unfold xix at h
  split at h
  · rename_i s c
    split at h
    · rename_i c
      obtain ⟨hc, h⟩ := bif_some h
      rw [Nat.blt_eq] at hc
      cases h
      refine ⟨rfl, fun k => VX.of0 rfl, fun w => ?_⟩
      have := run_callFunc_extern (P := Tryz.prog) Tryz.func227 (by kernel_rfl) (by kernel_rfl) (by kernel_rfl) (e := Extern.BytealgIndexByte.indexByte) (by kernel_rfl) #[.string s, .int .u8 (.ofNat c)] w
      have h4 := Lib.run_indexByteString (P := Tryz.prog) s (.ofNat c) w
      have h5 : ixB c 0 s.data.toList = Lib.indexByte s.data.toList (Int.ofNat c).toNat.toUInt8 := by
        rw [ixB_eq hc]
        show _ = Lib.indexByte s.data.toList c.toUInt8
        split
        · rename_i h; rw [h]
        · simp
      rw [h5, this, h4]
      rfl
    · cases h
  · cases h
def tbx : Tb := ⟨[], fun f vs => bif Nat.beq f 280 then xadd vs else bif Nat.beq f 227 then xix vs else none⟩
theorem tbx_ok : TbOk Tryz.prog tbx := by
  refine ⟨fun e h => (by cases h), fun f vs v h => ?_⟩
  have h : (bif Nat.beq f 280 then xadd vs else bif Nat.beq f 227 then xix vs else none) = some v := h
  cases hb : Nat.beq f 280 with
  | true =>
    rw [hb] at h
    rw [Nat.beq_eq] at hb
    subst hb
    exact xadd_ok h
  | false =>
    rw [hb] at h
    obtain ⟨hf, h2⟩ := bif_some (show (bif Nat.beq f 227 then xix vs else none) = some v from h)
    rw [Nat.beq_eq] at hf
    subst hf
    exact xix_ok h2
end E
namespace E
structure T2 (W : World) (g0 g1 : Nat) (l0 l1 : List Value) (b0 o0 b1 o1 : Nat) : Prop where
  c0 : ∃ c ty, W.heap[g0]? = some (.cells #[.slice (some ⟨b0, o0, none⟩) l0.length c] ty (0, 0))
  c1 : ∃ c ty, W.heap[g1]? = some (.cells #[.slice (some ⟨b1, o1, none⟩) l1.length c] ty (0, 0))
  r0 : ∃ pre sp ty, pre.length = o0 /\ W.heap[b0]? = some (.cells (pre ++ l0 ++ sp).toArray ty (0, 0))
  r1 : ∃ pre sp ty, pre.length = o1 /\ W.heap[b1]? = some (.cells (pre ++ l1 ++ sp).toArray ty (0, 0))
  n01 : g0 ≠ g1
  n0 : b0 ≠ g0 /\ b0 ≠ g1
  n1 : b1 ≠ g0 /\ b1 ≠ g1
def k2 (g0 g1 b0 o0 b1 o1 : Nat) : K := fun i => match i with
  | 0 => some (g0, 2)
  | 1 => some (g1, 2)
  | 2 => some (b0, 0)
  | 3 => some (b1, 0)
  | 4098 => some (o0, 0)
  | 4099 => some (o1, 0)
  | _ => none
def h2 (l0 l1 : List Value) : HT := hs12 (hs12 (hs12 (hs12 he12 0 (some [.slice (some ⟨2, 0, some 0⟩) l0.length 1])) 1 (some [.slice (some ⟨3, 0, some 0⟩) l1.length 1])) 2 (some l0)) 3 (some l1)
theorem h2_get (l0 l1 : List Value) (i : Nat) (cs : List Value) (h : hget (h2 l0 l1) i = some cs) : (i = 0 /\ cs = [.slice (some ⟨2, 0, some 0⟩) l0.length 1]) ∨ (i = 1 /\ cs = [.slice (some ⟨3, 0, some 0⟩) l1.length 1]) ∨ (i = 2 /\ cs = l0) ∨ (i = 3 /\ cs = l1) := by
  unfold h2 at h
  by_cases e3 : i = 3
  · subst e3; rw [hget_same _ (by omega)] at h; cases h; exact Or.inr (Or.inr (Or.inr ⟨rfl, rfl⟩))
  rw [hget_ne _ (by omega) (Ne.symm e3)] at h
  by_cases e2 : i = 2
  · subst e2; rw [hget_same _ (by omega)] at h; cases h; exact Or.inr (Or.inr (Or.inl ⟨rfl, rfl⟩))
  rw [hget_ne _ (by omega) (Ne.symm e2)] at h
  by_cases e1 : i = 1
  · subst e1; rw [hget_same _ (by omega)] at h; cases h; exact Or.inr (Or.inl ⟨rfl, rfl⟩)
  rw [hget_ne _ (by omega) (Ne.symm e1)] at h
  by_cases e0 : i = 0
  · subst e0; rw [hget_same _ (by omega)] at h; cases h; exact Or.inl ⟨rfl, rfl⟩
  rw [hget_ne _ (by omega) (Ne.symm e0), hget_new] at h
  cases h
theorem h2_nn (l0 l1 : List Value) : ∀ i, 4 <= i -> hget (h2 l0 l1) i = none := fun i hi => by
  cases h : hget (h2 l0 l1) i with
  | none => rfl
  | some cs => rcases h2_get l0 l1 i cs h with ⟨e, _⟩ | ⟨e, _⟩ | ⟨e, _⟩ | ⟨e, _⟩ <;> omega
theorem T2.hr {W : World} {g0 g1 b0 o0 b1 o1 : Nat} {l0 l1 : List Value} (htb : tabs = [2, 3]) (t : T2 W g0 g1 l0 l1 b0 o0 b1 o1) (q0 : ∀ k : K, LR (VX k) l0 l0) (q1 : ∀ k : K, LR (VX k) l1 l1) (m : Nat) : HR (k2 g0 g1 b0 o0 b1 o1) (h2 l0 l1) W m := by
  have t2 : isTab 2 = true := by unfold isTab; rw [htb]; rfl
  have t3 : isTab 3 = true := by unfold isTab; rw [htb]; rfl
  refine ⟨fun i _ cs h => ?_, fun i j _ _ ⟨ci, li⟩ ⟨cj, lj⟩ hne ht b z b' z' hi hj => ?_⟩
  · rcases h2_get l0 l1 i cs h with ⟨rfl, rfl⟩ | ⟨rfl, rfl⟩ | ⟨rfl, rfl⟩ | ⟨rfl, rfl⟩
    · obtain ⟨c, ty, e⟩ := t.c0
      exact Or.inl ⟨g0, [_], [], ty, rfl, e, ⟨_, [], rfl, VX.of0 (Or.inr ⟨by simp, b0, o0, c, rfl, rfl, rfl⟩), rfl⟩⟩
    · obtain ⟨c, ty, e⟩ := t.c1
      exact Or.inl ⟨g1, [_], [], ty, rfl, e, ⟨_, [], rfl, VX.of0 (Or.inr ⟨by simp, b1, o1, c, rfl, rfl, rfl⟩), rfl⟩⟩
    · obtain ⟨pre, sp, ty, e1, e⟩ := t.r0
      exact Or.inr (Or.inr ⟨t2, b0, pre, cs, sp, ty, rfl, by rw [e1]; rfl, e, q0 _⟩)
    · obtain ⟨pre, sp, ty, e1, e⟩ := t.r1
      exact Or.inr (Or.inr ⟨t3, b1, pre, cs, sp, ty, rfl, by rw [e1]; rfl, e, q1 _⟩)
  · have n01 := t.n01
    have n0 := t.n0
    have n1 := t.n1
    rcases h2_get l0 l1 i ci li with ⟨rfl, _⟩ | ⟨rfl, _⟩ | ⟨rfl, _⟩ | ⟨rfl, _⟩ <;> rcases h2_get l0 l1 j cj lj with ⟨rfl, _⟩ | ⟨rfl, _⟩ | ⟨rfl, _⟩ | ⟨rfl, _⟩ <;>
      first
      | exact absurd rfl hne
      | (cases hi; cases hj; first | exact n01 | exact Ne.symm n01 | exact n0.1 | exact n0.2 | exact n1.1 | exact n1.2 | exact Ne.symm n0.1 | exact Ne.symm n0.2 | exact Ne.symm n1.1 | exact Ne.symm n1.2)
      | (rw [t2, t3] at ht; simp at ht)
      | (rw [t3, t2] at ht; simp at ht)
theorem k2_gk {g0 g1 b0 o0 b1 o1 : Nat} (hgt : gtab = [g0, g1]) : GK (k2 g0 g1 b0 o0 b1 o1) := fun i g h => by
  rw [hgt] at h
  match i, h with
  | 0, h => cases h; exact ⟨1, rfl⟩
  | 1, h => cases h; exact ⟨1, rfl⟩
theorem k2_new {g0 g1 b0 o0 b1 o1 : Nat} (i : Nat) (h1 : 4 <= i) (h2 : i < 4096) : k2 g0 g1 b0 o0 b1 o1 i = none := by
  unfold k2
  split <;> first | omega | rfl
theorem T2.closed {W : World} {g0 g1 b0 o0 b1 o1 : Nat} {l0 l1 : List Value} (hgt : gtab = [g0, g1]) (htb : tabs = [2, 3]) (t : T2 W g0 g1 l0 l1 b0 o0 b1 o1) (q0 : ∀ k : K, LR (VX k) l0 l0) (q1 : ∀ k : K, LR (VX k) l1 l1)
    (hmo : Tryz.prog.follows .mixedOrders = true) {fuel f : Nat} {args : List Value} (ha : args.all cok1 = true) {x : R5} (e : call0 Tryz.prog (run Tryz.prog tbx fuel) f args (h2 l0 l1) 4 = some x) (hx : x.n <= 4096) :
    Calls Tryz.prog f args.toArray W fun r W' => ∃ u k', r = .returned u /\ Sd (h2 l0 l1) 4 x.h x.n x.r x.w (k2 g0 g1 b0 o0 b1 o1) W k' W' /\ VX k' x.v u :=
  closedG tbx_ok hmo (h2_nn l0 l1) ha e (k2_gk hgt) (t.hr htb q0 q1 _) (fun i h1 h2 => k2_new i h1 (by omega))
end E
namespace E
def pol : List Value := [.string ⟨#[]⟩, .string ⟨#[104, 97, 108, 102, 95, 117, 112]⟩, .string ⟨#[104, 97, 108, 102, 95, 101, 118, 101, 110]⟩, .string ⟨#[100, 111, 119, 110]⟩, .string ⟨#[117, 112]⟩, .string ⟨#[102, 108, 111, 111, 114]⟩]
def opw : List Value := [.string ⟨#[]⟩, .string ⟨#[43]⟩, .string ⟨#[45]⟩, .string ⟨#[42]⟩, .string ⟨#[61]⟩, .string ⟨#[33, 61]⟩, .string ⟨#[60]⟩, .string ⟨#[60, 61]⟩, .string ⟨#[62]⟩, .string ⟨#[62, 61]⟩, .string ⟨#[97, 110, 100]⟩, .string ⟨#[111, 114]⟩, .string ⟨#[115, 117, 109]⟩, .string ⟨#[99, 111, 117, 110, 116]⟩, .string ⟨#[109, 105, 110]⟩, .string ⟨#[109, 97, 120]⟩, .string ⟨#[114, 111, 119, 115]⟩]
def okT (x : Option R5) : Bool := match x with
  | some x => Nat.ble x.n 4096 && Nat.beq (Nat.land x.w 3) 0 && (match x.v with
    | .bool b => b
    | _ => false)
  | none => false
set_option maxRecDepth 100000 in
theorem begun_run : okT (call0 Tryz.prog (run Tryz.prog tbx 20000) 10 [] (h2 pol opw) 4) = true := by kernel_rfl
end E
namespace E
theorem lr_str (k : K) : ∀ (l : List ByteArray), LR (VX k) (l.map Value.string) (l.map Value.string)
  | [] => rfl
  | s :: l => ⟨.string s, l.map Value.string, rfl, VX.of0 rfl, lr_str k l⟩
theorem okT_x {o : Option R5} (h : okT o = true) : ∃ x, o = some x /\ x.n <= 4096 /\ Nat.land x.w 3 = 0 /\ ∀ (k : K) (u : Value), VX k x.v u -> u = .bool true := by
  cases o with
  | none => cases h
  | some x =>
    have h : (Nat.ble x.n 4096 && Nat.beq (Nat.land x.w 3) 0 && (match x.v with | .bool b => b | _ => false)) = true := h
    rw [Bool.and_eq_true, Bool.and_eq_true] at h
    refine ⟨x, rfl, Nat.le_of_ble_eq_true h.1.1, Nat.eq_of_beq_eq_true h.1.2, fun k u hu => ?_⟩
    have h3 := h.2
    cases hv : x.v with
    | bool b => rw [hv] at h3 hu; have h3 : b = true := h3; subst h3; exact hu.bool_inv
    | _ => rw [hv] at h3; cases h3
theorem tb_no {w : Nat} (h : Nat.land w 3 = 0) {i : Nat} (hi : i < 2) : ¬ tb w i := by
  unfold tb
  have h1 : (w &&& 3).testBit i = false := by rw [show w &&& 3 = 0 from h]; simp
  rw [Nat.testBit_and] at h1
  have h2 : Nat.testBit 3 i = true := by
    have : i = 0 ∨ i = 1 := by omega
    rcases this with rfl | rfl <;> decide
  rw [h2, Bool.and_true] at h1
  rw [h1]; decide
set_option maxRecDepth 100000 in
theorem beg_ok {W : World} {b0 o0 b1 o1 : Nat} (t : T2 W 0 1 pol opw b0 o0 b1 o1) : Calls Tryz.prog 10 #[] W fun r W' => r = .returned (.bool true) /\ S.Mb W W' := by
  obtain ⟨x, hx, hn, hw, hv⟩ := okT_x begun_run
  refine (T2.closed (l0 := pol) (l1 := opw) rfl rfl t (fun k => lr_str k plw) (fun k => lr_str k Go.Proofs.YtpabcmaeaiaknaaGreatDoor.opw) mo (f := 10) (args := []) rfl hx hn).mono ?_
  rintro r W' ⟨u, k', rfl, hd, hvx⟩
  refine ⟨by rw [hv k' u hvx], ⟨⟨hd.os, hd.tape.1, hd.output, hd.size, fun b hb => hd.frm b hb fun j z hj hl he => ?_⟩, hd.tape.2⟩⟩
  have hs := (call0_ok (run_ok tbx_ok mo 20000).1 (h2_nn pol opw) hx).1
  have h4 : j < 4 := by
    rcases Nat.lt_or_ge j 4 with h | h
    · exact h
    · obtain ⟨cs, hcs⟩ := hl
      rw [h2_nn pol opw j h] at hcs; cases hcs
  have hnt := hs.nt j hj
  have : j = 0 ∨ j = 1 ∨ j = 2 ∨ j = 3 := by omega
  rcases this with rfl | rfl | rfl | rfl
  · exact tb_no hw (by omega) hj
  · exact tb_no hw (by omega) hj
  · cases (show true = false from hnt)
  · cases (show true = false from hnt)
end E
end Go.Proofs.YtpabcmaeaiaknaaGreatDoor
namespace Go.Proofs.YtpabcmaeaiaknaaGreatDoor
open Go.ChangeShapes Go.WideShapes Go.ChangeAt Go.RowKit
open D
structure StrB (W : World) (g : Nat) (ss : List ByteArray) (b o : Nat) : Prop where
  c : ∃ cap ty, W.heap[g]? = some (.cells #[.slice (some ⟨b, o, none⟩) ss.length cap] ty (0, 0))
  r : ∃ cs ty, W.heap[b]? = some (.cells cs ty (0, 0)) /\ ∀ (j : Nat) (s : ByteArray), ss[j]? = some s -> cs[o + j]? = some (.string s)
set_option maxRecDepth 100000 in
theorem sb_of {W : World} {name : String} {rest : List (String × DataW Unit)} {g t : Nat} (ss : List ByteArray) (hne : 0 < ss.length) (hg : Tryz.prog.globalNamed name = some g) (hty : (Tryz.prog.globals[g]?).map (·.type) = some t) (ht : Tryz.prog.underlying t = some (.slice 9))
    (h : laidMet Tryz.prog ((name, strD ss) :: rest) W) : ∃ b o, StrB W g ss b o := by
  obtain ⟨ps, ⟨g', t', cs, fuel, p, q, hg', ht', hvar, hd, _, hps⟩, _, hcl⟩ := h
  obtain rfl := Option.some.inj (hg.symm.trans hg')
  obtain rfl := Option.some.inj (hty.symm.trans ht')
  have hblk : ∃ ty fz, W.heap[g]? = some (.cells cs ty fz) := by
    simp only [World.var?, hg, Option.bind_some] at hvar
    split at hvar
    · rename_i cs' ty fz hx
      cases hvar
      exact ⟨ty, fz, hx⟩
    · cases hvar
  rcases DataW.trod_slice ht hd with ⟨hcs, hx⟩ | ⟨a, len, cap, elems, rest', k, rfl, hcs, hx, hlc, hcm, hlen1, hlen2, hel, _, _⟩
  · exfalso
    unfold strD at hx
    simp at hx
  · unfold strD at hx
    simp only [Prod.mk.injEq, DataW.slice.injEq] at hx
    obtain ⟨⟨hx1, hx2⟩, hp⟩ := hx
    have hlen : elems.length = ss.length := by have := congrArg List.length hx1; simpa using this.symm
    have key : ∀ i s, ss[i]? = some s -> W.cell? (a.add i) = some (.string s) := fun i s hs => by
      have hi : i < len := by have := (List.getElem?_eq_some_iff.1 hs).1; omega
      have h1 := hel i hi
      have h3 : elems[i]? = some (elems[i]'(by omega)) := List.getElem?_eq_getElem (by omega)
      rw [h3, cl_string, Nat.mul_one] at h1
      cases h2 : W.cells? 0 (a.add i) 1 with
      | none => rw [h2] at h1; cases h1
      | some cs' =>
        rw [h2] at h1
        obtain ⟨s', e1, e2, _⟩ := DataW.trod_string Tryz.underlying9 (show DataW.trod (fun _ => ()) Tryz.prog W 0 (fun _ => true) false k 9 cs' = some _ from h1)
        have h5 : (elems.map (·.1))[i]? = some (.lit (.string s'.data.toList)) := by rw [List.getElem?_map, h3, e2]; rfl
        rw [← hx1, List.getElem?_map, hs] at h5
        simp only [Option.map_some, Option.some.injEq, DataW.lit.injEq, Lit.string.injEq] at h5
        have h6 : s' = s := by
          obtain ⟨⟨l'⟩⟩ := s'
          obtain ⟨⟨l⟩⟩ := s
          simp at h5
          rw [h5]
        have h7 := (World.cells?_some h2).2.2 0 (by omega)
        rw [e1, h6] at h7
        exact h7
    obtain ⟨b, o, spot⟩ := a
    have hs : spot = none := by
      obtain ⟨s, hs⟩ : ∃ s, ss[0]? = some s := ⟨_, List.getElem?_eq_getElem hne⟩
      have := World.cell?_spot (key 0 s hs)
      simpa [Addr.add] using this
    subst hs
    have hcs1 : cs = #[.slice (some ⟨b, o, none⟩) len cap] := Array.toList_inj.1 hcs
    have m1 : MemPlace.cell g 0 ∈ ps := by
      rw [hps, hcs1]
      refine List.mem_append_left _ (List.mem_append_left _ ?_)
      show _ ∈ (List.range 1).map _
      exact List.mem_map.2 ⟨0, by simp, rfl⟩
    have m2 : MemPlace.cell b o ∈ ps := by
      rw [hps, hp]
      refine List.mem_append_left _ (List.mem_append_right _ (List.mem_append_left _ ?_))
      rw [cl_string]
      exact List.mem_map.2 ⟨0, by simp; omega, rfl⟩
    obtain ⟨c1, t1, e1⟩ := (hcl g 0 m1).1
    obtain ⟨c2, t2, e2⟩ := (hcl b o m2).1
    obtain ⟨ty, fz, e3⟩ := hblk
    refine ⟨b, o, ⟨cap, t1, ?_⟩, ⟨c2, t2, e2, fun j s hj => ?_⟩⟩
    · rw [e1] at e3
      injection e3 with e3
      injection e3 with e4 e5 e6
      rw [e1, e4, hcs1, show len = ss.length by omega]
    · have := key j s hj
      rw [Addr.add_mid] at this
      simpa [World.cell?, e2] using this
theorem StrB.split {W : World} {g b o : Nat} {ss : List ByteArray} (h : StrB W g ss b o) (hne : 0 < ss.length) : ∃ pre sp ty, pre.length = o /\ W.heap[b]? = some (.cells (pre ++ ss.map Value.string ++ sp).toArray ty (0, 0)) := by
  obtain ⟨cs, ty, e, hc⟩ := h.r
  have hlt : ∀ j, j < ss.length -> o + j < cs.size := fun j hj => by
    obtain ⟨s, hs⟩ : ∃ s, ss[j]? = some s := ⟨_, List.getElem?_eq_getElem hj⟩
    exact (Array.getElem?_eq_some_iff.1 (hc j s hs)).1
  have h0 := hlt (ss.length - 1) (by omega)
  refine ⟨cs.toList.take o, cs.toList.drop (o + ss.length), ty, by rw [List.length_take]; simp; omega, ?_⟩
  rw [e]
  congr 2
  refine Array.ext' ?_
  have hm : (cs.toList.drop o).take ss.length = ss.map Value.string := by
    refine List.ext_getElem? fun j => ?_
    rw [List.getElem?_map]
    rcases Nat.lt_or_ge j ss.length with hj | hj
    · obtain ⟨s, hs⟩ : ∃ s, ss[j]? = some s := ⟨_, List.getElem?_eq_getElem hj⟩
      rw [List.getElem?_take, if_pos hj, List.getElem?_drop, hs]
      have := hc j s hs
      simpa using this
    · rw [List.getElem?_take, if_neg (by omega), List.getElem?_eq_none hj]; rfl
  rw [← hm]
  show cs.toList = _
  rw [List.append_assoc, ← List.drop_drop, List.take_append_drop, List.take_append_drop]
theorem StrB.two {W : World} {g b o : Nat} {ss : List ByteArray} (h : StrB W g ss b o) (h2 : 2 <= ss.length) {g' : Nat} {ss' : List ByteArray} {b' o' : Nat} (k : StrB W g' ss' b' o') : b ≠ g' := fun e => by
  obtain ⟨cs, ty, e1, hc⟩ := h.r
  obtain ⟨cap, ty2, e2⟩ := k.c
  rw [e, e2] at e1
  injection e1 with e1
  injection e1 with e4 e5 e6
  obtain ⟨s, hs⟩ : ∃ s, ss[1]? = some s := ⟨_, List.getElem?_eq_getElem (by omega)⟩
  have h3 := (Array.getElem?_eq_some_iff.1 (hc 1 s hs)).1
  rw [← e4] at h3
  simp at h3
theorem StrB.see {X W : World} {g b o : Nat} {ss : List ByteArray} (h : StrB X g ss b o) (hne : 0 < ss.length) (hs : ∀ (b : Nat) (o : Obj), X.heap[b]? = some o -> o ≠ S.hole X -> W.heap[b]? = some o) : StrB W g ss b o := by
  obtain ⟨cap, ty2, e2⟩ := h.c
  obtain ⟨cs, ty, e1, hc⟩ := h.r
  refine ⟨⟨cap, ty2, hs _ _ e2 fun e => ?_⟩, ⟨cs, ty, hs _ _ e1 fun e => ?_, hc⟩⟩
  · unfold S.hole at e
    injection e with e
    simp at e
  · unfold S.hole at e
    injection e with e
    obtain ⟨s, h0⟩ : ∃ s, ss[0]? = some s := ⟨_, List.getElem?_eq_getElem hne⟩
    have h3 := (Array.getElem?_eq_some_iff.1 (hc 0 s h0)).1
    rw [e] at h3
    simp at h3
theorem t2_of {W : World} {b0 o0 b1 o1 : Nat} (h0 : StrB W 0 plw b0 o0) (h1 : StrB W 1 opw b1 o1) : E.T2 W 0 1 E.pol E.opw b0 o0 b1 o1 where
  c0 := h0.c
  c1 := h1.c
  r0 := h0.split (by decide)
  r1 := h1.split (by decide)
  n01 := by decide
  n0 := ⟨h0.two (by decide) h0, h0.two (by decide) h1⟩
  n1 := ⟨h1.two (by decide) h0, h1.two (by decide) h1⟩
set_option maxRecDepth 100000 in
theorem hbeg_of {w : World} (h : laidMetH Tryz.prog Rows.grammarPrintsUptoRow.laid w) : ∀ W, S.Mb w W -> (∀ (b : Nat) (o : Obj), w.heap[b]? = some o -> o ≠ S.hole w -> W.heap[b]? = some o) -> Calls Tryz.prog 10 #[] W fun r W' => r = .returned (.bool true) /\ S.Mb W W' := by
  have h1 : laidMet Tryz.prog [("math/bits.deBruijn32tab", Rows.laid_math_bits_deBruijn32tab), ("math/bits.deBruijn64tab", Rows.laid_math_bits_deBruijn64tab), ("internal/strconv.uint64pow10", Lib.tabData .u64 Lib.pow10Tab), ("unicode/utf8.acceptRanges", Rows.laid_unicode_utf8_acceptRanges), ("excise/grammar.operators", strD opw), ("excise/grammar.policies", strD plw), ("unicode/utf8.first", Rows.laid_unicode_utf8_first)] w := h
  have h3 := laid_tail (laid_tail (laid_tail (laid_tail h1)))
  obtain ⟨b1, o1, k1⟩ := sb_of (g := 1) (t := 61) opw (by decide) (by kernel_rfl) (by kernel_rfl) Tryz.underlying61 h3
  obtain ⟨b0, o0, k0⟩ := sb_of (g := 0) (t := 61) plw (by decide) (by kernel_rfl) (by kernel_rfl) Tryz.underlying61 (laid_tail h3)
  intro W _ hs
  exact E.beg_ok (t2_of (k0.see (by decide) hs) (k1.see (by decide) hs))
end Go.Proofs.YtpabcmaeaiaknaaGreatDoor
namespace Go.Proofs.YtpabcmaeaiaknaaGreatDoor
open Go.ChangeShapes Go.WideShapes Go.ChangeAt Go.RowKit Go.ChangeMaps
theorem laidOut : laidOutB Tryz.prog = true := by kernel_rfl
theorem trodAll_stays {H : Type} {enc : TypeId × Value -> H} {W W' : World} {sp' : Nat -> Bool} : ∀ {ts : List TypeId} {vs : List Value} {ds : List (DataW H)} {ps : List MemPlace}, (∀ t ∈ ts, Tryz.prog.readableRec t = true /\ t < Tryz.prog.types.size) -> DataW.TrodAll enc Tryz.prog W 0 (fun _ => true) true ts vs ds ps -> (∀ p ∈ ps, W.sameAt W' p) -> (∀ p ∈ ps, sp' p.block = true) -> DataW.TrodAll enc Tryz.prog W' 0 sp' true ts vs ds ps
  | [], [], [], _, _, h, _, _ => h
  | _ :: _, _ :: _, _ :: _, _, hT, ⟨p, q, h1, h2, e⟩, hm, hs => ⟨p, q, WideElems.Trod_stays laidOut (hT _ (List.mem_cons.2 (Or.inl rfl))).1 (hT _ (List.mem_cons.2 (Or.inl rfl))).2 h1 (fun x hx => hm x (by rw [e]; exact List.mem_append_left _ hx)) (fun x hx => hs x (by rw [e]; exact List.mem_append_left _ hx)),
      trodAll_stays (fun t ht => hT t (List.mem_cons.2 (Or.inr ht))) h2 (fun x hx => hm x (by rw [e]; exact List.mem_append_right _ hx)) (fun x hx => hs x (by rw [e]; exact List.mem_append_right _ hx)), e⟩
theorem post_mw {H : Type} {enc : TypeId × Value -> H} {P : Program} {f : Func} {s : ChangeSpec} {apart fresh handsOn : Bool} {W W' : World} {args : Array Value} {v : Value} {ds gs : List (DataW H)} {p : List MemPlace}
    (hW : DataW.Whole enc P f.params.toList s.vars apart W args.toList ds gs p)
    (hres : ∀ (b : Nat) (sp : Nat -> Bool) (hd : Bool), DataW.TrodAll enc P W' b sp hd f.resultTypes.toList (v.resultList f.resultTypes.size) (s.fn H (ds ++ gs)).results [])
    (hargs : ∀ sp : Nat -> Bool, (∀ x ∈ p, sp x.block = true) -> DataW.TrodAll enc P W' 0 sp true f.params.toList args.toList (s.fn H (ds ++ gs)).args p)
    (hvars : ∀ sp : Nat -> Bool, DataW.TrodVars enc P W' sp s.vars (s.fn H (ds ++ gs)).vars []) (hk : Below W.heap.size W W') :
    s.post enc P f apart fresh handsOn false W args v W' :=
  ⟨ds, gs, p, [], p, [], hW, hres _ _ _, hargs _ (fun x hx => by simpa using hW.lt x hx), hvars _, World.keptBut_mono (fun x hx => ⟨hx, Or.inr (Or.inl hx)⟩) (Below.frame hk (· ∈ p)), fun h => by cases h⟩
theorem tys4 : ∀ t ∈ ([45, 31] : List TypeId), Tryz.prog.readableRec t = true /\ t < Tryz.prog.types.size := by
  intro t ht
  simp only [List.mem_cons, List.not_mem_nil, or_false] at ht
  rcases ht with rfl | rfl
  · exact ⟨by kernel_rfl, of_decide_eq_true (by kernel_rfl)⟩
  · exact ⟨by kernel_rfl, of_decide_eq_true (by kernel_rfl)⟩
set_option maxHeartbeats 1000000 in
set_option maxRecDepth 100000 in
theorem prints_owes {H : Type} {enc : TypeId × Value -> H} (F : Stop.Interp) (W : World) (base : Nat) (args : Array Value) (ds gs : List (DataW H)) (before : List MemPlace)
    (hval0 : ∀ (j : Nat) t v, Tryz.f4.params[j]? = some t -> args[j]? = some v -> Value.okWide Tryz.prog W .any base t v)
    (hW : DataW.Whole enc Tryz.prog Tryz.f4.params.toList (Rows.OpenSpec.upto Rows.grammarPrintsSpec).vars false W args.toList ds gs before) (hk : Rows.uptoSmall H (ds ++ gs) = true) (hX : laidMetH Tryz.prog Rows.grammarPrintsUptoRow.laid W) :
    Calls Tryz.prog 4 args W fun e W' => ∃ v, e = .returned v /\ ((Rows.OpenSpec.upto Rows.grammarPrintsSpec).at F).post enc Tryz.prog Tryz.f4 false true false false W args v W' := by
  have hval : ∀ (j : Nat) t v, Tryz.f4.params[j]? = some t -> args[j]? = some v -> Value.okWide Tryz.prog W .any base t v := hval0
  have hW' := hW
  obtain ⟨p, q, hA0, hV, rfl, _, _⟩ := hW
  have hA : DataW.TrodAll enc Tryz.prog W 0 (fun _ => true) true Tryz.f4.params.toList args.toList ds p := hA0
  have hAk := hA
  rw [Tryz.params4] at hA hval
  obtain ⟨v0, v1, d0, d1, p0, p1, rfl, rfl, _, h0, h1⟩ := trodAll_two hA
  obtain ⟨rfl, rfl⟩ := trodVars_none hV
  have hbk : Rows.uptoBulk d0 + Rows.uptoBulk d1 <= 1048576 := by
    have h := of_decide_eq_true hk
    simp only [List.append_nil, Rows.uptoBulkAll] at h
    omega
  obtain ⟨n, y, hL, hn, rfl⟩ := open_df (by omega) (hval 0 45 v0 rfl rfl) h0
  obtain ⟨n2, x, hx, hn2, rfl⟩ := open_ex (by omega) (hval 1 31 v1 rfl rfl) h1
  clear hA0 hval0
  refine (law_prints2 n n2 y x W hL hx (tg_of hX) hn hn2 (hbeg_of hX)).mono fun e W' ⟨he, hg⟩ => ?_
  subst he
  simp only [List.append_nil] at hW'
  have hlt : ∀ x ∈ p, x.block < W.heap.size := fun x hx => by simpa using hW'.lt x hx
  exact ⟨_, rfl, post_mw (s := (Rows.OpenSpec.upto Rows.grammarPrintsSpec).at F) hW' (fun _ _ _ => trodAll_mk1 (shut_bool Tryz.underlying4 _)) (fun sp hsp => trodAll_stays (by rw [Tryz.params4]; exact tys4) hAk (fun x hx => hg.toBelow.same (hlt x hx)) hsp) (fun _ => rfl) hg.toBelow⟩
theorem Tryz.own : ownKnob Tryz.prog.godebug = none := by kernel_rfl
section
variable {H : Type} {enc : TypeId × Value -> H}
theorem rih_cond {a : Assume} {C : Checked} {os : Os} {f : FuncId} {fn : Func} {s : OpenSpec} {k : (H : Type) -> List (DataW H) -> Bool} (hk : s.cond = some k) {F : Stop.Interp} {conds : List PathCond} {apart fresh handsOn again : Bool} {X : World -> Array Value -> Prop}
    (hX : ∀ (w w' : World) (args : Array Value), w.heap = w'.heap -> X w args -> X w' args)
    (own : ownKnob C.prog.godebug = none) (started : os.Started) (noInit : C.prog.inits.idxOf? f = none) (hfn : C.prog.funcs[f]? = some fn)
    (witness : ∃ (w : World) (tape : Tape) (i : Input), w.os = os /\ (w.forCall tape i).Shaped C.prog /\ i.vars = [] /\ Input.okWide C.prog (w.forCall tape i) .any w.heap.size f i ∧
      ((s.pre enc C.prog fn conds apart (w.forCall tape i).memory i.args /\ X (w.forCall tape i).memory i.args) /\ sizedMet enc C.prog fn s apart (w.forCall tape i).memory i.args) /\ a.holds C.prog (lone (Frame.enter C.prog f i.args .normal) [] (w.forCall tape i)))
    (contract : ∀ (W : World) (base : Nat) (args : Array Value) (ds gs : List (DataW H)) (before : List MemPlace),
      (∀ (j : Nat) t v, fn.params[j]? = some t -> args[j]? = some v -> Value.okWide C.prog W .any base t v) ->
      DataW.Whole enc C.prog fn.params.toList s.vars apart W args.toList ds gs before -> k H (ds ++ gs) = true -> X W args ->
      Calls C.prog f args W fun e W' => ∃ v, e = .returned v /\ (s.at F).post enc C.prog fn apart fresh handsOn again W args v W') :
    ReturnsInHanded a C os f .any (fun w args => (s.pre enc C.prog fn conds apart w args /\ X w args) /\ sizedMet enc C.prog fn s apart w args) ((s.at F).post enc C.prog fn apart fresh handsOn again) := by
  refine returnsInHanded_of_calls own started noInit witness ?_
  intro w tape i _ _ _ hok hpre _
  obtain ⟨_, _, _, fn', hfn', _, _, _, _, hval⟩ := hok
  have e : fn' = fn := Option.some.inj (hfn'.symm.trans hfn)
  subst e
  obtain ⟨⟨hp0, hx⟩, _⟩ := hpre
  obtain ⟨ds, gs, before, hw, _, hkk⟩ := (OpenSpec.pre_some hk conds apart _ _).1 hp0
  have hw' := DataW.Whole.of_heap (w' := w.forCall tape i) (by rfl) hw
  refine (contract (w.forCall tape i) w.heap.size i.args ds gs before hval hw' hkk (hX _ _ _ (by rfl) hx)).mono fun e W' ⟨v, he, hp⟩ => ?_
  subst he
  exact ChangeSpec.post_blind hp
theorem wit_cond {C : Checked} {os : Os} {f : FuncId} {fn : Func} {s : OpenSpec} {k : (H : Type) -> List (DataW H) -> Bool} (hk : s.cond = some k) {conds : List PathCond} {apart : Bool} {X : World -> Array Value -> Prop} (modest : Bool) (w0 : World) (args : Array Value) (fuel : Nat) (hos : w0.os = os)
    (hv : (w0.forCall (fun _ _ => 0) ⟨#[], args, []⟩).variablesRefB C.prog = true)
    (hr : ((w0.forCall (fun _ _ => 0) ⟨#[], args, []⟩).heap.toList.drop C.prog.globals.size).take ((begin C.prog (fun _ _ => 0) default).world.heap.size - C.prog.globals.size) =
      (begin C.prog (fun _ _ => 0) default).world.heap.toList.drop C.prog.globals.size)
    (hok : Input.okWideB C.prog (w0.forCall (fun _ _ => 0) ⟨#[], args, []⟩) f ⟨#[], args, []⟩ = true)
    {x : List (DataW H) × List (DataW H) × List MemPlace} (hx : DataW.whole enc C.prog (w0.forCall (fun _ _ => 0) ⟨#[], args, []⟩).memory fn.params.toList s.vars apart args.toList fuel = some x)
    (hconds : conds.all (PathCond.test C.prog ⟨fn.params.toList, x.1, s.bare.plain.varTypes C.prog, x.2.1⟩) = true) (hkk : k H (x.1 ++ x.2.1) = true)
    (hsz : s.bare.sizedB enc C.prog fn apart (w0.forCall (fun _ _ => 0) ⟨#[], args, []⟩).memory args fuel = true)
    (hX : X (w0.forCall (fun _ _ => 0) ⟨#[], args, []⟩).memory args) :
    ∃ (w : World) (tape : Tape) (i : Input), w.os = os /\ (w.forCall tape i).Shaped C.prog /\ i.vars = [] /\ Input.okWide C.prog (w.forCall tape i) .any w.heap.size f i ∧
      ((s.pre enc C.prog fn conds apart (w.forCall tape i).memory i.args /\ X (w.forCall tape i).memory i.args) /\ sizedMet enc C.prog fn s apart (w.forCall tape i).memory i.args) /\ ({ modest := modest } : Assume).holds C.prog (lone (Frame.enter C.prog f i.args .normal) [] (w.forCall tape i)) :=
  ⟨w0, fun _ _ => 0, ⟨#[], args, []⟩, hos, World.shaped_of_RefB hv hr, (Input.okWide_of_okWideB (base := 0) hok).1, (Input.okWide_of_okWideB hok).2,
    ⟨⟨(OpenSpec.pre_some hk conds apart _ _).2 ⟨x.1, x.2.1, x.2.2, DataW.Whole_of_whole hx, hconds, hkk⟩, hX⟩, sizedMet_of_sizedB hsz⟩, by
    simp only [Assume.holds]
    exact ⟨by simp, by simp, fun _ => Modest.zero, by simp, by simp⟩⟩
end

def cellsA (d : DataW Unit) : List Value := match d with
  | .lit (.int k a) => [.int k a]
  | .lit (.string s) => [.string ⟨s.toArray⟩]
  | _ => []
def cellsB (d : DataW Unit) : List Value := match d with
  | .agg l => l.flatMap cellsA
  | d => cellsA d
def cellsD (d : DataW Unit) : List Value := match d with
  | .agg l => l.flatMap cellsB
  | d => cellsA d
def setB (h : Array Obj) (g : Nat) (cs : List Value) : Array Obj := h.modify g fun
  | .cells _ t frozen => .cells cs.toArray t frozen
  | o => o
def layW (w0 : World) : World :=
  { w0 with heap := ((setB (setB (setB (setB (setB (setB (setB w0.heap 0 [.slice (some ⟨w0.heap.size, 0, none⟩) 6 6]) 1 [.slice (some ⟨w0.heap.size + 1, 0, none⟩) 17 17]) 3 (cellsD Rows.laid_internal_strconv_uint64pow10)) 6 (cellsD Rows.laid_math_bits_deBruijn32tab)) 7 (cellsD Rows.laid_math_bits_deBruijn64tab)) 9 (cellsD Rows.laid_unicode_utf8_acceptRanges)) 8 (cellsD Rows.laid_unicode_utf8_first)).push (.cells (plw.map Value.string).toArray 9 (0, 0))).push (.cells (opw.map Value.string).toArray 9 (0, 0)) }
set_option maxRecDepth 100000 in
theorem laidWorld_met (os : Os) (args : Array Value) : laidMetH Tryz.prog Rows.grammarPrintsUptoRow.laid ((layW (World.holding Tryz.prog os ⟨#[], #[], []⟩)).forCall (fun _ _ => 0) ⟨#[], args, []⟩).memory := by
  show laidMet Tryz.prog [("math/bits.deBruijn32tab", Rows.laid_math_bits_deBruijn32tab), ("math/bits.deBruijn64tab", Rows.laid_math_bits_deBruijn64tab), ("internal/strconv.uint64pow10", Rows.laid_internal_strconv_uint64pow10), ("unicode/utf8.acceptRanges", Rows.laid_unicode_utf8_acceptRanges), ("excise/grammar.operators", Rows.laid_excise_grammar_operators), ("excise/grammar.policies", Rows.laid_excise_grammar_policies), ("unicode/utf8.first", Rows.laid_unicode_utf8_first)] _
  exact (LaidIn.of_run (0 :: 1 :: 3 :: 6 :: 7 :: 8 :: 9 :: (World.holding Tryz.prog default ⟨#[], #[], []⟩).heap.size :: ((World.holding Tryz.prog default ⟨#[], #[], []⟩).heap.size + 1) :: []) 8 (by kernel_rfl) (by kernel_rfl) (by kernel_rfl) (by kernel_rfl)).met
end Go.Proofs.YtpabcmaeaiaknaaGreatDoor
