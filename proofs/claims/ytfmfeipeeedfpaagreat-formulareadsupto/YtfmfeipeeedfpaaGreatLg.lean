/-
  Calls that are handed blocks of one's own. Functions that are handed blocks of one's own, and calls of these.
-/
import Derived.Test.YtfmfeipeeedfpaaGreatLf
import Derived.MapKept
namespace Go.Proofs.YtfmfeipeeedfpaaGreat
namespace S
section
variable {P : Program} {w0 : B0} {X : World} {o : Oper} {fr : FT} {h : HT} {n : Nat}
/-- What lies in a block of one's own that is handed over. -/
def Ly (h : HT) (rd : Nat) (W : World) (i b : Nat) : Prop := ∀ cs, hget h i = some cs → tb rd i → cs.all pur1 = true → b < W.heap.size ∧ Lies W b 0 (cs.map den1)
/-- A value that is handed over, as the function sees it. -/
def Arg (h : HT) (rd : Nat) (W : World) (v u : Value) : Prop := match v with
  | .slice (some ⟨i, q, none⟩) len _ => ∃ b cap, u = .slice (some ⟨b, q, none⟩) len cap ∧ len ≤ cap ∧ Ly h rd W i b
  | .pointer (some ⟨i, q, none⟩) => ∃ b, u = .pointer (some ⟨b, q, none⟩) ∧ Ly h rd W i b
  | v => pur2 v = true → u = den2 v
theorem ly_of {k : K} {W : World} {rd i b z : Nat} (H : HR k h W rd) (hk : k i = some (b, z + 1)) : Ly h rd W i b := fun cs hc hr hp => by
  obtain ⟨b2, us, sp, ty, e1, e2, e3⟩ := (H.rep i hr cs hc).cel hk
  rw [hk] at e1; cases e1
  refine ⟨(Array.getElem?_eq_some_iff.1 e2).1, fun j u hj => ?_⟩
  have h6 := LR.map (p := pur1) (d := den1) (fun _ _ h => pur1_eq h) e3 hp
  rw [← h6] at hj
  rw [cell_of e2, Nat.zero_add, List.getElem?_append_left (List.getElem?_eq_some_iff.1 hj).1]; exact hj
theorem arg_of {k : K} {W : World} {rd : Nat} (H : HR k h W rd) {v u : Value} (hv : VX k v u) : Arg h rd W v u := by
  unfold Arg
  split
  · obtain ⟨_, b, z, c, h1, h2, h3, _⟩ := hv.slc_inv
    exact ⟨b, c, h2, h3, ly_of H h1⟩
  · obtain ⟨_, b, z, h1, h2⟩ := hv.ptr_inv
    exact ⟨b, h2, ly_of H h1⟩
  · exact fun hp => pur2_eq hv hp
theorem hr_mb {k : K} {W W' : World} {m : Nat} (H : HR k h W m) (hm : Mb W W') : HR k h W' m := ⟨fun i hi cs hc => by
  exact (H.rep i hi cs hc).mono (fun _ h => h) (fun b _ _ hb => hm.block b hb) (fun _ h => h), H.inj⟩
theorem ss_id (rd : Nat) : Ss h n h n rd 0 := ⟨Nat.le_refl _, fun h => h, fun _ _ => rfl, fun _ h => absurd h tb_zero, fun _ h => absurd h tb_zero, fun _ _ h => h⟩
theorem run_call {a : Act} {f : FuncId} {fn : Func} {xs : Array Operand} {ts : Array TypeId} {W : World} (ho : o.op = .call { callee := .value (.func f), args := xs, argTypes := ts }) (hf : P.funcs[f]? = some fn) (hb : callB fn = true) : (execOp a.eval o).run P W = .ok (.enter f (xs.toList.map a.eval).toArray) W := by
  have : a.eval (.func f) = .func (.func f) #[] #[] := rfl
  simp only [execOp, ho, resolve, this, Deferred.ofValue, invoke, Sem.run_bind, Sem.run_pure, Result.andThen_ok, enter_ok hf hb]
  congr 2
  apply Array.ext'
  simp
/-- A call that comes to a value; rd: what it may look at. -/
theorem r_callA {t : Value} {f : FuncId} {fn : Func} {v : Value} {cal : Callee} {xs : Array Operand} {ts : Array TypeId} (rd : Nat) (ho : o.op = .call { callee := cal, args := xs, argTypes := ts }) (hcal : cal = .value (.func f)) (hf : P.funcs[f]? = some fn)
    (hc : ∀ W us, Mb w0.w W → (∀ a u, X.cell? a = some u → W.cell? a = some u) → LR (Arg h rd W) (evl fr xs.toList) us → Calls P f us.toArray W fun e W' => e = .returned v ∧ Mb W W')
    (hv : den t = v := by rfl) (hb : callB fn = true := by rfl) (ht : pur t = true := by rfl) : Oa (Am w0 X) P o fr h n ⟨t, h, n, rd, 0⟩ := by
  subst hcal
  refine ⟨ss_id rd, fun k W a K' Q hA hop H hnew hk => ?_⟩
  have h8 := evl_rel (fr := fr) (k := k) (a := a) xs.toList (fun y hy => hop y (by rw [ho]; simp [Op.operands, Call.operands]; right; simpa using hy))
  unfold Oper.wp
  rw [run_call ho hf hb, Oper.upon_enter]
  refine (hc W _ ⟨hA.old, hA.dr⟩ (fun a u => hA.cell) (LR.mono (fun v u => arg_of H) _ _ h8)).mono ?_
  rintro e W' ⟨rfl, hm⟩
  refine hk v W' k ⟨fun _ _ h => h, fun _ _ => rfl, (hr_mb H hm).sub (fun i hi => (tb_or.1 hi).elim id (fun h => absurd h tb_zero)), fun b hb _ => hm.block b hb, fun _ _ _ h1 h2 => absurd h2 (by show ¬ _ < n; omega), fun _ _ h => h, hm.size, hm.os, ⟨hm.tape, hm.dr⟩, hm.output⟩ ?_
  rw [← hv]; exact pur_vx ht
/-- A call that makes a new slice; rd: what it may look at. -/
theorem r_callB {f : FuncId} {fn : Func} {len es : Nat} {cells : List Value} {cal : Callee} {xs : Array Operand} {ts : Array TypeId} (rd : Nat) (nn : ∀ i, n ≤ i → hget h i = none) (ho : o.op = .call { callee := cal, args := xs, argTypes := ts }) (hcal : cal = .value (.func f)) (hf : P.funcs[f]? = some fn)
    (hc : ∀ W us, Mb w0.w W → (∀ a u, X.cell? a = some u → W.cell? a = some u) → LR (Arg h rd W) (evl fr xs.toList) us → Calls P f us.toArray W fun e W' => ∃ u, e = .returned u ∧ NewSl W W' u len es cells ∧ Mb W W')
    (hn : Nat.blt n 4096 = true := by rfl) (hb : callB fn = true := by rfl) : Oa (Am w0 X) P o fr h n ⟨.slice (some ⟨n, 0, none⟩) len es, msk (hs12 h n (some (cells.map rel1))) n, n + 1, rd, bit n⟩ := by
  subst hcal
  rw [Nat.blt_eq] at hn
  refine Oa.mask n ?_
  have hcs : hget (hs12 h n (some (cells.map rel1))) n = some (cells.map rel1) := hget_same _ hn
  have hd : ∀ i, i ≠ n → hget (hs12 h n (some (cells.map rel1))) i = hget h i ∨ (tb (bit n) i ∧ hget (hs12 h n (some (cells.map rel1))) i = none) := fun i hi => Or.inl (hget_ne _ hn (Ne.symm hi))
  have hw : ∀ i, tb (bit n) i → i = n ∨ (tb rd i ∧ i < n) := fun i hi => Or.inl (tb_bit.1 hi).symm
  refine ⟨Ss.new (tb_bit.2 rfl) hd hw, fun k W a K' Q hA hop H hnew hk => ?_⟩
  have hkn : k n = none := hnew n (Nat.le_refl _) (Nat.lt_succ_self _)
  have h8 := evl_rel (fr := fr) (k := k) (a := a) xs.toList (fun y hy => hop y (by rw [ho]; simp [Op.operands, Call.operands]; right; simpa using hy))
  unfold Oper.wp
  rw [run_call ho hf hb, Oper.upon_enter]
  refine (hc W _ ⟨hA.old, hA.dr⟩ (fun a u => hA.cell) (LR.mono (fun v u => arg_of H) _ _ h8)).mono ?_
  rintro e W' ⟨u, rfl, ⟨b, cap, sp, ty, rfl, hb1, hb2, hb3, hb4⟩, hm⟩
  have d := Sd.new (h := h) (h' := hs12 h n (some (cells.map rel1))) (n := n) (r := rd) (w := bit n) (k := k) (W := W) (W' := W') (B := b) (us := cells) (sp := sp) (ty := ty) nn hcs hd hw hkn H (Or.inl hb1) hb2 (rels_vx cells) (fun b' _ hlt => hm.block b' hlt) hm.size hm.os ⟨hm.tape, hm.dr⟩ hm.output
  exact hk _ W' _ d (VX.of0 ⟨trivial, b, _, cap, if_pos rfl, rfl, hb3, by show 0 + cap * es ≤ _; omega⟩)
theorem func_inv {k : K} {f : Fn} {u : Value} (h : VX k (.func f #[] #[]) u) : u = .func f #[] #[] := by
  obtain ⟨d, h⟩ := h
  cases d with
  | zero => exact (h : False).elim
  | succ d =>
    obtain ⟨a, c, rfl, h1, h2⟩ := h
    have e1 : a.toList = [] := h1
    have e2 : c.toList = [] := h2
    rw [Array.toList_eq_nil_iff] at e1 e2
    rw [e1, e2]
/-- A call of a function that is a value, with nothing caught. -/
theorem r_callF {t : Value} {f : FuncId} {fn : Func} {v : Value} {us : List Value} {y : Operand} {xs : Array Operand} {ts : Array TypeId} (ho : o.op = .call { callee := .value y, args := xs, argTypes := ts }) (hy : evo fr y = .func (.func f) #[] #[]) (hf : P.funcs[f]? = some fn)
    (hc : ∀ W, Mb w0.w W → (∀ a u, X.cell? a = some u → W.cell? a = some u) → Calls P f us.toArray W fun e W' => e = .returned v ∧ Mb W W')
    (hu : (evl fr xs.toList).map den2 = us := by rfl) (hv : den t = v := by rfl) (hb : callB fn = true := by rfl) (hp : (evl fr xs.toList).all pur2 = true := by rfl) (ht : pur t = true := by rfl) : Oa (Am w0 X) P o fr h n ⟨t, h, n, 0, 0⟩ := by
  subst hu
  refine ⟨Ss.refl h n, fun k W a K' Q hA hop H hnew hk => ?_⟩
  have h8 := evl_rel (fr := fr) (k := k) (a := a) xs.toList (fun y hy => hop y (by rw [ho]; simp [Op.operands, Call.operands]; right; simpa using hy))
  have h9 := LR.map (p := pur2) (d := den2) (fun _ _ h => pur2_eq h) h8 hp
  have h7 : a.eval y = .func (.func f) #[] #[] := func_inv (by rw [← hy]; exact hop y (by rw [ho]; simp [Op.operands, Call.operands]))
  have hrun : (execOp a.eval o).run P W = .ok (.enter f (xs.toList.map a.eval).toArray) W := by
    simp only [execOp, ho, resolve, h7, Deferred.ofValue, invoke, Sem.run_bind, Sem.run_pure, Result.andThen_ok, enter_ok hf hb]
    congr 2
    apply Array.ext'
    simp
  unfold Oper.wp
  rw [hrun, Oper.upon_enter, h9]
  refine (hc W ⟨hA.old, hA.dr⟩ (fun a u => hA.cell)).mono ?_
  rintro e W' ⟨rfl, hm⟩
  refine hk v W' k ⟨fun _ _ h => h, fun _ _ => rfl, HR.none.sub (fun i hi => (tb_or.1 hi).elim id id), fun b hb _ => hm.block b hb, fun _ _ _ h1 h2 => absurd h2 (by show ¬ _ < n; omega), fun _ _ h => h, hm.size, hm.os, ⟨hm.tape, hm.dr⟩, hm.output⟩ ?_
  rw [← hv]; exact pur_vx ht
/-- A look into a map that came. -/
theorem r_look {t u m i : Value} {ty : TypeId} {x y : Operand} {ok : Bool} (ho : o.op = .lookup ty x y ok) (hr : ∀ W, (∀ (b : Nat) (o : Obj), X.heap[b]? = some o → o ≠ hole X → W.heap[b]? = some o) → (Instr.lookup ty m i ok).run P W = .ok u W)
    (hm : den2 (evo fr x) = m := by rfl) (hi : den2 (evo fr y) = i := by rfl) (hx : pur2 (evo fr x) = true := by rfl) (hy : pur2 (evo fr y) = true := by rfl) (hv : den t = u := by rfl) (ht : pur t = true := by rfl) : Oa (Am w0 X) P o fr h n ⟨t, h, n, 0, 0⟩ := by
  subst hm hi hv
  refine Oa.val fun k W a hA hop => ⟨_, pur_vx ht, ?_⟩
  have h1 := pur2_eq (hop x (by rw [ho]; simp [Op.operands])) hx
  have h2 := pur2_eq (hop y (by rw [ho]; simp [Op.operands])) hy
  simp [execOp, ho, h1, h2, hr W hA.see]
end
end S
end Go.Proofs.YtfmfeipeeedfpaaGreat
namespace Go.Proofs.YtfmfeipeeedfpaaGreat
namespace S
open Go.RowKit (Below)
/-- Blocks that lie there under their numbers. -/
structure Ky (k : K) (h : HT) (n : Nat) (W : World) : Prop where
  hr : HR k h W (ones n)
  nn : ∀ i, n ≤ i → hget h i = none
  nk : ∀ i, n ≤ i → k i = none
/-- A world in which all that X tells can be seen, apart from these blocks. -/
structure Sees (X : World) (k : K) (W : World) : Prop where
  see : ∀ (b : Nat) (o : Obj), X.heap[b]? = some o → o ≠ hole X → W.heap[b]? = some o
  out : ∀ i b z, k i = some (b, z) → ∀ o : Obj, X.heap[b]? = some o → o = hole X
  sz : X.heap.size ≤ W.heap.size
/-- Behind a call: the blocks, the first m of them where they were; all else stays. -/
structure Af (k : K) (n m : Nat) (W : World) (k' : K) (h' : HT) (n' : Nat) (W' : World) : Prop where
  ky : Ky k' h' n' W'
  keep : ∀ i, i < m → k' i = k i
  fresh : ∀ i b z, k' i = some (b, z) → W.heap.size ≤ b ∨ ∃ j z', j < n ∧ k j = some (b, z')
  frm : ∀ b, b < W.heap.size → (∀ j z, j < n → k j ≠ some (b, z)) → W'.heap[b]? = W.heap[b]?
  size : W.heap.size ≤ W'.heap.size
  os : W'.os = W.os
  tape : Tp W' W
  output : W'.output = W.output
/-- What a call comes to: of these values and blocks that value, and these blocks. -/
def Ctr (P : Program) (X : World) (f : FuncId) (vs : List Value) (h : HT) (n m : Nat) (t : Value) (h' : HT) (n' : Nat) : Prop :=
  ∀ (W : World) (k : K) (us : List Value), Ky k h n W → Sees X k W → LR (VX k) vs us → Calls P f us.toArray W fun e W' => ∃ u k', e = .returned u ∧ VX k' t u ∧ Af k n m W k' h' n' W'
/-- All of these blocks are there. -/
def full (h : HT) : Nat → Bool
  | 0 => true
  | n + 1 => (hget h n).isSome && full h n
theorem full_at {h : HT} : ∀ {n : Nat}, full h n = true → ∀ i, i < n → ∃ cs, hget h i = some cs
  | 0, _, i, hi => absurd hi (Nat.not_lt_zero i)
  | n + 1, hf, i, hi => by
    simp only [full, Bool.and_eq_true] at hf
    by_cases e : i = n
    · subst e; exact Option.isSome_iff_exists.1 hf.1
    · exact full_at hf.2 i (by omega)
def retC (P : Program) (fn : Func) (X : World) (m : Nat) (t : Value) (h' : HT) (n' : Nat) (e : Exit) (s : St) : Prop := s.X = X ∧ match e with
  | .normal => resK P s.f s.h fn.results.toList fun vs => ∃ σ, fitV σ (single vs) t ∧ fitH σ s.h h' ∧ σ.length = n' ∧ (apartL σ && pfx m σ) = true
  | .ret => resK P s.f s.h fn.results.toList fun vs => ∃ σ, fitV σ (single vs) t ∧ fitH σ s.h h' ∧ σ.length = n' ∧ (apartL σ && pfx m σ) = true
  | _ => False
theorem ex_hole (l : List Obj) : ∃ N : Nat, ∀ o ∈ l, o ≠ .cells #[] N (0, 0) := by
  have key : ∃ N : Nat, ∀ M : Nat, N ≤ M → ∀ o ∈ l, o ≠ .cells #[] M (0, 0) := by
    induction l with
    | nil => exact ⟨0, fun _ _ _ h => by cases h⟩
    | cons x l ih =>
      obtain ⟨N, hN⟩ := ih
      have key : ∃ N' : Nat, ∀ M : Nat, N' ≤ M → x ≠ .cells #[] M (0, 0) := by
        cases x with
        | cells c ty fz => exact ⟨ty + 1, fun M hM e => by cases e; exact absurd hM (Nat.not_succ_le_self _)⟩
        | _ => exact ⟨0, fun M _ e => by cases e⟩
      obtain ⟨N', hN'⟩ := key
      refine ⟨N + N', fun M hM o ho => ?_⟩
      rcases List.mem_cons.1 ho with rfl | ho
      · exact hN' M (by omega)
      · exact hN M (by omega) o ho
  obtain ⟨N, hN⟩ := key
  exact ⟨N, hN N (Nat.le_refl _)⟩
/-- Renamed blocks lie there too. -/
theorem ky_ren {k : K} {h h' : HT} {W : World} {σ : List Nat} {r : Nat} (H : HR k h W r) (hr : ∀ (j i : Nat), σ[j]? = some i → tb r i) (F : fitH σ h h') (ha : apartL σ = true) : Ky (ren σ k) h' σ.length W := by
  have rep : ∀ j, Rp (ren σ k) h' W j := fun j cs hcs => by
    obtain ⟨i, us, h0, h1, h2⟩ := fitH_get F hcs
    exact (H.rep i (hr j i h0) us h1).mono (fun p hp => by rw [ren_at h0]; exact hp) (fun _ _ _ _ => rfl) (fun ws => fitL_rel h2)
  refine ⟨⟨fun i _ => rep i, fun i j _ _ li lj hij b z b' z' ki kj => ?_⟩, fun j hj => ?_, fun j hj => ?_⟩
  · obtain ⟨cs, hcs⟩ := li
    obtain ⟨cs', hcs'⟩ := lj
    obtain ⟨i0, us, h0, h1, _⟩ := fitH_get F hcs
    obtain ⟨j0, us', h0', h1', _⟩ := fitH_get F hcs'
    rw [ren_at h0] at ki
    rw [ren_at h0'] at kj
    exact H.inj i0 j0 (hr i i0 h0) (hr j j0 h0') ⟨us, h1⟩ ⟨us', h1'⟩ (fun e => hij (apartL_spec ha i j i0 h0 (by rw [e]; exact h0'))) b z b' z' ki kj
  · cases e : hget h' j with
    | none => rfl
    | some cs =>
      obtain ⟨i, _, h0, _⟩ := fitH_get F e
      have := (List.getElem?_eq_some_iff.1 h0).1
      omega
  · unfold ren; rw [List.getElem?_eq_none hj]; rfl
section
variable {P : Program}
theorem fn_c {X : World} {f : FuncId} {fn : Func} {c : Code} {h h' : HT} {n m n' : Nat} {t : Value} (vs : List Value) (hf : P.funcs[f]? = some fn) (hb : fn.body = some c) (hm : Nat.ble vs.length fn.ntmps = true) (hfull : full h n = true) (hmn : Nat.ble m n = true)
    (H : ∀ w l X', Xf X' X → WC P ⟨w, m, l⟩ c ⟨⟨fn.ntmps, argl 0 vs⟩, h, n, X'⟩ (retC P fn X' m t h' n')) : Ctr P X f vs h n m t h' n' := by
  intro W k us ky hX hv
  refine calls_of_wp hf hb ?_
  obtain ⟨N, hN⟩ := ex_hole W.heap.toList
  have hN' : ∀ (b' : Nat) (o : Obj), W.heap[b']? = some o → o ≠ .cells #[] N (0, 0) := fun b' o ho => hN o (by
    obtain ⟨hlt, rfl⟩ := Array.getElem?_eq_some_iff.1 ho
    simp)
  have hmn' : m ≤ n := Nat.le_of_ble_eq_true hmn
  have hks : ∀ i, i < n → ∃ b z, k i = some (b, z) ∧ b < W.heap.size := fun i hi => by
    obtain ⟨cs, hcs⟩ := full_at hfull i hi
    exact (ky.hr.rep i (tb_ones.2 hi)).lt ⟨cs, hcs⟩
  let isO : Nat → Prop := fun b => ∃ j z, j < n ∧ k j = some (b, z)
  have dec : ∀ b, Decidable (isO b) := fun b => Classical.propDecidable _
  let X' : World := { W with heap := W.heap.mapIdx (fun b o => @ite Obj (isO b) (dec b) (.cells #[] N (0, 0)) o), drawn := N }
  have hXs : X'.heap.size = W.heap.size := by show (W.heap.mapIdx _).size = _; simp
  have hXo : ∀ b, ¬ isO b → X'.heap[b]? = W.heap[b]? := fun b hb => by
    show (W.heap.mapIdx _)[b]? = _
    rw [Array.getElem?_mapIdx]
    cases W.heap[b]? with
    | none => rfl
    | some o => simp only [Option.map_some, if_neg hb]
  have hXi : ∀ b o, isO b → X'.heap[b]? = some o → o = hole X' := fun b o hb ho => by
    have ho : (W.heap.mapIdx (fun b o => @ite Obj (isO b) (dec b) (.cells #[] N (0, 0)) o))[b]? = some o := ho
    rw [Array.getElem?_mapIdx] at ho
    cases hw : W.heap[b]? with
    | none => rw [hw] at ho; cases ho
    | some o' => rw [hw] at ho; simp only [Option.map_some, if_pos hb] at ho; cases ho; rfl
  have hXf : Xf X' X := by
    refine ⟨by rw [hXs]; exact hX.sz, fun b o h1 h2 => ?_⟩
    have h3 := hX.see b o h1 h2
    have h4 : ¬ isO b := fun ⟨j, z, _, hk⟩ => h2 (hX.out j b z hk o h1)
    exact ⟨by rw [hXo b h4]; exact h3, hN' b o h3⟩
  have R0 : Rl ⟨{ W with heap := #[] }, m, fun i => (k i).getD (0, 0)⟩ ⟨⟨fn.ntmps, argl 0 vs⟩, h, n, X'⟩ k W { tmps := us.toArray ++ Array.replicate (fn.ntmps - us.toArray.size) undef, defers := [] } := by
    refine ⟨args_fr hv (Nat.le_of_ble_eq_true hm), ky.hr, ky.nn, ky.nk, ⟨⟨rfl, rfl, rfl, Nat.zero_le _, fun b hb => absurd hb (Nat.not_lt_zero b)⟩, fun i b z _ => Nat.zero_le _, fun b o h1 h2 => ?_, fun i b z hk o ho => ?_, by rw [hXs]; exact Nat.le_refl _, fun i hi => ?_, Nat.le_refl _⟩⟩
    · have h4 : ¬ isO b := fun hb => h2 (hXi b o hb h1)
      rw [hXo b h4] at h1; exact h1
    · refine hXi b o ⟨i, z, ?_, hk⟩ ho
      rcases Nat.lt_or_ge i n with h' | h'
      · exact h'
      · rw [ky.nk i h'] at hk; cases hk
    · obtain ⟨b, z, hk, _⟩ := hks i (Nat.lt_of_lt_of_le hi hmn')
      show k i = some ((k i).getD (0, 0))
      rw [hk]; rfl
  refine H _ _ X' hXf _ _ _ _ R0 fun e s k1 W' a Rs hC => ?_
  obtain ⟨hX1, hC⟩ := hC
  have key : resK P s.f s.h fn.results.toList (fun vs => ∃ σ, fitV σ (single vs) t ∧ fitH σ s.h h' ∧ σ.length = n' ∧ (apartL σ && pfx m σ) = true) → ∃ u, (results fn a.tmps).run P W' = .ok u W' ∧ (∃ u' k', Ending.returned u = .returned u' ∧ VX k' t u' ∧ Af k n m W k' h' n' W') := fun hC => by
    obtain ⟨vs', u, ⟨σ, g1, g2, g3, g4⟩, h2, h3⟩ := results_run Rs.fr (fun m => Rs.hr.all Rs.nn m) hC
    rw [Bool.and_eq_true] at g4
    obtain ⟨g4, g5⟩ := g4
    have hr0 : ∀ r, HR k1 s.h W' r := fun r => Rs.hr.all Rs.nn r
    have kyf : Ky (ren σ k1) h' n' W' := by
      rw [← g3]
      have rep : ∀ (j i : Nat), σ[j]? = some i → tb (2 ^ (σ.foldl max 0 + 1) - 1) i := fun j i hj => by
        unfold tb
        rw [Nat.testBit_two_pow_sub_one]
        have : ∀ (l : List Nat) (a x : Nat), (x ∈ l ∨ x ≤ a) → x ≤ l.foldl max a := by
          intro l
          induction l with
          | nil => intro a x hx; rcases hx with hx | hx; cases hx; exact hx
          | cons y l ih => intro a x hx; refine ih _ _ ?_; rcases hx with hx | hx
                           · rcases List.mem_cons.1 hx with rfl | hx
                             · exact Or.inr (Nat.le_max_right _ _)
                             · exact Or.inl hx
                           · exact Or.inr (Nat.le_trans hx (Nat.le_max_left _ _))
        have := this σ 0 i (Or.inl (List.mem_of_getElem? hj))
        simp; omega
      exact ky_ren (hr0 _) rep g2 g4
    refine ⟨u, h3, u, ren σ k1, rfl, g1 k1 u h2, kyf, fun i hi => ?_, fun i b z hk => ?_, fun b hb hj => ?_, ?_, Rs.am.old.os, ⟨Rs.am.old.tape, Rs.am.dr⟩, Rs.am.old.output⟩
    · obtain ⟨b, z, hk, _⟩ := hks i (Nat.lt_of_lt_of_le hi hmn')
      rw [ren_at (pfx_at g5 i hi), Rs.am.kp i hi]
      show some ((k i).getD (0, 0)) = k i
      rw [hk]; rfl
    · obtain ⟨i0, _, hk0⟩ := ren_some hk
      rcases Nat.lt_or_ge b W.heap.size with h7 | h7
      · refine Or.inr (Classical.byContradiction fun hne => ?_)
        have hno : ¬ isO b := fun ⟨j, z', h8, h9⟩ => hne ⟨j, z', h8, h9⟩
        have h8 : W.heap[b]? = some W.heap[b] := Array.getElem?_eq_getElem h7
        have := Rs.am.out i0 b _ hk0 _ (by rw [hX1, hXo b hno]; exact h8)
        rw [hX1] at this
        exact hN' b _ h8 this
      · exact Or.inl h7
    · have hno : ¬ isO b := fun ⟨j, z', h8, h9⟩ => hj j z' h8 h9
      have h8 : W.heap[b]? = some W.heap[b] := Array.getElem?_eq_getElem hb
      rw [h8]
      refine Rs.am.see b _ (by rw [hX1, hXo b hno]; exact h8) ?_
      rw [hX1]; exact hN' b _ h8
    · have := Rs.am.sz
      rw [hX1, hXs] at this; exact this
  cases e with
  | normal => obtain ⟨u, h1, h2⟩ := key hC; exact ⟨Rs.fr.df, u, h1, h2⟩
  | ret => obtain ⟨u, h1, h2⟩ := key hC; exact ⟨Rs.fr.df, u, h1, h2⟩
  | _ => exact hC.elim
end
/-! Calling. -/
def unV (τ : List Nat) (t u : Value) : Prop := ∀ k w, VX (ren τ k) t w → VX k u w
def unL (τ : List Nat) : List Value → List Value → Prop
  | [], l => l = []
  | v :: vs, l => ∃ u us, l = u :: us ∧ unV τ v u ∧ unL τ vs us
def unH (τ : List Nat) (h : HT) : Nat → List (Option (List Value)) → Prop
  | _, [] => True
  | j, c :: l => (match c with
    | none => True
    | some cc => match hget h j with
      | some cs => unL τ cs cc
      | none => False) ∧ unH τ h (j + 1) l
def setsH (h : HT) : List (Nat × Option (List Value)) → HT
  | [] => h
  | p :: l => hs12 (setsH h l) p.1 p.2
def mskL (h : HT) : List Nat → HT
  | [] => h
  | i :: l => msk (mskL h l) i
def bitsL : List Nat → Nat
  | [] => 0
  | i :: l => Nat.lor (bit i) (bitsL l)
def upto : Nat → Nat → List Nat
  | _, 0 => []
  | i, m + 1 => i :: upto (i + 1) m
theorem upto_at : ∀ (m i j x : Nat), (upto i m)[j]? = some x ↔ x = i + j ∧ j < m
  | 0, i, j, x => by simp [upto]
  | m + 1, i, 0, x => by simp [upto]; exact ⟨fun h => h.symm, fun h => h.symm⟩
  | m + 1, i, j + 1, x => by
    show (upto (i + 1) m)[j]? = some x ↔ _
    rw [upto_at m (i + 1) j x]
    omega
theorem upto_mem {m i x : Nat} : x ∈ upto i m ↔ i ≤ x ∧ x < i + m := by
  rw [List.mem_iff_getElem?]
  constructor
  · rintro ⟨j, h⟩; have := (upto_at m i j x).1 h; omega
  · intro h; exact ⟨x - i, (upto_at m i (x - i) x).2 (by omega)⟩
theorem upto_len : ∀ m i : Nat, (upto i m).length = m
  | 0, _ => rfl
  | m + 1, i => by simp [upto, upto_len m (i + 1)]
theorem tb_bitsL {i : Nat} : ∀ {l : List Nat}, tb (bitsL l) i ↔ i ∈ l
  | [] => ⟨fun h => absurd h tb_zero, fun h => by cases h⟩
  | x :: l => by
    simp only [bitsL, tb_or, tb_bit, tb_bitsL (l := l), List.mem_cons]
    exact ⟨fun h => h.imp Eq.symm id, fun h => h.imp Eq.symm id⟩
theorem hget_mskL (h : HT) (i : Nat) : ∀ l, hget (mskL h l) i = hget h i
  | [] => rfl
  | x :: l => by simp only [mskL, hget_msk, hget_mskL h i l]
/-- What was put under a number is what was put there, or what was there. -/
theorem sets_get {h : HT} {i : Nat} : ∀ {l : List (Nat × Option (List Value))}, (∀ p ∈ l, p.1 < 4096) → (∃ c, (i, c) ∈ l ∧ hget (setsH h l) i = c) ∨ ((∀ c, (i, c) ∉ l) ∧ hget (setsH h l) i = hget h i)
  | [], _ => Or.inr ⟨fun c h => (by cases h), rfl⟩
  | p :: l, hl => by
    have hp := hl p (by simp)
    by_cases e : p.1 = i
    · subst e; exact Or.inl ⟨p.2, by simp, hget_same _ hp⟩
    · rcases sets_get (h := h) (i := i) (l := l) (fun q hq => hl q (by simp [hq])) with ⟨c, h1, h2⟩ | ⟨h1, h2⟩
      · exact Or.inl ⟨c, by simp [h1], by simp only [setsH]; rw [hget_ne _ hp e]; exact h2⟩
      · refine Or.inr ⟨fun c hc => ?_, by simp only [setsH]; rw [hget_ne _ hp e]; exact h2⟩
        rcases List.mem_cons.1 hc with rfl | hc
        · exact e rfl
        · exact h1 c hc
theorem unH_get {τ : List Nat} {h : HT} : ∀ {l : List (Option (List Value))} {j0 j : Nat} {cc : List Value}, unH τ h j0 l → l[j]? = some (some cc) → ∃ cs, hget h (j0 + j) = some cs ∧ unL τ cs cc
  | [], _, _, _, _, e => by cases e
  | c :: l, j0, j, cc, hu, e => by
    cases j with
    | zero =>
      simp at e; subst e
      have h1 := hu.1
      simp only at h1
      split at h1
      · rename_i cs hcs; exact ⟨cs, hcs, h1⟩
      · exact h1.elim
    | succ j =>
      obtain ⟨cs, h1, h2⟩ := unH_get hu.2 (j := j) (cc := cc) (by simpa using e)
      exact ⟨cs, by rw [show j0 + (j + 1) = j0 + 1 + j by omega]; exact h1, h2⟩
theorem unL_rel {τ : List Nat} {k : K} : ∀ {cs cc us : List Value}, unL τ cs cc → LR (VX (ren τ k)) cs us → LR (VX k) cc us
  | [], _, _, e, r => by rw [e]; exact r
  | v :: vs, _, _, ⟨u, us, e, h1, h2⟩, ⟨w, ws, e', r, q⟩ => by rw [e]; exact ⟨w, ws, e', h1 k w r, unL_rel h2 q⟩
section
variable {P : Program} {w0 : B0} {X : World} {o : Oper} {fr : FT} {hc : HT} {nc : Nat}
theorem r_c {f : FuncId} {fn : Func} {y : Operand} {xs : Array Operand} {ts : Array TypeId} {ca : Array Value} {vs : List Value} {h h' : HT} {n m n' : Nat} {t tc : Value} (σ : List Nat) (cl : List (Option (List Value))) (ms : List Nat)
    (ho : o.op = .call { callee := .value y, args := xs, argTypes := ts }) (hy : evo fr y = .func (.func f) #[] ca) (hctr : Ctr P X f vs h n m t h' n') (ha : fitL σ (evl fr xs.toList ++ ca.toList) vs) (hh : fitH σ hc h) (ht : unV (σ.take m ++ upto nc (n' - m)) t tc) (hu : unH (σ.take m ++ upto nc (n' - m)) h' 0 cl)
    (hf : P.funcs[f]? = some fn := by rfl) (hb : callB fn = true := by rfl)
    (hck : (apartL σ && full h n && Nat.beq σ.length n && Nat.beq cl.length n' && Nat.ble m n && Nat.ble m n' && Nat.ble (nc + (n' - m)) 4096 && σ.all (Nat.blt · nc)) = true := by rfl) :
    Oa (Am w0 X) P o fr hc nc ⟨tc, mskL (setsH hc ((σ.take m ++ upto nc (n' - m)).zip cl ++ (σ.drop m).map (fun i => (i, none)))) ms, nc + (n' - m), bitsL σ, bitsL (σ ++ upto nc (n' - m))⟩ := by
  simp only [Bool.and_eq_true, Nat.beq_eq, Nat.ble_eq, List.all_eq_true, Nat.blt_eq] at hck
  obtain ⟨⟨⟨⟨⟨⟨⟨hap, hfull⟩, hσ⟩, hcl⟩, hmn⟩, hmn'⟩, h4⟩, hlt⟩ := hck
  generalize hτ : σ.take m ++ upto nc (n' - m) = τ at *
  have τat : ∀ (j i : Nat), τ[j]? = some i ↔ (j < m ∧ σ[j]? = some i) ∨ (m ≤ j ∧ j < n' ∧ i = nc + (j - m)) := fun j i => by
    rw [← hτ]
    have hl : (σ.take m).length = m := by rw [List.length_take]; omega
    by_cases hj : j < m
    · rw [List.getElem?_append_left (by omega), List.getElem?_take, if_pos hj]
      exact ⟨fun h => Or.inl ⟨hj, h⟩, fun h => by rcases h with h | h; exact h.2; omega⟩
    · rw [List.getElem?_append_right (by omega), hl, upto_at]
      constructor
      · rintro ⟨h1, h2⟩; exact Or.inr ⟨by omega, by omega, h1⟩
      · rintro (h | ⟨h1, h2, h3⟩)
        · omega
        · exact ⟨h3, by omega⟩
  have τlen : τ.length = n' := by rw [← hτ]; simp [upto_len]; omega
  have σlt : ∀ (j i : Nat), σ[j]? = some i → i < nc := fun j i h => hlt i (List.mem_of_getElem? h)
  generalize hups : τ.zip cl ++ (σ.drop m).map (fun i => (i, none)) = ups
  have upl : ∀ p ∈ ups, p.1 < 4096 := fun p hp => by
    rw [← hups] at hp
    rcases List.mem_append.1 hp with hp | hp
    · have h1 := (List.of_mem_zip hp).1
      obtain ⟨j, hj⟩ := List.mem_iff_getElem?.1 h1
      rcases (τat j _).1 hj with ⟨_, h2⟩ | ⟨h2, h3, h5⟩
      · have := σlt j _ h2; omega
      · omega
    · obtain ⟨i, h1, rfl⟩ := List.mem_map.1 hp
      have := hlt i (List.mem_of_mem_drop h1)
      show i < 4096
      omega
  have upk : ∀ i, (i ∈ σ ∨ i ∈ upto nc (n' - m)) → ∃ c, (i, c) ∈ ups := fun i hi => by
    have inτ : i ∈ τ → ∃ c, (i, c) ∈ ups := fun h => by
      obtain ⟨j, hj⟩ := List.mem_iff_getElem?.1 h
      have hjl := (List.getElem?_eq_some_iff.1 hj).1
      have hc : cl[j]? = some cl[j] := List.getElem?_eq_getElem (by omega)
      refine ⟨cl[j], ?_⟩
      rw [← hups]
      refine List.mem_append.2 (Or.inl (List.mem_iff_getElem?.2 ⟨j, ?_⟩))
      rw [List.getElem?_zip_eq_some]; exact ⟨hj, hc⟩
    rcases hi with hi | hi
    · rw [← List.take_append_drop m σ] at hi
      rcases List.mem_append.1 hi with hi | hi
      · exact inτ (by rw [← hτ]; exact List.mem_append.2 (Or.inl hi))
      · exact ⟨none, by rw [← hups]; exact List.mem_append.2 (Or.inr (List.mem_map.2 ⟨i, hi, rfl⟩))⟩
    · exact inτ (by rw [← hτ]; exact List.mem_append.2 (Or.inr hi))
  have upi : ∀ i c, (i, c) ∈ ups → i ∈ σ ∨ i ∈ upto nc (n' - m) := fun i c h => by
    rw [← hups] at h
    rcases List.mem_append.1 h with h | h
    · have h1 := (List.of_mem_zip h).1
      rw [← hτ] at h1
      rcases List.mem_append.1 h1 with h1 | h1
      · exact Or.inl (List.mem_of_mem_take h1)
      · exact Or.inr h1
    · obtain ⟨i', h1, h2⟩ := List.mem_map.1 h
      cases h2
      exact Or.inl (List.mem_of_mem_drop h1)
  have A : ∀ i, ¬ (i ∈ σ ∨ i ∈ upto nc (n' - m)) → hget (mskL (setsH hc ups) ms) i = hget hc i := fun i hi => by
    rw [hget_mskL]
    rcases sets_get (h := hc) (i := i) upl with ⟨c, h1, _⟩ | ⟨_, h2⟩
    · exact absurd (upi i c h1) hi
    · exact h2
  have B : ∀ i cc, hget (mskL (setsH hc ups) ms) i = some cc → (i ∈ σ ∨ i ∈ upto nc (n' - m)) → ∃ (j : Nat) (cs : List Value), τ[j]? = some i ∧ hget h' j = some cs ∧ unL τ cs cc := fun i cc he hi => by
    rw [hget_mskL] at he
    rcases sets_get (h := hc) (i := i) upl with ⟨c, h1, h2⟩ | ⟨h1, _⟩
    · rw [h2] at he
      subst he
      rw [← hups] at h1
      rcases List.mem_append.1 h1 with h1 | h1
      · obtain ⟨j, hj⟩ := List.mem_iff_getElem?.1 h1
        rw [List.getElem?_zip_eq_some] at hj
        obtain ⟨cs, h3, h5⟩ := unH_get hu hj.2
        rw [Nat.zero_add] at h3
        exact ⟨j, cs, hj.1, h3, h5⟩
      · obtain ⟨i', _, h3⟩ := List.mem_map.1 h1
        cases h3
    · obtain ⟨c, h3⟩ := upk i hi
      exact absurd h3 (h1 c)
  have live0 : ∀ (j i : Nat), σ[j]? = some i → live hc i := fun j i hj => by
    obtain ⟨cs, hcs⟩ := full_at hfull j (by have := (List.getElem?_eq_some_iff.1 hj).1; omega)
    obtain ⟨i', us, h1, h2, _⟩ := fitH_get hh hcs
    rw [hj] at h1; cases h1
    exact ⟨us, h2⟩
  have wm : ∀ i, tb (bitsL (σ ++ upto nc (n' - m))) i ↔ (i ∈ σ ∨ i ∈ upto nc (n' - m)) := fun i => by rw [tb_bitsL, List.mem_append]
  refine ⟨⟨Nat.le_add_right _ _, fun nn i hi => ?_, fun i hi => A i (fun h => hi ((wm i).2 h)), fun i hi hn => ?_, fun i hi => ?_, fun i hi ⟨cs, hl⟩ => ?_⟩, fun k W a K' Q hA hop H hnew hk => ?_⟩
  · have hi : nc + (n' - m) ≤ i := hi
    show hget (mskL (setsH hc ups) ms) i = none
    rw [A i (fun h => by rcases h with h | h; have := hlt i h; omega; have := upto_mem.1 h; omega)]; exact nn i (by omega)
  · rcases (wm i).1 hi with h | h
    · exact tb_bitsL.2 h
    · have := upto_mem.1 h; omega
  · show i < nc + (n' - m)
    rcases (wm i).1 hi with h | h
    · have := hlt i h; omega
    · have := upto_mem.1 h; omega
  · by_cases h : i ∈ σ ∨ i ∈ upto nc (n' - m)
    · rcases h with h | h
      · obtain ⟨j, hj⟩ := List.mem_iff_getElem?.1 h; exact live0 j i hj
      · have := upto_mem.1 h; omega
    · have hl : hget (mskL (setsH hc ups) ms) i = some cs := hl
      rw [A i h] at hl; exact ⟨cs, hl⟩
  · have ky : Ky (ren σ k) h n W := by
      have := ky_ren H (fun j i hj => tb_bitsL.2 (List.mem_of_getElem? hj)) hh hap
      rw [hσ] at this; exact this
    have sees : Sees X (ren σ k) W := ⟨hA.see, fun i b z hk => by obtain ⟨i0, _, h1⟩ := ren_some hk; exact hA.out i0 b z h1, hA.sz⟩
    have h4' := hop y (by rw [ho]; simp [Op.operands, Call.operands])
    rw [hy] at h4'
    obtain ⟨fi, c2, h5, h6, h7⟩ := h4'.func_inv
    have h6' : fi = [] := h6
    subst h6'
    have h8 := evl_rel (fr := fr) (k := k) (a := a) xs.toList (fun y hy => hop y (by rw [ho]; simp [Op.operands, Call.operands]; right; simpa using hy))
    have h9 := fitL_rel ha (h8.app h7)
    have hrun : (execOp a.eval o).run P W = .ok (.enter f (xs.toList.map a.eval ++ c2).toArray) W := by
      simp only [execOp, ho, resolve, h5, Deferred.ofValue, invoke, Sem.run_bind, Sem.run_pure, Result.andThen_ok, enter_ok hf hb]
      congr 2
      apply Array.ext'
      simp
    unfold Oper.wp
    rw [hrun, Oper.upon_enter]
    refine (hctr W _ _ ky sees h9).mono ?_
    rintro e W' ⟨u, k1, rfl, hvx, af⟩
    let k2 : K := fun i => if nc ≤ i ∧ i < nc + (n' - m) then k1 (i - nc + m) else k i
    have kout : ∀ i, ¬ (nc ≤ i ∧ i < nc + (n' - m)) → k2 i = k i := fun i h => if_neg h
    have kin : ∀ i, nc ≤ i → i < nc + (n' - m) → k2 i = k1 (i - nc + m) := fun i h1 h2 => if_pos ⟨h1, h2⟩
    have hτk : ∀ (j i : Nat), τ[j]? = some i → k2 i = k1 j := fun j i hj => by
      rcases (τat j i).1 hj with ⟨h1, h2⟩ | ⟨h1, h2, h3⟩
      · rw [kout i (by have := σlt j i h2; omega), af.keep j h1, ren_at h2]
      · rw [kin i (by omega) (by omega)]; congr 1; omega
    have hren : ren τ k2 = k1 := by
      funext j
      cases hj : τ[j]? with
      | none =>
        have : n' ≤ j := by rw [← τlen]; exact List.getElem?_eq_none_iff.1 hj
        rw [af.ky.nk j this]; unfold ren; rw [hj]; rfl
      | some i => rw [ren_at hj, hτk j i hj]
    have jlt : ∀ (j : Nat) (cs : List Value), hget h' j = some cs → j < n' := fun j cs h => by
      rcases Nat.lt_or_ge j n' with h' | h'
      · exact h'
      · rw [af.ky.nn j h'] at h; cases h
    refine hk u W' k2 ⟨fun i p hp => ?_, fun i hi => kout i (by have hi : i < nc ∨ nc + (n' - m) ≤ i := hi; omega), ⟨fun i hi cs hcs => ?_, fun i i' hi hi' li li' hne b z b' z' kb kb' => ?_⟩, fun b hb hj => ?_, fun i b z h1 h2 hl hk2 => ?_, fun D hD hdj i b z hk2 hDb => ?_, af.size, af.os, af.tape, af.output⟩ (ht k2 u (by rw [hren]; exact hvx))
    · rw [kout i (fun h => by rw [hnew i h.1 h.2] at hp; cases hp)]; exact hp
    · have hi' : i ∈ σ ∨ i ∈ upto nc (n' - m) := by
        rcases tb_or.1 hi with h | h
        · exact Or.inl (tb_bitsL.1 h)
        · exact (wm i).1 h
      obtain ⟨j, cs', g1, g2, g3⟩ := B i cs hcs hi'
      refine (af.ky.hr.rep j (tb_ones.2 (jlt j cs' g2)) cs' g2).mono (fun p hp => by rw [hτk j i g1]; exact hp) (fun _ _ _ _ => rfl) (fun us hus => unL_rel g3 (by rw [hren]; exact hus))
    · have mem : ∀ i, tb (Nat.lor (bitsL σ) (bitsL (σ ++ upto nc (n' - m)))) i → i ∈ σ ∨ i ∈ upto nc (n' - m) := fun i hi => by
        rcases tb_or.1 hi with h | h
        · exact Or.inl (tb_bitsL.1 h)
        · exact (wm i).1 h
      obtain ⟨c1, e1⟩ := li
      obtain ⟨c1', e1'⟩ := li'
      obtain ⟨j, cs, g1, g2, _⟩ := B i c1 e1 (mem i hi)
      obtain ⟨j', cs', g1', g2', _⟩ := B i' c1' e1' (mem i' hi')
      rw [hτk j i g1] at kb
      rw [hτk j' i' g1'] at kb'
      exact af.ky.hr.inj j j' (tb_ones.2 (jlt j cs g2)) (tb_ones.2 (jlt j' cs' g2')) ⟨cs, g2⟩ ⟨cs', g2'⟩ (fun e => hne (by rw [e, g1'] at g1; cases g1; rfl)) b z b' z' kb kb'
    · refine af.frm b hb fun j z hjn hkj => ?_
      obtain ⟨i, g1, g2⟩ := ren_some hkj
      exact hj i z ((wm i).2 (Or.inl (List.mem_of_getElem? g1))) (live0 j i g1) g2
    · rw [kin i h1 h2] at hk2
      rcases af.fresh _ b z hk2 with h | ⟨j, z', hjn, hkj⟩
      · exact Or.inl h
      · obtain ⟨i0, g1, g2⟩ := ren_some hkj
        refine Or.inr ⟨i0, z', (wm i0).2 (Or.inl (List.mem_of_getElem? g1)), σlt j i0 g1, live0 j i0 g1, fun ⟨cc, hcc⟩ => ?_, g2⟩
        obtain ⟨q, cs, q1, q2, _⟩ := B i0 cc hcc (Or.inl (List.mem_of_getElem? g1))
        obtain ⟨cc', hcc'⟩ := hl
        obtain ⟨q', cs', q1', q2', _⟩ := B i cc' hcc' (Or.inr (upto_mem.2 ⟨h1, h2⟩))
        have e0 : k1 q = some (b, z') := by rw [← hτk q i0 q1, kout i0 (by have := σlt j i0 g1; omega)]; exact g2
        have e1 : k1 q' = some (b, z) := by rw [← hτk q' i q1', kin i h1 h2]; exact hk2
        have := σlt j i0 g1
        exact af.ky.hr.inj q q' (tb_ones.2 (jlt q cs q2)) (tb_ones.2 (jlt q' cs' q2')) ⟨cs, q2⟩ ⟨cs', q2'⟩ (fun e => by rw [e, q1'] at q1; cases q1; omega) b z' b z e0 e1 rfl
    · by_cases hr : nc ≤ i ∧ i < nc + (n' - m)
      · rw [kin i hr.1 hr.2] at hk2
        rcases af.fresh _ b z hk2 with h | ⟨j, z', hjn, hkj⟩
        · have := hD _ hDb; omega
        · obtain ⟨i0, _, g2⟩ := ren_some hkj; exact hdj i0 b z' g2 hDb
      · rw [kout i hr] at hk2; exact hdj i b z hk2 hDb
end
end S
end Go.Proofs.YtfmfeipeeedfpaaGreat
