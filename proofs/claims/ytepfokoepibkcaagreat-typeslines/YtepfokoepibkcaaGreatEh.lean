/-
  Appends, bytes as a text, calls; every operation.
-/
import Derived.Test.YtepfokoepibkcaaGreatEg
namespace Go.Proofs.YtepfokoepibkcaaGreat
namespace E
open Go.CheckFast (force force_eq)
section
variable {P : Program} {o : Oper} {fr : FT} {h : HT} {n : Nat} {x : R5}
theorem apOk_some {e m : Nat} (hh : apOk P e m = true) : ∃ i z, P.info? e = some i ∧ i.zero = some z ∧ i.bytes ≤ 100000 ∧ z.cells.size = m := by
  unfold apOk at hh
  split at hh
  · rename_i i hi
    split at hh
    · rename_i z hz
      simp only [Bool.and_eq_true, Nat.ble_eq, Nat.beq_eq] at hh
      exact ⟨i, z, hi, hz, hh.1, by rw [← hh.2]; simp⟩
    · cases hh
  · cases hh
theorem pair_inv {R : Value → Value → Prop} {a b : Value} {l : List Value} (h : LR R [a, b] l) : ∃ u v, l = [u, v] ∧ R a u ∧ R b v := by
  obtain ⟨u, _, rfl, h1, v, _, rfl, h2, rfl⟩ := h
  exact ⟨u, v, rfl, h1, h2⟩
theorem oAp2_some {sz b m : Nat} {zs : List Value} {v : Value} (e : oAp2 h n sz v b m zs = some x) : (v = .slice none 0 0 ∧ oNew h n (.slice (some ⟨n, 0, none⟩) m sz) zs (bit b) 0 = some x) ∨
    ∃ a len es cs, v = .slice (some ⟨a, 0, none⟩) len es ∧ hget h a = some cs ∧ cs.length = len * sz ∧ es = sz ∧ a ≠ b ∧ len ≤ 10000 ∧ oNew (hs12 h a none) n (.slice (some ⟨n, 0, none⟩) (len + m) sz) (cs ++ zs) (Nat.lor (bit a) (bit b)) (bit a) = some x := by
  unfold oAp2 at e
  split at e
  · exact Or.inl ⟨rfl, e⟩
  · rename_i a len es
    obtain ⟨cs, hcs, e⟩ := bind_some e
    obtain ⟨hc3, e⟩ := bif_some e
    simp only [Bool.and_eq_true, Nat.beq_eq, Nat.ble_eq, Bool.not_eq_true'] at hc3
    obtain ⟨⟨⟨d1, d2⟩, d3⟩, d4⟩ := hc3
    exact Or.inr ⟨a, len, es, cs, rfl, hcs, d1, d2, fun e => by subst e; simp at d3, d4, by rw [force_eq] at e; exact e⟩
  · cases e
theorem s_app {ts : Array TypeId} {xs : Array Operand} (ho : o.op = .call { callee := .builtin .append, args := xs, argTypes := ts }) (nn : ∀ i, n ≤ i → hget h i = none) (e : oApp P ts.toList (evl fr xs.toList) h n = some x) : Oo P o fr h n x := by
  unfold oApp at e
  split at e
  · rename_i t t' hts
    split at e
    · rename_i vx vy hvs
      split at e
      · rename_i e' hu
        obtain ⟨htt, e9⟩ := bif_some e
        clear e
        rw [Nat.beq_eq] at htt
        subst htt
        have e := e9
        obtain ⟨sz, hsz, e⟩ := bind_some e
        obtain ⟨b, q, m, bs, hy, e⟩ := onS_some e
        obtain ⟨hc, e⟩ := bif_some e
        simp only [Bool.and_eq_true, Nat.beq_eq, Nat.blt_eq] at hc
        obtain ⟨⟨c1, c2⟩, c3⟩ := hc
        obtain ⟨us, hus, e⟩ := bind_some e
        obtain ⟨zs, hzs, e⟩ := bind_some e
        obtain ⟨hc2, e⟩ := bif_some e
        simp only [Bool.and_eq_true, Nat.ble_eq] at hc2
        obtain ⟨⟨c4, c5⟩, c6⟩ := hc2
        obtain ⟨ie, z, hie, hzi, hby, hzsz⟩ := apOk_some c5
        obtain ⟨ie2, hie2, hse⟩ := szOf_info hsz
        rw [hie] at hie2; cases hie2
        obtain ⟨t1, t2⟩ := take'_some hzs
        rw [drop'_eq] at t1
        have hta : ts = #[t, t] := by apply Array.ext'; rw [hts]
        -- the operands
        have args : ∀ (k : K) (a : Act), (∀ y ∈ o.op.operands.toList, VX k (evo fr y) (a.eval y)) → ∃ u1 u2, xs.map a.eval = #[u1, u2] ∧ VX k vx u1 ∧ VX k vy u2 := by
          intro k a hop
          have h1 := evl_rel (fr := fr) (k := k) (a := a) xs.toList (fun y hy => hop y (by rw [ho]; simpa [Op.operands, Call.operands] using hy))
          rw [hvs] at h1
          obtain ⟨u, v, h2, h3, h4⟩ := pair_inv h1
          exact ⟨u, v, by apply Array.ext'; simpa using h2, h3, h4⟩
        -- what is put behind
        have srcs : ∀ (k : K) (W : World) (u2 : Value) (mm : Nat), HR k h W mm → tb mm b → VX k vy u2 → ∃ news, LR (VX k) zs news ∧ Src P ie.size t u2 m news W := by
          intro k W u2 mm H hb hv
          rw [hy] at hv
          obtain ⟨_, b', zz, c, hkb, h7, _⟩ := hv.slc_inv
          obtain ⟨b2, vs, sp, ty, e1, e2, e3⟩ := H.rep b hb us hus
          have hkb' : k b = some (b', zz) := hkb
          rw [hkb'] at e1; cases e1
          have h3 : LR (VX k) zs ((vs.drop q).take (m * sz)) := by rw [t1]; exact (e3.drop q).take _
          refine ⟨_, h3, ?_⟩
          rw [h7]
          refine Src.ofSlice W hu _ m c _ (by rw [h3.len, t2, hse]) (fun j u hu' => ?_) (ones_rel h3 c4)
          rw [Addr.add_mid, cell_of e2]
          rw [List.getElem?_take] at hu'
          split at hu'
          · rw [List.getElem?_drop] at hu'
            rw [List.getElem?_append_left (List.getElem?_eq_some_iff.1 hu').1]; exact hu'
          · cases hu'
        have exec : ∀ (a : Act) (W : World) (u1 u2 u : Value) (W' : World), xs.map a.eval = #[u1, u2] → (Builtin.append_ #[t, t] o.type #[u1, u2]).run P W = .ok u W' → (execOp a.eval o).run P W = .ok (.value u) W' := by
          intro a W u1 u2 u W' h1 h2
          simp only [execOp, ho, resolve, invoke, builtin, Sem.run_bind, Sem.run_pure, Result.andThen_ok, h1, hta, h2]
        have hbb : b < 4096 := hget_lt hus
        rcases oAp2_some e with ⟨hx, e⟩ | ⟨a, len, es, cs, hx, hcs, d1, d2, d3', d4, e⟩
        · -- nothing was there
          refine new_ok nn e fun k W a hop H => ?_
          obtain ⟨u1, u2, h1, h2, h3⟩ := args k a hop
          rw [hx] at h2
          have h4 := h2.nilslc_inv
          obtain ⟨news, h5, h6⟩ := srcs k W u2 _ H (tb_bit.2 rfl) h3
          have hfit : Builtin.nextslicecap (0 + m) 0 * ie.bytes ≤ 281474976710656 := growslice_fits (by omega) (by
            have : (0 + m) * ie.bytes ≤ 10000 * 100000 := Nat.mul_le_mul (by omega) hby
            omega)
          have hrun := run_append_grow_src (P := P) W t t o.type e' ie z hu hie hzi none 0 0 [] (by simp [Builtin.firstCells]) u2 m news h6 (by omega) (by omega) hfit
          rw [← h4] at hrun
          have hge := grownCap_ge W (0 + m) 0 e'
          have hsp : (Builtin.zeroCells z.cells (grownCap W (0 + m) 0 e' - (0 + m))).toList.length = (grownCap W (0 + m) 0 e' - (0 + m)) * sz := by
            rw [Array.length_toList, size_zeroCells, hzsz]
          have hnl : news.length = m * sz := by rw [h6.newsLen, hse]
          refine ⟨news, (Builtin.zeroCells z.cells (grownCap W (0 + m) 0 e' - (0 + m))).toList, e', _, _, h5, exec a W u1 u2 _ _ h1 hrun, ?_, rfl, rfl, rfl, fun k' _ hk' => ?_⟩
          · show W.heap.push _ = _
            congr 2
            apply Array.ext'
            simp
          · refine VX.of0 ⟨rfl, W.heap.size, _, grownCap W (0 + m) 0 e', hk', by rw [Nat.zero_add], by omega, ?_⟩
            rw [hsp, hnl]
            show 0 + grownCap W (0 + m) 0 e' * sz ≤ _
            have : m * sz + (grownCap W (0 + m) 0 e' - (0 + m)) * sz = grownCap W (0 + m) 0 e' * sz := by rw [← Nat.add_mul]; congr 1; omega
            omega
        · -- a slice that is let go
          obtain ⟨hn4, rfl⟩ := oNew_some e
          have ha4 := hget_lt hcs
          have han : a < n := by
            rcases Nat.lt_or_ge a n with h' | h'
            · exact h'
            · rw [nn a h'] at hcs; cases hcs
          have hcs' : hget (hs12 (hs12 h a none) n (some (cs ++ zs))) n = some (cs ++ zs) := hget_same _ hn4
          have hdead : hget (hs12 (hs12 h a none) n (some (cs ++ zs))) a = none := by rw [hget_ne _ hn4 (by omega), hget_same _ ha4]
          have hwa : tb (Nat.lor (bit a) (bit n)) a := tb_or.2 (Or.inl (tb_bit.2 rfl))
          have hd : ∀ i, i ≠ n → hget (hs12 (hs12 h a none) n (some (cs ++ zs))) i = hget h i ∨ (tb (Nat.lor (bit a) (bit n)) i ∧ hget (hs12 (hs12 h a none) n (some (cs ++ zs))) i = none) := fun i hi => by
            by_cases ea : i = a
            · subst ea; exact Or.inr ⟨hwa, hdead⟩
            · left; rw [hget_ne _ hn4 (Ne.symm hi), hget_ne _ ha4 (Ne.symm ea)]
          have hw : ∀ i, tb (Nat.lor (bit a) (bit n)) i → i = n ∨ (tb (Nat.lor (bit a) (bit b)) i ∧ i < n) := fun i hi => by
            rcases tb_or.1 hi with h' | h'
            · have := tb_bit.1 h'; subst this; exact Or.inr ⟨tb_or.2 (Or.inl (tb_bit.2 rfl)), han⟩
            · exact Or.inl (tb_bit.1 h').symm
          refine ⟨Ss.new tb_n hd hw, fun k W act K' Q hop H hnew hk => ?_⟩
          have hkn : k n = none := hnew n (Nat.le_refl _) (Nat.lt_succ_self _)
          obtain ⟨u1, u2, h1, h2, h3⟩ := args k act hop
          rw [hx] at h2
          obtain ⟨_, a', zz, cap, hka, h4, hcap, hfitz⟩ := h2.slc_inv
          obtain ⟨news, h5, h6⟩ := srcs k W u2 _ H (tb_or.2 (Or.inr (tb_bit.2 rfl))) h3
          obtain ⟨a2, vs, sp, ty, e1, e2, e3⟩ := H.rep a (tb_or.2 (Or.inl (tb_bit.2 rfl))) cs hcs
          have hka' : k a = some (a', zz) := hka
          have haa : a2 = a' ∧ vs.length + sp.length = zz := by rw [hka'] at e1; cases e1; exact ⟨rfl, rfl⟩
          obtain ⟨rfl, hzz⟩ := haa
          have hvl : vs.length = len * sz := by rw [e3.len, d1]
          have hnl : news.length = m * sz := by rw [h6.newsLen, hse]
          have hes : es = sz := d2
          subst hes
          have hfit' : cap * es ≤ zz := by have : 0 + cap * es ≤ zz := hfitz; omega
          by_cases hroom : len + m ≤ cap
          · have hle : (len + m) * es ≤ cap * es := Nat.mul_le_mul_right _ hroom
            have hle2 : len * es + m * es = (len + m) * es := (Nat.add_mul _ _ _).symm
            have hrun := run_append_room_src (P := P) W t t o.type e' ie hu hie a2 0 len cap u2 m news h6 hroom (fun j hj => by
                rw [cell_of e2, hse, List.getElem?_eq_getElem (by simp; omega)]; rfl) (fun j _ => fz_of e2 _)
            rw [← h4] at hrun
            unfold Oper.wp
            rw [exec act W u1 u2 _ _ h1 hrun, Oper.upon_value]
            have hset := heap_setCells (b := a2) (ty := ty) news (0 + len * ie.size) W (vs ++ sp) e2 (by rw [hse]; simp; omega)
            rw [hse, Nat.zero_add] at hset
            have hshape : (vs ++ sp).take (len * es) ++ news ++ (vs ++ sp).drop (len * es + news.length) = (vs ++ news) ++ sp.drop (m * es) := by
              rw [← hvl, List.take_left, hnl, List.drop_append]
              simp
            rw [hshape] at hset
            have dd := Sd.new (h := h) (n := n) (k := k) (W := W) (W' := W.setCells a2 (len * es) news) (B := a2) (us := vs ++ news) (sp := sp.drop (m * es)) (ty := ty) nn hcs' hd hw hkn H
              (Or.inr ⟨a, zz, hwa, han, ⟨cs, hcs⟩, not_live hdead, hka'⟩) hset (e3.app h5) (fun c hc _ => heap_setCells_other hc _ _) (by rw [size_setCells]; exact Nat.le_refl _) (rest_setCells _ _ _ _).1 (rest_setCells _ _ _ _).2.1 (rest_setCells _ _ _ _).2.2 (fun a => World.frozen?_setCells _ _ _ _ _)
            have hW : W.setCells a2 (0 + len * ie.size) news = W.setCells a2 (len * es) news := by rw [hse, Nat.zero_add]
            rw [hW]
            refine hk _ _ _ dd (VX.of0 ⟨rfl, a2, _, cap, if_pos rfl, rfl, hroom, ?_⟩)
            simp only [List.length_append, List.length_drop]
            show 0 + cap * es ≤ _
            omega
          · have hfit : Builtin.nextslicecap (len + m) cap * ie.bytes ≤ 281474976710656 := growslice_fits (by omega) (by
              have : (len + m) * ie.bytes ≤ 20000 * 100000 := Nat.mul_le_mul (by omega) hby
              omega)
            have hold : (Builtin.firstCells ie.size len (.slice (some ⟨a2, 0, none⟩) len cap)).run P W.drew = .ok vs.toArray W.drew :=
              run_firstCells_some W.drew ie.size len ⟨a2, 0, none⟩ len cap vs (by rw [hvl, hse]) (fun j v hv => by
                rw [Addr.add_mid]
                have := cell_of (W := W.drew) (b := a2) (cs := vs ++ sp) (ty := ty) e2 (0 + j)
                rw [this, Nat.zero_add, List.getElem?_append_left (List.getElem?_eq_some_iff.1 hv).1]; exact hv)
            have hrun := run_append_grow_src (P := P) W t t o.type e' ie z hu hie hzi (some ⟨a2, 0, none⟩) len cap vs hold u2 m news h6 (by omega) (by omega) hfit
            rw [← h4] at hrun
            unfold Oper.wp
            rw [exec act W u1 u2 _ _ h1 hrun, Oper.upon_value]
            have hge := grownCap_ge W (len + m) cap e'
            have hsp : (Builtin.zeroCells z.cells (grownCap W (len + m) cap e' - (len + m))).toList.length = (grownCap W (len + m) cap e' - (len + m)) * es := by
              rw [Array.length_toList, size_zeroCells, hzsz]
            have dd := alloc_ok (h := h) (n := n) (k := k) (W := W) (W' := W.drew.alloc (.cells ((vs ++ news).toArray ++ Builtin.zeroCells z.cells (grownCap W (len + m) cap e' - (len + m))) e')) (v := undef) (us := vs ++ news) (sp := (Builtin.zeroCells z.cells (grownCap W (len + m) cap e' - (len + m))).toList) (ty := e') hn4 nn hcs' tb_n hd hw hkn H (e3.app h5) (by
                show W.heap.push _ = _
                congr 2
                apply Array.ext'
                simp) rfl rfl rfl
            refine hk _ _ _ dd (VX.of0 ⟨rfl, W.heap.size, _, grownCap W (len + m) cap e', if_pos rfl, rfl, hge, ?_⟩)
            rw [hsp]
            simp only [List.length_append]
            show 0 + grownCap W (len + m) cap e' * es ≤ _
            have : (len + m) * es + (grownCap W (len + m) cap e' - (len + m)) * es = grownCap W (len + m) cap e' * es := by rw [← Nat.add_mul]; congr 1; omega
            have hle2 : len * es + m * es = (len + m) * es := (Nat.add_mul _ _ _).symm
            omega
      · cases e
    · cases e
  · cases e
theorem bytes'_some {k : K} : ∀ {l m : List Value} {r : List UInt8}, bytes' l = some r → LR (VX k) l m → ∃ ns : List Int, m = ns.map (Value.int .u8) ∧ r = ns.map fun n => UInt8.ofNat n.toNat
  | [], _, _, e, h => by cases e; rw [h]; exact ⟨[], rfl, rfl⟩
  | v :: l, _, r, e, ⟨y, ys, hm, h1, h2⟩ => by
    unfold bytes' at e
    split at e
    · rename_i n
      cases hb : bytes' l with
      | none => rw [hb] at e; cases e
      | some r' =>
        rw [hb] at e
        cases e
        obtain ⟨ns, e1, e2⟩ := bytes'_some hb h2
        exact ⟨n :: ns, by rw [hm, h1.int_inv, e1]; rfl, by rw [e2]; rfl⟩
    · cases e
theorem push_fold : ∀ (ns : List Int) (s : ByteArray), ns.foldl (fun r n => r.push (UInt8.ofNat n.toNat)) s = ⟨(s.data.toList ++ ns.map fun n => UInt8.ofNat n.toNat).toArray⟩
  | [], s => by simp
  | n :: ns, s => by
    rw [List.foldl_cons, push_fold ns]
    congr 1
    simp
theorem s_conv {s d : TypeId} {y : Operand} (ho : o.op = .convert s d y) (e : oConv P s d y fr h n = some x) : Oo P o fr h n x := by
  unfold oConv oCvV at e
  split at e
  · rename_i b q m c hv
    unfold oCvB at e
    split at e
    · rename_i e' hu hud
      split at e
      · rename_i hue
        obtain ⟨l, hl, e⟩ := bind_some e
        obtain ⟨cs, hcs, hl⟩ := bind_some hl
        obtain ⟨zs, hzs, hl⟩ := bind_some hl
        cases e
        obtain ⟨t1, t2⟩ := take'_some hzs
        rw [drop'_eq] at t1
        refine ⟨Ss.read _ _ _, fun k W a K' Q hop H _ hk => ?_⟩
        have h1 := hop y (by simp [ho, Op.operands])
        rw [hv] at h1
        obtain ⟨_, b', zz, cap, hkb, h7, _⟩ := h1.slc_inv
        obtain ⟨b2, vs, sp, ty, e1, e2, e3⟩ := H.rep b (tb_bit.2 rfl) cs hcs
        have hkb' : k b = some (b', zz) := hkb
        rw [hkb'] at e1; cases e1
        have h3 : LR (VX k) zs ((vs.drop q).take m) := by rw [t1]; exact (e3.drop q).take _
        obtain ⟨ns, n1, n2⟩ := bytes'_some hl h3
        have hload : (loadCells ⟨b', q, none⟩ m).run P W = .ok (ns.map (Value.int .u8)).toArray W := by
          have hlen : (ns.map (Value.int .u8)).length = m := by rw [← n1, h3.len, t2]
          have := run_loadCells_list (P := P) W ⟨b', q, none⟩ (ns.map (Value.int .u8)) (fun j u hu' => by
            rw [Addr.add_mid, cell_of e2]
            rw [← n1, List.getElem?_take] at hu'
            split at hu'
            · rw [List.getElem?_drop] at hu'
              rw [List.getElem?_append_left (List.getElem?_eq_some_iff.1 hu').1]; exact hu'
            · cases hu')
          rw [hlen] at this
          exact this
        have hrun := run_bytesToString (P := P) W ⟨b', q, none⟩ m cap ns hload
        rw [← run_convert_bytes_string W s d e' _ _ _ hu hue hud, push_fold] at hrun
        unfold Oper.wp
        have : (execOp a.eval o).run P W = .ok (.value (.string ⟨l.toArray⟩)) W := by
          simp only [execOp, ho, h7]
          rw [Sem.run_bind, hrun, n2]
          rfl
        rw [this, Oper.upon_value]
        exact hk _ W k (Sd.read H) (VX.of0 rfl)
      · cases e
    · cases e
  · obtain ⟨h1, e⟩ := bif_some e
    obtain ⟨v, h2, e⟩ := bind_some e
    obtain ⟨h3, e⟩ := bif_some e
    refine Oo.val e fun k W a hop => ⟨v, flat1_vx h3, ?_⟩
    have e1 := flat1_eq (hop y (by simp [ho, Op.operands])) h1
    simp only [execOp, ho, e1]
    rw [Sem.run_bind, pr_run _ _ h2]
    rfl
/-- What is said of calls. -/
def Cs (P : Program) (cf : Nat → List Value → HT → Nat → Option R5) : Prop := ∀ f vs h n x, (∀ i, n ≤ i → hget h i = none) → cf f vs h n = some x → Ss h n x.h x.n x.r x.w ∧ (∀ args w, (callFunc f args).run P w = .ok (.enter f args) w) ∧
  ∀ (k : K) (W : World) (us : List Value), LR (VX k) vs us → HR k h W x.r → (∀ i, n ≤ i → i < x.n → k i = none) → Calls P f us.toArray W fun e W' => ∃ u k', e = .returned u ∧ Sd h n x.h x.n x.r x.w k W k' W' ∧ VX k' x.v u
theorem s_call {cf : Nat → List Value → HT → Nat → Option R5} {y : Operand} {xs : Array Operand} {ts : Array TypeId} (hcf : Cs P cf) (ho : o.op = .call { callee := .value y, args := xs, argTypes := ts }) (nn : ∀ i, n ≤ i → hget h i = none)
    (e : oCall cf (evo fr y) (evl fr xs.toList) h n = some x) : Oo P o fr h n x := by
  unfold oCall at e
  split at e
  · rename_i f first captured hv
    obtain ⟨h1, h2, h3⟩ := hcf _ _ _ _ _ nn e
    refine ⟨h1, fun k W a K' Q hop H hnew hk => ?_⟩
    have h4 := hop y (by rw [ho]; simp [Op.operands, Call.operands])
    rw [hv] at h4
    obtain ⟨fi, ca, h5, h6, h7⟩ := h4.func_inv
    have h8 := evl_rel (fr := fr) (k := k) (a := a) xs.toList (fun y hy => hop y (by rw [ho]; simp [Op.operands, Call.operands]; right; simpa using hy))
    have h9 := h3 k W (fi ++ xs.toList.map a.eval ++ ca) ((h6.app h8).app h7) H hnew
    have hrun : (execOp a.eval o).run P W = .ok (.enter f (fi ++ xs.toList.map a.eval ++ ca).toArray) W := by
      simp only [execOp, ho, resolve, h5, Deferred.ofValue, invoke, Sem.run_bind, Sem.run_pure, Result.andThen_ok, h2]
      congr 2
      apply Array.ext'
      simp
    unfold Oper.wp
    rw [hrun, Oper.upon_enter]
    refine h9.mono ?_
    rintro e W' ⟨u, k', rfl, hd, hvx⟩
    exact hk u W' k' hd hvx
  · cases e
/-- Every operation. -/
theorem s_op {cf : Nat → List Value → HT → Nat → Option R5} (hcf : Cs P cf) (nn : ∀ i, n ≤ i → hget h i = none) (e : op1 P cf o.op fr h n = some x) : Oo P o fr h n x := by
  cases hop : o.op with
  | move y => rw [hop] at e; exact s_move (Or.inl hop) e
  | assign y => rw [hop] at e; exact s_move (Or.inr hop) e
  | pick c y z => rw [hop] at e; exact s_pick hop e
  | extract y i => rw [hop] at e; exact s_ext hop e
  | nilCheck y => rw [hop] at e; exact s_nil hop e
  | fieldAddr t y f => rw [hop] at e; exact s_field hop e
  | indexAddr t y i => rw [hop] at e; exact s_indA hop e
  | index t y i => rw [hop] at e; exact s_ind hop e
  | slice t y l i m => rw [hop] at e; exact s_slice hop e
  | build t ps => rw [hop] at e; exact s_build hop e
  | buildSlice t l ps => rw [hop] at e; exact s_buildS hop nn e
  | load t y => rw [hop] at e; exact s_load hop e
  | store t y z => rw [hop] at e; exact s_store hop nn e
  | alloc t => rw [hop] at e; exact s_alloc hop nn e
  | box t y => rw [hop] at e; exact s_box hop nn e
  | binOp p t y z u => rw [hop] at e; exact s_bin hop e
  | unOp p t y => rw [hop] at e; exact s_un hop e
  | convert s d y => rw [hop] at e; exact s_conv hop e
  | makeSlice t l c => rw [hop] at e; exact s_make hop nn e
  | makeFunc f a c => rw [hop] at e; exact s_func hop e
  | call c =>
    rw [hop] at e
    obtain ⟨cal, xs, ts⟩ := c
    cases cal with
    | value y => exact s_call hcf hop nn e
    | builtin b => cases b with
      | len => exact s_len hop e
      | append => exact s_app hop nn e
      | _ => cases e
    | invoke r m => cases e
  | _ => rw [hop] at e; cases e
end
end E
end Go.Proofs.YtepfokoepibkcaaGreat
