/-
  Sections that came in, and how many items they have.
-/
import Derived.Test.YthghblgbjgghcaaHz
import Derived.Test.YthghblgbjgghcaaRows
import Derived.ReadAgain
import Derived.WideKeyArgs
namespace Go.Proofs.Ythghblgbjgghcaa
open Go.ChangeShapes Go.WideShapes Go.ChangeAt Go.RowKit D
namespace D
theorem laidOut : laidOutB Try.prog = true := by kernel_rfl
/-- What came in reads as it did, where its places are the same. -/
theorem trodAll_stays {H : Type} {enc : TypeId × Value → H} {W W' : World} {sp' : Nat → Bool} : ∀ {ts : List TypeId} {vs : List Value} {ds : List (DataW H)} {ps : List MemPlace}, (∀ t ∈ ts, Try.prog.readableRec t = true ∧ t < Try.prog.types.size) → DataW.TrodAll enc Try.prog W 0 (fun _ => true) true ts vs ds ps → (∀ p ∈ ps, W.sameAt W' p) → (∀ p ∈ ps, sp' p.block = true) → DataW.TrodAll enc Try.prog W' 0 sp' true ts vs ds ps
  | [], [], [], _, _, h, _, _ => h
  | _ :: _, _ :: _, _ :: _, _, hT, ⟨p, q, h1, h2, e⟩, hm, hs => ⟨p, q, WideElems.Trod_stays laidOut (hT _ (List.mem_cons.2 (Or.inl rfl))).1 (hT _ (List.mem_cons.2 (Or.inl rfl))).2 h1 (fun x hx => hm x (by rw [e]; exact List.mem_append_left _ hx)) (fun x hx => hs x (by rw [e]; exact List.mem_append_left _ hx)),
      trodAll_stays (fun t ht => hT t (List.mem_cons.2 (Or.inr ht))) h2 (fun x hx => hm x (by rw [e]; exact List.mem_append_right _ hx)) (fun x hx => hs x (by rw [e]; exact List.mem_append_right _ hx)), e⟩
end D
section
variable {H : Type} {enc : TypeId × Value → H} {W : World} {sp : Nat → Bool}
theorem bulk_mem {d : DataW H} : ∀ {l : List (DataW H)}, d ∈ l → Rows.uptoBulk d ≤ Rows.uptoBulkAll l
  | x :: l, h => by
    simp only [Rows.uptoBulkAll]
    rcases List.mem_cons.1 h with rfl | h
    · omega
    · have := bulk_mem h; omega
theorem bulk_sum : ∀ (L : List Ex) (E : List (DataW H)) (b : Nat), E.length = L.length → (∀ (i : Nat) (a : Ex) (d : DataW H), L[i]? = some a → E[i]? = some d → nd a ≤ Rows.uptoBulk d) → L.foldl (fun n a => n + nd a) b ≤ b + Rows.uptoBulkAll E
  | [], _, b, _, _ => by simp
  | a :: L, [], b, h, _ => by simp at h
  | a :: L, d :: E, b, h, hb => by
    have h1 := hb 0 a d rfl rfl
    have h2 := bulk_sum L E (b + nd a) (by simpa using h) (fun i x y hx hy => hb (i + 1) x y (by simpa using hx) (by simpa using hy))
    simp only [List.foldl_cons, Rows.uptoBulkAll]
    omega
/-- A slice that was read: its elements were, and its bulk is theirs. -/
theorem bk_sl {fuel : Nat} {x : DataW H × List MemPlace} {t e : TypeId} (hu : Try.prog.underlying t = some (.slice e)) {n : Nat} (hcl : Try.prog.cellsOf e = n) {α : Type} {cells : α → List Value} (hlen : ∀ y, (cells y).length = n)
    {pa : Option Addr} {L : List α} {cap : Nat} (hS : SL W n cells pa L) (h : DataW.trod enc Try.prog W 0 sp true fuel t [.slice pa L.length cap] = some x) :
    ∃ E : List (DataW H), E.length = L.length ∧ Rows.uptoBulkAll E ≤ Rows.uptoBulk x.1 ∧ ∀ (i : Nat) (o : α) (d : DataW H), L[i]? = some o → E[i]? = some d → ∃ m y, m < fuel ∧ DataW.trod enc Try.prog W 0 sp true m e (cells o) = some y ∧ y.1 = d := by
  rcases DataW.trod_slice hu h with ⟨hcs, _⟩ | ⟨a, len, cap', elems, rest, k, rfl, hcs, hx, _, _, _, hlen2, hel, _, _⟩
  · simp only [List.cons.injEq, Value.slice.injEq, and_true] at hcs
    have h0 : L = [] := List.length_eq_zero_iff.1 hcs.2.1
    subst h0
    exact ⟨[], rfl, by simp [Rows.uptoBulkAll], fun i o d hi => by simp at hi⟩
  · simp only [List.cons.injEq, Value.slice.injEq, and_true] at hcs
    obtain ⟨rfl, rfl, rfl⟩ := hcs
    refine ⟨elems.map (·.1), by simp; omega, ?_, fun i o d hi hd => ?_⟩
    · rw [hx]; simp only [Rows.uptoBulk]; omega
    · have hil : i < L.length := lt_of_get hi
      have h1 := hel i hil
      obtain ⟨y, hy⟩ := get_of_lt (show i < elems.length by omega)
      rw [List.getElem?_map, hy] at hd
      rw [hy, hcl] at h1
      cases h2 : W.cells? 0 (a.add (i * n)) n with
      | none => rw [h2] at h1; cases h1
      | some cs =>
        rw [h2] at h1
        obtain ⟨_, hcn, hcc⟩ := World.cells?_some h2
        obtain ⟨b, off, e1, _, hr⟩ := hS.2 i o hi
        cases e1
        have e2 : cs = cells o := by
          refine List.ext_getElem? (fun j => ?_)
          rcases Nat.lt_or_ge j n with q | q
          · rw [← hcc j q]
            obtain ⟨v, hv⟩ := get_of_lt (show j < (cells o).length by rw [hlen]; exact q)
            rw [hv, Addr.add_mid, Addr.add_mid]
            exact hr j v hv
          · rw [List.getElem?_eq_none (by omega), List.getElem?_eq_none (by rw [hlen]; omega)]
        subst e2
        exact ⟨k, y, Nat.lt_succ_self _, h1, by simpa using hd⟩
/-- A field of a struct that was read. -/
theorem bk_fd {fuel : Nat} {cs : List Value} {x : DataW H × List MemPlace} {t : TypeId} {fs : Array Field} (hu : Try.prog.underlying t = some (.struct fs)) (h : DataW.trod enc Try.prog W 0 sp true fuel t cs = some x) (j T O : Nat) {N : Nat} (hT : (fs[j]?).map (fun f => (f.type, f.offset)) = some (T, O)) (hN : Try.prog.cellsOf T = N) :
    ∃ m y, m < fuel ∧ DataW.trod enc Try.prog W 0 sp true m T ((cs.drop O).take N) = some y ∧ Rows.uptoBulk y.1 + 1 ≤ Rows.uptoBulk x.1 := by
  obtain ⟨f, hf, e⟩ := Option.map_eq_some_iff.1 hT
  cases e
  subst hN
  obtain ⟨xs, m, rfl, hx, _, hlen, hi⟩ := DataW.trod_struct hu h
  have h1 := hi j f hf
  have hj : j < fs.size := (Array.getElem?_eq_some_iff.1 hf).1
  obtain ⟨y, hy⟩ := get_of_lt (show j < xs.length by omega)
  rw [hy] at h1
  refine ⟨m, y, Nat.lt_succ_self _, h1, ?_⟩
  have h2 : y.1 ∈ xs.map (·.1) := List.mem_map_of_mem (List.mem_of_getElem? hy)
  have h3 := bulk_mem h2
  rw [hx]
  simp only [Rows.uptoBulk]
  omega
theorem nd_bulk : ∀ (fuel : Nat) {e : Ex} {x : DataW H × List MemPlace}, LEx W e → DataW.trod enc Try.prog W 0 sp true fuel 67 e.cells = some x → nd e ≤ Rows.uptoBulk x.1 := by
  intro fuel
  induction fuel using Nat.strongRecOn with
  | ind fuel ih =>
    intro e x hL h
    obtain ⟨m, y, hm, hy, hyz⟩ := bk_fd Try.underlying67 h 7 65 16 rfl cl_SExpr
    obtain ⟨E, h1, h2, h3⟩ := bk_sl Try.underlying65 cl_Expr Ex.len hL.sl (cap := e.cap) hy
    have h4 := bulk_sum e.args E 1 h1 (fun i a d ha hd => by
      obtain ⟨m2, y2, hm2, hy2, rfl⟩ := h3 i a d ha hd
      exact ih m2 (by omega) (hL.ar a (List.mem_of_getElem? ha)) hy2)
    rw [nd_eq]
    omega
theorem bulk_one (d : DataW H) : 1 ≤ Rows.uptoBulk d := by
  cases d with
  | lit l => cases l <;> simp [Rows.uptoBulk]
  | _ => simp [Rows.uptoBulk]
theorem bulk_len : ∀ l : List (DataW H), l.length ≤ Rows.uptoBulkAll l
  | [] => by simp
  | x :: r => by have := bulk_one x; have := bulk_len r; simp only [Rows.uptoBulkAll, List.length_cons]; omega
theorem bulk_st {fuel : Nat} {cs : List Value} {x : DataW H × List MemPlace} {t : TypeId} {fs : Array Field} (hu : Try.prog.underlying t = some (.struct fs)) (h : DataW.trod enc Try.prog W 0 sp true fuel t cs = some x) : fs.size + 1 ≤ Rows.uptoBulk x.1 := by
  obtain ⟨xs, m, rfl, hx, _, hlen, _⟩ := DataW.trod_struct hu h
  have h2 := bulk_len (xs.map (·.1))
  rw [hx]
  simp only [Rows.uptoBulk]
  simp at h2
  omega
theorem bulk_f {α : Type} (f : α → Nat) : ∀ (L : List α) (E : List (DataW H)), E.length = L.length → (∀ (i : Nat) (a : α) (d : DataW H), L[i]? = some a → E[i]? = some d → f a ≤ Rows.uptoBulk d) → (L.map f).sum ≤ Rows.uptoBulkAll E
  | [], _, _, _ => by simp
  | a :: L, [], h, _ => by simp at h
  | a :: L, d :: E, h, hb => by
    have h1 := hb 0 a d rfl rfl
    have h2 := bulk_f f L E (by simpa using h) (fun i x y hx hy => hb (i + 1) x y (by simpa using hx) (by simpa using hy))
    simp only [List.map_cons, List.sum_cons, Rows.uptoBulkAll]
    omega
theorem sum_mul {α : Type} (f : α → Nat) (c : Nat) : ∀ L : List α, (L.map (fun x => c * f x)).sum = c * (L.map f).sum
  | [] => by simp
  | x :: L => by simp only [List.map_cons, List.sum_cons, sum_mul f c L, Nat.mul_add]
theorem sect_bulk {m : Nat} {x : S5} {y : DataW H × List MemPlace} (hL : LS5 W x) (h : DataW.trod enc Try.prog W 0 sp true m 55 x.cells = some y) : 6 ≤ Rows.uptoBulk y.1 ∧ 3 * x.items.length ≤ Rows.uptoBulk y.1 ∧ x.items.length ≤ x.ci ∧ ∀ z ∈ x.items, nd z.ex ≤ Rows.uptoBulk y.1 := by
  obtain ⟨m4, y4, _, hy4, hz4⟩ := bk_fd Try.underlying55 h 4 39 4 rfl cl_SItem
  obtain ⟨E, h1, h2, h3⟩ := bk_sl Try.underlying39 cl_Item It.len hL.it (cap := x.ci) hy4
  refine ⟨bulk_st Try.underlying55 h, ?_, ?_, fun z hz => ?_⟩
  · have h4 := bulk_f (fun _ => 3) x.items E h1 (fun i a d ha hd => by
      obtain ⟨m2, y2, _, hy2, rfl⟩ := h3 i a d ha hd
      have h5 : 6 + 1 ≤ Rows.uptoBulk y2.1 := bulk_st Try.underlying69 hy2
      omega)
    have h6 : (x.items.map (fun _ => 3)).sum = 3 * x.items.length := by rw [List.map_const']; simp [Nat.mul_comm]
    omega
  · rcases DataW.trod_slice Try.underlying39 hy4 with ⟨hcs, _⟩ | ⟨a, len, cap', elems, rest, k, _, hcs, _, _, hlc, _⟩
    · have hcs : [Value.slice x.pi x.items.length x.ci] = [.slice none 0 0] := hcs
      simp only [List.cons.injEq, Value.slice.injEq, and_true] at hcs
      omega
    · have hcs : [Value.slice x.pi x.items.length x.ci] = [.slice (some a) len cap'] := hcs
      simp only [List.cons.injEq, Value.slice.injEq, and_true] at hcs
      omega
  · obtain ⟨i, hi⟩ := List.getElem?_of_mem hz
    obtain ⟨d, hd⟩ := get_of_lt (show i < E.length by rw [h1]; exact lt_of_get hi)
    obtain ⟨m2, y2, _, hy2, rfl⟩ := h3 i z d hi hd
    have hm3 := bulk_mem (List.mem_of_getElem? hd)
    obtain ⟨m5, y5, _, hy5, hz5⟩ := bk_fd Try.underlying69 hy2 5 67 6 rfl cl_Expr
    have := nd_bulk m5 (hL.ex z hz) hy5
    omega
variable {base : Nat} {v : Value} {d : DataW H} {p : List MemPlace}
set_option maxRecDepth 100000 in
theorem open_sects (hv : Value.okWide Try.prog W .any base 22 v) (h : DataW.Trod enc Try.prog W 0 (fun _ => true) true 22 v d p) (hz : Rows.uptoBulk d ≤ 1048576) : ∃ (l : List S5) (pl : Option Addr) (cl : Nat), v = .slice pl l.length cl ∧ SL W 5 S5.cells pl l ∧ (∀ x ∈ l, LS5 W x) ∧ l.length < 400000 ∧ nI l < 400000 ∧ (∀ y ∈ l, ∀ z ∈ y.items, nd z.ex ≤ 3000000) ∧ l.length ≤ cl ∧ (∀ x ∈ l, x.items.length ≤ x.ci) := by
  obtain ⟨a, n, c, rfl⟩ := okWide_slice Try.underlying22 hv
  obtain ⟨fuel, hf⟩ := h
  have hf' : DataW.trod enc Try.prog W 0 (fun _ => true) true fuel 22 [.slice a n c] = some (d, p) := hf
  obtain ⟨l, pl, cl, e, hok, hS, hlc⟩ := cut_sl Try.underlying22 (n := 5) (by decide) cl_Sect S5.cells ⟨0, 0, ⟨#[]⟩, 0, none, 0, []⟩ (fun x => LS5 W x) (fun _ => rfl) (fun _ h => cut_sect h) hf'
  rw [e] at hf'
  obtain ⟨E, h1, h2, h3⟩ := bk_sl Try.underlying22 cl_Sect (fun _ => rfl) hS (cap := cl) hf'
  have h2' : Rows.uptoBulkAll E ≤ 1048576 := Nat.le_trans h2 hz
  have each : ∀ x ∈ l, ∃ d, d ∈ E ∧ 6 ≤ Rows.uptoBulk d ∧ 3 * x.items.length ≤ Rows.uptoBulk d ∧ x.items.length ≤ x.ci ∧ ∀ z ∈ x.items, nd z.ex ≤ Rows.uptoBulk d := fun x hx => by
    obtain ⟨i, hi⟩ := List.getElem?_of_mem hx
    obtain ⟨d, hd⟩ := get_of_lt (show i < E.length by rw [h1]; exact lt_of_get hi)
    obtain ⟨m2, y2, _, hy2, rfl⟩ := h3 i x d hi hd
    exact ⟨_, List.mem_of_getElem? hd, sect_bulk (hok x hx) hy2⟩
  have hA := bulk_f (fun _ => 6) l E h1 (fun i a d ha hd => by
    obtain ⟨m2, y2, _, hy2, rfl⟩ := h3 i a d ha hd
    exact (sect_bulk (hok a (List.mem_of_getElem? ha)) hy2).1)
  have hB := bulk_f (fun x : S5 => 3 * x.items.length) l E h1 (fun i a d ha hd => by
    obtain ⟨m2, y2, _, hy2, rfl⟩ := h3 i a d ha hd
    exact (sect_bulk (hok a (List.mem_of_getElem? ha)) hy2).2.1)
  have hA' : (l.map (fun _ => 6)).sum = 6 * l.length := by rw [List.map_const']; simp [Nat.mul_comm]
  have hB' : nI l = (l.map (fun x => x.items.length)).sum := by unfold nI fsn; rw [List.take_length]
  have hB2 := sum_mul (fun x : S5 => x.items.length) 3 l
  refine ⟨l, pl, cl, e, hS, hok, by omega, by omega, fun y hy z hz => ?_, hlc, fun x hx => ?_⟩
  · obtain ⟨d, hd, _, _, _, h9⟩ := each y hy
    have := h9 z hz
    have := bulk_mem hd
    omega
  · obtain ⟨d, _, _, _, h8, _⟩ := each x hx
    exact h8
end
section
variable {H : Type} {enc : TypeId × Value → H} {P : Program}
/-- The answer is of no place; what came in reads as it did; of frozen cells only the old blocks' count. -/
theorem post_old {f : Func} {s : ChangeSpec} {W W' : World} {args : Array Value} {v : Value} {ds gs : List (DataW H)} {pa pv : List MemPlace}
    (hW : DataW.Whole enc P f.params.toList s.vars false W args.toList ds gs (pa ++ pv))
    (hr : ∀ (b : Nat) (sp : Nat → Bool) (hd : Bool), DataW.TrodAll enc P W' b sp hd f.resultTypes.toList (v.resultList f.resultTypes.size) (s.fn H (ds ++ gs)).results [])
    (ha : ∀ sp : Nat → Bool, (∀ p ∈ pa ++ pv, sp p.block = true) → DataW.TrodAll enc P W' 0 sp true f.params.toList args.toList (s.fn H (ds ++ gs)).args pa)
    (hv : ∀ sp : Nat → Bool, (∀ p ∈ pa ++ pv, sp p.block = true) → DataW.TrodVars enc P W' sp s.vars (s.fn H (ds ++ gs)).vars pv)
    (hk : W.keptBut W' (· ∈ pa ++ pv)) (hz : ∀ a : Addr, a.block < W.heap.size → W'.frozen? a = W.frozen? a)
    (hok : ∀ (j : Nat) (t : TypeId) (r : Value), f.resultTypes[j]? = some t → (v.resultList f.resultTypes.size)[j]? = some r → Value.okWide P W' .any 0 t r) :
    s.post enc P f false true false false W args v W' := by
  have hlt := hW.lt
  have h1 : ∀ p ∈ pa ++ pv, (fun b => decide (b < W.heap.size)) p.block = true := fun p hp => decide_eq_true (hlt p hp)
  have h2 : ∀ p ∈ pa ++ pv, (fun _ : Nat => true) p.block = true := fun _ _ => rfl
  have hW0 := hW
  obtain ⟨_, _, _, _, _, hnf, _⟩ := hW0
  exact ⟨ds, gs, pa ++ pv, [], pa, pv, hW, hr _ _ _, ha _ h1, hv _ h1, World.keptBut_mono (fun p hp => ⟨hp, Or.inr (List.mem_append.1 hp)⟩) hk, fun _ =>
    ⟨hok, _, _, [] ++ pa ++ pv, ⟨[] ++ pa, pv, trodAll_append (ha _ h2) (hr _ _ _), hv _ h2, rfl, fun b off hp => by rw [hz _ (hlt _ hp)]; exact hnf b off hp, fun q => Bool.noConfusion q⟩, fun p hp _ => hp⟩⟩
end
end Go.Proofs.Ythghblgbjgghcaa
