/-
  Names and columns as keys of maps. Looks into maps of one's own, and changes of these.
-/
import Derived.Test.YtfmfeipeeedfpaaGreatMa
import Derived.Laws.StructEq
namespace Go.Proofs.YtfmfeipeeedfpaaGreat
open S
theorem beq_dec (a b : ByteArray) : (a == b) = decide (a = b) := by
  by_cases h : a = b
  · rw [decide_eq_true h]; exact (MapKept.bytes_beq a b).2 h
  · rw [decide_eq_false h]
    cases e : (a == b) with
    | false => rfl
    | true => exact absurd ((MapKept.bytes_beq a b).1 e) h
theorem kt_now {κ : Type} [DecidableEq κ] {kt : TypeId} {d : TypeDesc} {enc : κ → Value} (hu : Tryz.prog.underlying kt = some d) (hs : ∀ a b : κ, Instr.sameNow d (enc a) (enc b) = some (decide (a = b))) (a : κ) (es : List MapEntry) (al : List (κ × Int)) (w : World) (h : es.map (fun e => (e.key, e.val)) = al.map (fun p => (enc p.1, .int .i64 p.2))) : (Instr.findKey kt (enc a) es).run Tryz.prog w = .ok (fdq al a 0) w := by
  have key : ∀ (es : List MapEntry) (al : List (κ × Int)) (i : Nat), es.map (fun e => (e.key, e.val)) = al.map (fun p => (enc p.1, .int .i64 p.2)) → Instr.findNow d (enc a) es i = some (fdq al a i) := by
    intro es
    induction es with
    | nil => intro al i h; cases al with
      | nil => rfl
      | cons _ _ => simp at h
    | cons e es ih =>
      intro al i h
      cases al with
      | nil => simp at h
      | cons p al =>
        simp only [List.map_cons, List.cons.injEq, Prod.mk.injEq] at h
        obtain ⟨⟨h1, h2⟩, h3⟩ := h
        obtain ⟨q, u⟩ := p
        unfold Instr.findNow
        rw [h1, hs a q]
        by_cases e2 : a = q
        · subst e2; simp [fdq, h2]
        · simp only [decide_eq_false e2, fdq, if_neg (fun e3 => e2 (Eq.symm e3))]; exact ih al (i + 1) h3
  unfold Instr.findKey
  rw [Sem.run_bind, run_underlying hu, Result.andThen_ok, key es al 0 h]
  rfl
theorem kt_ask {κ : Type} [DecidableEq κ] {kt : TypeId} {d : TypeDesc} {enc : κ → Value} (hu : Tryz.prog.underlying kt = some d) (hs : ∀ (a b : κ), Instr.sameNow d (enc a) (enc b) = none) (he : ∀ (a b : κ) (w : World), (Op.equal kt (enc a) (enc b)).run Tryz.prog w = .ok (decide (a = b)) w) (a : κ) (es : List MapEntry) (al : List (κ × Int)) (w : World) (h : es.map (fun e => (e.key, e.val)) = al.map (fun p => (enc p.1, .int .i64 p.2))) : (Instr.findKey kt (enc a) es).run Tryz.prog w = .ok (fdq al a 0) w := by
  have key : ∀ (es : List MapEntry) (al : List (κ × Int)) (i : Nat), es.map (fun e => (e.key, e.val)) = al.map (fun p => (enc p.1, .int .i64 p.2)) → (Instr.findAsking kt (enc a) es i).run Tryz.prog w = .ok (fdq al a i) w := by
    intro es
    induction es with
    | nil => intro al i h; cases al with
      | nil => rfl
      | cons _ _ => simp at h
    | cons e es ih =>
      intro al i h
      cases al with
      | nil => simp at h
      | cons p al =>
        simp only [List.map_cons, List.cons.injEq, Prod.mk.injEq] at h
        obtain ⟨⟨h1, h2⟩, h3⟩ := h
        obtain ⟨q, u⟩ := p
        unfold Instr.findAsking
        rw [Sem.run_bind, h1, he a q w, Result.andThen_ok]
        by_cases e2 : a = q
        · subst e2; simp [fdq, h2, Sem.run_pure]
        · simp only [decide_eq_false e2, fdq, if_neg (fun e3 => e2 (Eq.symm e3))]; exact ih al (i + 1) h3
  unfold Instr.findKey
  rw [Sem.run_bind, run_underlying hu, Result.andThen_ok]
  cases es with
  | nil => cases al with
    | nil => rfl
    | cons _ _ => simp at h
  | cons e es =>
    cases al with
    | nil => simp at h
    | cons p al =>
      have h' := h
      simp only [List.map_cons, List.cons.injEq, Prod.mk.injEq] at h'
      have : Instr.findNow d (enc a) (e :: es) 0 = none := by unfold Instr.findNow; rw [h'.1.1, hs]
      rw [this]
      exact key (e :: es) (p :: al) 0 h
/-- A name as a key. -/
abbrev es9 (s : ByteArray) : Value := .string s
theorem kt9 : KT 9 es9 where
  fd := kt_now Tryz.underlying9 (fun a b => by show some (a == b) = _; rw [beq_dec])
  ck := fun e a w => by cases e <;> kernel_rfl
  sb := fun a => by show (a == a) = true; rw [beq_dec]; simp
/-- A column as a key. -/
abbrev es53 (p : ByteArray × ByteArray) : Value := .agg #[.string p.1, .string p.2]
theorem ht53 : Tryz.prog.underlying 53 = some (.struct (Tryz.prog.fieldsOf 53)) := by kernel_rfl
theorem hp53 : Tryz.prog.stoodInHeld 53 = false := by kernel_rfl
theorem fo53 : (Tryz.prog.fieldsOf 53).toList.map (fun f => (f.name, f.type, f.offset)) = [("Section", 9, 0), ("Name", 9, 1)] := by kernel_rfl
theorem p53_0 (x0 x1 : Value) (w : World) : (part 9 #[x0, x1] 0).run Tryz.prog w = .ok x0 w := by kernel_rfl
theorem p53_1 (x0 x1 : Value) (w : World) : (part 9 #[x0, x1] 1).run Tryz.prog w = .ok x1 w := by kernel_rfl
theorem eq53 (p q : ByteArray × ByteArray) (w : World) : (Op.equalIn 10000 53 (es53 p) (es53 q)).run Tryz.prog w = .ok (decide (p = q)) w := by
  obtain ⟨a, b⟩ := p
  obtain ⟨c, d⟩ := q
  rw [show (10000 : Nat) = 9999 + 1 from rfl, run_equalIn_struct w 9999 53 _ _ ht53 hp53]
  have h := fo53
  generalize (Tryz.prog.fieldsOf 53).toList = L at h
  have hl : L.length = 2 := by have := congrArg List.length h; simpa using this
  match L, hl with
  | [f0, f1], _ =>
    simp at h
    obtain ⟨⟨a0, a1, a2⟩, ⟨b0, b1, b2⟩⟩ := h
    have q4 : ∀ t t' : ByteArray, (Op.equalIn 9999 9 (.string t) (.string t')).run Tryz.prog w = .ok (decide (t = t')) w := fun t t' => by rw [← beq_dec]; kernel_rfl
    simp only [Op.eqFields, a0, a1, a2, b0, b1, b2]
    by_cases h1 : a = c <;> by_cases h2 : b = d <;> simp [Sem.run_bind, p53_0, p53_1, Result.andThen_ok, q4, h1, h2, Sem.run_pure]
theorem kt53 : KT 53 es53 where
  fd := kt_ask ht53 (fun _ _ => rfl) (fun a b w => eq53 a b w)
  ck := fun e a w => by cases e <;> kernel_rfl
  sb := fun a => by
    show ((2 == 2) && ((a.1 == a.1) && ((a.2 == a.2) && true))) = true
    rw [beq_dec, beq_dec]; simp
end Go.Proofs.YtfmfeipeeedfpaaGreat
namespace Go.Proofs.YtfmfeipeeedfpaaGreat
open S
section
variable {κ : Type} [DecidableEq κ] {enc : κ → Value} {mt kt : TypeId} {w0 : B0} {X : World} {o : Oper} {fr : FT} {h : HT} {n : Nat} {i : Nat} {al : List (κ × Int)} {a : κ}
theorem r_lk {x ix : Operand} (K : KT kt enc) (hu : Tryz.prog.underlying mt = some (.map kt 3)) (hk : den2 (evo fr ix) = enc a) (hcs : hget h i = some (mpl (prs enc al))) (ho : o.op = .lookup mt x ix false := by rfl) (hx : evo fr x = .map (some i) := by rfl) (hp : pur2 (evo fr ix) = true := by rfl) : Oa (Am w0 X) Tryz.prog o fr h n ⟨.int .i64 (nof al a), h, n, bit i, 0⟩ :=
  r_see (m := x) (.int .i64 (nof al a)) (fun W b es ac h1 h2 hb he => by
    have h3 := h2 ix (by simp [ho, Op.operands]) hp
    simp [execOp, ho, h1, h3, hk, look_m K hu hb he a]; rfl) (by simp [ho, Op.operands]) hx hcs rfl rfl
theorem r_mp {m x y : Operand} {v : Int} (K : KT kt enc) (hu : Tryz.prog.underlying mt = some (.map kt 3)) (nn : ∀ i, n ≤ i → hget h i = none) (hk : den2 (evo fr x) = enc a) (hcs : hget h i = some (mpl (prs enc al))) (ho : o.op = .mapUpdate mt m x y := by rfl) (hm : evo fr m = .map (some i) := by rfl) (hp : pur2 (evo fr x) = true := by rfl) (hv : evo fr y = .int .i64 v := by rfl) : Oa (Am w0 X) Tryz.prog o fr h n ⟨undef, msk (hs12 h i (some (mpl (prs enc (putq al a v))))) i, n, bit i, bit i⟩ :=
  r_chg (m := m) undef (prs enc (putq al a v)) nn (fun W b es ac h1 h2 hb he => by
    have h3 := h2 x (by simp [ho, Op.operands]) hp
    have h4 := h2 y (by simp [ho, Op.operands]) (by rw [hv]; rfl)
    have h5 : ac.eval y = .int .i64 v := by rw [h4, hv]; rfl
    obtain ⟨es', g1, g2, g3⟩ := put_m K hu hb he a v
    exact ⟨es', Or.inr ⟨rfl, by simp [execOp, ho, h1, h3, hk, h5, g1]⟩, g2, g3⟩) (by simp [ho, Op.operands]) hm hcs rfl rfl
theorem r_en {m x : Operand} (K : KT kt enc) (hu : Tryz.prog.underlying mt = some (.map kt 3)) (nn : ∀ i, n ≤ i → hget h i = none) (hk : den2 (evo fr x) = enc a) (hcs : hget h i = some (mpl (prs enc al))) (ho : o.op = .mapEntry mt m x := by rfl) (hm : evo fr m = .map (some i) := by rfl) (hp : pur2 (evo fr x) = true := by rfl) : Oa (Am w0 X) Tryz.prog o fr h n ⟨.tuple #[.int .i64 (nof al a), .int .i64 (pof al a : Int)], msk (hs12 h i (some (mpl (prs enc (putq al a (nof al a)))))) i, n, bit i, bit i⟩ :=
  r_chg (m := m) (.tuple #[.int .i64 (nof al a), .int .i64 (pof al a : Int)]) (prs enc (putq al a (nof al a))) nn (fun W b es ac h1 h2 hb he => by
    have h3 := h2 x (by simp [ho, Op.operands]) hp
    obtain ⟨es', g1, g2, g3⟩ := ent_m K hu hb he a
    exact ⟨es', Or.inl (by simp [execOp, ho, h1, h3, hk, g1]; rfl), g2, g3⟩) (by simp [ho, Op.operands]) hm hcs rfl rfl
end
section
variable {κ : Type} {enc : κ → Value} {mt : TypeId} {w0 : B0} {X : World} {o : Oper} {fr : FT} {h : HT} {n : Nat} {i : Nat} {al : List (κ × Int)}
theorem r_es {m x y : Operand} {v : Int} {j : Nat} (nn : ∀ i, n ≤ i → hget h i = none) (hj : j < al.length) (hcs : hget h i = some (mpl (prs enc al))) (ho : o.op = .entryStore mt m x y := by rfl) (hm : evo fr m = .map (some i) := by rfl) (hx : evo fr x = .int .i64 (j : Int) := by rfl) (hv : evo fr y = .int .i64 v := by rfl) : Oa (Am w0 X) Tryz.prog o fr h n ⟨undef, msk (hs12 h i (some (mpl (prs enc (al.modify j fun p => (p.1, v)))))) i, n, bit i, bit i⟩ :=
  r_chg (m := m) undef (prs enc (al.modify j fun p => (p.1, v))) nn (fun W b es ac h1 h2 hb he => by
    have h3 : ac.eval x = .int .i64 (j : Int) := by rw [h2 x (by simp [ho, Op.operands]) (by rw [hx]; rfl), hx]; rfl
    have h4 : ac.eval y = .int .i64 v := by rw [h2 y (by simp [ho, Op.operands]) (by rw [hv]; rfl), hv]; rfl
    obtain ⟨es', g1, g2, g3⟩ := est_m (mt := mt) hb he hj v
    exact ⟨es', Or.inr ⟨rfl, by simp [execOp, ho, h1, h3, h4, g1]⟩, g2, g3⟩) (by simp [ho, Op.operands]) hm hcs rfl rfl
end
/-- Each was met, and all are few. -/
structure Iv {κ : Type} (al : List (κ × Int)) (c : Nat) : Prop where
  p : ∀ q ∈ al, 1 ≤ q.2 ∧ q.2 ≤ (c : Int)
  l : al.length ≤ c
theorem Iv.up {κ : Type} {al : List (κ × Int)} {c c' : Nat} (h : Iv al c) (hc : c ≤ c') : Iv al c' := ⟨fun q hq => by have := h.p q hq; omega, by have := h.l; omega⟩
/-- What an expression's nodes are, counted. -/
def nds : Nat → Ex → Nat
  | 0, _ => 1
  | d + 1, x => x.a.foldl (fun n y => n + nds d y) 1
section
variable {κ : Type} [DecidableEq κ]
def stp (al : List (κ × Int)) (a : κ) : List (κ × Int) := putq al a (nof al a + 1)
def one (kx : Ex → Option κ) (x : Ex) (al : List (κ × Int)) : List (κ × Int) := match kx x with
  | some a => stp al a
  | none => al
/-- What is gathered: the keys as they come, each with how often. -/
def gth (kx : Ex → Option κ) : Nat → Ex → List (κ × Int) → List (κ × Int)
  | 0, x, al => one kx x al
  | d + 1, x, al => x.a.foldl (fun s y => gth kx d y s) (one kx x al)
theorem lkq_mem : ∀ {al : List (κ × Int)} {a : κ} {v : Int}, lkq al a = some v → (a, v) ∈ al
  | [], _, _, h => by cases h
  | (b, u) :: r, a, v, h => by
    by_cases e : b = a
    · simp [lkq, e] at h; simp [e, h]
    · simp only [lkq, if_neg e] at h; exact List.mem_cons_of_mem _ (lkq_mem h)
theorem putq_mem : ∀ {al : List (κ × Int)} {a : κ} {v : Int} {q : κ × Int}, q ∈ putq al a v → q = (a, v) ∨ q ∈ al
  | [], a, v, q, h => by simp [putq] at h; exact Or.inl h
  | (b, u) :: r, a, v, q, h => by
    by_cases e : b = a
    · simp only [putq, if_pos e] at h; rcases List.mem_cons.1 h with h | h
      · exact Or.inl h
      · exact Or.inr (List.mem_cons_of_mem _ h)
    · simp only [putq, if_neg e] at h; rcases List.mem_cons.1 h with h | h
      · exact Or.inr (by rw [h]; exact List.mem_cons_self ..)
      · exact (putq_mem h).imp id (List.mem_cons_of_mem _)
theorem Iv.nof {al : List (κ × Int)} {c : Nat} (h : Iv al c) (a : κ) : 0 ≤ nof al a ∧ nof al a ≤ (c : Int) ∧ (_root_.Go.Proofs.YtfmfeipeeedfpaaGreat.nof al a = 0 → lkq al a = none) := by
  unfold _root_.Go.Proofs.YtfmfeipeeedfpaaGreat.nof
  cases e : lkq al a with
  | none => exact ⟨by simp, by simp, fun _ => rfl⟩
  | some v => have := h.p _ (lkq_mem e); exact ⟨by simp; omega, by simp; omega, fun h0 => by simp at h0; omega⟩
theorem Iv.stp {al : List (κ × Int)} {c : Nat} (h : Iv al c) (a : κ) : Iv (_root_.Go.Proofs.YtfmfeipeeedfpaaGreat.stp al a) (c + 1) := by
  have h0 := h.nof a
  refine ⟨fun q hq => ?_, ?_⟩
  · rcases putq_mem hq with rfl | hq
    · exact ⟨by show 1 ≤ _root_.Go.Proofs.YtfmfeipeeedfpaaGreat.nof al a + 1; omega, by show _root_.Go.Proofs.YtfmfeipeeedfpaaGreat.nof al a + 1 ≤ _; omega⟩
    · have := h.p q hq; omega
  · unfold _root_.Go.Proofs.YtfmfeipeeedfpaaGreat.stp; rw [putq_len]; have := h.l; split <;> omega
theorem Iv.one {kx : Ex → Option κ} {al : List (κ × Int)} {c : Nat} (h : Iv al c) (x : Ex) : Iv (_root_.Go.Proofs.YtfmfeipeeedfpaaGreat.one kx x al) (c + 1) := by
  unfold _root_.Go.Proofs.YtfmfeipeeedfpaaGreat.one
  split
  · exact h.stp _
  · exact h.up (by omega)
theorem fold_nds {d : Nat} : ∀ (l : List Ex) (c : Nat), l.foldl (fun n y => n + nds d y) c = c + l.foldl (fun n y => n + nds d y) 0
  | [], c => by simp
  | y :: l, c => by simp only [List.foldl_cons]; rw [fold_nds l (c + nds d y), fold_nds l (0 + nds d y)]; omega
theorem Iv.gth {kx : Ex → Option κ} : ∀ {d : Nat} {x : Ex} {al : List (κ × Int)} {c : Nat}, Iv al c → Iv (_root_.Go.Proofs.YtfmfeipeeedfpaaGreat.gth kx d x al) (c + nds d x)
  | 0, x, al, c, h => h.one x
  | d + 1, x, al, c, h => by
    have key : ∀ (l : List Ex) (s : List (κ × Int)) (c' : Nat), Iv s c' → Iv (l.foldl (fun s y => _root_.Go.Proofs.YtfmfeipeeedfpaaGreat.gth kx d y s) s) (c' + l.foldl (fun n y => n + nds d y) 0) := by
      intro l
      induction l with
      | nil => intro s c' hs; simpa using hs
      | cons y l ih =>
        intro s c' hs
        simp only [List.foldl_cons]
        rw [fold_nds l (0 + nds d y)]
        have := ih _ _ (Iv.gth (kx := kx) (d := d) (x := y) hs)
        rw [show c' + (0 + nds d y + l.foldl (fun n y => n + nds d y) 0) = c' + nds d y + l.foldl (fun n y => n + nds d y) 0 by omega]; exact this
    have := key x.a _ _ (h.one (kx := kx) x)
    show Iv _ (c + x.a.foldl (fun n y => n + nds d y) 1)
    rw [fold_nds x.a 1, show c + (1 + x.a.foldl (fun n y => n + nds d y) 0) = c + 1 + x.a.foldl (fun n y => n + nds d y) 0 by omega]; exact this
end
end Go.Proofs.YtfmfeipeeedfpaaGreat
