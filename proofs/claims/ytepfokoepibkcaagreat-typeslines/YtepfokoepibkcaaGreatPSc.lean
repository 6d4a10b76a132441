/-
  Copies of expressions and items: the same, in memory of their own.
-/
import Derived.Test.YtepfokoepibkcaaGreatK7
import Derived.Test.YtepfokoepibkcaaGreatPa
namespace Go.Proofs.YtepfokoepibkcaaGreat
open Go.RowKit D
theorem inf52 : ∃ i, Tryz.prog.info? 52 = some i ∧ i.zero = some (.agg #[.int .i64 0, .int .i64 0, .string ⟨#[]⟩, .string ⟨#[]⟩, .int .i64 0, .bool false, .int .u64 0, .int .u64 0, .int .u64 0, .int .u64 0, .int .i64 0, .bool false, .string ⟨#[]⟩, .int .i64 0, .int .i64 0, .int .i64 0, .slice none 0 0]) ∧ i.size = 17 ∧ i.bytes = 176 := by
  have h : (Tryz.prog.info? 52).map (fun i => (i.zero, i.size, i.bytes)) = some (some (.agg #[.int .i64 0, .int .i64 0, .string ⟨#[]⟩, .string ⟨#[]⟩, .int .i64 0, .bool false, .int .u64 0, .int .u64 0, .int .u64 0, .int .u64 0, .int .i64 0, .bool false, .string ⟨#[]⟩, .int .i64 0, .int .i64 0, .int .i64 0, .slice none 0 0]), 17, 176) := by kernel_rfl
  cases hi : Tryz.prog.info? 52 with
  | none => rw [hi] at h; cases h
  | some i =>
    rw [hi] at h
    simp at h
    exact ⟨i, rfl, h.1, h.2.1, h.2.2⟩
theorem inf54 : ∃ i, Tryz.prog.info? 54 = some i ∧ i.zero = some (.agg #[.string ⟨#[]⟩, .int .i64 0, .int .i64 0, .int .i64 0, .bool false, .int .i64 0, .int .i64 0, .int .i64 0, .string ⟨#[]⟩, .string ⟨#[]⟩, .int .i64 0, .bool false, .int .u64 0, .int .u64 0, .int .u64 0, .int .u64 0, .int .i64 0, .bool false, .string ⟨#[]⟩, .int .i64 0, .int .i64 0, .int .i64 0, .slice none 0 0]) ∧ i.size = 23 ∧ i.bytes = 232 := by
  have h : (Tryz.prog.info? 54).map (fun i => (i.zero, i.size, i.bytes)) = some (some (.agg #[.string ⟨#[]⟩, .int .i64 0, .int .i64 0, .int .i64 0, .bool false, .int .i64 0, .int .i64 0, .int .i64 0, .string ⟨#[]⟩, .string ⟨#[]⟩, .int .i64 0, .bool false, .int .u64 0, .int .u64 0, .int .u64 0, .int .u64 0, .int .i64 0, .bool false, .string ⟨#[]⟩, .int .i64 0, .int .i64 0, .int .i64 0, .slice none 0 0]), 23, 232) := by kernel_rfl
  cases hi : Tryz.prog.info? 54 with
  | none => rw [hi] at h; cases h
  | some i =>
    rw [hi] at h
    simp at h
    exact ⟨i, rfl, h.1, h.2.1, h.2.2⟩
/-- The same expression, but for where its parts lie. -/
def ek : Ex → Ex
  | .mk k op nm se v sc po _ _ args => .mk k op nm se v sc po none 0 (args.map ek)
theorem ek_eq : ∀ x : Ex, ek x = .mk x.k x.op x.nm x.se x.v x.sc x.po none 0 (x.args.map ek)
  | .mk k op nm se v sc po pa cap args => by
    rw [ek]
theorem foldl_mem {α β : Type} {f g : β → α → β} : ∀ (l : List α) (b : β), (∀ a ∈ l, ∀ b, f b a = g b a) → l.foldl f b = l.foldl g b
  | [], _, _ => rfl
  | a :: l, b, h => by
    show l.foldl f (f b a) = l.foldl g (g b a)
    rw [h a (List.mem_cons_self ..) b]
    exact foldl_mem l _ (fun c hc => h c (List.mem_cons_of_mem _ hc))
theorem ndw_ek : ∀ x : Ex, ndw (ek x) = ndw x := by
  refine Ex.ind2 ?_
  intro x ih
  rw [ndw_eq, ndw_eq x, ek_eq]
  show (x.args.map ek).foldl _ _ = _
  rw [List.foldl_map]
  exact foldl_mem _ _ (fun a ha b => by rw [ih a ha])
theorem whK_ek (d : Df) (L : List S5) (s : Nat) : ∀ x : Ex, whK d L s (ek x) = whK d L s x := by
  refine Ex.ind2 ?_
  intro x ih
  rw [whK_eq, whK_eq d L s x, ek_eq]
  have e : ((Ex.mk x.k x.op x.nm x.se x.v x.sc x.po none 0 (x.args.map ek)).args.foldl (fun acc a => acK acc (whK d L s a)) (.ok []) : Except Int (List Int)) = x.args.foldl (fun acc a => acK acc (whK d L s a)) (.ok []) := by
    show (x.args.map ek).foldl _ _ = _
    rw [List.foldl_map]
    exact foldl_mem _ _ (fun a ha b => by rw [ih a ha])
  rw [e]
  cases x
  rfl
theorem kdK_ek {d : Df} {L : List S5} {s : Nat} {x y : Ex} (h : ek x = ek y) : kdK d L s x = kdK d L s y := by
  unfold kdK
  rw [← ndw_ek x, ← ndw_ek y, ← whK_ek d L s x, ← whK_ek d L s y, h]
/-- All that an expression leads to lies in blocks of a kind. -/
def In (D : Nat → Prop) : Ex → Prop
  | .mk _ _ _ _ _ _ _ pa _ args => (args ≠ [] → ∃ b o, pa = some ⟨b, o, none⟩ ∧ D b) ∧ ∀ a ∈ args, In D a
theorem In.inv {D : Nat → Prop} : ∀ {x : Ex}, In D x → (x.args ≠ [] → ∃ b o, x.pa = some ⟨b, o, none⟩ ∧ D b) ∧ ∀ a ∈ x.args, In D a
  | .mk _ _ _ _ _ _ _ _ _ _, h => by rw [In] at h; exact h
theorem In.mk {D : Nat → Prop} : ∀ {x : Ex}, (x.args ≠ [] → ∃ b o, x.pa = some ⟨b, o, none⟩ ∧ D b) → (∀ a ∈ x.args, In D a) → In D x
  | .mk _ _ _ _ _ _ _ _ _ _, h1, h2 => by rw [In]; exact ⟨h1, h2⟩
theorem In.mono {D E : Nat → Prop} (h : ∀ b, D b → E b) {x : Ex} (hx : In D x) : In E x :=
  Ex.ind (M := fun x => In D x → In E x) (fun _ _ _ _ _ _ _ _ _ _ ih hx => .mk (fun q => by obtain ⟨b, o, e, hb⟩ := hx.inv.1 q; exact ⟨b, o, e, h b hb⟩) (fun a ha => ih a ha (hx.inv.2 a ha))) x hx
/-- What lies in some blocks is as it was. -/
def KD (D : Nat → Prop) (w w' : World) : Prop := w.heap.size ≤ w'.heap.size ∧ ∀ k, D k → ∀ o v, w.cell? ⟨k, o, none⟩ = some v → w'.cell? ⟨k, o, none⟩ = some v
theorem Mk.kd {E D : Nat → Prop} {w w' : World} (m : Mk E w w') (hD : ∀ k, D k → ¬ E k) : KD D w w' := ⟨m.size, fun k hk o _ e => (World.cell?_of_block (a := ⟨k, o, none⟩) (m.block k (cell_lt e) (hD k hk))).trans e⟩
theorem SL.kd {D : Nat → Prop} {W W' : World} {n : Nat} {α : Type} {cells : α → List Value} {pa : Option Addr} {L : List α} (h : SL W n cells pa L) (hp : L ≠ [] → ∃ b o, pa = some ⟨b, o, none⟩ ∧ D b) (m : KD D W W') : SL W' n cells pa L := ⟨h.1, fun i o e => by
  obtain ⟨b, off, hp1, hb, hr⟩ := h.2 i o e
  obtain ⟨b2, o2, hp2, hD⟩ := hp (fun q => by rw [q] at e; cases e)
  rw [hp1] at hp2; cases hp2
  exact ⟨b, off, hp1, Nat.lt_of_lt_of_le hb m.1, fun j v hv => m.2 b hD _ _ (hr j v hv)⟩⟩
theorem LEx.kd {D : Nat → Prop} {W W' : World} (m : KD D W W') {e : Ex} (h : LEx W e) (hI : In D e) : LEx W' e :=
  Ex.ind (M := fun e => LEx W e → In D e → LEx W' e) (fun _ _ _ _ _ _ _ _ _ _ ih h hI => .mk h.nm h.se (SL.kd h.sl hI.inv.1 m) (fun o ho => ih o ho (h.ar o ho) (hI.inv.2 o ho))) e h hI
/-- A copy's parts: they lie in new memory. -/
structure LX (w' : World) (N : Nat) (pa : Option Addr) (xs : List Ex) : Prop where
  sl : SL w' 17 Ex.cells pa xs
  nw : xs ≠ [] → ∃ b o, pa = some ⟨b, o, none⟩ ∧ (N ≤ b ∧ b < w'.heap.size)
  el : ∀ a ∈ xs, LEx w' a ∧ In (fun b => N ≤ b ∧ b < w'.heap.size) a
theorem LX.mo {w' w2 : World} {N : Nat} {pa : Option Addr} {xs : List Ex} (h : LX w' N pa xs) (m : Mo w' w2) : LX w2 N pa xs :=
  ⟨h.sl.kp m.kp, fun q => by obtain ⟨b, o, e, h1, h2⟩ := h.nw q; exact ⟨b, o, e, h1, Nat.lt_of_lt_of_le h2 m.size⟩, fun a ha => ⟨(h.el a ha).1.kp m.kp, (h.el a ha).2.mono (fun b hb => ⟨hb.1, Nat.lt_of_lt_of_le hb.2 m.size⟩)⟩⟩
/-- The copy of an expression. -/
def cpE (a : Ex) (pa : Option Addr) (cap : Nat) (xs : List Ex) : Ex := .mk a.k a.op a.nm a.se a.v a.sc a.po pa cap xs
theorem ek_cp {a : Ex} {pa : Option Addr} {cap : Nat} {xs : List Ex} (h : xs.map ek = a.args.map ek) : ek (cpE a pa cap xs) = ek a := by
  rw [ek_eq, ek_eq a]
  show Ex.mk _ _ _ _ _ _ _ none 0 (xs.map ek) = _
  rw [h]; rfl
/-- A copy lies there, in new memory. -/
theorem LX.ex {w w' : World} {N : Nat} {a : Ex} {pa : Option Addr} {cap : Nat} {xs : List Ex} (h : LX w' N pa xs) (hL : LEx w a) : LEx w' (cpE a pa cap xs) ∧ In (fun b => N ≤ b ∧ b < w'.heap.size) (cpE a pa cap xs) :=
  ⟨.mk hL.nm hL.se h.sl (fun o ho => (h.el o ho).1), .mk h.nw (fun o ho => (h.el o ho).2)⟩
theorem LX.le {w' : World} {N N' : Nat} {pa : Option Addr} {xs : List Ex} (h : LX w' N pa xs) (hN : N' ≤ N) : LX w' N' pa xs :=
  ⟨h.sl, fun q => by obtain ⟨b, o, e, h1, h2⟩ := h.nw q; exact ⟨b, o, e, by omega, h2⟩, fun a ha => ⟨(h.el a ha).1, (h.el a ha).2.mono (fun b hb => ⟨by have := hb.1; omega, hb.2⟩)⟩⟩
theorem LX.mk' {w' w2 : World} {N : Nat} {pa : Option Addr} {xs : List Ex} {E : Nat → Prop} (h : LX w' N pa xs) (m : Mk E w' w2) (hE : ∀ k, E k → k < N) : LX w2 N pa xs := by
  have hk : KD (fun b => N ≤ b ∧ b < w'.heap.size) w' w2 := m.kd (fun k hk e => by have := hE k e; have := hk.1; omega)
  exact ⟨SL.kd h.sl h.nw hk, fun q => by obtain ⟨b, o, e, h1, h2⟩ := h.nw q; exact ⟨b, o, e, h1, Nat.lt_of_lt_of_le h2 m.size⟩, fun a ha => ⟨LEx.kd hk (h.el a ha).1 (h.el a ha).2, (h.el a ha).2.mono (fun b hb => ⟨hb.1, Nat.lt_of_lt_of_le hb.2 m.size⟩)⟩⟩
/-- One copy more. -/
theorem ci_step {α : Type} {f : α → Ex} {wl u w2 : World} {N N9 : Nat} {L1 : List α} {v v9 : Value} {x' : α}
    (hI : ∀ a ∈ L1, LEx wl (f a) ∧ In (fun b => N ≤ b ∧ b < wl.heap.size ∧ v.ownBlock ≠ some b) (f a)) (M : Mo wl u)
    (hx : LEx u (f x') ∧ In (fun b => N9 ≤ b ∧ b < u.heap.size) (f x')) (hN : N ≤ N9) (ho : ∀ b, v.ownBlock = some b → b < N9)
    (hm : Mk (fun j => v.ownBlock = some j) u w2) (hbk : v9.ownBlock = v.ownBlock ∨ v9.ownBlock = some u.heap.size) :
    ∀ a ∈ L1 ++ [x'], LEx w2 (f a) ∧ In (fun b => N ≤ b ∧ b < w2.heap.size ∧ v9.ownBlock ≠ some b) (f a) := by
  have key : ∀ a, LEx u (f a) → In (fun b => N ≤ b ∧ b < u.heap.size ∧ v.ownBlock ≠ some b) (f a) → LEx w2 (f a) ∧ In (fun b => N ≤ b ∧ b < w2.heap.size ∧ v9.ownBlock ≠ some b) (f a) := fun a h1 h2 =>
    ⟨LEx.kd (hm.kd (fun k hk => hk.2.2)) h1 h2, h2.mono (fun b hb => ⟨hb.1, Nat.lt_of_lt_of_le hb.2.1 hm.size, by
      rcases hbk with q | q
      · rw [q]; exact hb.2.2
      · rw [q]; intro e; cases e; exact Nat.lt_irrefl _ hb.2.1⟩)⟩
  intro a ha
  rcases List.mem_append.1 ha with h | h
  · exact key a ((hI a h).1.kp M.kp) ((hI a h).2.mono (fun b hb => ⟨hb.1, Nat.lt_of_lt_of_le hb.2.1 M.size, hb.2.2⟩))
  · rw [List.mem_singleton.1 h]
    exact key _ hx.1 (hx.2.mono (fun b hb => ⟨by have := hb.1; omega, hb.2, fun e => by have := ho b e; have := hb.1; omega⟩))
theorem own_nw {w : World} {N e sz n cap : Nat} {pa : Option Addr} {xs : List Value} (h : w.ownsRow N e sz (.slice pa n cap) n xs) (hn : n ≠ 0) : ∃ b o, pa = some ⟨b, o, none⟩ ∧ (N ≤ b ∧ b < w.heap.size) := by
  rcases h.2 with ⟨_, q⟩ | ⟨g, c2, cur, q, hg, hb, _⟩
  · exact absurd q hn
  · cases q
    exact ⟨g, 0, rfl, hg, (Array.getElem?_eq_some_iff.1 hb).1⟩
theorem cargs_n : ∀ (x : Ex), AB x → ∀ {w : World}, LEx w x → Calls Tryz.prog 47 #[.slice x.pa x.args.length x.cap] w fun e w' => ∃ (pa : Option Addr) (cap : Nat) (xs : List Ex), e = .returned (.slice pa xs.length cap) ∧ xs.map ek = x.args.map ek ∧ LX w' w.heap.size pa xs ∧ Mo w w' := by
  refine Ex.ind2 ?_
  intro x ih hB w hL
  refine w_enter 22 Tryz.func47 Tryz.ntmps47 rfl rfl ?_
  have M : Mo w w := Mo.refl _
  refine w_seq ?_
  refine w_reg ?_
  refine wl_mv (.const (.slice none 0 0)) (.slice none 0 0) (fun _ => rfl) rfl rfl ?_
  refine w_nil ?_
  refine xn_then ?_
  refine w_seq ?_
  refine w_reg ?_
  refine wl_mv (.const (.slice none 0 0)) (.slice none 0 0) (fun _ => rfl) rfl rfl ?_
  refine w_nil ?_
  refine xn_then ?_
  refine w_seq ?_
  refine w_seq ?_
  refine w_reg ?_
  refine wl_mv (.tmp 0) (.slice x.pa x.args.length x.cap) (fun _ => rfl) rfl rfl ?_
  refine wl_val (.int .i64 ((x.args.length : Nat) : Int)) (len50 _ _ _ _ _ (by exact rfl) _ _ _ _ _ _) rfl ?_
  refine wl_mv (.const (.int .i64 (0))) (.int .i64 (0)) (fun _ => rfl) rfl rfl ?_
  refine w_nil ?_
  refine xn_then ?_
  refine w_block ?_
  have hz := hB.ln
  refine w_loop (fun m l w1 => ∃ i : Nat, m = x.args.length - i ∧ i ≤ x.args.length ∧ look l 6 = .slice x.pa x.args.length x.cap ∧ look l 7 = .int .i64 ((x.args.length : Nat) : Int) ∧ look l 8 = .int .i64 ((i : Nat) : Int) ∧ ∃ (pa1 : Option Addr) (cap1 : Nat) (L1 : List Ex), look l 3 = .slice pa1 i cap1 ∧ L1.length = i ∧ L1.map ek = (x.args.take i).map ek ∧ w1.ownsRow w.heap.size 52 17 (.slice pa1 i cap1) i (L1.flatMap Ex.cells) ∧ (∀ a ∈ L1, LEx w1 (id a) ∧ In (fun b => w.heap.size ≤ b ∧ b < w1.heap.size ∧ (Value.slice pa1 i cap1).ownBlock ≠ some b) (id a)) ∧ Mo w w1) _ ⟨0, rfl, Nat.zero_le _, rfl, rfl, rfl, ⟨none, 0, [], rfl, rfl, rfl, ⟨rfl, Or.inl ⟨rfl, rfl⟩⟩, fun _ h => (by cases h), M⟩⟩ ?_
  clear M
  rintro m l40 wl40 ⟨i, rfl, hi, e40_6, e40_7, e40_i, hE⟩
  by_cases hil : i < x.args.length
  · skip
    have hid : decide (i < x.args.length) = true := decide_eq_true hil
    obtain ⟨pa1, cap1, L1, e3, hL1, hk1, hown, hI, Mw⟩ := hE
    have M : Mo wl40 wl40 := Mo.refl _
    obtain ⟨a, ha⟩ := get_of_lt hil
    have hma := List.mem_of_getElem? ha
    obtain ⟨xs, hxs⟩ : ∃ xs, xs = L1.flatMap Ex.cells := ⟨_, rfl⟩
    rw [← hxs] at hown
    have hS1 := hL.sl.kp Mw.kp
    have hoN : ∀ b, (Value.slice pa1 i cap1).ownBlock = some b → b < wl40.heap.size := fun b e => (own_lt hown e).1
    obtain ⟨b1, o1, hp1, hR1⟩ := D.SL.rw hS1 ha
    refine w_seq ?_
    refine w_reg ?_
    refine wl_bin (fun x y => do eqGuard .lss 3 (.tmp 8) (.tmp 7) x y; binOp .lss 3 x y) (.tmp 8) (.tmp 7) (.int .i64 ((i : Nat) : Int)) (.int .i64 ((x.args.length : Nat) : Int)) (.bool true) (fun _ => rfl) e40_i e40_7 (ltN hid _ _ _) rfl ?_
    refine w_nil ?_
    refine xn_then ?_
    refine w_seq ?_
    refine w_condT rfl ?_
    refine w_skip ?_
    refine xn_then ?_
    refine w_seq ?_
    refine w_block ?_
    refine w_seq ?_
    refine w_reg ?_
    refine wl_bin (fun x y => Instr.indexAt 50 x y) (.tmp 6) (.tmp 8) (.slice x.pa x.args.length x.cap) (.int .i64 ((i : Nat) : Int)) (pt b1 (o1 + i * 17)) (fun _ => rfl) e40_6 e40_i (ix50 (i := i) hp1 hil _) rfl ?_
    refine wl_load 52 (.tmp 10) (pt b1 (o1 + i * 17)) (.agg (a.cells).toArray) rfl rfl (D.run_partR (hR1.mo M).at' 52 0 17 (a.cells) rfl Tryz.underlying52 rfl sz52) rfl ?_
    refine wl_alloc 52 #[.int .i64 0, .int .i64 0, .string ⟨#[]⟩, .string ⟨#[]⟩, .int .i64 0, .bool false, .int .u64 0, .int .u64 0, .int .u64 0, .int .u64 0, .int .i64 0, .bool false, .string ⟨#[]⟩, .int .i64 0, .int .i64 0, .int .i64 0, .slice none 0 0] rfl (fun _ => by kernel_rfl) rfl ?_
    intro k1 u41 hk hz hq Q1
    have on_k1 : (Value.slice pa1 i cap1).ownBlock ≠ some k1 := fun e => by have := (hown.lt _ e).2; omega
    have N_k1 : wl40.heap.size ≤ k1 := by have := M.size; omega
    replace hown := own_mo hown hq
    replace M := M.trans hq
    clear hk hz hq
    refine wl_stm 52 (.tmp 5) (.tmp 11) k1 0 ((a.cells).toArray) [.int .i64 0, .int .i64 0, .string ⟨#[]⟩, .string ⟨#[]⟩, .int .i64 0, .bool false, .int .u64 0, .int .u64 0, .int .u64 0, .int .u64 0, .int .i64 0, .bool false, .string ⟨#[]⟩, .int .i64 0, .int .i64 0, .int .i64 0, .slice none 0 0] (a.cells) Q1 rfl rfl rfl rfl rfl sz52 rfl rfl rfl ?_
    intro u42 hS hm9 Qn
    replace Q1 := Qn
    clear Qn
    replace hown := own_mk hown hm9 (fun k e h => on_k1 (by rw [e, h]))
    replace M := hS.mo _ N_k1 M
    clear hS hm9
    refine w_nil ?_
    refine xn_then ?_
    refine w_seq ?_
    refine w_reg ?_
    refine wl_un (fun v => Instr.fieldAt 52 v 7) (.tmp 5) (pt k1 0) (pt k1 16) (fun _ => rfl) rfl (by kernel_rfl) rfl ?_
    refine wl_load 50 (.tmp 12) (pt k1 16) (.slice a.pa a.args.length a.cap) rfl rfl (run_one Q1 50 16 rfl Tryz.underlying50 rfl) rfl ?_
    obtain ⟨N9, hN9⟩ : ∃ N9, N9 = u42.heap.size := ⟨_, rfl⟩
    have hwN : wl40.heap.size ≤ N9 := by rw [hN9]; exact M.size
    have k9_k1 : k1 < N9 := by rw [hN9]; exact Q1.lt
    refine wl_callx 47 [(.tmp 13)] _ [.slice a.pa a.args.length a.cap] rfl rfl (fun _ _ => by kernel_rfl) (ih a hma (hB.ar a hma) ((hL.ar a hma).kp (Mw.trans M).kp)) rfl ?_
    rintro e9 u43 ⟨pa9, cap9, xs9, rfl, hk9, hX9, hq⟩
    rw [← hN9] at hX9
    refine ⟨_, rfl, ?_⟩
    replace hown := own_mo hown hq
    replace Q1 := Q1.mo hq
    replace M := M.trans hq
    clear hq
    refine wl_un (fun v => Instr.fieldAt 52 v 7) (.tmp 5) (pt k1 0) (pt k1 16) (fun _ => rfl) rfl (by kernel_rfl) rfl ?_
    refine wl_stm1 50 (.tmp 15) (.tmp 14) k1 16 (.slice pa9 xs9.length cap9) (a.cells) [.int .i64 a.k, .int .i64 a.op, .string a.nm, .string a.se, .int .i64 a.v.k, .bool a.v.d.b, .int .u64 a.v.d.n0, .int .u64 a.v.d.n1, .int .u64 a.v.d.n2, .int .u64 a.v.d.n3, .int .i64 a.v.d.s, .bool a.v.f, .string a.v.t, .int .i64 a.v.e, .int .i64 a.sc, .int .i64 a.po, .slice pa9 xs9.length cap9] Q1 rfl rfl rfl rfl rfl sz50 rfl rfl rfl rfl ?_
    intro u44 hS hm9 Qn
    replace Q1 := Qn
    clear Qn
    replace hown := own_mk hown hm9 (fun k e h => on_k1 (by rw [e, h]))
    replace hX9 := hX9.mk' hm9 (fun j e => by rw [e]; exact k9_k1)
    replace M := hS.mo _ N_k1 M
    clear hS hm9
    refine w_nil ?_
    refine xn_then ?_
    refine w_reg ?_
    refine wl_mv (.tmp 3) (.slice pa1 i cap1) (fun _ => rfl) e3 rfl ?_
    refine wl_load 52 (.tmp 5) (pt k1 0) (.agg #[.int .i64 a.k, .int .i64 a.op, .string a.nm, .string a.se, .int .i64 a.v.k, .bool a.v.d.b, .int .u64 a.v.d.n0, .int .u64 a.v.d.n1, .int .u64 a.v.d.n2, .int .u64 a.v.d.n3, .int .i64 a.v.d.s, .bool a.v.f, .string a.v.t, .int .i64 a.v.e, .int .i64 a.sc, .int .i64 a.po, .slice pa9 xs9.length cap9]) rfl rfl (run_row Q1 52 0 17 [.int .i64 a.k, .int .i64 a.op, .string a.nm, .string a.se, .int .i64 a.v.k, .bool a.v.d.b, .int .u64 a.v.d.n0, .int .u64 a.v.d.n1, .int .u64 a.v.d.n2, .int .u64 a.v.d.n3, .int .i64 a.v.d.s, .bool a.v.f, .string a.v.t, .int .i64 a.v.e, .int .i64 a.sc, .int .i64 a.po, .slice pa9 xs9.length cap9] rfl Tryz.underlying52 rfl sz52) rfl ?_
    refine wl_bs 50 1 [(0, (.tmp 17))] [(0, .agg #[.int .i64 a.k, .int .i64 a.op, .string a.nm, .string a.se, .int .i64 a.v.k, .bool a.v.d.b, .int .u64 a.v.d.n0, .int .u64 a.v.d.n1, .int .u64 a.v.d.n2, .int .u64 a.v.d.n3, .int .i64 a.v.d.s, .bool a.v.f, .string a.v.t, .int .i64 a.v.e, .int .i64 a.sc, .int .i64 a.po, .slice pa9 xs9.length cap9])] #[.int .i64 a.k, .int .i64 a.op, .string a.nm, .string a.se, .int .i64 a.v.k, .bool a.v.d.b, .int .u64 a.v.d.n0, .int .u64 a.v.d.n1, .int .u64 a.v.d.n2, .int .u64 a.v.d.n3, .int .i64 a.v.d.s, .bool a.v.f, .string a.v.t, .int .i64 a.v.e, .int .i64 a.sc, .int .i64 a.po, .slice pa9 xs9.length cap9] 52 rfl rfl (fun _ => by kernel_rfl) rfl ?_
    intro k2 u45 hk hz hq Q2
    have ne_k1_k2 : k1 ≠ k2 := by have := Q1.lt; omega
    have N_k2 : wl40.heap.size ≤ k2 := by have := M.size; omega
    have on_k2 : (Value.slice pa1 i cap1).ownBlock ≠ some k2 := fun e => by have := (own_lt hown e).1; omega
    replace hown := own_mo hown hq
    replace Q1 := Q1.mo hq
    replace hX9 := hX9.mo hq
    replace M := M.trans hq
    clear hk hz hq
    refine wl_app Tryz.underlying50 inf52 rfl (by decide) (.tmp 16) (.tmp 18) w.heap.size (.slice pa1 i cap1) i xs k2 1 1 [.int .i64 a.k, .int .i64 a.op, .string a.nm, .string a.se, .int .i64 a.v.k, .bool a.v.d.b, .int .u64 a.v.d.n0, .int .u64 a.v.d.n1, .int .u64 a.v.d.n2, .int .u64 a.v.d.n3, .int .i64 a.v.d.s, .bool a.v.f, .string a.v.t, .int .i64 a.v.e, .int .i64 a.sc, .int .i64 a.po, .slice pa9 xs9.length cap9] rfl rfl rfl hown rfl Q2 (fun u hu => by simp only [List.mem_cons, List.not_mem_nil, or_false] at hu; rcases hu with rfl | rfl | rfl | rfl | rfl | rfl | rfl | rfl | rfl | rfl | rfl | rfl | rfl | rfl | rfl | rfl | rfl <;> rfl) (by decide) (by unfold maxLen; omega) (by omega) (Mw.trans M).size rfl ?_
    intro v9 u46 hOw hm9 hbk
    have hI2 := ci_step (f := id) (N := w.heap.size) (N9 := N9) (x' := cpE a pa9 cap9 xs9) hI M (hX9.ex (cap := cap9) (hL.ar a hma)) (by have := Mw.size; omega) (fun b e => by have := hoN b e; omega) hm9 hbk
    replace M := hm9.mo (Mw.trans M) (fun k e => (own_lt hown e).2)
    obtain ⟨pa2, cap2, rfl, _⟩ := own_form hOw
    clear hown hbk hm9
    refine wl_mv (.tmp 19) (.slice pa2 (i + 1) cap2) (fun _ => rfl) rfl rfl ?_
    refine w_nil ?_
    refine xn_blk ?_
    refine xn_then ?_
    refine w_reg ?_
    refine wl_bin (fun x y => do eqGuard .add 3 (.tmp 8) (.const (.int .i64 (1))) x y; binOp .add 3 x y) (.tmp 8) (.const (.int .i64 (1))) (.int .i64 ((i : Nat) : Int)) (.int .i64 (1)) (.int .i64 ((i + 1 : Nat) : Int)) (fun _ => rfl) e40_i rfl (add1r (k := i) (by omega) _ _ _) rfl ?_
    refine wl_mv (.tmp 20) (.int .i64 ((i + 1 : Nat) : Int)) (fun _ => rfl) rfl rfl ?_
    refine w_nil ?_
    exact xn_loop (x.args.length - (i + 1)) (by omega) ⟨i + 1, rfl, by omega, e40_6, e40_7, rfl, ⟨pa2, cap2, L1 ++ [cpE a pa9 cap9 xs9], rfl, by simp [hL1], by rw [List.map_append, hk1, List.take_add_one, ha]; simp [ek_cp hk9], by rw [hxs] at hOw; rw [List.flatMap_append]; exact hOw, hI2, M⟩⟩
  · skip
    have hid : decide (i < x.args.length) = false := decide_eq_false hil
    have hie : i = x.args.length := by omega
    obtain ⟨pa1, cap1, L1, e3, hL1, hk1, hown, hI, Mw⟩ := hE
    have M := Mw
    refine w_seq ?_
    refine w_reg ?_
    refine wl_bin (fun x y => do eqGuard .lss 3 (.tmp 8) (.tmp 7) x y; binOp .lss 3 x y) (.tmp 8) (.tmp 7) (.int .i64 ((i : Nat) : Int)) (.int .i64 ((x.args.length : Nat) : Int)) (.bool false) (fun _ => rfl) e40_i e40_7 (ltN hid _ _ _) rfl ?_
    refine w_nil ?_
    refine xn_then ?_
    refine w_seq ?_
    refine w_condF rfl ?_
    refine w_exit ?_
    refine xx_then ?_
    refine xx_then ?_
    refine xx_blk ?_
    refine xn_then ?_
    refine w_seq ?_
    refine w_reg ?_
    refine wl_mv (.tmp 3) (.slice pa1 i cap1) (fun _ => rfl) e3 rfl ?_
    refine wl_mv (.tmp 21) (.slice pa1 i cap1) (fun _ => rfl) rfl rfl ?_
    refine w_nil ?_
    refine xn_then ?_
    refine w_ret ?_
    exact w_ret1 _ (.slice pa1 i cap1) rfl rfl ⟨pa1, cap1, L1, by rw [hL1], by rw [hk1, hie, List.take_length], ⟨own_sl (cells := Ex.cells) Ex.len (by unfold maxLen; omega) (by rw [hL1]; exact hown), fun q => own_nw hown (fun e => q (List.length_eq_zero_iff.1 (by omega))), fun a ha => ⟨(hI a ha).1, (hI a ha).2.mono (fun b hb => ⟨hb.1, hb.2.1⟩)⟩⟩, M⟩
/-- The same item, but for where its expression's parts lie. -/
def cpI (y : It) (pa : Option Addr) (cap : Nat) (xs : List Ex) : It := ⟨y.nm, y.k, y.tk, y.ts, y.nd, y.po, cpE y.ex pa cap xs⟩
/-- What of an item is not where it lies. -/
def kx (y : It) : ByteArray × Int × Int × Int × Int × Ex := (y.nm, y.k, y.tk, y.ts, y.po, ek y.ex)
theorem kx_cp {y : It} {pa : Option Addr} {cap : Nat} {xs : List Ex} (h : xs.map ek = y.ex.args.map ek) : kx (cpI y pa cap xs) = kx y := by
  unfold kx
  show (y.nm, y.k, y.tk, y.ts, y.po, ek (cpE y.ex pa cap xs)) = _
  rw [ek_cp h]
theorem citems_n {w : World} {pa : Option Addr} {c : Nat} {L : List It} (hS : SL w 23 It.cells pa L) (hE0 : ∀ y ∈ L, LEx w y.ex) (hB : ∀ y ∈ L, AB y.ex) (hz : L.length ≤ 606627104962) : Calls Tryz.prog 25 #[.slice pa L.length c] w fun e w' => ∃ (pa1 : Option Addr) (cap1 : Nat) (L1 : List It), e = .returned (.slice pa1 L1.length cap1) ∧ L1.map kx = L.map kx ∧ w'.ownsRow w.heap.size 54 23 (.slice pa1 L1.length cap1) L1.length (L1.flatMap It.cells) ∧ (∀ y ∈ L1, LEx w' y.ex ∧ In (fun b => w.heap.size ≤ b ∧ b < w'.heap.size) y.ex) ∧ Mo w w' := by
  refine w_enter 24 Tryz.func25 Tryz.ntmps25 rfl rfl ?_
  have M : Mo w w := Mo.refl _
  refine w_seq ?_
  refine w_reg ?_
  refine wl_mv (.const (.slice none 0 0)) (.slice none 0 0) (fun _ => rfl) rfl rfl ?_
  refine w_nil ?_
  refine xn_then ?_
  refine w_seq ?_
  refine w_reg ?_
  refine wl_mv (.const (.slice none 0 0)) (.slice none 0 0) (fun _ => rfl) rfl rfl ?_
  refine w_nil ?_
  refine xn_then ?_
  refine w_seq ?_
  refine w_seq ?_
  refine w_reg ?_
  refine wl_mv (.tmp 0) (.slice pa L.length c) (fun _ => rfl) rfl rfl ?_
  refine wl_val (.int .i64 ((L.length : Nat) : Int)) (len22 _ _ _ _ _ (by exact rfl) _ _ _ _ _ _) rfl ?_
  refine wl_mv (.const (.int .i64 (0))) (.int .i64 (0)) (fun _ => rfl) rfl rfl ?_
  refine w_nil ?_
  refine xn_then ?_
  refine w_block ?_
  have hz8 := hz
  refine w_loop (fun m l w1 => ∃ i : Nat, m = L.length - i ∧ i ≤ L.length ∧ look l 6 = .slice pa L.length c ∧ look l 7 = .int .i64 ((L.length : Nat) : Int) ∧ look l 8 = .int .i64 ((i : Nat) : Int) ∧ ∃ (pa1 : Option Addr) (cap1 : Nat) (L1 : List It), look l 3 = .slice pa1 i cap1 ∧ L1.length = i ∧ L1.map kx = (L.take i).map kx ∧ w1.ownsRow w.heap.size 54 23 (.slice pa1 i cap1) i (L1.flatMap It.cells) ∧ (∀ a ∈ L1, LEx w1 (It.ex a) ∧ In (fun b => w.heap.size ≤ b ∧ b < w1.heap.size ∧ (Value.slice pa1 i cap1).ownBlock ≠ some b) (It.ex a)) ∧ Mo w w1) _ ⟨0, rfl, Nat.zero_le _, rfl, rfl, rfl, ⟨none, 0, [], rfl, rfl, rfl, ⟨rfl, Or.inl ⟨rfl, rfl⟩⟩, fun _ h => (by cases h), M⟩⟩ ?_
  clear M
  rintro m l40 wl40 ⟨i, rfl, hi, e40_6, e40_7, e40_i, hE⟩
  by_cases hil : i < L.length
  · skip
    have hid : decide (i < L.length) = true := decide_eq_true hil
    obtain ⟨pa1, cap1, L1, e3, hL1, hk1, hown, hI, Mw⟩ := hE
    have M : Mo wl40 wl40 := Mo.refl _
    obtain ⟨y, hy⟩ := get_of_lt hil
    have hma := List.mem_of_getElem? hy
    obtain ⟨xs, hxs⟩ : ∃ xs, xs = L1.flatMap It.cells := ⟨_, rfl⟩
    rw [← hxs] at hown
    have hS1 := hS.kp Mw.kp
    have hoN : ∀ b, (Value.slice pa1 i cap1).ownBlock = some b → b < wl40.heap.size := fun b e => (own_lt hown e).1
    obtain ⟨b1, o1, hp1, hR1⟩ := D.SL.rw hS1 hy
    refine w_seq ?_
    refine w_reg ?_
    refine wl_bin (fun x y => do eqGuard .lss 3 (.tmp 8) (.tmp 7) x y; binOp .lss 3 x y) (.tmp 8) (.tmp 7) (.int .i64 ((i : Nat) : Int)) (.int .i64 ((L.length : Nat) : Int)) (.bool true) (fun _ => rfl) e40_i e40_7 (ltN hid _ _ _) rfl ?_
    refine w_nil ?_
    refine xn_then ?_
    refine w_seq ?_
    refine w_condT rfl ?_
    refine w_skip ?_
    refine xn_then ?_
    refine w_seq ?_
    refine w_block ?_
    refine w_seq ?_
    refine w_reg ?_
    refine wl_bin (fun x y => Instr.indexAt 22 x y) (.tmp 6) (.tmp 8) (.slice pa L.length c) (.int .i64 ((i : Nat) : Int)) (pt b1 (o1 + i * 23)) (fun _ => rfl) e40_6 e40_i (ix22 (i := i) hp1 hil _) rfl ?_
    refine wl_load 54 (.tmp 10) (pt b1 (o1 + i * 23)) (.agg (y.cells).toArray) rfl rfl (D.run_partR (hR1.mo M).at' 54 0 23 (y.cells) rfl Tryz.underlying54 rfl sz54) rfl ?_
    refine wl_alloc 54 #[.string ⟨#[]⟩, .int .i64 0, .int .i64 0, .int .i64 0, .bool false, .int .i64 0, .int .i64 0, .int .i64 0, .string ⟨#[]⟩, .string ⟨#[]⟩, .int .i64 0, .bool false, .int .u64 0, .int .u64 0, .int .u64 0, .int .u64 0, .int .i64 0, .bool false, .string ⟨#[]⟩, .int .i64 0, .int .i64 0, .int .i64 0, .slice none 0 0] rfl (fun _ => by kernel_rfl) rfl ?_
    intro k1 u41 hk hz hq Q1
    have on_k1 : (Value.slice pa1 i cap1).ownBlock ≠ some k1 := fun e => by have := (hown.lt _ e).2; omega
    have N_k1 : wl40.heap.size ≤ k1 := by have := M.size; omega
    replace hown := own_mo hown hq
    replace M := M.trans hq
    clear hk hz hq
    refine wl_stm 54 (.tmp 5) (.tmp 11) k1 0 ((y.cells).toArray) [.string ⟨#[]⟩, .int .i64 0, .int .i64 0, .int .i64 0, .bool false, .int .i64 0, .int .i64 0, .int .i64 0, .string ⟨#[]⟩, .string ⟨#[]⟩, .int .i64 0, .bool false, .int .u64 0, .int .u64 0, .int .u64 0, .int .u64 0, .int .i64 0, .bool false, .string ⟨#[]⟩, .int .i64 0, .int .i64 0, .int .i64 0, .slice none 0 0] (y.cells) Q1 rfl rfl rfl rfl rfl sz54 rfl rfl rfl ?_
    intro u42 hS hm9 Qn
    replace Q1 := Qn
    clear Qn
    replace hown := own_mk hown hm9 (fun k e h => on_k1 (by rw [e, h]))
    replace M := hS.mo _ N_k1 M
    clear hS hm9
    refine w_nil ?_
    refine xn_then ?_
    refine w_seq ?_
    refine w_reg ?_
    refine wl_un (fun v => Instr.fieldAt 54 v 5) (.tmp 5) (pt k1 0) (pt k1 6) (fun _ => rfl) rfl (by kernel_rfl) rfl ?_
    refine wl_un (fun v => Instr.fieldAt 52 v 7) (.tmp 12) (pt k1 6) (pt k1 22) (fun _ => rfl) rfl (by kernel_rfl) rfl ?_
    refine wl_load 50 (.tmp 13) (pt k1 22) (.slice y.ex.pa y.ex.args.length y.ex.cap) rfl rfl (run_one Q1 50 22 rfl Tryz.underlying50 rfl) rfl ?_
    obtain ⟨N9, hN9⟩ : ∃ N9, N9 = u42.heap.size := ⟨_, rfl⟩
    have hwN : wl40.heap.size ≤ N9 := by rw [hN9]; exact M.size
    have k9_k1 : k1 < N9 := by rw [hN9]; exact Q1.lt
    refine wl_callx 47 [(.tmp 14)] _ [.slice y.ex.pa y.ex.args.length y.ex.cap] rfl rfl (fun _ _ => by kernel_rfl) (cargs_n y.ex (hB y hma) ((hE0 y hma).kp (Mw.trans M).kp)) rfl ?_
    rintro e9 u43 ⟨pa9, cap9, xs9, rfl, hk9, hX9, hq⟩
    rw [← hN9] at hX9
    refine ⟨_, rfl, ?_⟩
    replace hown := own_mo hown hq
    replace Q1 := Q1.mo hq
    replace M := M.trans hq
    clear hq
    refine wl_un (fun v => Instr.fieldAt 54 v 5) (.tmp 5) (pt k1 0) (pt k1 6) (fun _ => rfl) rfl (by kernel_rfl) rfl ?_
    refine wl_un (fun v => Instr.fieldAt 52 v 7) (.tmp 16) (pt k1 6) (pt k1 22) (fun _ => rfl) rfl (by kernel_rfl) rfl ?_
    refine wl_stm1 50 (.tmp 17) (.tmp 15) k1 22 (.slice pa9 xs9.length cap9) (y.cells) [.string y.nm, .int .i64 y.k, .int .i64 y.tk, .int .i64 y.ts, .bool y.nd, .int .i64 y.po, .int .i64 y.ex.k, .int .i64 y.ex.op, .string y.ex.nm, .string y.ex.se, .int .i64 y.ex.v.k, .bool y.ex.v.d.b, .int .u64 y.ex.v.d.n0, .int .u64 y.ex.v.d.n1, .int .u64 y.ex.v.d.n2, .int .u64 y.ex.v.d.n3, .int .i64 y.ex.v.d.s, .bool y.ex.v.f, .string y.ex.v.t, .int .i64 y.ex.v.e, .int .i64 y.ex.sc, .int .i64 y.ex.po, .slice pa9 xs9.length cap9] Q1 rfl rfl rfl rfl rfl sz50 rfl rfl rfl rfl ?_
    intro u44 hS hm9 Qn
    replace Q1 := Qn
    clear Qn
    replace hown := own_mk hown hm9 (fun k e h => on_k1 (by rw [e, h]))
    replace hX9 := hX9.mk' hm9 (fun j e => by rw [e]; exact k9_k1)
    replace M := hS.mo _ N_k1 M
    clear hS hm9
    refine w_nil ?_
    refine xn_then ?_
    refine w_reg ?_
    refine wl_mv (.tmp 3) (.slice pa1 i cap1) (fun _ => rfl) e3 rfl ?_
    refine wl_load 54 (.tmp 5) (pt k1 0) (.agg #[.string y.nm, .int .i64 y.k, .int .i64 y.tk, .int .i64 y.ts, .bool y.nd, .int .i64 y.po, .int .i64 y.ex.k, .int .i64 y.ex.op, .string y.ex.nm, .string y.ex.se, .int .i64 y.ex.v.k, .bool y.ex.v.d.b, .int .u64 y.ex.v.d.n0, .int .u64 y.ex.v.d.n1, .int .u64 y.ex.v.d.n2, .int .u64 y.ex.v.d.n3, .int .i64 y.ex.v.d.s, .bool y.ex.v.f, .string y.ex.v.t, .int .i64 y.ex.v.e, .int .i64 y.ex.sc, .int .i64 y.ex.po, .slice pa9 xs9.length cap9]) rfl rfl (run_row Q1 54 0 23 [.string y.nm, .int .i64 y.k, .int .i64 y.tk, .int .i64 y.ts, .bool y.nd, .int .i64 y.po, .int .i64 y.ex.k, .int .i64 y.ex.op, .string y.ex.nm, .string y.ex.se, .int .i64 y.ex.v.k, .bool y.ex.v.d.b, .int .u64 y.ex.v.d.n0, .int .u64 y.ex.v.d.n1, .int .u64 y.ex.v.d.n2, .int .u64 y.ex.v.d.n3, .int .i64 y.ex.v.d.s, .bool y.ex.v.f, .string y.ex.v.t, .int .i64 y.ex.v.e, .int .i64 y.ex.sc, .int .i64 y.ex.po, .slice pa9 xs9.length cap9] rfl Tryz.underlying54 rfl sz54) rfl ?_
    refine wl_bs 22 1 [(0, (.tmp 19))] [(0, .agg #[.string y.nm, .int .i64 y.k, .int .i64 y.tk, .int .i64 y.ts, .bool y.nd, .int .i64 y.po, .int .i64 y.ex.k, .int .i64 y.ex.op, .string y.ex.nm, .string y.ex.se, .int .i64 y.ex.v.k, .bool y.ex.v.d.b, .int .u64 y.ex.v.d.n0, .int .u64 y.ex.v.d.n1, .int .u64 y.ex.v.d.n2, .int .u64 y.ex.v.d.n3, .int .i64 y.ex.v.d.s, .bool y.ex.v.f, .string y.ex.v.t, .int .i64 y.ex.v.e, .int .i64 y.ex.sc, .int .i64 y.ex.po, .slice pa9 xs9.length cap9])] #[.string y.nm, .int .i64 y.k, .int .i64 y.tk, .int .i64 y.ts, .bool y.nd, .int .i64 y.po, .int .i64 y.ex.k, .int .i64 y.ex.op, .string y.ex.nm, .string y.ex.se, .int .i64 y.ex.v.k, .bool y.ex.v.d.b, .int .u64 y.ex.v.d.n0, .int .u64 y.ex.v.d.n1, .int .u64 y.ex.v.d.n2, .int .u64 y.ex.v.d.n3, .int .i64 y.ex.v.d.s, .bool y.ex.v.f, .string y.ex.v.t, .int .i64 y.ex.v.e, .int .i64 y.ex.sc, .int .i64 y.ex.po, .slice pa9 xs9.length cap9] 54 rfl rfl (fun _ => by kernel_rfl) rfl ?_
    intro k2 u45 hk hz hq Q2
    have ne_k1_k2 : k1 ≠ k2 := by have := Q1.lt; omega
    have N_k2 : wl40.heap.size ≤ k2 := by have := M.size; omega
    have on_k2 : (Value.slice pa1 i cap1).ownBlock ≠ some k2 := fun e => by have := (own_lt hown e).1; omega
    replace hown := own_mo hown hq
    replace Q1 := Q1.mo hq
    replace hX9 := hX9.mo hq
    replace M := M.trans hq
    clear hk hz hq
    refine wl_app Tryz.underlying22 inf54 rfl (by decide) (.tmp 18) (.tmp 20) w.heap.size (.slice pa1 i cap1) i xs k2 1 1 [.string y.nm, .int .i64 y.k, .int .i64 y.tk, .int .i64 y.ts, .bool y.nd, .int .i64 y.po, .int .i64 y.ex.k, .int .i64 y.ex.op, .string y.ex.nm, .string y.ex.se, .int .i64 y.ex.v.k, .bool y.ex.v.d.b, .int .u64 y.ex.v.d.n0, .int .u64 y.ex.v.d.n1, .int .u64 y.ex.v.d.n2, .int .u64 y.ex.v.d.n3, .int .i64 y.ex.v.d.s, .bool y.ex.v.f, .string y.ex.v.t, .int .i64 y.ex.v.e, .int .i64 y.ex.sc, .int .i64 y.ex.po, .slice pa9 xs9.length cap9] rfl rfl rfl hown rfl Q2 (fun u hu => by simp only [List.mem_cons, List.not_mem_nil, or_false] at hu; rcases hu with rfl | rfl | rfl | rfl | rfl | rfl | rfl | rfl | rfl | rfl | rfl | rfl | rfl | rfl | rfl | rfl | rfl | rfl | rfl | rfl | rfl | rfl | rfl <;> rfl) (by decide) (by unfold maxLen; omega) (by omega) (Mw.trans M).size rfl ?_
    intro v9 u46 hOw hm9 hbk
    have hI2 := ci_step (f := It.ex) (N := w.heap.size) (N9 := N9) (x' := cpI y pa9 cap9 xs9) hI M (hX9.ex (cap := cap9) (hE0 y hma)) (by have := Mw.size; omega) (fun b e => by have := hoN b e; omega) hm9 hbk
    replace M := hm9.mo (Mw.trans M) (fun k e => (own_lt hown e).2)
    obtain ⟨pa2, cap2, rfl, _⟩ := own_form hOw
    clear hown hbk hm9
    refine wl_mv (.tmp 21) (.slice pa2 (i + 1) cap2) (fun _ => rfl) rfl rfl ?_
    refine w_nil ?_
    refine xn_blk ?_
    refine xn_then ?_
    refine w_reg ?_
    refine wl_bin (fun x y => do eqGuard .add 3 (.tmp 8) (.const (.int .i64 (1))) x y; binOp .add 3 x y) (.tmp 8) (.const (.int .i64 (1))) (.int .i64 ((i : Nat) : Int)) (.int .i64 (1)) (.int .i64 ((i + 1 : Nat) : Int)) (fun _ => rfl) e40_i rfl (add1r (k := i) (by omega) _ _ _) rfl ?_
    refine wl_mv (.tmp 22) (.int .i64 ((i + 1 : Nat) : Int)) (fun _ => rfl) rfl rfl ?_
    refine w_nil ?_
    exact xn_loop (L.length - (i + 1)) (by omega) ⟨i + 1, rfl, by omega, e40_6, e40_7, rfl, ⟨pa2, cap2, L1 ++ [cpI y pa9 cap9 xs9], rfl, by simp [hL1], by rw [List.map_append, hk1, List.take_add_one, hy]; simp [kx_cp hk9], by rw [hxs] at hOw; rw [List.flatMap_append]; exact hOw, hI2, M⟩⟩
  · skip
    have hid : decide (i < L.length) = false := decide_eq_false hil
    have hie : i = L.length := by omega
    obtain ⟨pa1, cap1, L1, e3, hL1, hk1, hown, hI, Mw⟩ := hE
    have M := Mw
    refine w_seq ?_
    refine w_reg ?_
    refine wl_bin (fun x y => do eqGuard .lss 3 (.tmp 8) (.tmp 7) x y; binOp .lss 3 x y) (.tmp 8) (.tmp 7) (.int .i64 ((i : Nat) : Int)) (.int .i64 ((L.length : Nat) : Int)) (.bool false) (fun _ => rfl) e40_i e40_7 (ltN hid _ _ _) rfl ?_
    refine w_nil ?_
    refine xn_then ?_
    refine w_seq ?_
    refine w_condF rfl ?_
    refine w_exit ?_
    refine xx_then ?_
    refine xx_then ?_
    refine xx_blk ?_
    refine xn_then ?_
    refine w_seq ?_
    refine w_reg ?_
    refine wl_mv (.tmp 3) (.slice pa1 i cap1) (fun _ => rfl) e3 rfl ?_
    refine wl_mv (.tmp 23) (.slice pa1 i cap1) (fun _ => rfl) rfl rfl ?_
    refine w_nil ?_
    refine xn_then ?_
    refine w_ret ?_
    exact w_ret1 _ (.slice pa1 i cap1) rfl rfl ⟨pa1, cap1, L1, by rw [hL1], by rw [hk1, hie, List.take_length], by rw [← hL1] at hown; exact hown, fun y hy => ⟨(hI y hy).1, (hI y hy).2.mono (fun b hb => ⟨hb.1, hb.2.1⟩)⟩, M⟩
end Go.Proofs.YtepfokoepibkcaaGreat
