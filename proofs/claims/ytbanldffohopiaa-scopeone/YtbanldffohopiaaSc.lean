/-
  Copies of expressions and items; Flat.
-/
import Derived.Test.YtbanldffohopiaaSb
namespace Go.Proofs.Ytbanldffohopiaa
open Go.RowKit D
theorem inf64 : ∃ i, Try.prog.info? 64 = some i ∧ i.zero = some (.agg #[.int .i64 0, .int .i64 0, .string ⟨#[]⟩, .string ⟨#[]⟩, .int .i64 0, .bool false, .int .u64 0, .int .u64 0, .int .u64 0, .int .u64 0, .int .i64 0, .bool false, .string ⟨#[]⟩, .int .i64 0, .int .i64 0, .int .i64 0, .slice none 0 0]) ∧ i.size = 17 ∧ i.bytes = 176 := by
  have h : (Try.prog.info? 64).map (fun i => (i.zero, i.size, i.bytes)) = some (some (.agg #[.int .i64 0, .int .i64 0, .string ⟨#[]⟩, .string ⟨#[]⟩, .int .i64 0, .bool false, .int .u64 0, .int .u64 0, .int .u64 0, .int .u64 0, .int .i64 0, .bool false, .string ⟨#[]⟩, .int .i64 0, .int .i64 0, .int .i64 0, .slice none 0 0]), 17, 176) := by kernel_rfl
  cases hi : Try.prog.info? 64 with
  | none => rw [hi] at h; cases h
  | some i =>
    rw [hi] at h
    simp at h
    exact ⟨i, rfl, h.1, h.2.1, h.2.2⟩
theorem inf66 : ∃ i, Try.prog.info? 66 = some i ∧ i.zero = some (.agg #[.string ⟨#[]⟩, .int .i64 0, .int .i64 0, .int .i64 0, .bool false, .int .i64 0, .int .i64 0, .int .i64 0, .string ⟨#[]⟩, .string ⟨#[]⟩, .int .i64 0, .bool false, .int .u64 0, .int .u64 0, .int .u64 0, .int .u64 0, .int .i64 0, .bool false, .string ⟨#[]⟩, .int .i64 0, .int .i64 0, .int .i64 0, .slice none 0 0]) ∧ i.size = 23 ∧ i.bytes = 232 := by
  have h : (Try.prog.info? 66).map (fun i => (i.zero, i.size, i.bytes)) = some (some (.agg #[.string ⟨#[]⟩, .int .i64 0, .int .i64 0, .int .i64 0, .bool false, .int .i64 0, .int .i64 0, .int .i64 0, .string ⟨#[]⟩, .string ⟨#[]⟩, .int .i64 0, .bool false, .int .u64 0, .int .u64 0, .int .u64 0, .int .u64 0, .int .i64 0, .bool false, .string ⟨#[]⟩, .int .i64 0, .int .i64 0, .int .i64 0, .slice none 0 0]), 23, 232) := by kernel_rfl
  cases hi : Try.prog.info? 66 with
  | none => rw [hi] at h; cases h
  | some i =>
    rw [hi] at h
    simp at h
    exact ⟨i, rfl, h.1, h.2.1, h.2.2⟩
/-- No list of parts is longer than memory. -/
def AB : Ex → Prop
  | .mk _ _ _ _ _ _ _ _ _ args => args.length * 176 ≤ 140737488351232 ∧ ∀ o ∈ args, AB o
theorem AB.inv : ∀ {x : Ex}, AB x → x.args.length * 176 ≤ 140737488351232 ∧ ∀ o ∈ x.args, AB o
  | .mk _ _ _ _ _ _ _ _ _ _, h => by rw [AB] at h; exact h
theorem AB.mk : ∀ {x : Ex}, x.args.length * 176 ≤ 140737488351232 → (∀ o ∈ x.args, AB o) → AB x
  | .mk _ _ _ _ _ _ _ _ _ _, h1, h2 => by rw [AB]; exact ⟨h1, h2⟩
theorem AB.ln {x : Ex} (h : AB x) : x.args.length * 176 ≤ 140737488351232 := h.inv.1
theorem AB.ar {x : Ex} (h : AB x) : ∀ o ∈ x.args, AB o := h.inv.2
theorem cargs_n : ∀ (x : Ex), AB x → ∀ {w : World}, LEx w x → Calls Try.prog 63 #[.slice x.pa x.args.length x.cap] w fun e w' => ∃ pa cap, e = .returned (.slice pa x.args.length cap) ∧ Mo w w' := by
  refine Ex.ind2 ?_
  intro x ih hB w hL
  refine w_enter 22 Try.func63 Try.ntmps63 rfl rfl ?_
  have M : Mo w w := Mo.refl _
  refine w_seq ?_
  refine w_reg ?_
  refine wl_mv (.const (.slice none 0 0)) (.slice none 0 0) (fun _ => rfl) rfl rfl ?_
  refine w_nil ?_
  refine xn_then ?_
  refine w_seq ?_
  refine w_reg ?_
  refine wl_mv (.const (.slice none 0 0)) (.slice none 0 0) (fun _ => rfl) rfl rfl ?_
  refine w_nil ?_
  refine xn_then ?_
  refine w_seq ?_
  refine w_seq ?_
  refine w_reg ?_
  refine wl_mv (.tmp 0) (.slice x.pa x.args.length x.cap) (fun _ => rfl) rfl rfl ?_
  refine wl_val (.int .i64 ((x.args.length : Nat) : Int)) (len62 _ _ _ _ _ (by exact rfl) _ _ _ _ _ _) rfl ?_
  refine wl_mv (.const (.int .i64 (0))) (.int .i64 (0)) (fun _ => rfl) rfl rfl ?_
  refine w_nil ?_
  refine xn_then ?_
  refine w_block ?_
  have hz := hB.ln
  refine w_loop (fun m l w1 => ∃ i : Nat, m = x.args.length - i ∧ i ≤ x.args.length ∧ look l 6 = .slice x.pa x.args.length x.cap ∧ look l 7 = .int .i64 ((x.args.length : Nat) : Int) ∧ look l 8 = .int .i64 ((i : Nat) : Int) ∧ ∃ pa1 cap1 xs, look l 3 = .slice pa1 i cap1 ∧ w1.ownsRow w.heap.size 64 17 (.slice pa1 i cap1) i xs ∧ Mo w w1) _ ⟨0, rfl, Nat.zero_le _, rfl, rfl, rfl, ⟨none, 0, [], rfl, ⟨rfl, Or.inl ⟨rfl, rfl⟩⟩, M⟩⟩ ?_
  clear M
  rintro m l40 wl40 ⟨i, rfl, hi, e40_6, e40_7, e40_i, hE⟩
  by_cases hil : i < x.args.length
  · skip
    have hid : decide (i < x.args.length) = true := decide_eq_true hil
    obtain ⟨pa1, cap1, xs, e3, hown, M⟩ := hE
    obtain ⟨a, ha⟩ := get_of_lt hil
    have hma := List.mem_of_getElem? ha
    obtain ⟨b1, o1, hp1, hR1⟩ := D.SL.rw hL.sl ha
    refine w_seq ?_
    refine w_reg ?_
    refine wl_bin (fun x y => do eqGuard .lss 3 (.tmp 8) (.tmp 7) x y; binOp .lss 3 x y) (.tmp 8) (.tmp 7) (.int .i64 ((i : Nat) : Int)) (.int .i64 ((x.args.length : Nat) : Int)) (.bool true) (fun _ => rfl) e40_i e40_7 (ltN hid _ _ _) rfl ?_
    refine w_nil ?_
    refine xn_then ?_
    refine w_seq ?_
    refine w_condT rfl ?_
    refine w_skip ?_
    refine xn_then ?_
    refine w_seq ?_
    refine w_block ?_
    refine w_seq ?_
    refine w_reg ?_
    refine wl_bin (fun x y => Instr.indexAt 62 x y) (.tmp 6) (.tmp 8) (.slice x.pa x.args.length x.cap) (.int .i64 ((i : Nat) : Int)) (pt b1 (o1 + i * 17)) (fun _ => rfl) e40_6 e40_i (ix62 (i := i) hp1 hil _) rfl ?_
    refine wl_load 64 (.tmp 10) (pt b1 (o1 + i * 17)) (.agg (a.cells).toArray) rfl rfl (D.run_partR (hR1.mo M).at' 64 0 17 (a.cells) rfl Try.underlying64 rfl sz64) rfl ?_
    refine wl_alloc 64 #[.int .i64 0, .int .i64 0, .string ⟨#[]⟩, .string ⟨#[]⟩, .int .i64 0, .bool false, .int .u64 0, .int .u64 0, .int .u64 0, .int .u64 0, .int .i64 0, .bool false, .string ⟨#[]⟩, .int .i64 0, .int .i64 0, .int .i64 0, .slice none 0 0] rfl (fun _ => by kernel_rfl) rfl ?_
    intro k1 u41 hk hz hq Q1
    have on_k1 : (Value.slice pa1 i cap1).ownBlock ≠ some k1 := fun e => by have := (hown.lt _ e).2; omega
    have N_k1 : w.heap.size ≤ k1 := by have := M.size; omega
    replace hown := own_mo hown hq
    replace M := M.trans hq
    clear hk hz hq
    refine wl_stm 64 (.tmp 5) (.tmp 11) k1 0 ((a.cells).toArray) [.int .i64 0, .int .i64 0, .string ⟨#[]⟩, .string ⟨#[]⟩, .int .i64 0, .bool false, .int .u64 0, .int .u64 0, .int .u64 0, .int .u64 0, .int .i64 0, .bool false, .string ⟨#[]⟩, .int .i64 0, .int .i64 0, .int .i64 0, .slice none 0 0] (a.cells) Q1 rfl rfl rfl rfl rfl sz64 rfl rfl rfl ?_
    intro u42 hS hm9 Qn
    replace Q1 := Qn
    clear Qn
    replace hown := own_mk hown hm9 (fun k e h => on_k1 (by rw [e, h]))
    replace M := hS.mo _ N_k1 M
    clear hS hm9
    refine w_nil ?_
    refine xn_then ?_
    refine w_seq ?_
    refine w_reg ?_
    refine wl_un (fun v => Instr.fieldAt 64 v 7) (.tmp 5) (pt k1 0) (pt k1 16) (fun _ => rfl) rfl (by kernel_rfl) rfl ?_
    refine wl_load 62 (.tmp 12) (pt k1 16) (.slice a.pa a.args.length a.cap) rfl rfl (run_one Q1 62 16 rfl Try.underlying62 rfl) rfl ?_
    refine wl_callx 63 [(.tmp 13)] _ [.slice a.pa a.args.length a.cap] rfl rfl (fun _ _ => by kernel_rfl) (ih a hma (hB.ar a hma) ((hL.ar a hma).kp M.kp)) rfl ?_
    rintro e9 u43 ⟨pa9, cap9, rfl, hq⟩
    refine ⟨_, rfl, ?_⟩
    replace hown := own_mo hown hq
    replace Q1 := Q1.mo hq
    replace M := M.trans hq
    clear hq
    refine wl_un (fun v => Instr.fieldAt 64 v 7) (.tmp 5) (pt k1 0) (pt k1 16) (fun _ => rfl) rfl (by kernel_rfl) rfl ?_
    refine wl_stm1 62 (.tmp 15) (.tmp 14) k1 16 (.slice pa9 a.args.length cap9) (a.cells) [.int .i64 a.k, .int .i64 a.op, .string a.nm, .string a.se, .int .i64 a.v.k, .bool a.v.d.b, .int .u64 a.v.d.n0, .int .u64 a.v.d.n1, .int .u64 a.v.d.n2, .int .u64 a.v.d.n3, .int .i64 a.v.d.s, .bool a.v.f, .string a.v.t, .int .i64 a.v.e, .int .i64 a.sc, .int .i64 a.po, .slice pa9 a.args.length cap9] Q1 rfl rfl rfl rfl rfl sz62 rfl rfl rfl rfl ?_
    intro u44 hS hm9 Qn
    replace Q1 := Qn
    clear Qn
    replace hown := own_mk hown hm9 (fun k e h => on_k1 (by rw [e, h]))
    replace M := hS.mo _ N_k1 M
    clear hS hm9
    refine w_nil ?_
    refine xn_then ?_
    refine w_reg ?_
    refine wl_mv (.tmp 3) (.slice pa1 i cap1) (fun _ => rfl) e3 rfl ?_
    refine wl_load 64 (.tmp 5) (pt k1 0) (.agg #[.int .i64 a.k, .int .i64 a.op, .string a.nm, .string a.se, .int .i64 a.v.k, .bool a.v.d.b, .int .u64 a.v.d.n0, .int .u64 a.v.d.n1, .int .u64 a.v.d.n2, .int .u64 a.v.d.n3, .int .i64 a.v.d.s, .bool a.v.f, .string a.v.t, .int .i64 a.v.e, .int .i64 a.sc, .int .i64 a.po, .slice pa9 a.args.length cap9]) rfl rfl (run_row Q1 64 0 17 [.int .i64 a.k, .int .i64 a.op, .string a.nm, .string a.se, .int .i64 a.v.k, .bool a.v.d.b, .int .u64 a.v.d.n0, .int .u64 a.v.d.n1, .int .u64 a.v.d.n2, .int .u64 a.v.d.n3, .int .i64 a.v.d.s, .bool a.v.f, .string a.v.t, .int .i64 a.v.e, .int .i64 a.sc, .int .i64 a.po, .slice pa9 a.args.length cap9] rfl Try.underlying64 rfl sz64) rfl ?_
    refine wl_bs 62 1 [(0, (.tmp 17))] [(0, .agg #[.int .i64 a.k, .int .i64 a.op, .string a.nm, .string a.se, .int .i64 a.v.k, .bool a.v.d.b, .int .u64 a.v.d.n0, .int .u64 a.v.d.n1, .int .u64 a.v.d.n2, .int .u64 a.v.d.n3, .int .i64 a.v.d.s, .bool a.v.f, .string a.v.t, .int .i64 a.v.e, .int .i64 a.sc, .int .i64 a.po, .slice pa9 a.args.length cap9])] #[.int .i64 a.k, .int .i64 a.op, .string a.nm, .string a.se, .int .i64 a.v.k, .bool a.v.d.b, .int .u64 a.v.d.n0, .int .u64 a.v.d.n1, .int .u64 a.v.d.n2, .int .u64 a.v.d.n3, .int .i64 a.v.d.s, .bool a.v.f, .string a.v.t, .int .i64 a.v.e, .int .i64 a.sc, .int .i64 a.po, .slice pa9 a.args.length cap9] 64 rfl rfl (fun _ => by kernel_rfl) rfl ?_
    intro k2 u45 hk hz hq Q2
    have ne_k1_k2 : k1 ≠ k2 := by have := Q1.lt; omega
    have N_k2 : w.heap.size ≤ k2 := by have := M.size; omega
    have on_k2 : (Value.slice pa1 i cap1).ownBlock ≠ some k2 := fun e => by have := (own_lt hown e).1; omega
    replace hown := own_mo hown hq
    replace Q1 := Q1.mo hq
    replace M := M.trans hq
    clear hk hz hq
    refine wl_app Try.underlying62 inf64 rfl (by decide) (.tmp 16) (.tmp 18) w.heap.size (.slice pa1 i cap1) i xs k2 1 1 [.int .i64 a.k, .int .i64 a.op, .string a.nm, .string a.se, .int .i64 a.v.k, .bool a.v.d.b, .int .u64 a.v.d.n0, .int .u64 a.v.d.n1, .int .u64 a.v.d.n2, .int .u64 a.v.d.n3, .int .i64 a.v.d.s, .bool a.v.f, .string a.v.t, .int .i64 a.v.e, .int .i64 a.sc, .int .i64 a.po, .slice pa9 a.args.length cap9] rfl rfl rfl hown rfl Q2 (fun u hu => by simp only [List.mem_cons, List.not_mem_nil, or_false] at hu; rcases hu with rfl | rfl | rfl | rfl | rfl | rfl | rfl | rfl | rfl | rfl | rfl | rfl | rfl | rfl | rfl | rfl | rfl <;> rfl) (by decide) (by unfold maxLen; omega) (by omega) M.size rfl ?_
    intro v9 u46 hOw hm9 hbk
    replace M := hm9.mo M (fun k e => (own_lt hown e).2)
    obtain ⟨pa2, cap2, rfl, _⟩ := own_form hOw
    clear hown hbk hm9
    refine wl_mv (.tmp 19) (.slice pa2 (i + 1) cap2) (fun _ => rfl) rfl rfl ?_
    refine w_nil ?_
    refine xn_blk ?_
    refine xn_then ?_
    refine w_reg ?_
    refine wl_bin (fun x y => do eqGuard .add 3 (.tmp 8) (.const (.int .i64 (1))) x y; binOp .add 3 x y) (.tmp 8) (.const (.int .i64 (1))) (.int .i64 ((i : Nat) : Int)) (.int .i64 (1)) (.int .i64 ((i + 1 : Nat) : Int)) (fun _ => rfl) e40_i rfl (add1r (k := i) (by omega) _ _ _) rfl ?_
    refine wl_mv (.tmp 20) (.int .i64 ((i + 1 : Nat) : Int)) (fun _ => rfl) rfl rfl ?_
    refine w_nil ?_
    exact xn_loop (x.args.length - (i + 1)) (by omega) ⟨i + 1, rfl, by omega, e40_6, e40_7, rfl, ⟨pa2, cap2, _, rfl, hOw, M⟩⟩
  · skip
    have hid : decide (i < x.args.length) = false := decide_eq_false hil
    have hie : i = x.args.length := by omega
    obtain ⟨pa1, cap1, xs, e3, hown, M⟩ := hE
    refine w_seq ?_
    refine w_reg ?_
    refine wl_bin (fun x y => do eqGuard .lss 3 (.tmp 8) (.tmp 7) x y; binOp .lss 3 x y) (.tmp 8) (.tmp 7) (.int .i64 ((i : Nat) : Int)) (.int .i64 ((x.args.length : Nat) : Int)) (.bool false) (fun _ => rfl) e40_i e40_7 (ltN hid _ _ _) rfl ?_
    refine w_nil ?_
    refine xn_then ?_
    refine w_seq ?_
    refine w_condF rfl ?_
    refine w_exit ?_
    refine xx_then ?_
    refine xx_then ?_
    refine xx_blk ?_
    refine xn_then ?_
    refine w_seq ?_
    refine w_reg ?_
    refine wl_mv (.tmp 3) (.slice pa1 i cap1) (fun _ => rfl) e3 rfl ?_
    refine wl_mv (.tmp 21) (.slice pa1 i cap1) (fun _ => rfl) rfl rfl ?_
    refine w_nil ?_
    refine xn_then ?_
    refine w_ret ?_
    exact w_ret1 _ (.slice pa1 i cap1) rfl rfl ⟨pa1, cap1, by rw [hie], M⟩
/-- The same item, but for where its expression's parts lie. -/
def cpI (y : It) (pa : Option Addr) (cap : Nat) : It := ⟨y.nm, y.k, y.tk, y.ts, y.nd, y.po, .mk y.ex.k y.ex.op y.ex.nm y.ex.se y.ex.v y.ex.sc y.ex.po pa cap y.ex.args⟩
theorem citems_n {w : World} {pa : Option Addr} {c : Nat} {L : List It} (hS : SL w 23 It.cells pa L) (hE0 : ∀ y ∈ L, LEx w y.ex) (hB : ∀ y ∈ L, AB y.ex) (hz : L.length ≤ 600000000000) : Calls Try.prog 46 #[.slice pa L.length c] w fun e w' => ∃ (pa1 : Option Addr) (cap1 : Nat) (L1 : List It), e = .returned (.slice pa1 L1.length cap1) ∧ L1.map (fun y => (y.nm, y.k)) = L.map (fun y => (y.nm, y.k)) ∧ w'.ownsRow w.heap.size 66 23 (.slice pa1 L1.length cap1) L1.length (L1.flatMap It.cells) ∧ Mo w w' := by
  refine w_enter 24 Try.func46 Try.ntmps46 rfl rfl ?_
  have M : Mo w w := Mo.refl _
  refine w_seq ?_
  refine w_reg ?_
  refine wl_mv (.const (.slice none 0 0)) (.slice none 0 0) (fun _ => rfl) rfl rfl ?_
  refine w_nil ?_
  refine xn_then ?_
  refine w_seq ?_
  refine w_reg ?_
  refine wl_mv (.const (.slice none 0 0)) (.slice none 0 0) (fun _ => rfl) rfl rfl ?_
  refine w_nil ?_
  refine xn_then ?_
  refine w_seq ?_
  refine w_seq ?_
  refine w_reg ?_
  refine wl_mv (.tmp 0) (.slice pa L.length c) (fun _ => rfl) rfl rfl ?_
  refine wl_val (.int .i64 ((L.length : Nat) : Int)) (len22 _ _ _ _ _ (by exact rfl) _ _ _ _ _ _) rfl ?_
  refine wl_mv (.const (.int .i64 (0))) (.int .i64 (0)) (fun _ => rfl) rfl rfl ?_
  refine w_nil ?_
  refine xn_then ?_
  refine w_block ?_
  refine w_loop (fun m l w1 => ∃ i : Nat, m = L.length - i ∧ i ≤ L.length ∧ look l 6 = .slice pa L.length c ∧ look l 7 = .int .i64 ((L.length : Nat) : Int) ∧ look l 8 = .int .i64 ((i : Nat) : Int) ∧ ∃ (pa1 : Option Addr) (cap1 : Nat) (L1 : List It), look l 3 = .slice pa1 i cap1 ∧ L1.length = i ∧ L1.map (fun y => (y.nm, y.k)) = (L.take i).map (fun y => (y.nm, y.k)) ∧ w1.ownsRow w.heap.size 66 23 (.slice pa1 i cap1) i (L1.flatMap It.cells) ∧ Mo w w1) _ ⟨0, rfl, Nat.zero_le _, rfl, rfl, rfl, ⟨none, 0, [], rfl, rfl, rfl, ⟨rfl, Or.inl ⟨rfl, rfl⟩⟩, M⟩⟩ ?_
  clear M
  rintro m l40 wl40 ⟨i, rfl, hi, e40_6, e40_7, e40_i, hE⟩
  by_cases hil : i < L.length
  · skip
    have hid : decide (i < L.length) = true := decide_eq_true hil
    obtain ⟨pa1, cap1, L1, e3, hL1, hn1, hown, M⟩ := hE
    obtain ⟨y, hy⟩ := get_of_lt hil
    have hmy := List.mem_of_getElem? hy
    have hxs : ∃ xs, xs = L1.flatMap It.cells := ⟨_, rfl⟩
    obtain ⟨xs, hxs⟩ := hxs
    rw [← hxs] at hown
    obtain ⟨b1, o1, hp1, hR1⟩ := D.SL.rw hS hy
    refine w_seq ?_
    refine w_reg ?_
    refine wl_bin (fun x y => do eqGuard .lss 3 (.tmp 8) (.tmp 7) x y; binOp .lss 3 x y) (.tmp 8) (.tmp 7) (.int .i64 ((i : Nat) : Int)) (.int .i64 ((L.length : Nat) : Int)) (.bool true) (fun _ => rfl) e40_i e40_7 (ltN hid _ _ _) rfl ?_
    refine w_nil ?_
    refine xn_then ?_
    refine w_seq ?_
    refine w_condT rfl ?_
    refine w_skip ?_
    refine xn_then ?_
    refine w_seq ?_
    refine w_block ?_
    refine w_seq ?_
    refine w_reg ?_
    refine wl_bin (fun x y => Instr.indexAt 22 x y) (.tmp 6) (.tmp 8) (.slice pa L.length c) (.int .i64 ((i : Nat) : Int)) (pt b1 (o1 + i * 23)) (fun _ => rfl) e40_6 e40_i (ix22 (i := i) hp1 hil _) rfl ?_
    refine wl_load 66 (.tmp 10) (pt b1 (o1 + i * 23)) (.agg (y.cells).toArray) rfl rfl (D.run_partR (hR1.mo M).at' 66 0 23 (y.cells) rfl Try.underlying66 rfl sz66) rfl ?_
    refine wl_alloc 66 #[.string ⟨#[]⟩, .int .i64 0, .int .i64 0, .int .i64 0, .bool false, .int .i64 0, .int .i64 0, .int .i64 0, .string ⟨#[]⟩, .string ⟨#[]⟩, .int .i64 0, .bool false, .int .u64 0, .int .u64 0, .int .u64 0, .int .u64 0, .int .i64 0, .bool false, .string ⟨#[]⟩, .int .i64 0, .int .i64 0, .int .i64 0, .slice none 0 0] rfl (fun _ => by kernel_rfl) rfl ?_
    intro k1 u41 hk hz hq Q1
    have on_k1 : (Value.slice pa1 i cap1).ownBlock ≠ some k1 := fun e => by have := (hown.lt _ e).2; omega
    have N_k1 : w.heap.size ≤ k1 := by have := M.size; omega
    replace hown := own_mo hown hq
    replace M := M.trans hq
    clear hk hz hq
    refine wl_stm 66 (.tmp 5) (.tmp 11) k1 0 ((y.cells).toArray) [.string ⟨#[]⟩, .int .i64 0, .int .i64 0, .int .i64 0, .bool false, .int .i64 0, .int .i64 0, .int .i64 0, .string ⟨#[]⟩, .string ⟨#[]⟩, .int .i64 0, .bool false, .int .u64 0, .int .u64 0, .int .u64 0, .int .u64 0, .int .i64 0, .bool false, .string ⟨#[]⟩, .int .i64 0, .int .i64 0, .int .i64 0, .slice none 0 0] (y.cells) Q1 rfl rfl rfl rfl rfl sz66 rfl rfl rfl ?_
    intro u42 hS hm9 Qn
    replace Q1 := Qn
    clear Qn
    replace hown := own_mk hown hm9 (fun k e h => on_k1 (by rw [e, h]))
    replace M := hS.mo _ N_k1 M
    clear hS hm9
    refine w_nil ?_
    refine xn_then ?_
    refine w_seq ?_
    refine w_reg ?_
    refine wl_un (fun v => Instr.fieldAt 66 v 5) (.tmp 5) (pt k1 0) (pt k1 6) (fun _ => rfl) rfl (by kernel_rfl) rfl ?_
    refine wl_un (fun v => Instr.fieldAt 64 v 7) (.tmp 12) (pt k1 6) (pt k1 22) (fun _ => rfl) rfl (by kernel_rfl) rfl ?_
    refine wl_load 62 (.tmp 13) (pt k1 22) (.slice y.ex.pa y.ex.args.length y.ex.cap) rfl rfl (run_one Q1 62 22 rfl Try.underlying62 rfl) rfl ?_
    refine wl_callx 63 [(.tmp 14)] _ [.slice y.ex.pa y.ex.args.length y.ex.cap] rfl rfl (fun _ _ => by kernel_rfl) (cargs_n y.ex (hB y hmy) ((hE0 y hmy).kp M.kp)) rfl ?_
    rintro e9 u43 ⟨pa9, cap9, rfl, hq⟩
    refine ⟨_, rfl, ?_⟩
    replace hown := own_mo hown hq
    replace Q1 := Q1.mo hq
    replace M := M.trans hq
    clear hq
    refine wl_un (fun v => Instr.fieldAt 66 v 5) (.tmp 5) (pt k1 0) (pt k1 6) (fun _ => rfl) rfl (by kernel_rfl) rfl ?_
    refine wl_un (fun v => Instr.fieldAt 64 v 7) (.tmp 16) (pt k1 6) (pt k1 22) (fun _ => rfl) rfl (by kernel_rfl) rfl ?_
    refine wl_stm1 62 (.tmp 17) (.tmp 15) k1 22 (.slice pa9 y.ex.args.length cap9) (y.cells) [.string y.nm, .int .i64 y.k, .int .i64 y.tk, .int .i64 y.ts, .bool y.nd, .int .i64 y.po, .int .i64 y.ex.k, .int .i64 y.ex.op, .string y.ex.nm, .string y.ex.se, .int .i64 y.ex.v.k, .bool y.ex.v.d.b, .int .u64 y.ex.v.d.n0, .int .u64 y.ex.v.d.n1, .int .u64 y.ex.v.d.n2, .int .u64 y.ex.v.d.n3, .int .i64 y.ex.v.d.s, .bool y.ex.v.f, .string y.ex.v.t, .int .i64 y.ex.v.e, .int .i64 y.ex.sc, .int .i64 y.ex.po, .slice pa9 y.ex.args.length cap9] Q1 rfl rfl rfl rfl rfl sz62 rfl rfl rfl rfl ?_
    intro u44 hS hm9 Qn
    replace Q1 := Qn
    clear Qn
    replace hown := own_mk hown hm9 (fun k e h => on_k1 (by rw [e, h]))
    replace M := hS.mo _ N_k1 M
    clear hS hm9
    refine w_nil ?_
    refine xn_then ?_
    refine w_reg ?_
    refine wl_mv (.tmp 3) (.slice pa1 i cap1) (fun _ => rfl) e3 rfl ?_
    refine wl_load 66 (.tmp 5) (pt k1 0) (.agg #[.string y.nm, .int .i64 y.k, .int .i64 y.tk, .int .i64 y.ts, .bool y.nd, .int .i64 y.po, .int .i64 y.ex.k, .int .i64 y.ex.op, .string y.ex.nm, .string y.ex.se, .int .i64 y.ex.v.k, .bool y.ex.v.d.b, .int .u64 y.ex.v.d.n0, .int .u64 y.ex.v.d.n1, .int .u64 y.ex.v.d.n2, .int .u64 y.ex.v.d.n3, .int .i64 y.ex.v.d.s, .bool y.ex.v.f, .string y.ex.v.t, .int .i64 y.ex.v.e, .int .i64 y.ex.sc, .int .i64 y.ex.po, .slice pa9 y.ex.args.length cap9]) rfl rfl (run_row Q1 66 0 23 [.string y.nm, .int .i64 y.k, .int .i64 y.tk, .int .i64 y.ts, .bool y.nd, .int .i64 y.po, .int .i64 y.ex.k, .int .i64 y.ex.op, .string y.ex.nm, .string y.ex.se, .int .i64 y.ex.v.k, .bool y.ex.v.d.b, .int .u64 y.ex.v.d.n0, .int .u64 y.ex.v.d.n1, .int .u64 y.ex.v.d.n2, .int .u64 y.ex.v.d.n3, .int .i64 y.ex.v.d.s, .bool y.ex.v.f, .string y.ex.v.t, .int .i64 y.ex.v.e, .int .i64 y.ex.sc, .int .i64 y.ex.po, .slice pa9 y.ex.args.length cap9] rfl Try.underlying66 rfl sz66) rfl ?_
    refine wl_bs 22 1 [(0, (.tmp 19))] [(0, .agg #[.string y.nm, .int .i64 y.k, .int .i64 y.tk, .int .i64 y.ts, .bool y.nd, .int .i64 y.po, .int .i64 y.ex.k, .int .i64 y.ex.op, .string y.ex.nm, .string y.ex.se, .int .i64 y.ex.v.k, .bool y.ex.v.d.b, .int .u64 y.ex.v.d.n0, .int .u64 y.ex.v.d.n1, .int .u64 y.ex.v.d.n2, .int .u64 y.ex.v.d.n3, .int .i64 y.ex.v.d.s, .bool y.ex.v.f, .string y.ex.v.t, .int .i64 y.ex.v.e, .int .i64 y.ex.sc, .int .i64 y.ex.po, .slice pa9 y.ex.args.length cap9])] #[.string y.nm, .int .i64 y.k, .int .i64 y.tk, .int .i64 y.ts, .bool y.nd, .int .i64 y.po, .int .i64 y.ex.k, .int .i64 y.ex.op, .string y.ex.nm, .string y.ex.se, .int .i64 y.ex.v.k, .bool y.ex.v.d.b, .int .u64 y.ex.v.d.n0, .int .u64 y.ex.v.d.n1, .int .u64 y.ex.v.d.n2, .int .u64 y.ex.v.d.n3, .int .i64 y.ex.v.d.s, .bool y.ex.v.f, .string y.ex.v.t, .int .i64 y.ex.v.e, .int .i64 y.ex.sc, .int .i64 y.ex.po, .slice pa9 y.ex.args.length cap9] 66 rfl rfl (fun _ => by kernel_rfl) rfl ?_
    intro k2 u45 hk hz hq Q2
    have ne_k1_k2 : k1 ≠ k2 := by have := Q1.lt; omega
    have N_k2 : w.heap.size ≤ k2 := by have := M.size; omega
    have on_k2 : (Value.slice pa1 i cap1).ownBlock ≠ some k2 := fun e => by have := (own_lt hown e).1; omega
    replace hown := own_mo hown hq
    replace Q1 := Q1.mo hq
    replace M := M.trans hq
    clear hk hz hq
    refine wl_app Try.underlying22 inf66 rfl (by decide) (.tmp 18) (.tmp 20) w.heap.size (.slice pa1 i cap1) i xs k2 1 1 [.string y.nm, .int .i64 y.k, .int .i64 y.tk, .int .i64 y.ts, .bool y.nd, .int .i64 y.po, .int .i64 y.ex.k, .int .i64 y.ex.op, .string y.ex.nm, .string y.ex.se, .int .i64 y.ex.v.k, .bool y.ex.v.d.b, .int .u64 y.ex.v.d.n0, .int .u64 y.ex.v.d.n1, .int .u64 y.ex.v.d.n2, .int .u64 y.ex.v.d.n3, .int .i64 y.ex.v.d.s, .bool y.ex.v.f, .string y.ex.v.t, .int .i64 y.ex.v.e, .int .i64 y.ex.sc, .int .i64 y.ex.po, .slice pa9 y.ex.args.length cap9] rfl rfl rfl hown rfl Q2 (fun u hu => by simp only [List.mem_cons, List.not_mem_nil, or_false] at hu; rcases hu with rfl | rfl | rfl | rfl | rfl | rfl | rfl | rfl | rfl | rfl | rfl | rfl | rfl | rfl | rfl | rfl | rfl | rfl | rfl | rfl | rfl | rfl | rfl <;> rfl) (by decide) (by unfold maxLen; omega) (by omega) M.size rfl ?_
    intro v9 u46 hOw hm9 hbk
    replace M := hm9.mo M (fun k e => (own_lt hown e).2)
    obtain ⟨pa2, cap2, rfl, _⟩ := own_form hOw
    clear hown hbk hm9
    refine wl_mv (.tmp 21) (.slice pa2 (i + 1) cap2) (fun _ => rfl) rfl rfl ?_
    refine w_nil ?_
    refine xn_blk ?_
    refine xn_then ?_
    refine w_reg ?_
    refine wl_bin (fun x y => do eqGuard .add 3 (.tmp 8) (.const (.int .i64 (1))) x y; binOp .add 3 x y) (.tmp 8) (.const (.int .i64 (1))) (.int .i64 ((i : Nat) : Int)) (.int .i64 (1)) (.int .i64 ((i + 1 : Nat) : Int)) (fun _ => rfl) e40_i rfl (add1r (k := i) (by omega) _ _ _) rfl ?_
    refine wl_mv (.tmp 22) (.int .i64 ((i + 1 : Nat) : Int)) (fun _ => rfl) rfl rfl ?_
    refine w_nil ?_
    exact xn_loop (L.length - (i + 1)) (by omega) ⟨i + 1, rfl, by omega, e40_6, e40_7, rfl, ⟨pa2, cap2, L1 ++ [cpI y pa9 cap9], rfl, by simp [hL1], by rw [List.map_append, hn1, List.take_add_one, hy]; simp [cpI], by rw [hxs] at hOw; rw [List.flatMap_append]; exact hOw, M⟩⟩
  · skip
    have hid : decide (i < L.length) = false := decide_eq_false hil
    have hie : i = L.length := by omega
    obtain ⟨pa1, cap1, L1, e3, hL1, hn1, hown, M⟩ := hE
    refine w_seq ?_
    refine w_reg ?_
    refine wl_bin (fun x y => do eqGuard .lss 3 (.tmp 8) (.tmp 7) x y; binOp .lss 3 x y) (.tmp 8) (.tmp 7) (.int .i64 ((i : Nat) : Int)) (.int .i64 ((L.length : Nat) : Int)) (.bool false) (fun _ => rfl) e40_i e40_7 (ltN hid _ _ _) rfl ?_
    refine w_nil ?_
    refine xn_then ?_
    refine w_seq ?_
    refine w_condF rfl ?_
    refine w_exit ?_
    refine xx_then ?_
    refine xx_then ?_
    refine xx_blk ?_
    refine xn_then ?_
    refine w_seq ?_
    refine w_reg ?_
    refine wl_mv (.tmp 3) (.slice pa1 i cap1) (fun _ => rfl) e3 rfl ?_
    refine wl_mv (.tmp 23) (.slice pa1 i cap1) (fun _ => rfl) rfl rfl ?_
    refine w_nil ?_
    refine xn_then ?_
    refine w_ret ?_
    exact w_ret1 _ (.slice pa1 i cap1) rfl rfl ⟨pa1, cap1, L1, by rw [hL1], by rw [hn1, hie, List.take_length], by rw [← hL1] at hown; exact hown, M⟩
end Go.Proofs.Ytbanldffohopiaa
