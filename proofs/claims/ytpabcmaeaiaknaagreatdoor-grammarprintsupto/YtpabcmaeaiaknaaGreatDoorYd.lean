/-
  The program's writer: several words. The words of an expression; how tight it holds; constants; the text at the end. The program writes constants and columns. The program writes columns. The program writes calls. The program writes what stands between two. The program writes expressions without brackets. The program writes expressions. The document's writer: several words. The document's writer: operators by level. The document's writer: values. The document's writer: an argument. The document's writer: calls and columns. The document's writer: what stands between two. The document's writer: expressions. Expressions shown. Expressions shown: the functions. Expressions shown: the program's. Nothing. Types and items that may be said. Items that may be said: both sides. Items that may be said: the document's. Types and items are written. Items are written.
-/
import Derived.Test.YtpabcmaeaiaknaaGreatDoorYc
namespace Go.Proofs.YtpabcmaeaiaknaaGreatDoor
open S Go.RowKit
abbrev Spc : ByteArray := ⟨#[32]⟩
def wp1 (s : Ws) (w : ByteArray) : Ws := wad (if s.n = 0 then s else wad s Spc) w
def wps (s : Ws) (l : List ByteArray) : Ws := l.foldl wp1 s
def wln (l : List ByteArray) : Nat := (l.map fun w => w.size + 1).sum
theorem spc_ok : wok Spc := ⟨by decide, by decide⟩
theorem wp1_ok {s : Ws} {w : ByteArray} (h : s.ok) (hw : wok w) : (wp1 s w).ok := by
  unfold wp1; split
  · exact wad_ok h hw.1 hw.2
  · exact wad_ok (wad_ok h spc_ok.1 spc_ok.2) hw.1 hw.2
theorem wp1_n (s : Ws) (w : ByteArray) : (wp1 s w).n <= s.n + w.size + 1 := by
  unfold wp1; split
  · show s.n + w.size <= _; omega
  · show s.n + 1 + w.size <= _; omega
theorem wps_ok : ∀ {l : List ByteArray} {s : Ws}, s.ok -> (∀ w ∈ l, wok w) -> (wps s l).ok
  | [], _, h, _ => h
  | w :: l, s, h, hw => wps_ok (s := wp1 s w) (wp1_ok h (hw w (by simp))) fun x hx => hw x (by simp [hx])
theorem wps_n : ∀ (l : List ByteArray) (s : Ws), (wps s l).n <= s.n + wln l
  | [], s => by simp [wps, wln]
  | w :: l, s => by
    have h1 := wps_n l (wp1 s w)
    have h2 := wp1_n s w
    have : wln (w :: l) = w.size + 1 + wln l := by simp [wln]
    show (wps (wp1 s w) l).n <= _
    omega
theorem wps_app (s : Ws) (l m : List ByteArray) : wps s (l ++ m) = wps (wps s l) m := List.foldl_append ..
theorem wln_app (l m : List ByteArray) : wln (l ++ m) = wln l + wln m := by simp [wln]
section
variable {w0 : B0} {X : World} {o : Oper} {fr : FT} {hc : HT} {nc : Nat} {xs : Array Operand} {ts : Array TypeId}
set_option maxRecDepth 20000 in
theorem r_w {f : FuncId} {fn : Func} {vs : List Value} (s s' : Ws) (a : Nat) (ho : o.op = .call { callee := .value (.func f), args := xs, argTypes := ts }) (hT : TyB 95 3 w0.l w0.t) (hctr : CtrT Tryz.prog 95 3 X f vs (hW s) 2 1 (.tuple #[]) (hW s') 2) (hs : s.ok) (hs' : s'.ok) (hv : fitL [0, a] (evl fr xs.toList ++ []) vs)
    (hc0 : hget hc 0 = some (c0 a s) := by rfl) (hca : hget hc a = some (c1 s) := by rfl) (hf : Tryz.prog.funcs[f]? = some fn := by rfl) (hb : callB fn = true := by rfl) (hm0 : Nat.blt 0 w0.m = true := by rfl) (hck : (apartL [0, a] && Nat.ble (nc + 1) 4096 && ([0, a] : List Nat).all (Nat.blt · nc)) = true := by rfl) :
    Oa (Am w0 X) Tryz.prog o fr hc nc ⟨.tuple #[], mskL (setsH hc (([0, nc].zip [some (c0 nc s'), some (c1 s')]) ++ [(a, none)])) [0, nc], nc + 1, bitsL [0, a], bitsL [0, a, nc]⟩ := by
  have key := r_cT (w0 := w0) (X := X) (o := o) (fr := fr) (hc := hc) (nc := nc) (tc := .tuple #[]) [0, a] [some (c0 nc s'), some (c1 s')] [0, nc] ho (y := .func f) rfl hT hctr hv
    (by
      refine ⟨trivial, ?_, trivial, ?_, trivial⟩
      · show (match hget hc 0 with | some us => fitL [0, a] us _ | none => False)
        rw [hc0]; exact c0_fit s
      · show (match hget hc a with | some us => fitL [0, a] us _ | none => False)
        rw [hca]; exact fl rfl (c1_pur hs))
    ut0
    ⟨c0_un s', ul rfl (c1_pur hs'), trivial⟩ hf hm0 rfl hb
    (by simp only [Bool.and_eq_true] at hck ⊢; exact ⟨⟨⟨⟨⟨⟨⟨hck.1.1, rfl⟩, rfl⟩, rfl⟩, rfl⟩, rfl⟩, hck.1.2⟩, hck.2⟩)
  exact key
end
theorem wln_step {l : List ByteArray} {i : Nat} {w : ByteArray} (h : l[i]? = some w) : wln (l.take (i + 1)) = wln (l.take i) + (w.size + 1) := by
  rw [List.take_add_one, h, wln_app]; simp [wln]
theorem wln_take (l : List ByteArray) (i : Nat) : wln (l.take i) <= wln l := by
  have : wln l = wln (l.take i) + wln (l.drop i) := by rw [← wln_app, List.take_append_drop]
  omega
theorem wps_step {s : Ws} {l : List ByteArray} {i : Nat} {w : ByteArray} (h : l[i]? = some w) : wps s (l.take (i + 1)) = wp1 (wps s (l.take i)) w := by
  rw [List.take_add_one, h, wps_app]; rfl
abbrev hP (s : Ws) (l : List ByteArray) : HT := [(0 + 4096, none), (0, some (c0 1 s)), (1 + 4096, none), (1, some (c1 s)), (2 + 4096, none), (2, some (l.map Value.string))]
theorem str_pur (l : List ByteArray) : (l.map Value.string).all pur1 = true := by simp [pur1]
theorem c0_n {a : Nat} {s : Ws} : (c0 a s)[2]? = some (.int .i64 (s.n : Int)) := by unfold c0; split <;> rfl
set_option maxRecDepth 20000 in
theorem c_put (s : Ws) (l : List ByteArray) (hs : s.ok) (hl : ∀ w ∈ l, wok w) (hll : l.length <= 1000) (hb : s.n + wln l <= 4611686018427387904) (X : World) : CtrT Tryz.prog 95 3 X 76 [P0, .slice (some ⟨2, 0, none⟩) l.length 1] (hP s l) 3 1 (.tuple #[]) (hW (wps s l)) 2 := by
  refine fn_cT _ Tryz.func76 rfl rfl rfl rfl rfl (fun w ll tw X' hX hT => run_ok (st mo ?_))
  repeat refine st mo ?_
  refine w_loop (fun i : Nat => ⟨⟨23, [(0, P0), (6, .slice (some ⟨2, 0, none⟩) l.length 1), (7, .int .i64 (l.length : Int)), (8, .int .i64 (i : Int))]⟩, hP (wps s (l.take i)) l, 3, X'⟩) (fun i => i <= l.length) (fun i => l.length - i) 0 (Nat.zero_le _) [0, 1, 2] ⟨rfl, ⟨fp, fs, fv, fv, trivial⟩, ⟨trivial, c0_fit s, trivial, fl rfl (c1_pur hs), trivial, fl rfl (str_pur l), trivial⟩, xf, rfl, rfl⟩ ?_
  intro i hi
  repeat refine st mo ?_
  refine ⟨fun hlt => ?_, fun hge => ?_⟩
  · have hil : i < l.length := by omega
    obtain ⟨x, hx⟩ : ∃ x, l[i]? = some x := ⟨_, List.getElem?_eq_getElem hil⟩
    have hxo := hl x (List.mem_of_getElem? hx)
    have hst := wps_step (s := s) hx
    have hso : (wps s (l.take i)).ok := wps_ok hs fun y hy => hl y (List.mem_of_mem_take hy)
    have hn1 := wps_n (l.take i) s
    have hn2 := wln_step hx
    have hn3 := wln_take l (i + 1)
    have hgx : (l.map Value.string)[i]? = some (.string x) := by rw [List.getElem?_map, hx]; rfl
    have ho1 := wp1_ok hso hxo
    have hx2 := hxo.2
    repeat refine st mo ?_
    refine ⟨i, rfl, hil, st mo ⟨_, hgx, st mo ?_⟩⟩
    generalize wps s (l.take i) = u at *
    repeat refine st mo ?_
    refine ⟨_, c0_n, st mo ?_⟩
    repeat refine st mo ?_
    refine ⟨fun h0 => ?_, fun h0 => ?_⟩
    · have e : wp1 u x = wad (wad u Spc) x := by unfold wp1; rw [if_neg (by omega)]
      have hs1 := wad_ok hso spc_ok.1 spc_ok.2
      repeat refine st mo ?_
      refine ⟨_, fun nn => r_w u (wad u Spc) 1 rfl hT (c_add u Spc hso spc_ok (by show u.n + 1 <= _; omega) X') hso hs1 (by exact fitL_cons fp (fitL_cons fv (by rfl))) (fn := Tryz.f145), st mo ?_⟩
      repeat refine st mo ?_
      refine ⟨_, fun nn => r_w (wad u Spc) (wad (wad u Spc) x) 3 rfl hT (c_add (wad u Spc) x hs1 hxo (by show u.n + 1 + x.size <= _; omega) X') hs1 (wad_ok hs1 hxo.1 hxo.2) (by exact fitL_cons fp (fitL_cons fv (by rfl))) (fn := Tryz.f145), st mo ?_⟩
      repeat refine st mo ?_
      refine ⟨_, wz (i + 1) rfl, st mo ?_⟩
      rw [← e] at *
      exact ⟨i + 1, hil, by show l.length - (i + 1) < l.length - i; omega, [0, 4, 2], rfl, ⟨fp, fs, fv, fv, trivial⟩, ⟨trivial, by rw [hst]; exact c0_fit _, trivial, fl (by rw [hst]; try rfl) (by rw [hst]; exact c1_pur ho1), trivial, fl rfl (str_pur l), trivial⟩, xf, rfl, rfl⟩
    · have e : wp1 u x = wad u x := by unfold wp1; rw [if_pos (by omega)]
      repeat refine st mo ?_
      refine ⟨_, fun nn => r_w u (wad u x) 1 rfl hT (c_add u x hso hxo (by omega) X') hso (wad_ok hso hxo.1 hxo.2) (by exact fitL_cons fp (fitL_cons fv (by rfl))) (fn := Tryz.f145), st mo ?_⟩
      repeat refine st mo ?_
      refine ⟨_, wz (i + 1) rfl, st mo ?_⟩
      rw [← e] at *
      exact ⟨i + 1, hil, by show l.length - (i + 1) < l.length - i; omega, [0, 3, 2], rfl, ⟨fp, fs, fv, fv, trivial⟩, ⟨trivial, by rw [hst]; exact c0_fit _, trivial, fl (by rw [hst]; try rfl) (by rw [hst]; exact c1_pur ho1), trivial, fl rfl (str_pur l), trivial⟩, xf, rfl, rfl⟩
  · repeat refine st mo ?_
    have : i = l.length := by omega
    subst this
    rw [List.take_length]
    exact ⟨rfl, [0, 1], ft0, ⟨trivial, c0_fit _, trivial, fl rfl (c1_pur (wps_ok hs hl)), trivial⟩, rfl, rfl⟩
section
variable {w0 : B0} {X : World} {o : Oper} {fr : FT} {hc : HT} {nc : Nat} {xs : Array Operand} {ts : Array TypeId}
set_option maxRecDepth 20000 in
theorem r_put (s : Ws) (l : List ByteArray) (a b : Nat) (hT : TyB 95 3 w0.l w0.t) (hs : s.ok) (hl : ∀ w ∈ l, wok w) (hb : s.n + wln l <= 4611686018427387904) (ho : o.op = .call { callee := .value (.func 76), args := xs, argTypes := ts } := by rfl) (hv : evl fr xs.toList = [P0, .slice (some ⟨b, 0, none⟩) l.length 1] := by rfl)
    (hc0 : hget hc 0 = some (c0 a s) := by rfl) (hca : hget hc a = some (c1 s) := by rfl) (hcb : hget hc b = some (l.map Value.string) := by rfl) (hll : Nat.ble l.length 1000 = true := by rfl) (hm0 : Nat.blt 0 w0.m = true := by rfl) (hck : (apartL [0, a, b] && Nat.ble (nc + 1) 4096 && ([0, a, b] : List Nat).all (Nat.blt · nc)) = true := by rfl) :
    Oa (Am w0 X) Tryz.prog o fr hc nc ⟨.tuple #[], mskL (setsH hc (([0, nc].zip [some (c0 nc (wps s l)), some (c1 (wps s l))]) ++ [(a, none), (b, none)])) [0, nc], nc + 1, bitsL [0, a, b], bitsL [0, a, b, nc]⟩ := by
  have key := r_cT (w0 := w0) (X := X) (o := o) (fr := fr) (hc := hc) (nc := nc) (tc := .tuple #[]) [0, a, b] [some (c0 nc (wps s l)), some (c1 (wps s l))] [0, nc] ho (y := .func 76) rfl hT (c_put s l hs hl (Nat.le_of_ble_eq_true hll) hb X)
    (by show fitL _ (evl fr xs.toList ++ []) _; rw [hv]; exact fitL_cons fp (fitL_cons fs (by rfl)))
    (by
      refine ⟨trivial, ?_, trivial, ?_, trivial, ?_, trivial⟩
      · show (match hget hc 0 with | some us => fitL [0, a, b] us _ | none => False)
        rw [hc0]; exact c0_fit s
      · show (match hget hc a with | some us => fitL [0, a, b] us _ | none => False)
        rw [hca]; exact fl rfl (c1_pur hs)
      · show (match hget hc b with | some us => fitL [0, a, b] us _ | none => False)
        rw [hcb]; exact fl rfl (str_pur l))
    ut0
    ⟨c0_un _, ul rfl (c1_pur (wps_ok hs hl)), trivial⟩ Tryz.func76 hm0 rfl rfl
    (by simp only [Bool.and_eq_true] at hck ⊢; exact ⟨⟨⟨⟨⟨⟨⟨hck.1.1, rfl⟩, rfl⟩, rfl⟩, rfl⟩, rfl⟩, hck.1.2⟩, hck.2⟩)
  exact key
end
def lvo (op : Int) : Int := if op = 11 then 1 else if op = 10 then 2 else if op = 1 ∨ op = 2 then 5 else if op = 3 then 6 else 4
def lv (x : Ex) : Int := if x.k = 4 then 3 else if x.k = 3 then 7 else if x.k = 5 then lvo x.op else 8
abbrev Lpa : ByteArray := ⟨#[40]⟩
abbrev Rpa : ByteArray := ⟨#[41]⟩
abbrev Com : ByteArray := ⟨#[44]⟩
def opw : List ByteArray := [E0, ⟨#[43]⟩, ⟨#[45]⟩, ⟨#[42]⟩, ⟨#[61]⟩, ⟨#[33, 61]⟩, ⟨#[60]⟩, ⟨#[60, 61]⟩, ⟨#[62]⟩, ⟨#[62, 61]⟩, ⟨#[97, 110, 100]⟩, ⟨#[111, 114]⟩, ⟨#[115, 117, 109]⟩, ⟨#[99, 111, 117, 110, 116]⟩, ⟨#[109, 105, 110]⟩, ⟨#[109, 97, 120]⟩, ⟨#[114, 111, 119, 115]⟩]
def plw : List ByteArray := [E0, ⟨#[104, 97, 108, 102, 95, 117, 112]⟩, ⟨#[104, 97, 108, 102, 95, 101, 118, 101, 110]⟩, ⟨#[100, 111, 119, 110]⟩, ⟨#[117, 112]⟩, ⟨#[102, 108, 111, 111, 114]⟩]
def opW (op : Int) : ByteArray := opw.getD op.toNat E0
def plW (p : Int) : ByteArray := plw.getD p.toNat E0
abbrev Tru : ByteArray := ⟨#[116, 114, 117, 101]⟩
abbrev Fls : ByteArray := ⟨#[102, 97, 108, 115, 101]⟩
def cw (v : VL) : ByteArray := if v.k = 1 then dtx v.b v.n v.s else if v.k = 2 then (if v.f then Tru else Fls) else quo v.t
def colw (x : Ex) : List ByteArray := if x.op = 16 then [opW x.op, Lpa, x.sc, Rpa] else [opW x.op, Lpa, x.sc, ⟨#[46]⟩, x.nm, Rpa]
def brk (b : Bool) (l : List ByteArray) : List ByteArray := if b then Lpa :: (l ++ [Rpa]) else l
def wXg (r : Ex -> List ByteArray) (least : Int) (x : Ex) : List ByteArray := brk (decide (lv x < least)) (r x)
def wAr (r : Ex -> List ByteArray) : List Ex -> List ByteArray
  | [] => []
  | [x] => wXg r 1 x
  | x :: y :: l => wXg r 1 x ++ (Com :: wAr r (y :: l))
def a0 (x : Ex) : Ex := x.a.getD 0 x0
def a1 (x : Ex) : Ex := x.a.getD 1 x0
def wBg (r : Ex -> List ByteArray) (x : Ex) : List ByteArray :=
  if x.k = 1 then [cw x.v]
  else if x.k = 2 then [x.nm]
  else if x.k = 3 then Mns :: wXg r 7 (a0 x)
  else if x.k = 4 then ⟨#[110, 111, 116]⟩ :: wXg r 3 (a0 x)
  else if x.k = 5 then wXg r (if lvo x.op = 4 then 5 else lvo x.op) (a0 x) ++ (opW x.op :: wXg r (lvo x.op + 1) (a1 x))
  else if x.k = 6 then ⟨#[105, 102]⟩ :: Lpa :: (wAr r x.a ++ [Rpa])
  else if x.k = 7 then ⟨#[114, 111, 117, 110, 100]⟩ :: Lpa :: (wXg r 1 (a0 x) ++ [Com, ntx x.s, Com, plW x.pl, Rpa])
  else if x.k = 8 then x.nm :: Lpa :: (wAr r x.a ++ [Rpa])
  else if x.k = 9 then ⟨#[98, 108, 97, 110, 107]⟩ :: Lpa :: (wAr r x.a ++ [Rpa])
  else colw x
def wB : Nat -> Ex -> List ByteArray
  | 0 => wBg fun _ => []
  | d + 1 => wBg (wB d)
def wX (d : Nat) (least : Int) (x : Ex) : List ByteArray := wXg (wB d) least x
set_option maxRecDepth 20000 in
theorem p_lvo (op : Int) (w : World) : Calls Tryz.prog 160 #[.int .i64 op] w fun e W => e = .returned (.int .i64 (lvo op)) /\ Mb w W := by
  refine fn_pure [.int .i64 op] Tryz.func160 rfl rfl rfl (run_ok (st mo ?_))
  repeat' (first | refine ⟨fun _ => ?_, fun _ => ?_⟩ | refine st mo ?_)
  all_goals (show _ = _; unfold lvo; congr 1; simp_all)
set_option maxRecDepth 20000 in
theorem p_lv (x : Ex) (w : World) : Calls Tryz.prog 89 #[x.w] w fun e W => e = .returned (.int .i64 (lv x)) /\ Mb w W := by
  refine fn_pure [x.y] Tryz.func89 rfl rfl rfl (run_ok (st mo ?_))
  repeat refine st mo ?_
  refine ⟨fun h1 => ?_, fun h1 => ?_⟩
  · repeat refine st mo ?_
    show _ = _; simp [lv, h1]
  repeat refine st mo ?_
  refine ⟨fun h2 => ?_, fun h2 => ?_⟩
  · repeat refine st mo ?_
    show _ = _; simp [lv, h2]
  repeat refine st mo ?_
  refine ⟨fun h3 => ?_, fun h3 => ?_⟩
  · repeat refine st mo ?_
    refine ⟨_, fun _ => r_call (t := .int .i64 (lvo x.op)) rfl rfl Tryz.func160 (fun W M E => p_lvo x.op W), st mo ?_⟩
    repeat refine st mo ?_
    show _ = _; simp [lv, h3]
  repeat refine st mo ?_
  show _ = _; simp [lv, h1, h2, h3]
set_option maxRecDepth 20000 in
theorem c_told_no (s : Ws) (hn : 16384 < s.n) (X : World) : Ctr Tryz.prog X 32 [P0] (hW s) 2 0 (.tuple #[.string E0, .int .i64 3]) [] 0 := by
  refine fn_c _ Tryz.func32 rfl rfl rfl rfl (fun w l tw X' hX => run_ok (st mo ?_))
  repeat refine st mo ?_
  refine ⟨_, c0_n, st mo ?_⟩
  repeat refine st mo ?_
  refine ⟨fun _ => ?_, fun h => absurd hn (by omega)⟩
  repeat refine st mo ?_
  exact ⟨rfl, [], fvp, trivial, rfl, rfl⟩
set_option maxRecDepth 20000 in
theorem c_told (s : Ws) (hs : s.ok) (h0 : 1 <= s.t.size) (hn : s.n <= 16384) (X : World) : Ctr Tryz.prog X 32 [P0] (hW s) 2 0 (.tuple #[.string s.t, .int .i64 0]) [] 0 := by
  have ht := hs.2.1
  show Ctr Tryz.prog X 32 [P0] [(0 + 4096, none), (0, some (c0 1 s)), (1 + 4096, none), (1, some (c1 s))] 2 0 _ [] 0
  rw [c0_u h0, c1_u h0]
  refine fn_c _ Tryz.func32 rfl rfl rfl rfl (fun w l tw X' hX => run_ok (st mo ?_))
  repeat refine st mo ?_
  refine ⟨_, rfl, st mo ?_⟩
  repeat refine st mo ?_
  refine ⟨fun h => absurd h (by omega), fun _ => ?_⟩
  repeat refine st mo ?_
  refine ⟨_, fun _ => r_c (tc := .string s.t) [0, 1] [] [] rfl rfl (b_str (tl := [.int .i64 (s.n : Int)]) s.t h0 (by omega) X') (by exact fitL_cons fp (by rfl)) ⟨trivial, fitL_cons fp (fitL_cons fT (fitL_cons fv (by rfl))), trivial, fl rfl (bcs_pur _), trivial⟩ uv trivial, st mo ?_⟩
  repeat refine st mo ?_
  exact ⟨rfl, [], fvp, trivial, rfl, rfl⟩
theorem p_fb (b : Bool) (w : World) : Calls Tryz.prog 199 #[.bool b] w fun e W => e = .returned (.string (if b then Tru else Fls)) /\ Mb w W :=
  (Tryz.strconv_FormatBool b w).mono fun e W h => ⟨by rw [h.1]; cases b <;> rfl, by rw [h.2]; exact ⟨Below.refl _ _, Nat.le_refl _⟩⟩
theorem nam_size {s : ByteArray} (h : nam s = true) : 1 <= s.size /\ s.size <= 32 := by
  have := of_decide_eq_true h
  exact ⟨Nat.pos_of_ne_zero this.1, this.2.1⟩
theorem fre_ok {s : ByteArray} (h : fre s = true) : wok s := by
  unfold fre at h
  rw [Bool.and_eq_true] at h
  have := nam_size h.1
  exact ⟨this.1, by omega⟩
theorem wpt_pos (t : ByteArray) (s : Nat) (h : 1 <= t.size) : 1 <= (wpt t s).size := by
  unfold wpt ptd
  split
  · exact h
  · simp only [ByteArray.size_append]
    show 1 <= _ + 1 + _
    omega
theorem dtx_ok (b : Bool) (n s : Int) : wok (dtx b n s) := by
  refine ⟨?_, by have := dtx_size b n s; omega⟩
  unfold dtx
  have hl := decF_len 77 n
  split
  · have := wpt_pos (strOf (decF 78 n)) s.toNat (by rw [strOf_size]; exact hl.2)
    split
    · rw [ByteArray.size_append]; omega
    · exact this
  · decide
theorem ntx_ok (n : Int) : wok (ntx n) := by
  have hl := decF_len 77 n
  unfold ntx
  refine ⟨by rw [strOf_size]; exact hl.2, by rw [strOf_size]; have : (decF 78 n).length <= 78 := hl.1; omega⟩
theorem quo_ok {s : ByteArray} (h : s.size <= 64) : wok (quo s) := by
  have h1 := (quo_bcs s).2
  have h2 := QL_len s s.size
  rw [List.length_append] at h1
  exact ⟨by rw [h1]; show 1 <= _ + 1; omega, by rw [h1]; show _ + 1 <= _; omega⟩
theorem cst_cases {v : VL} (h : cst v = true) : v.k = 1 ∨ v.k = 2 ∨ (v.k = 3 /\ v.t.size <= 64) := by
  unfold cst at h
  split at h
  · exact Or.inl (by assumption)
  · split at h
    · exact Or.inr (Or.inl (by assumption))
    · split at h
      · rename_i h3; simp at h; exact Or.inr (Or.inr ⟨h3, h.2⟩)
      · cases h
theorem cw_ok {v : VL} (h : cst v = true) : wok (cw v) := by
  unfold cw
  rcases cst_cases h with h1 | h1 | ⟨h1, h2⟩
  · rw [if_pos h1]; exact dtx_ok _ _ _
  · rw [if_neg (by omega), if_pos h1]; cases v.f <;> exact ⟨by decide, by decide⟩
  · rw [if_neg (by omega), if_neg (by omega)]; exact quo_ok h2
theorem one_ok {w : ByteArray} (h : wok w) : ∀ x ∈ [w], wok x := fun x hx => by rw [List.mem_singleton.1 hx]; exact h
set_option maxRecDepth 20000 in
theorem c_cst (s : Ws) (v : VL) (hv : v.ok) (hc : cst v = true) (hs : s.ok) (hb : s.n + wln [cw v] <= 4611686018427387904) (X : World) : CtrT Tryz.prog 95 3 X 161 [P0, v.y] (hW s) 2 1 (.tuple #[]) (hW (wps s [cw v])) 2 := by
  have hok := cw_ok hc
  refine fn_cT _ Tryz.func161 rfl rfl rfl rfl rfl (fun w l tw X' hX hT => run_ok (st mo ?_))
  repeat refine st mo ?_
  refine ⟨fun h1 => ?_, fun h1 => ?_⟩
  · have e : cw v = dtx v.b v.n v.s := by unfold cw; rw [if_pos h1]
    rw [e] at hok hb ⊢
    repeat refine st mo ?_
    refine ⟨_, fun _ => r_call (t := .string (dtx v.b v.n v.s)) rfl rfl Tryz.func194 (fun W M E => p_dtx v.b v.n v.s hv W), st mo ?_⟩
    repeat refine st mo ?_
    refine ⟨_, fun nn => r_put s [dtx v.b v.n v.s] 1 3 hT hs (one_ok hok) hb, st mo ?_⟩
    repeat refine st mo ?_
    exact ⟨rfl, [0, 4], ft0, ⟨trivial, c0_fit _, trivial, fl rfl (c1_pur (wps_ok hs (one_ok hok))), trivial⟩, rfl, rfl⟩
  repeat refine st mo ?_
  refine ⟨fun h2 => ?_, fun h2 => ?_⟩
  · have e : cw v = (if v.f then Tru else Fls) := by unfold cw; rw [if_neg h1, if_pos h2]
    rw [e] at hok hb ⊢
    repeat refine st mo ?_
    refine ⟨_, fun _ => r_call (t := .string (if v.f then Tru else Fls)) rfl rfl Tryz.func199 (fun W M E => p_fb v.f W), st mo ?_⟩
    repeat refine st mo ?_
    refine ⟨_, fun nn => r_put s [if v.f then Tru else Fls] 1 3 hT hs (one_ok hok) hb, st mo ?_⟩
    repeat refine st mo ?_
    exact ⟨rfl, [0, 4], ft0, ⟨trivial, c0_fit _, trivial, fl rfl (c1_pur (wps_ok hs (one_ok hok))), trivial⟩, rfl, rfl⟩
  repeat refine st mo ?_
  refine ⟨fun h3 => ?_, fun h3 => ?_⟩
  · have e : cw v = quo v.t := by unfold cw; rw [if_neg h1, if_neg h2]
    have ht : v.t.size <= 64 := by rcases cst_cases hc with h | h | h; omega; omega; exact h.2
    rw [e] at hok hb ⊢
    repeat refine st mo ?_
    refine ⟨_, fun _ => r_call (t := .string (quo v.t)) rfl rfl Tryz.func200 (fun W M E => p_quo v.t ht W), st mo ?_⟩
    repeat refine st mo ?_
    refine ⟨_, fun nn => r_put s [quo v.t] 1 3 hT hs (one_ok hok) hb, st mo ?_⟩
    repeat refine st mo ?_
    exact ⟨rfl, [0, 4], ft0, ⟨trivial, c0_fit _, trivial, fl rfl (c1_pur (wps_ok hs (one_ok hok))), trivial⟩, rfl, rfl⟩
  · rcases cst_cases hc with h | h | h
    · exact absurd h h1
    · exact absurd h h2
    · exact absurd h.1 h3
structure TG (X : World) : Prop where
  t0 : ∃ b o c, X.cell? ⟨0, 0, none⟩ = some (.slice (some ⟨b, o, none⟩) 6 c) /\ Lies X b o (plw.map Value.string)
  t1 : ∃ b o c, X.cell? ⟨1, 0, none⟩ = some (.slice (some ⟨b, o, none⟩) 17 c) /\ Lies X b o (opw.map Value.string)
  tb : TB X
theorem TG.xf {X X' : World} (h : TG X) (hX : Xf X' X) : TG X' := by
  obtain ⟨⟨b, o, c, h1, h2⟩, ⟨b', o', c', h3, h4⟩, h5⟩ := h
  have E := xce hX
  exact ⟨⟨b, o, c, E _ _ h1, fun j u hj => E _ _ (h2 j u hj)⟩, ⟨b', o', c', E _ _ h3, fun j u hj => E _ _ (h4 j u hj)⟩, h5.xf hX⟩
theorem opw_at {op : Int} (h : 0 <= op) (h2 : op <= 16) : ∃ i : Nat, (i : Int) = op /\ i < 17 /\ opw[i]? = some (opW op) := by
  refine ⟨op.toNat, by omega, by omega, ?_⟩
  unfold opW
  rw [List.getD_eq_getElem?_getD, List.getElem?_eq_getElem (show op.toNat < opw.length by show _ < 17; omega)]; rfl
theorem plw_at {p : Int} (h : 0 <= p) (h2 : p <= 5) : ∃ i : Nat, (i : Int) = p /\ i < 6 /\ plw[i]? = some (plW p) := by
  refine ⟨p.toNat, by omega, by omega, ?_⟩
  unfold plW
  rw [List.getD_eq_getElem?_getD, List.getElem?_eq_getElem (show p.toNat < plw.length by show _ < 6; omega)]; rfl
theorem opw_ok {op : Int} (h : 1 <= op) (h2 : op <= 16) : wok (opW op) := by
  have : op = 1 ∨ op = 2 ∨ op = 3 ∨ op = 4 ∨ op = 5 ∨ op = 6 ∨ op = 7 ∨ op = 8 ∨ op = 9 ∨ op = 10 ∨ op = 11 ∨ op = 12 ∨ op = 13 ∨ op = 14 ∨ op = 15 ∨ op = 16 := by omega
  rcases this with rfl | rfl | rfl | rfl | rfl | rfl | rfl | rfl | rfl | rfl | rfl | rfl | rfl | rfl | rfl | rfl <;> exact ⟨by decide, by decide⟩
theorem plw_ok {p : Int} (h : 1 <= p) (h2 : p <= 5) : wok (plW p) := by
  have : p = 1 ∨ p = 2 ∨ p = 3 ∨ p = 4 ∨ p = 5 := by omega
  rcases this with rfl | rfl | rfl | rfl | rfl <;> exact ⟨by decide, by decide⟩
theorem col_cases {op : Int} {nm sc : ByteArray} (h : col op nm sc = true) : (op = 16 /\ fre sc = true /\ nm = E0) ∨ (12 <= op /\ op <= 15 /\ fre sc = true /\ fre nm = true) := by
  unfold col at h
  split at h
  · rename_i h1; simp at h; exact Or.inl ⟨h1, h.1, h.2⟩
  · simp at h; exact Or.inr h
theorem cons_ok {w : ByteArray} {l : List ByteArray} (h : wok w) (hl : ∀ x ∈ l, wok x) : ∀ x ∈ w :: l, wok x := fun x hx => by
  rcases List.mem_cons.1 hx with rfl | hx
  · exact h
  · exact hl x hx
theorem nil_ok : ∀ x ∈ ([] : List ByteArray), wok x := fun x hx => by cases hx
theorem app_ok {l m : List ByteArray} (h : ∀ x ∈ l, wok x) (hm : ∀ x ∈ m, wok x) : ∀ x ∈ l ++ m, wok x := fun x hx => by
  rcases List.mem_append.1 hx with hx | hx
  · exact h x hx
  · exact hm x hx
theorem sym_ok {a : UInt8} : wok ⟨#[a]⟩ := ⟨Nat.le_refl 1, by show 1 <= 16384; decide⟩
theorem wln_cons (w : ByteArray) (l : List ByteArray) : wln (w :: l) = w.size + 1 + wln l := by simp [wln]
theorem wln_nil : wln [] = 0 := rfl
abbrev CW (X : World) (f : FuncId) (vs : List Value) (s : Ws) (l : List ByteArray) : Prop := CtrT Tryz.prog 95 3 X f vs (hW s) 2 1 (.tuple #[]) (hW (wps s l)) 2
set_option maxRecDepth 20000 in
theorem c_col (s : Ws) (x : Ex) (hc : col x.op x.nm x.sc = true) (hs : s.ok) (hb : s.n + wln (colw x) <= 4611686018427387904) (X : World) (hG : TG X) : CW X 164 [P0, x.y] s (colw x) := by
  have hop : 12 <= x.op /\ x.op <= 16 := by rcases col_cases hc with h | h <;> omega
  have hsc : wok x.sc := by rcases col_cases hc with h | h; exact fre_ok h.2.1; exact fre_ok h.2.2.1
  have hwo := opw_ok (op := x.op) (by omega) (by omega)
  have hk1 : ∀ y ∈ [opW x.op, Lpa, x.sc], wok y := cons_ok hwo (cons_ok sym_ok (one_ok hsc))
  obtain ⟨i, hi, hi2, hi3⟩ := opw_at (op := x.op) (by omega) hop.2
  refine fn_cT _ Tryz.func164 rfl rfl rfl rfl rfl (fun w l tw X' hX hT => run_ok (st mo ?_))
  obtain ⟨b, o, c, g1, g2⟩ := (hG.xf hX).t1
  repeat refine st mo ?_
  refine ⟨_, g1, st mo ?_⟩
  repeat refine st mo ?_
  have hcell : X'.cell? ⟨b, o + i * 1, none⟩ = some (.string (opW x.op)) := by rw [Nat.mul_one]; exact g2 i _ (by rw [List.getElem?_map, hi3]; rfl)
  refine ⟨b, o, i, rfl, hi, hi2, ?_⟩
  repeat refine st mo ?_
  refine ⟨_, hcell, st mo ?_⟩
  repeat refine st mo ?_
  have hb1 : s.n + wln [opW x.op, Lpa, x.sc] <= 4611686018427387904 := by
    refine Nat.le_trans ?_ hb
    unfold colw; split <;> simp only [wln_cons, wln_nil] <;> omega
  refine ⟨_, fun nn => r_put s [opW x.op, Lpa, x.sc] 1 3 hT hs hk1 hb1, st mo ?_⟩
  repeat refine st mo ?_
  refine ⟨dk, st mo ?_⟩
  have hs1 := wps_ok hs hk1
  have hn1 := wps_n [opW x.op, Lpa, x.sc] s
  repeat refine st mo ?_
  refine ⟨fun h1 => ?_, fun h1 => ?_⟩
  · have e : colw x = [opW x.op, Lpa, x.sc] ++ ([⟨#[46]⟩, x.nm] ++ [Rpa]) := by unfold colw; rw [if_neg h1]; rfl
    have hnm : wok x.nm := by rcases col_cases hc with h | h; exact absurd h.1 h1; exact fre_ok h.2.2.2
    have hk2 : ∀ y ∈ [⟨#[46]⟩, x.nm], wok y := cons_ok sym_ok (one_ok hnm)
    rw [e] at hb ⊢
    rw [wps_app, wps_app]
    simp only [wln_app] at hb
    generalize wps s [opW x.op, Lpa, x.sc] = s1 at *
    have hn2 := wps_n [⟨#[46]⟩, x.nm] s1
    repeat refine st mo ?_
    refine ⟨_, fun nn => r_put s1 [⟨#[46]⟩, x.nm] 4 5 hT hs1 hk2 (by omega), st mo ?_⟩
    have hs2 := wps_ok hs1 hk2
    generalize wps s1 [⟨#[46]⟩, x.nm] = s2 at *
    repeat refine st mo ?_
    refine ⟨_, fun nn => r_put s2 [Rpa] 6 7 hT hs2 (one_ok sym_ok) (by omega), st mo ?_⟩
    repeat refine st mo ?_
    exact ⟨rfl, [0, 8], ft0, ⟨trivial, c0_fit _, trivial, fl rfl (c1_pur (wps_ok hs2 (one_ok sym_ok))), trivial⟩, rfl, rfl⟩
  · have e : colw x = [opW x.op, Lpa, x.sc] ++ [Rpa] := by unfold colw; rw [if_pos h1]; rfl
    rw [e] at hb ⊢
    rw [wps_app]
    simp only [wln_app] at hb
    generalize wps s [opW x.op, Lpa, x.sc] = s1 at *
    repeat refine st mo ?_
    refine ⟨_, fun nn => r_put s1 [Rpa] 4 5 hT hs1 (one_ok sym_ok) (by omega), st mo ?_⟩
    repeat refine st mo ?_
    exact ⟨rfl, [0, 6], ft0, ⟨trivial, c0_fit _, trivial, fl rfl (c1_pur (wps_ok hs1 (one_ok sym_ok))), trivial⟩, rfl, rfl⟩
def EachW (X : World) (p : Option Addr) (l : List Ex) (r : Ex -> List ByteArray) : Prop := ∀ i y, l[i]? = some y -> (∃ b o, p = some ⟨b, o, none⟩ /\ Lies X b (o + i * 17) y.c) /\ (∀ w ∈ r y, wok w) ∧
  ∀ (X' : World) (s : Ws) (least : Int), Xf X' X -> s.ok -> s.n + wln (wXg r least y) <= 4611686018427387904 -> CW X' 36 [P0, y.y, .int .i64 least] s (wXg r least y)
theorem EachW.xf {X X' : World} {p : Option Addr} {l : List Ex} {r : Ex -> List ByteArray} (h : EachW X p l r) (hX : Xf X' X) : EachW X' p l r := fun i y hy => by
  obtain ⟨⟨b, o, h1, h2⟩, h3, h4⟩ := h i y hy
  exact ⟨⟨b, o, h1, fun j u hj => xce hX _ _ (h2 j u hj)⟩, h3, fun X2 s least hX2 => h4 X2 s least (hX2.tr hX)⟩
theorem brk_ok {b : Bool} {l : List ByteArray} (h : ∀ w ∈ l, wok w) : ∀ w ∈ brk b l, wok w := by
  unfold brk; split
  · exact cons_ok sym_ok (app_ok h (one_ok sym_ok))
  · exact h
theorem wXg_ok {r : Ex -> List ByteArray} {least : Int} {x : Ex} (h : ∀ w ∈ r x, wok w) : ∀ w ∈ wXg r least x, wok w := brk_ok h
theorem wAr_snoc (r : Ex -> List ByteArray) : ∀ (l : List Ex) (y : Ex), l ≠ [] -> wAr r (l ++ [y]) = wAr r l ++ (Com :: wXg r 1 y)
  | [], y, h => absurd rfl h
  | [x], y, _ => rfl
  | x :: z :: l, y, _ => by
    have := wAr_snoc r (z :: l) y (by simp)
    show wXg r 1 x ++ (Com :: wAr r (z :: (l ++ [y]))) = wXg r 1 x ++ (Com :: wAr r (z :: l)) ++ (Com :: wXg r 1 y)
    rw [show z :: (l ++ [y]) = (z :: l) ++ [y] from rfl, this]; simp
theorem wAr_step {r : Ex -> List ByteArray} {l : List Ex} {i : Nat} {y : Ex} (h : l[i]? = some y) : wAr r (l.take (i + 1)) = wAr r (l.take i) ++ (if i = 0 then wXg r 1 y else Com :: wXg r 1 y) := by
  have hl : i < l.length := (List.getElem?_eq_some_iff.1 h).1
  rw [List.take_add_one, h]
  cases i with
  | zero => rfl
  | succ i =>
    rw [if_neg (by omega)]
    exact wAr_snoc r _ y (by intro e; have := congrArg List.length e; rw [List.length_take, Nat.min_eq_left (by omega)] at this; simp at this)
theorem wAr_ok {r : Ex -> List ByteArray} : ∀ {l : List Ex}, (∀ y ∈ l, ∀ w ∈ r y, wok w) -> ∀ w ∈ wAr r l, wok w
  | [], _ => nil_ok
  | [x], h => wXg_ok (h x (by simp))
  | x :: y :: l, h => app_ok (wXg_ok (h x (by simp))) (cons_ok sym_ok (wAr_ok fun z hz => h z (by simp only [List.mem_cons] at hz ⊢; exact Or.inr hz)))
theorem wAr_le {r : Ex -> List ByteArray} {l : List Ex} : ∀ i, wln (wAr r (l.take i)) <= wln (wAr r l) := by
  have key : ∀ k i, i + k = l.length -> wln (wAr r (l.take i)) <= wln (wAr r l) := by
    intro k
    induction k with
    | zero => intro i h; rw [List.take_of_length_le (by omega)]; exact Nat.le_refl _
    | succ k ih =>
      intro i h
      obtain ⟨y, hy⟩ : ∃ y, l[i]? = some y := ⟨_, List.getElem?_eq_getElem (by omega)⟩
      have := ih (i + 1) (by omega)
      rw [wAr_step hy, wln_app] at this
      omega
  intro i
  by_cases h : i <= l.length
  · exact key (l.length - i) i (by omega)
  · rw [List.take_of_length_le (by omega)]; exact Nat.le_refl _
set_option maxHeartbeats 1000000 in
set_option maxRecDepth 20000 in
theorem c_call (s : Ws) (wd : ByteArray) (p : Option Addr) (cl : Nat) (l : List Ex) (r : Ex -> List ByteArray) (hwd : wok wd) (hl : l.length <= 9223372036854775806) (hs : s.ok) (hb : s.n + wln (wd :: Lpa :: (wAr r l ++ [Rpa])) <= 4611686018427387904) (X : World) (hE : EachW X p l r) : CW X 163 [P0, .string wd, raw (.slice p l.length cl)] s (wd :: Lpa :: (wAr r l ++ [Rpa])) := by
  have hk1 : ∀ y ∈ [wd, Lpa], wok y := cons_ok hwd (one_ok sym_ok)
  have e : wd :: Lpa :: (wAr r l ++ [Rpa]) = [wd, Lpa] ++ (wAr r l ++ [Rpa]) := rfl
  rw [e] at hb ⊢
  rw [wln_app, wln_app] at hb
  have hokA : ∀ i, ∀ w ∈ wAr r (l.take i), wok w := fun i => wAr_ok fun y hy => by
    obtain ⟨j, hj⟩ := List.mem_iff_getElem?.1 (List.mem_of_mem_take hy)
    exact (hE j y hj).2.1
  show CtrT Tryz.prog 95 3 X 163 [P0, .string wd, raw (.slice p l.length cl)] (hW s) 2 1 (.tuple #[]) (hW (wps s ([wd, Lpa] ++ (wAr r l ++ [Rpa])))) 2
  rw [wps_app, wps_app]
  refine fn_cT _ Tryz.func163 rfl rfl rfl rfl rfl (fun w ll tw X' hX hT => run_ok (st mo ?_))
  repeat refine st mo ?_
  refine ⟨_, fun nn => r_put s [wd, Lpa] 1 2 hT hs hk1 (by omega), st mo ?_⟩
  have hs1 := wps_ok hs hk1
  have hn1 := wps_n [wd, Lpa] s
  generalize wps s [wd, Lpa] = s1 at *
  repeat refine st mo ?_
  refine w_loop (fun i : Nat => ⟨⟨31, [(0, P0), (12, raw (.slice p l.length cl)), (13, .int .i64 (l.length : Int)), (14, .int .i64 (i : Int))]⟩, hW (wps s1 (wAr r (l.take i))), 2, X'⟩) (fun i => i <= l.length) (fun i => l.length - i) 0 (Nat.zero_le _) [0, 3] ⟨rfl, ⟨fp, fv, fv, fv, trivial⟩, ⟨trivial, c0_fit _, trivial, fl rfl (c1_pur hs1), trivial⟩, xf, rfl, rfl⟩ ?_
  intro i hi
  have hso : (wps s1 (wAr r (l.take i))).ok := wps_ok hs1 (hokA i)
  have hn2 := wps_n (wAr r (l.take i)) s1
  repeat refine st mo ?_
  refine ⟨fun hlt => ?_, fun hge => ?_⟩
  · have hil : i < l.length := by omega
    obtain ⟨y, hy⟩ : ∃ y, l[i]? = some y := ⟨_, List.getElem?_eq_getElem hil⟩
    obtain ⟨⟨b, o, h4, h5⟩, h6, h7⟩ := (hE.xf hX) i y hy
    have hst := wAr_step (r := r) hy
    have hln := wAr_le (r := r) (l := l) (i + 1)
    have hok1 := hokA (i + 1)
    rw [hst] at hok1
    rw [hst, wln_app] at hln
    repeat refine st mo ?_
    refine ⟨b, o, i, h4, rfl, hil, ?_⟩
    repeat refine st mo ?_
    refine ⟨y.c, rfl, h5, ?_⟩
    repeat refine st mo ?_
    refine ⟨fun h0 => ?_, fun h0 => ?_⟩
    · rw [if_neg (by omega)] at hst hln hok1
      rw [wln_cons] at hln
      have hst1 : wps s1 (wAr r (l.take (i + 1))) = wps (wps s1 (wAr r (l.take i))) (Com :: wXg r 1 y) := by rw [hst, wps_app]
      generalize hu : wps s1 (wAr r (l.take i)) = u at *
      have hn3 := wps_n [Com] u
      have hc1 : u.n + wln [Com] <= 4611686018427387904 := by rw [wln_cons, wln_nil]; omega
      have hn4 : (wps u [Com]).n + wln (wXg r 1 y) <= 4611686018427387904 := by rw [wln_cons, wln_nil] at hn3; omega
      have hst2 : wps s1 (wAr r (l.take (i + 1))) = wps (wps u [Com]) (wXg r 1 y) := hst1
      have hso3 := wps_ok hso (one_ok (sym_ok (a := 44)))
      have hso4 := wps_ok hso3 (wXg_ok (least := 1) h6)
      repeat refine st mo ?_
      refine ⟨_, fun nn => r_put u [Com] 1 3 hT hso (one_ok sym_ok) hc1, st mo ?_⟩
      generalize wps u [Com] = u2 at *
      repeat refine st mo ?_
      refine ⟨_, fun nn => r_w u2 (wps u2 (wXg r 1 y)) 4 rfl hT (h7 X' u2 1 xf hso3 hn4) hso3 hso4 (by exact fitL_cons fp (fitL_cons fv (fitL_cons fv (by rfl)))) (fn := Tryz.f36), st mo ?_⟩
      repeat refine st mo ?_
      refine ⟨_, wz (i + 1) rfl, st mo ?_⟩
      exact ⟨i + 1, hil, by show l.length - (i + 1) < l.length - i; omega, [0, 5], rfl, ⟨fp, fv, fv, fv, trivial⟩, ⟨trivial, by rw [hst2]; exact c0_fit _, trivial, fl (by rw [hst2]; try rfl) (by rw [hst2]; exact c1_pur hso4), trivial⟩, xf, rfl, rfl⟩
    · rw [if_pos (by omega)] at hst hln hok1
      have hi0 : i = 0 := by omega
      have hst2 : wps s1 (wAr r (l.take (i + 1))) = wps (wps s1 (wAr r (l.take i))) (wXg r 1 y) := by rw [hst, wps_app]
      generalize hu : wps s1 (wAr r (l.take i)) = u at *
      have hso4 := wps_ok hso (wXg_ok (least := 1) h6)
      repeat refine st mo ?_
      refine ⟨_, fun nn => r_w u (wps u (wXg r 1 y)) 1 rfl hT (h7 X' u 1 xf hso (by omega)) hso hso4 (by exact fitL_cons fp (fitL_cons fv (fitL_cons fv (by rfl)))) (fn := Tryz.f36), st mo ?_⟩
      repeat refine st mo ?_
      refine ⟨_, wz (i + 1) rfl, st mo ?_⟩
      exact ⟨i + 1, hil, by show l.length - (i + 1) < l.length - i; omega, [0, 3], rfl, ⟨fp, fv, fv, fv, trivial⟩, ⟨trivial, by rw [hst2]; exact c0_fit _, trivial, fl (by rw [hst2]; try rfl) (by rw [hst2]; exact c1_pur hso4), trivial⟩, xf, rfl, rfl⟩
  · repeat refine st mo ?_
    have : i = l.length := by omega
    subst this
    rw [List.take_length] at hn2 hso ⊢
    generalize wps s1 (wAr r l) = u at *
    have hc1 : u.n + wln [Rpa] <= 4611686018427387904 := by omega
    repeat refine st mo ?_
    refine ⟨_, fun nn => r_put u [Rpa] 1 2 hT hso (one_ok sym_ok) hc1, st mo ?_⟩
    repeat refine st mo ?_
    exact ⟨rfl, [0, 3], ft0, ⟨trivial, c0_fit _, trivial, fl rfl (c1_pur (wps_ok hso (one_ok sym_ok))), trivial⟩, rfl, rfl⟩
theorem lvo_le (op : Int) : 1 <= lvo op /\ lvo op <= 6 := by unfold lvo; repeat' split <;> omega
set_option maxHeartbeats 1000000 in
set_option maxRecDepth 20000 in
theorem c_betw (s : Ws) (x y z : Ex) (r : Ex -> List ByteArray) (ha : x.a = [y, z]) (hop : 1 <= x.op /\ x.op <= 11) (hs : s.ok) (hb : s.n + wln (wXg r (if lvo x.op = 4 then 5 else lvo x.op) y ++ (opW x.op :: wXg r (lvo x.op + 1) z)) <= 4611686018427387904) (X : World) (hG : TG X) (hE : EachW X x.p x.a r) : CW X 162 [P0, x.y] s (wXg r (if lvo x.op = 4 then 5 else lvo x.op) y ++ (opW x.op :: wXg r (lvo x.op + 1) z)) := by
  have hwo := opw_ok (op := x.op) (by omega) (by omega)
  obtain ⟨i, hi, hi2, hi3⟩ := opw_at (op := x.op) (by omega) (by omega)
  have e : opW x.op :: wXg r (lvo x.op + 1) z = [opW x.op] ++ wXg r (lvo x.op + 1) z := rfl
  rw [e] at hb ⊢
  rw [wln_app, wln_app] at hb
  have hlv := lvo_le x.op
  show CtrT Tryz.prog 95 3 X 162 [P0, x.y] (hW s) 2 1 (.tuple #[]) (hW (wps s (_ ++ ([opW x.op] ++ _)))) 2
  rw [wps_app, wps_app]
  refine fn_cT _ Tryz.func162 rfl rfl rfl rfl rfl (fun w ll tw X' hX hT => run_ok (st mo ?_))
  obtain ⟨b, o, c, g1, g2⟩ := (hG.xf hX).t1
  obtain ⟨⟨b4, o4, h4, h5⟩, h6, h7⟩ := (hE.xf hX) 0 y (by rw [ha]; rfl)
  obtain ⟨⟨b4', o4', h4', h5'⟩, h6', h7'⟩ := (hE.xf hX) 1 z (by rw [ha]; rfl)
  have hlen : x.a.length = 2 := by rw [ha]; rfl
  repeat refine st mo ?_
  refine ⟨_, fun _ => r_call (t := .int .i64 (lvo x.op)) rfl rfl Tryz.func160 (fun W M E => p_lvo x.op W), st mo ?_⟩
  repeat refine st mo ?_
  have hcell : X'.cell? ⟨b, o + i * 1, none⟩ = some (.string (opW x.op)) := by rw [Nat.mul_one]; exact g2 i _ (by rw [List.getElem?_map, hi3]; rfl)
  refine ⟨fun h1 => ?_, fun h1 => ?_⟩
  · rw [if_pos h1] at hb ⊢
    have hk1 := wXg_ok (least := 5) h6
    have hk3 := wXg_ok (least := lvo x.op + 1) h6'
    ((repeat refine st mo ?_); refine ⟨_, wz 5 (by omega), st mo ?_⟩)
    repeat refine st mo ?_
    refine ⟨b4, o4, 0, h4, rfl, by omega, ?_⟩
    repeat refine st mo ?_
    refine ⟨y.c, rfl, h5, ?_⟩
    repeat refine st mo ?_
    refine ⟨_, fun nn => r_w s (wps s (wXg r (5) y)) 1 rfl hT (h7 X' s (5) xf hs (by omega)) hs (wps_ok hs hk1) (by exact fitL_cons fp (fitL_cons fv (fitL_cons fv (by rfl)))) (fn := Tryz.f36), st mo ?_⟩
    have hs1 := wps_ok hs hk1
    have hn1 := wps_n (wXg r (5) y) s
    generalize wps s (wXg r (5) y) = s1 at *
    repeat refine st mo ?_
    refine ⟨_, g1, st mo ?_⟩
    repeat refine st mo ?_
    refine ⟨b, o, i, rfl, hi, hi2, ?_⟩
    repeat refine st mo ?_
    refine ⟨_, hcell, st mo ?_⟩
    repeat refine st mo ?_
    refine ⟨_, fun nn => r_put s1 [opW x.op] 3 4 hT hs1 (one_ok hwo) (by omega), st mo ?_⟩
    have hs2 := wps_ok hs1 (one_ok hwo)
    have hn2 := wps_n [opW x.op] s1
    generalize wps s1 [opW x.op] = s2 at *
    repeat refine st mo ?_
    refine ⟨b4', o4', 1, h4', rfl, by omega, ?_⟩
    repeat refine st mo ?_
    refine ⟨z.c, rfl, h5', ?_⟩
    repeat refine st mo ?_
    refine ⟨_, wi (by omega), st mo ?_⟩
    repeat refine st mo ?_
    refine ⟨_, fun nn => r_w s2 (wps s2 (wXg r (lvo x.op + 1) z)) 5 rfl hT (h7' X' s2 (lvo x.op + 1) xf hs2 (by omega)) hs2 (wps_ok hs2 hk3) (by exact fitL_cons fp (fitL_cons fv (fitL_cons fv (by rfl)))) (fn := Tryz.f36), st mo ?_⟩
    repeat refine st mo ?_
    exact ⟨rfl, [0, 6], ft0, ⟨trivial, c0_fit _, trivial, fl rfl (c1_pur (wps_ok hs2 hk3)), trivial⟩, rfl, rfl⟩
  · rw [if_neg h1] at hb ⊢
    have hk1 := wXg_ok (least := lvo x.op) h6
    have hk3 := wXg_ok (least := lvo x.op + 1) h6'
    skip
    repeat refine st mo ?_
    refine ⟨b4, o4, 0, h4, rfl, by omega, ?_⟩
    repeat refine st mo ?_
    refine ⟨y.c, rfl, h5, ?_⟩
    repeat refine st mo ?_
    refine ⟨_, fun nn => r_w s (wps s (wXg r (lvo x.op) y)) 1 rfl hT (h7 X' s (lvo x.op) xf hs (by omega)) hs (wps_ok hs hk1) (by exact fitL_cons fp (fitL_cons fv (fitL_cons fv (by rfl)))) (fn := Tryz.f36), st mo ?_⟩
    have hs1 := wps_ok hs hk1
    have hn1 := wps_n (wXg r (lvo x.op) y) s
    generalize wps s (wXg r (lvo x.op) y) = s1 at *
    repeat refine st mo ?_
    refine ⟨_, g1, st mo ?_⟩
    repeat refine st mo ?_
    refine ⟨b, o, i, rfl, hi, hi2, ?_⟩
    repeat refine st mo ?_
    refine ⟨_, hcell, st mo ?_⟩
    repeat refine st mo ?_
    refine ⟨_, fun nn => r_put s1 [opW x.op] 3 4 hT hs1 (one_ok hwo) (by omega), st mo ?_⟩
    have hs2 := wps_ok hs1 (one_ok hwo)
    have hn2 := wps_n [opW x.op] s1
    generalize wps s1 [opW x.op] = s2 at *
    repeat refine st mo ?_
    refine ⟨b4', o4', 1, h4', rfl, by omega, ?_⟩
    repeat refine st mo ?_
    refine ⟨z.c, rfl, h5', ?_⟩
    repeat refine st mo ?_
    refine ⟨_, wi (by omega), st mo ?_⟩
    repeat refine st mo ?_
    refine ⟨_, fun nn => r_w s2 (wps s2 (wXg r (lvo x.op + 1) z)) 5 rfl hT (h7' X' s2 (lvo x.op + 1) xf hs2 (by omega)) hs2 (wps_ok hs2 hk3) (by exact fitL_cons fp (fitL_cons fv (fitL_cons fv (by rfl)))) (fn := Tryz.f36), st mo ?_⟩
    repeat refine st mo ?_
    exact ⟨rfl, [0, 6], ft0, ⟨trivial, c0_fit _, trivial, fl rfl (c1_pur (wps_ok hs2 hk3)), trivial⟩, rfl, rfl⟩
abbrev NotW : ByteArray := ⟨#[110, 111, 116]⟩
abbrev IfW : ByteArray := ⟨#[105, 102]⟩
abbrev RouW : ByteArray := ⟨#[114, 111, 117, 110, 100]⟩
abbrev BlaW : ByteArray := ⟨#[98, 108, 97, 110, 107]⟩
theorem wB1 (r : Ex -> List ByteArray) {x : Ex} (h : x.k = 1) : wBg r x = [cw x.v] := by simp [wBg, h]
theorem wB2 (r : Ex -> List ByteArray) {x : Ex} (h : x.k = 2) : wBg r x = [x.nm] := by simp [wBg, h]
theorem wB3 (r : Ex -> List ByteArray) {x y : Ex} (h : x.k = 3) (ha : x.a = [y]) : wBg r x = [Mns] ++ wXg r 7 y := by simp [wBg, h, a0, ha]
theorem wB4 (r : Ex -> List ByteArray) {x y : Ex} (h : x.k = 4) (ha : x.a = [y]) : wBg r x = [NotW] ++ wXg r 3 y := by simp [wBg, h, a0, ha]
theorem wB5 (r : Ex -> List ByteArray) {x y z : Ex} (h : x.k = 5) (ha : x.a = [y, z]) : wBg r x = wXg r (if lvo x.op = 4 then 5 else lvo x.op) y ++ (opW x.op :: wXg r (lvo x.op + 1) z) := by simp [wBg, h, a0, a1, ha]
theorem wB6 (r : Ex -> List ByteArray) {x : Ex} (h : x.k = 6) : wBg r x = IfW :: Lpa :: (wAr r x.a ++ [Rpa]) := by simp [wBg, h]
theorem wB7 (r : Ex -> List ByteArray) {x y : Ex} (h : x.k = 7) (ha : x.a = [y]) : wBg r x = [RouW, Lpa] ++ (wXg r 1 y ++ [Com, ntx x.s, Com, plW x.pl, Rpa]) := by simp [wBg, h, a0, ha]
theorem wB8 (r : Ex -> List ByteArray) {x : Ex} (h : x.k = 8) : wBg r x = x.nm :: Lpa :: (wAr r x.a ++ [Rpa]) := by simp [wBg, h]
theorem wB9 (r : Ex -> List ByteArray) {x : Ex} (h : x.k = 9) : wBg r x = BlaW :: Lpa :: (wAr r x.a ++ [Rpa]) := by simp [wBg, h]
theorem wB10 (r : Ex -> List ByteArray) {x : Ex} (h : x.k = 10) : wBg r x = colw x := by simp [wBg, h]
theorem nde_k {x : Ex} (h : nde x = true) : 1 <= x.k /\ x.k <= 10 := by
  unfold nde at h
  by_cases h1 : 1 <= x.k /\ x.k <= 10
  · exact h1
  · rw [if_neg (by omega), if_neg (by omega), if_neg (by omega), if_neg (by omega), if_neg (by omega), if_neg (by omega), if_neg (by omega), if_neg (by omega)] at h; cases h
theorem len1 {x : Ex} (h : x.a.length = 1) : ∃ y, x.a = [y] := by
  match hx : x.a, h with
  | [y], _ => exact ⟨y, rfl⟩
theorem len2 {x : Ex} (h : x.a.length = 2) : ∃ y z, x.a = [y, z] := by
  match hx : x.a, h with
  | [y, z], _ => exact ⟨y, z, rfl⟩
theorem colw_ok {x : Ex} (hc : col x.op x.nm x.sc = true) : ∀ w ∈ colw x, wok w := by
  have hop : 12 <= x.op /\ x.op <= 16 := by rcases col_cases hc with h | h <;> omega
  have hsc : wok x.sc := by rcases col_cases hc with h | h; exact fre_ok h.2.1; exact fre_ok h.2.2.1
  have hwo := opw_ok (op := x.op) (by omega) (by omega)
  unfold colw
  split
  · exact cons_ok hwo (cons_ok sym_ok (cons_ok hsc (one_ok sym_ok)))
  · rename_i h1
    have hnm : wok x.nm := by rcases col_cases hc with h | h; exact absurd h.1 h1; exact fre_ok h.2.2.2
    exact cons_ok hwo (cons_ok sym_ok (cons_ok hsc (cons_ok sym_ok (cons_ok hnm (one_ok sym_ok)))))
set_option maxHeartbeats 2000000 in
set_option maxRecDepth 20000 in
theorem c_bare (s : Ws) (x : Ex) (r : Ex -> List ByteArray) (hn : nde x = true) (hx : x.ok) (hs : s.ok) (hb : s.n + wln (wBg r x) <= 4611686018427387904) (X : World) (hG : TG X) (hE : EachW X x.p x.a r) : CW X 90 [P0, x.y] s (wBg r x) := by
  have hk := nde_k hn
  refine fn_cT _ Tryz.func90 rfl rfl rfl rfl rfl (fun w ll tw X' hX hT => run_ok (st mo ?_))
  repeat refine st mo ?_
  refine ⟨fun h1 => ?_, fun h1 => ?_⟩
  · rw [wB1 r h1] at hb ⊢
    have hc : cst x.v = true := by rw [nde1 h1] at hn; simp at hn; exact hn.1
    have hok := one_ok (cw_ok hc)
    repeat refine st mo ?_
    refine ⟨_, fun nn => r_w s (wps s [cw x.v]) 1 rfl hT (c_cst s x.v hx.1 hc hs hb X') hs (wps_ok hs hok) (by exact fitL_cons fp (fitL_cons fv (by rfl))) (fn := Tryz.f161), st mo ?_⟩
    repeat refine st mo ?_
    exact ⟨rfl, [0, 3], ft0, ⟨trivial, c0_fit _, trivial, fl rfl (c1_pur (wps_ok hs hok)), trivial⟩, rfl, rfl⟩
  repeat refine st mo ?_
  refine ⟨fun h2 => ?_, fun h2 => ?_⟩
  · rw [wB2 r h2] at hb ⊢
    have hc : fre x.nm = true := by rw [nde2 h2] at hn; simp at hn; exact hn.1
    have hok := one_ok (fre_ok hc)
    repeat refine st mo ?_
    refine ⟨_, fun nn => r_put s [x.nm] 1 3 hT hs hok hb, st mo ?_⟩
    repeat refine st mo ?_
    exact ⟨rfl, [0, 4], ft0, ⟨trivial, c0_fit _, trivial, fl rfl (c1_pur (wps_ok hs hok)), trivial⟩, rfl, rfl⟩
  repeat refine st mo ?_
  refine ⟨fun h3 => ?_, fun h3 => ?_⟩
  · have ha : x.a.length = 1 := by rw [nde3 (x := x) (by omega)] at hn; simp at hn; exact hn.1
    obtain ⟨y, ha⟩ := len1 ha
    obtain ⟨⟨b4, o4, h4', h5⟩, h6, h7⟩ := (hE.xf hX) 0 y (by rw [ha]; rfl)
    have hlen : x.a.length = 1 := by rw [ha]; rfl
    rw [wB3 r h3 ha] at hb ⊢
    rw [wln_app] at hb
    rw [wps_app]
    have hk2 := wXg_ok (least := 7) h6
    have hso : ∀ w ∈ [Mns], wok w := (one_ok sym_ok)
    repeat refine st mo ?_
    refine ⟨_, fun nn => r_put s [Mns] 1 3 hT hs hso (by omega), st mo ?_⟩
    have hs1 := wps_ok hs hso
    have hn1 := wps_n [Mns] s
    generalize wps s [Mns] = s1 at *
    repeat refine st mo ?_
    refine ⟨b4, o4, 0, h4', rfl, by omega, ?_⟩
    repeat refine st mo ?_
    refine ⟨y.c, rfl, h5, ?_⟩
    repeat refine st mo ?_
    refine ⟨_, fun nn => r_w s1 (wps s1 (wXg r (7) y)) 4 rfl hT (h7 X' s1 (7) xf hs1 (by omega)) hs1 (wps_ok hs1 hk2) (by exact fitL_cons fp (fitL_cons fv (fitL_cons fv (by rfl)))) (fn := Tryz.f36), st mo ?_⟩
    repeat refine st mo ?_
    exact ⟨rfl, [0, 5], ft0, ⟨trivial, c0_fit _, trivial, fl rfl (c1_pur (wps_ok hs1 hk2)), trivial⟩, rfl, rfl⟩
  repeat refine st mo ?_
  refine ⟨fun h4 => ?_, fun h4 => ?_⟩
  · have ha : x.a.length = 1 := by rw [nde3 (x := x) (by omega)] at hn; simp at hn; exact hn.1
    obtain ⟨y, ha⟩ := len1 ha
    obtain ⟨⟨b4, o4, h4', h5⟩, h6, h7⟩ := (hE.xf hX) 0 y (by rw [ha]; rfl)
    have hlen : x.a.length = 1 := by rw [ha]; rfl
    rw [wB4 r h4 ha] at hb ⊢
    rw [wln_app] at hb
    rw [wps_app]
    have hk2 := wXg_ok (least := 3) h6
    have hso : ∀ w ∈ [NotW], wok w := (one_ok ⟨by decide, by decide⟩)
    repeat refine st mo ?_
    refine ⟨_, fun nn => r_put s [NotW] 1 3 hT hs hso (by omega), st mo ?_⟩
    have hs1 := wps_ok hs hso
    have hn1 := wps_n [NotW] s
    generalize wps s [NotW] = s1 at *
    repeat refine st mo ?_
    refine ⟨b4, o4, 0, h4', rfl, by omega, ?_⟩
    repeat refine st mo ?_
    refine ⟨y.c, rfl, h5, ?_⟩
    repeat refine st mo ?_
    refine ⟨_, fun nn => r_w s1 (wps s1 (wXg r (3) y)) 4 rfl hT (h7 X' s1 (3) xf hs1 (by omega)) hs1 (wps_ok hs1 hk2) (by exact fitL_cons fp (fitL_cons fv (fitL_cons fv (by rfl)))) (fn := Tryz.f36), st mo ?_⟩
    repeat refine st mo ?_
    exact ⟨rfl, [0, 5], ft0, ⟨trivial, c0_fit _, trivial, fl rfl (c1_pur (wps_ok hs1 hk2)), trivial⟩, rfl, rfl⟩
  repeat refine st mo ?_
  refine ⟨fun h5 => ?_, fun h5 => ?_⟩
  · rw [nde5 h5] at hn
    simp at hn
    obtain ⟨y, z, ha⟩ := len2 hn.2.1
    rw [wB5 r h5 ha] at hb ⊢
    have hk2 : ∀ w ∈ wXg r (if lvo x.op = 4 then 5 else lvo x.op) y ++ (opW x.op :: wXg r (lvo x.op + 1) z), wok w := app_ok (wXg_ok (hE 0 y (by rw [ha]; rfl)).2.1) (cons_ok (opw_ok hn.1.1 (by omega)) (wXg_ok (hE 1 z (by rw [ha]; rfl)).2.1))
    repeat refine st mo ?_
    refine ⟨_, fun nn => r_w s (wps s (wXg r (if lvo x.op = 4 then 5 else lvo x.op) y ++ (opW x.op :: wXg r (lvo x.op + 1) z))) 1 rfl hT (c_betw s x y z r ha hn.1 hs hb X' (hG.xf hX) (hE.xf hX)) hs (wps_ok hs hk2) (by exact fitL_cons fp (fitL_cons fv (by rfl))) (fn := Tryz.f162), st mo ?_⟩
    repeat refine st mo ?_
    exact ⟨rfl, [0, 3], ft0, ⟨trivial, c0_fit _, trivial, fl rfl (c1_pur (wps_ok hs hk2)), trivial⟩, rfl, rfl⟩
  repeat refine st mo ?_
  refine ⟨fun h6 => ?_, fun h6 => ?_⟩
  · rw [wB6 r h6] at hb ⊢
    have hwd : wok IfW := ⟨by decide, by decide⟩
    have hk2 : ∀ w ∈ IfW :: Lpa :: (wAr r x.a ++ [Rpa]), wok w := cons_ok hwd (cons_ok sym_ok (app_ok (wAr_ok fun y hy => by obtain ⟨j, hj⟩ := List.mem_iff_getElem?.1 hy; exact (hE j y hj).2.1) (one_ok sym_ok)))
    repeat refine st mo ?_
    refine ⟨_, fun nn => r_w s (wps s (IfW :: Lpa :: (wAr r x.a ++ [Rpa]))) 1 rfl hT (c_call s IfW x.p x.cl x.a r hwd hx.2.2.2.2 hs hb X' (hE.xf hX)) hs (wps_ok hs hk2) (by exact fitL_cons fp (fitL_cons fv (fitL_cons fv (by rfl)))) (fn := Tryz.f163), st mo ?_⟩
    repeat refine st mo ?_
    exact ⟨rfl, [0, 3], ft0, ⟨trivial, c0_fit _, trivial, fl rfl (c1_pur (wps_ok hs hk2)), trivial⟩, rfl, rfl⟩
  repeat refine st mo ?_
  refine ⟨fun h7 => ?_, fun h7 => ?_⟩
  · rw [nde7 h7] at hn
    simp at hn
    obtain ⟨y, ha⟩ := len1 hn.2.1
    obtain ⟨⟨b4, o4, h4', h5'⟩, h6', h7'⟩ := (hE.xf hX) 0 y (by rw [ha]; rfl)
    have hlen : x.a.length = 1 := by rw [ha]; rfl
    have hI := isI_iff.1 hn.1.1
    have hP := isP_iff.1 hn.1.2
    rw [wB7 r h7 ha] at hb ⊢
    rw [wln_app, wln_app] at hb
    rw [wps_app, wps_app]
    have hok1 : ∀ w ∈ [RouW, Lpa], wok w := cons_ok ⟨by decide, by decide⟩ (one_ok sym_ok)
    have hok2 := wXg_ok (least := 1) h6'
    have hok3 : ∀ w ∈ [Com, ntx x.s, Com, plW x.pl, Rpa], wok w := cons_ok sym_ok (cons_ok (ntx_ok x.s) (cons_ok sym_ok (cons_ok (plw_ok hP.1 hP.2) (one_ok sym_ok))))
    obtain ⟨i, hi, hi2, hi3⟩ := plw_at (p := x.pl) (by omega) hP.2
    obtain ⟨b, o, c, g1, g2⟩ := (hG.xf hX).t0
    have hcell : X'.cell? ⟨b, o + i * 1, none⟩ = some (.string (plW x.pl)) := by rw [Nat.mul_one]; exact g2 i _ (by rw [List.getElem?_map, hi3]; rfl)
    repeat refine st mo ?_
    refine ⟨_, fun nn => r_put s [RouW, Lpa] 1 3 hT hs hok1 (by omega), st mo ?_⟩
    have hs1 := wps_ok hs hok1
    have hn1 := wps_n [RouW, Lpa] s
    generalize wps s [RouW, Lpa] = s1 at *
    repeat refine st mo ?_
    refine ⟨b4, o4, 0, h4', rfl, by omega, ?_⟩
    repeat refine st mo ?_
    refine ⟨y.c, rfl, h5', ?_⟩
    repeat refine st mo ?_
    refine ⟨_, fun nn => r_w s1 (wps s1 (wXg r 1 y)) 4 rfl hT (h7' X' s1 1 xf hs1 (by omega)) hs1 (wps_ok hs1 hok2) (by exact fitL_cons fp (fitL_cons fv (fitL_cons fv (by rfl)))) (fn := Tryz.f36), st mo ?_⟩
    have hs2 := wps_ok hs1 hok2
    have hn2 := wps_n (wXg r 1 y) s1
    generalize wps s1 (wXg r 1 y) = s2 at *
    repeat refine st mo ?_
    refine ⟨_, fun _ => r_callS (t := .string (ntx x.s)) rfl rfl Tryz.func147 (fun W M E => p_itoa x.s hI.1 hI.2 W ((hG.xf hX).tb.see E)), st mo ?_⟩
    repeat refine st mo ?_
    refine ⟨_, g1, st mo ?_⟩
    repeat refine st mo ?_
    refine ⟨b, o, i, rfl, hi, hi2, ?_⟩
    repeat refine st mo ?_
    refine ⟨_, hcell, st mo ?_⟩
    repeat refine st mo ?_
    refine ⟨_, fun nn => r_put s2 [Com, ntx x.s, Com, plW x.pl, Rpa] 5 6 hT hs2 hok3 (by omega), st mo ?_⟩
    repeat refine st mo ?_
    refine ⟨dk, st mo ?_⟩
    repeat refine st mo ?_
    exact ⟨rfl, [0, 7], ft0, ⟨trivial, c0_fit _, trivial, fl rfl (c1_pur (wps_ok hs2 hok3)), trivial⟩, rfl, rfl⟩
  repeat refine st mo ?_
  refine ⟨fun h8 => ?_, fun h8 => ?_⟩
  · have hc : fre x.nm = true := by rw [nde8 h8] at hn; simp at hn; exact hn.1
    rw [wB8 r h8] at hb ⊢
    have hwd : wok x.nm := fre_ok hc
    have hk2 : ∀ w ∈ x.nm :: Lpa :: (wAr r x.a ++ [Rpa]), wok w := cons_ok hwd (cons_ok sym_ok (app_ok (wAr_ok fun y hy => by obtain ⟨j, hj⟩ := List.mem_iff_getElem?.1 hy; exact (hE j y hj).2.1) (one_ok sym_ok)))
    repeat refine st mo ?_
    refine ⟨_, fun nn => r_w s (wps s (x.nm :: Lpa :: (wAr r x.a ++ [Rpa]))) 1 rfl hT (c_call s x.nm x.p x.cl x.a r hwd hx.2.2.2.2 hs hb X' (hE.xf hX)) hs (wps_ok hs hk2) (by exact fitL_cons fp (fitL_cons fv (fitL_cons fv (by rfl)))) (fn := Tryz.f163), st mo ?_⟩
    repeat refine st mo ?_
    exact ⟨rfl, [0, 3], ft0, ⟨trivial, c0_fit _, trivial, fl rfl (c1_pur (wps_ok hs hk2)), trivial⟩, rfl, rfl⟩
  repeat refine st mo ?_
  refine ⟨fun h9 => ?_, fun h9 => ?_⟩
  · rw [wB9 r h9] at hb ⊢
    have hwd : wok BlaW := ⟨by decide, by decide⟩
    have hk2 : ∀ w ∈ BlaW :: Lpa :: (wAr r x.a ++ [Rpa]), wok w := cons_ok hwd (cons_ok sym_ok (app_ok (wAr_ok fun y hy => by obtain ⟨j, hj⟩ := List.mem_iff_getElem?.1 hy; exact (hE j y hj).2.1) (one_ok sym_ok)))
    repeat refine st mo ?_
    refine ⟨_, fun nn => r_w s (wps s (BlaW :: Lpa :: (wAr r x.a ++ [Rpa]))) 1 rfl hT (c_call s BlaW x.p x.cl x.a r hwd hx.2.2.2.2 hs hb X' (hE.xf hX)) hs (wps_ok hs hk2) (by exact fitL_cons fp (fitL_cons fv (fitL_cons fv (by rfl)))) (fn := Tryz.f163), st mo ?_⟩
    repeat refine st mo ?_
    exact ⟨rfl, [0, 3], ft0, ⟨trivial, c0_fit _, trivial, fl rfl (c1_pur (wps_ok hs hk2)), trivial⟩, rfl, rfl⟩
  repeat refine st mo ?_
  refine ⟨fun h10 => ?_, fun h10 => ?_⟩
  · rw [nde10 h10] at hn
    simp at hn
    have hc := hn.1
    rw [wB10 r h10] at hb ⊢
    have hk2 := colw_ok hc
    repeat refine st mo ?_
    refine ⟨_, fun nn => r_w s (wps s (colw x)) 1 rfl hT (c_col s x hc hs hb X' (hG.xf hX)) hs (wps_ok hs hk2) (by exact fitL_cons fp (fitL_cons fv (by rfl))) (fn := Tryz.f164), st mo ?_⟩
    repeat refine st mo ?_
    exact ⟨rfl, [0, 3], ft0, ⟨trivial, c0_fit _, trivial, fl rfl (c1_pur (wps_ok hs hk2)), trivial⟩, rfl, rfl⟩
  · omega
theorem wBg_ok {r : Ex -> List ByteArray} {x : Ex} (hn : nde x = true) (h : ∀ y ∈ x.a, ∀ w ∈ r y, wok w) : ∀ w ∈ wBg r x, wok w := by
  have hk := nde_k hn
  have hAr := wAr_ok h
  have hcases : x.k = 1 ∨ x.k = 2 ∨ x.k = 3 ∨ x.k = 4 ∨ x.k = 5 ∨ x.k = 6 ∨ x.k = 7 ∨ x.k = 8 ∨ x.k = 9 ∨ x.k = 10 := by omega
  rcases hcases with h1 | h1 | h1 | h1 | h1 | h1 | h1 | h1 | h1 | h1
  · rw [wB1 r h1]; rw [nde1 h1] at hn; simp at hn; exact one_ok (cw_ok hn.1)
  · rw [wB2 r h1]; rw [nde2 h1] at hn; simp at hn; exact one_ok (fre_ok hn.1)
  · rw [nde3 (x := x) (by omega)] at hn; simp at hn
    obtain ⟨y, ha⟩ := len1 hn.1
    rw [wB3 r h1 ha]; exact app_ok (one_ok sym_ok) (wXg_ok (h y (by rw [ha]; simp)))
  · rw [nde3 (x := x) (by omega)] at hn; simp at hn
    obtain ⟨y, ha⟩ := len1 hn.1
    rw [wB4 r h1 ha]; exact app_ok (one_ok ⟨by decide, by decide⟩) (wXg_ok (h y (by rw [ha]; simp)))
  · rw [nde5 h1] at hn; simp at hn
    obtain ⟨y, z, ha⟩ := len2 hn.2.1
    rw [wB5 r h1 ha]; exact app_ok (wXg_ok (h y (by rw [ha]; simp))) (cons_ok (opw_ok hn.1.1 (by omega)) (wXg_ok (h z (by rw [ha]; simp))))
  · rw [wB6 r h1]; exact cons_ok ⟨by decide, by decide⟩ (cons_ok sym_ok (app_ok hAr (one_ok sym_ok)))
  · rw [nde7 h1] at hn; simp at hn
    obtain ⟨y, ha⟩ := len1 hn.2.1
    have hP := isP_iff.1 hn.1.2
    rw [wB7 r h1 ha]; exact app_ok (cons_ok ⟨by decide, by decide⟩ (one_ok sym_ok)) (app_ok (wXg_ok (h y (by rw [ha]; simp))) (cons_ok sym_ok (cons_ok (ntx_ok x.s) (cons_ok sym_ok (cons_ok (plw_ok hP.1 hP.2) (one_ok sym_ok))))))
  · rw [wB8 r h1]; rw [nde8 h1] at hn; simp at hn; exact cons_ok (fre_ok hn.1) (cons_ok sym_ok (app_ok hAr (one_ok sym_ok)))
  · rw [wB9 r h1]; exact cons_ok ⟨by decide, by decide⟩ (cons_ok sym_ok (app_ok hAr (one_ok sym_ok)))
  · rw [wB10 r h1]; rw [nde10 h1] at hn; simp at hn; exact colw_ok hn.1
set_option maxRecDepth 20000 in
theorem c_expr (s : Ws) (x : Ex) (r : Ex -> List ByteArray) (least : Int) (hn : nde x = true) (hx : x.ok) (hs : s.ok) (hb : s.n + wln (brk (decide (lv x < least)) (wBg r x)) <= 4611686018427387904) (X : World) (hG : TG X) (hE : EachW X x.p x.a r) : CW X 36 [P0, x.y, .int .i64 least] s (brk (decide (lv x < least)) (wBg r x)) := by
  have hok := wBg_ok (r := r) hn (fun y hy => by obtain ⟨j, hj⟩ := List.mem_iff_getElem?.1 hy; exact (hE j y hj).2.1)
  refine fn_cT _ Tryz.func36 rfl rfl rfl rfl rfl (fun w ll tw X' hX hT => run_ok (st mo ?_))
  repeat refine st mo ?_
  refine ⟨_, fun _ => r_call (t := .int .i64 (lv x)) rfl rfl Tryz.func89 (fun W M E => p_lv x W), st mo ?_⟩
  repeat refine st mo ?_
  refine ⟨fun h1 => ?_, fun h1 => ?_⟩
  · have e : brk (decide (lv x < least)) (wBg r x) = [Lpa] ++ (wBg r x ++ [Rpa]) := by rw [decide_eq_true (by omega)]; rfl
    rw [e] at hb ⊢
    rw [wln_app, wln_app] at hb
    rw [wps_app, wps_app]
    repeat refine st mo ?_
    refine ⟨_, fun nn => r_put s [Lpa] 1 3 hT hs (one_ok sym_ok) (by omega), st mo ?_⟩
    have hs1 := wps_ok hs (one_ok (sym_ok (a := 40)))
    have hn1 := wps_n [Lpa] s
    generalize wps s [Lpa] = s1 at *
    repeat refine st mo ?_
    refine ⟨_, fun nn => r_w s1 (wps s1 (wBg r x)) 4 rfl hT (c_bare s1 x r hn hx hs1 (by omega) X' (hG.xf hX) (hE.xf hX)) hs1 (wps_ok hs1 hok) (by exact fitL_cons fp (fitL_cons fv (by rfl))) (fn := Tryz.f90), st mo ?_⟩
    have hs2 := wps_ok hs1 hok
    have hn2 := wps_n (wBg r x) s1
    generalize wps s1 (wBg r x) = s2 at *
    repeat refine st mo ?_
    refine ⟨_, fun nn => r_put s2 [Rpa] 5 6 hT hs2 (one_ok sym_ok) (by omega), st mo ?_⟩
    repeat refine st mo ?_
    exact ⟨rfl, [0, 7], ft0, ⟨trivial, c0_fit _, trivial, fl rfl (c1_pur (wps_ok hs2 (one_ok sym_ok))), trivial⟩, rfl, rfl⟩
  · have e : brk (decide (lv x < least)) (wBg r x) = wBg r x := by rw [decide_eq_false (by omega)]; rfl
    rw [e] at hb ⊢
    repeat refine st mo ?_
    refine ⟨_, fun nn => r_w s (wps s (wBg r x)) 1 rfl hT (c_bare s x r hn hx hs hb X' (hG.xf hX) (hE.xf hX)) hs (wps_ok hs hok) (by exact fitL_cons fp (fitL_cons fv (by rfl))) (fn := Tryz.f90), st mo ?_⟩
    repeat refine st mo ?_
    exact ⟨rfl, [0, 3], ft0, ⟨trivial, c0_fit _, trivial, fl rfl (c1_pur (wps_ok hs hok)), trivial⟩, rfl, rfl⟩
theorem wBd_ok : ∀ {d : Nat} {X : World} {x : Ex}, LT X d x -> vE d x = true -> ∀ w ∈ wB d x, wok w
  | 0, X, x, hL, hv => wBg_ok hv fun y hy => by rw [hL.2] at hy; cases hy
  | d + 1, X, x, hL, hv => by
    have hv' : nde x = true /\ x.a.all (vE d) = true := by simpa [vE] using hv
    refine wBg_ok hv'.1 fun y hy => ?_
    obtain ⟨j, hj⟩ := List.mem_iff_getElem?.1 hy
    exact wBd_ok (hL.2 j y hj).2 (List.all_eq_true.1 hv'.2 y hy)
theorem cw_expr : ∀ (d : Nat) (s : Ws) (x : Ex) (least : Int) (X : World), LT X d x -> vE d x = true -> TG X -> s.ok -> s.n + wln (wX d least x) <= 4611686018427387904 -> CW X 36 [P0, x.y, .int .i64 least] s (wX d least x) := by
  intro d
  induction d with
  | zero =>
    intro s x least X hL hv hG hs hb
    exact c_expr s x (fun _ => []) least hv hL.1 hs hb X hG fun i y hy => by rw [hL.2] at hy; cases hy
  | succ d ih =>
    intro s x least X hL hv hG hs hb
    have hv' : nde x = true /\ x.a.all (vE d) = true := by simpa [vE] using hv
    refine c_expr s x (wB d) least hv'.1 hL.1 hs hb X hG fun i y hy => ?_
    obtain ⟨h1, h2⟩ := hL.2 i y hy
    have hvy := List.all_eq_true.1 hv'.2 y (List.mem_of_getElem? hy)
    exact ⟨h1, wBd_ok h2 hvy, fun X' s least hX hs hb => ih s y least X' (h2.xf hX) hvy (hG.xf hX) hs hb⟩
def qp1 (t w : ByteArray) : ByteArray := if 16384 < t.size then t else (if t.size = 0 then t else t ++ Spc) ++ w
def qps (t : ByteArray) (l : List ByteArray) : ByteArray := l.foldl qp1 t
def q0 (t : ByteArray) : List Value := [.string t, if 16384 < t.size then litT else litF]
abbrev hQ (t : ByteArray) : HT := [(0 + 4096, none), (0, some (q0 t))]
abbrev hQP (t : ByteArray) (l : List ByteArray) : HT := [(0 + 4096, none), (0, some (q0 t)), (1 + 4096, none), (1, some (l.map Value.string))]
theorem q0_l {t : ByteArray} (h : 16384 < t.size) : q0 t = [.string t, litT] := by unfold q0; rw [if_pos h]
theorem q0_s {t : ByteArray} (h : t.size <= 16384) : q0 t = [.string t, litF] := by unfold q0; rw [if_neg (by omega)]
theorem q0_pur (t : ByteArray) : (q0 t).all pur1 = true := by unfold q0; split <;> rfl
theorem qps_long : ∀ {l : List ByteArray} {t : ByteArray}, 16384 < t.size -> qps t l = t
  | [], _, _ => rfl
  | w :: l, t, h => by
    show qps (qp1 t w) l = t
    have : qp1 t w = t := if_pos h
    rw [this, qps_long h]
theorem qps_app (t : ByteArray) (l m : List ByteArray) : qps t (l ++ m) = qps (qps t l) m := List.foldl_append ..
theorem qps_step {t : ByteArray} {l : List ByteArray} {i : Nat} {w : ByteArray} (h : l[i]? = some w) : qps t (l.take (i + 1)) = qp1 (qps t (l.take i)) w := by
  rw [List.take_add_one, h, qps_app]; rfl
theorem qps_big {t : ByteArray} {l : List ByteArray} (i : Nat) (h : 16384 < (qps t (l.take i)).size) : qps t l = qps t (l.take i) := by
  have : qps t l = qps (qps t (l.take i)) (l.drop i) := by rw [← qps_app, List.take_append_drop]
  rw [this, qps_long h]
theorem qp1_size {t w : ByteArray} (h : t.size <= 40000) (hw : w.size <= 16384) : (qp1 t w).size <= 40000 := by
  unfold qp1; split
  · exact h
  · split <;> (rw [ByteArray.size_append]; try rw [ByteArray.size_append, show Spc.size = 1 from rfl]) <;> omega
theorem qps_size : ∀ {l : List ByteArray} {t : ByteArray}, t.size <= 40000 -> (∀ w ∈ l, wok w) -> (qps t l).size <= 40000
  | [], _, h, _ => h
  | w :: l, t, h, hw => qps_size (t := qp1 t w) (qp1_size h (hw w (by simp)).2) fun x hx => hw x (by simp [hx])
set_option maxHeartbeats 1000000 in
set_option maxRecDepth 20000 in
theorem d_put (t : ByteArray) (l : List ByteArray) (ht : t.size <= 40000) (hl : ∀ w ∈ l, wok w) (hll : l.length <= 1000) (X : World) : Ctr Tryz.prog X 84 [P0, .slice (some ⟨1, 0, none⟩) l.length 1] (hQP t l) 2 1 (.tuple #[]) (hQ (qps t l)) 1 := by
  refine fn_c _ Tryz.func84 rfl rfl rfl rfl (fun w ll tw X' hX => run_ok (st mo ?_))
  repeat refine st mo ?_
  refine w_loop (fun i : Nat => ⟨⟨47, [(0, P0), (1, .slice (some ⟨1, 0, none⟩) l.length 1), (4, .int .i64 (i : Int))]⟩, hQP (qps t (l.take i)) l, 2, X'⟩) (fun i => i <= l.length) (fun i => l.length - i) 0 (Nat.zero_le _) [0, 1] ⟨rfl, ⟨fp, fs, fv, trivial⟩, ⟨trivial, fl rfl (q0_pur t), trivial, fl rfl (str_pur l), trivial⟩, xf, rfl, rfl⟩ ?_
  intro i hi
  repeat refine st mo ?_
  refine ⟨fun hlt => ?_, fun hge => ?_⟩
  · have hil : i < l.length := by omega
    obtain ⟨x, hx⟩ : ∃ x, l[i]? = some x := ⟨_, List.getElem?_eq_getElem hil⟩
    have hxo := hl x (List.mem_of_getElem? hx)
    have hst := qps_step (t := t) hx
    have hsz : (qps t (l.take i)).size <= 40000 := qps_size ht fun y hy => hl y (List.mem_of_mem_take hy)
    have hbg := qps_big (t := t) (l := l) i
    have hgx : (l.map Value.string)[i]? = some (.string x) := by rw [List.getElem?_map, hx]; rfl
    have hx2 := hxo.2
    generalize qps t (l.take i) = u at *
    rcases Nat.lt_or_ge 16384 u.size with hu | hu
    · rw [q0_l hu]
      repeat refine st mo ?_
      refine ⟨_, rfl, st mo ?_⟩
      repeat refine st mo ?_
      rw [hbg hu]
      exact ⟨rfl, [0], ft0, ⟨trivial, by rw [q0_l hu]; exact fl rfl rfl, trivial⟩, rfl, rfl⟩
    · rw [q0_s hu]
      have e : ∀ a, qp1 u a = (if u.size = 0 then u else u ++ Spc) ++ a := fun a => by unfold qp1; rw [if_neg (by omega)]
      repeat refine st mo ?_
      refine ⟨_, rfl, st mo ?_⟩
      repeat refine st mo ?_
      refine ⟨_, rfl, st mo ?_⟩
      repeat refine st mo ?_
      refine ⟨fun h0 => ?_, fun h0 => ?_⟩
      · have hu0 : u.size ≠ 0 := fun h => h0 (size0.1 h)
        have e1 : qp1 u x = u ++ Spc ++ x := by rw [e, if_neg hu0]
        repeat refine st mo ?_
        refine ⟨_, rfl, st mo ?_⟩
        repeat refine st mo ?_
        refine ⟨.string _, sad _ _ (by show u.size + 1 <= _; omega), rfl, st mo ?_⟩
        repeat refine st mo ?_
        refine ⟨by show 0 + 1 <= 2; omega, [.string (u ++ Spc), litF], rfl, st mo ?_⟩
        have hAx : (u ++ Spc ++ x).size <= 40000 := by rw [← e1]; exact qp1_size hsz hx2
        have hAx2 : (u ++ Spc).size + x.size <= 40000 := by rw [ByteArray.size_append] at hAx; exact hAx
        repeat refine st mo ?_
        refine ⟨_, rfl, st mo ?_⟩
        repeat refine st mo ?_
        refine ⟨i, rfl, hil, st mo ⟨_, hgx, st mo ?_⟩⟩
        repeat refine st mo ?_
        refine ⟨.string _, sad (u ++ Spc) x (by omega), rfl, st mo ?_⟩
        repeat refine st mo ?_
        refine ⟨by show 0 + 1 <= 2; omega, [.string (u ++ Spc ++ x), litF], rfl, st mo ?_⟩
        repeat refine st mo ?_
        refine ⟨dk, st mo ?_⟩
        repeat refine st mo ?_
        refine ⟨_, rfl, st mo ?_⟩
        rw [← e1]
        repeat refine st mo ?_
        refine ⟨fun h1 => ?_, fun h1 => ?_⟩
        · have hq : q0 (qp1 u x) = [.string (qp1 u x), litT] := q0_l (by omega)
          repeat refine st mo ?_
          refine ⟨by show 0 + 1 + 1 <= 2; omega, [.string (qp1 u x), litT], rfl, st mo ?_⟩
          repeat refine st mo ?_
          refine ⟨_, wz (i + 1) rfl, st mo ?_⟩
          exact ⟨i + 1, hil, by show l.length - (i + 1) < l.length - i; omega, [0, 1], rfl, ⟨fp, fs, fv, trivial⟩, ⟨trivial, by rw [hst, hq]; exact fl rfl rfl, trivial, fl rfl (str_pur l), trivial⟩, xf, rfl, rfl⟩
        · have hq : q0 (qp1 u x) = [.string (qp1 u x), litF] := q0_s (by omega)
          repeat refine st mo ?_
          refine ⟨by show 0 + 1 + 1 <= 2; omega, [.string (qp1 u x), litF], rfl, st mo ?_⟩
          repeat refine st mo ?_
          refine ⟨_, wz (i + 1) rfl, st mo ?_⟩
          exact ⟨i + 1, hil, by show l.length - (i + 1) < l.length - i; omega, [0, 1], rfl, ⟨fp, fs, fv, trivial⟩, ⟨trivial, by rw [hst, hq]; exact fl rfl rfl, trivial, fl rfl (str_pur l), trivial⟩, xf, rfl, rfl⟩
      · have e1 : qp1 u x = u ++ x := by rw [e, if_pos (by rw [h0]; rfl)]
        have hAx : (u ++ x).size <= 40000 := by rw [← e1]; exact qp1_size hsz hx2
        have hAx2 : u.size + x.size <= 40000 := by rw [ByteArray.size_append] at hAx; exact hAx
        repeat refine st mo ?_
        refine ⟨_, rfl, st mo ?_⟩
        repeat refine st mo ?_
        refine ⟨i, rfl, hil, st mo ⟨_, hgx, st mo ?_⟩⟩
        repeat refine st mo ?_
        refine ⟨.string _, sad u x (by omega), rfl, st mo ?_⟩
        repeat refine st mo ?_
        refine ⟨by show 0 + 1 <= 2; omega, [.string (u ++ x), litF], rfl, st mo ?_⟩
        repeat refine st mo ?_
        refine ⟨dk, st mo ?_⟩
        repeat refine st mo ?_
        refine ⟨_, rfl, st mo ?_⟩
        rw [← e1]
        repeat refine st mo ?_
        refine ⟨fun h1 => ?_, fun h1 => ?_⟩
        · have hq : q0 (qp1 u x) = [.string (qp1 u x), litT] := q0_l (by omega)
          repeat refine st mo ?_
          refine ⟨by show 0 + 1 + 1 <= 2; omega, [.string (qp1 u x), litT], rfl, st mo ?_⟩
          repeat refine st mo ?_
          refine ⟨_, wz (i + 1) rfl, st mo ?_⟩
          exact ⟨i + 1, hil, by show l.length - (i + 1) < l.length - i; omega, [0, 1], rfl, ⟨fp, fs, fv, trivial⟩, ⟨trivial, by rw [hst, hq]; exact fl rfl rfl, trivial, fl rfl (str_pur l), trivial⟩, xf, rfl, rfl⟩
        · have hq : q0 (qp1 u x) = [.string (qp1 u x), litF] := q0_s (by omega)
          repeat refine st mo ?_
          refine ⟨by show 0 + 1 + 1 <= 2; omega, [.string (qp1 u x), litF], rfl, st mo ?_⟩
          repeat refine st mo ?_
          refine ⟨_, wz (i + 1) rfl, st mo ?_⟩
          exact ⟨i + 1, hil, by show l.length - (i + 1) < l.length - i; omega, [0, 1], rfl, ⟨fp, fs, fv, trivial⟩, ⟨trivial, by rw [hst, hq]; exact fl rfl rfl, trivial, fl rfl (str_pur l), trivial⟩, xf, rfl, rfl⟩
  · repeat refine st mo ?_
    have : i = l.length := by omega
    subst this
    rw [List.take_length]
    exact ⟨rfl, [0], ft0, ⟨trivial, fl rfl (q0_pur _), trivial⟩, rfl, rfl⟩
theorem ft2 {σ : List Nat} {u v u2 v2 : Value} (h : fitV σ u v) (g : fitV σ u2 v2) : fitV σ (.tuple #[u, u2]) (.tuple #[v, v2]) := fun k w hw => by
  obtain ⟨us, rfl, y, ys, e, h3, y2, ys2, e2, h4, e3⟩ := hw.tuple_inv
  exact VX.tuple (us := us) ⟨y, ys, e, h k _ h3, y2, ys2, e2, g k _ h4, e3⟩
theorem ut2 {τ : List Nat} {u v u2 v2 : Value} (h : unV τ u v) (g : unV τ u2 v2) : unV τ (.tuple #[u, u2]) (.tuple #[v, v2]) := fun k w hw => by
  obtain ⟨us, rfl, y, ys, e, h3, y2, ys2, e2, h4, e3⟩ := hw.tuple_inv
  exact VX.tuple (us := us) ⟨y, ys, e, h k _ h3, y2, ys2, e2, g k _ h4, e3⟩
def opL : Nat -> List Int
  | 0 => [11]
  | 1 => [10]
  | 3 => [4, 5, 6, 7, 8, 9]
  | 4 => [1, 2]
  | 5 => [3]
  | _ => []
def opS : Nat -> List ByteArray
  | 0 => [⟨#[111, 114]⟩]
  | 1 => [⟨#[97, 110, 100]⟩]
  | 3 => [⟨#[61]⟩, ⟨#[33, 61]⟩, ⟨#[60]⟩, ⟨#[60, 61]⟩, ⟨#[62]⟩, ⟨#[62, 61]⟩]
  | 4 => [⟨#[43]⟩, ⟨#[45]⟩]
  | 5 => [⟨#[42]⟩]
  | _ => []
abbrev oiV (l : List Int) : List Value := l.map (Value.int .i64)
abbrev osV (l : List ByteArray) : List Value := l.map Value.string
set_option maxRecDepth 20000 in
theorem c_ops0 (X : World) : Ctr Tryz.prog X 68 [.int .i64 0] [] 0 0 (.tuple #[.slice (some ⟨0, 0, none⟩) 1 1, .slice (some ⟨1, 0, none⟩) 1 1]) [(0 + 4096, none), (0, some (osV (opS 0))), (1 + 4096, none), (1, some (oiV (opL 0)))] 2 := by
  refine fn_c _ Tryz.func68 rfl rfl rfl rfl (fun w ll tw X' hX => run_ok (st mo ?_))
  repeat' (first | refine ⟨fun _ => ?_, fun h => absurd h (by decide)⟩ | refine ⟨fun h => absurd h (by decide), fun _ => ?_⟩ | refine st mo ?_)
  exact ⟨rfl, [0, 1], ft2 fs fs, ⟨trivial, fl rfl rfl, trivial, fl rfl rfl, trivial⟩, rfl, rfl⟩
set_option maxRecDepth 20000 in
theorem c_ops1 (X : World) : Ctr Tryz.prog X 68 [.int .i64 1] [] 0 0 (.tuple #[.slice (some ⟨0, 0, none⟩) 1 1, .slice (some ⟨1, 0, none⟩) 1 1]) [(0 + 4096, none), (0, some (osV (opS 1))), (1 + 4096, none), (1, some (oiV (opL 1)))] 2 := by
  refine fn_c _ Tryz.func68 rfl rfl rfl rfl (fun w ll tw X' hX => run_ok (st mo ?_))
  repeat' (first | refine ⟨fun _ => ?_, fun h => absurd h (by decide)⟩ | refine ⟨fun h => absurd h (by decide), fun _ => ?_⟩ | refine st mo ?_)
  exact ⟨rfl, [0, 1], ft2 fs fs, ⟨trivial, fl rfl rfl, trivial, fl rfl rfl, trivial⟩, rfl, rfl⟩
set_option maxRecDepth 20000 in
theorem c_ops3 (X : World) : Ctr Tryz.prog X 68 [.int .i64 3] [] 0 0 (.tuple #[.slice (some ⟨0, 0, none⟩) 6 1, .slice (some ⟨1, 0, none⟩) 6 1]) [(0 + 4096, none), (0, some (osV (opS 3))), (1 + 4096, none), (1, some (oiV (opL 3)))] 2 := by
  refine fn_c _ Tryz.func68 rfl rfl rfl rfl (fun w ll tw X' hX => run_ok (st mo ?_))
  repeat' (first | refine ⟨fun _ => ?_, fun h => absurd h (by decide)⟩ | refine ⟨fun h => absurd h (by decide), fun _ => ?_⟩ | refine st mo ?_)
  exact ⟨rfl, [0, 1], ft2 fs fs, ⟨trivial, fl rfl rfl, trivial, fl rfl rfl, trivial⟩, rfl, rfl⟩
set_option maxRecDepth 20000 in
theorem c_ops4 (X : World) : Ctr Tryz.prog X 68 [.int .i64 4] [] 0 0 (.tuple #[.slice (some ⟨0, 0, none⟩) 2 1, .slice (some ⟨1, 0, none⟩) 2 1]) [(0 + 4096, none), (0, some (osV (opS 4))), (1 + 4096, none), (1, some (oiV (opL 4)))] 2 := by
  refine fn_c _ Tryz.func68 rfl rfl rfl rfl (fun w ll tw X' hX => run_ok (st mo ?_))
  repeat' (first | refine ⟨fun _ => ?_, fun h => absurd h (by decide)⟩ | refine ⟨fun h => absurd h (by decide), fun _ => ?_⟩ | refine st mo ?_)
  exact ⟨rfl, [0, 1], ft2 fs fs, ⟨trivial, fl rfl rfl, trivial, fl rfl rfl, trivial⟩, rfl, rfl⟩
set_option maxRecDepth 20000 in
theorem c_ops5 (X : World) : Ctr Tryz.prog X 68 [.int .i64 5] [] 0 0 (.tuple #[.slice (some ⟨0, 0, none⟩) 1 1, .slice (some ⟨1, 0, none⟩) 1 1]) [(0 + 4096, none), (0, some (osV (opS 5))), (1 + 4096, none), (1, some (oiV (opL 5)))] 2 := by
  refine fn_c _ Tryz.func68 rfl rfl rfl rfl (fun w ll tw X' hX => run_ok (st mo ?_))
  repeat' (first | refine ⟨fun _ => ?_, fun h => absurd h (by decide)⟩ | refine ⟨fun h => absurd h (by decide), fun _ => ?_⟩ | refine st mo ?_)
  exact ⟨rfl, [0, 1], ft2 fs fs, ⟨trivial, fl rfl rfl, trivial, fl rfl rfl, trivial⟩, rfl, rfl⟩
set_option maxRecDepth 20000 in
theorem c_ops2 (w : World) : Calls Tryz.prog 68 #[.int .i64 2] w fun e W => e = .returned (.tuple #[.slice none 0 0, .slice none 0 0]) /\ Mb w W := by
  refine fn_pure [.int .i64 2] Tryz.func68 rfl rfl rfl (run_ok (st mo ?_))
  repeat' (first | refine ⟨fun _ => ?_, fun h => absurd h (by decide)⟩ | refine ⟨fun h => absurd h (by decide), fun _ => ?_⟩ | refine st mo ?_)
  rfl
def qlo (op : Int) : Int := if op = 11 then 0 else if op = 10 then 1 else if 4 <= op /\ op <= 9 then 3 else if op = 1 ∨ op = 2 then 4 else if op = 3 then 5 else 7
def qlv (x : Ex) : Int := if x.k = 4 then 2 else if x.k = 3 then 6 else if x.k = 5 then qlo x.op else 7
theorem opL_lev {i : Nat} {op : Int} (h : op ∈ opL i) : qlo op = i /\ i < 6 := by
  unfold opL at h
  split at h <;> simp at h <;> (try exact ⟨by unfold qlo; repeat' split <;> omega, by omega⟩)
theorem opL_no {op : Int} (h : ∀ i, i < 6 -> op ∉ opL i) : qlo op = 7 := by
  have h0 := h 0 (by omega); have h1 := h 1 (by omega); have h3 := h 3 (by omega); have h4 := h 4 (by omega); have h5 := h 5 (by omega)
  simp [opL] at h0 h1 h3 h4 h5
  unfold qlo; repeat' split <;> omega
theorem oiV_at {l : List Int} {j : Nat} {u : Int} (h : l[j]? = some u) : (oiV l)[j]? = some (.int .i64 u) := by rw [List.getElem?_map, h]; rfl
theorem osV_at {l : List ByteArray} {j : Nat} {u : ByteArray} (h : l[j]? = some u) : (osV l)[j]? = some (.string u) := by rw [List.getElem?_map, h]; rfl
set_option maxHeartbeats 2000000 in
set_option maxRecDepth 20000 in
theorem d_level (x : Ex) (w : World) : Calls Tryz.prog 94 #[x.w] w fun e W => e = .returned (.int .i64 (qlv x)) /\ Mb w W := by
  refine fn_pure [x.y] Tryz.func94 rfl rfl rfl (run_ok (st mo ?_))
  repeat refine st mo ?_
  refine ⟨fun h1 => ?_, fun h1 => ?_⟩
  · repeat refine st mo ?_
    show _ = _; unfold qlv; rw [if_pos h1]
  repeat refine st mo ?_
  refine ⟨fun h2 => ?_, fun h2 => ?_⟩
  · repeat refine st mo ?_
    show _ = _; unfold qlv; rw [if_neg h1, if_pos h2]
  repeat refine st mo ?_
  refine ⟨fun h3 => ?_, fun h3 => ?_⟩
  · repeat refine st mo ?_
    have e : qlv x = qlo x.op := by unfold qlv; rw [if_neg h1, if_neg h2, if_pos h3]
    rw [e]
    refine w_loop (fun i : Nat => ⟨⟨38, [(1, P0), (3, .int .i64 (i : Int))]⟩, [(0, some (x.c.map rel1))], 1, w⟩) (fun i => i <= 6 /\ ∀ j, j < i -> x.op ∉ opL j) (fun i => 6 - i) 0 ⟨by omega, fun j hj => by omega⟩ [0] ⟨rfl, ⟨fp, fv, trivial⟩, ⟨flr rfl, trivial⟩, xf, rfl, rfl⟩ ?_
    intro i hi
    repeat refine st mo ?_
    refine ⟨fun hlt => ?_, fun hge => ?_⟩
    · obtain ⟨hi1, hi2⟩ := hi
      have hi3 : i = 0 ∨ i = 1 ∨ i = 2 ∨ i = 3 ∨ i = 4 ∨ i = 5 := by omega
      rcases hi3 with rfl | rfl | rfl | rfl | rfl | rfl
      · repeat refine st mo ?_
        refine ⟨_, fun _ => r_c (tc := .tuple #[.slice (some ⟨1, 0, none⟩) 1 1, .slice (some ⟨2, 0, none⟩) 1 1]) [] [some (osV (opS 0)), some (oiV (opL 0))] [1, 2] rfl rfl (c_ops0 w) (by exact fitL_cons fv (by rfl)) trivial (ut2 us us) ⟨ul rfl rfl, ul rfl rfl, trivial⟩, st mo ?_⟩
        repeat refine st mo ?_
        refine w_loop (fun j : Nat => ⟨⟨38, [(1, P0), (3, .int .i64 0), (5, .slice (some ⟨1, 0, none⟩) 1 1), (6, .int .i64 (j : Int))]⟩, [(0, some (x.c.map rel1)), (1, some (oiV (opL 0)))], 2, w⟩) (fun j => j <= 1 /\ x.op ∉ (opL 0).take j) (fun j => 1 - j) 0 ⟨by omega, by simp⟩ [0, 2] ⟨rfl, ⟨fp, fv, fs, fv, trivial⟩, ⟨flr rfl, fl rfl rfl, trivial⟩, xf, rfl, rfl⟩ ?_
        intro j hj
        repeat refine st mo ?_
        refine ⟨fun hlt2 => ?_, fun hge2 => ?_⟩
        · have hjl : j < (opL 0).length := by show j < 1; omega
          obtain ⟨u, hu⟩ : ∃ u, (opL 0)[j]? = some u := ⟨_, List.getElem?_eq_getElem hjl⟩
          repeat refine st mo ?_
          refine ⟨j, rfl, by omega, st mo ⟨_, oiV_at hu, st mo ?_⟩⟩
          repeat refine st mo ?_
          refine ⟨fun h4 => ?_, fun h4 => ?_⟩
          · repeat refine st mo ?_
            refine ⟨dk, st mo ?_⟩
            repeat refine st mo ?_
            show _ = _
            rw [(opL_lev (i := 0) (by rw [← h4]; exact List.mem_of_getElem? hu)).1]; rfl
          · repeat refine st mo ?_
            refine ⟨dk, st mo ?_⟩
            repeat refine st mo ?_
            refine ⟨_, wz (j + 1) rfl, st mo ?_⟩
            exact ⟨j + 1, ⟨by omega, by rw [List.take_add_one, hu]; simp; exact ⟨hj.2, fun h => h4 h.symm⟩⟩, by show 1 - (j + 1) < 1 - j; omega, [0, 1], rfl, ⟨fp, fv, fs, fv, trivial⟩, ⟨flr rfl, fl rfl (by simp [pur1]), trivial⟩, xf, rfl, rfl⟩
        · repeat refine st mo ?_
          have hj1 : x.op ∉ opL 0 := by rw [show opL 0 = (opL 0).take j from (List.take_of_length_le (by show 1 <= j; omega)).symm]; exact hj.2
          refine ⟨_, wz (0 + 1) rfl, st mo ?_⟩
          exact ⟨0 + 1, ⟨by omega, fun j' hj' => by rcases Nat.lt_or_ge j' 0 with h | h; exact hi2 j' h; rw [show j' = 0 by omega]; exact hj1⟩, by show 6 - (0 + 1) < 6 - 0; omega, [0], rfl, ⟨fp, fv, trivial⟩, ⟨flr rfl, trivial⟩, xf, rfl, rfl⟩
      · repeat refine st mo ?_
        refine ⟨_, fun _ => r_c (tc := .tuple #[.slice (some ⟨1, 0, none⟩) 1 1, .slice (some ⟨2, 0, none⟩) 1 1]) [] [some (osV (opS 1)), some (oiV (opL 1))] [1, 2] rfl rfl (c_ops1 w) (by exact fitL_cons fv (by rfl)) trivial (ut2 us us) ⟨ul rfl rfl, ul rfl rfl, trivial⟩, st mo ?_⟩
        repeat refine st mo ?_
        refine w_loop (fun j : Nat => ⟨⟨38, [(1, P0), (3, .int .i64 1), (5, .slice (some ⟨1, 0, none⟩) 1 1), (6, .int .i64 (j : Int))]⟩, [(0, some (x.c.map rel1)), (1, some (oiV (opL 1)))], 2, w⟩) (fun j => j <= 1 /\ x.op ∉ (opL 1).take j) (fun j => 1 - j) 0 ⟨by omega, by simp⟩ [0, 2] ⟨rfl, ⟨fp, fv, fs, fv, trivial⟩, ⟨flr rfl, fl rfl rfl, trivial⟩, xf, rfl, rfl⟩ ?_
        intro j hj
        repeat refine st mo ?_
        refine ⟨fun hlt2 => ?_, fun hge2 => ?_⟩
        · have hjl : j < (opL 1).length := by show j < 1; omega
          obtain ⟨u, hu⟩ : ∃ u, (opL 1)[j]? = some u := ⟨_, List.getElem?_eq_getElem hjl⟩
          repeat refine st mo ?_
          refine ⟨j, rfl, by omega, st mo ⟨_, oiV_at hu, st mo ?_⟩⟩
          repeat refine st mo ?_
          refine ⟨fun h4 => ?_, fun h4 => ?_⟩
          · repeat refine st mo ?_
            refine ⟨dk, st mo ?_⟩
            repeat refine st mo ?_
            show _ = _
            rw [(opL_lev (i := 1) (by rw [← h4]; exact List.mem_of_getElem? hu)).1]; rfl
          · repeat refine st mo ?_
            refine ⟨dk, st mo ?_⟩
            repeat refine st mo ?_
            refine ⟨_, wz (j + 1) rfl, st mo ?_⟩
            exact ⟨j + 1, ⟨by omega, by rw [List.take_add_one, hu]; simp; exact ⟨hj.2, fun h => h4 h.symm⟩⟩, by show 1 - (j + 1) < 1 - j; omega, [0, 1], rfl, ⟨fp, fv, fs, fv, trivial⟩, ⟨flr rfl, fl rfl (by simp [pur1]), trivial⟩, xf, rfl, rfl⟩
        · repeat refine st mo ?_
          have hj1 : x.op ∉ opL 1 := by rw [show opL 1 = (opL 1).take j from (List.take_of_length_le (by show 1 <= j; omega)).symm]; exact hj.2
          refine ⟨_, wz (1 + 1) rfl, st mo ?_⟩
          exact ⟨1 + 1, ⟨by omega, fun j' hj' => by rcases Nat.lt_or_ge j' 1 with h | h; exact hi2 j' h; rw [show j' = 1 by omega]; exact hj1⟩, by show 6 - (1 + 1) < 6 - 1; omega, [0], rfl, ⟨fp, fv, trivial⟩, ⟨flr rfl, trivial⟩, xf, rfl, rfl⟩
      · repeat refine st mo ?_
        refine ⟨_, fun _ => r_call (t := .tuple #[.slice none 0 0, .slice none 0 0]) rfl rfl Tryz.func68 (fun W M E => c_ops2 W), st mo ?_⟩
        repeat refine st mo ?_
        refine w_loop (fun j : Nat => ⟨⟨38, [(1, P0), (3, .int .i64 2), (5, .slice none 0 0), (6, .int .i64 (j : Int))]⟩, [(0, some (x.c.map rel1))], 1, w⟩) (fun j => j = 0) (fun j => 0 - j) 0 rfl [0] ⟨rfl, ⟨fp, fv, fv, fv, trivial⟩, ⟨flr rfl, trivial⟩, xf, rfl, rfl⟩ ?_
        intro j hj
        subst hj
        repeat refine st mo ?_
        refine ⟨fun hlt2 => absurd hlt2 (by decide), fun hge2 => ?_⟩
        repeat refine st mo ?_
        refine ⟨_, wz 3 rfl, st mo ?_⟩
        exact ⟨3, ⟨by omega, fun j' hj' => by rcases Nat.lt_or_ge j' 2 with h | h; exact hi2 j' h; rw [show j' = 2 by omega]; simp [opL]⟩, by decide, [0], rfl, ⟨fp, fv, trivial⟩, ⟨flr rfl, trivial⟩, xf, rfl, rfl⟩
      · repeat refine st mo ?_
        refine ⟨_, fun _ => r_c (tc := .tuple #[.slice (some ⟨1, 0, none⟩) 6 1, .slice (some ⟨2, 0, none⟩) 6 1]) [] [some (osV (opS 3)), some (oiV (opL 3))] [1, 2] rfl rfl (c_ops3 w) (by exact fitL_cons fv (by rfl)) trivial (ut2 us us) ⟨ul rfl rfl, ul rfl rfl, trivial⟩, st mo ?_⟩
        repeat refine st mo ?_
        refine w_loop (fun j : Nat => ⟨⟨38, [(1, P0), (3, .int .i64 3), (5, .slice (some ⟨1, 0, none⟩) 6 1), (6, .int .i64 (j : Int))]⟩, [(0, some (x.c.map rel1)), (1, some (oiV (opL 3)))], 2, w⟩) (fun j => j <= 6 /\ x.op ∉ (opL 3).take j) (fun j => 6 - j) 0 ⟨by omega, by simp⟩ [0, 2] ⟨rfl, ⟨fp, fv, fs, fv, trivial⟩, ⟨flr rfl, fl rfl rfl, trivial⟩, xf, rfl, rfl⟩ ?_
        intro j hj
        repeat refine st mo ?_
        refine ⟨fun hlt2 => ?_, fun hge2 => ?_⟩
        · have hjl : j < (opL 3).length := by show j < 6; omega
          obtain ⟨u, hu⟩ : ∃ u, (opL 3)[j]? = some u := ⟨_, List.getElem?_eq_getElem hjl⟩
          repeat refine st mo ?_
          refine ⟨j, rfl, by omega, st mo ⟨_, oiV_at hu, st mo ?_⟩⟩
          repeat refine st mo ?_
          refine ⟨fun h4 => ?_, fun h4 => ?_⟩
          · repeat refine st mo ?_
            refine ⟨dk, st mo ?_⟩
            repeat refine st mo ?_
            show _ = _
            rw [(opL_lev (i := 3) (by rw [← h4]; exact List.mem_of_getElem? hu)).1]; rfl
          · repeat refine st mo ?_
            refine ⟨dk, st mo ?_⟩
            repeat refine st mo ?_
            refine ⟨_, wz (j + 1) rfl, st mo ?_⟩
            exact ⟨j + 1, ⟨by omega, by rw [List.take_add_one, hu]; simp; exact ⟨hj.2, fun h => h4 h.symm⟩⟩, by show 6 - (j + 1) < 6 - j; omega, [0, 1], rfl, ⟨fp, fv, fs, fv, trivial⟩, ⟨flr rfl, fl rfl (by simp [pur1]), trivial⟩, xf, rfl, rfl⟩
        · repeat refine st mo ?_
          have hj1 : x.op ∉ opL 3 := by rw [show opL 3 = (opL 3).take j from (List.take_of_length_le (by show 6 <= j; omega)).symm]; exact hj.2
          refine ⟨_, wz (3 + 1) rfl, st mo ?_⟩
          exact ⟨3 + 1, ⟨by omega, fun j' hj' => by rcases Nat.lt_or_ge j' 3 with h | h; exact hi2 j' h; rw [show j' = 3 by omega]; exact hj1⟩, by show 6 - (3 + 1) < 6 - 3; omega, [0], rfl, ⟨fp, fv, trivial⟩, ⟨flr rfl, trivial⟩, xf, rfl, rfl⟩
      · repeat refine st mo ?_
        refine ⟨_, fun _ => r_c (tc := .tuple #[.slice (some ⟨1, 0, none⟩) 2 1, .slice (some ⟨2, 0, none⟩) 2 1]) [] [some (osV (opS 4)), some (oiV (opL 4))] [1, 2] rfl rfl (c_ops4 w) (by exact fitL_cons fv (by rfl)) trivial (ut2 us us) ⟨ul rfl rfl, ul rfl rfl, trivial⟩, st mo ?_⟩
        repeat refine st mo ?_
        refine w_loop (fun j : Nat => ⟨⟨38, [(1, P0), (3, .int .i64 4), (5, .slice (some ⟨1, 0, none⟩) 2 1), (6, .int .i64 (j : Int))]⟩, [(0, some (x.c.map rel1)), (1, some (oiV (opL 4)))], 2, w⟩) (fun j => j <= 2 /\ x.op ∉ (opL 4).take j) (fun j => 2 - j) 0 ⟨by omega, by simp⟩ [0, 2] ⟨rfl, ⟨fp, fv, fs, fv, trivial⟩, ⟨flr rfl, fl rfl rfl, trivial⟩, xf, rfl, rfl⟩ ?_
        intro j hj
        repeat refine st mo ?_
        refine ⟨fun hlt2 => ?_, fun hge2 => ?_⟩
        · have hjl : j < (opL 4).length := by show j < 2; omega
          obtain ⟨u, hu⟩ : ∃ u, (opL 4)[j]? = some u := ⟨_, List.getElem?_eq_getElem hjl⟩
          repeat refine st mo ?_
          refine ⟨j, rfl, by omega, st mo ⟨_, oiV_at hu, st mo ?_⟩⟩
          repeat refine st mo ?_
          refine ⟨fun h4 => ?_, fun h4 => ?_⟩
          · repeat refine st mo ?_
            refine ⟨dk, st mo ?_⟩
            repeat refine st mo ?_
            show _ = _
            rw [(opL_lev (i := 4) (by rw [← h4]; exact List.mem_of_getElem? hu)).1]; rfl
          · repeat refine st mo ?_
            refine ⟨dk, st mo ?_⟩
            repeat refine st mo ?_
            refine ⟨_, wz (j + 1) rfl, st mo ?_⟩
            exact ⟨j + 1, ⟨by omega, by rw [List.take_add_one, hu]; simp; exact ⟨hj.2, fun h => h4 h.symm⟩⟩, by show 2 - (j + 1) < 2 - j; omega, [0, 1], rfl, ⟨fp, fv, fs, fv, trivial⟩, ⟨flr rfl, fl rfl (by simp [pur1]), trivial⟩, xf, rfl, rfl⟩
        · repeat refine st mo ?_
          have hj1 : x.op ∉ opL 4 := by rw [show opL 4 = (opL 4).take j from (List.take_of_length_le (by show 2 <= j; omega)).symm]; exact hj.2
          refine ⟨_, wz (4 + 1) rfl, st mo ?_⟩
          exact ⟨4 + 1, ⟨by omega, fun j' hj' => by rcases Nat.lt_or_ge j' 4 with h | h; exact hi2 j' h; rw [show j' = 4 by omega]; exact hj1⟩, by show 6 - (4 + 1) < 6 - 4; omega, [0], rfl, ⟨fp, fv, trivial⟩, ⟨flr rfl, trivial⟩, xf, rfl, rfl⟩
      · repeat refine st mo ?_
        refine ⟨_, fun _ => r_c (tc := .tuple #[.slice (some ⟨1, 0, none⟩) 1 1, .slice (some ⟨2, 0, none⟩) 1 1]) [] [some (osV (opS 5)), some (oiV (opL 5))] [1, 2] rfl rfl (c_ops5 w) (by exact fitL_cons fv (by rfl)) trivial (ut2 us us) ⟨ul rfl rfl, ul rfl rfl, trivial⟩, st mo ?_⟩
        repeat refine st mo ?_
        refine w_loop (fun j : Nat => ⟨⟨38, [(1, P0), (3, .int .i64 5), (5, .slice (some ⟨1, 0, none⟩) 1 1), (6, .int .i64 (j : Int))]⟩, [(0, some (x.c.map rel1)), (1, some (oiV (opL 5)))], 2, w⟩) (fun j => j <= 1 /\ x.op ∉ (opL 5).take j) (fun j => 1 - j) 0 ⟨by omega, by simp⟩ [0, 2] ⟨rfl, ⟨fp, fv, fs, fv, trivial⟩, ⟨flr rfl, fl rfl rfl, trivial⟩, xf, rfl, rfl⟩ ?_
        intro j hj
        repeat refine st mo ?_
        refine ⟨fun hlt2 => ?_, fun hge2 => ?_⟩
        · have hjl : j < (opL 5).length := by show j < 1; omega
          obtain ⟨u, hu⟩ : ∃ u, (opL 5)[j]? = some u := ⟨_, List.getElem?_eq_getElem hjl⟩
          repeat refine st mo ?_
          refine ⟨j, rfl, by omega, st mo ⟨_, oiV_at hu, st mo ?_⟩⟩
          repeat refine st mo ?_
          refine ⟨fun h4 => ?_, fun h4 => ?_⟩
          · repeat refine st mo ?_
            refine ⟨dk, st mo ?_⟩
            repeat refine st mo ?_
            show _ = _
            rw [(opL_lev (i := 5) (by rw [← h4]; exact List.mem_of_getElem? hu)).1]; rfl
          · repeat refine st mo ?_
            refine ⟨dk, st mo ?_⟩
            repeat refine st mo ?_
            refine ⟨_, wz (j + 1) rfl, st mo ?_⟩
            exact ⟨j + 1, ⟨by omega, by rw [List.take_add_one, hu]; simp; exact ⟨hj.2, fun h => h4 h.symm⟩⟩, by show 1 - (j + 1) < 1 - j; omega, [0, 1], rfl, ⟨fp, fv, fs, fv, trivial⟩, ⟨flr rfl, fl rfl (by simp [pur1]), trivial⟩, xf, rfl, rfl⟩
        · repeat refine st mo ?_
          have hj1 : x.op ∉ opL 5 := by rw [show opL 5 = (opL 5).take j from (List.take_of_length_le (by show 1 <= j; omega)).symm]; exact hj.2
          refine ⟨_, wz (5 + 1) rfl, st mo ?_⟩
          exact ⟨5 + 1, ⟨by omega, fun j' hj' => by rcases Nat.lt_or_ge j' 5 with h | h; exact hi2 j' h; rw [show j' = 5 by omega]; exact hj1⟩, by show 6 - (5 + 1) < 6 - 5; omega, [0], rfl, ⟨fp, fv, trivial⟩, ⟨flr rfl, trivial⟩, xf, rfl, rfl⟩
    · repeat refine st mo ?_
      show _ = _
      rw [opL_no fun j hj => hi.2 j (by omega)]
  · repeat refine st mo ?_
    show _ = _; unfold qlv; rw [if_neg h1, if_neg h2, if_neg h3]
abbrev CQ (X : World) (f : FuncId) (vs : List Value) (t : ByteArray) (l : List ByteArray) : Prop := Ctr Tryz.prog X f vs (hQ t) 1 1 (.tuple #[]) (hQ (qps t l)) 1
section
variable {w0 : B0} {X : World} {o : Oper} {fr : FT} {hc : HT} {nc : Nat} {xs : Array Operand} {ts : Array TypeId}
set_option maxRecDepth 20000 in
theorem r_q {f : FuncId} {fn : Func} {vs : List Value} (t t' : ByteArray) (ho : o.op = .call { callee := .value (.func f), args := xs, argTypes := ts }) (hctr : Ctr Tryz.prog X f vs (hQ t) 1 1 (.tuple #[]) (hQ t') 1) (hv : fitL [0] (evl fr xs.toList ++ []) vs)
    (hc0 : hget hc 0 = some (q0 t) := by rfl) (hf : Tryz.prog.funcs[f]? = some fn := by rfl) (hb : callB fn = true := by rfl) (hck : (apartL [0] && Nat.ble nc 4096 && ([0] : List Nat).all (Nat.blt · nc)) = true := by rfl) :
    Oa (Am w0 X) Tryz.prog o fr hc nc ⟨.tuple #[], mskL (setsH hc ([0].zip [some (q0 t')])) [0], nc, bitsL [0], bitsL [0]⟩ := by
  have key := r_c (w0 := w0) (X := X) (o := o) (fr := fr) (hc := hc) (nc := nc) (tc := .tuple #[]) [0] [some (q0 t')] [0] ho (y := .func f) rfl hctr hv
    (by
      refine ⟨trivial, ?_, trivial⟩
      show (match hget hc 0 with | some us => fitL [0] us _ | none => False)
      rw [hc0]; exact fl rfl (q0_pur t))
    ut0
    ⟨ul rfl (q0_pur t'), trivial⟩ hf hb
    (by simp only [Bool.and_eq_true] at hck ⊢; exact ⟨⟨⟨⟨⟨⟨⟨hck.1.1, rfl⟩, rfl⟩, rfl⟩, rfl⟩, rfl⟩, hck.1.2⟩, hck.2⟩)
  exact key
set_option maxRecDepth 20000 in
theorem r_qp (t : ByteArray) (l : List ByteArray) (b : Nat) (ht : t.size <= 40000) (hl : ∀ w ∈ l, wok w) (ho : o.op = .call { callee := .value (.func 84), args := xs, argTypes := ts } := by rfl) (hv : evl fr xs.toList = [P0, .slice (some ⟨b, 0, none⟩) l.length 1] := by rfl)
    (hc0 : hget hc 0 = some (q0 t) := by rfl) (hcb : hget hc b = some (l.map Value.string) := by rfl) (hll : Nat.ble l.length 1000 = true := by rfl) (hck : (apartL [0, b] && Nat.ble nc 4096 && ([0, b] : List Nat).all (Nat.blt · nc)) = true := by rfl) :
    Oa (Am w0 X) Tryz.prog o fr hc nc ⟨.tuple #[], mskL (setsH hc ([0].zip [some (q0 (qps t l))] ++ [(b, none)])) [0], nc, bitsL [0, b], bitsL [0, b]⟩ := by
  have key := r_c (w0 := w0) (X := X) (o := o) (fr := fr) (hc := hc) (nc := nc) (tc := .tuple #[]) [0, b] [some (q0 (qps t l))] [0] ho (y := .func 84) rfl (d_put t l ht hl (Nat.le_of_ble_eq_true hll) X)
    (by show fitL _ (evl fr xs.toList ++ []) _; rw [hv]; exact fitL_cons fp (fitL_cons fs (by rfl)))
    (by
      refine ⟨trivial, ?_, trivial, ?_, trivial⟩
      · show (match hget hc 0 with | some us => fitL [0, b] us _ | none => False)
        rw [hc0]; exact fl rfl (q0_pur t)
      · show (match hget hc b with | some us => fitL [0, b] us _ | none => False)
        rw [hcb]; exact fl rfl (str_pur l))
    ut0
    ⟨ul rfl (q0_pur _), trivial⟩ Tryz.func84 rfl
    (by simp only [Bool.and_eq_true] at hck ⊢; exact ⟨⟨⟨⟨⟨⟨⟨hck.1.1, rfl⟩, rfl⟩, rfl⟩, rfl⟩, rfl⟩, hck.1.2⟩, hck.2⟩)
  exact key
end
set_option maxRecDepth 20000 in
theorem d_value (t : ByteArray) (v : VL) (hv : v.ok) (hc : cst v = true) (ht : t.size <= 40000) (X : World) : CQ X 92 [P0, v.y] t [cw v] := by
  have hok := cw_ok hc
  refine fn_c _ Tryz.func92 rfl rfl rfl rfl (fun w l tw X' hX => run_ok (st mo ?_))
  repeat refine st mo ?_
  refine ⟨fun h1 => ?_, fun h1 => ?_⟩
  · have e : cw v = dtx v.b v.n v.s := by unfold cw; rw [if_pos h1]
    rw [e] at hok ⊢
    repeat refine st mo ?_
    refine ⟨_, fun _ => r_call (t := .string (dtx v.b v.n v.s)) rfl rfl Tryz.func155 (fun W M E => q_dtx v.b v.n v.s hv W), st mo ?_⟩
    repeat refine st mo ?_
    refine ⟨_, fun nn => r_qp t [dtx v.b v.n v.s] 2 ht (one_ok hok), st mo ?_⟩
    repeat refine st mo ?_
    exact ⟨rfl, [0], ft0, ⟨trivial, fl rfl (q0_pur _), trivial⟩, rfl, rfl⟩
  repeat refine st mo ?_
  refine ⟨fun h3 => ?_, fun h3 => ?_⟩
  · have e : cw v = quo v.t := by unfold cw; rw [if_neg h1, if_neg (by omega)]
    have hts : v.t.size <= 64 := by rcases cst_cases hc with h | h | h; omega; omega; exact h.2
    rw [e] at hok ⊢
    repeat refine st mo ?_
    refine ⟨_, fun _ => r_call (t := .string (quo v.t)) rfl rfl Tryz.func165 (fun W M E => q_quo v.t hts W), st mo ?_⟩
    repeat refine st mo ?_
    refine ⟨_, fun nn => r_qp t [quo v.t] 2 ht (one_ok hok), st mo ?_⟩
    repeat refine st mo ?_
    exact ⟨rfl, [0], ft0, ⟨trivial, fl rfl (q0_pur _), trivial⟩, rfl, rfl⟩
  repeat refine st mo ?_
  refine ⟨fun h2 => ?_, fun h2 => ?_⟩
  · have e : cw v = (if v.f then Tru else Fls) := by unfold cw; rw [if_neg h1, if_pos h2]
    rw [e] at hok ⊢
    repeat refine st mo ?_
    refine ⟨fun hf => ?_, fun hf => ?_⟩
    · rw [hf] at hok ⊢
      have hok' : ∀ w ∈ [Tru], wok w := one_ok hok
      repeat refine st mo ?_
      refine ⟨_, fun nn => r_qp t [Tru] 2 ht hok', st mo ?_⟩
      repeat refine st mo ?_
      exact ⟨rfl, [0], ft0, ⟨trivial, fl rfl (q0_pur _), trivial⟩, rfl, rfl⟩
    · rw [hf] at hok ⊢
      have hok' : ∀ w ∈ [Fls], wok w := one_ok hok
      repeat refine st mo ?_
      refine ⟨_, fun nn => r_qp t [Fls] 2 ht hok', st mo ?_⟩
      repeat refine st mo ?_
      exact ⟨rfl, [0], ft0, ⟨trivial, fl rfl (q0_pur _), trivial⟩, rfl, rfl⟩
  · rcases cst_cases hc with h | h | h
    · exact absurd h h1
    · exact absurd h h2
    · exact absurd h.1 h3
set_option maxRecDepth 20000 in
theorem d_pol (X : World) : Ctr Tryz.prog X 167 [] [] 0 0 (.slice (some ⟨0, 0, none⟩) 6 1) [(0 + 4096, none), (0, some (osV plw))] 1 := by
  refine fn_c _ Tryz.func167 rfl rfl rfl rfl (fun w ll tw X' hX => run_ok (st mo ?_))
  repeat refine st mo ?_
  exact ⟨rfl, [0], fs, ⟨trivial, fl rfl rfl, trivial⟩, rfl, rfl⟩
set_option maxRecDepth 20000 in
theorem d_word (L : List ByteArray) (i : Nat) (u : ByteArray) (h : L[i]? = some u) (X : World) : Ctr Tryz.prog X 166 [.slice (some ⟨0, 0, none⟩) L.length 1, .int .i64 (i : Int)] [(0 + 4096, none), (0, some (osV L))] 1 0 (.string u) [] 0 := by
  have hl : i < L.length := (List.getElem?_eq_some_iff.1 h).1
  refine fn_c _ Tryz.func166 rfl rfl rfl rfl (fun w ll tw X' hX => run_ok (st mo ?_))
  repeat refine st mo ?_
  refine ⟨fun h0 => absurd h0 (by omega), fun _ => ?_⟩
  repeat refine st mo ?_
  refine ⟨fun h0 => absurd h0 (by omega), fun _ => ?_⟩
  repeat refine st mo ?_
  refine ⟨i, rfl, hl, st mo ⟨_, osV_at h, st mo ?_⟩⟩
  repeat refine st mo ?_
  exact ⟨rfl, [], fvp, trivial, rfl, rfl⟩
def EachQ (X : World) (p : Option Addr) (l : List Ex) (r : Ex -> List ByteArray) : Prop := ∀ i y, l[i]? = some y -> (∃ b o, p = some ⟨b, o, none⟩ /\ Lies X b (o + i * 17) y.c) /\ (∀ w ∈ r y, wok w) /\ qlv y = lv y - 1 ∧
  ∀ (X' : World) (t : ByteArray), Xf X' X -> t.size <= 40000 -> CQ X' 38 [P0, y.y] t (r y)
theorem EachQ.xf {X X' : World} {p : Option Addr} {l : List Ex} {r : Ex -> List ByteArray} (h : EachQ X p l r) (hX : Xf X' X) : EachQ X' p l r := fun i y hy => by
  obtain ⟨⟨b, o, h1, h2⟩, h3, h4, h5⟩ := h i y hy
  exact ⟨⟨b, o, h1, fun j u hj => xce hX _ _ (h2 j u hj)⟩, h3, h4, fun X2 t hX2 => h5 X2 t (hX2.tr hX)⟩
set_option maxRecDepth 20000 in
theorem d_within (t : ByteArray) (x y : Ex) (i : Nat) (least m : Int) (r : Ex -> List ByteArray) (hm : m = least - 1) (hy : x.a[i]? = some y) (ht : t.size <= 40000) (X : World) (hE : EachQ X x.p x.a r) : CQ X 93 [P0, x.y, .int .i64 (i : Int), .int .i64 m] t (wXg r least y) := by
  have hil : i < x.a.length := (List.getElem?_eq_some_iff.1 hy).1
  refine fn_c _ Tryz.func93 rfl rfl rfl rfl (fun w l tw X' hX => run_ok (st mo ?_))
  obtain ⟨⟨b4, o4, h4, h5⟩, h6, h7, h8⟩ := (hE.xf hX) i y hy
  have hok := wXg_ok (least := least) h6
  repeat refine st mo ?_
  refine ⟨fun h0 => absurd h0 (by omega), fun _ => ?_⟩
  repeat refine st mo ?_
  refine ⟨b4, o4, i, h4, rfl, hil, ?_⟩
  repeat refine st mo ?_
  refine ⟨y.c, rfl, h5, ?_⟩
  repeat refine st mo ?_
  refine ⟨_, fun _ => r_call (t := .int .i64 (qlv y)) rfl rfl Tryz.func94 (fun W M E => d_level y W), st mo ?_⟩
  repeat refine st mo ?_
  refine ⟨fun h1 => ?_, fun h1 => ?_⟩
  · have e : wXg r least y = [Lpa] ++ (r y ++ [Rpa]) := by unfold wXg; rw [decide_eq_true (by omega)]; rfl
    rw [e, qps_app, qps_app]
    repeat refine st mo ?_
    refine ⟨_, fun nn => r_qp t [Lpa] 2 ht (one_ok sym_ok), st mo ?_⟩
    have ht1 := qps_size (l := [Lpa]) ht (one_ok sym_ok)
    generalize qps t [Lpa] = t1 at *
    repeat refine st mo ?_
    refine ⟨b4, o4, i, h4, rfl, hil, ?_⟩
    repeat refine st mo ?_
    refine ⟨y.c, rfl, h5, ?_⟩
    repeat refine st mo ?_
    refine ⟨_, fun nn => r_q t1 (qps t1 (r y)) rfl (h8 X' t1 xf ht1) (by exact fitL_cons fp (fitL_cons fv (by rfl))) (fn := Tryz.f38), st mo ?_⟩
    have ht2 := qps_size ht1 h6
    generalize qps t1 (r y) = t2 at *
    repeat refine st mo ?_
    refine ⟨_, fun nn => r_qp t2 [Rpa] 3 ht2 (one_ok sym_ok), st mo ?_⟩
    repeat refine st mo ?_
    exact ⟨rfl, [0], ft0, ⟨trivial, fl rfl (q0_pur _), trivial⟩, rfl, rfl⟩
  · have e : wXg r least y = r y := by unfold wXg; rw [decide_eq_false (by omega)]; rfl
    rw [e]
    repeat refine st mo ?_
    refine ⟨b4, o4, i, h4, rfl, hil, ?_⟩
    repeat refine st mo ?_
    refine ⟨y.c, rfl, h5, ?_⟩
    repeat refine st mo ?_
    refine ⟨_, fun nn => r_q t (qps t (r y)) rfl (h8 X' t xf ht) (by exact fitL_cons fp (fitL_cons fv (by rfl))) (fn := Tryz.f38), st mo ?_⟩
    repeat refine st mo ?_
    exact ⟨rfl, [0], ft0, ⟨trivial, fl rfl (q0_pur _), trivial⟩, rfl, rfl⟩
theorem len3 {x : Ex} (h : x.a.length = 3) : ∃ y z u, x.a = [y, z, u] := by
  match hx : x.a, h with
  | [y, z, u], _ => exact ⟨y, z, u, rfl⟩
theorem wB6' (r : Ex -> List ByteArray) {x y z u : Ex} (h : x.k = 6) (ha : x.a = [y, z, u]) : wBg r x = [IfW, Lpa] ++ (wXg r 1 y ++ ([Com] ++ (wXg r 1 z ++ ([Com] ++ (wXg r 1 u ++ [Rpa]))))) := by rw [wB6 r h, ha]; simp [wAr]
theorem wB7' (r : Ex -> List ByteArray) {x y : Ex} (h : x.k = 7) (ha : x.a = [y]) : wBg r x = [RouW, Lpa] ++ (wXg r 1 y ++ ([Com, ntx x.s, Com, plW x.pl] ++ [Rpa])) := by rw [wB7 r h ha]; rfl
theorem wB8' (r : Ex -> List ByteArray) {x y : Ex} (h : x.k = 8) (ha : x.a = [y]) : wBg r x = [x.nm, Lpa] ++ (wXg r 1 y ++ [Rpa]) := by rw [wB8 r h, ha]; rfl
theorem wB9' (r : Ex -> List ByteArray) {x y : Ex} (h : x.k = 9) (ha : x.a = [y]) : wBg r x = [BlaW, Lpa] ++ (wXg r 1 y ++ [Rpa]) := by rw [wB9 r h, ha]; rfl
abbrev RowW : ByteArray := ⟨#[114, 111, 119, 115]⟩
abbrev colL : List ByteArray := [⟨#[115, 117, 109]⟩, ⟨#[99, 111, 117, 110, 116]⟩, ⟨#[109, 105, 110]⟩, ⟨#[109, 97, 120]⟩]
theorem colL_at {op : Int} (h : 12 <= op) (h2 : op <= 15) : ∃ i : Nat, op - 12 = (i : Int) /\ colL[i]? = some (opW op) := by
  have : op = 12 ∨ op = 13 ∨ op = 14 ∨ op = 15 := by omega
  rcases this with rfl | rfl | rfl | rfl
  · exact ⟨0, rfl, rfl⟩
  · exact ⟨1, rfl, rfl⟩
  · exact ⟨2, rfl, rfl⟩
  · exact ⟨3, rfl, rfl⟩
set_option maxHeartbeats 2000000 in
set_option maxRecDepth 20000 in
theorem d_call (t : ByteArray) (x : Ex) (r : Ex -> List ByteArray) (hk : 6 <= x.k) (hn : nde x = true) (ht : t.size <= 40000) (X : World) (hE : EachQ X x.p x.a r) : CQ X 95 [P0, x.y] t (wBg r x) := by
  have hkk := nde_k hn
  refine fn_c _ Tryz.func95 rfl rfl rfl rfl (fun w l tw X' hX => run_ok (st mo ?_))
  repeat refine st mo ?_
  refine ⟨fun h6 => ?_, fun h6 => ?_⟩
  · rw [nde6 h6] at hn
    simp at hn
    obtain ⟨y, z, u, ha⟩ := len3 hn.1
    rw [wB6' r h6 ha]
    simp only [qps_app]
    have ok1 : ∀ w ∈ [IfW, Lpa], wok w := cons_ok ⟨by decide, by decide⟩ (one_ok sym_ok)
    have oky := wXg_ok (least := 1) (hE 0 y (by rw [ha]; rfl)).2.1
    have okz := wXg_ok (least := 1) (hE 1 z (by rw [ha]; rfl)).2.1
    have oku := wXg_ok (least := 1) (hE 2 u (by rw [ha]; rfl)).2.1
    repeat refine st mo ?_
    refine ⟨_, fun nn => r_qp t [IfW, Lpa] 2 ht ok1, st mo ?_⟩
    have ht1 := qps_size ht ok1
    generalize qps t [IfW, Lpa] = t1 at *
    repeat refine st mo ?_
    refine ⟨_, fun nn => r_q t1 (qps t1 (wXg r 1 y)) rfl (d_within t1 x y 0 1 0 r rfl (by rw [ha]; rfl) ht1 X' (hE.xf hX)) (by exact fitL_cons fp (fitL_cons fv (fitL_cons fv (fitL_cons fv (by rfl))))) (fn := Tryz.f93), st mo ?_⟩
    have ht2 := qps_size ht1 oky
    generalize qps t1 (wXg r 1 y) = t2 at *
    repeat refine st mo ?_
    refine ⟨_, fun nn => r_qp t2 [Com] 3 ht2 (one_ok sym_ok), st mo ?_⟩
    have ht3 := qps_size (l := [Com]) ht2 (one_ok sym_ok)
    generalize qps t2 [Com] = t3 at *
    repeat refine st mo ?_
    refine ⟨_, fun nn => r_q t3 (qps t3 (wXg r 1 z)) rfl (d_within t3 x z 1 1 0 r rfl (by rw [ha]; rfl) ht3 X' (hE.xf hX)) (by exact fitL_cons fp (fitL_cons fv (fitL_cons fv (fitL_cons fv (by rfl))))) (fn := Tryz.f93), st mo ?_⟩
    have ht4 := qps_size ht3 okz
    generalize qps t3 (wXg r 1 z) = t4 at *
    repeat refine st mo ?_
    refine ⟨_, fun nn => r_qp t4 [Com] 4 ht4 (one_ok sym_ok), st mo ?_⟩
    have ht5 := qps_size (l := [Com]) ht4 (one_ok sym_ok)
    generalize qps t4 [Com] = t5 at *
    repeat refine st mo ?_
    refine ⟨_, fun nn => r_q t5 (qps t5 (wXg r 1 u)) rfl (d_within t5 x u 2 1 0 r rfl (by rw [ha]; rfl) ht5 X' (hE.xf hX)) (by exact fitL_cons fp (fitL_cons fv (fitL_cons fv (fitL_cons fv (by rfl))))) (fn := Tryz.f93), st mo ?_⟩
    have ht6 := qps_size ht5 oku
    generalize qps t5 (wXg r 1 u) = t6 at *
    repeat refine st mo ?_
    refine ⟨_, fun nn => r_qp t6 [Rpa] 5 ht6 (one_ok sym_ok), st mo ?_⟩
    repeat refine st mo ?_
    exact ⟨rfl, [0], ft0, ⟨trivial, fl rfl (q0_pur _), trivial⟩, rfl, rfl⟩
  repeat refine st mo ?_
  refine ⟨fun h7 => ?_, fun h7 => ?_⟩
  · rw [nde7 h7] at hn
    simp at hn
    obtain ⟨y, ha⟩ := len1 hn.2.1
    have hI := isI_iff.1 hn.1.1
    have hP := isP_iff.1 hn.1.2
    obtain ⟨i, hi, hi2, hi3⟩ := plw_at (p := x.pl) (by omega) hP.2
    rw [wB7' r h7 ha]
    simp only [qps_app]
    have ok1 : ∀ w ∈ [RouW, Lpa], wok w := cons_ok ⟨by decide, by decide⟩ (one_ok sym_ok)
    have oky := wXg_ok (least := 1) (hE 0 y (by rw [ha]; rfl)).2.1
    have ok3 : ∀ w ∈ [Com, ntx x.s, Com, plW x.pl], wok w := cons_ok sym_ok (cons_ok (ntx_ok x.s) (cons_ok sym_ok (one_ok (plw_ok hP.1 hP.2))))
    repeat refine st mo ?_
    refine ⟨_, fun nn => r_qp t [RouW, Lpa] 2 ht ok1, st mo ?_⟩
    have ht1 := qps_size ht ok1
    generalize qps t [RouW, Lpa] = t1 at *
    repeat refine st mo ?_
    refine ⟨_, fun nn => r_q t1 (qps t1 (wXg r 1 y)) rfl (d_within t1 x y 0 1 0 r rfl (by rw [ha]; rfl) ht1 X' (hE.xf hX)) (by exact fitL_cons fp (fitL_cons fv (fitL_cons fv (fitL_cons fv (by rfl))))) (fn := Tryz.f93), st mo ?_⟩
    have ht2 := qps_size ht1 oky
    generalize qps t1 (wXg r 1 y) = t2 at *
    repeat refine st mo ?_
    refine ⟨_, fun _ => r_call (t := .string (ntx x.s)) rfl rfl Tryz.func154 (fun W M E => q_nat x.s hI.1 hI.2 W), st mo ?_⟩
    repeat refine st mo ?_
    refine ⟨_, fun _ => r_c (tc := .slice (some ⟨3, 0, none⟩) 6 1) [] [some (osV plw)] [3] rfl rfl (d_pol X') (by rfl) trivial us ⟨ul rfl rfl, trivial⟩, st mo ?_⟩
    repeat refine st mo ?_
    refine ⟨_, fun _ => r_c (tc := .string (plW x.pl)) [3] [] [] rfl rfl (d_word plw i (plW x.pl) hi3 X') (by exact fitL_cons fs (fitL_cons (fv (by rw [hi]; rfl)) (by rfl))) ⟨trivial, fl rfl rfl, trivial⟩ uv trivial, st mo ?_⟩
    repeat refine st mo ?_
    refine ⟨_, fun nn => r_qp t2 [Com, ntx x.s, Com, plW x.pl] 4 ht2 ok3, st mo ?_⟩
    have ht3 := qps_size ht2 ok3
    generalize qps t2 [Com, ntx x.s, Com, plW x.pl] = t3 at *
    repeat refine st mo ?_
    refine ⟨dk, st mo ?_⟩
    repeat refine st mo ?_
    refine ⟨_, fun nn => r_qp t3 [Rpa] 5 ht3 (one_ok sym_ok), st mo ?_⟩
    repeat refine st mo ?_
    exact ⟨rfl, [0], ft0, ⟨trivial, fl rfl (q0_pur _), trivial⟩, rfl, rfl⟩
  repeat refine st mo ?_
  refine ⟨fun h9 => ?_, fun h9 => ?_⟩
  · rw [nde3 (x := x) (by omega)] at hn
    simp at hn
    obtain ⟨y, ha⟩ := len1 (x := x) hn.1
    rw [wB9' r h9 ha]
    simp only [qps_app]
    have ok1 : ∀ w ∈ [BlaW, Lpa], wok w := cons_ok (⟨by decide, by decide⟩) (one_ok sym_ok)
    have oky := wXg_ok (least := 1) (hE 0 y (by rw [ha]; rfl)).2.1
    repeat refine st mo ?_
    refine ⟨_, fun nn => r_qp t [BlaW, Lpa] 2 ht ok1, st mo ?_⟩
    have ht1 := qps_size ht ok1
    generalize qps t [BlaW, Lpa] = t1 at *
    repeat refine st mo ?_
    refine ⟨_, fun nn => r_q t1 (qps t1 (wXg r 1 y)) rfl (d_within t1 x y 0 1 0 r rfl (by rw [ha]; rfl) ht1 X' (hE.xf hX)) (by exact fitL_cons fp (fitL_cons fv (fitL_cons fv (fitL_cons fv (by rfl))))) (fn := Tryz.f93), st mo ?_⟩
    have ht2 := qps_size ht1 oky
    generalize qps t1 (wXg r 1 y) = t2 at *
    repeat refine st mo ?_
    refine ⟨_, fun nn => r_qp t2 [Rpa] 3 ht2 (one_ok sym_ok), st mo ?_⟩
    repeat refine st mo ?_
    exact ⟨rfl, [0], ft0, ⟨trivial, fl rfl (q0_pur _), trivial⟩, rfl, rfl⟩
  repeat refine st mo ?_
  refine ⟨fun h8 => ?_, fun h8 => ?_⟩
  · rw [nde8 h8] at hn
    simp at hn
    obtain ⟨y, ha⟩ := len1 (x := x) hn.2.1
    rw [wB8' r h8 ha]
    simp only [qps_app]
    have ok1 : ∀ w ∈ [x.nm, Lpa], wok w := cons_ok (fre_ok hn.1) (one_ok sym_ok)
    have oky := wXg_ok (least := 1) (hE 0 y (by rw [ha]; rfl)).2.1
    repeat refine st mo ?_
    refine ⟨_, fun nn => r_qp t [x.nm, Lpa] 2 ht ok1, st mo ?_⟩
    have ht1 := qps_size ht ok1
    generalize qps t [x.nm, Lpa] = t1 at *
    repeat refine st mo ?_
    refine ⟨_, fun nn => r_q t1 (qps t1 (wXg r 1 y)) rfl (d_within t1 x y 0 1 0 r rfl (by rw [ha]; rfl) ht1 X' (hE.xf hX)) (by exact fitL_cons fp (fitL_cons fv (fitL_cons fv (fitL_cons fv (by rfl))))) (fn := Tryz.f93), st mo ?_⟩
    have ht2 := qps_size ht1 oky
    generalize qps t1 (wXg r 1 y) = t2 at *
    repeat refine st mo ?_
    refine ⟨_, fun nn => r_qp t2 [Rpa] 3 ht2 (one_ok sym_ok), st mo ?_⟩
    repeat refine st mo ?_
    exact ⟨rfl, [0], ft0, ⟨trivial, fl rfl (q0_pur _), trivial⟩, rfl, rfl⟩
  repeat refine st mo ?_
  refine ⟨fun h10 => ?_, fun h10 => ?_⟩
  · rw [nde10 h10] at hn
    simp at hn
    have hc := hn.1
    rw [wB10 r h10]
    repeat refine st mo ?_
    refine ⟨fun h1 => ?_, fun h1 => ?_⟩
    · have e : colw x = [RowW, Lpa, x.sc] ++ [Rpa] := by unfold colw; rw [if_pos h1, h1]; rfl
      have hsc : wok x.sc := by rcases col_cases hc with h | h; exact fre_ok h.2.1; exact fre_ok h.2.2.1
      have ok1 : ∀ w ∈ [RowW, Lpa, x.sc], wok w := cons_ok ⟨by decide, by decide⟩ (cons_ok sym_ok (one_ok hsc))
      rw [e, qps_app]
      repeat refine st mo ?_
      refine ⟨_, fun nn => r_qp t [RowW, Lpa, x.sc] 2 ht ok1, st mo ?_⟩
      have ht1 := qps_size ht ok1
      generalize qps t [RowW, Lpa, x.sc] = t1 at *
      repeat refine st mo ?_
      refine ⟨_, fun nn => r_qp t1 [Rpa] 3 ht1 (one_ok sym_ok), st mo ?_⟩
      repeat refine st mo ?_
      exact ⟨rfl, [0], ft0, ⟨trivial, fl rfl (q0_pur _), trivial⟩, rfl, rfl⟩
    · have e : colw x = [opW x.op, Lpa, x.sc, ⟨#[46]⟩, x.nm] ++ [Rpa] := by unfold colw; rw [if_neg h1]; rfl
      have h2 : 12 <= x.op /\ x.op <= 15 /\ fre x.sc = true /\ fre x.nm = true := by rcases col_cases hc with h | h; exact absurd h.1 h1; exact h
      obtain ⟨i, hi, hi3⟩ := colL_at h2.1 h2.2.1
      have ok1 : ∀ w ∈ [opW x.op, Lpa, x.sc, ⟨#[46]⟩, x.nm], wok w := cons_ok (opw_ok (by omega) (by omega)) (cons_ok sym_ok (cons_ok (fre_ok h2.2.2.1) (cons_ok sym_ok (one_ok (fre_ok h2.2.2.2)))))
      rw [e, qps_app]
      repeat refine st mo ?_
      refine ⟨_, wz i hi (by omega), st mo ?_⟩
      repeat refine st mo ?_
      refine ⟨_, fun _ => r_c (tc := .string (opW x.op)) [2] [] [] rfl rfl (d_word colL i (opW x.op) hi3 X') (by exact fitL_cons fs (fitL_cons fv (by rfl))) ⟨trivial, fl rfl rfl, trivial⟩ uv trivial, st mo ?_⟩
      repeat refine st mo ?_
      refine ⟨_, fun nn => r_qp t [opW x.op, Lpa, x.sc, ⟨#[46]⟩, x.nm] 3 ht ok1, st mo ?_⟩
      have ht1 := qps_size ht ok1
      generalize qps t [opW x.op, Lpa, x.sc, ⟨#[46]⟩, x.nm] = t1 at *
      repeat refine st mo ?_
      refine ⟨dk, st mo ?_⟩
      repeat refine st mo ?_
      refine ⟨_, fun nn => r_qp t1 [Rpa] 4 ht1 (one_ok sym_ok), st mo ?_⟩
      repeat refine st mo ?_
      exact ⟨rfl, [0], ft0, ⟨trivial, fl rfl (q0_pur _), trivial⟩, rfl, rfl⟩
  · omega
theorem opS_at {i j : Nat} {op : Int} (h : (opL i)[j]? = some op) : (opS i)[j]? = some (opW op) := by
  match i, h with
  | 0, h => match j, h with
    | 0, h => cases h; rfl
    | (_ + 1), h => simp [opL] at h
  | 1, h => match j, h with
    | 0, h => cases h; rfl
    | (_ + 1), h => simp [opL] at h
  | 2, h => simp [opL] at h
  | 3, h => match j, h with
    | 0, h => cases h; rfl
    | 1, h => cases h; rfl
    | 2, h => cases h; rfl
    | 3, h => cases h; rfl
    | 4, h => cases h; rfl
    | 5, h => cases h; rfl
    | (_ + 6), h => simp [opL] at h
  | 4, h => match j, h with
    | 0, h => cases h; rfl
    | 1, h => cases h; rfl
    | (_ + 2), h => simp [opL] at h
  | 5, h => match j, h with
    | 0, h => cases h; rfl
    | (_ + 1), h => simp [opL] at h
  | (_ + 6), h => simp [opL] at h
theorem opL_nd (i : Nat) : (opL i).Nodup := by unfold opL; split <;> decide
theorem nd_take {l : List Int} (h : l.Nodup) {j : Nat} {u : Int} (hu : l[j]? = some u) : u ∉ l.take j := fun hm => by
  obtain ⟨k, hk⟩ := List.mem_iff_getElem?.1 hm
  have hkj : k < j := by
    have := (List.getElem?_eq_some_iff.1 hk).1
    rw [List.length_take] at this; omega
  rw [List.getElem?_take, if_pos hkj] at hk
  have h1 := (List.getElem?_eq_some_iff.1 hk)
  have h2 := (List.getElem?_eq_some_iff.1 hu)
  exact List.pairwise_iff_getElem.1 h k j h1.1 h2.1 hkj (h1.2.trans h2.2.symm)
theorem lvo_0 {op : Int} (h : op ∈ opL 0) : lvo op = 0 + 1 := by simp [opL] at h; unfold lvo; repeat' split <;> omega
set_option maxHeartbeats 2000000 in
set_option maxRecDepth 20000 in
theorem d_bin0 (t : ByteArray) (x y z : Ex) (r : Ex -> List ByteArray) (hk : x.k = 5) (ha : x.a = [y, z]) (hop : x.op ∈ opL 0) (hop2 : 1 <= x.op /\ x.op <= 11) (ht : t.size <= 16384) (X : World) (hE : EachQ X x.p x.a r) : CQ X 38 [P0, x.y] t (wXg r (if lvo x.op = 4 then 5 else lvo x.op) y ++ ([opW x.op] ++ wXg r (lvo x.op + 1) z)) := by
  have hlv := lvo_0 hop
  have hql : qlv x = 0 := by unfold qlv; rw [if_neg (by omega), if_neg (by omega), if_pos hk]; exact (opL_lev hop).1
  have oky := wXg_ok (least := if lvo x.op = 4 then 5 else lvo x.op) (hE 0 y (by rw [ha]; rfl)).2.1
  have okz := wXg_ok (least := lvo x.op + 1) (hE 1 z (by rw [ha]; rfl)).2.1
  have okw := opw_ok (op := x.op) (by omega) (by omega)
  unfold CQ
  rw [qps_app, qps_app]
  refine fn_c _ Tryz.func38 rfl rfl rfl rfl (fun w l tw X' hX => run_ok (st mo ?_))
  have hq := q0_s (t := t) ht
  repeat refine st mo ?_
  refine ⟨_, by rw [hq]; rfl, st mo ?_⟩
  repeat refine st mo ?_
  refine ⟨fun h => absurd h (by omega), fun _ => ?_⟩
  repeat refine st mo ?_
  refine ⟨fun h => absurd h (by omega), fun _ => ?_⟩
  repeat refine st mo ?_
  refine ⟨fun h => absurd h (by omega), fun _ => ?_⟩
  repeat refine st mo ?_
  refine ⟨fun h => absurd h (by omega), fun _ => ?_⟩
  repeat refine st mo ?_
  refine ⟨fun _ => ?_, fun h => absurd hk h⟩
  repeat refine st mo ?_
  refine ⟨_, fun _ => r_call (t := .int .i64 0) rfl rfl Tryz.func94 (fun W M E => hql ▸ d_level x W), st mo ?_⟩
  repeat refine st mo ?_
  refine ⟨fun h => absurd h (by decide), fun _ => ?_⟩
  repeat refine st mo ?_
  refine ⟨_, fun nn => r_q t (qps t (wXg r (if lvo x.op = 4 then 5 else lvo x.op) y)) rfl (d_within t x y 0 (if lvo x.op = 4 then 5 else lvo x.op) 0 r (by rw [hlv]; rfl) (by rw [ha]; rfl) (by omega) X' (hE.xf hX)) (by exact fitL_cons fp (fitL_cons fv (fitL_cons fv (fitL_cons fv (by rfl))))) (fn := Tryz.f93), st mo ?_⟩
  have ht1 := qps_size (t := t) (by omega) oky
  generalize qps t (wXg r (if lvo x.op = 4 then 5 else lvo x.op) y) = t1 at *
  repeat refine st mo ?_
  refine ⟨_, fun _ => r_c (tc := .tuple #[.slice (some ⟨2, 0, none⟩) 1 1, .slice (some ⟨3, 0, none⟩) 1 1]) [] [some (osV (opS 0)), some (oiV (opL 0))] [2, 3] rfl rfl (c_ops0 X') (by exact fitL_cons fv (by rfl)) trivial (ut2 us us) ⟨ul rfl rfl, ul rfl rfl, trivial⟩, st mo ?_⟩
  repeat refine st mo ?_
  refine w_loop (fun j : Nat => ⟨⟨88, [(0, P0), (3, .pointer (some ⟨1, 0, none⟩)), (4, .int .i64 0), (6, .slice (some ⟨2, 0, none⟩) 1 1), (7, .slice (some ⟨3, 0, none⟩) 1 1), (8, .int .i64 (j : Int))]⟩, [(0 + 4096, none), (0, some (q0 (if x.op ∈ (opL 0).take j then qps t1 [opW x.op] else t1))), (1, some (x.c.map rel1)), (2, some (osV (opS 0))), (3, some (oiV (opL 0)))], 4, X'⟩) (fun j => j <= 1) (fun j => 1 - j) 0 (Nat.zero_le _) [0, 1, 2, 3] ⟨rfl, ⟨fp, fp, fv, fs, fs, fv, trivial⟩, ⟨trivial, fl rfl (q0_pur _), flr rfl, fl rfl rfl, fl rfl rfl, trivial⟩, xf, rfl, rfl⟩ ?_
  intro j hj
  repeat refine st mo ?_
  refine ⟨fun hlt2 => ?_, fun hge2 => ?_⟩
  · have hjl : j < (opL 0).length := by show j < 1; omega
    obtain ⟨u, hu⟩ : ∃ u, (opL 0)[j]? = some u := ⟨_, List.getElem?_eq_getElem hjl⟩
    have htk : (opL 0).take (j + 1) = (opL 0).take j ++ [u] := by rw [List.take_add_one, hu]; rfl
    repeat refine st mo ?_
    refine ⟨j, rfl, by omega, st mo ⟨_, oiV_at hu, st mo ?_⟩⟩
    repeat refine st mo ?_
    refine ⟨fun h4 => ?_, fun h4 => ?_⟩
    · have hno : x.op ∉ (opL 0).take j := by rw [← h4]; exact nd_take (opL_nd 0) hu
      have hS : (opS 0)[j]? = some (opW x.op) := opS_at (by rw [← h4]; exact hu)
      have hyes : x.op ∈ (opL 0).take (j + 1) := by rw [htk, h4]; simp
      rw [if_neg hno]
      repeat refine st mo ?_
      refine ⟨dk, st mo ?_⟩
      refine ⟨j, rfl, by omega, st mo ⟨_, osV_at hS, st mo ?_⟩⟩
      repeat refine st mo ?_
      refine ⟨_, fun nn => r_qp t1 [opW x.op] 4 ht1 (one_ok okw), st mo ?_⟩
      repeat refine st mo ?_
      refine ⟨_, wz (j + 1) rfl, st mo ?_⟩
      exact ⟨j + 1, by omega, by show 1 - (j + 1) < 1 - j; omega, [0, 1, 2, 3], rfl, ⟨fp, fp, fv, fs, fs, fv, trivial⟩, ⟨trivial, by simp only [if_pos hyes]; exact fl rfl (q0_pur _), flr rfl, fl rfl rfl, fl rfl rfl, trivial⟩, xf, rfl, rfl⟩
    · repeat refine st mo ?_
      refine ⟨dk, st mo ?_⟩
      repeat refine st mo ?_
      refine ⟨_, wz (j + 1) rfl, st mo ?_⟩
      have hsm : (x.op ∈ (opL 0).take (j + 1)) = (x.op ∈ (opL 0).take j) := by rw [htk]; simp; intro h; exact absurd h.symm h4
      exact ⟨j + 1, by omega, by show 1 - (j + 1) < 1 - j; omega, [0, 1, 2, 3], rfl, ⟨fp, fp, fv, fs, fs, fv, trivial⟩, ⟨trivial, by simp only [hsm]; exact fl rfl (q0_pur _), flr rfl, fl rfl rfl, fl rfl rfl, trivial⟩, xf, rfl, rfl⟩
  · have hall : x.op ∈ (opL 0).take j := by rw [List.take_of_length_le (by show 1 <= j; omega)]; exact hop
    rw [if_pos hall]
    have ht2 := qps_size ht1 (one_ok okw)
    generalize qps t1 [opW x.op] = t2 at *
    repeat refine st mo ?_
    refine ⟨_, wz (0 + 1) rfl, st mo ?_⟩
    repeat refine st mo ?_
    refine ⟨_, fun nn => r_q t2 (qps t2 (wXg r (lvo x.op + 1) z)) rfl (d_within t2 x z 1 (lvo x.op + 1) (0 + 1) r (by rw [hlv]; rfl) (by rw [ha]; rfl) ht2 X' (hE.xf hX)) (by exact fitL_cons fp (fitL_cons fv (fitL_cons fv (fitL_cons fv (by rfl))))) (fn := Tryz.f93), st mo ?_⟩
    repeat refine st mo ?_
    exact ⟨rfl, [0], ft0, ⟨trivial, fl rfl (q0_pur _), trivial⟩, rfl, rfl⟩
theorem lvo_1 {op : Int} (h : op ∈ opL 1) : lvo op = 1 + 1 := by simp [opL] at h; unfold lvo; repeat' split <;> omega
set_option maxHeartbeats 2000000 in
set_option maxRecDepth 20000 in
theorem d_bin1 (t : ByteArray) (x y z : Ex) (r : Ex -> List ByteArray) (hk : x.k = 5) (ha : x.a = [y, z]) (hop : x.op ∈ opL 1) (hop2 : 1 <= x.op /\ x.op <= 11) (ht : t.size <= 16384) (X : World) (hE : EachQ X x.p x.a r) : CQ X 38 [P0, x.y] t (wXg r (if lvo x.op = 4 then 5 else lvo x.op) y ++ ([opW x.op] ++ wXg r (lvo x.op + 1) z)) := by
  have hlv := lvo_1 hop
  have hql : qlv x = 1 := by unfold qlv; rw [if_neg (by omega), if_neg (by omega), if_pos hk]; exact (opL_lev hop).1
  have oky := wXg_ok (least := if lvo x.op = 4 then 5 else lvo x.op) (hE 0 y (by rw [ha]; rfl)).2.1
  have okz := wXg_ok (least := lvo x.op + 1) (hE 1 z (by rw [ha]; rfl)).2.1
  have okw := opw_ok (op := x.op) (by omega) (by omega)
  unfold CQ
  rw [qps_app, qps_app]
  refine fn_c _ Tryz.func38 rfl rfl rfl rfl (fun w l tw X' hX => run_ok (st mo ?_))
  have hq := q0_s (t := t) ht
  repeat refine st mo ?_
  refine ⟨_, by rw [hq]; rfl, st mo ?_⟩
  repeat refine st mo ?_
  refine ⟨fun h => absurd h (by omega), fun _ => ?_⟩
  repeat refine st mo ?_
  refine ⟨fun h => absurd h (by omega), fun _ => ?_⟩
  repeat refine st mo ?_
  refine ⟨fun h => absurd h (by omega), fun _ => ?_⟩
  repeat refine st mo ?_
  refine ⟨fun h => absurd h (by omega), fun _ => ?_⟩
  repeat refine st mo ?_
  refine ⟨fun _ => ?_, fun h => absurd hk h⟩
  repeat refine st mo ?_
  refine ⟨_, fun _ => r_call (t := .int .i64 1) rfl rfl Tryz.func94 (fun W M E => hql ▸ d_level x W), st mo ?_⟩
  repeat refine st mo ?_
  refine ⟨fun h => absurd h (by decide), fun _ => ?_⟩
  repeat refine st mo ?_
  refine ⟨_, fun nn => r_q t (qps t (wXg r (if lvo x.op = 4 then 5 else lvo x.op) y)) rfl (d_within t x y 0 (if lvo x.op = 4 then 5 else lvo x.op) 1 r (by rw [hlv]; rfl) (by rw [ha]; rfl) (by omega) X' (hE.xf hX)) (by exact fitL_cons fp (fitL_cons fv (fitL_cons fv (fitL_cons fv (by rfl))))) (fn := Tryz.f93), st mo ?_⟩
  have ht1 := qps_size (t := t) (by omega) oky
  generalize qps t (wXg r (if lvo x.op = 4 then 5 else lvo x.op) y) = t1 at *
  repeat refine st mo ?_
  refine ⟨_, fun _ => r_c (tc := .tuple #[.slice (some ⟨2, 0, none⟩) 1 1, .slice (some ⟨3, 0, none⟩) 1 1]) [] [some (osV (opS 1)), some (oiV (opL 1))] [2, 3] rfl rfl (c_ops1 X') (by exact fitL_cons fv (by rfl)) trivial (ut2 us us) ⟨ul rfl rfl, ul rfl rfl, trivial⟩, st mo ?_⟩
  repeat refine st mo ?_
  refine w_loop (fun j : Nat => ⟨⟨88, [(0, P0), (3, .pointer (some ⟨1, 0, none⟩)), (4, .int .i64 1), (6, .slice (some ⟨2, 0, none⟩) 1 1), (7, .slice (some ⟨3, 0, none⟩) 1 1), (8, .int .i64 (j : Int))]⟩, [(0 + 4096, none), (0, some (q0 (if x.op ∈ (opL 1).take j then qps t1 [opW x.op] else t1))), (1, some (x.c.map rel1)), (2, some (osV (opS 1))), (3, some (oiV (opL 1)))], 4, X'⟩) (fun j => j <= 1) (fun j => 1 - j) 0 (Nat.zero_le _) [0, 1, 2, 3] ⟨rfl, ⟨fp, fp, fv, fs, fs, fv, trivial⟩, ⟨trivial, fl rfl (q0_pur _), flr rfl, fl rfl rfl, fl rfl rfl, trivial⟩, xf, rfl, rfl⟩ ?_
  intro j hj
  repeat refine st mo ?_
  refine ⟨fun hlt2 => ?_, fun hge2 => ?_⟩
  · have hjl : j < (opL 1).length := by show j < 1; omega
    obtain ⟨u, hu⟩ : ∃ u, (opL 1)[j]? = some u := ⟨_, List.getElem?_eq_getElem hjl⟩
    have htk : (opL 1).take (j + 1) = (opL 1).take j ++ [u] := by rw [List.take_add_one, hu]; rfl
    repeat refine st mo ?_
    refine ⟨j, rfl, by omega, st mo ⟨_, oiV_at hu, st mo ?_⟩⟩
    repeat refine st mo ?_
    refine ⟨fun h4 => ?_, fun h4 => ?_⟩
    · have hno : x.op ∉ (opL 1).take j := by rw [← h4]; exact nd_take (opL_nd 1) hu
      have hS : (opS 1)[j]? = some (opW x.op) := opS_at (by rw [← h4]; exact hu)
      have hyes : x.op ∈ (opL 1).take (j + 1) := by rw [htk, h4]; simp
      rw [if_neg hno]
      repeat refine st mo ?_
      refine ⟨dk, st mo ?_⟩
      refine ⟨j, rfl, by omega, st mo ⟨_, osV_at hS, st mo ?_⟩⟩
      repeat refine st mo ?_
      refine ⟨_, fun nn => r_qp t1 [opW x.op] 4 ht1 (one_ok okw), st mo ?_⟩
      repeat refine st mo ?_
      refine ⟨_, wz (j + 1) rfl, st mo ?_⟩
      exact ⟨j + 1, by omega, by show 1 - (j + 1) < 1 - j; omega, [0, 1, 2, 3], rfl, ⟨fp, fp, fv, fs, fs, fv, trivial⟩, ⟨trivial, by simp only [if_pos hyes]; exact fl rfl (q0_pur _), flr rfl, fl rfl rfl, fl rfl rfl, trivial⟩, xf, rfl, rfl⟩
    · repeat refine st mo ?_
      refine ⟨dk, st mo ?_⟩
      repeat refine st mo ?_
      refine ⟨_, wz (j + 1) rfl, st mo ?_⟩
      have hsm : (x.op ∈ (opL 1).take (j + 1)) = (x.op ∈ (opL 1).take j) := by rw [htk]; simp; intro h; exact absurd h.symm h4
      exact ⟨j + 1, by omega, by show 1 - (j + 1) < 1 - j; omega, [0, 1, 2, 3], rfl, ⟨fp, fp, fv, fs, fs, fv, trivial⟩, ⟨trivial, by simp only [hsm]; exact fl rfl (q0_pur _), flr rfl, fl rfl rfl, fl rfl rfl, trivial⟩, xf, rfl, rfl⟩
  · have hall : x.op ∈ (opL 1).take j := by rw [List.take_of_length_le (by show 1 <= j; omega)]; exact hop
    rw [if_pos hall]
    have ht2 := qps_size ht1 (one_ok okw)
    generalize qps t1 [opW x.op] = t2 at *
    repeat refine st mo ?_
    refine ⟨_, wz (1 + 1) rfl, st mo ?_⟩
    repeat refine st mo ?_
    refine ⟨_, fun nn => r_q t2 (qps t2 (wXg r (lvo x.op + 1) z)) rfl (d_within t2 x z 1 (lvo x.op + 1) (1 + 1) r (by rw [hlv]; rfl) (by rw [ha]; rfl) ht2 X' (hE.xf hX)) (by exact fitL_cons fp (fitL_cons fv (fitL_cons fv (fitL_cons fv (by rfl))))) (fn := Tryz.f93), st mo ?_⟩
    repeat refine st mo ?_
    exact ⟨rfl, [0], ft0, ⟨trivial, fl rfl (q0_pur _), trivial⟩, rfl, rfl⟩
theorem lvo_3 {op : Int} (h : op ∈ opL 3) : lvo op = 3 + 1 := by simp [opL] at h; unfold lvo; repeat' split <;> omega
set_option maxHeartbeats 2000000 in
set_option maxRecDepth 20000 in
theorem d_bin3 (t : ByteArray) (x y z : Ex) (r : Ex -> List ByteArray) (hk : x.k = 5) (ha : x.a = [y, z]) (hop : x.op ∈ opL 3) (hop2 : 1 <= x.op /\ x.op <= 11) (ht : t.size <= 16384) (X : World) (hE : EachQ X x.p x.a r) : CQ X 38 [P0, x.y] t (wXg r (if lvo x.op = 4 then 5 else lvo x.op) y ++ ([opW x.op] ++ wXg r (lvo x.op + 1) z)) := by
  have hlv := lvo_3 hop
  have hql : qlv x = 3 := by unfold qlv; rw [if_neg (by omega), if_neg (by omega), if_pos hk]; exact (opL_lev hop).1
  have oky := wXg_ok (least := if lvo x.op = 4 then 5 else lvo x.op) (hE 0 y (by rw [ha]; rfl)).2.1
  have okz := wXg_ok (least := lvo x.op + 1) (hE 1 z (by rw [ha]; rfl)).2.1
  have okw := opw_ok (op := x.op) (by omega) (by omega)
  unfold CQ
  rw [qps_app, qps_app]
  refine fn_c _ Tryz.func38 rfl rfl rfl rfl (fun w l tw X' hX => run_ok (st mo ?_))
  have hq := q0_s (t := t) ht
  repeat refine st mo ?_
  refine ⟨_, by rw [hq]; rfl, st mo ?_⟩
  repeat refine st mo ?_
  refine ⟨fun h => absurd h (by omega), fun _ => ?_⟩
  repeat refine st mo ?_
  refine ⟨fun h => absurd h (by omega), fun _ => ?_⟩
  repeat refine st mo ?_
  refine ⟨fun h => absurd h (by omega), fun _ => ?_⟩
  repeat refine st mo ?_
  refine ⟨fun h => absurd h (by omega), fun _ => ?_⟩
  repeat refine st mo ?_
  refine ⟨fun _ => ?_, fun h => absurd hk h⟩
  repeat refine st mo ?_
  refine ⟨_, fun _ => r_call (t := .int .i64 3) rfl rfl Tryz.func94 (fun W M E => hql ▸ d_level x W), st mo ?_⟩
  repeat refine st mo ?_
  refine ⟨fun _ => ?_, fun h => absurd rfl h⟩
  repeat refine st mo ?_
  refine ⟨_, fun nn => r_q t (qps t (wXg r (if lvo x.op = 4 then 5 else lvo x.op) y)) rfl (d_within t x y 0 (if lvo x.op = 4 then 5 else lvo x.op) 4 r (by rw [hlv]; rfl) (by rw [ha]; rfl) (by omega) X' (hE.xf hX)) (by exact fitL_cons fp (fitL_cons fv (fitL_cons fv (fitL_cons fv (by rfl))))) (fn := Tryz.f93), st mo ?_⟩
  have ht1 := qps_size (t := t) (by omega) oky
  generalize qps t (wXg r (if lvo x.op = 4 then 5 else lvo x.op) y) = t1 at *
  repeat refine st mo ?_
  refine ⟨_, fun _ => r_c (tc := .tuple #[.slice (some ⟨2, 0, none⟩) 6 1, .slice (some ⟨3, 0, none⟩) 6 1]) [] [some (osV (opS 3)), some (oiV (opL 3))] [2, 3] rfl rfl (c_ops3 X') (by exact fitL_cons fv (by rfl)) trivial (ut2 us us) ⟨ul rfl rfl, ul rfl rfl, trivial⟩, st mo ?_⟩
  repeat refine st mo ?_
  refine w_loop (fun j : Nat => ⟨⟨88, [(0, P0), (3, .pointer (some ⟨1, 0, none⟩)), (4, .int .i64 3), (6, .slice (some ⟨2, 0, none⟩) 6 1), (7, .slice (some ⟨3, 0, none⟩) 6 1), (8, .int .i64 (j : Int))]⟩, [(0 + 4096, none), (0, some (q0 (if x.op ∈ (opL 3).take j then qps t1 [opW x.op] else t1))), (1, some (x.c.map rel1)), (2, some (osV (opS 3))), (3, some (oiV (opL 3)))], 4, X'⟩) (fun j => j <= 6) (fun j => 6 - j) 0 (Nat.zero_le _) [0, 1, 2, 3] ⟨rfl, ⟨fp, fp, fv, fs, fs, fv, trivial⟩, ⟨trivial, fl rfl (q0_pur _), flr rfl, fl rfl rfl, fl rfl rfl, trivial⟩, xf, rfl, rfl⟩ ?_
  intro j hj
  repeat refine st mo ?_
  refine ⟨fun hlt2 => ?_, fun hge2 => ?_⟩
  · have hjl : j < (opL 3).length := by show j < 6; omega
    obtain ⟨u, hu⟩ : ∃ u, (opL 3)[j]? = some u := ⟨_, List.getElem?_eq_getElem hjl⟩
    have htk : (opL 3).take (j + 1) = (opL 3).take j ++ [u] := by rw [List.take_add_one, hu]; rfl
    repeat refine st mo ?_
    refine ⟨j, rfl, by omega, st mo ⟨_, oiV_at hu, st mo ?_⟩⟩
    repeat refine st mo ?_
    refine ⟨fun h4 => ?_, fun h4 => ?_⟩
    · have hno : x.op ∉ (opL 3).take j := by rw [← h4]; exact nd_take (opL_nd 3) hu
      have hS : (opS 3)[j]? = some (opW x.op) := opS_at (by rw [← h4]; exact hu)
      have hyes : x.op ∈ (opL 3).take (j + 1) := by rw [htk, h4]; simp
      rw [if_neg hno]
      repeat refine st mo ?_
      refine ⟨dk, st mo ?_⟩
      refine ⟨j, rfl, by omega, st mo ⟨_, osV_at hS, st mo ?_⟩⟩
      repeat refine st mo ?_
      refine ⟨_, fun nn => r_qp t1 [opW x.op] 4 ht1 (one_ok okw), st mo ?_⟩
      repeat refine st mo ?_
      refine ⟨_, wz (j + 1) rfl, st mo ?_⟩
      exact ⟨j + 1, by omega, by show 6 - (j + 1) < 6 - j; omega, [0, 1, 2, 3], rfl, ⟨fp, fp, fv, fs, fs, fv, trivial⟩, ⟨trivial, by simp only [if_pos hyes]; exact fl rfl (q0_pur _), flr rfl, fl rfl rfl, fl rfl rfl, trivial⟩, xf, rfl, rfl⟩
    · repeat refine st mo ?_
      refine ⟨dk, st mo ?_⟩
      repeat refine st mo ?_
      refine ⟨_, wz (j + 1) rfl, st mo ?_⟩
      have hsm : (x.op ∈ (opL 3).take (j + 1)) = (x.op ∈ (opL 3).take j) := by rw [htk]; simp; intro h; exact absurd h.symm h4
      exact ⟨j + 1, by omega, by show 6 - (j + 1) < 6 - j; omega, [0, 1, 2, 3], rfl, ⟨fp, fp, fv, fs, fs, fv, trivial⟩, ⟨trivial, by simp only [hsm]; exact fl rfl (q0_pur _), flr rfl, fl rfl rfl, fl rfl rfl, trivial⟩, xf, rfl, rfl⟩
  · have hall : x.op ∈ (opL 3).take j := by rw [List.take_of_length_le (by show 6 <= j; omega)]; exact hop
    rw [if_pos hall]
    have ht2 := qps_size ht1 (one_ok okw)
    generalize qps t1 [opW x.op] = t2 at *
    repeat refine st mo ?_
    refine ⟨_, wz (3 + 1) rfl, st mo ?_⟩
    repeat refine st mo ?_
    refine ⟨_, fun nn => r_q t2 (qps t2 (wXg r (lvo x.op + 1) z)) rfl (d_within t2 x z 1 (lvo x.op + 1) (3 + 1) r (by rw [hlv]; rfl) (by rw [ha]; rfl) ht2 X' (hE.xf hX)) (by exact fitL_cons fp (fitL_cons fv (fitL_cons fv (fitL_cons fv (by rfl))))) (fn := Tryz.f93), st mo ?_⟩
    repeat refine st mo ?_
    exact ⟨rfl, [0], ft0, ⟨trivial, fl rfl (q0_pur _), trivial⟩, rfl, rfl⟩
theorem lvo_4 {op : Int} (h : op ∈ opL 4) : lvo op = 4 + 1 := by simp [opL] at h; unfold lvo; repeat' split <;> omega
set_option maxHeartbeats 2000000 in
set_option maxRecDepth 20000 in
theorem d_bin4 (t : ByteArray) (x y z : Ex) (r : Ex -> List ByteArray) (hk : x.k = 5) (ha : x.a = [y, z]) (hop : x.op ∈ opL 4) (hop2 : 1 <= x.op /\ x.op <= 11) (ht : t.size <= 16384) (X : World) (hE : EachQ X x.p x.a r) : CQ X 38 [P0, x.y] t (wXg r (if lvo x.op = 4 then 5 else lvo x.op) y ++ ([opW x.op] ++ wXg r (lvo x.op + 1) z)) := by
  have hlv := lvo_4 hop
  have hql : qlv x = 4 := by unfold qlv; rw [if_neg (by omega), if_neg (by omega), if_pos hk]; exact (opL_lev hop).1
  have oky := wXg_ok (least := if lvo x.op = 4 then 5 else lvo x.op) (hE 0 y (by rw [ha]; rfl)).2.1
  have okz := wXg_ok (least := lvo x.op + 1) (hE 1 z (by rw [ha]; rfl)).2.1
  have okw := opw_ok (op := x.op) (by omega) (by omega)
  unfold CQ
  rw [qps_app, qps_app]
  refine fn_c _ Tryz.func38 rfl rfl rfl rfl (fun w l tw X' hX => run_ok (st mo ?_))
  have hq := q0_s (t := t) ht
  repeat refine st mo ?_
  refine ⟨_, by rw [hq]; rfl, st mo ?_⟩
  repeat refine st mo ?_
  refine ⟨fun h => absurd h (by omega), fun _ => ?_⟩
  repeat refine st mo ?_
  refine ⟨fun h => absurd h (by omega), fun _ => ?_⟩
  repeat refine st mo ?_
  refine ⟨fun h => absurd h (by omega), fun _ => ?_⟩
  repeat refine st mo ?_
  refine ⟨fun h => absurd h (by omega), fun _ => ?_⟩
  repeat refine st mo ?_
  refine ⟨fun _ => ?_, fun h => absurd hk h⟩
  repeat refine st mo ?_
  refine ⟨_, fun _ => r_call (t := .int .i64 4) rfl rfl Tryz.func94 (fun W M E => hql ▸ d_level x W), st mo ?_⟩
  repeat refine st mo ?_
  refine ⟨fun h => absurd h (by decide), fun _ => ?_⟩
  repeat refine st mo ?_
  refine ⟨_, fun nn => r_q t (qps t (wXg r (if lvo x.op = 4 then 5 else lvo x.op) y)) rfl (d_within t x y 0 (if lvo x.op = 4 then 5 else lvo x.op) 4 r (by rw [hlv]; rfl) (by rw [ha]; rfl) (by omega) X' (hE.xf hX)) (by exact fitL_cons fp (fitL_cons fv (fitL_cons fv (fitL_cons fv (by rfl))))) (fn := Tryz.f93), st mo ?_⟩
  have ht1 := qps_size (t := t) (by omega) oky
  generalize qps t (wXg r (if lvo x.op = 4 then 5 else lvo x.op) y) = t1 at *
  repeat refine st mo ?_
  refine ⟨_, fun _ => r_c (tc := .tuple #[.slice (some ⟨2, 0, none⟩) 2 1, .slice (some ⟨3, 0, none⟩) 2 1]) [] [some (osV (opS 4)), some (oiV (opL 4))] [2, 3] rfl rfl (c_ops4 X') (by exact fitL_cons fv (by rfl)) trivial (ut2 us us) ⟨ul rfl rfl, ul rfl rfl, trivial⟩, st mo ?_⟩
  repeat refine st mo ?_
  refine w_loop (fun j : Nat => ⟨⟨88, [(0, P0), (3, .pointer (some ⟨1, 0, none⟩)), (4, .int .i64 4), (6, .slice (some ⟨2, 0, none⟩) 2 1), (7, .slice (some ⟨3, 0, none⟩) 2 1), (8, .int .i64 (j : Int))]⟩, [(0 + 4096, none), (0, some (q0 (if x.op ∈ (opL 4).take j then qps t1 [opW x.op] else t1))), (1, some (x.c.map rel1)), (2, some (osV (opS 4))), (3, some (oiV (opL 4)))], 4, X'⟩) (fun j => j <= 2) (fun j => 2 - j) 0 (Nat.zero_le _) [0, 1, 2, 3] ⟨rfl, ⟨fp, fp, fv, fs, fs, fv, trivial⟩, ⟨trivial, fl rfl (q0_pur _), flr rfl, fl rfl rfl, fl rfl rfl, trivial⟩, xf, rfl, rfl⟩ ?_
  intro j hj
  repeat refine st mo ?_
  refine ⟨fun hlt2 => ?_, fun hge2 => ?_⟩
  · have hjl : j < (opL 4).length := by show j < 2; omega
    obtain ⟨u, hu⟩ : ∃ u, (opL 4)[j]? = some u := ⟨_, List.getElem?_eq_getElem hjl⟩
    have htk : (opL 4).take (j + 1) = (opL 4).take j ++ [u] := by rw [List.take_add_one, hu]; rfl
    repeat refine st mo ?_
    refine ⟨j, rfl, by omega, st mo ⟨_, oiV_at hu, st mo ?_⟩⟩
    repeat refine st mo ?_
    refine ⟨fun h4 => ?_, fun h4 => ?_⟩
    · have hno : x.op ∉ (opL 4).take j := by rw [← h4]; exact nd_take (opL_nd 4) hu
      have hS : (opS 4)[j]? = some (opW x.op) := opS_at (by rw [← h4]; exact hu)
      have hyes : x.op ∈ (opL 4).take (j + 1) := by rw [htk, h4]; simp
      rw [if_neg hno]
      repeat refine st mo ?_
      refine ⟨dk, st mo ?_⟩
      refine ⟨j, rfl, by omega, st mo ⟨_, osV_at hS, st mo ?_⟩⟩
      repeat refine st mo ?_
      refine ⟨_, fun nn => r_qp t1 [opW x.op] 4 ht1 (one_ok okw), st mo ?_⟩
      repeat refine st mo ?_
      refine ⟨_, wz (j + 1) rfl, st mo ?_⟩
      exact ⟨j + 1, by omega, by show 2 - (j + 1) < 2 - j; omega, [0, 1, 2, 3], rfl, ⟨fp, fp, fv, fs, fs, fv, trivial⟩, ⟨trivial, by simp only [if_pos hyes]; exact fl rfl (q0_pur _), flr rfl, fl rfl rfl, fl rfl rfl, trivial⟩, xf, rfl, rfl⟩
    · repeat refine st mo ?_
      refine ⟨dk, st mo ?_⟩
      repeat refine st mo ?_
      refine ⟨_, wz (j + 1) rfl, st mo ?_⟩
      have hsm : (x.op ∈ (opL 4).take (j + 1)) = (x.op ∈ (opL 4).take j) := by rw [htk]; simp; intro h; exact absurd h.symm h4
      exact ⟨j + 1, by omega, by show 2 - (j + 1) < 2 - j; omega, [0, 1, 2, 3], rfl, ⟨fp, fp, fv, fs, fs, fv, trivial⟩, ⟨trivial, by simp only [hsm]; exact fl rfl (q0_pur _), flr rfl, fl rfl rfl, fl rfl rfl, trivial⟩, xf, rfl, rfl⟩
  · have hall : x.op ∈ (opL 4).take j := by rw [List.take_of_length_le (by show 2 <= j; omega)]; exact hop
    rw [if_pos hall]
    have ht2 := qps_size ht1 (one_ok okw)
    generalize qps t1 [opW x.op] = t2 at *
    repeat refine st mo ?_
    refine ⟨_, wz (4 + 1) rfl, st mo ?_⟩
    repeat refine st mo ?_
    refine ⟨_, fun nn => r_q t2 (qps t2 (wXg r (lvo x.op + 1) z)) rfl (d_within t2 x z 1 (lvo x.op + 1) (4 + 1) r (by rw [hlv]; rfl) (by rw [ha]; rfl) ht2 X' (hE.xf hX)) (by exact fitL_cons fp (fitL_cons fv (fitL_cons fv (fitL_cons fv (by rfl))))) (fn := Tryz.f93), st mo ?_⟩
    repeat refine st mo ?_
    exact ⟨rfl, [0], ft0, ⟨trivial, fl rfl (q0_pur _), trivial⟩, rfl, rfl⟩
theorem lvo_5 {op : Int} (h : op ∈ opL 5) : lvo op = 5 + 1 := by simp [opL] at h; unfold lvo; repeat' split <;> omega
set_option maxHeartbeats 2000000 in
set_option maxRecDepth 20000 in
theorem d_bin5 (t : ByteArray) (x y z : Ex) (r : Ex -> List ByteArray) (hk : x.k = 5) (ha : x.a = [y, z]) (hop : x.op ∈ opL 5) (hop2 : 1 <= x.op /\ x.op <= 11) (ht : t.size <= 16384) (X : World) (hE : EachQ X x.p x.a r) : CQ X 38 [P0, x.y] t (wXg r (if lvo x.op = 4 then 5 else lvo x.op) y ++ ([opW x.op] ++ wXg r (lvo x.op + 1) z)) := by
  have hlv := lvo_5 hop
  have hql : qlv x = 5 := by unfold qlv; rw [if_neg (by omega), if_neg (by omega), if_pos hk]; exact (opL_lev hop).1
  have oky := wXg_ok (least := if lvo x.op = 4 then 5 else lvo x.op) (hE 0 y (by rw [ha]; rfl)).2.1
  have okz := wXg_ok (least := lvo x.op + 1) (hE 1 z (by rw [ha]; rfl)).2.1
  have okw := opw_ok (op := x.op) (by omega) (by omega)
  unfold CQ
  rw [qps_app, qps_app]
  refine fn_c _ Tryz.func38 rfl rfl rfl rfl (fun w l tw X' hX => run_ok (st mo ?_))
  have hq := q0_s (t := t) ht
  repeat refine st mo ?_
  refine ⟨_, by rw [hq]; rfl, st mo ?_⟩
  repeat refine st mo ?_
  refine ⟨fun h => absurd h (by omega), fun _ => ?_⟩
  repeat refine st mo ?_
  refine ⟨fun h => absurd h (by omega), fun _ => ?_⟩
  repeat refine st mo ?_
  refine ⟨fun h => absurd h (by omega), fun _ => ?_⟩
  repeat refine st mo ?_
  refine ⟨fun h => absurd h (by omega), fun _ => ?_⟩
  repeat refine st mo ?_
  refine ⟨fun _ => ?_, fun h => absurd hk h⟩
  repeat refine st mo ?_
  refine ⟨_, fun _ => r_call (t := .int .i64 5) rfl rfl Tryz.func94 (fun W M E => hql ▸ d_level x W), st mo ?_⟩
  repeat refine st mo ?_
  refine ⟨fun h => absurd h (by decide), fun _ => ?_⟩
  repeat refine st mo ?_
  refine ⟨_, fun nn => r_q t (qps t (wXg r (if lvo x.op = 4 then 5 else lvo x.op) y)) rfl (d_within t x y 0 (if lvo x.op = 4 then 5 else lvo x.op) 5 r (by rw [hlv]; rfl) (by rw [ha]; rfl) (by omega) X' (hE.xf hX)) (by exact fitL_cons fp (fitL_cons fv (fitL_cons fv (fitL_cons fv (by rfl))))) (fn := Tryz.f93), st mo ?_⟩
  have ht1 := qps_size (t := t) (by omega) oky
  generalize qps t (wXg r (if lvo x.op = 4 then 5 else lvo x.op) y) = t1 at *
  repeat refine st mo ?_
  refine ⟨_, fun _ => r_c (tc := .tuple #[.slice (some ⟨2, 0, none⟩) 1 1, .slice (some ⟨3, 0, none⟩) 1 1]) [] [some (osV (opS 5)), some (oiV (opL 5))] [2, 3] rfl rfl (c_ops5 X') (by exact fitL_cons fv (by rfl)) trivial (ut2 us us) ⟨ul rfl rfl, ul rfl rfl, trivial⟩, st mo ?_⟩
  repeat refine st mo ?_
  refine w_loop (fun j : Nat => ⟨⟨88, [(0, P0), (3, .pointer (some ⟨1, 0, none⟩)), (4, .int .i64 5), (6, .slice (some ⟨2, 0, none⟩) 1 1), (7, .slice (some ⟨3, 0, none⟩) 1 1), (8, .int .i64 (j : Int))]⟩, [(0 + 4096, none), (0, some (q0 (if x.op ∈ (opL 5).take j then qps t1 [opW x.op] else t1))), (1, some (x.c.map rel1)), (2, some (osV (opS 5))), (3, some (oiV (opL 5)))], 4, X'⟩) (fun j => j <= 1) (fun j => 1 - j) 0 (Nat.zero_le _) [0, 1, 2, 3] ⟨rfl, ⟨fp, fp, fv, fs, fs, fv, trivial⟩, ⟨trivial, fl rfl (q0_pur _), flr rfl, fl rfl rfl, fl rfl rfl, trivial⟩, xf, rfl, rfl⟩ ?_
  intro j hj
  repeat refine st mo ?_
  refine ⟨fun hlt2 => ?_, fun hge2 => ?_⟩
  · have hjl : j < (opL 5).length := by show j < 1; omega
    obtain ⟨u, hu⟩ : ∃ u, (opL 5)[j]? = some u := ⟨_, List.getElem?_eq_getElem hjl⟩
    have htk : (opL 5).take (j + 1) = (opL 5).take j ++ [u] := by rw [List.take_add_one, hu]; rfl
    repeat refine st mo ?_
    refine ⟨j, rfl, by omega, st mo ⟨_, oiV_at hu, st mo ?_⟩⟩
    repeat refine st mo ?_
    refine ⟨fun h4 => ?_, fun h4 => ?_⟩
    · have hno : x.op ∉ (opL 5).take j := by rw [← h4]; exact nd_take (opL_nd 5) hu
      have hS : (opS 5)[j]? = some (opW x.op) := opS_at (by rw [← h4]; exact hu)
      have hyes : x.op ∈ (opL 5).take (j + 1) := by rw [htk, h4]; simp
      rw [if_neg hno]
      repeat refine st mo ?_
      refine ⟨dk, st mo ?_⟩
      refine ⟨j, rfl, by omega, st mo ⟨_, osV_at hS, st mo ?_⟩⟩
      repeat refine st mo ?_
      refine ⟨_, fun nn => r_qp t1 [opW x.op] 4 ht1 (one_ok okw), st mo ?_⟩
      repeat refine st mo ?_
      refine ⟨_, wz (j + 1) rfl, st mo ?_⟩
      exact ⟨j + 1, by omega, by show 1 - (j + 1) < 1 - j; omega, [0, 1, 2, 3], rfl, ⟨fp, fp, fv, fs, fs, fv, trivial⟩, ⟨trivial, by simp only [if_pos hyes]; exact fl rfl (q0_pur _), flr rfl, fl rfl rfl, fl rfl rfl, trivial⟩, xf, rfl, rfl⟩
    · repeat refine st mo ?_
      refine ⟨dk, st mo ?_⟩
      repeat refine st mo ?_
      refine ⟨_, wz (j + 1) rfl, st mo ?_⟩
      have hsm : (x.op ∈ (opL 5).take (j + 1)) = (x.op ∈ (opL 5).take j) := by rw [htk]; simp; intro h; exact absurd h.symm h4
      exact ⟨j + 1, by omega, by show 1 - (j + 1) < 1 - j; omega, [0, 1, 2, 3], rfl, ⟨fp, fp, fv, fs, fs, fv, trivial⟩, ⟨trivial, by simp only [hsm]; exact fl rfl (q0_pur _), flr rfl, fl rfl rfl, fl rfl rfl, trivial⟩, xf, rfl, rfl⟩
  · have hall : x.op ∈ (opL 5).take j := by rw [List.take_of_length_le (by show 1 <= j; omega)]; exact hop
    rw [if_pos hall]
    have ht2 := qps_size ht1 (one_ok okw)
    generalize qps t1 [opW x.op] = t2 at *
    repeat refine st mo ?_
    refine ⟨_, wz (5 + 1) rfl, st mo ?_⟩
    repeat refine st mo ?_
    refine ⟨_, fun nn => r_q t2 (qps t2 (wXg r (lvo x.op + 1) z)) rfl (d_within t2 x z 1 (lvo x.op + 1) (5 + 1) r (by rw [hlv]; rfl) (by rw [ha]; rfl) ht2 X' (hE.xf hX)) (by exact fitL_cons fp (fitL_cons fv (fitL_cons fv (fitL_cons fv (by rfl))))) (fn := Tryz.f93), st mo ?_⟩
    repeat refine st mo ?_
    exact ⟨rfl, [0], ft0, ⟨trivial, fl rfl (q0_pur _), trivial⟩, rfl, rfl⟩
theorem opL_in {op : Int} (h : 1 <= op /\ op <= 11) : op ∈ opL 0 ∨ op ∈ opL 1 ∨ op ∈ opL 3 ∨ op ∈ opL 4 ∨ op ∈ opL 5 := by simp [opL]; omega
theorem qlv_lv {x : Ex} (hn : nde x = true) : qlv x = lv x - 1 := by
  unfold qlv lv
  split
  · rfl
  · split
    · rfl
    · split
      · rename_i h5
        rw [nde5 h5] at hn
        simp at hn
        unfold qlo lvo
        repeat' split
        all_goals omega
      · rfl
set_option maxHeartbeats 1000000 in
set_option maxRecDepth 20000 in
theorem d_bare (t : ByteArray) (x : Ex) (r : Ex -> List ByteArray) (hn : nde x = true) (hx : x.ok) (ht : t.size <= 40000) (X : World) (hE : EachQ X x.p x.a r) : CQ X 38 [P0, x.y] t (wBg r x) := by
  rcases Nat.lt_or_ge 16384 t.size with hl | hl
  · unfold CQ
    rw [qps_long hl]
    refine fn_c _ Tryz.func38 rfl rfl rfl rfl (fun w l tw X' hX => run_ok (st mo ?_))
    have hq := q0_l hl
    repeat refine st mo ?_
    refine ⟨_, by rw [hq]; rfl, st mo ?_⟩
    repeat refine st mo ?_
    exact ⟨rfl, [0], ft0, ⟨trivial, fl rfl (q0_pur _), trivial⟩, rfl, rfl⟩
  have hkk := nde_k hn
  by_cases h5 : x.k = 5
  · rw [nde5 h5] at hn
    simp at hn
    obtain ⟨y, z, ha⟩ := len2 hn.2.1
    rw [wB5 r h5 ha]
    rcases opL_in hn.1 with h | h | h | h | h
    · exact d_bin0 t x y z r h5 ha h hn.1 hl X hE
    · exact d_bin1 t x y z r h5 ha h hn.1 hl X hE
    · exact d_bin3 t x y z r h5 ha h hn.1 hl X hE
    · exact d_bin4 t x y z r h5 ha h hn.1 hl X hE
    · exact d_bin5 t x y z r h5 ha h hn.1 hl X hE
  have hok := wBg_ok (r := r) hn (fun y hy => by obtain ⟨j, hj⟩ := List.mem_iff_getElem?.1 hy; exact (hE j y hj).2.1)
  refine fn_c _ Tryz.func38 rfl rfl rfl rfl (fun w l tw X' hX => run_ok (st mo ?_))
  have hq := q0_s hl
  repeat refine st mo ?_
  refine ⟨_, by rw [hq]; rfl, st mo ?_⟩
  repeat refine st mo ?_
  refine ⟨fun h1 => ?_, fun h1 => ?_⟩
  · rw [wB1 r h1]
    have hc : cst x.v = true := by rw [nde1 h1] at hn; simp at hn; exact hn.1
    repeat refine st mo ?_
    refine ⟨_, fun nn => r_q t (qps t [cw x.v]) rfl (d_value t x.v hx.1 hc ht X') (by exact fitL_cons fp (fitL_cons fv (by rfl))) (fn := Tryz.f92), st mo ?_⟩
    repeat refine st mo ?_
    exact ⟨rfl, [0], ft0, ⟨trivial, fl rfl (q0_pur _), trivial⟩, rfl, rfl⟩
  repeat refine st mo ?_
  refine ⟨fun h2 => ?_, fun h2 => ?_⟩
  · rw [wB2 r h2]
    have hc : fre x.nm = true := by rw [nde2 h2] at hn; simp at hn; exact hn.1
    repeat refine st mo ?_
    refine ⟨_, fun nn => r_qp t [x.nm] 2 ht (one_ok (fre_ok hc)), st mo ?_⟩
    repeat refine st mo ?_
    exact ⟨rfl, [0], ft0, ⟨trivial, fl rfl (q0_pur _), trivial⟩, rfl, rfl⟩
  repeat refine st mo ?_
  refine ⟨fun h3 => ?_, fun h3 => ?_⟩
  · have ha : x.a.length = 1 := by rw [nde3 (x := x) (by omega)] at hn; simp at hn; exact hn.1
    obtain ⟨y, ha⟩ := len1 ha
    rw [wB3 r h3 ha, qps_app]
    have hso : ∀ w ∈ [Mns], wok w := (one_ok sym_ok)
    repeat refine st mo ?_
    refine ⟨_, fun nn => r_qp t [Mns] 2 ht hso, st mo ?_⟩
    have ht1 := qps_size ht hso
    generalize qps t [Mns] = t1 at *
    repeat refine st mo ?_
    refine ⟨_, fun nn => r_q t1 (qps t1 (wXg r 7 y)) rfl (d_within t1 x y 0 7 6 r rfl (by rw [ha]; rfl) ht1 X' (hE.xf hX)) (by exact fitL_cons fp (fitL_cons fv (fitL_cons fv (fitL_cons fv (by rfl))))) (fn := Tryz.f93), st mo ?_⟩
    repeat refine st mo ?_
    exact ⟨rfl, [0], ft0, ⟨trivial, fl rfl (q0_pur _), trivial⟩, rfl, rfl⟩
  repeat refine st mo ?_
  refine ⟨fun h4 => ?_, fun h4 => ?_⟩
  · have ha : x.a.length = 1 := by rw [nde3 (x := x) (by omega)] at hn; simp at hn; exact hn.1
    obtain ⟨y, ha⟩ := len1 ha
    rw [wB4 r h4 ha, qps_app]
    have hso : ∀ w ∈ [NotW], wok w := (one_ok ⟨by decide, by decide⟩)
    repeat refine st mo ?_
    refine ⟨_, fun nn => r_qp t [NotW] 2 ht hso, st mo ?_⟩
    have ht1 := qps_size ht hso
    generalize qps t [NotW] = t1 at *
    repeat refine st mo ?_
    refine ⟨_, fun nn => r_q t1 (qps t1 (wXg r 3 y)) rfl (d_within t1 x y 0 3 2 r rfl (by rw [ha]; rfl) ht1 X' (hE.xf hX)) (by exact fitL_cons fp (fitL_cons fv (fitL_cons fv (fitL_cons fv (by rfl))))) (fn := Tryz.f93), st mo ?_⟩
    repeat refine st mo ?_
    exact ⟨rfl, [0], ft0, ⟨trivial, fl rfl (q0_pur _), trivial⟩, rfl, rfl⟩
  repeat refine st mo ?_
  refine ⟨fun h => absurd h h5, fun _ => ?_⟩
  repeat refine st mo ?_
  refine ⟨_, fun nn => r_q t (qps t (wBg r x)) rfl (d_call t x r (by omega) hn ht X' (hE.xf hX)) (by exact fitL_cons fp (fitL_cons fv (by rfl))) (fn := Tryz.f95), st mo ?_⟩
  repeat refine st mo ?_
  exact ⟨rfl, [0], ft0, ⟨trivial, fl rfl (q0_pur _), trivial⟩, rfl, rfl⟩
theorem d_expr : ∀ (d : Nat) (t : ByteArray) (x : Ex) (X : World), LT X d x -> vE d x = true -> t.size <= 40000 -> CQ X 38 [P0, x.y] t (wB d x) := by
  intro d
  induction d with
  | zero =>
    intro t x X hL hv ht
    exact d_bare t x (fun _ => []) hv hL.1 ht X fun i y hy => by rw [hL.2] at hy; cases hy
  | succ d ih =>
    intro t x X hL hv ht
    have hv' : nde x = true /\ x.a.all (vE d) = true := by simpa [vE] using hv
    refine d_bare t x (wB d) hv'.1 hL.1 ht X fun i y hy => ?_
    obtain ⟨h1, h2⟩ := hL.2 i y hy
    have hvy := List.all_eq_true.1 hv'.2 y (List.mem_of_getElem? hy)
    have hny : nde y = true := by cases d with
      | zero => exact hvy
      | succ d => have : nde y = true /\ y.a.all (vE d) = true := by simpa [vE] using hvy
                  exact this.1
    exact ⟨h1, wBd_ok h2 hvy, qlv_lv hny, fun X' t hX ht => ih t y X' (h2.xf hX) hvy ht⟩
def Sam (s : Ws) (t : ByteArray) : Prop := (s.n <= 16384 -> t = s.t /\ s.t.size = s.n) /\ (16384 < s.n -> 16384 < t.size)
theorem Sam.one {s : Ws} {t w : ByteArray} (h : Sam s t) (hw : wok w) : Sam (wp1 s w) (qp1 t w) := by
  obtain ⟨h1, h2⟩ := h
  have hw1 := hw.1
  have hw2 := hw.2
  rcases Nat.lt_or_ge 16384 s.n with hn | hn
  · have ht := h2 hn
    have e : qp1 t w = t := if_pos ht
    have hb : 16384 < (wp1 s w).n := by
      unfold wp1; split
      · show 16384 < s.n + w.size; omega
      · show 16384 < s.n + 1 + w.size; omega
    rw [e]
    exact ⟨fun h => absurd h (by omega), fun _ => ht⟩
  · obtain ⟨rfl, hsz⟩ := h1 hn
    have e : qp1 s.t w = (if s.t.size = 0 then s.t else s.t ++ Spc) ++ w := by unfold qp1; rw [if_neg (by omega)]
    rw [e, hsz]
    unfold wp1
    by_cases h0 : s.n = 0
    · rw [if_pos h0, if_pos h0]
      have et : (wad s w).t = s.t ++ w := by unfold wad; rw [if_pos (by omega)]
      have en : (wad s w).n = s.n + w.size := rfl
      refine ⟨fun _ => ⟨et.symm, by rw [et, en, ByteArray.size_append]; omega⟩, fun h => by rw [en] at h; omega⟩
    · rw [if_neg h0, if_neg h0]
      have en : (wad (wad s Spc) w).n = s.n + 1 + w.size := rfl
      refine ⟨fun h => ?_, fun h => ?_⟩
      · rw [en] at h
        have et : (wad (wad s Spc) w).t = s.t ++ Spc ++ w := by
          have e1 : (wad s Spc).t = s.t ++ Spc := if_pos (by show s.n + 1 <= 16384; omega)
          have : (wad (wad s Spc) w).t = (wad s Spc).t ++ w := if_pos (by show s.n + 1 + w.size <= 16384; omega)
          rw [this, e1]
        exact ⟨et.symm, by rw [et, en, ByteArray.size_append, ByteArray.size_append, show Spc.size = 1 from rfl]; omega⟩
      · rw [en] at h
        rw [ByteArray.size_append, ByteArray.size_append, show Spc.size = 1 from rfl]; omega
theorem Sam.all : ∀ {l : List ByteArray} {s : Ws} {t : ByteArray}, Sam s t -> (∀ w ∈ l, wok w) -> Sam (wps s l) (qps t l)
  | [], _, _, h, _ => h
  | w :: l, s, t, h, hw => Sam.all (s := wp1 s w) (t := qp1 t w) (h.one (hw w (by simp))) fun x hx => hw x (by simp [hx])
theorem wps_pos {l : List ByteArray} {s : Ws} (hl : l ≠ []) (hw : ∀ w ∈ l, wok w) : 1 <= (wps s l).n := by
  have mono : ∀ (l : List ByteArray) (s : Ws), s.n <= (wps s l).n := by
    intro l
    induction l with
    | nil => intro s; exact Nat.le_refl _
    | cons w l ih =>
      intro s
      have h1 := ih (wp1 s w)
      have : s.n <= (wp1 s w).n := by
        unfold wp1; split
        · show s.n <= s.n + w.size; omega
        · show s.n <= s.n + 1 + w.size; omega
      show s.n <= (wps (wp1 s w) l).n
      omega
  match l, hl, hw with
  | w :: l, _, hw =>
    have h1 := mono l (wp1 s w)
    have hw1 := (hw w (by simp)).1
    have : 1 <= (wp1 s w).n := by
      unfold wp1; split
      · show 1 <= s.n + w.size; omega
      · show 1 <= s.n + 1 + w.size; omega
    show 1 <= (wps (wp1 s w) l).n
    omega
def tldP (s : Ws) : Value := if 16384 < s.n then .tuple #[.string E0, .int .i64 3] else .tuple #[.string s.t, .int .i64 0]
def tldQ (t : ByteArray) : Value := if 16384 < t.size then .tuple #[.string E0, .int .i64 3] else .tuple #[.string t, .int .i64 0]
theorem Sam.told {s : Ws} {t : ByteArray} (h : Sam s t) : tldP s = tldQ t := by
  unfold tldP tldQ
  rcases Nat.lt_or_ge 16384 s.n with hn | hn
  · rw [if_pos hn, if_pos (h.2 hn)]
  · obtain ⟨rfl, h2⟩ := h.1 hn
    rw [if_neg (by omega), if_neg (by omega)]
theorem Sam.nil (J : List Value) : Sam ⟨E0, 0, J⟩ E0 := ⟨fun _ => ⟨rfl, rfl⟩, fun h => absurd h (by show ¬ 16384 < 0; omega)⟩
theorem wB_ne {d : Nat} {x : Ex} : wB d x ≠ [] := by
  have key : ∀ (r : Ex -> List ByteArray), wBg r x ≠ [] := by
    intro r
    unfold wBg colw
    repeat' split
    all_goals simp
  cases d <;> exact key _
theorem wX_ne {d : Nat} {least : Int} {x : Ex} : wX d least x ≠ [] := by
  unfold wX wXg brk; split
  · simp
  · exact wB_ne
theorem fbF {σ : List Nat} : fitV σ (.bool false) litF := fun k w hw => by
  rw [hw.bool_inv]; exact VX.litF
def shP (d : Nat) (x : Ex) (s : Ws) : Value := if vE d x then tldP (wps s (wX d 1 x)) else .tuple #[.string E0, .int .i64 81]
def shQ (d : Nat) (x : Ex) : Value := if vE d x then tldQ (qps E0 (wB d x)) else .tuple #[.string E0, .int .i64 81]
theorem lv_pos {x : Ex} : 1 <= lv x := by unfold lv lvo; repeat' split <;> omega
theorem wX1 {d : Nat} {x : Ex} : wX d 1 x = wB d x := by
  have := lv_pos (x := x)
  unfold wX wXg brk
  rw [decide_eq_false (by omega)]; rfl
theorem c_show (d : Nat) (x : Ex) (X : World) (hL : LT X d x) (J : List Value) : shP d x ⟨E0, 0, J⟩ = shQ d x := by
  unfold shP shQ
  cases hv : vE d x with
  | false => rfl
  | true =>
    rw [if_pos rfl, if_pos rfl, wX1]
    exact ((Sam.nil J).all (wBd_ok hL hv)).told
set_option maxRecDepth 20000 in
theorem q_show (d : Nat) (x : Ex) (w : World) (hL : LT w d x) : Calls Tryz.prog 15 #[x.w] w fun e W => e = .returned (shQ d x) /\ Mb w W := by
  refine fn_pure [x.y] Tryz.func15 rfl rfl rfl (run_ok (st mo ?_))
  repeat refine st mo ?_
  cases hv : vE d x with
  | false =>
    have e : shQ d x = .tuple #[.string E0, .int .i64 81] := by unfold shQ; rw [hv]; rfl
    rw [e]
    refine ⟨_, fun _ => r_call (t := litF) rfl rfl Tryz.func37 (fun W M E => hv ▸ q_exp d x W (hL.mono E)), st mo ?_⟩
    repeat refine st mo ?_
    rfl
  | true =>
    have e : shQ d x = tldQ (qps E0 (wB d x)) := by unfold shQ; rw [hv]; rfl
    rw [e]
    refine ⟨_, fun _ => r_call (t := litT) rfl rfl Tryz.func37 (fun W M E => hv ▸ q_exp d x W (hL.mono E)), st mo ?_⟩
    repeat refine st mo ?_
    refine ⟨_, fun _ => r_c (tc := .tuple #[]) [1] [some (q0 (qps E0 (wB d x)))] [1] rfl rfl (d_expr d E0 x w hL hv (by show 0 <= 40000; omega)) (by exact fitL_cons fp (fitL_cons fv (by rfl))) ⟨trivial, fitL_cons fv (fitL_cons fbF (by rfl)), trivial⟩ ut0 ⟨ul rfl (q0_pur _), trivial⟩, st mo ?_⟩
    generalize qps E0 (wB d x) = t at *
    repeat refine st mo ?_
    rcases Nat.lt_or_ge 16384 t.size with hl | hl
    · rw [show tldQ t = .tuple #[.string E0, .int .i64 3] from if_pos hl]
      have hq := q0_l hl
      refine ⟨_, by rw [hq]; rfl, st mo ?_⟩
      repeat refine st mo ?_
      rfl
    · rw [show tldQ t = .tuple #[.string t, .int .i64 0] from if_neg (by omega)]
      have hq := q0_s hl
      refine ⟨_, by rw [hq]; rfl, st mo ?_⟩
      repeat refine st mo ?_
      refine ⟨_, by rw [hq]; rfl, st mo ?_⟩
      repeat refine st mo ?_
      rfl
theorem ws0_ok {J : List Value} (h : J.all pur1 = true) : Ws.ok ⟨E0, 0, J⟩ := ⟨h, ⟨by show 0 <= 16384; omega, Nat.le_refl 0⟩, Or.inl ⟨rfl, rfl⟩⟩
theorem wXd_ok {d : Nat} {X : World} {least : Int} {x : Ex} (hL : LT X d x) (hv : vE d x = true) : ∀ w ∈ wX d least x, wok w := wXg_ok (wBd_ok hL hv)
set_option maxHeartbeats 1000000 in
set_option maxRecDepth 20000 in
theorem p_show (d : Nat) (x : Ex) (w : World) (hL : LT w d x) (hG : TG w) (hb : vE d x = true -> wln (wX d 1 x) <= 4611686018427387904) : Calls Tryz.prog 14 #[x.w] w fun e W => e = .returned (shP d x ⟨E0, 0, x.c.map rel1⟩) /\ Mb w W := by
  refine fn_pure [x.y] Tryz.func14 rfl rfl rfl (wc_seq (run_ok (st mo ?_)))
  show WC _ _ _ _ _
  refine wc_seq (run_ok (st mo ?_))
  repeat refine st mo ?_
  cases hv : vE d x with
  | false =>
    have e : shP d x ⟨E0, 0, x.c.map rel1⟩ = .tuple #[.string E0, .int .i64 81] := by unfold shP; rw [hv]; rfl
    rw [e]
    refine ⟨_, fun _ => r_call (t := litF) rfl rfl Tryz.func35 (fun W M E => hv ▸ p_exp d x W (hL.mono E)), st mo ?_⟩
    repeat refine st mo ?_
    rfl
  | true =>
    have e : shP d x ⟨E0, 0, x.c.map rel1⟩ = tldP (wps ⟨E0, 0, x.c.map rel1⟩ (wX d 1 x)) := by unfold shP; rw [hv]; rfl
    rw [e]
    refine ⟨_, fun _ => r_call (t := litT) rfl rfl Tryz.func35 (fun W M E => hv ▸ p_exp d x W (hL.mono E)), st mo ?_⟩
    repeat refine st mo ?_
    show WC _ _ _ _ _
    have hs0 : Ws.ok ⟨E0, 0, x.c.map rel1⟩ := ws0_ok (by simp [pur_rel1])
    have hok := wXd_ok (least := 1) hL hv
    have hb := hb hv
    refine wc_al (T := 95) (N := 3) (d := 4) ⟨⟨13, [(1, .pointer (some ⟨1, 0, none⟩)), (4, P0)]⟩, [(0 + 4096, none), (0, some (c0 1 ⟨E0, 0, x.c.map rel1⟩)), (1, some (x.c.map rel1))], 2, w⟩ [1, 0] rfl rfl rfl rfl ⟨rfl, ⟨fp, fp, trivial⟩, ⟨trivial, fitL_cons fv (fitL_cons fnS (fitL_cons fv (by rfl))), flr rfl, trivial⟩, xf, rfl, rfl⟩ ?_
    intro l tw hT
    refine run_ok (st mo ?_)
    repeat refine st mo ?_
    refine ⟨_, fun nn => r_w ⟨E0, 0, x.c.map rel1⟩ (wps ⟨E0, 0, x.c.map rel1⟩ (wX d 1 x)) 1 rfl hT (cw_expr d ⟨E0, 0, x.c.map rel1⟩ x 1 w hL hv hG hs0 (by show 0 + wln _ <= _; omega)) hs0 (wps_ok hs0 hok) (by exact fitL_cons fp (fitL_cons fv (fitL_cons fv (by rfl)))) (fn := Tryz.f36), st mo ?_⟩
    have hs1 := wps_ok hs0 hok
    have hn1 := wps_pos (s := ⟨E0, 0, x.c.map rel1⟩) wX_ne hok
    generalize wps ⟨E0, 0, x.c.map rel1⟩ (wX d 1 x) = s1 at *
    repeat refine st mo ?_
    rcases Nat.lt_or_ge 16384 s1.n with hl | hl
    · rw [show tldP s1 = .tuple #[.string E0, .int .i64 3] from if_pos hl]
      refine ⟨_, fun _ => r_c (tc := .tuple #[.string E0, .int .i64 3]) [0, 2] [] [] rfl rfl (c_told_no s1 hl w) (by exact fitL_cons fp (by rfl)) ⟨trivial, c0_fit s1, trivial, fl rfl (c1_pur hs1), trivial⟩ uv trivial, st mo ?_⟩
      repeat refine st mo ?_
      rfl
    · rw [show tldP s1 = .tuple #[.string s1.t, .int .i64 0] from if_neg (by omega)]
      refine ⟨_, fun _ => r_c (tc := .tuple #[.string s1.t, .int .i64 0]) [0, 2] [] [] rfl rfl (c_told s1 hs1 (by rcases hs1.2.2 with h | h <;> omega) hl w) (by exact fitL_cons fp (by rfl)) ⟨trivial, c0_fit s1, trivial, fl rfl (c1_pur hs1), trivial⟩ uv trivial, st mo ?_⟩
      repeat refine st mo ?_
      rfl
set_option maxRecDepth 20000 in
theorem c_eqf_false (p : Option Addr) (n cl : Nat) (h : n ≠ 0) (X : World) : Ctr Tryz.prog X 53 [raw (.slice p n cl), .slice none 0 0, fnv 19] [] 0 0 litF [] 0 := by
  refine fn_c _ Tryz.func53 rfl rfl rfl rfl (fun w ll tw X' hX => run_ok (st mo ?_))
  repeat refine st mo ?_
  refine ⟨fun h1 => ?_, fun h1 => absurd h1 (by omega)⟩
  repeat refine st mo ?_
  exact ⟨rfl, [], fv, trivial, rfl, rfl⟩
set_option maxRecDepth 20000 in
theorem c_eqf_true (p : Option Addr) (cl : Nat) (X : World) : Ctr Tryz.prog X 53 [raw (.slice p 0 cl), .slice none 0 0, fnv 19] [] 0 0 litT [] 0 := by
  refine fn_c _ Tryz.func53 rfl rfl rfl rfl (fun w ll tw X' hX => run_ok (st mo ?_))
  repeat refine st mo ?_
  refine ⟨fun h1 => absurd rfl h1, fun h1 => ?_⟩
  repeat refine st mo ?_
  refine w_loop (fun i : Nat => ⟨⟨32, [(15, raw (.slice p 0 cl)), (16, .int .i64 0), (17, .int .i64 (i : Int))]⟩, [], 0, X'⟩) (fun i => i = 0) (fun i => 0 - i) 0 rfl [] ⟨rfl, ⟨fv, fv, fv, trivial⟩, trivial, xf, rfl, rfl⟩ ?_
  intro i hi
  subst hi
  repeat refine st mo ?_
  refine ⟨fun hlt => absurd hlt (by decide), fun hge => ?_⟩
  repeat refine st mo ?_
  exact ⟨rfl, [], fv, trivial, rfl, rfl⟩
set_option maxRecDepth 20000 in
theorem p_same0 (x : Ex) (w : World) : Calls Tryz.prog 19 #[x.w, x0.w] w fun e W => e = .returned (.bool (nth x)) /\ Mb w W := by
  refine fn_pure [x.y, .agg #[.int .i64 0, .int .i64 0, .string E0, .string E0, .int .i64 0, .bool false, .int .u64 0, .int .u64 0, .int .u64 0, .int .u64 0, .int .i64 0, .bool false, .string E0, .int .i64 0, .int .i64 0, .int .i64 0, .slice none 0 0]] Tryz.func19 rfl rfl rfl (run_ok (st mo ?_))
  repeat refine st mo ?_
  cases hs : snd x x0 with
  | false =>
    refine ⟨_, fun _ => r_call (t := litF) rfl rfl Tryz.func52 (fun W M E => hs ▸ p_node x x0 W), st mo ?_⟩
    repeat refine st mo ?_
    show _ = _; unfold nth; rw [hs]; rfl
  | true =>
    refine ⟨_, fun _ => r_call (t := litT) rfl rfl Tryz.func52 (fun W M E => hs ▸ p_node x x0 W), st mo ?_⟩
    repeat refine st mo ?_
    by_cases h0 : x.a.length = 0
    · have e : nth x = true := by unfold nth; rw [hs, List.eq_nil_of_length_eq_zero h0]; rfl
      have hp : raw (.slice x.p x.a.length x.cl) = raw (.slice x.p 0 x.cl) := by rw [h0]
      refine ⟨_, fun _ => r_c (tc := litT) [] [] [] rfl rfl (c_eqf_true x.p x.cl w) (by exact fitL_cons (fv hp) (fitL_cons fv (fitL_cons (ff (l := []) (m := []) rfl) (by rfl)))) trivial uv trivial, st mo ?_⟩
      repeat refine st mo ?_
      rw [e]; rfl
    · have e : nth x = false := by unfold nth; rw [decide_eq_false (fun h => h0 (by rw [h]; rfl))]; simp
      refine ⟨_, fun _ => r_c (tc := litF) [] [] [] rfl rfl (c_eqf_false x.p x.a.length x.cl h0 w) (by exact fitL_cons fv (fitL_cons fv (fitL_cons (ff (l := []) (m := []) rfl) (by rfl)))) trivial uv trivial, st mo ?_⟩
      repeat refine st mo ?_
      rw [e]; rfl
set_option maxRecDepth 20000 in
theorem p_none (x : Ex) (w : World) : Calls Tryz.prog 143 #[x.w] w fun e W => e = .returned (.bool (nth x)) /\ Mb w W := by
  refine fn_pure [x.y] Tryz.func143 rfl rfl rfl (run_ok (st mo ?_))
  repeat refine st mo ?_
  refine ⟨_, fun _ => r_call (t := .bool (nth x)) rfl rfl Tryz.func19 (fun W M E => p_same0 x W), st mo ?_⟩
  repeat refine st mo ?_
  rfl
set_option maxRecDepth 20000 in
theorem q_none (x : Ex) (w : World) : Calls Tryz.prog 83 #[x.w] w fun e W => e = .returned (.bool (nth x)) /\ Mb w W := by
  refine fn_pure [x.y] Tryz.func83 rfl rfl rfl (run_ok (st mo ?_))
  repeat refine st mo ?_
  refine ⟨fun h1 => ?_, fun h1 => ?_⟩
  · have hsn : snd x x0 = pln x x0 := snd_k h1
    repeat refine st mo ?_
    cases hs : pln x x0 with
    | false =>
      refine ⟨_, fun _ => r_call (t := litF) rfl rfl Tryz.func29 (fun W M E => hs ▸ q_plain x x0 W), st mo ?_⟩
      repeat refine st mo ?_
      show _ = _; unfold nth; rw [hsn, hs]; rfl
    | true =>
      refine ⟨_, fun _ => r_call (t := litT) rfl rfl Tryz.func29 (fun W M E => hs ▸ q_plain x x0 W), st mo ?_⟩
      repeat refine st mo ?_
      refine ⟨fun h0 => ?_, fun h0 => ?_⟩
      · repeat refine st mo ?_
        have ha : x.a = [] := List.eq_nil_of_length_eq_zero (by omega)
        show _ = _; unfold nth; rw [hsn, hs, ha]; rfl
      · repeat refine st mo ?_
        show _ = _; unfold nth; rw [decide_eq_false (fun h => h0 (by rw [h]; rfl))]; simp
  · repeat refine st mo ?_
    show _ = _; unfold nth snd; rw [show decide (x.k = x0.k) = false from decide_eq_false h1]; rfl
def tyO (k p : Int) : Bool := if k = 1 then isI p else if k = 2 ∨ k = 3 then decide (p = 0) else false
theorem tyO1 {k p : Int} (h : k = 1) : tyO k p = isI p := if_pos h
theorem tyO2 {k p : Int} (h : k = 2 ∨ k = 3) : tyO k p = decide (p = 0) := by unfold tyO; rw [if_neg (by omega), if_pos h]
theorem tyO0 {k p : Int} (h : k ≠ 1) (h2 : ¬ (k = 2 ∨ k = 3)) : tyO k p = false := by unfold tyO; rw [if_neg h, if_neg h2]
set_option maxRecDepth 20000 in
theorem p_ty (k p : Int) (w : World) : Calls Tryz.prog 189 #[.agg #[.int .i64 k, .int .i64 p]] w fun e W => e = .returned (.bool (tyO k p)) /\ Mb w W := by
  refine fn_pure [.agg #[.int .i64 k, .int .i64 p]] Tryz.func189 rfl rfl rfl (run_ok (st mo ?_))
  repeat refine st mo ?_
  refine ⟨fun h1 => ?_, fun h1 => ?_⟩
  · repeat refine st mo ?_
    refine ⟨_, fun _ => r_call (t := .bool (isI p)) rfl rfl Tryz.func157 (fun W M E => p_isI rfl W), st mo ?_⟩
    repeat refine st mo ?_
    show _ = _; rw [tyO1 h1]
  repeat refine st mo ?_
  refine ⟨fun h2 => ?_, fun h2 => ?_⟩
  · repeat refine st mo ?_
    refine ⟨fun h => ?_, fun h => ?_⟩
    · repeat refine st mo ?_
      show _ = _; rw [tyO2 (Or.inl h2), decide_eq_true h]
    · repeat refine st mo ?_
      show _ = _; rw [tyO2 (Or.inl h2), decide_eq_false h]
  repeat refine st mo ?_
  refine ⟨fun h3 => ?_, fun h3 => ?_⟩
  · repeat refine st mo ?_
    refine ⟨fun h => ?_, fun h => ?_⟩
    · repeat refine st mo ?_
      show _ = _; rw [tyO2 (Or.inr h3), decide_eq_true h]
    · repeat refine st mo ?_
      show _ = _; rw [tyO2 (Or.inr h3), decide_eq_false h]
  · repeat refine st mo ?_
    show _ = _; rw [tyO0 h1 (by omega)]
set_option maxRecDepth 20000 in
theorem q_ty (k p : Int) (w : World) : Calls Tryz.prog 195 #[.agg #[.int .i64 k, .int .i64 p]] w fun e W => e = .returned (.bool (tyO k p)) /\ Mb w W := by
  refine fn_pure [.agg #[.int .i64 k, .int .i64 p]] Tryz.func195 rfl rfl rfl (run_ok (st mo ?_))
  repeat' (first | refine ⟨fun _ => ?_, fun _ => ?_⟩ | refine st mo ?_)
  all_goals (show _ = _; unfold tyO isI; congr 1; simp; try (split <;> omega))
structure Itm where
  nm : ByteArray
  k : Int
  tk : Int
  tp : Int
  nd : Bool
  pl : Int
  x : Ex
def Itm.c (y : Itm) : List Value := [.string y.nm, .int .i64 y.k, .int .i64 y.tk, .int .i64 y.tp, .bool y.nd, .int .i64 y.pl, .int .i64 y.x.k, .int .i64 y.x.op, .string y.x.nm, .string y.x.sc, .int .i64 y.x.v.k, .bool y.x.v.b, .int .u64 (l0 y.x.v.n), .int .u64 (l1 y.x.v.n), .int .u64 (l2 y.x.v.n), .int .u64 (l3 y.x.v.n), .int .i64 y.x.v.s, .bool y.x.v.f, .string y.x.v.t, .int .i64 y.x.v.e, .int .i64 y.x.s, .int .i64 y.x.pl, .slice y.x.p y.x.a.length y.x.cl]
abbrev Itm.y (y : Itm) : Value := .agg (y.c.map rel1).toArray
abbrev Itm.w (y : Itm) : Value := .agg y.c.toArray
def rnO (tk pl : Int) : Bool := if tk = 1 then isP pl else decide (pl = 0)
def itO (d : Nat) (y : Itm) : Bool := fre y.nm &&
  (if y.k = 1 then tyO y.tk y.tp && (decide (y.pl = 0) && nth y.x)
   else if y.k = 2 then tyO y.tk y.tp && (!y.nd && (rnO y.tk y.pl && vE d y.x))
   else if y.k = 3 then decide (y.tk = 0 /\ y.tp = 0) && (!y.nd && (decide (y.pl = 0) && vE d y.x))
   else false)
set_option maxRecDepth 20000 in
theorem p_rnd (y : Itm) (w : World) : Calls Tryz.prog 190 #[y.w] w fun e W => e = .returned (.bool (rnO y.tk y.pl)) /\ Mb w W := by
  refine fn_pure [y.y] Tryz.func190 rfl rfl rfl (run_ok (st mo ?_))
  repeat refine st mo ?_
  refine ⟨fun h1 => ?_, fun h1 => ?_⟩
  · repeat refine st mo ?_
    refine ⟨_, fun _ => r_call (t := .bool (isP y.pl)) rfl rfl Tryz.func158 (fun W M E => p_isP rfl W), st mo ?_⟩
    repeat refine st mo ?_
    show _ = _; unfold rnO; rw [if_pos h1]
  · repeat refine st mo ?_
    refine ⟨fun h => ?_, fun h => ?_⟩
    · repeat refine st mo ?_
      show _ = _; unfold rnO; rw [if_neg h1, decide_eq_true h]
    · repeat refine st mo ?_
      show _ = _; unfold rnO; rw [if_neg h1, decide_eq_false h]
theorem ht53 : Tryz.prog.underlying 53 = some (.struct (Tryz.prog.fieldsOf 53)) := by kernel_rfl
theorem hp53 : Tryz.prog.stoodInHeld 53 = false := by kernel_rfl
theorem fo53 : (Tryz.prog.fieldsOf 53).toList.map (fun f => (f.name, f.type, f.offset)) = [("Kind", 3, 0), ("Scale", 3, 1)] := by kernel_rfl
theorem p53_0 (x0 x1 : Value) (w : World) : (part 3 #[x0, x1] 0).run Tryz.prog w = .ok x0 w := by kernel_rfl
theorem p53_1 (x0 x1 : Value) (w : World) : (part 3 #[x0, x1] 1).run Tryz.prog w = .ok x1 w := by kernel_rfl
theorem gt53 : Tryz.prog.eqGuardType Tryz.prog.depth 53 = false := by kernel_rfl
theorem eq53 (k p k' p' : Int) (w : World) : (Op.equalIn 10000 53 (.agg #[.int .i64 k, .int .i64 p]) (.agg #[.int .i64 k', .int .i64 p'])).run Tryz.prog w = .ok (k == k' && p == p') w := by
  rw [show (10000 : Nat) = 9999 + 1 from rfl, run_equalIn_struct w 9999 53 _ _ ht53 hp53]
  have h := fo53
  generalize (Tryz.prog.fieldsOf 53).toList = L at h
  have hl : L.length = 2 := by have := congrArg List.length h; simpa using this
  match L, hl with
  | [f0, f1], _ =>
    simp at h
    obtain ⟨⟨a0, a1, a2⟩, ⟨b0, b1, b2⟩⟩ := h
    have qi : ∀ x y : Int, (Op.equalIn 9999 3 (.int .i64 x) (.int .i64 y)).run Tryz.prog w = .ok (x == y) w := fun x y => run_equalIn_int w 9998 3 .i64 .i64 x y Tryz.underlying3
    simp only [Op.eqFields, a0, a1, a2, b0, b1, b2]
    cases h1 : (k == k') <;> cases h2 : (p == p') <;> simp [Sem.run_bind, p53_0, p53_1, Result.andThen_ok, qi, h1, h2, Sem.run_pure]
section
variable {w0 : B0} {X : World} {o : Oper} {fr : FT} {h : HT} {n : Nat} {y z : Operand} {t' : TypeId}
theorem r_eqT (k p k' p' : Int) (ho : o.op = .binOp .eql 53 y z t' := by rfl) (hy : den2 (evo fr y) = .agg #[.int .i64 k, .int .i64 p] := by rfl) (hz : den2 (evo fr z) = .agg #[.int .i64 k', .int .i64 p'] := by rfl) (hpy : pur2 (evo fr y) = true := by rfl) (hpz : pur2 (evo fr z) = true := by rfl) : Oa (Am w0 X) Tryz.prog o fr h n ⟨.bool (k == k' && p == p'), h, n, 0, 0⟩ :=
  Oo.to (s_bin0 ho (fun k u hu => by rw [pur2_eq hu hpy, hy]) (fun k u hu => by rw [pur2_eq hu hpz, hz]) rfl (fun w => eqa_run gt53 (eq53 k p k' p' w) y z))
end
theorem itO_n {d : Nat} {y : Itm} (h : fre y.nm = false) : itO d y = false := by unfold itO; rw [h]; rfl
theorem itO_1 {d : Nat} {y : Itm} (h : fre y.nm = true) (hk : y.k = 1) : itO d y = (tyO y.tk y.tp && (decide (y.pl = 0) && nth y.x)) := by unfold itO; rw [h, if_pos hk]; rfl
theorem itO_2 {d : Nat} {y : Itm} (h : fre y.nm = true) (hk : y.k = 2) : itO d y = (tyO y.tk y.tp && (!y.nd && (rnO y.tk y.pl && vE d y.x))) := by unfold itO; rw [h, if_neg (by omega), if_pos hk]; rfl
theorem itO_3 {d : Nat} {y : Itm} (h : fre y.nm = true) (hk : y.k = 3) : itO d y = (decide (y.tk = 0 /\ y.tp = 0) && (!y.nd && (decide (y.pl = 0) && vE d y.x))) := by unfold itO; rw [h, if_neg (by omega), if_neg (by omega), if_pos hk]; rfl
theorem itO_0 {d : Nat} {y : Itm} (h1 : y.k ≠ 1) (h2 : y.k ≠ 2) (h3 : y.k ≠ 3) : itO d y = false := by unfold itO; rw [if_neg h1, if_neg h2, if_neg h3]; simp
def Itm.ok (y : Itm) : Prop := y.nm.size <= 9223372036854775806
set_option maxHeartbeats 1000000 in
set_option maxRecDepth 20000 in
theorem p_item_false (d : Nat) (nm : ByteArray) (k tk tp pl : Int) (x : Ex) (w : World) (hnm : nm.size <= 9223372036854775806) (hL : LT w d x) : Calls Tryz.prog 138 #[(⟨nm, k, tk, tp, false, pl, x⟩ : Itm).w] w fun e W => e = .returned (.bool (itO d ⟨nm, k, tk, tp, false, pl, x⟩)) /\ Mb w W := by
  refine fn_pure [.agg #[.string nm, .int .i64 k, .int .i64 tk, .int .i64 tp, litF, .int .i64 pl, .int .i64 x.k, .int .i64 x.op, .string x.nm, .string x.sc, .int .i64 x.v.k, .bool x.v.b, .int .u64 (l0 x.v.n), .int .u64 (l1 x.v.n), .int .u64 (l2 x.v.n), .int .u64 (l3 x.v.n), .int .i64 x.v.s, .bool x.v.f, .string x.v.t, .int .i64 x.v.e, .int .i64 x.s, .int .i64 x.pl, raw (.slice x.p x.a.length x.cl)]] Tryz.func138 rfl rfl rfl (run_ok (st mo ?_))
  repeat refine st mo ?_
  cases hf : fre nm with
  | false =>
    refine ⟨_, fun _ => r_call (t := litF) rfl rfl Tryz.func70 (fun W M E => p_fre hf hnm W), st mo ?_⟩
    repeat refine st mo ?_
    rw [itO_n hf]; rfl
  | true =>
    refine ⟨_, fun _ => r_call (t := litT) rfl rfl Tryz.func70 (fun W M E => p_fre hf hnm W), st mo ?_⟩
    repeat refine st mo ?_
    refine ⟨fun h1 => ?_, fun h1 => ?_⟩
    · rw [itO_1 hf h1]
      repeat refine st mo ?_
      cases ht : tyO tk tp with
      | false =>
        refine ⟨_, fun _ => r_call (t := litF) rfl rfl Tryz.func189 (fun W M E => ht ▸ p_ty tk tp W), st mo ?_⟩
        repeat refine st mo ?_
        rfl
      | true =>
        refine ⟨_, fun _ => r_call (t := litT) rfl rfl Tryz.func189 (fun W M E => ht ▸ p_ty tk tp W), st mo ?_⟩
        repeat refine st mo ?_
        refine ⟨fun h => ?_, fun h => ?_⟩
        · repeat refine st mo ?_
          refine ⟨_, fun _ => r_call (t := .bool (nth x)) rfl rfl Tryz.func143 (fun W M E => p_none x W), st mo ?_⟩
          repeat refine st mo ?_
          show _ = _; rw [decide_eq_true h]; rfl
        · repeat refine st mo ?_
          show _ = _; rw [decide_eq_false h]; rfl
    repeat refine st mo ?_
    refine ⟨fun h2 => ?_, fun h2 => ?_⟩
    · rw [itO_2 hf h2]
      repeat refine st mo ?_
      cases ht : tyO tk tp with
      | false =>
        refine ⟨_, fun _ => r_call (t := litF) rfl rfl Tryz.func189 (fun W M E => ht ▸ p_ty tk tp W), st mo ?_⟩
        repeat refine st mo ?_
        rfl
      | true =>
        refine ⟨_, fun _ => r_call (t := litT) rfl rfl Tryz.func189 (fun W M E => ht ▸ p_ty tk tp W), st mo ?_⟩
        repeat refine st mo ?_
        cases hr : rnO tk pl with
        | false =>
          refine ⟨_, fun _ => r_call (t := litF) rfl rfl Tryz.func190 (fun W M E => hr ▸ p_rnd ⟨nm, k, tk, tp, false, pl, x⟩ W), st mo ?_⟩
          repeat refine st mo ?_
          rfl
        | true =>
          refine ⟨_, fun _ => r_call (t := litT) rfl rfl Tryz.func190 (fun W M E => hr ▸ p_rnd ⟨nm, k, tk, tp, false, pl, x⟩ W), st mo ?_⟩
          repeat refine st mo ?_
          refine ⟨_, fun _ => r_call (t := .bool (vE d x)) rfl rfl Tryz.func35 (fun W M E => p_exp d x W (hL.mono E)), st mo ?_⟩
          repeat refine st mo ?_
          rfl
    repeat refine st mo ?_
    refine ⟨fun h3 => ?_, fun h3 => ?_⟩
    · rw [itO_3 hf h3]
      repeat refine st mo ?_
      refine ⟨_, r_eqT tk tp 0 0, fun hq => ?_, fun hq => ?_⟩
      · have hq' : decide (tk = 0 /\ tp = 0) = true := by simp at hq; simp [hq]
        repeat refine st mo ?_
        refine ⟨fun h => ?_, fun h => ?_⟩
        · repeat refine st mo ?_
          refine ⟨_, fun _ => r_call (t := .bool (vE d x)) rfl rfl Tryz.func35 (fun W M E => p_exp d x W (hL.mono E)), st mo ?_⟩
          repeat refine st mo ?_
          show _ = _; rw [hq', decide_eq_true h]; rfl
        · repeat refine st mo ?_
          show _ = _; rw [hq', decide_eq_false h]; rfl
      · have hq' : decide (tk = 0 /\ tp = 0) = false := by simp at hq; simp; exact hq
        repeat refine st mo ?_
        show _ = _; rw [hq']; rfl
    · repeat refine st mo ?_
      rw [itO_0 h1 h2 h3]; rfl
set_option maxHeartbeats 1000000 in
set_option maxRecDepth 20000 in
theorem p_item_true (d : Nat) (nm : ByteArray) (k tk tp pl : Int) (x : Ex) (w : World) (hnm : nm.size <= 9223372036854775806) (_ : LT w d x) : Calls Tryz.prog 138 #[(⟨nm, k, tk, tp, true, pl, x⟩ : Itm).w] w fun e W => e = .returned (.bool (itO d ⟨nm, k, tk, tp, true, pl, x⟩)) /\ Mb w W := by
  refine fn_pure [.agg #[.string nm, .int .i64 k, .int .i64 tk, .int .i64 tp, litT, .int .i64 pl, .int .i64 x.k, .int .i64 x.op, .string x.nm, .string x.sc, .int .i64 x.v.k, .bool x.v.b, .int .u64 (l0 x.v.n), .int .u64 (l1 x.v.n), .int .u64 (l2 x.v.n), .int .u64 (l3 x.v.n), .int .i64 x.v.s, .bool x.v.f, .string x.v.t, .int .i64 x.v.e, .int .i64 x.s, .int .i64 x.pl, raw (.slice x.p x.a.length x.cl)]] Tryz.func138 rfl rfl rfl (run_ok (st mo ?_))
  repeat refine st mo ?_
  cases hf : fre nm with
  | false =>
    refine ⟨_, fun _ => r_call (t := litF) rfl rfl Tryz.func70 (fun W M E => p_fre hf hnm W), st mo ?_⟩
    repeat refine st mo ?_
    rw [itO_n hf]; rfl
  | true =>
    refine ⟨_, fun _ => r_call (t := litT) rfl rfl Tryz.func70 (fun W M E => p_fre hf hnm W), st mo ?_⟩
    repeat refine st mo ?_
    refine ⟨fun h1 => ?_, fun h1 => ?_⟩
    · rw [itO_1 hf h1]
      repeat refine st mo ?_
      cases ht : tyO tk tp with
      | false =>
        refine ⟨_, fun _ => r_call (t := litF) rfl rfl Tryz.func189 (fun W M E => ht ▸ p_ty tk tp W), st mo ?_⟩
        repeat refine st mo ?_
        rfl
      | true =>
        refine ⟨_, fun _ => r_call (t := litT) rfl rfl Tryz.func189 (fun W M E => ht ▸ p_ty tk tp W), st mo ?_⟩
        repeat refine st mo ?_
        refine ⟨fun h => ?_, fun h => ?_⟩
        · repeat refine st mo ?_
          refine ⟨_, fun _ => r_call (t := .bool (nth x)) rfl rfl Tryz.func143 (fun W M E => p_none x W), st mo ?_⟩
          repeat refine st mo ?_
          show _ = _; rw [decide_eq_true h]; rfl
        · repeat refine st mo ?_
          show _ = _; rw [decide_eq_false h]; rfl
    repeat refine st mo ?_
    refine ⟨fun h2 => ?_, fun h2 => ?_⟩
    · rw [itO_2 hf h2]
      repeat refine st mo ?_
      cases ht : tyO tk tp with
      | false =>
        refine ⟨_, fun _ => r_call (t := litF) rfl rfl Tryz.func189 (fun W M E => ht ▸ p_ty tk tp W), st mo ?_⟩
        repeat refine st mo ?_
        rfl
      | true =>
        refine ⟨_, fun _ => r_call (t := litT) rfl rfl Tryz.func189 (fun W M E => ht ▸ p_ty tk tp W), st mo ?_⟩
        repeat refine st mo ?_
        rfl
    repeat refine st mo ?_
    refine ⟨fun h3 => ?_, fun h3 => ?_⟩
    · rw [itO_3 hf h3]
      repeat refine st mo ?_
      refine ⟨_, r_eqT tk tp 0 0, fun hq => ?_, fun hq => ?_⟩
      · repeat refine st mo ?_
        show _ = _; simp
      · repeat refine st mo ?_
        show _ = _; simp
    · repeat refine st mo ?_
      rw [itO_0 h1 h2 h3]; rfl
set_option maxHeartbeats 1000000 in
set_option maxRecDepth 20000 in
theorem q_item_false (d : Nat) (nm : ByteArray) (k tk tp pl : Int) (x : Ex) (w : World) (hnm : nm.size <= 9223372036854775806) (hL : LT w d x) : Calls Tryz.prog 151 #[(⟨nm, k, tk, tp, false, pl, x⟩ : Itm).w] w fun e W => e = .returned (.bool (itO d ⟨nm, k, tk, tp, false, pl, x⟩)) /\ Mb w W := by
  refine fn_pure [.agg #[.string nm, .int .i64 k, .int .i64 tk, .int .i64 tp, litF, .int .i64 pl, .int .i64 x.k, .int .i64 x.op, .string x.nm, .string x.sc, .int .i64 x.v.k, .bool x.v.b, .int .u64 (l0 x.v.n), .int .u64 (l1 x.v.n), .int .u64 (l2 x.v.n), .int .u64 (l3 x.v.n), .int .i64 x.v.s, .bool x.v.f, .string x.v.t, .int .i64 x.v.e, .int .i64 x.s, .int .i64 x.pl, raw (.slice x.p x.a.length x.cl)]] Tryz.func151 rfl rfl rfl (run_ok (st mo ?_))
  repeat refine st mo ?_
  cases hf : fre nm with
  | false =>
    refine ⟨_, fun _ => r_call (t := litF) rfl rfl Tryz.func80 (fun W M E => q_fre hf hnm W), st mo ?_⟩
    repeat refine st mo ?_
    rw [itO_n hf]; rfl
  | true =>
    refine ⟨_, fun _ => r_call (t := litT) rfl rfl Tryz.func80 (fun W M E => q_fre hf hnm W), st mo ?_⟩
    repeat refine st mo ?_
    refine ⟨fun h1 => ?_, fun h1 => ?_⟩
    · rw [itO_1 hf h1]
      repeat refine st mo ?_
      cases ht : tyO tk tp with
      | false =>
        refine ⟨_, fun _ => r_call (t := litF) rfl rfl Tryz.func195 (fun W M E => ht ▸ q_ty tk tp W), st mo ?_⟩
        repeat refine st mo ?_
        rfl
      | true =>
        refine ⟨_, fun _ => r_call (t := litT) rfl rfl Tryz.func195 (fun W M E => ht ▸ q_ty tk tp W), st mo ?_⟩
        repeat refine st mo ?_
        refine ⟨fun h => ?_, fun h => ?_⟩
        · repeat refine st mo ?_
          refine ⟨_, fun _ => r_call (t := .bool (nth x)) rfl rfl Tryz.func83 (fun W M E => q_none x W), st mo ?_⟩
          repeat refine st mo ?_
          show _ = _; rw [decide_eq_true h]; rfl
        · repeat refine st mo ?_
          show _ = _; rw [decide_eq_false h]; rfl
    repeat refine st mo ?_
    refine ⟨fun h2 => ?_, fun h2 => ?_⟩
    · rw [itO_2 hf h2]
      repeat refine st mo ?_
      refine ⟨fun hp => ?_, fun hp => ?_⟩
      · repeat refine st mo ?_
        refine ⟨fun hk => ?_, fun hk => ?_⟩
        · repeat refine st mo ?_
          refine ⟨fun h5 => absurd h5 (by omega), fun h5 => ?_⟩
          have hr : rnO tk pl = false := by unfold rnO isP; rw [if_pos hk, decide_eq_false (by omega)]; rfl
          repeat refine st mo ?_
          cases ht : tyO tk tp with
          | false =>
            refine ⟨_, fun _ => r_call (t := litF) rfl rfl Tryz.func195 (fun W M E => ht ▸ q_ty tk tp W), st mo ?_⟩
            repeat refine st mo ?_
            rfl
          | true =>
            refine ⟨_, fun _ => r_call (t := litT) rfl rfl Tryz.func195 (fun W M E => ht ▸ q_ty tk tp W), st mo ?_⟩
            repeat refine st mo ?_
            show _ = _; rw [hr]; simp
        · have hr : rnO tk pl = true := by unfold rnO; rw [if_neg hk, decide_eq_true hp]
          repeat refine st mo ?_
          cases ht : tyO tk tp with
          | false =>
            refine ⟨_, fun _ => r_call (t := litF) rfl rfl Tryz.func195 (fun W M E => ht ▸ q_ty tk tp W), st mo ?_⟩
            repeat refine st mo ?_
            rfl
          | true =>
            refine ⟨_, fun _ => r_call (t := litT) rfl rfl Tryz.func195 (fun W M E => ht ▸ q_ty tk tp W), st mo ?_⟩
            repeat refine st mo ?_
            refine ⟨_, fun _ => r_call (t := .bool (vE d x)) rfl rfl Tryz.func37 (fun W M E => q_exp d x W (hL.mono E)), st mo ?_⟩
            repeat refine st mo ?_
            show _ = _; rw [hr]; rfl
      · repeat refine st mo ?_
        refine ⟨fun hk => ?_, fun hk => ?_⟩
        · repeat refine st mo ?_
          refine ⟨fun h5 => ?_, fun h5 => ?_⟩
          · repeat refine st mo ?_
            refine ⟨fun h6 => ?_, fun h6 => ?_⟩
            · have hr : rnO tk pl = true := by unfold rnO isP; rw [if_pos hk, decide_eq_true (by omega), decide_eq_true (by omega)]; rfl
              repeat refine st mo ?_
              cases ht : tyO tk tp with
              | false =>
                refine ⟨_, fun _ => r_call (t := litF) rfl rfl Tryz.func195 (fun W M E => ht ▸ q_ty tk tp W), st mo ?_⟩
                repeat refine st mo ?_
                rfl
              | true =>
                refine ⟨_, fun _ => r_call (t := litT) rfl rfl Tryz.func195 (fun W M E => ht ▸ q_ty tk tp W), st mo ?_⟩
                repeat refine st mo ?_
                refine ⟨_, fun _ => r_call (t := .bool (vE d x)) rfl rfl Tryz.func37 (fun W M E => q_exp d x W (hL.mono E)), st mo ?_⟩
                repeat refine st mo ?_
                show _ = _; rw [hr]; rfl
            · have hr : rnO tk pl = false := by unfold rnO isP; rw [if_pos hk, decide_eq_false (p := pl <= 5) (by omega)]; simp
              repeat refine st mo ?_
              cases ht : tyO tk tp with
              | false =>
                refine ⟨_, fun _ => r_call (t := litF) rfl rfl Tryz.func195 (fun W M E => ht ▸ q_ty tk tp W), st mo ?_⟩
                repeat refine st mo ?_
                rfl
              | true =>
                refine ⟨_, fun _ => r_call (t := litT) rfl rfl Tryz.func195 (fun W M E => ht ▸ q_ty tk tp W), st mo ?_⟩
                repeat refine st mo ?_
                show _ = _; rw [hr]; simp
          · have hr : rnO tk pl = false := by unfold rnO isP; rw [if_pos hk, decide_eq_false (p := 1 <= pl) (by omega)]; rfl
            repeat refine st mo ?_
            cases ht : tyO tk tp with
            | false =>
              refine ⟨_, fun _ => r_call (t := litF) rfl rfl Tryz.func195 (fun W M E => ht ▸ q_ty tk tp W), st mo ?_⟩
              repeat refine st mo ?_
              rfl
            | true =>
              refine ⟨_, fun _ => r_call (t := litT) rfl rfl Tryz.func195 (fun W M E => ht ▸ q_ty tk tp W), st mo ?_⟩
              repeat refine st mo ?_
              show _ = _; rw [hr]; simp
        · have hr : rnO tk pl = false := by unfold rnO; rw [if_neg hk, decide_eq_false hp]
          repeat refine st mo ?_
          cases ht : tyO tk tp with
          | false =>
            refine ⟨_, fun _ => r_call (t := litF) rfl rfl Tryz.func195 (fun W M E => ht ▸ q_ty tk tp W), st mo ?_⟩
            repeat refine st mo ?_
            rfl
          | true =>
            refine ⟨_, fun _ => r_call (t := litT) rfl rfl Tryz.func195 (fun W M E => ht ▸ q_ty tk tp W), st mo ?_⟩
            repeat refine st mo ?_
            show _ = _; rw [hr]; simp
    repeat refine st mo ?_
    refine ⟨fun h3 => ?_, fun h3 => ?_⟩
    · rw [itO_3 hf h3]
      repeat refine st mo ?_
      refine ⟨_, r_eqT tk tp 0 0, fun hq => ?_, fun hq => ?_⟩
      · have hq' : decide (tk = 0 /\ tp = 0) = true := by simp at hq; simp [hq]
        repeat refine st mo ?_
        refine ⟨fun h => ?_, fun h => ?_⟩
        · repeat refine st mo ?_
          refine ⟨_, fun _ => r_call (t := .bool (vE d x)) rfl rfl Tryz.func37 (fun W M E => q_exp d x W (hL.mono E)), st mo ?_⟩
          repeat refine st mo ?_
          show _ = _; rw [hq', decide_eq_true h]; rfl
        · repeat refine st mo ?_
          show _ = _; rw [hq', decide_eq_false h]; rfl
      · have hq' : decide (tk = 0 /\ tp = 0) = false := by simp at hq; simp; exact hq
        repeat refine st mo ?_
        show _ = _; rw [hq']; rfl
    · repeat refine st mo ?_
      rw [itO_0 h1 h2 h3]; rfl
set_option maxHeartbeats 1000000 in
set_option maxRecDepth 20000 in
theorem q_item_true (d : Nat) (nm : ByteArray) (k tk tp pl : Int) (x : Ex) (w : World) (hnm : nm.size <= 9223372036854775806) (_ : LT w d x) : Calls Tryz.prog 151 #[(⟨nm, k, tk, tp, true, pl, x⟩ : Itm).w] w fun e W => e = .returned (.bool (itO d ⟨nm, k, tk, tp, true, pl, x⟩)) /\ Mb w W := by
  refine fn_pure [.agg #[.string nm, .int .i64 k, .int .i64 tk, .int .i64 tp, litT, .int .i64 pl, .int .i64 x.k, .int .i64 x.op, .string x.nm, .string x.sc, .int .i64 x.v.k, .bool x.v.b, .int .u64 (l0 x.v.n), .int .u64 (l1 x.v.n), .int .u64 (l2 x.v.n), .int .u64 (l3 x.v.n), .int .i64 x.v.s, .bool x.v.f, .string x.v.t, .int .i64 x.v.e, .int .i64 x.s, .int .i64 x.pl, raw (.slice x.p x.a.length x.cl)]] Tryz.func151 rfl rfl rfl (run_ok (st mo ?_))
  repeat refine st mo ?_
  cases hf : fre nm with
  | false =>
    refine ⟨_, fun _ => r_call (t := litF) rfl rfl Tryz.func80 (fun W M E => q_fre hf hnm W), st mo ?_⟩
    repeat refine st mo ?_
    rw [itO_n hf]; rfl
  | true =>
    refine ⟨_, fun _ => r_call (t := litT) rfl rfl Tryz.func80 (fun W M E => q_fre hf hnm W), st mo ?_⟩
    repeat refine st mo ?_
    refine ⟨fun h1 => ?_, fun h1 => ?_⟩
    · rw [itO_1 hf h1]
      repeat refine st mo ?_
      cases ht : tyO tk tp with
      | false =>
        refine ⟨_, fun _ => r_call (t := litF) rfl rfl Tryz.func195 (fun W M E => ht ▸ q_ty tk tp W), st mo ?_⟩
        repeat refine st mo ?_
        rfl
      | true =>
        refine ⟨_, fun _ => r_call (t := litT) rfl rfl Tryz.func195 (fun W M E => ht ▸ q_ty tk tp W), st mo ?_⟩
        repeat refine st mo ?_
        refine ⟨fun h => ?_, fun h => ?_⟩
        · repeat refine st mo ?_
          refine ⟨_, fun _ => r_call (t := .bool (nth x)) rfl rfl Tryz.func83 (fun W M E => q_none x W), st mo ?_⟩
          repeat refine st mo ?_
          show _ = _; rw [decide_eq_true h]; rfl
        · repeat refine st mo ?_
          show _ = _; rw [decide_eq_false h]; rfl
    repeat refine st mo ?_
    refine ⟨fun h2 => ?_, fun h2 => ?_⟩
    · rw [itO_2 hf h2]
      repeat refine st mo ?_
      refine ⟨fun hp => ?_, fun hp => ?_⟩
      · repeat refine st mo ?_
        refine ⟨fun hk => ?_, fun hk => ?_⟩
        · repeat refine st mo ?_
          refine ⟨fun h5 => absurd h5 (by omega), fun h5 => ?_⟩
          have hr : rnO tk pl = false := by unfold rnO isP; rw [if_pos hk, decide_eq_false (by omega)]; rfl
          repeat refine st mo ?_
          cases ht : tyO tk tp with
          | false =>
            refine ⟨_, fun _ => r_call (t := litF) rfl rfl Tryz.func195 (fun W M E => ht ▸ q_ty tk tp W), st mo ?_⟩
            repeat refine st mo ?_
            rfl
          | true =>
            refine ⟨_, fun _ => r_call (t := litT) rfl rfl Tryz.func195 (fun W M E => ht ▸ q_ty tk tp W), st mo ?_⟩
            repeat refine st mo ?_
            show _ = _; rw [hr]; simp
        · have hr : rnO tk pl = true := by unfold rnO; rw [if_neg hk, decide_eq_true hp]
          repeat refine st mo ?_
          cases ht : tyO tk tp with
          | false =>
            refine ⟨_, fun _ => r_call (t := litF) rfl rfl Tryz.func195 (fun W M E => ht ▸ q_ty tk tp W), st mo ?_⟩
            repeat refine st mo ?_
            rfl
          | true =>
            refine ⟨_, fun _ => r_call (t := litT) rfl rfl Tryz.func195 (fun W M E => ht ▸ q_ty tk tp W), st mo ?_⟩
            repeat refine st mo ?_
            show _ = _; simp
      · repeat refine st mo ?_
        refine ⟨fun hk => ?_, fun hk => ?_⟩
        · repeat refine st mo ?_
          refine ⟨fun h5 => ?_, fun h5 => ?_⟩
          · repeat refine st mo ?_
            refine ⟨fun h6 => ?_, fun h6 => ?_⟩
            · have hr : rnO tk pl = true := by unfold rnO isP; rw [if_pos hk, decide_eq_true (by omega), decide_eq_true (by omega)]; rfl
              repeat refine st mo ?_
              cases ht : tyO tk tp with
              | false =>
                refine ⟨_, fun _ => r_call (t := litF) rfl rfl Tryz.func195 (fun W M E => ht ▸ q_ty tk tp W), st mo ?_⟩
                repeat refine st mo ?_
                rfl
              | true =>
                refine ⟨_, fun _ => r_call (t := litT) rfl rfl Tryz.func195 (fun W M E => ht ▸ q_ty tk tp W), st mo ?_⟩
                repeat refine st mo ?_
                show _ = _; simp
            · have hr : rnO tk pl = false := by unfold rnO isP; rw [if_pos hk, decide_eq_false (p := pl <= 5) (by omega)]; simp
              repeat refine st mo ?_
              cases ht : tyO tk tp with
              | false =>
                refine ⟨_, fun _ => r_call (t := litF) rfl rfl Tryz.func195 (fun W M E => ht ▸ q_ty tk tp W), st mo ?_⟩
                repeat refine st mo ?_
                rfl
              | true =>
                refine ⟨_, fun _ => r_call (t := litT) rfl rfl Tryz.func195 (fun W M E => ht ▸ q_ty tk tp W), st mo ?_⟩
                repeat refine st mo ?_
                show _ = _; rw [hr]; simp
          · have hr : rnO tk pl = false := by unfold rnO isP; rw [if_pos hk, decide_eq_false (p := 1 <= pl) (by omega)]; rfl
            repeat refine st mo ?_
            cases ht : tyO tk tp with
            | false =>
              refine ⟨_, fun _ => r_call (t := litF) rfl rfl Tryz.func195 (fun W M E => ht ▸ q_ty tk tp W), st mo ?_⟩
              repeat refine st mo ?_
              rfl
            | true =>
              refine ⟨_, fun _ => r_call (t := litT) rfl rfl Tryz.func195 (fun W M E => ht ▸ q_ty tk tp W), st mo ?_⟩
              repeat refine st mo ?_
              show _ = _; rw [hr]; simp
        · have hr : rnO tk pl = false := by unfold rnO; rw [if_neg hk, decide_eq_false hp]
          repeat refine st mo ?_
          cases ht : tyO tk tp with
          | false =>
            refine ⟨_, fun _ => r_call (t := litF) rfl rfl Tryz.func195 (fun W M E => ht ▸ q_ty tk tp W), st mo ?_⟩
            repeat refine st mo ?_
            rfl
          | true =>
            refine ⟨_, fun _ => r_call (t := litT) rfl rfl Tryz.func195 (fun W M E => ht ▸ q_ty tk tp W), st mo ?_⟩
            repeat refine st mo ?_
            show _ = _; rw [hr]; simp
    repeat refine st mo ?_
    refine ⟨fun h3 => ?_, fun h3 => ?_⟩
    · rw [itO_3 hf h3]
      repeat refine st mo ?_
      refine ⟨_, r_eqT tk tp 0 0, fun hq => ?_, fun hq => ?_⟩
      · repeat refine st mo ?_
        refine ⟨fun h => ?_, fun h => ?_⟩
        · repeat refine st mo ?_
          show _ = _; simp
        · repeat refine st mo ?_
          show _ = _; simp
      · repeat refine st mo ?_
        show _ = _; simp
    · repeat refine st mo ?_
      rw [itO_0 h1 h2 h3]; rfl
theorem p_item (d : Nat) (y : Itm) (w : World) (hnm : y.nm.size <= 9223372036854775806) (hL : LT w d y.x) : Calls Tryz.prog 138 #[y.w] w fun e W => e = .returned (.bool (itO d y)) /\ Mb w W := by
  obtain ⟨nm, k, tk, tp, nd, pl, x⟩ := y
  cases nd
  · exact p_item_false d nm k tk tp pl x w hnm hL
  · exact p_item_true d nm k tk tp pl x w hnm hL
theorem q_item (d : Nat) (y : Itm) (w : World) (hnm : y.nm.size <= 9223372036854775806) (hL : LT w d y.x) : Calls Tryz.prog 151 #[y.w] w fun e W => e = .returned (.bool (itO d y)) /\ Mb w W := by
  obtain ⟨nm, k, tk, tp, nd, pl, x⟩ := y
  cases nd
  · exact q_item_false d nm k tk tp pl x w hnm hL
  · exact q_item_true d nm k tk tp pl x w hnm hL
abbrev AmoW : ByteArray := ⟨#[97, 109, 111, 117, 110, 116]⟩
abbrev FlaW : ByteArray := ⟨#[102, 108, 97, 103]⟩
abbrev TexW : ByteArray := ⟨#[116, 101, 120, 116]⟩
abbrev FieW : ByteArray := ⟨#[102, 105, 101, 108, 100]⟩
abbrev LinW : ByteArray := ⟨#[108, 105, 110, 101]⟩
abbrev CheW : ByteArray := ⟨#[99, 104, 101, 99, 107]⟩
abbrev NeeW : ByteArray := ⟨#[110, 101, 101, 100, 101, 100]⟩
abbrev ColW : ByteArray := ⟨#[58]⟩
abbrev SemW : ByteArray := ⟨#[59]⟩
abbrev EquW : ByteArray := ⟨#[61]⟩
def tyw (k p : Int) : List ByteArray := if k = 1 then [AmoW, ntx p] else if k = 2 then [FlaW] else [TexW]
theorem tyw_ok (k p : Int) : ∀ w ∈ tyw k p, wok w := by
  unfold tyw; split
  · exact cons_ok ⟨by decide, by decide⟩ (one_ok (ntx_ok p))
  · split <;> exact one_ok ⟨by decide, by decide⟩
theorem tyO_k {k p : Int} (h : tyO k p = true) : (k = 1 /\ 0 <= p /\ p <= 1073741824) ∨ k = 2 ∨ k = 3 := by
  unfold tyO at h
  split at h
  · rename_i h1; exact Or.inl ⟨h1, isI_iff.1 h⟩
  · split at h
    · rename_i h1; exact Or.inr h1
    · cases h
set_option maxRecDepth 20000 in
theorem c_kind (s : Ws) (k p : Int) (ht : tyO k p = true) (hs : s.ok) (hb : s.n + wln (tyw k p) <= 4611686018427387904) (X : World) (hG : TG X) : CW X 192 [P0, .agg #[.int .i64 k, .int .i64 p]] s (tyw k p) := by
  have hok := tyw_ok k p
  refine fn_cT _ Tryz.func192 rfl rfl rfl rfl rfl (fun w ll tw X' hX hT => run_ok (st mo ?_))
  repeat refine st mo ?_
  refine ⟨fun h1 => ?_, fun h1 => ?_⟩
  · have hp : 0 <= p /\ p <= 1073741824 := by rcases tyO_k ht with h | h | h <;> omega
    have e : tyw k p = [AmoW, ntx p] := if_pos h1
    rw [e] at hok hb ⊢
    repeat refine st mo ?_
    refine ⟨_, fun _ => r_callS (t := .string (ntx p)) rfl rfl Tryz.func147 (fun W M E => p_itoa p hp.1 hp.2 W ((hG.xf hX).tb.see E)), st mo ?_⟩
    repeat refine st mo ?_
    refine ⟨_, fun nn => r_put s [AmoW, ntx p] 1 3 hT hs hok hb, st mo ?_⟩
    repeat refine st mo ?_
    exact ⟨rfl, [0, 4], ft0, ⟨trivial, c0_fit _, trivial, fl rfl (c1_pur (wps_ok hs hok)), trivial⟩, rfl, rfl⟩
  repeat refine st mo ?_
  refine ⟨fun h2 => ?_, fun h2 => ?_⟩
  · have e : tyw k p = [FlaW] := by unfold tyw; rw [if_neg h1, if_pos h2]
    rw [e] at hok hb ⊢
    repeat refine st mo ?_
    refine ⟨_, fun nn => r_put s [FlaW] 1 3 hT hs hok hb, st mo ?_⟩
    repeat refine st mo ?_
    exact ⟨rfl, [0, 4], ft0, ⟨trivial, c0_fit _, trivial, fl rfl (c1_pur (wps_ok hs hok)), trivial⟩, rfl, rfl⟩
  repeat refine st mo ?_
  refine ⟨fun h3 => ?_, fun h3 => ?_⟩
  · have e : tyw k p = [TexW] := by unfold tyw; rw [if_neg h1, if_neg h2]
    rw [e] at hok hb ⊢
    repeat refine st mo ?_
    refine ⟨_, fun nn => r_put s [TexW] 1 3 hT hs hok hb, st mo ?_⟩
    repeat refine st mo ?_
    exact ⟨rfl, [0, 4], ft0, ⟨trivial, c0_fit _, trivial, fl rfl (c1_pur (wps_ok hs hok)), trivial⟩, rfl, rfl⟩
  · rcases tyO_k ht with h | h | h
    · exact absurd h.1 h1
    · exact absurd h h2
    · exact absurd h h3
set_option maxRecDepth 20000 in
theorem d_typ (t : ByteArray) (k p : Int) (hty : tyO k p = true) (ht : t.size <= 40000) (X : World) : CQ X 196 [P0, .agg #[.int .i64 k, .int .i64 p]] t (tyw k p) := by
  have hok := tyw_ok k p
  refine fn_c _ Tryz.func196 rfl rfl rfl rfl (fun w ll tw X' hX => run_ok (st mo ?_))
  repeat refine st mo ?_
  refine ⟨fun h1 => ?_, fun h1 => ?_⟩
  · have hp : 0 <= p /\ p <= 1073741824 := by rcases tyO_k hty with h | h | h <;> omega
    have e : tyw k p = [AmoW, ntx p] := if_pos h1
    rw [e] at hok ⊢
    repeat refine st mo ?_
    refine ⟨_, fun _ => r_call (t := .string (ntx p)) rfl rfl Tryz.func154 (fun W M E => q_nat p hp.1 hp.2 W), st mo ?_⟩
    repeat refine st mo ?_
    refine ⟨_, fun nn => r_qp t [AmoW, ntx p] 2 ht hok, st mo ?_⟩
    repeat refine st mo ?_
    exact ⟨rfl, [0], ft0, ⟨trivial, fl rfl (q0_pur _), trivial⟩, rfl, rfl⟩
  repeat refine st mo ?_
  refine ⟨fun h2 => ?_, fun h2 => ?_⟩
  · have e : tyw k p = [FlaW] := by unfold tyw; rw [if_neg h1, if_pos h2]
    rw [e] at hok ⊢
    repeat refine st mo ?_
    refine ⟨_, fun nn => r_qp t [FlaW] 2 ht hok, st mo ?_⟩
    repeat refine st mo ?_
    exact ⟨rfl, [0], ft0, ⟨trivial, fl rfl (q0_pur _), trivial⟩, rfl, rfl⟩
  repeat refine st mo ?_
  refine ⟨fun h3 => ?_, fun h3 => ?_⟩
  · have e : tyw k p = [TexW] := by unfold tyw; rw [if_neg h1, if_neg h2]
    rw [e] at hok ⊢
    repeat refine st mo ?_
    refine ⟨_, fun nn => r_qp t [TexW] 2 ht hok, st mo ?_⟩
    repeat refine st mo ?_
    exact ⟨rfl, [0], ft0, ⟨trivial, fl rfl (q0_pur _), trivial⟩, rfl, rfl⟩
  · rcases tyO_k hty with h | h | h
    · exact absurd h.1 h1
    · exact absurd h h2
    · exact absurd h h3
def itw (d : Nat) (y : Itm) : List ByteArray :=
  (if y.k = 1 then [FieW, y.nm, ColW] ++ (tyw y.tk y.tp ++ (if y.nd then [NeeW] else []))
   else if y.k = 2 then [LinW, y.nm, ColW] ++ (tyw y.tk y.tp ++ ((if y.tk = 1 then [plW y.pl] else []) ++ ([EquW] ++ wB d y.x)))
   else [CheW, y.nm, EquW] ++ wB d y.x) ++ [SemW]
theorem itw1 {d : Nat} {y : Itm} (h : y.k = 1) : itw d y = [FieW, y.nm, ColW] ++ (tyw y.tk y.tp ++ ((if y.nd then [NeeW] else []) ++ [SemW])) := by unfold itw; rw [if_pos h]; simp
theorem itw2 {d : Nat} {y : Itm} (h : y.k = 2) : itw d y = [LinW, y.nm, ColW] ++ (tyw y.tk y.tp ++ ((if y.tk = 1 then [plW y.pl] else []) ++ ([EquW] ++ (wB d y.x ++ [SemW])))) := by unfold itw; rw [if_neg (by omega), if_pos h]; simp
theorem itw3 {d : Nat} {y : Itm} (h : y.k = 3) : itw d y = [CheW, y.nm, EquW] ++ (wB d y.x ++ [SemW]) := by unfold itw; rw [if_neg (by omega), if_neg (by omega)]; simp
theorem itO_fre {d : Nat} {y : Itm} (h : itO d y = true) : fre y.nm = true := by unfold itO at h; simp at h; exact h.1
theorem itO_k {d : Nat} {y : Itm} (h : itO d y = true) : y.k = 1 ∨ y.k = 2 ∨ y.k = 3 := by
  by_cases h1 : y.k = 1
  · exact Or.inl h1
  · by_cases h2 : y.k = 2
    · exact Or.inr (Or.inl h2)
    · by_cases h3 : y.k = 3
      · exact Or.inr (Or.inr h3)
      · rw [itO_0 h1 h2 h3] at h; cases h
theorem itO1 {d : Nat} {y : Itm} (h : itO d y = true) (hk : y.k = 1) : tyO y.tk y.tp = true := by rw [itO_1 (itO_fre h) hk] at h; simp at h; exact h.1
theorem itO2 {d : Nat} {y : Itm} (h : itO d y = true) (hk : y.k = 2) : tyO y.tk y.tp = true /\ rnO y.tk y.pl = true /\ vE d y.x = true := by rw [itO_2 (itO_fre h) hk] at h; simp at h; exact ⟨h.1, h.2.2⟩
theorem itO3 {d : Nat} {y : Itm} (h : itO d y = true) (hk : y.k = 3) : vE d y.x = true := by rw [itO_3 (itO_fre h) hk] at h; simp at h; exact h.2.2.2
theorem rnO_pl {tk pl : Int} (h : rnO tk pl = true) (hk : tk = 1) : 1 <= pl /\ pl <= 5 := by unfold rnO at h; rw [if_pos hk] at h; exact isP_iff.1 h
theorem itw_ok {d : Nat} {X : World} {y : Itm} (h : itO d y = true) (hL : LT X d y.x) : ∀ w ∈ itw d y, wok w := by
  have hn := fre_ok (itO_fre h)
  rcases itO_k h with hk | hk | hk
  · rw [itw1 hk]
    exact app_ok (cons_ok ⟨by decide, by decide⟩ (cons_ok hn (one_ok sym_ok))) (app_ok (tyw_ok _ _) (app_ok (by split; exact one_ok ⟨by decide, by decide⟩; exact nil_ok) (one_ok sym_ok)))
  · obtain ⟨_, h2, h3⟩ := itO2 h hk
    rw [itw2 hk]
    exact app_ok (cons_ok ⟨by decide, by decide⟩ (cons_ok hn (one_ok sym_ok))) (app_ok (tyw_ok _ _) (app_ok (by split; exact one_ok (plw_ok (rnO_pl h2 (by assumption)).1 (rnO_pl h2 (by assumption)).2); exact nil_ok) (app_ok (one_ok sym_ok) (app_ok (wBd_ok hL h3) (one_ok sym_ok)))))
  · rw [itw3 hk]
    exact app_ok (cons_ok ⟨by decide, by decide⟩ (cons_ok hn (one_ok sym_ok))) (app_ok (wBd_ok hL (itO3 h hk)) (one_ok sym_ok))
theorem nee_ok : wok NeeW := ⟨by decide, by decide⟩
set_option maxHeartbeats 2000000 in
set_option maxRecDepth 20000 in
theorem c_item (d : Nat) (s : Ws) (y : Itm) (hi : itO d y = true) (hs : s.ok) (hb : s.n + wln (itw d y) <= 4611686018427387904) (X : World) (hL : LT X d y.x) (hG : TG X) : CW X 146 [P0, y.y] s (itw d y) := by
  have hnm := fre_ok (itO_fre hi)
  have hk3 := itO_k hi
  refine fn_cT _ Tryz.func146 rfl rfl rfl rfl rfl (fun w ll tw X' hX hT => run_ok (st mo ?_))
  repeat refine st mo ?_
  refine ⟨fun h1 => ?_, fun h1 => ?_⟩
  · have hty := itO1 hi h1
    have hok1 : ∀ w ∈ [FieW, y.nm, ColW], wok w := cons_ok ⟨by decide, by decide⟩ (cons_ok hnm (one_ok sym_ok))
    cases hnd : y.nd with
    | true =>
      have e : itw d y = [FieW, y.nm, ColW] ++ (tyw y.tk y.tp ++ ([NeeW] ++ [SemW])) := by rw [itw1 h1, hnd]; rfl
      rw [e] at hb ⊢
      simp only [wln_app] at hb
      simp only [wps_app]
      repeat refine st mo ?_
      refine ⟨_, fun nn => r_put s [FieW, y.nm, ColW] 1 3 hT hs hok1 (by omega), st mo ?_⟩
      have hs1 := wps_ok hs hok1
      have hn_s1 := wps_n ([FieW, y.nm, ColW]) s
      generalize wps s ([FieW, y.nm, ColW]) = s1 at *
      repeat refine st mo ?_
      refine ⟨_, fun nn => r_w s1 (wps s1 (tyw y.tk y.tp)) 4 rfl hT (c_kind s1 y.tk y.tp hty hs1 (by omega) X' (hG.xf hX)) hs1 (wps_ok hs1 (tyw_ok y.tk y.tp)) (by exact fitL_cons fp (fitL_cons fv (by rfl))) (fn := Tryz.f192), st mo ?_⟩
      have hs2 := wps_ok hs1 (tyw_ok y.tk y.tp)
      have hn_s2 := wps_n (tyw y.tk y.tp) s1
      generalize wps s1 (tyw y.tk y.tp) = s2 at *
      repeat refine st mo ?_
      refine ⟨fun _ => ?_, fun h => absurd h (by decide)⟩
      repeat refine st mo ?_
      refine ⟨_, fun nn => r_put s2 [NeeW] 5 6 hT hs2 (one_ok nee_ok) (by omega), st mo ?_⟩
      have hs4 := wps_ok hs2 (one_ok nee_ok)
      have hn_s4 := wps_n ([NeeW]) s2
      generalize wps s2 ([NeeW]) = s4 at *
      repeat refine st mo ?_
      refine ⟨_, fun nn => r_put s4 [SemW] 7 8 hT hs4 (one_ok (sym_ok (a := 59))) (by omega), st mo ?_⟩
      repeat refine st mo ?_
      exact ⟨rfl, [0, 9], ft0, ⟨trivial, c0_fit _, trivial, fl rfl (c1_pur (wps_ok hs4 (one_ok (sym_ok (a := 59))))), trivial⟩, rfl, rfl⟩
    | false =>
      have e : itw d y = [FieW, y.nm, ColW] ++ (tyw y.tk y.tp ++ [SemW]) := by rw [itw1 h1, hnd]; rfl
      rw [e] at hb ⊢
      simp only [wln_app] at hb
      simp only [wps_app]
      repeat refine st mo ?_
      refine ⟨_, fun nn => r_put s [FieW, y.nm, ColW] 1 3 hT hs hok1 (by omega), st mo ?_⟩
      have hs1 := wps_ok hs hok1
      have hn_s1 := wps_n ([FieW, y.nm, ColW]) s
      generalize wps s ([FieW, y.nm, ColW]) = s1 at *
      repeat refine st mo ?_
      refine ⟨_, fun nn => r_w s1 (wps s1 (tyw y.tk y.tp)) 4 rfl hT (c_kind s1 y.tk y.tp hty hs1 (by omega) X' (hG.xf hX)) hs1 (wps_ok hs1 (tyw_ok y.tk y.tp)) (by exact fitL_cons fp (fitL_cons fv (by rfl))) (fn := Tryz.f192), st mo ?_⟩
      have hs2 := wps_ok hs1 (tyw_ok y.tk y.tp)
      have hn_s2 := wps_n (tyw y.tk y.tp) s1
      generalize wps s1 (tyw y.tk y.tp) = s2 at *
      repeat refine st mo ?_
      refine ⟨fun h => absurd h (by decide), fun _ => ?_⟩
      repeat refine st mo ?_
      refine ⟨_, fun nn => r_put s2 [SemW] 5 6 hT hs2 (one_ok (sym_ok (a := 59))) (by omega), st mo ?_⟩
      repeat refine st mo ?_
      exact ⟨rfl, [0, 7], ft0, ⟨trivial, c0_fit _, trivial, fl rfl (c1_pur (wps_ok hs2 (one_ok (sym_ok (a := 59))))), trivial⟩, rfl, rfl⟩
  repeat refine st mo ?_
  refine ⟨fun h2 => ?_, fun h2 => ?_⟩
  · obtain ⟨hty, hrn, hv⟩ := itO2 hi h2
    have hok1 : ∀ w ∈ [LinW, y.nm, ColW], wok w := cons_ok ⟨by decide, by decide⟩ (cons_ok hnm (one_ok sym_ok))
    by_cases htk : y.tk = 1
    · have e : itw d y = [LinW, y.nm, ColW] ++ (tyw y.tk y.tp ++ ([plW y.pl] ++ ([EquW] ++ (wB d y.x ++ [SemW])))) := by rw [itw2 h2, if_pos htk]
      have hpl := rnO_pl hrn htk
      obtain ⟨i, hi4, hi5, hi6⟩ := plw_at (p := y.pl) (by omega) hpl.2
      obtain ⟨b, o, c, g1, g2⟩ := (hG.xf hX).t0
      have hcell : X'.cell? ⟨b, o + i * 1, none⟩ = some (.string (plW y.pl)) := by rw [Nat.mul_one]; exact g2 i _ (by rw [List.getElem?_map, hi6]; rfl)
      rw [e] at hb ⊢
      simp only [wln_app] at hb
      simp only [wps_app]
      repeat refine st mo ?_
      refine ⟨_, fun nn => r_put s [LinW, y.nm, ColW] 1 3 hT hs hok1 (by omega), st mo ?_⟩
      have hs1 := wps_ok hs hok1
      have hn_s1 := wps_n ([LinW, y.nm, ColW]) s
      generalize wps s ([LinW, y.nm, ColW]) = s1 at *
      repeat refine st mo ?_
      refine ⟨_, fun nn => r_w s1 (wps s1 (tyw y.tk y.tp)) 4 rfl hT (c_kind s1 y.tk y.tp hty hs1 (by omega) X' (hG.xf hX)) hs1 (wps_ok hs1 (tyw_ok y.tk y.tp)) (by exact fitL_cons fp (fitL_cons fv (by rfl))) (fn := Tryz.f192), st mo ?_⟩
      have hs2 := wps_ok hs1 (tyw_ok y.tk y.tp)
      have hn_s2 := wps_n (tyw y.tk y.tp) s1
      generalize wps s1 (tyw y.tk y.tp) = s2 at *
      repeat refine st mo ?_
      refine ⟨fun _ => ?_, fun h => absurd htk h⟩
      repeat refine st mo ?_
      refine ⟨_, g1, st mo ?_⟩
      repeat refine st mo ?_
      refine ⟨b, o, i, rfl, hi4, hi5, ?_⟩
      repeat refine st mo ?_
      refine ⟨_, hcell, st mo ?_⟩
      repeat refine st mo ?_
      refine ⟨_, fun nn => r_put s2 [plW y.pl] 5 6 hT hs2 (one_ok (plw_ok hpl.1 hpl.2)) (by omega), st mo ?_⟩
      have hs4 := wps_ok hs2 (one_ok (plw_ok hpl.1 hpl.2))
      have hn_s4 := wps_n ([plW y.pl]) s2
      generalize wps s2 ([plW y.pl]) = s4 at *
      repeat refine st mo ?_
      refine ⟨_, fun nn => r_put s4 [EquW] 7 8 hT hs4 (one_ok (sym_ok (a := 61))) (by omega), st mo ?_⟩
      have hs5 := wps_ok hs4 (one_ok (sym_ok (a := 61)))
      have hn_s5 := wps_n ([EquW]) s4
      generalize wps s4 ([EquW]) = s5 at *
      repeat refine st mo ?_
      refine ⟨_, fun nn => r_w s5 (wps s5 (wB d y.x)) 9 rfl hT (wX1 ▸ cw_expr d s5 y.x 1 X' (hL.xf hX) hv (hG.xf hX) hs5 (by rw [wX1]; omega)) hs5 (wps_ok hs5 (wBd_ok hL hv)) (by exact fitL_cons fp (fitL_cons fv (fitL_cons fv (by rfl)))) (fn := Tryz.f36), st mo ?_⟩
      have hs6 := wps_ok hs5 (wBd_ok hL hv)
      have hn_s6 := wps_n (wB d y.x) s5
      generalize wps s5 (wB d y.x) = s6 at *
      repeat refine st mo ?_
      refine ⟨_, fun nn => r_put s6 [SemW] 10 11 hT hs6 (one_ok (sym_ok (a := 59))) (by omega), st mo ?_⟩
      repeat refine st mo ?_
      exact ⟨rfl, [0, 12], ft0, ⟨trivial, c0_fit _, trivial, fl rfl (c1_pur (wps_ok hs6 (one_ok (sym_ok (a := 59))))), trivial⟩, rfl, rfl⟩
    · have e : itw d y = [LinW, y.nm, ColW] ++ (tyw y.tk y.tp ++ ([EquW] ++ (wB d y.x ++ [SemW]))) := by rw [itw2 h2, if_neg htk]; rfl
      rw [e] at hb ⊢
      simp only [wln_app] at hb
      simp only [wps_app]
      repeat refine st mo ?_
      refine ⟨_, fun nn => r_put s [LinW, y.nm, ColW] 1 3 hT hs hok1 (by omega), st mo ?_⟩
      have hs1 := wps_ok hs hok1
      have hn_s1 := wps_n ([LinW, y.nm, ColW]) s
      generalize wps s ([LinW, y.nm, ColW]) = s1 at *
      repeat refine st mo ?_
      refine ⟨_, fun nn => r_w s1 (wps s1 (tyw y.tk y.tp)) 4 rfl hT (c_kind s1 y.tk y.tp hty hs1 (by omega) X' (hG.xf hX)) hs1 (wps_ok hs1 (tyw_ok y.tk y.tp)) (by exact fitL_cons fp (fitL_cons fv (by rfl))) (fn := Tryz.f192), st mo ?_⟩
      have hs2 := wps_ok hs1 (tyw_ok y.tk y.tp)
      have hn_s2 := wps_n (tyw y.tk y.tp) s1
      generalize wps s1 (tyw y.tk y.tp) = s2 at *
      repeat refine st mo ?_
      refine ⟨fun h => absurd h htk, fun _ => ?_⟩
      repeat refine st mo ?_
      refine ⟨_, fun nn => r_put s2 [EquW] 5 6 hT hs2 (one_ok (sym_ok (a := 61))) (by omega), st mo ?_⟩
      have hs4 := wps_ok hs2 (one_ok (sym_ok (a := 61)))
      have hn_s4 := wps_n ([EquW]) s2
      generalize wps s2 ([EquW]) = s4 at *
      repeat refine st mo ?_
      refine ⟨_, fun nn => r_w s4 (wps s4 (wB d y.x)) 7 rfl hT (wX1 ▸ cw_expr d s4 y.x 1 X' (hL.xf hX) hv (hG.xf hX) hs4 (by rw [wX1]; omega)) hs4 (wps_ok hs4 (wBd_ok hL hv)) (by exact fitL_cons fp (fitL_cons fv (fitL_cons fv (by rfl)))) (fn := Tryz.f36), st mo ?_⟩
      have hs5 := wps_ok hs4 (wBd_ok hL hv)
      have hn_s5 := wps_n (wB d y.x) s4
      generalize wps s4 (wB d y.x) = s5 at *
      repeat refine st mo ?_
      refine ⟨_, fun nn => r_put s5 [SemW] 8 9 hT hs5 (one_ok (sym_ok (a := 59))) (by omega), st mo ?_⟩
      repeat refine st mo ?_
      exact ⟨rfl, [0, 10], ft0, ⟨trivial, c0_fit _, trivial, fl rfl (c1_pur (wps_ok hs5 (one_ok (sym_ok (a := 59))))), trivial⟩, rfl, rfl⟩
  repeat refine st mo ?_
  refine ⟨fun h3 => ?_, fun h3 => ?_⟩
  · have hv := itO3 hi h3
    have hok1 : ∀ w ∈ [CheW, y.nm, EquW], wok w := cons_ok ⟨by decide, by decide⟩ (cons_ok hnm (one_ok sym_ok))
    rw [itw3 h3] at hb ⊢
    simp only [wln_app] at hb
    simp only [wps_app]
    repeat refine st mo ?_
    refine ⟨_, fun nn => r_put s [CheW, y.nm, EquW] 1 3 hT hs hok1 (by omega), st mo ?_⟩
    have hs1 := wps_ok hs hok1
    have hn_s1 := wps_n ([CheW, y.nm, EquW]) s
    generalize wps s ([CheW, y.nm, EquW]) = s1 at *
    repeat refine st mo ?_
    refine ⟨_, fun nn => r_w s1 (wps s1 (wB d y.x)) 4 rfl hT (wX1 ▸ cw_expr d s1 y.x 1 X' (hL.xf hX) hv (hG.xf hX) hs1 (by rw [wX1]; omega)) hs1 (wps_ok hs1 (wBd_ok hL hv)) (by exact fitL_cons fp (fitL_cons fv (fitL_cons fv (by rfl)))) (fn := Tryz.f36), st mo ?_⟩
    have hs2 := wps_ok hs1 (wBd_ok hL hv)
    have hn_s2 := wps_n (wB d y.x) s1
    generalize wps s1 (wB d y.x) = s2 at *
    repeat refine st mo ?_
    refine ⟨_, fun nn => r_put s2 [SemW] 5 6 hT hs2 (one_ok (sym_ok (a := 59))) (by omega), st mo ?_⟩
    repeat refine st mo ?_
    exact ⟨rfl, [0, 7], ft0, ⟨trivial, c0_fit _, trivial, fl rfl (c1_pur (wps_ok hs2 (one_ok (sym_ok (a := 59))))), trivial⟩, rfl, rfl⟩
  · omega
set_option maxHeartbeats 2000000 in
set_option maxRecDepth 20000 in
theorem d_item (d : Nat) (t : ByteArray) (y : Itm) (hi : itO d y = true) (ht : t.size <= 40000) (X : World) (hL : LT X d y.x) : CQ X 153 [P0, y.y] t (itw d y) := by
  have hnm := fre_ok (itO_fre hi)
  have hk3 := itO_k hi
  refine fn_c _ Tryz.func153 rfl rfl rfl rfl (fun w ll tw X' hX => run_ok (st mo ?_))
  repeat refine st mo ?_
  refine ⟨fun h1 => ?_, fun h1 => ?_⟩
  · have hty := itO1 hi h1
    have hok1 : ∀ w ∈ [FieW, y.nm, ColW], wok w := cons_ok ⟨by decide, by decide⟩ (cons_ok hnm (one_ok sym_ok))
    cases hnd : y.nd with
    | true =>
      have e : itw d y = [FieW, y.nm, ColW] ++ (tyw y.tk y.tp ++ ([NeeW] ++ [SemW])) := by rw [itw1 h1, hnd]; rfl
      rw [e]
      simp only [qps_app]
      repeat refine st mo ?_
      refine ⟨_, fun nn => r_qp t [FieW, y.nm, ColW] 2 ht hok1, st mo ?_⟩
      have ht1 := qps_size ht hok1
      generalize qps t ([FieW, y.nm, ColW]) = t1 at *
      repeat refine st mo ?_
      refine ⟨_, fun nn => r_q t1 (qps t1 (tyw y.tk y.tp)) rfl (d_typ t1 y.tk y.tp hty ht1 X') (by exact fitL_cons fp (fitL_cons fv (by rfl))) (fn := Tryz.f196), st mo ?_⟩
      have ht2 := qps_size ht1 (tyw_ok y.tk y.tp)
      generalize qps t1 (tyw y.tk y.tp) = t2 at *
      repeat refine st mo ?_
      refine ⟨fun _ => ?_, fun h => absurd h (by decide)⟩
      repeat refine st mo ?_
      refine ⟨_, fun nn => r_qp t2 [NeeW] 3 ht2 (one_ok nee_ok), st mo ?_⟩
      have ht4 := qps_size ht2 (one_ok nee_ok)
      generalize qps t2 ([NeeW]) = t4 at *
      repeat refine st mo ?_
      refine ⟨_, fun nn => r_qp t4 [SemW] 4 ht4 (one_ok (sym_ok (a := 59))), st mo ?_⟩
      repeat refine st mo ?_
      exact ⟨rfl, [0], ft0, ⟨trivial, fl rfl (q0_pur _), trivial⟩, rfl, rfl⟩
    | false =>
      have e : itw d y = [FieW, y.nm, ColW] ++ (tyw y.tk y.tp ++ [SemW]) := by rw [itw1 h1, hnd]; rfl
      rw [e]
      simp only [qps_app]
      repeat refine st mo ?_
      refine ⟨_, fun nn => r_qp t [FieW, y.nm, ColW] 2 ht hok1, st mo ?_⟩
      have ht1 := qps_size ht hok1
      generalize qps t ([FieW, y.nm, ColW]) = t1 at *
      repeat refine st mo ?_
      refine ⟨_, fun nn => r_q t1 (qps t1 (tyw y.tk y.tp)) rfl (d_typ t1 y.tk y.tp hty ht1 X') (by exact fitL_cons fp (fitL_cons fv (by rfl))) (fn := Tryz.f196), st mo ?_⟩
      have ht2 := qps_size ht1 (tyw_ok y.tk y.tp)
      generalize qps t1 (tyw y.tk y.tp) = t2 at *
      repeat refine st mo ?_
      refine ⟨fun h => absurd h (by decide), fun _ => ?_⟩
      repeat refine st mo ?_
      refine ⟨_, fun nn => r_qp t2 [SemW] 3 ht2 (one_ok (sym_ok (a := 59))), st mo ?_⟩
      repeat refine st mo ?_
      exact ⟨rfl, [0], ft0, ⟨trivial, fl rfl (q0_pur _), trivial⟩, rfl, rfl⟩
  repeat refine st mo ?_
  refine ⟨fun h2 => ?_, fun h2 => ?_⟩
  · obtain ⟨hty, hrn, hv⟩ := itO2 hi h2
    have hok1 : ∀ w ∈ [LinW, y.nm, ColW], wok w := cons_ok ⟨by decide, by decide⟩ (cons_ok hnm (one_ok sym_ok))
    by_cases htk : y.tk = 1
    · have e : itw d y = [LinW, y.nm, ColW] ++ (tyw y.tk y.tp ++ ([plW y.pl] ++ ([EquW] ++ (wB d y.x ++ [SemW])))) := by rw [itw2 h2, if_pos htk]
      have hpl := rnO_pl hrn htk
      obtain ⟨i, hi4, hi5, hi6⟩ := plw_at (p := y.pl) (by omega) hpl.2
      rw [e]
      simp only [qps_app]
      repeat refine st mo ?_
      refine ⟨_, fun nn => r_qp t [LinW, y.nm, ColW] 2 ht hok1, st mo ?_⟩
      have ht1 := qps_size ht hok1
      generalize qps t ([LinW, y.nm, ColW]) = t1 at *
      repeat refine st mo ?_
      refine ⟨_, fun nn => r_q t1 (qps t1 (tyw y.tk y.tp)) rfl (d_typ t1 y.tk y.tp hty ht1 X') (by exact fitL_cons fp (fitL_cons fv (by rfl))) (fn := Tryz.f196), st mo ?_⟩
      have ht2 := qps_size ht1 (tyw_ok y.tk y.tp)
      generalize qps t1 (tyw y.tk y.tp) = t2 at *
      repeat refine st mo ?_
      refine ⟨fun _ => ?_, fun h => absurd htk h⟩
      repeat refine st mo ?_
      refine ⟨_, fun _ => r_c (tc := .slice (some ⟨3, 0, none⟩) 6 1) [] [some (osV plw)] [3] rfl rfl (d_pol X') (by rfl) trivial us ⟨ul rfl rfl, trivial⟩, st mo ?_⟩
      repeat refine st mo ?_
      refine ⟨_, fun _ => r_c (tc := .string (plW y.pl)) [3] [] [] rfl rfl (d_word plw i (plW y.pl) hi6 X') (by exact fitL_cons fs (fitL_cons (fv (by rw [hi4]; rfl)) (by rfl))) ⟨trivial, fl rfl rfl, trivial⟩ uv trivial, st mo ?_⟩
      repeat refine st mo ?_
      refine ⟨_, fun nn => r_qp t2 [plW y.pl] 4 ht2 (one_ok (plw_ok hpl.1 hpl.2)), st mo ?_⟩
      have ht4 := qps_size ht2 (one_ok (plw_ok hpl.1 hpl.2))
      generalize qps t2 ([plW y.pl]) = t4 at *
      repeat refine st mo ?_
      refine ⟨dk, st mo ?_⟩
      repeat refine st mo ?_
      refine ⟨_, fun nn => r_qp t4 [EquW] 5 ht4 (one_ok (sym_ok (a := 61))), st mo ?_⟩
      have ht6 := qps_size ht4 (one_ok (sym_ok (a := 61)))
      generalize qps t4 ([EquW]) = t6 at *
      repeat refine st mo ?_
      refine ⟨_, fun nn => r_q t6 (qps t6 (wB d y.x)) rfl (d_expr d t6 y.x X' (hL.xf hX) hv ht6) (by exact fitL_cons fp (fitL_cons fv (by rfl))) (fn := Tryz.f38), st mo ?_⟩
      have ht7 := qps_size ht6 (wBd_ok hL hv)
      generalize qps t6 (wB d y.x) = t7 at *
      repeat refine st mo ?_
      refine ⟨_, fun nn => r_qp t7 [SemW] 6 ht7 (one_ok (sym_ok (a := 59))), st mo ?_⟩
      repeat refine st mo ?_
      exact ⟨rfl, [0], ft0, ⟨trivial, fl rfl (q0_pur _), trivial⟩, rfl, rfl⟩
    · have e : itw d y = [LinW, y.nm, ColW] ++ (tyw y.tk y.tp ++ ([EquW] ++ (wB d y.x ++ [SemW]))) := by rw [itw2 h2, if_neg htk]; rfl
      rw [e]
      simp only [qps_app]
      repeat refine st mo ?_
      refine ⟨_, fun nn => r_qp t [LinW, y.nm, ColW] 2 ht hok1, st mo ?_⟩
      have ht1 := qps_size ht hok1
      generalize qps t ([LinW, y.nm, ColW]) = t1 at *
      repeat refine st mo ?_
      refine ⟨_, fun nn => r_q t1 (qps t1 (tyw y.tk y.tp)) rfl (d_typ t1 y.tk y.tp hty ht1 X') (by exact fitL_cons fp (fitL_cons fv (by rfl))) (fn := Tryz.f196), st mo ?_⟩
      have ht2 := qps_size ht1 (tyw_ok y.tk y.tp)
      generalize qps t1 (tyw y.tk y.tp) = t2 at *
      repeat refine st mo ?_
      refine ⟨fun h => absurd h htk, fun _ => ?_⟩
      repeat refine st mo ?_
      refine ⟨_, fun nn => r_qp t2 [EquW] 3 ht2 (one_ok (sym_ok (a := 61))), st mo ?_⟩
      have ht4 := qps_size ht2 (one_ok (sym_ok (a := 61)))
      generalize qps t2 ([EquW]) = t4 at *
      repeat refine st mo ?_
      refine ⟨_, fun nn => r_q t4 (qps t4 (wB d y.x)) rfl (d_expr d t4 y.x X' (hL.xf hX) hv ht4) (by exact fitL_cons fp (fitL_cons fv (by rfl))) (fn := Tryz.f38), st mo ?_⟩
      have ht5 := qps_size ht4 (wBd_ok hL hv)
      generalize qps t4 (wB d y.x) = t5 at *
      repeat refine st mo ?_
      refine ⟨_, fun nn => r_qp t5 [SemW] 4 ht5 (one_ok (sym_ok (a := 59))), st mo ?_⟩
      repeat refine st mo ?_
      exact ⟨rfl, [0], ft0, ⟨trivial, fl rfl (q0_pur _), trivial⟩, rfl, rfl⟩
  · have h3 : y.k = 3 := by omega
    have hv := itO3 hi h3
    have hok1 : ∀ w ∈ [CheW, y.nm, EquW], wok w := cons_ok ⟨by decide, by decide⟩ (cons_ok hnm (one_ok sym_ok))
    rw [itw3 h3]
    simp only [qps_app]
    repeat refine st mo ?_
    refine ⟨_, fun nn => r_qp t [CheW, y.nm, EquW] 2 ht hok1, st mo ?_⟩
    have ht1 := qps_size ht hok1
    generalize qps t ([CheW, y.nm, EquW]) = t1 at *
    repeat refine st mo ?_
    refine ⟨_, fun nn => r_q t1 (qps t1 (wB d y.x)) rfl (d_expr d t1 y.x X' (hL.xf hX) hv ht1) (by exact fitL_cons fp (fitL_cons fv (by rfl))) (fn := Tryz.f38), st mo ?_⟩
    have ht2 := qps_size ht1 (wBd_ok hL hv)
    generalize qps t1 (wB d y.x) = t2 at *
    repeat refine st mo ?_
    refine ⟨_, fun nn => r_qp t2 [SemW] 3 ht2 (one_ok (sym_ok (a := 59))), st mo ?_⟩
    repeat refine st mo ?_
    exact ⟨rfl, [0], ft0, ⟨trivial, fl rfl (q0_pur _), trivial⟩, rfl, rfl⟩
end Go.Proofs.YtpabcmaeaiaknaaGreatDoor
