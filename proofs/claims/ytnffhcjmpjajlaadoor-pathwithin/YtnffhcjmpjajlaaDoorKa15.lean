/-
  A part of the proof.
-/
import Derived.Test.YtnffhcjmpjajlaaDoorRows
import Derived.Test.YtnffhcjmpjajlaaDoorKa11
import Derived.Test.YtnffhcjmpjajlaaDoorKa6
import Derived.Test.YtnffhcjmpjajlaaDoorKa5
import Derived.Test.YtnffhcjmpjajlaaDoorKa4
import Derived.Test.YtnffhcjmpjajlaaDoorKa3
import Derived.Test.YtnffhcjmpjajlaaDoorKa2
import Derived.Test.YtnffhcjmpjajlaaDoorKa1
import Derived.RegionTactic
import Derived.Test.YtnffhcjmpjajlaaDoorProg
import Derived.WalkKit
import Derived.WalkSpells
import Derived.Handy
import Derived.BigQuiet
import Derived.Deep.RegionHeld3
import Derived.Deep.MidRow
import Derived.BigCall
import Derived.ChangeKeysEq
import Derived.Shelf.Small.Bits
import Derived.Shelf.Strconv.Itoa0
import Derived.Shelf.Bits.Mul64
import Derived.Deep.CutRange
import Derived.Deep.CutBlock
import Derived.ScopeJumps
import Derived.WalkMore
import Derived.Laws.StructEq
import Derived.Lib.CutLaws
import Derived.Maps.OwnSet
import Derived.WalkArith
import Derived.StringKeys
import Derived.ProofKit
import Derived.OpenShut
import Derived.ChangeArms
import Derived.Deep.Slices
import Derived.ReadAgain
import Derived.WideKeyArgs
import Derived.Maps.AppendAt
import Derived.Test.YtnffhcjmpjajlaaDoorKa8
import Derived.Shelf.Strconv.Itoa4
import Derived.Test.YtnffhcjmpjajlaaDoorKa10
import Derived.Test.YtnffhcjmpjajlaaDoorKa9
import Derived.Lib.IndexBytes
import Derived.Lib.AppendIntMem
import Derived.Carry
import Derived.ChangeMaps5
import Derived.ChangeSame
import Derived.ChangeVars
import Derived.JoinedOf
import Derived.RowKitTokens
import Derived.LaidLaws
import Derived.LaidHandle
import Derived.Stop.Joined
import Derived.Lib.LaidIn
import Derived.Lib.LaidTab
import Derived.SizedLaws
import Derived.Deep.Strs
namespace Go.Proofs.YtnffhcjmpjajlaaDoor
open Go.ChangeShapes Go.WideShapes Go.ChangeAt Go.RowKit Go.ChangeMaps D
set_option maxRecDepth 100000
theorem Tryd.own : ownKnob Tryd.prog.godebug = none := by kernel_rfl
theorem Tryd.laidOut : laidOutB Tryd.prog = true := by kernel_rfl
section
variable {H : Type} {enc : TypeId × Value → H} {W : World} {sp : Nat → Bool} {B : Nat}
theorem all_wt {P : Program} {e : TypeId} : ∀ {l : List (DataW H)} {d : DataW H}, d ∈ l → ∀ q ∈ d.weights P e, q ∈ DataW.weightsAll P e l
 | d0 :: l, d, hd, q, hq => by
  simp only [DataW.weightsAll, List.mem_append]
  rcases List.mem_cons.1 hd with rfl | h
  ·exact Or.inl hq
  ·exact Or.inr (all_wt h q hq)
theorem wt_sl {fuel : Nat} {x : DataW H × List MemPlace} {t e : TypeId} (hu : Tryd.prog.underlying t = some (.slice e)) {n : Nat} (hcl : Tryd.prog.cellsOf e = n) {α : Type} {cells : α → List Value} (hlen : ∀ y, (cells y).length = n)
  {pa : Option Addr} {L : List α} {cap : Nat} (hS : SL W n cells pa L) (h : DataW.trod enc Tryd.prog W 0 sp true fuel t [.slice pa L.length cap] = some x) (hz : ∀ q ∈ x.1.weights Tryd.prog t, q ≤ B) :
  L.length * Tryd.prog.bytesOf e ≤ B ∧ ∀ o ∈ L, ∃ m y, m < fuel ∧ DataW.trod enc Tryd.prog W 0 sp true m e (cells o) = some y ∧ ∀ q ∈ y.1.weights Tryd.prog e, q ≤ B := by
 rcases DataW.trod_slice hu h with ⟨hcs, _⟩ | ⟨a, len, cap', elems, rest, k, rfl, hcs, hx, _, _, _, hlen2, hel, _, _⟩
 ·simp only [List.cons.injEq, Value.slice.injEq, and_true] at hcs
  have h0 : L = [] := List.length_eq_zero_iff.1 hcs.2.1
  subst h0
  exact ⟨by simp, fun o ho => by cases ho⟩
 ·simp only [List.cons.injEq, Value.slice.injEq, and_true] at hcs
  obtain ⟨rfl, rfl, rfl⟩ := hcs
  have hw : x.1.weights Tryd.prog t = (elems.length + rest.length) * Tryd.prog.bytesOf e :: (DataW.weightsAll Tryd.prog e (elems.map (·.1)) ++ DataW.weightsAll Tryd.prog e (rest.map (·.1))) := by
   rw [hx]; simp [DataW.weights, hu]
  rw [hw] at hz
  refine ⟨?_, fun o ho => ?_⟩
  ·have h1 := hz _ (List.mem_cons_self ..)
   have h2 : L.length * Tryd.prog.bytesOf e ≤ (elems.length + rest.length) * Tryd.prog.bytesOf e := Nat.mul_le_mul_right _ (by omega)
   omega
  ·obtain ⟨i, hi⟩ := List.getElem?_of_mem ho
   have hil : i < L.length := lt_of_get hi
   have h1 := hel i hil
   obtain ⟨y, hy⟩ := get_of_lt (show i < elems.length by omega)
   rw [hy, hcl] at h1
   cases h2 : W.cells? 0 (a.add (i * n)) n with
   | none => rw [h2] at h1; cases h1
   | some cs =>
    rw [h2] at h1
    obtain ⟨_, hcn, hcc⟩ := World.cells?_some h2
    obtain ⟨b, off, e1, _, hr⟩ := hS.2 i o hi
    cases e1
    have e2 : cs = cells o := by
     refine List.ext_getElem? (fun j => ?_)
     rcases Nat.lt_or_ge j n with q | q
     ·rw [← hcc j q]
      obtain ⟨v, hv⟩ := get_of_lt (show j < (cells o).length by rw [hlen]; exact q)
      rw [hv, Addr.add_mid, Addr.add_mid]
      exact hr j v hv
     ·rw [List.getElem?_eq_none (by omega), List.getElem?_eq_none (by rw [hlen]; omega)]
    subst e2
    exact ⟨k, y, Nat.lt_succ_self _, h1, fun q hq => hz q (List.mem_cons_of_mem _ (List.mem_append_left _ (all_wt (List.mem_map_of_mem (List.mem_of_getElem? hy)) q hq)))⟩
theorem wt_fd {fuel : Nat} {cs : List Value} {x : DataW H × List MemPlace} {t : TypeId} {fs : Array Field} (hu : Tryd.prog.underlying t = some (.struct fs)) (h : DataW.trod enc Tryd.prog W 0 sp true fuel t cs = some x) (hz : ∀ q ∈ x.1.weights Tryd.prog t, q ≤ B) (j T O : Nat) {N : Nat} (hT : (fs[j]?).map (fun f => (f.type, f.offset)) = some (T, O)) (hN : Tryd.prog.cellsOf T = N) :
  ∃ m y, m < fuel ∧ DataW.trod enc Tryd.prog W 0 sp true m T ((cs.drop O).take N) = some y ∧ ∀ q ∈ y.1.weights Tryd.prog T, q ≤ B := by
 obtain ⟨f, hf, e⟩ := Option.map_eq_some_iff.1 hT
 cases e
 subst hN
 obtain ⟨xs, m, rfl, hx, _, hlen, hi⟩ := DataW.trod_struct hu h
 have h1 := hi j f hf
 have hj : j < fs.size := (Array.getElem?_eq_some_iff.1 hf).1
 obtain ⟨y, hy⟩ := get_of_lt (show j < xs.length by omega)
 rw [hy] at h1
 refine ⟨m, y, Nat.lt_succ_self _, h1, fun q hq => hz q ?_⟩
 rw [hx]
 simp only [DataW.weights, hu]
 exact DataW.weights_mem_each (j := j) (t := f.type) (d := y.1) (by rw [List.getElem?_map, Array.getElem?_toList, hf]; rfl) (by rw [List.getElem?_map, hy]; rfl) q hq
theorem wt_str {fuel : Nat} {s : ByteArray} {x : DataW H × List MemPlace} (h : DataW.trod enc Tryd.prog W 0 sp true fuel 9 [.string s] = some x) (hz : ∀ q ∈ x.1.weights Tryd.prog 9, q ≤ B) : s.size ≤ B := by
 obtain ⟨s', e, rfl, _⟩ := DataW.trod_string Tryd.underlying9 h
 simp only [List.cons.injEq, Value.string.injEq, and_true] at e
 subst e
 exact hz _ (by show s.size ∈ [_]; exact List.mem_singleton.2 rfl)
end
section
variable {H : Type} {enc : TypeId × Value → H} {W : World} {base : Nat} {v : Value} {d : DataW H} {p : List MemPlace}
theorem rb47 {n : Nat} (h : n ≤ reachBytes) : n ≤ 140737488355328 := by unfold reachBytes at h; omega
theorem sects_of {fuel : Nat} {a : Option Addr} {n c : Nat} (hf : DataW.trod enc Tryd.prog W 0 (fun _ => true) true fuel 22 [.slice a n c] = some (d, p)) (hwt : ∀ q ∈ d.weights Tryd.prog 22, q ≤ reachBytes) : ∃ l : List S5, n = l.length ∧ LL W a l ∧ l.length ≤ c := by
 obtain ⟨l, pl, cl, e, hok, hS, hlc⟩ := cut_sl Tryd.underlying22 (n := 5) (by decide) cl_Sect S5.cells ⟨0, 0, ⟨#[]⟩, 0, none, 0, []⟩ (fun x => LS5 W x) (fun _ => rfl) (fun _ h => cut_sect h) hf
 simp only [Value.slice.injEq] at e
 obtain ⟨rfl, rfl, rfl⟩ := e
 obtain ⟨_, h2⟩ := wt_sl Tryd.underlying22 cl_Sect (fun _ => rfl) hS (cap := c) hf hwt
 refine ⟨l, rfl, ⟨hS, fun x hx => (hok x hx).it, fun x hx => ?_, fun x hx y hy => ?_⟩, hlc⟩
 ·obtain ⟨m, z, _, hz, hzw⟩ := h2 x hx
  obtain ⟨m2, z2, _, hz2, hzw2⟩ := wt_fd Tryd.underlying65 hz hzw 2 9 2 rfl cl_string
  exact rb47 (wt_str hz2 hzw2)
 ·obtain ⟨m, z, _, hz, hzw⟩ := h2 x hx
  obtain ⟨m2, z2, _, hz2, hzw2⟩ := wt_fd Tryd.underlying65 hz hzw 4 42 4 rfl cl_SItem
  obtain ⟨_, h3⟩ := wt_sl Tryd.underlying42 cl_Item It.len (hok x hx).it (cap := x.ci) hz2 hzw2
  obtain ⟨m3, z3, _, hz3, hzw3⟩ := h3 y hy
  obtain ⟨m4, z4, _, hz4, hzw4⟩ := wt_fd Tryd.underlying79 hz3 hzw3 0 9 0 rfl cl_string
  exact rb47 (wt_str hz4 hzw4)
theorem open_sects (hv : Value.okWide Tryd.prog W .any base 22 v) (h : DataW.Trod enc Tryd.prog W 0 (fun _ => true) true 22 v d p) (hwt : ∀ q ∈ d.weights Tryd.prog 22, q ≤ reachBytes) : ∃ (l : List S5) (pl : Option Addr) (cl : Nat), v = .slice pl l.length cl ∧ LL W pl l ∧ l.length ≤ cl := by
 obtain ⟨a, n, c, rfl⟩ := okWide_slice Tryd.underlying22 hv
 obtain ⟨fuel, hf⟩ := h
 obtain ⟨l, rfl, hl, hc⟩ := sects_of hf hwt
 exact ⟨l, a, c, rfl, hl, hc⟩
end
namespace D
theorem trodAll_stays {H : Type} {enc : TypeId × Value → H} {W W' : World} {sp' : Nat → Bool} : ∀ {ts : List TypeId} {vs : List Value} {ds : List (DataW H)} {ps : List MemPlace}, (∀ t ∈ ts, Tryd.prog.readableRec t = true ∧ t < Tryd.prog.types.size) → DataW.TrodAll enc Tryd.prog W 0 (fun _ => true) true ts vs ds ps → (∀ p ∈ ps, W.sameAt W' p) → (∀ p ∈ ps, sp' p.block = true) → DataW.TrodAll enc Tryd.prog W' 0 sp' true ts vs ds ps
 | [], [], [], _, _, h, _, _ => h
 | _ :: _, _ :: _, _ :: _, _, hT, ⟨p, q, h1, h2, e⟩, hm, hs => ⟨p, q, WideElems.Trod_stays Tryd.laidOut (hT _ (List.mem_cons.2 (Or.inl rfl))).1 (hT _ (List.mem_cons.2 (Or.inl rfl))).2 h1 (fun x hx => hm x (by rw [e]; exact List.mem_append_left _ hx)) (fun x hx => hs x (by rw [e]; exact List.mem_append_left _ hx)),
   trodAll_stays (fun t ht => hT t (List.mem_cons.2 (Or.inr ht))) h2 (fun x hx => hm x (by rw [e]; exact List.mem_append_right _ hx)) (fun x hx => hs x (by rw [e]; exact List.mem_append_right _ hx)), e⟩
end D
def pow10Cells : Array Value := #[.int .u64 1, .int .u64 10, .int .u64 100, .int .u64 1000, .int .u64 10000, .int .u64 100000, .int .u64 1000000, .int .u64 10000000, .int .u64 100000000, .int .u64 1000000000, .int .u64 10000000000, .int .u64 100000000000, .int .u64 1000000000000, .int .u64 10000000000000, .int .u64 100000000000000, .int .u64 1000000000000000, .int .u64 10000000000000000, .int .u64 100000000000000000, .int .u64 1000000000000000000, .int .u64 10000000000000000000]
def tab32Cells : Array Value := #[.int .u8 0, .int .u8 1, .int .u8 28, .int .u8 2, .int .u8 29, .int .u8 14, .int .u8 24, .int .u8 3, .int .u8 30, .int .u8 22, .int .u8 20, .int .u8 15, .int .u8 25, .int .u8 17, .int .u8 4, .int .u8 8, .int .u8 31, .int .u8 27, .int .u8 13, .int .u8 23, .int .u8 21, .int .u8 19, .int .u8 16, .int .u8 7, .int .u8 26, .int .u8 12, .int .u8 18, .int .u8 6, .int .u8 11, .int .u8 5, .int .u8 10, .int .u8 9]
def tab64Cells : Array Value := #[.int .u8 0, .int .u8 1, .int .u8 56, .int .u8 2, .int .u8 57, .int .u8 49, .int .u8 28, .int .u8 3, .int .u8 61, .int .u8 58, .int .u8 42, .int .u8 50, .int .u8 38, .int .u8 29, .int .u8 17, .int .u8 4, .int .u8 62, .int .u8 47, .int .u8 59, .int .u8 36, .int .u8 45, .int .u8 43, .int .u8 51, .int .u8 22, .int .u8 53, .int .u8 39, .int .u8 33, .int .u8 30, .int .u8 24, .int .u8 18, .int .u8 12, .int .u8 5, .int .u8 63, .int .u8 55, .int .u8 48, .int .u8 27, .int .u8 60, .int .u8 41, .int .u8 37, .int .u8 16, .int .u8 46, .int .u8 35, .int .u8 44, .int .u8 21, .int .u8 52, .int .u8 32, .int .u8 23, .int .u8 11, .int .u8 54, .int .u8 26, .int .u8 40, .int .u8 15, .int .u8 34, .int .u8 20, .int .u8 31, .int .u8 10, .int .u8 25, .int .u8 14, .int .u8 19, .int .u8 9, .int .u8 13, .int .u8 8, .int .u8 7, .int .u8 6]
def layW (w0 : World) : World :=
 { w0 with heap := ((w0.heap.modify 0 fun
   | .cells _ t frozen => .cells pow10Cells t frozen
   | o => o).modify 1 fun
   | .cells _ t frozen => .cells tab32Cells t frozen
   | o => o).modify 2 fun
   | .cells _ t frozen => .cells tab64Cells t frozen
   | o => o }
theorem laidWorld_met (os : Os) (args : Array Value) : laidMetH Tryd.prog Rows.pathChecksRow.laid ((layW (World.holding Tryd.prog os ⟨#[], #[], []⟩)).forCall (fun _ _ => 0) ⟨#[], args, []⟩).memory := by
 show laidMet Tryd.prog [("math/bits.deBruijn32tab", Rows.laid_math_bits_deBruijn32tab), ("math/bits.deBruijn64tab", Rows.laid_math_bits_deBruijn64tab), ("internal/strconv.uint64pow10", Rows.laid_internal_strconv_uint64pow10)] _
 exact (LaidIn.of_run [0, 1, 2] 8 (by kernel_rfl) (by kernel_rfl) (by kernel_rfl) (by kernel_rfl)).met
theorem laid_tail {P : Program} {x : String × DataW Unit} {r : List (String × DataW Unit)} {w : World} (h : laidMet P (x :: r) w) : laidMet P r w := by
 obtain ⟨ps, ⟨g, t, cs, fuel, p, q, _, _, _, _, hr, rfl⟩, hn, hz⟩ := h
 exact ⟨q, hr, (List.nodup_append.1 hn).2.1, fun b off hb => hz b off (List.mem_append_right _ hb)⟩
theorem tb_of {W : World} (h : laidMetH Tryd.prog Rows.pathChecksRow.laid W) : TB W := by
 have h1 : laidMet Tryd.prog [("math/bits.deBruijn32tab", Rows.laid_math_bits_deBruijn32tab), ("math/bits.deBruijn64tab", Rows.laid_math_bits_deBruijn64tab), ("internal/strconv.uint64pow10", Lib.tabData .u64 Lib.pow10Tab)] W := h
 exact Lib.tabIs_of_head (g := 0) (by kernel_rfl) rfl (Tryd.underlying140) (Tryd.underlying68) (by kernel_rfl) (by kernel_rfl) (laid_tail (laid_tail h1))
theorem post_mw {H : Type} {enc : TypeId × Value → H} {P : Program} {f : Func} {s : ChangeSpec} {apart fresh handsOn : Bool} {W W' : World} {args : Array Value} {v : Value} {ds gs : List (DataW H)} {p : List MemPlace}
  (hW : DataW.Whole enc P f.params.toList s.vars apart W args.toList ds gs p)
  (hres : ∀ (b : Nat) (sp : Nat → Bool) (hd : Bool), DataW.TrodAll enc P W' b sp hd f.resultTypes.toList (v.resultList f.resultTypes.size) (s.fn H (ds ++ gs)).results [])
  (hargs : ∀ sp : Nat → Bool, (∀ x ∈ p, sp x.block = true) → DataW.TrodAll enc P W' 0 sp true f.params.toList args.toList (s.fn H (ds ++ gs)).args p)
  (hvars : ∀ sp : Nat → Bool, DataW.TrodVars enc P W' sp s.vars (s.fn H (ds ++ gs)).vars []) (hk : V.Mw W W') :
  s.post enc P f apart fresh handsOn false W args v W' :=
 ⟨ds, gs, p, [], p, [], hW, hres _ _ _, hargs _ (fun x hx => by simpa using hW.lt x hx), hvars _, World.keptBut_mono (fun x hx => ⟨hx, Or.inr (Or.inl hx)⟩) (Below.frame hk (· ∈ p)), fun h => by cases h⟩
end Go.Proofs.YtnffhcjmpjajlaaDoor
