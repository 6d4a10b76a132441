/-
  Sorting a slice of one's own. Names, as the program tells them.
-/
import Derived.Test.YtfmfeipeeedfpaaGreatMd
import Derived.Test.YtfmfeipeeedfpaaGreatShf
namespace Go.Proofs.YtfmfeipeeedfpaaGreat
open S Go.Sort Go.Lib
abbrev hB (cells : List Value) : HT := [(0 + 4096, none), (0, some (cells.map rel1))]
theorem putRow_id {α : Type} [Inhabited α] (enc : α → Value) (w : World) (b : Nat) (d : Array α) : putRow enc w b 0 d = putRow id w b 0 (d.map enc) := by
  unfold putRow
  congr 1
  funext c
  unfold putCells
  apply Array.ext
  · simp
  · intro i h1 h2
    simp only [Array.getElem_mapIdx, Nat.zero_le, true_and, Nat.zero_add, Array.size_map, Nat.sub_zero, id]
    by_cases hi : i < d.size
    · rw [if_pos hi, if_pos hi, getElem!_pos d i hi, getElem!_pos (d.map enc) i (by simpa using hi), Array.getElem_map]
    · rw [if_neg hi, if_neg hi]
theorem heap_put {W : World} {b n : Nat} {os : Array Obj} {F : Array Value} {cells sp : List Value} {ty : TypeId} (h : W.heap[b]? = some (.cells (cells ++ sp).toArray ty (0, 0))) (hF : F.size = cells.length) : (grow (putRow id (Sort.ahead W n) b 0 F) os).heap[b]? = some (.cells (F.toList ++ sp).toArray ty (0, 0)) := by
  have hb : b < W.heap.size := (Array.getElem?_eq_some_iff.1 h).1
  rw [heap_grow_old _ _ (by simpa [putRow, mapBlock, Sort.ahead] using hb)]
  have e : putCells id 0 F (cells ++ sp).toArray = (F.toList ++ sp).toArray := by
    apply Array.ext'
    apply List.ext_getElem?
    intro j
    rw [Array.getElem?_toList]
    simp only [putCells, Nat.zero_le, true_and, Nat.zero_add, Nat.sub_zero, id, Array.getElem?_mapIdx, List.getElem?_toArray]
    by_cases hj : j < F.size
    · rw [List.getElem?_append_left (by omega), List.getElem?_append_left (by simpa using hj), List.getElem?_eq_getElem (by omega)]
      simp [hj]
    · rw [List.getElem?_append_right (by omega), List.getElem?_append_right (by simp; omega)]
      rw [show j - F.toList.length = j - cells.length by simp [hF]]
      cases sp[j - cells.length]? <;> simp [hj]
  simp [putRow, mapBlock, Sort.ahead, Array.getElem?_modify, h, onCells, e]
theorem heap_put_ne {W : World} {b n b' : Nat} {os : Array Obj} {F : Array Value} (hne : b' ≠ b) (hb : b' < W.heap.size) : (grow (putRow id (Sort.ahead W n) b 0 F) os).heap[b']? = W.heap[b']? := by
  rw [heap_grow_old _ _ (by simpa [putRow, mapBlock, Sort.ahead] using hb)]
  simp [putRow, mapBlock, Sort.ahead, Array.getElem?_modify, Ne.symm hne]
/-- A call that sorts: the cells in another order. -/
theorem sort_ctr {X : World} {f : FuncId} {len es : Nat} {cells cells' tl : List Value} (hl : cells'.length = cells.length) (ht : ∀ k us, LR (VX k) tl us → us = tl)
    (H : ∀ (W : World) (b cap : Nat) (sp : List Value) (ty : TypeId), W.heap[b]? = some (.cells (cells ++ sp).toArray ty (0, 0)) → len ≤ cap → Calls Tryz.prog f (.slice (some ⟨b, 0, none⟩) len cap :: tl).toArray W fun e W' => e = .returned (.tuple #[]) ∧ ∃ (n : Nat) (os : Array Obj), W' = grow (putRow id (Sort.ahead W n) b 0 cells'.toArray) os) :
    Ctr Tryz.prog X f (.slice (some ⟨0, 0, none⟩) len es :: tl) (hB cells) 1 1 (.tuple #[]) (hB cells') 1 := by
  intro W k us ky hX hv
  obtain ⟨u, us', rfl, h1, h2⟩ := hv
  have h3 := ht k us' h2
  subst h3
  obtain ⟨_, b, z, c, hk, rfl, hlc, _⟩ := h1.slc_inv
  obtain ⟨b2, vs, sp, ty, e1, e2, e3⟩ := (ky.hr.rep 0 (tb_ones.2 (by omega)) (cells.map rel1) rfl).cel hk
  have hk' : k 0 = some (b, z + 1) := hk
  rw [hk'] at e1; cases e1
  have h6 := LR.map (p := pur1) (d := den1) (fun _ _ h => pur1_eq h) e3 (by simp [pur_rel1])
  rw [List.map_map, show den1 ∘ rel1 = id from funext den_rel1, List.map_id] at h6
  subst h6
  refine (H W b c sp ty e2 hlc).mono ?_
  rintro e W' ⟨rfl, n, os, rfl⟩
  have hp := heap_put (n := n) (os := os) (F := cells'.toArray) e2 (by simp [hl])
  refine ⟨_, k, rfl, undef_vx, ⟨⟨fun i hi cs hc => ?_, fun i j hi hj _ _ hij => ?_⟩, fun i hi => ?_, ky.nk⟩, fun _ _ => rfl, fun i b' z' hk2 => Or.inr ⟨i, z', ?_, hk2⟩, fun b' hb' hj => heap_put_ne (fun e => hj 0 (vs.length + sp.length + 1) (by omega) (by rw [e]; exact hk')) hb', ?_, rfl, ⟨rfl, ?_⟩, rfl⟩
  · have : i < 1 := tb_ones.1 hi
    have : i = 0 := by omega
    subst this
    have hc' : cs = cells'.map rel1 := (Option.some.inj hc).symm
    subst hc'
    exact Or.inl ⟨b, cells', sp, ty, by rw [hk', hl], hp, rels_vx cells'⟩
  · have h1 : i < 1 := tb_ones.1 hi
    have h2 : j < 1 := tb_ones.1 hj
    exact absurd (by omega) hij
  · show hget (hB cells') i = none
    unfold hget
    cases hbl : Nat.blt i 4096 with
    | false => rfl
    | true =>
      have : i < 4096 := by simpa using hbl
      have e1 : Nat.beq (0 + 4096) i = false := beq_f (by omega)
      have e2 : Nat.beq 0 i = false := beq_f (by omega)
      simp [hlook, e1, e2]
  · rcases Nat.lt_or_ge i 1 with h | h
    · exact h
    · rw [ky.nk i h] at hk2; cases hk2
  · show W.heap.size ≤ (grow (putRow id (Sort.ahead W n) b 0 cells'.toArray) os).heap.size
    simp [grow, putRow, mapBlock, Sort.ahead]
  · show W.drawn ≤ W.drawn + n
    omega
/-- Texts in their order. -/
def srt (L : List ByteArray) : List ByteArray := ((L.map (·.data.toList)).mergeSort (fun x y => decide (x ≤ y))).map fun l => ⟨l.toArray⟩
theorem srt_len (L : List ByteArray) : (srt L).length = L.length := by unfold srt; simp
abbrev sv (L : List ByteArray) : List Value := L.map Value.string
theorem sort_s (X : World) (L : List ByteArray) (hb : L.length ≤ 1000000000) : Ctr Tryz.prog X 48 [.slice (some ⟨0, 0, none⟩) L.length 1] (hB (sv L)) 1 1 (.tuple #[]) (hB (sv (srt L))) 1 := by
  refine sort_ctr (by simp [srt_len]) (fun k us h => h) fun W b cap sp ty hW _ => ?_
  have hlen : (L.map (·.data.toList)).length = L.length := by simp
  have hH : Holds encStr W b 0 (L.map (·.data.toList)).toArray := by
    intro j hj
    have hj' : j < L.length := by simpa using hj
    refine ⟨?_, by simp [World.frozen?, hW]⟩
    have : (L.map (·.data.toList)).toArray[j]! = L[j].data.toList := by
      rw [getElem!_pos _ j hj]; simp
    rw [this, Nat.zero_add, cell_of hW, List.getElem?_append_left (by simpa using hj')]
    simp [hj', encStr]
  have := Tryz.slices_Sort_string b 0 cap (L.map (·.data.toList)) W hH (Array.getElem?_eq_some_iff.1 hW).1 (by omega)
  rw [hlen] at this
  refine this.mono ?_
  rintro e W' ⟨rfl, n, os, rfl⟩
  refine ⟨rfl, n, os, ?_⟩
  rw [putRow_id]
  congr 2
  simp [sv, srt, encStr]
end Go.Proofs.YtfmfeipeeedfpaaGreat
namespace Go.Proofs.YtfmfeipeeedfpaaGreat
open S Go.Sort Go.Lib
/-- A list of texts as a slice of one's own. -/
def lvS (b : Nat) (L : List ByteArray) : Value := match L with
  | [] => .slice none 0 0
  | _ :: l => .slice (some ⟨b, 0, none⟩) (l.length + 1) 1
def hSs (L : List ByteArray) : HT := match L with
  | [] => []
  | _ :: _ => hB (sv L)
def nSs (L : List ByteArray) : Nat := match L with
  | [] => 0
  | _ :: _ => 1
/-- The keys in the order in which they come. -/
def ksN (d : Nat) (x : Ex) : List ByteArray := (gth kxN d x []).map Prod.fst
theorem gth_len {κ : Type} [DecidableEq κ] (kx : Ex → Option κ) (d : Nat) (x : Ex) : (gth kx d x []).length ≤ nds d x := by
  have := (Iv.gth (kx := kx) (d := d) (x := x) (al := ([] : List (κ × Int))) (c := 0) ⟨fun _ h => (by cases h), Nat.le_refl _⟩).l
  omega
theorem sort_s0 (W : World) : Calls Tryz.prog 48 #[.slice none 0 0] W fun e W' => e = .returned (.tuple #[]) ∧ Mb W W' := (Tryz.slices_Sort_string_none none 0 W).mono (by rintro e W' ⟨rfl, rfl⟩; exact ⟨rfl, Go.RowKit.Below.refl _ _, Nat.le_refl _⟩)
set_option maxRecDepth 20000 in
theorem names_n (d : Nat) (X : World) (x : Ex) (hL : LT X d x) (hb : nds d x ≤ 1000000000) : Ctr Tryz.prog X 17 [.agg (x.c.map rel1).toArray] [] 0 0 (lvS 0 (srt (ksN d x))) (hSs (srt (ksN d x))) (nSs (srt (ksN d x))) := by
  have hlen := gth_len kxN d x
  refine fn_c _ Tryz.func17 rfl rfl rfl rfl (fun w l X' hX => run_ok (st mo ?_))
  have g := gat_n d X' x (hL.mono (xcell hX)) hb
  unfold ksN
  generalize gth kxN d x [] = al at g hlen
  rcases al with _ | ⟨q, al⟩
  · have e0 : srt (([] : AL).map Prod.fst) = [] := by simp [srt]
    rw [e0]
    refine ⟨_, fun nn => r_c (tc := .slice none 0 0) [] [] [] rfl rfl g (fitL_cons fv (fitL_cons (ff rfl) rfl)) trivial uv trivial, st mo ?_⟩
    refine ⟨_, fun nn => r_call (t := .tuple #[]) rfl rfl Tryz.func48 (fun W M E => sort_s0 W), st mo ?_⟩
    exact ⟨rfl, [], fv, trivial, rfl, rfl⟩
  · have hl2 : ((q :: al).map Prod.fst).length = al.length + 1 := by simp
    have hs := sort_s X' ((q :: al).map Prod.fst) (by rw [hl2]; simp only [List.length_cons] at hlen; omega)
    have hsl := srt_len ((q :: al).map Prod.fst)
    rw [hl2] at hs hsl
    have hc : sv ((q :: al).map Prod.fst) = (q :: al).map fun p => Value.string p.1 := by simp
    rw [hc] at hs
    generalize srt ((q :: al).map Prod.fst) = M at hs hsl
    refine ⟨_, fun nn => r_c (tc := .slice (some ⟨1, 0, none⟩) (al.length + 1) 1) [] [some (((q :: al).map fun p => Value.string p.1).map rel1)] [1] rfl rfl g (by exact fitL_cons fv (fitL_cons (ff (l := []) (m := []) rfl) rfl)) trivial us ⟨ulr rfl, trivial⟩, st mo ?_⟩
    refine ⟨_, fun nn => r_c (tc := .tuple #[]) [1] [some ((sv M).map rel1)] [1] rfl rfl hs (fitL_cons fs rfl) ⟨trivial, flr rfl, trivial⟩ ut0 ⟨ulr rfl, trivial⟩, st mo ?_⟩
    rcases M with _ | ⟨m, M⟩
    · cases hsl
    · simp only [List.length_cons] at hsl
      refine ⟨rfl, [1], ?_, ⟨trivial, flr rfl, trivial⟩, rfl, rfl⟩
      show fitV _ _ (.slice (some ⟨0, 0, none⟩) (M.length + 1) 1)
      rw [hsl]
      exact fs
end Go.Proofs.YtfmfeipeeedfpaaGreat
