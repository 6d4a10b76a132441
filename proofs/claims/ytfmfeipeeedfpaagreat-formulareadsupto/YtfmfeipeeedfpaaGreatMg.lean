/-
  A text put to a list of texts, as the document does it. Names, as the document tells them.
-/
import Derived.Test.YtfmfeipeeedfpaaGreatMf
import Derived.Test.YtfmfeipeeedfpaaGreatLi
namespace Go.Proofs.YtfmfeipeeedfpaaGreat
open S Go.Sort Go.Lib
/-- How many stand ahead. -/
def cntL {κ : Type} (lb : κ → κ → Bool) (s : κ) : List κ → Nat
  | [] => 0
  | a :: L => bif lb a s then cntL lb s L + 1 else 0
theorem cntL_le {κ : Type} (lb : κ → κ → Bool) (s : κ) : ∀ L : List κ, cntL lb s L ≤ L.length
  | [] => Nat.le_refl _
  | a :: L => by simp only [cntL, List.length_cons]; cases lb a s <;> simp; exact cntL_le lb s L
theorem cntL_lt {κ : Type} (lb : κ → κ → Bool) (s : κ) : ∀ (L : List κ) (k : Nat) (a : κ), k ≤ cntL lb s L → L[k]? = some a → (lb a s = true → k + 1 ≤ cntL lb s L) ∧ (lb a s = false → k = cntL lb s L)
  | [], k, a, _, h => by cases h
  | b :: L, k, a, hk, h => by
    simp only [cntL] at hk ⊢
    cases hb : lb b s with
    | false =>
      rw [hb] at hk
      have : k = 0 := by simpa using hk
      subst this
      simp at h; subst h
      rw [hb]
      exact ⟨fun e => (by cases e), fun _ => rfl⟩
    | true =>
      rw [hb] at hk
      simp only [cond_true] at hk ⊢
      cases k with
      | zero =>
        simp at h; subst h
        exact ⟨fun _ => by omega, fun e => by rw [hb] at e; cases e⟩
      | succ k =>
        have := cntL_lt lb s L k a (by omega) (by simpa using h)
        exact ⟨fun e => by have := this.1 e; omega, fun e => by have := this.2 e; omega⟩
/-- Put where it belongs, once. -/
def insL {κ : Type} [DecidableEq κ] (lb : κ → κ → Bool) (L : List κ) (s : κ) : List κ := if L[cntL lb s L]? = some s then L else L.take (cntL lb s L) ++ s :: L.drop (cntL lb s L)
def ltb (a b : ByteArray) : Bool := decide (a.data.toList < b.data.toList)
theorem ltb_t {a b : ByteArray} : ltb a b = true ↔ lts a b := by unfold ltb lts; rw [decide_eq_true_iff]
theorem ltb_f {a b : ByteArray} : ltb a b = false ↔ ¬ lts a b := by unfold ltb lts; rw [decide_eq_false_iff_not]
theorem one_sv : ∀ L : List ByteArray, allOne ((sv L).map rel1) = true
  | [] => rfl
  | a :: L => by simp only [sv, List.map_cons, allOne]; exact one_sv L
theorem sv_at {L : List ByteArray} {k : Nat} {a : ByteArray} (h : L[k]? = some a) : ((sv L).map rel1)[k]? = some (.string a) := by simp [sv, h]; rfl
theorem sv_len (L : List ByteArray) : ((sv L).map rel1).length = L.length := by simp
set_option maxRecDepth 20000 in
theorem txt_0 (X : World) (s : ByteArray) : Ctr Tryz.prog X 83 [.slice none 0 0, .string s] [] 0 0 (.slice (some ⟨0, 0, none⟩) 1 1) (hB (sv [s])) 1 := by
  refine fn_c _ Tryz.func83 rfl rfl rfl rfl (fun w l X' hX => run_ok (st mo ?_))
  refine w_loop (fun _ : Nat => ⟨⟨47, [(0, .slice none 0 0), (1, .string s), (5, .int .i64 0)]⟩, [], 0, X'⟩) (fun _ => True) (fun _ => 0) 0 trivial [] ⟨rfl, ⟨fv, fv, fv, trivial⟩, trivial, xf, rfl, rfl⟩ ?_
  intro i _
  refine st mo (st mo ⟨fun h => absurd h (by omega), fun _ => st mo (st mo (st mo ⟨fun h => absurd h (by omega), fun _ => st mo ?_⟩))⟩)
  refine ⟨_, fun nn => r_slN (Or.inl rfl) (Or.inr ⟨_, _, rfl, rfl⟩), st mo ⟨_, fun nn => r_apN, st mo ⟨1, [.string s], _, put_own rfl rfl rfl rfl rfl, by omega, by omega, st mo ?_⟩⟩⟩
  refine ⟨_, fun nn => r_slN (Or.inr ⟨_, _, rfl, rfl⟩) (Or.inl rfl), st mo ⟨_, fun nn => r_apE, st mo ?_⟩⟩
  exact ⟨rfl, [1], fs, ⟨trivial, flr rfl, trivial⟩, rfl, rfl⟩
theorem sv_take (L : List ByteArray) (k : Nat) (h : k ≤ L.length) : (sv (L.take k)).map rel1 = (((sv L).map rel1).drop 0).take (k * 1) ∧ ((sv (L.take k)).map rel1).length = k * 1 := by
  simp only [sv, List.map_take, List.drop_zero, Nat.mul_one, List.length_take, List.length_map, true_and]
  omega
theorem sv_drop (L : List ByteArray) (k : Nat) : (sv (L.drop k)).map rel1 = (((sv L).map rel1).drop (0 + k * 1)).take ((L.length - k) * 1) ∧ ((sv (L.drop k)).map rel1).length = (L.length - k) * 1 := by
  refine ⟨?_, by simp⟩
  rw [Nat.zero_add, Nat.mul_one, Nat.mul_one, List.take_of_length_le (by simp), sv, List.map_drop, List.map_drop]
set_option maxRecDepth 20000 in
theorem txt_1 (X : World) (L : List ByteArray) (s : ByteArray) (h0 : 0 < L.length) (hb : L.length ≤ 1000000000) : Ctr Tryz.prog X 83 [.slice (some ⟨0, 0, none⟩) L.length 1, .string s] (hB (sv L)) 1 0 (.slice (some ⟨0, 0, none⟩) (insL ltb L s).length 1) (hB (sv (insL ltb L s))) 1 := by
  have hcl := cntL_le ltb s L
  refine fn_c _ Tryz.func83 rfl rfl rfl rfl (fun w l X' hX => run_ok (st mo ?_))
  refine w_loop (fun k : Nat => ⟨⟨47, [(0, .slice (some ⟨0, 0, none⟩) L.length 1), (1, .string s), (5, .int .i64 (k : Int))]⟩, hB (sv L), 1, X'⟩) (fun k => k ≤ cntL ltb s L) (fun k => L.length - k) 0 (Nat.zero_le _) [0] ⟨rfl, ⟨fs, fv, fv, trivial⟩, ⟨trivial, flr rfl, trivial⟩, xf, rfl, rfl⟩ ?_
  intro k hk
  refine st mo (st mo ⟨fun hlt => ?_, fun hge => ?_⟩)
  · have hkl : k < L.length := by omega
    obtain ⟨a, ha⟩ : ∃ a, L[k]? = some a := ⟨_, List.getElem?_eq_getElem hkl⟩
    have hc := cntL_lt ltb s L k a hk ha
    refine st mo ⟨k, rfl, hkl, st mo ⟨.string a, sv_at ha, st mo ?_⟩⟩
    cases hab : ltb a s with
    | true =>
      refine ⟨litT, s_lt (ltb_t.1 hab), rfl, st mo ⟨_, wz (k + 1) rfl, st mo ?_⟩⟩
      exact ⟨k + 1, hc.1 hab, by dsimp; omega, [0], rfl, ⟨fs, fv, fv, trivial⟩, ⟨trivial, flr rfl, trivial⟩, xf, rfl, rfl⟩
    | false =>
      have hkc := hc.2 hab
      refine ⟨litF, s_nlt (ltb_f.1 hab), rfl, st mo (st mo (st mo ⟨fun _ => st mo ⟨k, rfl, hkl, st mo ⟨.string a, sv_at ha, st mo ?_⟩⟩, fun hge => absurd hge (by omega)⟩))⟩
      refine ⟨fun he => ?_, fun hne => ?_⟩
      · have hi : insL ltb L s = L := by unfold insL; rw [← hkc, ha, he, if_pos rfl]
        rw [hi]
        exact st mo ⟨rfl, [0], fs, ⟨trivial, flr rfl, trivial⟩, rfl, rfl⟩
      · have hi : insL ltb L s = L.take k ++ s :: L.drop k := by unfold insL; rw [← hkc, ha, if_neg (fun e => hne (Option.some.inj e))]
        have hlen : (L.take k ++ s :: L.drop k).length = L.length + 1 := by simp; omega
        obtain ⟨d1, d2⟩ := sv_drop L k
        rw [hi]
        rcases Nat.eq_zero_or_pos k with hk0 | hk0
        · subst hk0
          refine st mo ⟨_, fun nn => r_slE0 (b := 0) (q := 0) (m := L.length) (es := 1) rfl, st mo ⟨_, fun nn => r_apN, st mo ⟨1, [.string s], _, put_own rfl rfl rfl rfl rfl, by omega, by omega, st mo ?_⟩⟩⟩
          refine ⟨_, fun nn => r_slL (b := 0) (q := 0) (m := L.length) (es := 1) (k := 0) rfl hkl, st mo ⟨rfl, L.length - 0, (sv (L.drop 0)).map rel1, _, put_own rfl d1 d2 (one_sv _) rfl, by omega, _, rfl, st mo ?_⟩⟩
          refine ⟨rfl, [3], ?_, ⟨trivial, flr (by simp [sv]; rfl), trivial⟩, rfl, rfl⟩
          rw [hlen]
          show fitV _ (.slice (some ⟨3, 0, none⟩) (1 + (L.length - 0)) 1) _
          rw [show 1 + (L.length - 0) = L.length + 1 by omega]
          exact fs
        · obtain ⟨c1, c2⟩ := sv_take L k (by omega)
          refine st mo ⟨_, fun nn => r_slH (b := 0) (q := 0) (m := L.length) (es := 1) (k := k) rfl (by omega), st mo ⟨k, (sv (L.take k)).map rel1, _, put_own rfl c1 c2 (one_sv _) rfl, hk0, by omega, st mo ⟨c2, 1, [.string s], _, put_own rfl rfl rfl rfl rfl, by omega, _, rfl, st mo ?_⟩⟩⟩
          refine ⟨_, fun nn => r_slL (b := 0) (q := 0) (m := L.length) (es := 1) (k := k) rfl hkl, st mo ⟨?_, L.length - k, (sv (L.drop k)).map rel1, _, put_own rfl d1 d2 (one_sv _) rfl, by omega, _, rfl, st mo ?_⟩⟩
          · rw [List.length_append, c2]; rfl
          refine ⟨rfl, [4], ?_, ⟨trivial, flr (by simp [sv]; rfl), trivial⟩, rfl, rfl⟩
          rw [hlen]
          show fitV _ (.slice (some ⟨4, 0, none⟩) (k + 1 + (L.length - k)) 1) _
          rw [show k + 1 + (L.length - k) = L.length + 1 by omega]
          exact fs
  · have hkl : k = L.length := by omega
    subst hkl
    have hcn : cntL ltb s L = L.length := by omega
    have hi : insL ltb L s = L ++ [s] := by unfold insL; rw [hcn, List.getElem?_eq_none (Nat.le_refl _), if_neg (by simp)]; simp
    rw [hi]
    obtain ⟨c1, c2⟩ := sv_take L L.length (Nat.le_refl _)
    rw [List.take_length] at c1 c2
    refine st mo (st mo (st mo ⟨fun h => absurd h (by omega), fun _ => st mo ?_⟩))
    refine ⟨_, fun nn => r_slH (b := 0) (q := 0) (m := L.length) (es := 1) (k := L.length) rfl (Nat.le_refl _), st mo ⟨L.length, (sv L).map rel1, _, put_own rfl c1 c2 (one_sv _) rfl, h0, by omega, st mo ⟨c2, 1, [.string s], _, put_own rfl rfl rfl rfl rfl, by omega, _, rfl, st mo ?_⟩⟩⟩
    refine ⟨_, fun nn => r_slE1 (b := 0) (q := 0) (m := L.length) (es := 1) rfl, st mo ⟨_, fun nn => r_apE, st mo ?_⟩⟩
    refine ⟨rfl, [3], ?_, ⟨trivial, flr (by simp [sv]; rfl), trivial⟩, rfl, rfl⟩
    rw [show (L ++ [s]).length = L.length + 1 by simp]
    exact fs
end Go.Proofs.YtfmfeipeeedfpaaGreat
namespace Go.Proofs.YtfmfeipeeedfpaaGreat
open S Go.Sort Go.Lib
section
variable {κ : Type} [DecidableEq κ]
def oneD (kx : Ex → Option κ) (lb : κ → κ → Bool) (x : Ex) (L : List κ) : List κ := match kx x with
  | some a => insL lb L a
  | none => L
/-- What is gathered, each put where it belongs. -/
def gtD (kx : Ex → Option κ) (lb : κ → κ → Bool) : Nat → Ex → List κ → List κ
  | 0, x, L => oneD kx lb x L
  | d + 1, x, L => x.a.foldl (fun s y => gtD kx lb d y s) (oneD kx lb x L)
theorem insL_len (lb : κ → κ → Bool) (L : List κ) (s : κ) : (insL lb L s).length ≤ L.length + 1 ∧ L.length ≤ (insL lb L s).length ∧ 0 < (insL lb L s).length := by
  unfold insL
  have := cntL_le lb s L
  split
  · rename_i h
    have : 0 < L.length := Nat.lt_of_le_of_lt (Nat.zero_le _) (List.getElem?_eq_some_iff.1 h).1
    omega
  · simp only [List.length_append, List.length_take, List.length_cons, List.length_drop]; omega
theorem oneD_len (kx : Ex → Option κ) (lb : κ → κ → Bool) (x : Ex) (L : List κ) : (oneD kx lb x L).length ≤ L.length + 1 ∧ L.length ≤ (oneD kx lb x L).length := by
  unfold oneD
  split
  · have := insL_len lb L ‹κ›; omega
  · omega
theorem gtD_len (kx : Ex → Option κ) (lb : κ → κ → Bool) : ∀ (d : Nat) (x : Ex) (L : List κ), (gtD kx lb d x L).length ≤ L.length + nds d x ∧ L.length ≤ (gtD kx lb d x L).length
  | 0, x, L => oneD_len kx lb x L
  | d + 1, x, L => by
    have key : ∀ (l : List Ex) (s : List κ), (l.foldl (fun s y => gtD kx lb d y s) s).length ≤ s.length + l.foldl (fun n y => n + nds d y) 0 ∧ s.length ≤ (l.foldl (fun s y => gtD kx lb d y s) s).length := by
      intro l
      induction l with
      | nil => intro s; simp
      | cons y l ih =>
        intro s
        simp only [List.foldl_cons]
        rw [fold_nds l (0 + nds d y)]
        have h1 := ih (gtD kx lb d y s)
        have h2 := gtD_len kx lb d y s
        omega
    have h1 := key x.a (oneD kx lb x L)
    have h2 := oneD_len kx lb x L
    show (x.a.foldl (fun s y => gtD kx lb d y s) (oneD kx lb x L)).length ≤ L.length + x.a.foldl (fun n y => n + nds d y) 1 ∧ L.length ≤ (x.a.foldl (fun s y => gtD kx lb d y s) (oneD kx lb x L)).length
    rw [fold_nds x.a 1]
    omega
end
def hS1 (L : List ByteArray) : HT := match L with
  | [] => []
  | _ :: _ => [(1 + 4096, none), (1, some ((sv L).map rel1))]
def nS1 (L : List ByteArray) : Nat := match L with
  | [] => 1
  | _ :: _ => 2
abbrev TN (x : Ex) (L : List ByteArray) (X : World) : St := ⟨⟨28, [(1, lvS 1 L), (2, p0 0)]⟩, (0, some (x.c.map rel1)) :: hS1 L, nS1 L, X⟩
def NaC (d : Nat) : Prop := ∀ (X : World) (x : Ex) (L : List ByteArray), LT X d x → L.length + nds d x ≤ 1000000000 → Ctr Tryz.prog X 49 [.agg (x.c.map rel1).toArray, lvS 0 L] (hSs L) (nSs L) 0 (lvS 0 (gtD kxN ltb d x L)) (hSs (gtD kxN ltb d x L)) (nSs (gtD kxN ltb d x L))
set_option maxRecDepth 20000 in
theorem nam_t {d : Nat} (ih : ∀ d', d' + 1 = d → NaC d') {w : World} {l : Nat → Nat × Nat} {X : World} {x : Ex} {L : List ByteArray} (hL : LT X d x) (hb : L.length + x.a.foldl (fun n y => n + nds (d - 1) y) 0 ≤ 1000000000) :
    Rn Tryz.prog ⟨w, 0, l⟩ (retC Tryz.prog Tryz.f49 X 0 (lvS 0 (x.a.foldl (fun s y => gtD kxN ltb (d - 1) y s) L)) (hSs (x.a.foldl (fun s y => gtD kxN ltb (d - 1) y s) L)) (nSs (x.a.foldl (fun s y => gtD kxN ltb (d - 1) y s) L))) (cf (TN x L X) [co (sndC (sndC (Tryz.f49.body.getD .skip)))]) := by
  have hlen := hL.len
  have start : ∀ M : List ByteArray, ∃ σ, Fit 0 ⟨⟨28, (5, .int .i64 0) :: [(1, lvS 1 M), (2, p0 0)]⟩, (0, some (x.c.map rel1)) :: hS1 M, nS1 M, X⟩ ⟨⟨28, [(1, lvS 1 M), (2, p0 0), (5, .int .i64 ((0 : Nat) : Int))]⟩, (0, some (x.c.map rel1)) :: hS1 M, nS1 M, X⟩ σ := by
    intro M
    rcases M with _ | ⟨m, M⟩
    · exact ⟨[0], rfl, ⟨fv, fp, fv, trivial⟩, ⟨flr rfl, trivial⟩, xf, rfl, rfl⟩
    · exact ⟨[0, 1], rfl, ⟨fs, fp, fv, trivial⟩, ⟨flr rfl, trivial, flr rfl, trivial⟩, xf, rfl, rfl⟩
  obtain ⟨σ0, F0⟩ := start L
  refine st mo ?_
  refine w_loop (fun i : Nat => ⟨⟨28, [(1, lvS 1 ((x.a.take i).foldl (fun s y => gtD kxN ltb (d - 1) y s) L)), (2, p0 0), (5, .int .i64 (i : Int))]⟩, (0, some (x.c.map rel1)) :: hS1 ((x.a.take i).foldl (fun s y => gtD kxN ltb (d - 1) y s) L), nS1 ((x.a.take i).foldl (fun s y => gtD kxN ltb (d - 1) y s) L), X⟩)
    (fun i => i ≤ x.a.length ∧ ((x.a.take i).foldl (fun s y => gtD kxN ltb (d - 1) y s) L).length ≤ L.length + (x.a.take i).foldl (fun n y => n + nds (d - 1) y) 0) (fun i => x.a.length - i) 0 ⟨by omega, by simp⟩ σ0 F0 ?_
  intro i ⟨hi, hli⟩
  generalize hal : (x.a.take i).foldl (fun s y => gtD kxN ltb (d - 1) y s) L = M at hli ⊢
  by_cases hil : i < x.a.length
  · obtain ⟨y, hy⟩ : ∃ y, x.a[i]? = some y := ⟨_, List.getElem?_eq_getElem hil⟩
    cases d with
    | zero => rw [show x.a = [] from hL] at hy; cases hy
    | succ d =>
    obtain ⟨⟨b, o, h4, h5⟩, h8⟩ := hL.at hy
    have hstep : (x.a.take (i + 1)).foldl (fun n y => n + nds d y) 0 = (x.a.take i).foldl (fun n y => n + nds d y) 0 + nds d y := by rw [List.take_add_one, hy, List.foldl_append]; rfl
    have hmono : (x.a.take (i + 1)).foldl (fun n y => n + nds d y) 0 ≤ x.a.foldl (fun n y => n + nds d y) 0 := by
      have := fold_nds (d := d) (x.a.drop (i + 1)) ((x.a.take (i + 1)).foldl (fun n y => n + nds d y) 0)
      rw [← List.foldl_append, List.take_append_drop] at this
      omega
    have hb' : L.length + x.a.foldl (fun n y => n + nds d y) 0 ≤ 1000000000 := hb
    have hli : M.length ≤ L.length + (x.a.take i).foldl (fun n y => n + nds d y) 0 := hli
    have g := ih d rfl X y M h8 (by omega)
    have gl := gtD_len kxN ltb d y M
    have hal2 : gtD kxN ltb d y M = (x.a.take (i + 1)).foldl (fun s y => gtD kxN ltb d y s) L := by rw [List.take_add_one, hy, List.foldl_append, ← hal]; rfl
    have hpre : i + 1 ≤ x.a.length ∧ ((x.a.take (i + 1)).foldl (fun s y => gtD kxN ltb d y s) L).length ≤ L.length + (x.a.take (i + 1)).foldl (fun n y => n + nds d y) 0 := ⟨hil, by rw [← hal2, hstep]; omega⟩
    generalize gtD kxN ltb d y M = N at g gl hal2
    rcases M with _ | ⟨m, M⟩
    · rcases N with _ | ⟨q, N⟩
      · refine st mo (st mo ⟨fun hlt => st mo ⟨b, o, i, h4, rfl, hil, st mo ⟨y.c, rfl, h5, st mo ?_⟩⟩, fun hge => absurd hge (by omega)⟩)
        refine ⟨_, fun nn => r_c (tc := .slice none 0 0) [] [] [] rfl rfl g (by exact fitL_cons fv (fitL_cons fv rfl)) trivial uv trivial, st mo ⟨_, wz (i + 1) rfl, st mo ?_⟩⟩
        refine ⟨i + 1, hpre, by dsimp; omega, [0], ?_⟩
        show Fit 0 _ ⟨⟨28, [(1, lvS 1 ((x.a.take (i + 1)).foldl (fun s y => gtD kxN ltb d y s) L)), (2, p0 0), (5, .int .i64 ((i + 1 : Nat) : Int))]⟩, (0, some (x.c.map rel1)) :: hS1 ((x.a.take (i + 1)).foldl (fun s y => gtD kxN ltb d y s) L), nS1 ((x.a.take (i + 1)).foldl (fun s y => gtD kxN ltb d y s) L), X⟩ _
        rw [← hal2]
        exact ⟨rfl, ⟨fv, fp, fv, trivial⟩, ⟨flr rfl, trivial⟩, xf, rfl, rfl⟩
      · refine st mo (st mo ⟨fun hlt => st mo ⟨b, o, i, h4, rfl, hil, st mo ⟨y.c, rfl, h5, st mo ?_⟩⟩, fun hge => absurd hge (by omega)⟩)
        refine ⟨_, fun nn => r_c (tc := .slice (some ⟨1, 0, none⟩) (N.length + 1) 1) [] [some ((sv (q :: N)).map rel1)] [1] rfl rfl g (by exact fitL_cons fv (fitL_cons fv rfl)) trivial us ⟨ulr rfl, trivial⟩, st mo ⟨_, wz (i + 1) rfl, st mo ?_⟩⟩
        refine ⟨i + 1, hpre, by dsimp; omega, [0, 1], ?_⟩
        show Fit 0 _ ⟨⟨28, [(1, lvS 1 ((x.a.take (i + 1)).foldl (fun s y => gtD kxN ltb d y s) L)), (2, p0 0), (5, .int .i64 ((i + 1 : Nat) : Int))]⟩, (0, some (x.c.map rel1)) :: hS1 ((x.a.take (i + 1)).foldl (fun s y => gtD kxN ltb d y s) L), nS1 ((x.a.take (i + 1)).foldl (fun s y => gtD kxN ltb d y s) L), X⟩ _
        rw [← hal2]
        exact ⟨rfl, ⟨fs, fp, fv, trivial⟩, ⟨flr rfl, trivial, flr rfl, trivial⟩, xf, rfl, rfl⟩
    · rcases N with _ | ⟨q, N⟩
      · exact absurd gl.2 (by simp)
      · refine st mo (st mo ⟨fun hlt => st mo ⟨b, o, i, h4, rfl, hil, st mo ⟨y.c, rfl, h5, st mo ?_⟩⟩, fun hge => absurd hge (by omega)⟩)
        refine ⟨_, fun nn => r_c (tc := .slice (some ⟨2, 0, none⟩) (N.length + 1) 1) [1] [some ((sv (q :: N)).map rel1)] [2] rfl rfl g (by exact fitL_cons fv (fitL_cons fs rfl)) ⟨trivial, flr rfl, trivial⟩ us ⟨ulr rfl, trivial⟩, st mo ⟨_, wz (i + 1) rfl, st mo ?_⟩⟩
        refine ⟨i + 1, hpre, by dsimp; omega, [0, 2], ?_⟩
        show Fit 0 _ ⟨⟨28, [(1, lvS 1 ((x.a.take (i + 1)).foldl (fun s y => gtD kxN ltb d y s) L)), (2, p0 0), (5, .int .i64 ((i + 1 : Nat) : Int))]⟩, (0, some (x.c.map rel1)) :: hS1 ((x.a.take (i + 1)).foldl (fun s y => gtD kxN ltb d y s) L), nS1 ((x.a.take (i + 1)).foldl (fun s y => gtD kxN ltb d y s) L), X⟩ _
        rw [← hal2]
        exact ⟨rfl, ⟨fs, fp, fv, trivial⟩, ⟨flr rfl, trivial, flr rfl, trivial⟩, xf, rfl, rfl⟩
  · have : i = x.a.length := by omega
    subst this
    rw [List.take_length] at hal
    rw [hal]
    rcases M with _ | ⟨m, M⟩
    · refine st mo (st mo ⟨fun hlt => absurd hlt (by omega), fun hge => st mo (st mo ?_)⟩)
      exact ⟨rfl, [], fv, trivial, rfl, rfl⟩
    · refine st mo (st mo ⟨fun hlt => absurd hlt (by omega), fun hge => st mo (st mo ?_)⟩)
      exact ⟨rfl, [1], fs, ⟨trivial, flr rfl, trivial⟩, rfl, rfl⟩
theorem gtD_eq {κ : Type} [DecidableEq κ] (kx : Ex → Option κ) (lb : κ → κ → Bool) {X : World} {d : Nat} {x : Ex} (hL : LT X d x) (L : List κ) : gtD kx lb d x L = x.a.foldl (fun s y => gtD kx lb (d - 1) y s) (oneD kx lb x L) := by
  cases d with
  | zero => rw [show x.a = [] from hL]; rfl
  | succ d => rfl
theorem nds_eq {X : World} {d : Nat} {x : Ex} (hL : LT X d x) : nds d x = 1 + x.a.foldl (fun n y => n + nds (d - 1) y) 0 := by
  cases d with
  | zero => rw [show x.a = [] from hL]; rfl
  | succ d => exact fold_nds x.a 1
set_option maxRecDepth 20000 in
theorem nam_s {d : Nat} (ih : ∀ d', d' + 1 = d → NaC d') : NaC d := fun X x L hL hb => by
  rw [gtD_eq kxN ltb hL L]
  have hb1 := hb
  rw [nds_eq hL] at hb1
  by_cases hk : x.k = 2
  · have e1 : oneD kxN ltb x L = insL ltb L x.nm := by unfold oneD kxN; rw [if_pos hk]
    rw [e1]
    have hil := insL_len ltb L x.nm
    rcases L with _ | ⟨q, L⟩
    · have e2 : insL ltb ([] : List ByteArray) x.nm = [x.nm] := rfl
      rw [e2]
      refine fn_c _ Tryz.func49 rfl rfl rfl rfl (fun w l X' hX => run_ok (st mo ?_))
      have tl := nam_t (w := w) (l := l) ih (L := [x.nm]) (hL.mono (xcell hX)) (by simp at hb1 ⊢; omega)
      refine ⟨fun _ => st mo ?_, fun h => absurd hk h⟩
      refine ⟨_, fun nn => r_c (tc := .slice (some ⟨1, 0, none⟩) 1 1) [] [some ((sv [x.nm]).map rel1)] [1] rfl rfl (txt_0 X' x.nm) (by exact fitL_cons fv (fitL_cons fv rfl)) trivial us ⟨ulr rfl, trivial⟩, adv_ok mo 1 _ ?_⟩
      exact rn_fit (TN x [x.nm] X') [0, 1] ⟨rfl, ⟨fs, fp, trivial⟩, ⟨flr rfl, trivial, flr rfl, trivial⟩, xf, rfl, rfl⟩ tl
    · refine fn_c _ Tryz.func49 rfl rfl rfl rfl (fun w l X' hX => run_ok (st mo ?_))
      have tl := nam_t (w := w) (l := l) ih (L := insL ltb (q :: L) x.nm) (hL.mono (xcell hX)) (by omega)
      have g := txt_1 X' (q :: L) x.nm (by simp) (by omega)
      generalize insL ltb (q :: L) x.nm = N at tl g hil ⊢
      rcases N with _ | ⟨m, N⟩
      · exact absurd hil.2.2 (by simp)
      · refine ⟨fun _ => st mo ?_, fun h => absurd hk h⟩
        refine ⟨_, fun nn => r_c (tc := .slice (some ⟨2, 0, none⟩) (N.length + 1) 1) [0] [some ((sv (m :: N)).map rel1)] [2] rfl rfl g (by exact fitL_cons fs (fitL_cons fv rfl)) ⟨trivial, flr rfl, trivial⟩ us ⟨ulr rfl, trivial⟩, adv_ok mo 1 _ ?_⟩
        exact rn_fit (TN x (m :: N) X') [1, 2] ⟨rfl, ⟨fs, fp, trivial⟩, ⟨flr rfl, trivial, flr rfl, trivial⟩, xf, rfl, rfl⟩ tl
  · have e1 : oneD kxN ltb x L = L := by unfold oneD kxN; rw [if_neg hk]
    rw [e1]
    rcases L with _ | ⟨q, L⟩
    · refine fn_c _ Tryz.func49 rfl rfl rfl rfl (fun w l X' hX => run_ok (st mo ?_))
      have tl := nam_t (w := w) (l := l) ih (L := []) (hL.mono (xcell hX)) (by omega)
      refine ⟨fun h => absurd h hk, fun _ => adv_ok mo 2 _ ?_⟩
      exact rn_fit (TN x [] X') [0] ⟨rfl, ⟨fv, fp, trivial⟩, ⟨flr rfl, trivial⟩, xf, rfl, rfl⟩ tl
    · refine fn_c _ Tryz.func49 rfl rfl rfl rfl (fun w l X' hX => run_ok (st mo ?_))
      have tl := nam_t (w := w) (l := l) ih (L := q :: L) (hL.mono (xcell hX)) (by omega)
      refine ⟨fun h => absurd h hk, fun _ => adv_ok mo 2 _ ?_⟩
      exact rn_fit (TN x (q :: L) X') [1, 0] ⟨rfl, ⟨fs, fp, trivial⟩, ⟨flr rfl, trivial, flr rfl, trivial⟩, xf, rfl, rfl⟩ tl
theorem nam_n (d : Nat) : NaC d := by
  induction d with
  | zero => exact nam_s fun d' h => (by omega)
  | succ d ih => exact nam_s fun d' h => by cases h; exact ih
set_option maxRecDepth 20000 in
theorem qnames_n (d : Nat) (X : World) (x : Ex) (hL : LT X d x) (hb : nds d x ≤ 1000000000) : Ctr Tryz.prog X 18 [.agg (x.c.map rel1).toArray] [] 0 0 (lvS 0 (gtD kxN ltb d x [])) (hSs (gtD kxN ltb d x [])) (nSs (gtD kxN ltb d x [])) := by
  refine fn_c _ Tryz.func18 rfl rfl rfl rfl (fun w l X' hX => run_ok (st mo ?_))
  have g := nam_n d X' x [] (hL.mono (xcell hX)) (by simp; omega)
  generalize gtD kxN ltb d x [] = N at g ⊢
  rcases N with _ | ⟨m, N⟩
  · refine ⟨_, fun nn => r_c (tc := .slice none 0 0) [] [] [] rfl rfl g (by exact fitL_cons fv (fitL_cons fv rfl)) trivial uv trivial, st mo ?_⟩
    exact ⟨rfl, [], fv, trivial, rfl, rfl⟩
  · refine ⟨_, fun nn => r_c (tc := .slice (some ⟨1, 0, none⟩) (N.length + 1) 1) [] [some ((sv (m :: N)).map rel1)] [1] rfl rfl g (by exact fitL_cons fv (fitL_cons fv rfl)) trivial us ⟨ulr rfl, trivial⟩, st mo ?_⟩
    exact ⟨rfl, [1], fs, ⟨trivial, flr rfl, trivial⟩, rfl, rfl⟩
end Go.Proofs.YtfmfeipeeedfpaaGreat
