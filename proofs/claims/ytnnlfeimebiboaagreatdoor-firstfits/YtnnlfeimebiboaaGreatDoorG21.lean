/-
  What is proved here: items that fill a block; what LentItems answers.
  What is proved here: the masses of a paragraph (no program is named): what they are, how many marks are used.
-/
import Derived.Test.YtnnlfeimebiboaaGreatDoorG4
import Derived.Test.YtnnlfeimebiboaaGreatDoorG11
import Derived.Deep.MidRow
import Derived.Lib.SlBuf
import Derived.Laws.CopyRow
import Derived.Test.YtnnlfeimebiboaaGreatDoorG10
namespace Go.Proofs.YtnnlfeimebiboaaGreatDoor
open Go.RowKit Go.Shelf

/-- Items that lie in a block from its first cell on, and may be written. -/
structure IB (W : World) (g : Nat) (L : List It) : Prop where
  lt : g < W.heap.size
  all : ∀ i (hi : i < L.length) (j : Nat) v, (itL L[i])[j]? = some v → W.cell? ⟨g, i * 8 + j, none⟩ = some v ∧ W.frozen? ⟨g, i * 8 + j, none⟩ = false
theorem IB.its {W : World} {g : Nat} {L : List It} (h : IB W g L) {n cap : Nat} (hn : n ≤ L.length) (hc : n ≤ cap) : ItsAt W (.slice (some ⟨g, 0, none⟩) n cap) (L.take n) := by
  refine ⟨⟨some ⟨g, 0, none⟩, cap, by rw [List.length_take, Nat.min_eq_left hn], .inr ⟨g, 0, rfl, h.lt, fun i hi j v hv => ?_⟩⟩, fun a n' c e => ?_⟩
  · have hil : i < L.length := by rw [List.length_take] at hi; omega
    rw [List.getElem_take] at hv
    have := (h.all i hil j v hv).1
    rw [Nat.zero_add]
    exact this
  · cases e
    exact hc
theorem IB.below {W W' : World} {g : Nat} {L : List It} (h : IB W g L) {n : Nat} (hb : Below n W W') (hn : g < n) : IB W' g L := ⟨Nat.lt_of_lt_of_le h.lt hb.size, fun i hi j v hv => by
  have := h.all i hi j v hv
  have hbk := hb.block g hn
  have e1 : W'.cell? ⟨g, i * 8 + j, none⟩ = W.cell? ⟨g, i * 8 + j, none⟩ := by unfold World.cell?; rw [hbk]
  have e2 : W'.frozen? ⟨g, i * 8 + j, none⟩ = W.frozen? ⟨g, i * 8 + j, none⟩ := by unfold World.frozen?; rw [hbk]
  rw [e1, e2]; exact this⟩
theorem turns_setCells {X : Nat → Prop} {g : Nat} (hg : X g) : ∀ (vs : List Value) (o : Nat) (W : World), Turns X W (W.setCells g o vs)
  | [], _, _W => Turns.refl _ _
  | v :: r, o, W => (Turns.setCell W (p := ⟨g, o, none⟩) hg v).trans (turns_setCells hg r (o + 1) _)
theorem IB.there {W : World} {g : Nat} {L : List It} (h : IB W g L) {p : Nat} (hp : p < L.length) : W.there g (p * 8) 8 := fun j hj => by
  obtain ⟨v, hv⟩ : ∃ v, (itL L[p])[j]? = some v := ⟨(itL L[p])[j]'(by rw [itL_len]; exact hj), List.getElem?_eq_getElem _⟩
  have := h.all p hp j v hv
  exact ⟨by rw [this.1]; rfl, this.2⟩
theorem IB.set {W : World} {g : Nat} {L : List It} (h : IB W g L) {p : Nat} (hp : p < L.length) (x : It) : IB (W.setCells g (p * 8) (itL x)) g (L.set p x) := by
  refine ⟨Nat.lt_of_lt_of_le h.lt (turns_setCells (X := fun _ => True) trivial _ _ _).size, fun i hi j v hv => ?_⟩
  have hi' : i < L.length := by simpa using hi
  have hj : j < 8 := by have := (List.getElem?_eq_some_iff.1 hv).1; rw [itL_len] at this; exact this
  rw [World.frozen?_setCells]
  by_cases e : p = i
  · subst e
    rw [List.getElem_set_self] at hv
    have := (World.rangeAt_setCells_same W g (p * 8) (itL x) (by rw [itL_len]; exact h.there hp)) j v hv
    refine ⟨this, ?_⟩
    exact ((h.there hp) j hj).2
  · rw [List.getElem_set_ne e] at hv
    have := h.all i hi' j v hv
    refine ⟨?_, this.2⟩
    rw [World.cell?_setCells_out g (itL x) (p * 8) W ⟨g, i * 8 + j, none⟩ (fun _ _ => by rw [itL_len]; show i * 8 + j < p * 8 ∨ p * 8 + 8 ≤ i * 8 + j; omega)]
    exact this.1
theorem IB.of_row {W : World} {g : Nat} {L : List It} {cur : Array Value} (hg : W.heap[g]? = some (.cells cur 43 (0, 0))) (hc : ∀ i (hi : i < L.length) (j : Nat) v, (itL L[i])[j]? = some v → cur[i * 8 + j]? = some v) : IB W g L :=
  ⟨(Array.getElem?_eq_some_iff.1 hg).1, fun i hi j v hv => ⟨by rw [Lib.cell_of_heap hg]; exact hc i hi j v hv, Lib.frozen_of_heap hg _⟩⟩
theorem flat_at (L : List It) : ∀ i (hi : i < L.length) (j : Nat) v, (itL L[i])[j]? = some v → (L.flatMap itL)[i * 8 + j]? = some v := by
  induction L with
  | nil => intro i hi; simp at hi
  | cons x L ih =>
    intro i hi j v hv
    have hj : j < 8 := by have := (List.getElem?_eq_some_iff.1 hv).1; rw [itL_len] at this; exact this
    rw [List.flatMap_cons]
    cases i with
    | zero =>
      rw [List.getElem?_append_left (by rw [itL_len]; omega)]
      simpa using hv
    | succ i =>
      rw [List.getElem?_append_right (by rw [itL_len]; omega), itL_len, show (i + 1) * 8 + j - 8 = i * 8 + j by omega]
      exact ih i (by simpa using hi) j v hv
theorem flat_len (L : List It) : (L.flatMap itL).length = L.length * 8 := by
  induction L with
  | nil => rfl
  | cons x L ih => rw [List.flatMap_cons, List.length_append, ih, itL_len, List.length_cons]; omega
theorem made29 (n : Nat) : madeCells (itL it0).toArray (n * 8) = ((List.replicate n it0).flatMap itL).toArray := by
  apply Array.ext
  · rw [size_madeCells]; simp only [List.size_toArray]; rw [flat_len, List.length_replicate]
  · intro i h1 h2
    have hi : i / 8 < (List.replicate n it0).length := by simp [madeCells] at h1; simp; omega
    have hv := flat_at (List.replicate n it0) (i / 8) hi (i % 8) ((itL it0)[i % 8]'(by rw [itL_len]; omega)) (by rw [List.getElem_replicate]; exact List.getElem?_eq_getElem _)
    rw [show i / 8 * 8 + i % 8 = i by omega] at hv
    have : ((List.replicate n it0).flatMap itL)[i]? = some (((List.replicate n it0).flatMap itL).toArray[i]'h2) := by simp
    rw [this] at hv
    have hm : (madeCells (itL it0).toArray (n * 8))[i] = (itL it0).toArray[i % (itL it0).toArray.size]! := by simp [madeCells]
    rw [hm, Option.some.inj hv]
    have h8 : (itL it0).toArray.size = 8 := rfl
    rw [h8, getElem!_pos _ _ (by rw [h8]; omega)]
    simp
theorem make29 {n : Nat} (h : n ≤ 9100) (W : World) : (Instr.makeSlice 22 (.int .i64 (n : Int)) (.int .i64 (n : Int))).run Tryz.prog W = .ok (.slice (some ⟨W.heap.size, 0, none⟩) n n) (W.alloc (.cells ((List.replicate n it0).flatMap itL).toArray 43)) := by
  obtain ⟨i9, hi⟩ := Option.isSome_iff_exists.1 (show (Tryz.prog.info? 43).isSome = true by kernel_rfl)
  have hz0 : i9.zero = some (.agg (itL it0).toArray) := by
    have h : (Tryz.prog.info? 43).map (·.zero) = some (some (.agg (itL it0).toArray)) := by kernel_rfl
    rw [hi] at h; simpa using h
  have hz1 : i9.size = 8 := by
    have h : (Tryz.prog.info? 43).map (·.size) = some 8 := by kernel_rfl
    rw [hi] at h; simpa using h
  have hz2 : i9.bytes = 64 := by
    have h : (Tryz.prog.info? 43).map (·.bytes) = some 64 := by kernel_rfl
    rw [hi] at h; simpa using h
  have := run_makeSlice (P := Tryz.prog) (w := W) 22 43 i9 _ Tryz.underlying22 hi hz0 .i64 .i64 n n (by omega) (by omega) (by rw [hz1]; omega) (by rw [hz2]; omega) (by omega)
  rw [hz1, Int.toNat_natCast] at this
  rw [← made29]
  exact this
theorem run_copy_wide {P : Program} (w : World) (dT sT ty elem : TypeId) (g dLen dCap : Nat) (a : Addr) (sLen sCap : Nat) (cur : Array Value) (t : TypeId) (cs : List Value) (k : Nat)
    (hu : P.underlying dT = some (.slice elem)) (hs : (P.info? elem).map (·.size) = some k)
    (hg : w.heap[g]? = some (.cells cur t (0, 0))) (n : Nat) (hnn : Nat.min sLen dLen = n) (hn : cs.length = n * k)
    (hsrc : ∀ j v, cs[j]? = some v → w.cell? (a.add j) = some v) (hfit : cs.length ≤ cur.size) (h1 : ∀ v ∈ cs, v.oneCell' = true) :
    (Builtin.copy_ #[dT, sT] ty #[.slice (some ⟨g, 0, none⟩) dLen dCap, .slice (some a) sLen sCap]).run P w =
      .ok (goInt n) (w.setRow g (cs ++ cur.toList.drop cs.length).toArray) := by
  have hl := run_loadCells_list (P := P) w a cs hsrc
  have hst := run_storeCells_at P g 0 t cs 0 cur w hg (by simpa using hfit) h1
  rw [hn] at hl
  cases hq : P.info? elem with
  | none => simp [hq] at hs
  | some i =>
    have hi : i.size = k := by simpa [hq] using hs
    simp [Builtin.copy_, run_underlying hu, Builtin.lenOf, Builtin.firstCells, sizeOf, typeInfo, hq, hi, hnn, hl, hst]

def lentIt (i : Nat) : It := ⟨77, 0, 0, i, 0, 0, 0, false⟩
def lentL (n : Nat) : List It := [lentIt n, lentIt (n + 1), lentIt (n + 2)]
/-- What is there while the marks are set. -/
def lentK (l : List It) (k : Nat) : List It := l ++ ((lentL l.length).take k ++ List.replicate (3 - k) it0)
theorem lentK_len (l : List It) {k : Nat} (hk : k ≤ 3) : (lentK l k).length = l.length + 3 := by
  unfold lentK
  rw [List.length_append, List.length_append, List.length_take, List.length_replicate]
  have : (lentL l.length).length = 3 := rfl
  rw [this]; omega
theorem lentK_set (l : List It) {k : Nat} (hk : k < 3) : (lentK l k).set (l.length + k) (lentIt (l.length + k)) = lentK l (k + 1) := by
  unfold lentK
  rw [List.set_append_right _ _ (by omega), Nat.add_sub_cancel_left]
  obtain rfl | rfl | rfl : k = 0 ∨ k = 1 ∨ k = 2 := by omega
  all_goals rfl
theorem lentK_all (l : List It) : lentK l 3 = l ++ lentL l.length := by unfold lentK; simp [lentL]
theorem flat_drop (A C : List It) : ((A ++ C).flatMap itL).drop (A.length * 8) = C.flatMap itL := by
  rw [List.flatMap_append, List.drop_append_of_le_length (by rw [flat_len]; exact Nat.le_refl _), List.drop_of_length_le (by rw [flat_len]; exact Nat.le_refl _), List.nil_append]
theorem rep_drop (n : Nat) : ((List.replicate (n + 3) it0).flatMap itL).drop (n * 8) = (List.replicate 3 it0).flatMap itL := by
  have := flat_drop (List.replicate n it0) (List.replicate 3 it0)
  rw [List.replicate_append_replicate, List.length_replicate] at this
  exact this
theorem copy_zero {P : Program} (w : World) (dT sT ty elem : TypeId) (g dLen dCap : Nat) (a : Option Addr) (sCap : Nat) (hu : P.underlying dT = some (.slice elem)) (hs : ((P.info? elem).map (·.size)).isSome = true) :
    (Builtin.copy_ #[dT, sT] ty #[.slice (some ⟨g, 0, none⟩) dLen dCap, .slice a 0 sCap]).run P w = .ok (goInt 0) w := by
  cases hq : P.info? elem with
  | none => simp [hq] at hs
  | some i =>
    cases a with
    | none => simp [Builtin.copy_, run_underlying hu, Builtin.lenOf, Builtin.firstCells, sizeOf, typeInfo, hq, storeCells]
    | some a =>
      have hl := run_loadCells_list (P := P) w a [] (fun j v hv => by simp at hv)
      simp at hl
      simp [Builtin.copy_, run_underlying hu, Builtin.lenOf, Builtin.firstCells, sizeOf, typeInfo, hq, storeCells, hl]
theorem copy29 {W : World} {g c1 : Nat} {a1 : Option Addr} {l : List It} (hg : W.heap[g]? = some (.cells ((List.replicate (l.length + 3) it0).flatMap itL).toArray 43 (0, 0))) (ht : ItsAt W (.slice a1 l.length c1) l) :
    ∃ W', (Builtin.copy_ #[22, 22] 3 #[.slice (some ⟨g, 0, none⟩) (l.length + 3) (l.length + 3), .slice a1 l.length c1]).run Tryz.prog W = .ok (.int .i64 (l.length : Int)) W' ∧ IB W' g (lentK l 0) ∧ Turns (fun k => k = g) W W' := by
  have hsz : (Tryz.prog.info? 43).map (·.size) = some 8 := by kernel_rfl
  obtain ⟨a', c', e, h2⟩ := ht.ex
  cases e
  have hk0 : lentK l 0 = l ++ List.replicate 3 it0 := rfl
  rcases h2 with h2 | ⟨b, o, rfl, hb, hc⟩
  · subst h2
    refine ⟨W, copy_zero W 22 22 3 43 g _ _ a1 c1 Tryz.underlying22 (by rw [hsz]; rfl), IB.of_row hg (fun i hi j v hv => ?_), Turns.refl _ _⟩
    have h3 := flat_at _ i hi j v hv
    rw [hk0, List.nil_append] at h3
    rw [List.getElem?_toArray]
    exact h3
  · have hr := run_copy_wide (P := Tryz.prog) W 22 22 3 43 g (l.length + 3) (l.length + 3) ⟨b, o, none⟩ l.length c1 _ 43 (l.flatMap itL) 8 Tryz.underlying22 hsz hg l.length (Nat.min_eq_left (by omega)) (flat_len l)
      (fun j v hv => by
        rw [addr_add]
        have hjl : j < l.length * 8 := by have := (List.getElem?_eq_some_iff.1 hv).1; rw [flat_len] at this; exact this
        have hi : j / 8 < l.length := by omega
        obtain ⟨u, hu⟩ : ∃ u, (itL l[j / 8])[j % 8]? = some u := ⟨(itL l[j / 8])[j % 8]'(by rw [itL_len]; omega), List.getElem?_eq_getElem _⟩
        have h1 := flat_at l (j / 8) hi (j % 8) u hu
        rw [show j / 8 * 8 + j % 8 = j by omega, hv] at h1
        have h2 := hc (j / 8) hi (j % 8) u hu
        rw [show o + j / 8 * 8 + j % 8 = o + j by omega] at h2
        rw [h2, ← h1])
      (by simp only [List.size_toArray]; rw [flat_len, flat_len, List.length_replicate]; omega)
      (fun v hv => by
        obtain ⟨x, _, hx⟩ := List.mem_flatMap.1 hv
        exact itL_one x v hx)
    refine ⟨_, hr, ?_, Turns.setRow (X := fun k => k = g) _ rfl _⟩
    have hrow : (W.setRow g (l.flatMap itL ++ ((List.replicate (l.length + 3) it0).flatMap itL).drop (l.flatMap itL).length).toArray).heap[g]? = some (.cells (l.flatMap itL ++ ((List.replicate (l.length + 3) it0).flatMap itL).drop (l.flatMap itL).length).toArray 43 (0, 0)) := setRow_heap _ _ _ _ 43 _ hg
    refine IB.of_row (cur := (l.flatMap itL ++ ((List.replicate (l.length + 3) it0).flatMap itL).drop (l.flatMap itL).length).toArray) hrow (fun i hi j v hv => ?_)
    have e : l.flatMap itL ++ ((List.replicate (l.length + 3) it0).flatMap itL).drop (l.flatMap itL).length = (lentK l 0).flatMap itL := by
      rw [hk0, List.flatMap_append]
      rw [flat_len, rep_drop]
    rw [e, List.getElem?_toArray]
    exact flat_at _ i hi j v hv
end Go.Proofs.YtnnlfeimebiboaaGreatDoor

namespace Go.Proofs.YtnnlfeimebiboaaGreatDoor
open Go.RowKit Go.Shelf

theorem kind7 {x : Int} : kindI x = 7 ↔ x = 2 := by
  unfold kindI
  constructor
  · intro h
    repeat (split at h <;> try omega)
  · rintro rfl; decide
theorem acc_ne2 {x : Int} (h : accB x = true) : x ≠ 2 := by
  rintro rfl; revert h; decide
/-- How many Refs are among the first clusters. -/
def rI (t : ByteArray) : Nat → Nat
  | 0 => 0
  | i + 1 => rI t i + (if kindI (bt t (st t i)) = 7 then 1 else 0)
theorem refN_succ (t : ByteArray) (k : Nat) : refN t (k + 1) = refN t k + (if bt t k = 2 then 1 else 0) := rfl
theorem refN_end {t : ByteArray} (p : Nat) : refN t (endN t p) = refN t p + (if kindI (bt t p) = 7 then 1 else 0) := by
  have e : (if kindI (bt t p) = 7 then 1 else 0) = (if bt t p = 2 then 1 else 0) := by
    by_cases h : bt t p = 2
    · rw [if_pos h, if_pos (kind7.2 h)]
    · rw [if_neg h, if_neg (fun h' => h (kind7.1 h'))]
  rw [e]
  unfold endN
  split
  · split
    · rename_i h1
      split
      · rename_i h2
        rw [refN_succ, refN_succ, refN_succ, if_neg (acc_ne2 h1), if_neg (acc_ne2 h2)]; omega
      · rw [refN_succ, refN_succ, if_neg (acc_ne2 h1)]; omega
    · rw [refN_succ]
  · rw [refN_succ]
theorem rI_ref (t : ByteArray) : ∀ i, i ≤ num t → rI t i = refN t (st t i)
  | 0, _ => rfl
  | i + 1, h => by
    have hl := num_lt (show i < num t by omega)
    rw [st_succ hl, refN_end, ← rI_ref t i (by omega)]
    rfl
theorem refN_mono (t : ByteArray) {i j : Nat} (h : i ≤ j) : refN t i ≤ refN t j := by
  induction j with
  | zero => obtain rfl : i = 0 := by omega
            exact Nat.le_refl _
  | succ j ih =>
    by_cases e : i = j + 1
    · rw [e]; exact Nat.le_refl _
    · have := ih (by omega)
      rw [refN_succ]; omega
theorem rI_lt {t : ByteArray} {i : Nat} (h : i < num t) (h7 : kindI (bt t (st t i)) = 7) : rI t i < refN t t.size := by
  have h1 := rI_ref t (i + 1) h
  have h2 := refN_mono t (st_le t (i + 1))
  have h3 : rI t (i + 1) = rI t i + 1 := by show rI t i + _ = _; rw [if_pos h7]
  omega

theorem rowC_get (t : ByteArray) : ∀ (n i : Nat), i < n → ∀ j u, (clC t i)[j]? = some u → (rowC t n)[i * 3 + j]? = some u
  | 0, i, h, _, _, _ => by omega
  | n + 1, i, h, j, u, hu => by
    have hj : j < 3 := (List.getElem?_eq_some_iff.1 hu).1
    show (rowC t n ++ clC t n)[i * 3 + j]? = some u
    by_cases hi : i < n
    · rw [List.getElem?_append_left (by rw [rowC_len]; omega)]
      exact rowC_get t n i hi j u hu
    · obtain rfl : i = n := by omega
      rw [List.getElem?_append_right (by rw [rowC_len]; omega), rowC_len]
      rw [show i * 3 + j - i * 3 = j by omega]
      exact hu

/-- A mass. -/
structure Ms where
  f : Int
  t : Int
  k : Int
  s : Int
  w : Int
  q : Int
def msL (m : Ms) : List Value := [.int .i64 m.f, .int .i64 m.t, .int .i64 m.k, .int .i64 m.s, .int .i64 m.w, .int .i64 m.q]
theorem msL_len (m : Ms) : (msL m).length = 6 := rfl
def fc0 : Fc := ⟨0, 0, 0, 0, 0⟩
/-- What cluster i shows. -/
def fc (a : Pa) (i : Nat) : Fc := ⟨kindI (bt a.t (st a.t i)), bt a.t (st a.t i), szAt a (st a.t i : Nat), (spAt a.sp (st a.t i : Nat)).t, (spAt a.sp (st a.t i : Nat)).k⟩
/-- What the one ahead shows. -/
def pf (a : Pa) : Nat → Fc
  | 0 => fc0
  | i + 1 => fc a i
def mkAt (a : Pa) (i : Nat) : ByteArray := if kindI (bt a.t (st a.t i)) = 7 then a.ms.getD (rI a.t i) ByteArray.empty else ByteArray.empty
def msI (a : Pa) (i : Nat) : Ms := ⟨st a.t i, st a.t (i + 1), (fc a i).kd, (fc a i).s, wdI (fc a i) (mkAt a i), meetI (pf a i) (fc a i)⟩
def mss (a : Pa) : List Ms := (List.range (num a.t)).map (msI a)
theorem mss_len (a : Pa) : (mss a).length = num a.t := by simp [mss]
theorem mss_get (a : Pa) {i : Nat} (h : i < (mss a).length) : (mss a)[i] = msI a i := by simp [mss]

/-- What may be, of a paragraph. -/
structure GoodP (a : Pa) : Prop where
  wr : wrongI a.t = 0
  fd : fieldB a.t = false
  sp : spB a.sp a.t.size = true
  pr : keepB (prB a.p) = true
  lb : standB a.lb 0 16 = true
  mrk : markB a.t a.ms = true
theorem good_of {a : Pa} (h : chkI a = 0) : GoodP a := by
  rcases chk_cases a with ⟨e1, e2⟩ | ⟨e1, _⟩ | ⟨e1, _⟩ | ⟨e1, e2, e3, e4⟩
  · rw [e1] at h; exact absurd h e2
  · rw [e1] at h; cases h
  · rw [e1] at h; cases h
  · obtain ⟨f1, f2, f3, f4⟩ := rest_yes a e4
    exact ⟨e2, e3, f1, f2, f3, f4⟩
theorem GoodP.size {a : Pa} (h : GoodP a) : a.t.size ≤ 4096 := ok_size h.wr
theorem GoodP.p0 {a : Pa} (h : GoodP a) : 1 ≤ a.p.p0 ∧ a.p.p0 ≤ 64 := by
  have := List.all_eq_true.1 h.pr (a.p.p0, 1, 64) (by simp [prB])
  simpa [bdB] using this
theorem GoodP.ms {a : Pa} (h : GoodP a) : a.ms.length = refN a.t a.t.size ∧ ∀ m ∈ a.ms, standB m 1 8 = true := by
  have := h.mrk
  unfold markB at this
  rw [Bool.and_eq_true, decide_eq_true_eq, List.all_eq_true] at this
  exact this
theorem GoodP.span {a : Pa} (h : GoodP a) {k : Nat} (hk : k < a.t.size) : chB (spAt a.sp k) = true := by
  obtain ⟨h1, _, _⟩ := lk_spec h.sp (k := k) (by omega) (by omega)
  unfold spAt
  rw [List.getD_eq_getElem?_getD, List.getElem?_eq_getElem h1]
  exact (spB_all h.sp _ h1).2.1
theorem GoodP.fok {a : Pa} (h : GoodP a) {i : Nat} (hi : i < num a.t) : Fok (fc a i) := by
  have hk := num_lt hi
  have hs := h.span hk
  unfold chB at hs
  rw [decide_eq_true_eq] at hs
  refine ⟨?_, hs.2.1, bt_rng _ _⟩
  show 0 ≤ szAt a _ ∧ szAt a _ ≤ 64
  unfold szAt
  have := h.p0
  split
  · omega
  · exact hs.1
theorem stand_size {m : ByteArray} {x y : Int} (h : standB m x y = true) : x ≤ m.size ∧ (m.size : Int) ≤ y := by
  unfold standB at h
  rw [Bool.and_eq_true, decide_eq_true_eq] at h
  exact h.1
theorem GoodP.mark {a : Pa} (h : GoodP a) {i : Nat} (hi : i < num a.t) (h7 : kindI (bt a.t (st a.t i)) = 7) : ∃ hr : rI a.t i < a.ms.length, mkAt a i = a.ms[rI a.t i] ∧ a.ms[rI a.t i].size ≤ 8 := by
  have hr : rI a.t i < a.ms.length := by rw [h.ms.1]; exact rI_lt hi h7
  refine ⟨hr, ?_, ?_⟩
  · unfold mkAt
    rw [if_pos h7, List.getD_eq_getElem?_getD, List.getElem?_eq_getElem hr]; rfl
  · have := stand_size (h.ms.2 _ (List.getElem_mem hr)); omega
theorem mark_no {a : Pa} {i : Nat} (h7 : kindI (bt a.t (st a.t i)) ≠ 7) : mkAt a i = ByteArray.empty := if_neg h7
theorem rI_yes {t : ByteArray} {i : Nat} (h : kindI (bt t (st t i)) = 7) : rI t (i + 1) = rI t i + 1 := by show rI t i + _ = _; rw [if_pos h]
theorem rI_no {t : ByteArray} {i : Nat} (h : kindI (bt t (st t i)) ≠ 7) : rI t (i + 1) = rI t i := by show rI t i + _ = _; rw [if_neg h]; rfl

/-- What is laid down already. -/
def Laid (a : Pa) (k : Nat) (cs : Array Value) : Prop := cs.size = num a.t * 6 ∧ ∀ j, j < k → ∀ q u, (msL (msI a j))[q]? = some u → cs[j * 6 + q]? = some u
theorem laid_all {a : Pa} {cs : Array Value} (h : Laid a (num a.t) cs) : cs.toList = (mss a).flatMap msL := by
  apply List.ext_getElem?
  intro j
  by_cases hj : j < num a.t * 6
  · have hi : j / 6 < num a.t := by omega
    have hi' : j / 6 < (mss a).length := by rw [mss_len]; exact hi
    have hg := fm_get msL_len (mss a) hi' (j % 6) (by omega)
    rw [show j / 6 * 6 + j % 6 = j by omega, mss_get] at hg
    rw [hg]
    have hl : j % 6 < (msL (msI a (j / 6))).length := by rw [msL_len]; omega
    have := h.2 (j / 6) hi (j % 6) _ (List.getElem?_eq_getElem hl)
    rw [show j / 6 * 6 + j % 6 = j by omega] at this
    rw [List.getElem?_eq_getElem hl, ← this]
    simp
  · rw [List.getElem?_eq_none (by simp [h.1]; omega), List.getElem?_eq_none (by rw [fm_len msL_len, mss_len]; omega)]

end Go.Proofs.YtnnlfeimebiboaaGreatDoor
