/-
  What is proved here: the masses of a paragraph (no program is named): what they are, how many marks are used.
-/
import Derived.Test.YtkhnfmdhdfpdhaaFace
namespace Go.Proofs.Ytkhnfmdhdfpdhaa
open Go.RowKit Go.Shelf

theorem kind7 {x : Int} : kindI x = 7 ↔ x = 2 := by
  unfold kindI
  constructor
  · intro h
    repeat (split at h <;> try omega)
  · rintro rfl; decide
theorem acc_ne2 {x : Int} (h : accB x = true) : x ≠ 2 := by
  rintro rfl; revert h; decide
/-- How many Refs are among the first clusters. -/
def rI (t : ByteArray) : Nat → Nat
  | 0 => 0
  | i + 1 => rI t i + (if kindI (bt t (st t i)) = 7 then 1 else 0)
theorem refN_succ (t : ByteArray) (k : Nat) : refN t (k + 1) = refN t k + (if bt t k = 2 then 1 else 0) := rfl
theorem refN_end {t : ByteArray} (p : Nat) : refN t (endN t p) = refN t p + (if kindI (bt t p) = 7 then 1 else 0) := by
  have e : (if kindI (bt t p) = 7 then 1 else 0) = (if bt t p = 2 then 1 else 0) := by
    by_cases h : bt t p = 2
    · rw [if_pos h, if_pos (kind7.2 h)]
    · rw [if_neg h, if_neg (fun h' => h (kind7.1 h'))]
  rw [e]
  unfold endN
  split
  · split
    · rename_i h1
      split
      · rename_i h2
        rw [refN_succ, refN_succ, refN_succ, if_neg (acc_ne2 h1), if_neg (acc_ne2 h2)]; omega
      · rw [refN_succ, refN_succ, if_neg (acc_ne2 h1)]; omega
    · rw [refN_succ]
  · rw [refN_succ]
theorem rI_ref (t : ByteArray) : ∀ i, i ≤ num t → rI t i = refN t (st t i)
  | 0, _ => rfl
  | i + 1, h => by
    have hl := num_lt (show i < num t by omega)
    rw [st_succ hl, refN_end, ← rI_ref t i (by omega)]
    rfl
theorem refN_mono (t : ByteArray) {i j : Nat} (h : i ≤ j) : refN t i ≤ refN t j := by
  induction j with
  | zero => obtain rfl : i = 0 := by omega
            exact Nat.le_refl _
  | succ j ih =>
    by_cases e : i = j + 1
    · rw [e]; exact Nat.le_refl _
    · have := ih (by omega)
      rw [refN_succ]; omega
theorem rI_lt {t : ByteArray} {i : Nat} (h : i < num t) (h7 : kindI (bt t (st t i)) = 7) : rI t i < refN t t.size := by
  have h1 := rI_ref t (i + 1) h
  have h2 := refN_mono t (st_le t (i + 1))
  have h3 : rI t (i + 1) = rI t i + 1 := by show rI t i + _ = _; rw [if_pos h7]
  omega

theorem rowC_get (t : ByteArray) : ∀ (n i : Nat), i < n → ∀ j u, (clC t i)[j]? = some u → (rowC t n)[i * 3 + j]? = some u
  | 0, i, h, _, _, _ => by omega
  | n + 1, i, h, j, u, hu => by
    have hj : j < 3 := (List.getElem?_eq_some_iff.1 hu).1
    show (rowC t n ++ clC t n)[i * 3 + j]? = some u
    by_cases hi : i < n
    · rw [List.getElem?_append_left (by rw [rowC_len]; omega)]
      exact rowC_get t n i hi j u hu
    · obtain rfl : i = n := by omega
      rw [List.getElem?_append_right (by rw [rowC_len]; omega), rowC_len]
      rw [show i * 3 + j - i * 3 = j by omega]
      exact hu

/-- A mass. -/
structure Ms where
  f : Int
  t : Int
  k : Int
  s : Int
  w : Int
  q : Int
def msL (m : Ms) : List Value := [.int .i64 m.f, .int .i64 m.t, .int .i64 m.k, .int .i64 m.s, .int .i64 m.w, .int .i64 m.q]
theorem msL_len (m : Ms) : (msL m).length = 6 := rfl
def fc0 : Fc := ⟨0, 0, 0, 0, 0⟩
/-- What cluster i shows. -/
def fc (a : Pa) (i : Nat) : Fc := ⟨kindI (bt a.t (st a.t i)), bt a.t (st a.t i), szAt a (st a.t i : Nat), (spAt a.sp (st a.t i : Nat)).t, (spAt a.sp (st a.t i : Nat)).k⟩
/-- What the one ahead shows. -/
def pf (a : Pa) : Nat → Fc
  | 0 => fc0
  | i + 1 => fc a i
def mkAt (a : Pa) (i : Nat) : ByteArray := if kindI (bt a.t (st a.t i)) = 7 then a.ms.getD (rI a.t i) ByteArray.empty else ByteArray.empty
def msI (a : Pa) (i : Nat) : Ms := ⟨st a.t i, st a.t (i + 1), (fc a i).kd, (fc a i).s, wdI (fc a i) (mkAt a i), meetI (pf a i) (fc a i)⟩
def mss (a : Pa) : List Ms := (List.range (num a.t)).map (msI a)
theorem mss_len (a : Pa) : (mss a).length = num a.t := by simp [mss]
theorem mss_get (a : Pa) {i : Nat} (h : i < (mss a).length) : (mss a)[i] = msI a i := by simp [mss]

/-- What may be, of a paragraph. -/
structure GoodP (a : Pa) : Prop where
  wr : wrongI a.t = 0
  fd : fieldB a.t = false
  sp : spB a.sp a.t.size = true
  pr : keepB (prB a.p) = true
  lb : standB a.lb 0 16 = true
  mrk : markB a.t a.ms = true
theorem good_of {a : Pa} (h : chkI a = 0) : GoodP a := by
  rcases chk_cases a with ⟨e1, e2⟩ | ⟨e1, _⟩ | ⟨e1, _⟩ | ⟨e1, e2, e3, e4⟩
  · rw [e1] at h; exact absurd h e2
  · rw [e1] at h; cases h
  · rw [e1] at h; cases h
  · obtain ⟨f1, f2, f3, f4⟩ := rest_yes a e4
    exact ⟨e2, e3, f1, f2, f3, f4⟩
theorem GoodP.size {a : Pa} (h : GoodP a) : a.t.size ≤ 4096 := ok_size h.wr
theorem GoodP.p0 {a : Pa} (h : GoodP a) : 1 ≤ a.p.p0 ∧ a.p.p0 ≤ 64 := by
  have := List.all_eq_true.1 h.pr (a.p.p0, 1, 64) (by simp [prB])
  simpa [bdB] using this
theorem GoodP.ms {a : Pa} (h : GoodP a) : a.ms.length = refN a.t a.t.size ∧ ∀ m ∈ a.ms, standB m 1 8 = true := by
  have := h.mrk
  unfold markB at this
  rw [Bool.and_eq_true, decide_eq_true_eq, List.all_eq_true] at this
  exact this
theorem GoodP.span {a : Pa} (h : GoodP a) {k : Nat} (hk : k < a.t.size) : chB (spAt a.sp k) = true := by
  obtain ⟨h1, _, _⟩ := lk_spec h.sp (k := k) (by omega) (by omega)
  unfold spAt
  rw [List.getD_eq_getElem?_getD, List.getElem?_eq_getElem h1]
  exact (spB_all h.sp _ h1).2.1
theorem GoodP.fok {a : Pa} (h : GoodP a) {i : Nat} (hi : i < num a.t) : Fok (fc a i) := by
  have hk := num_lt hi
  have hs := h.span hk
  unfold chB at hs
  rw [decide_eq_true_eq] at hs
  refine ⟨?_, hs.2.1, bt_rng _ _⟩
  show 0 ≤ szAt a _ ∧ szAt a _ ≤ 64
  unfold szAt
  have := h.p0
  split
  · omega
  · exact hs.1
theorem stand_size {m : ByteArray} {x y : Int} (h : standB m x y = true) : x ≤ m.size ∧ (m.size : Int) ≤ y := by
  unfold standB at h
  rw [Bool.and_eq_true, decide_eq_true_eq] at h
  exact h.1
theorem GoodP.mark {a : Pa} (h : GoodP a) {i : Nat} (hi : i < num a.t) (h7 : kindI (bt a.t (st a.t i)) = 7) : ∃ hr : rI a.t i < a.ms.length, mkAt a i = a.ms[rI a.t i] ∧ a.ms[rI a.t i].size ≤ 8 := by
  have hr : rI a.t i < a.ms.length := by rw [h.ms.1]; exact rI_lt hi h7
  refine ⟨hr, ?_, ?_⟩
  · unfold mkAt
    rw [if_pos h7, List.getD_eq_getElem?_getD, List.getElem?_eq_getElem hr]; rfl
  · have := stand_size (h.ms.2 _ (List.getElem_mem hr)); omega
theorem mark_no {a : Pa} {i : Nat} (h7 : kindI (bt a.t (st a.t i)) ≠ 7) : mkAt a i = ByteArray.empty := if_neg h7
theorem rI_yes {t : ByteArray} {i : Nat} (h : kindI (bt t (st t i)) = 7) : rI t (i + 1) = rI t i + 1 := by show rI t i + _ = _; rw [if_pos h]
theorem rI_no {t : ByteArray} {i : Nat} (h : kindI (bt t (st t i)) ≠ 7) : rI t (i + 1) = rI t i := by show rI t i + _ = _; rw [if_neg h]; rfl

/-- What is laid down already. -/
def Laid (a : Pa) (k : Nat) (cs : Array Value) : Prop := cs.size = num a.t * 6 ∧ ∀ j, j < k → ∀ q u, (msL (msI a j))[q]? = some u → cs[j * 6 + q]? = some u
theorem laid_all {a : Pa} {cs : Array Value} (h : Laid a (num a.t) cs) : cs.toList = (mss a).flatMap msL := by
  apply List.ext_getElem?
  intro j
  by_cases hj : j < num a.t * 6
  · have hi : j / 6 < num a.t := by omega
    have hi' : j / 6 < (mss a).length := by rw [mss_len]; exact hi
    have hg := fm_get msL_len (mss a) hi' (j % 6) (by omega)
    rw [show j / 6 * 6 + j % 6 = j by omega, mss_get] at hg
    rw [hg]
    have hl : j % 6 < (msL (msI a (j / 6))).length := by rw [msL_len]; omega
    have := h.2 (j / 6) hi (j % 6) _ (List.getElem?_eq_getElem hl)
    rw [show j / 6 * 6 + j % 6 = j by omega] at this
    rw [List.getElem?_eq_getElem hl, ← this]
    simp
  · rw [List.getElem?_eq_none (by simp [h.1]; omega), List.getElem?_eq_none (by rw [fm_len msL_len, mss_len]; omega)]

end Go.Proofs.Ytkhnfmdhdfpdhaa
