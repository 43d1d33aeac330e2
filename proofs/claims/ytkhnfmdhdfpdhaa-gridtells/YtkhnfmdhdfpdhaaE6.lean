/-
  What is proved here: the masses of a paragraph (no program is named): what they are, how many marks are used.
  What is proved here: the natural width of a run of masses, as Natural of metric tells it.
  What is proved here: how lists of masses and paragraphs that are handed in look.
  What is proved here: how a paragraph that is handed in looks.
  What is proved here: how a table that is handed in looks.
  What is proved here: when two lists of spans, of marks, two paragraphs are the same.
-/
import Derived.Test.YtkhnfmdhdfpdhaaE5
import Derived.ProofKit
import Derived.OpenShut
import Derived.ChangeOld
import Derived.Below
import Derived.Deep.Slices
import Derived.SizedLaws
import Derived.Test.YtkhnfmdhdfpdhaaE4
namespace Go.Proofs.Ytkhnfmdhdfpdhaa
open Go.RowKit Go.Shelf

theorem kind7 {x : Int} : kindI x = 7 ↔ x = 2 := by
  unfold kindI
  constructor
  · intro h
    repeat (split at h <;> try omega)
  · rintro rfl; decide
theorem acc_ne2 {x : Int} (h : accB x = true) : x ≠ 2 := by
  rintro rfl; revert h; decide
/-- How many Refs are among the first clusters. -/
def rI (t : ByteArray) : Nat → Nat
  | 0 => 0
  | i + 1 => rI t i + (if kindI (bt t (st t i)) = 7 then 1 else 0)
theorem refN_succ (t : ByteArray) (k : Nat) : refN t (k + 1) = refN t k + (if bt t k = 2 then 1 else 0) := rfl
theorem refN_end {t : ByteArray} (p : Nat) : refN t (endN t p) = refN t p + (if kindI (bt t p) = 7 then 1 else 0) := by
  have e : (if kindI (bt t p) = 7 then 1 else 0) = (if bt t p = 2 then 1 else 0) := by
    by_cases h : bt t p = 2
    · rw [if_pos h, if_pos (kind7.2 h)]
    · rw [if_neg h, if_neg (fun h' => h (kind7.1 h'))]
  rw [e]
  unfold endN
  split
  · split
    · rename_i h1
      split
      · rename_i h2
        rw [refN_succ, refN_succ, refN_succ, if_neg (acc_ne2 h1), if_neg (acc_ne2 h2)]; omega
      · rw [refN_succ, refN_succ, if_neg (acc_ne2 h1)]; omega
    · rw [refN_succ]
  · rw [refN_succ]
theorem rI_ref (t : ByteArray) : ∀ i, i ≤ num t → rI t i = refN t (st t i)
  | 0, _ => rfl
  | i + 1, h => by
    have hl := num_lt (show i < num t by omega)
    rw [st_succ hl, refN_end, ← rI_ref t i (by omega)]
    rfl
theorem refN_mono (t : ByteArray) {i j : Nat} (h : i ≤ j) : refN t i ≤ refN t j := by
  induction j with
  | zero => obtain rfl : i = 0 := by omega
            exact Nat.le_refl _
  | succ j ih =>
    by_cases e : i = j + 1
    · rw [e]; exact Nat.le_refl _
    · have := ih (by omega)
      rw [refN_succ]; omega
theorem rI_lt {t : ByteArray} {i : Nat} (h : i < num t) (h7 : kindI (bt t (st t i)) = 7) : rI t i < refN t t.size := by
  have h1 := rI_ref t (i + 1) h
  have h2 := refN_mono t (st_le t (i + 1))
  have h3 : rI t (i + 1) = rI t i + 1 := by show rI t i + _ = _; rw [if_pos h7]
  omega

theorem rowC_get (t : ByteArray) : ∀ (n i : Nat), i < n → ∀ j u, (clC t i)[j]? = some u → (rowC t n)[i * 3 + j]? = some u
  | 0, i, h, _, _, _ => by omega
  | n + 1, i, h, j, u, hu => by
    have hj : j < 3 := (List.getElem?_eq_some_iff.1 hu).1
    show (rowC t n ++ clC t n)[i * 3 + j]? = some u
    by_cases hi : i < n
    · rw [List.getElem?_append_left (by rw [rowC_len]; omega)]
      exact rowC_get t n i hi j u hu
    · obtain rfl : i = n := by omega
      rw [List.getElem?_append_right (by rw [rowC_len]; omega), rowC_len]
      rw [show i * 3 + j - i * 3 = j by omega]
      exact hu

/-- A mass. -/
structure Ms where
  f : Int
  t : Int
  k : Int
  s : Int
  w : Int
  q : Int
def msL (m : Ms) : List Value := [.int .i64 m.f, .int .i64 m.t, .int .i64 m.k, .int .i64 m.s, .int .i64 m.w, .int .i64 m.q]
theorem msL_len (m : Ms) : (msL m).length = 6 := rfl
def fc0 : Fc := ⟨0, 0, 0, 0, 0⟩
/-- What cluster i shows. -/
def fc (a : Pa) (i : Nat) : Fc := ⟨kindI (bt a.t (st a.t i)), bt a.t (st a.t i), szAt a (st a.t i : Nat), (spAt a.sp (st a.t i : Nat)).t, (spAt a.sp (st a.t i : Nat)).k⟩
/-- What the one ahead shows. -/
def pf (a : Pa) : Nat → Fc
  | 0 => fc0
  | i + 1 => fc a i
def mkAt (a : Pa) (i : Nat) : ByteArray := if kindI (bt a.t (st a.t i)) = 7 then a.ms.getD (rI a.t i) ByteArray.empty else ByteArray.empty
def msI (a : Pa) (i : Nat) : Ms := ⟨st a.t i, st a.t (i + 1), (fc a i).kd, (fc a i).s, wdI (fc a i) (mkAt a i), meetI (pf a i) (fc a i)⟩
def mss (a : Pa) : List Ms := (List.range (num a.t)).map (msI a)
theorem mss_len (a : Pa) : (mss a).length = num a.t := by simp [mss]
theorem mss_get (a : Pa) {i : Nat} (h : i < (mss a).length) : (mss a)[i] = msI a i := by simp [mss]

/-- What may be, of a paragraph. -/
structure GoodP (a : Pa) : Prop where
  wr : wrongI a.t = 0
  fd : fieldB a.t = false
  sp : spB a.sp a.t.size = true
  pr : keepB (prB a.p) = true
  lb : standB a.lb 0 16 = true
  mrk : markB a.t a.ms = true
theorem good_of {a : Pa} (h : chkI a = 0) : GoodP a := by
  rcases chk_cases a with ⟨e1, e2⟩ | ⟨e1, _⟩ | ⟨e1, _⟩ | ⟨e1, e2, e3, e4⟩
  · rw [e1] at h; exact absurd h e2
  · rw [e1] at h; cases h
  · rw [e1] at h; cases h
  · obtain ⟨f1, f2, f3, f4⟩ := rest_yes a e4
    exact ⟨e2, e3, f1, f2, f3, f4⟩
theorem GoodP.size {a : Pa} (h : GoodP a) : a.t.size ≤ 4096 := ok_size h.wr
theorem GoodP.p0 {a : Pa} (h : GoodP a) : 1 ≤ a.p.p0 ∧ a.p.p0 ≤ 64 := by
  have := List.all_eq_true.1 h.pr (a.p.p0, 1, 64) (by simp [prB])
  simpa [bdB] using this
theorem GoodP.ms {a : Pa} (h : GoodP a) : a.ms.length = refN a.t a.t.size ∧ ∀ m ∈ a.ms, standB m 1 8 = true := by
  have := h.mrk
  unfold markB at this
  rw [Bool.and_eq_true, decide_eq_true_eq, List.all_eq_true] at this
  exact this
theorem GoodP.span {a : Pa} (h : GoodP a) {k : Nat} (hk : k < a.t.size) : chB (spAt a.sp k) = true := by
  obtain ⟨h1, _, _⟩ := lk_spec h.sp (k := k) (by omega) (by omega)
  unfold spAt
  rw [List.getD_eq_getElem?_getD, List.getElem?_eq_getElem h1]
  exact (spB_all h.sp _ h1).2.1
theorem GoodP.fok {a : Pa} (h : GoodP a) {i : Nat} (hi : i < num a.t) : Fok (fc a i) := by
  have hk := num_lt hi
  have hs := h.span hk
  unfold chB at hs
  rw [decide_eq_true_eq] at hs
  refine ⟨?_, hs.2.1, bt_rng _ _⟩
  show 0 ≤ szAt a _ ∧ szAt a _ ≤ 64
  unfold szAt
  have := h.p0
  split
  · omega
  · exact hs.1
theorem stand_size {m : ByteArray} {x y : Int} (h : standB m x y = true) : x ≤ m.size ∧ (m.size : Int) ≤ y := by
  unfold standB at h
  rw [Bool.and_eq_true, decide_eq_true_eq] at h
  exact h.1
theorem GoodP.mark {a : Pa} (h : GoodP a) {i : Nat} (hi : i < num a.t) (h7 : kindI (bt a.t (st a.t i)) = 7) : ∃ hr : rI a.t i < a.ms.length, mkAt a i = a.ms[rI a.t i] ∧ a.ms[rI a.t i].size ≤ 8 := by
  have hr : rI a.t i < a.ms.length := by rw [h.ms.1]; exact rI_lt hi h7
  refine ⟨hr, ?_, ?_⟩
  · unfold mkAt
    rw [if_pos h7, List.getD_eq_getElem?_getD, List.getElem?_eq_getElem hr]; rfl
  · have := stand_size (h.ms.2 _ (List.getElem_mem hr)); omega
theorem mark_no {a : Pa} {i : Nat} (h7 : kindI (bt a.t (st a.t i)) ≠ 7) : mkAt a i = ByteArray.empty := if_neg h7
theorem rI_yes {t : ByteArray} {i : Nat} (h : kindI (bt t (st t i)) = 7) : rI t (i + 1) = rI t i + 1 := by show rI t i + _ = _; rw [if_pos h]
theorem rI_no {t : ByteArray} {i : Nat} (h : kindI (bt t (st t i)) ≠ 7) : rI t (i + 1) = rI t i := by show rI t i + _ = _; rw [if_neg h]; rfl

/-- What is laid down already. -/
def Laid (a : Pa) (k : Nat) (cs : Array Value) : Prop := cs.size = num a.t * 6 ∧ ∀ j, j < k → ∀ q u, (msL (msI a j))[q]? = some u → cs[j * 6 + q]? = some u
theorem laid_all {a : Pa} {cs : Array Value} (h : Laid a (num a.t) cs) : cs.toList = (mss a).flatMap msL := by
  apply List.ext_getElem?
  intro j
  by_cases hj : j < num a.t * 6
  · have hi : j / 6 < num a.t := by omega
    have hi' : j / 6 < (mss a).length := by rw [mss_len]; exact hi
    have hg := fm_get msL_len (mss a) hi' (j % 6) (by omega)
    rw [show j / 6 * 6 + j % 6 = j by omega, mss_get] at hg
    rw [hg]
    have hl : j % 6 < (msL (msI a (j / 6))).length := by rw [msL_len]; omega
    have := h.2 (j / 6) hi (j % 6) _ (List.getElem?_eq_getElem hl)
    rw [show j / 6 * 6 + j % 6 = j by omega] at this
    rw [List.getElem?_eq_getElem hl, ← this]
    simp
  · rw [List.getElem?_eq_none (by simp [h.1]; omega), List.getElem?_eq_none (by rw [fm_len msL_len, mss_len]; omega)]

end Go.Proofs.Ytkhnfmdhdfpdhaa

namespace Go.Proofs.Ytkhnfmdhdfpdhaa
open Go.RowKit Go.Shelf

/-- May a mass be? -/
def mOk (m : Ms) : Bool := decide ((0 ≤ m.w ∧ m.w ≤ 4095) ∧ (-64 ≤ m.q ∧ m.q ≤ 0))
def ms0 : Ms := ⟨0, 0, 0, 0, 0, 0⟩
/-- The width of k masses from f on. -/
def runN (l : List Ms) (f : Nat) : Nat → Int
  | 0 => 0
  | k + 1 => runN l f k + (l.getD (f + k) ms0).w + (if 0 < k then (l.getD (f + k) ms0).q else 0)
def natE (l : List Ms) (f t : Int) : Int := if 4096 < l.length then 3 else if l.all mOk = true then (if 0 ≤ f ∧ f ≤ t ∧ t ≤ l.length then 0 else 5) else 2
def natV (l : List Ms) (f t : Int) : Int := if natE l f t = 0 then runN l f.toNat (t.toNat - f.toNat) else 0
theorem getD_is {l : List Ms} {i : Nat} (h : i < l.length) : l.getD i ms0 = l[i] := by rw [List.getD_eq_getElem?_getD, List.getElem?_eq_getElem h]; rfl
theorem run_rng {l : List Ms} (h : l.all mOk = true) (f : Nat) : ∀ k, f + k ≤ l.length → -64 * (k : Int) ≤ runN l f k ∧ runN l f k ≤ 4095 * (k : Int)
  | 0, _ => by simp [runN]
  | k + 1, hk => by
    have ih := run_rng h f k (by omega)
    have hm := List.all_eq_true.1 h l[f + k] (List.getElem_mem (by omega))
    unfold mOk at hm
    rw [decide_eq_true_eq] at hm
    have e : runN l f (k + 1) = runN l f k + l[f + k].w + (if 0 < k then l[f + k].q else 0) := by
      show runN l f k + (l.getD (f + k) ms0).w + (if 0 < k then (l.getD (f + k) ms0).q else 0) = _
      rw [getD_is (show f + k < l.length by omega)]
    rw [e]
    split <;> omega
theorem all_no {l : List Ms} {k : Nat} (hk : k < l.length) (h : mOk l[k] = false) : l.all mOk = false := List.all_eq_false.2 ⟨l[k], List.getElem_mem hk, by simp [h]⟩
theorem all_yes {l : List Ms} (h : ∀ k (hk : k < l.length), mOk l[k] = true) : l.all mOk = true := List.all_eq_true.2 fun b hb => by
  obtain ⟨k, hk, rfl⟩ := List.getElem_of_mem hb
  exact h k hk
theorem all_at {l : List Ms} (h : l.all mOk = true) {k : Nat} (hk : k < l.length) : mOk l[k] = true := List.all_eq_true.1 h _ (List.getElem_mem hk)

def nat2 (m : Ms) : List Bd := [(m.w, 0, 4095), (m.q, -64, 0)]
theorem nat2_keep (m : Ms) : keepB (nat2 m) = mOk m := by
  unfold keepB nat2 bdB mOk
  rw [Bool.eq_iff_iff]
  simp only [List.all_cons, List.all_nil, Bool.and_true, Bool.and_eq_true, decide_eq_true_eq]

theorem slice36 (a : Option Addr) (n cap f t : Nat) (W : World) (h1 : f ≤ t) (h2 : t ≤ cap) : ∃ a', (Instr.slice 101 (.slice a n cap) (some (.int .i64 (f : Int))) (some (.int .i64 (t : Int))) none).run Try.prog W = .ok (.slice a' (t - f) (cap - f)) W ∧ (∀ b o, a = some ⟨b, o, none⟩ → f < t → a' = some ⟨b, o + f * 6, none⟩) := by
  have he : Try.prog.elem 101 = 105 := by kernel_rfl
  have hu : Try.prog.underlying 101 = some (.slice (Try.prog.elem 101)) := by rw [he]; exact Try.underlying101
  have hr := run_slice_lh (P := Try.prog) (w := W) 101 a n cap hu .i64 .i64 f t (by omega) (by omega) (by omega)
  have hs : (sizeOf (Try.prog.elem 101)).run Try.prog W = .ok 6 W := by kernel_rfl
  rw [hs] at hr
  simp only [Result.andThen, sliced, Int.toNat_natCast] at hr
  refine ⟨_, hr, fun b o e hlt => ?_⟩
  rw [if_neg (by omega), e]
  simp [addr_add]

set_option maxRecDepth 100000 in
set_option maxHeartbeats 4000000 in
theorem natural_any (v : Value) (l : List Ms) (hl : l.length ≤ 9223372036854775807) (f t : Int) (w : World) (hS : RecAt 6 msL w v l) :
    Calls Try.prog 75 #[v, .int .i64 f, .int .i64 t] w fun e w' => e = .returned (.tuple #[.int .i64 (natV l f t), .int .i64 (natE l f t)]) ∧ Below w.heap.size w w' := by
  have hle := hS.le
  obtain ⟨a, cap, rfl, h2⟩ := hS.ex
  have hcap := hle _ _ _ rfl
  clear hS hle
  by_cases hlong : 4096 < l.length
  · have e1 : natE l f t = 3 := if_pos hlong
    have e2 : natV l f t = 0 := by unfold natV; rw [e1]; rfl
    rw [e1, e2]
    clear e1 e2
    go_enter Try.func75, Try.ntmps75
    go_wp2_with fail
    go_ret2
    exact ⟨rfl, Below.refl _ _⟩
  · have hr : Hid (∀ (W : World) (m : Nat) (r : Ms), W.heap.size = m → Calls Try.prog 87 #[.slice (some ⟨m, 0, none⟩) 2 2] (W.alloc (.cells #[.int .i64 r.w, .int .i64 0, .int .i64 4095, .int .i64 r.q, .int .i64 (-64), .int .i64 0] 152)) fun e w' => e = .returned (.bool (mOk r)) ∧ Below W.heap.size W w') := fun W m r hm => by
      subst hm
      have h := keep_any _ (nat2 r) (by show 2 ≤ 100; omega) _ (rec_new (k := 3) bdL_len W 152 (nat2 r))
      rw [nat2_keep] at h
      refine h.mono ?_
      rintro e w' ⟨rfl, hb⟩
      exact ⟨rfl, ((Below.refl _ W).alloc (Nat.le_refl _) _).trans (hb.mono (by simp))⟩
    have hno : Hid (l.all mOk = false → natE l f t = 2 ∧ natV l f t = 0) := fun h => by
      have e : natE l f t = 2 := by unfold natE; rw [if_neg hlong, h]; rfl
      refine ⟨e, ?_⟩; unfold natV; rw [e]; rfl
    have hre : Hid (l.all mOk = true → ¬ (0 ≤ f ∧ f ≤ t ∧ t ≤ l.length) → natE l f t = 5 ∧ natV l f t = 0) := fun h h3 => by
      have e : natE l f t = 5 := by unfold natE; rw [if_neg hlong, h, if_pos rfl, if_neg h3]
      refine ⟨e, ?_⟩; unfold natV; rw [e]; rfl
    have hyes : Hid (l.all mOk = true → (0 ≤ f ∧ f ≤ t ∧ t ≤ l.length) → natE l f t = 0 ∧ natV l f t = runN l f.toNat (t.toNat - f.toNat)) := fun h h3 => by
      have e : natE l f t = 0 := by unfold natE; rw [if_neg hlong, h, if_pos rfl, if_pos h3]
      refine ⟨e, ?_⟩; unfold natV; rw [e]; rfl
    generalize natE l f t = E at *
    generalize natV l f t = V at *
    have hlong' : ¬ (4096 : Int) < l.length := by omega
    go_enter Try.func75, Try.ntmps75
    go_wp2_with fail
    go_loopw [18] (fun i wr => ∃ k : Nat, k ≤ l.length ∧ i = .int .i64 k ∧ Below w.heap.size w wr ∧ Hid (∀ j (hj : j < l.length), j < k → mOk l[j] = true)) (fun i _ => l.length - (intOf i).toNat)
    case atStart => exact ⟨0, by omega, rfl, Below.refl _ _, fun j _ hj => by omega⟩
    case round =>
      obtain ⟨k, hk, rfl, hb, hall⟩ := hrel
      by_cases hlt : k < l.length
      · rcases h2 with h2 | ⟨b, o, rfl, hbl, hc⟩
        · rw [h2] at hlt; simp at hlt
        · have c0 : wr.cell? ⟨b, o + k * 6, none⟩ = some (.int .i64 l[k].f) := (hb.cell hbl).trans (hc k hlt 0 _ rfl)
          have c1 : wr.cell? ⟨b, o + k * 6 + 1, none⟩ = some (.int .i64 l[k].t) := (hb.cell hbl).trans (hc k hlt 1 _ rfl)
          have c2 : wr.cell? ⟨b, o + k * 6 + 2, none⟩ = some (.int .i64 l[k].k) := (hb.cell hbl).trans (hc k hlt 2 _ rfl)
          have c3 : wr.cell? ⟨b, o + k * 6 + 3, none⟩ = some (.int .i64 l[k].s) := (hb.cell hbl).trans (hc k hlt 3 _ rfl)
          have c4 : wr.cell? ⟨b, o + k * 6 + 4, none⟩ = some (.int .i64 l[k].w) := (hb.cell hbl).trans (hc k hlt 4 _ rfl)
          have c5 : wr.cell? ⟨b, o + k * 6 + 5, none⟩ = some (.int .i64 l[k].q) := (hb.cell hbl).trans (hc k hlt 5 _ rfl)
          have hlt' : (k : Int) < l.length := by omega
          have hw := hb.size
          have hr' : Hid (Calls Try.prog 87 #[.slice (some ⟨wr.heap.size + 1, 0, none⟩) 2 2] ((wr.alloc (.cells #[.int .i64 l[k].f, .int .i64 l[k].t, .int .i64 l[k].k, .int .i64 l[k].s, .int .i64 l[k].w, .int .i64 l[k].q] 105)).alloc (.cells #[.int .i64 l[k].w, .int .i64 0, .int .i64 4095, .int .i64 l[k].q, .int .i64 (-64), .int .i64 0] 152)) fun e w' => e = .returned (.bool (mOk l[k])) ∧ Below w.heap.size w w') := by
            have := hr.out (wr.alloc (.cells #[.int .i64 l[k].f, .int .i64 l[k].t, .int .i64 l[k].k, .int .i64 l[k].s, .int .i64 l[k].w, .int .i64 l[k].q] 105)) (wr.heap.size + 1) l[k] (World.size_alloc _ _)
            refine this.mono ?_
            rintro e w' ⟨rfl, hB⟩
            exact ⟨rfl, (hb.alloc hb.size _).trans (hB.mono (by simp; omega))⟩
          clear hr hc
          cases hv : mOk l[k]
          · rw [hv] at hr'
            obtain ⟨e1, e2⟩ := hno.out (all_no hlt hv)
            subst e1 e2
            clear hno hre hyes hall hv
            generalize l[k].f = x0 at *
            generalize l[k].t = x1 at *
            generalize l[k].k = x2 at *
            generalize l[k].s = x3 at *
            generalize l[k].w = x4 at *
            generalize l[k].q = x5 at *
            go_wp2_with (go_at_call 87; refine hr'.out.mono ?_; rintro e w' ⟨rfl, hB⟩)
            go_ret2
            exact ⟨rfl, hB⟩
          · rw [hv] at hr'
            have hy : Hid (∀ j (hj : j < l.length), j < k + 1 → mOk l[j] = true) := fun j hj hjk => by
              by_cases h : j < k
              · exact hall.out j hj h
              · obtain rfl : j = k := by omega
                exact hv
            clear hno hre hyes hall hv
            generalize l[k].f = x0 at *
            generalize l[k].t = x1 at *
            generalize l[k].k = x2 at *
            generalize l[k].s = x3 at *
            generalize l[k].w = x4 at *
            generalize l[k].q = x5 at *
            go_wp2_with (go_at_call 87; refine hr'.out.mono ?_; rintro e w' ⟨rfl, hB⟩)
            go_roundw
            case rel => exact ⟨k + 1, by omega, by simp, hB, hy⟩
            case measure => simp [intOf]; omega
      · obtain rfl : k = l.length := by omega
        have hall' : l.all mOk = true := all_yes (fun j hj => hall.out j hj hj)
        have hge : ¬ ((l.length : Int) < l.length) := by omega
        by_cases h3 : 0 ≤ f ∧ f ≤ t ∧ t ≤ l.length
        · obtain ⟨e1, e2⟩ := hyes.out hall' h3
          obtain ⟨h30, h31, h32⟩ := h3
          obtain ⟨F, rfl⟩ : ∃ F : Nat, f = F := ⟨f.toNat, by omega⟩
          obtain ⟨T, rfl⟩ : ∃ T : Nat, t = T := ⟨t.toNat, by omega⟩
          obtain ⟨a', hsl, hsa⟩ := slice36 a l.length cap F T wr (by omega) (by omega)
          have hrun : Hid (V = runN l F (T - F)) := by rw [e2]; rfl
          have hAll : Hid (l.all mOk = true) := hall'
          subst e1
          clear e2 hyes hre hno hr hall hall'
          have hF0 : ¬ (F : Int) < 0 := by omega
          have hTF : ¬ (T : Int) < F := by omega
          have hTl : ¬ (l.length : Int) < T := by omega
          obtain ⟨n, hn⟩ : ∃ n, T - F = n := ⟨_, rfl⟩
          rw [hn] at hsl hrun
          have hn4 : n ≤ 4096 := by omega
          go_wp2_with fail
          go_loopw [10, 50] (fun s i wr2 => ∃ j : Nat, j ≤ n ∧ i = .int .i64 j ∧ s = .int .i64 (runN l F j) ∧ Below w.heap.size w wr2) (fun _ i _ => n - (intOf i).toNat)
          case atStart => exact ⟨0, by omega, rfl, rfl, hb⟩
          case round =>
            obtain ⟨j, hj, rfl, rfl, hb2⟩ := hrel
            by_cases hjn : j < n
            · rcases h2 with h2 | ⟨b, o, rfl, hbl, hc⟩
              · rw [h2] at h32; simp at h32; omega
              · have ha' := hsa b o rfl (by omega)
                subst ha'
                have hjl : F + j < l.length := by omega
                have e0 : o + (F + j) * 6 = o + F * 6 + j * 6 := by rw [Nat.add_mul]; omega
                have hcj : ∀ q u, (msL l[F + j])[q]? = some u → wr.cell? ⟨b, o + F * 6 + j * 6 + q, none⟩ = some u := fun q u hu => by
                  have := (hb2.cell hbl).trans (hc (F + j) hjl q u hu)
                  rwa [e0] at this
                have c0 : wr.cell? ⟨b, o + F * 6 + j * 6, none⟩ = some (.int .i64 l[F + j].f) := hcj 0 _ rfl
                have c1 : wr.cell? ⟨b, o + F * 6 + j * 6 + 1, none⟩ = some (.int .i64 l[F + j].t) := hcj 1 _ rfl
                have c2 : wr.cell? ⟨b, o + F * 6 + j * 6 + 2, none⟩ = some (.int .i64 l[F + j].k) := hcj 2 _ rfl
                have c3 : wr.cell? ⟨b, o + F * 6 + j * 6 + 3, none⟩ = some (.int .i64 l[F + j].s) := hcj 3 _ rfl
                have c4 : wr.cell? ⟨b, o + F * 6 + j * 6 + 4, none⟩ = some (.int .i64 l[F + j].w) := hcj 4 _ rfl
                have c5 : wr.cell? ⟨b, o + F * 6 + j * 6 + 5, none⟩ = some (.int .i64 l[F + j].q) := hcj 5 _ rfl
                have hr0 := run_rng hAll.out F j (by omega)
                have hm := all_at hAll.out hjl
                unfold mOk at hm
                rw [decide_eq_true_eq] at hm
                have hst : Hid (runN l F (j + 1) = runN l F j + l[F + j].w + (if 0 < j then l[F + j].q else 0)) := by
                  show runN l F j + (l.getD (F + j) ms0).w + (if 0 < j then (l.getD (F + j) ms0).q else 0) = _
                  rw [getD_is hjl]
                have hjn' : (j : Int) < n := by omega
                have hb2' : Hid (Below w.heap.size w wr) := hb2
                have hb3 : Hid (Below w.heap.size w (wr.alloc (.cells #[.int .i64 l[F + j].f, .int .i64 l[F + j].t, .int .i64 l[F + j].k, .int .i64 l[F + j].s, .int .i64 l[F + j].w, .int .i64 l[F + j].q] 105))) := hb2.alloc hb2.size _
                obtain ⟨off, hoff⟩ : ∃ off, o + F * 6 = off := ⟨_, rfl⟩
                rw [hoff] at c0 c1 c2 c3 c4 c5
                rw [hoff] at hsl
                rw [hoff]
                clear hcj hc e0 hoff hsa hb2 hsl
                generalize l[F + j].f = x0 at *
                generalize l[F + j].t = x1 at *
                generalize l[F + j].k = x2 at *
                generalize l[F + j].s = x3 at *
                generalize l[F + j].w = x4 at *
                generalize l[F + j].q = x5 at *
                generalize hR : runN l F j = R at *
                obtain ⟨⟨m0, m1⟩, m2, m3⟩ := hm
                obtain ⟨r0, r1⟩ := hr0
                by_cases hj0 : j = 0
                · have hz : Hid (runN l F (j + 1) = R + x4) := hst.out.trans (by rw [if_neg (by omega), Int.add_zero])
                  have hj0' : ¬ (0 : Int) < j := by omega
                  have hj0'' : decide ((0 : Int) < j) = false := decide_eq_false hj0'
                  clear hst hj0
                  go_wp2_with fail
                  go_roundw
                  case rel => exact ⟨j + 1, by omega, by simp, by rw [hz.out], hb3⟩
                  case measure => simp [intOf]; omega
                · have hz : Hid (runN l F (j + 1) = R + x4 + x5) := hst.out.trans (by rw [if_pos (by omega)])
                  have hj0' : (0 : Int) < j := by omega
                  clear hst hj0
                  go_wp2_with fail
                  go_roundw
                  case rel => exact ⟨j + 1, by omega, by simp, by rw [hz.out], hb3⟩
                  case measure => simp [intOf]; omega
            · obtain rfl : j = n := by omega
              have hv := hrun.out
              subst hv
              clear hrun h2 hsl hsa hn
              go_wp2_with fail
              go_ret2
              exact ⟨rfl, hb2⟩
        · obtain ⟨e1, e2⟩ := hre.out hall' h3
          subst e1 e2
          clear hyes hre hno hr hall hall' h2
          have h3' : f < 0 ∨ (0 ≤ f ∧ t < f) ∨ (0 ≤ f ∧ f ≤ t ∧ (l.length : Int) < t) := by omega
          clear h3
          rcases h3' with h3 | ⟨h3, h4⟩ | ⟨h3, h4, h5⟩
          all_goals
            go_wp2_with fail
            go_ret2
            exact ⟨rfl, hb⟩

end Go.Proofs.Ytkhnfmdhdfpdhaa

namespace Go.Proofs.Ytkhnfmdhdfpdhaa
open Go.ChangeShapes Go.WideShapes Go.ChangeAt Go.RowKit

theorem own : ownKnob Try.prog.godebug = none := by kernel_rfl
theorem laidOut : laidOutB Try.prog = true := by kernel_rfl

/-- A list of records that is handed in. -/
theorem recs_in {H : Type} {enc : TypeId × Value → H} {W : World} {spare : Nat → Bool} {fuel : Nat} {cs : List Value} {x : DataW H × List MemPlace} {α : Type} {k : Nat} {f : α → List Value} {ty e : TypeId} (hu : Try.prog.underlying ty = some (.slice e)) (ck : Try.prog.cellsOf e = k) (hk : 0 < k)
    (hat : ∀ (n : Nat) (cs : List Value) (x : DataW H × List MemPlace), cs.length = k → DataW.trod enc Try.prog W 0 spare true n e cs = some x → ∃ q : α, cs = f q)
    (hf : DataW.trod enc Try.prog W 0 spare true fuel ty cs = some x) : ∃ (v : Value) (qs : List α), cs = [v] ∧ RecAt k f W v qs ∧ qs.length ≤ 9223372036854775807 ∧ ((x.1 = .nil ∧ qs = []) ∨ ∃ es sp, x.1 = .slice es sp ∧ es.length = qs.length) := by
  rcases Deep.open_slice hu hf with ⟨hcs, hx0⟩ | ⟨a, len, cap, m, n, D, Pl, hcs, _, hl, hm, hmm, hx1, hx⟩
  · subst hcs
    exact ⟨_, [], rfl, ⟨⟨none, 0, rfl, .inl rfl⟩, fun a n c e => by cases e; exact Nat.le_refl _⟩, by simp, .inl ⟨by rw [hx0], rfl⟩⟩
  · subst hcs
    have hlm : len ≤ m := by rw [hmm]; split <;> omega
    rw [ck] at hx
    have hdat : ∃ es sp, x.1 = .slice es sp ∧ es.length = len := by rw [hx1]; exact ⟨_, _, rfl, by simp⟩
    obtain ⟨es, sp, hes, hel⟩ := hdat
    by_cases h0 : len = 0
    · subst h0
      exact ⟨_, [], rfl, ⟨⟨_, _, rfl, .inl rfl⟩, fun a n c e => by cases e; exact hl⟩, by simp, .inr ⟨es, sp, hes, by simpa using hel⟩⟩
    · obtain ⟨b, off, spot⟩ := a
      obtain ⟨cs', hc0, ht0⟩ := hx 0 (by omega)
      have hb := World.cells?_block hc0 (by omega)
      obtain ⟨_, hl0, hce⟩ := World.cells?_some hc0
      have hg := hce 0 (by omega)
      have hspot : spot = none := by
        match cs', hl0 with
        | z :: _, _ => simpa [Addr.add] using World.cell?_spot hg
        | [], h => simp at h; omega
      subst hspot
      rw [addr_add] at hb
      have hq : ∀ i : Fin len, ∃ q : α, ∀ j u, (f q)[j]? = some u → W.cell? ⟨b, off + i * k + j, none⟩ = some u := fun i => by
        obtain ⟨cs', hc1, ht1⟩ := hx i (by omega)
        rw [addr_add] at hc1
        obtain ⟨_, hl1, hce1⟩ := World.cells?_some hc1
        obtain ⟨q, rfl⟩ := hat _ _ _ hl1 ht1
        refine ⟨q, fun j u hu => ?_⟩
        have hj : j < (f q).length := (List.getElem?_eq_some_iff.1 hu).1
        have := hce1 j (by omega)
        rw [addr_add] at this
        exact this.trans hu
      refine ⟨_, List.ofFn (fun i => Classical.choose (hq i)), rfl, ⟨⟨_, _, by simp; exact rfl, .inr ⟨b, off, rfl, hb, fun i hi j u hu => ?_⟩⟩, fun a n c e => by cases e; exact hl⟩, by simp; unfold maxLen at hm; omega, .inr ⟨es, sp, hes, by simpa using hel⟩⟩
      have hi' : i < len := by simpa using hi
      have := Classical.choose_spec (hq ⟨i, hi'⟩) j u (by simpa using hu)
      simpa using this
end Go.Proofs.Ytkhnfmdhdfpdhaa

namespace Go.Proofs.Ytkhnfmdhdfpdhaa
open Go.ChangeShapes Go.WideShapes Go.ChangeAt Go.RowKit

theorem strs_of_rec {W : World} {v : Value} {qs : List ByteArray} (h : RecAt 1 (fun t => [Value.string t]) W v qs) : StrsAt W v qs := by
  obtain ⟨a, cap, rfl, h2⟩ := h.ex
  refine ⟨⟨a, cap, rfl, ?_⟩, h.le⟩
  rcases h2 with h2 | ⟨b, o, rfl, hb, hc⟩
  · exact .inl h2
  · refine .inr ⟨b, o, rfl, hb, fun i hi => ?_⟩
    have := hc i hi 0 _ rfl
    simpa using this

end Go.Proofs.Ytkhnfmdhdfpdhaa

namespace Go.Proofs.Ytkhnfmdhdfpdhaa
open Go.ChangeShapes Go.WideShapes Go.ChangeAt Go.RowKit

/-- A text that a slice may have. -/
structure Bst where
  one : ByteArray
  le : one.size ≤ 9223372036854775807
theorem str_at2 {H : Type} {enc : TypeId × Value → H} {W : World} {spare : Nat → Bool} {n : Nat} {cs : List Value} {x : DataW H × List MemPlace}
    (ht : DataW.trod enc Try.prog W 0 spare true n 9 cs = some x) : ∃ q : Bst, cs = [.string q.one] := by
  obtain ⟨q, e, _, h⟩ := DataW.trod_string Try.underlying9 ht
  exact ⟨⟨q, by unfold maxLen at h; omega⟩, e⟩
theorem strs_of_rec2 {W : World} {v : Value} {qs : List Bst} (h : RecAt 1 (fun t => [Value.string t.one]) W v qs) : StrsAt W v (qs.map (·.one)) := by
  have hle := h.le
  obtain ⟨a, cap, rfl, h2⟩ := h.ex
  refine ⟨⟨a, cap, by rw [List.length_map], ?_⟩, hle⟩
  rcases h2 with h2 | ⟨b, o, rfl, hb, hc⟩
  · exact .inl (by rw [h2]; rfl)
  · refine .inr ⟨b, o, rfl, hb, fun i hi => ?_⟩
    have hi' : i < qs.length := by simpa using hi
    have := hc i hi' 0 _ rfl
    rw [List.getElem_map]
    simpa using this
set_option maxRecDepth 100000 in
theorem table_at {H : Type} {enc : TypeId × Value → H} {W : World} {spare : Nat → Bool} {n : Nat} {cs : List Value} {x : DataW H × List MemPlace}
    (hl : cs.length = 2) (ht : DataW.trod enc Try.prog W 0 spare true n 24 cs = some x) : ∃ (c : Int) (v : Value) (l : List ByteArray), cs = [.int .i64 c, v] ∧ StrsAt W v l ∧ l.length ≤ 9223372036854775807 ∧ ∀ t ∈ l, t.size ≤ 9223372036854775807 := by
  obtain ⟨xs, m, _, _, _, hxl, hf⟩ := DataW.trod_struct Try.underlying24 ht
  have c3 : Try.prog.cellsOf 3 = 1 := by kernel_rfl
  have c22 : Try.prog.cellsOf 22 = 1 := by kernel_rfl
  have c9 : Try.prog.cellsOf 9 = 1 := by kernel_rfl
  have f0 : DataW.trod enc Try.prog W 0 spare true m 3 ((cs.drop 0).take (Try.prog.cellsOf 3)) = xs[0]? := hf 0 _ rfl
  have f1 : DataW.trod enc Try.prog W 0 spare true m 22 ((cs.drop 1).take (Try.prog.cellsOf 22)) = xs[1]? := hf 1 _ rfl
  simp only [c3, c22] at f0 f1
  have hsz : xs.length = 2 := hxl
  obtain ⟨y0, y1, rfl⟩ : ∃ y0 y1, xs = [y0, y1] := by
    match xs, hsz with
    | [y0, y1], _ => exact ⟨_, _, rfl⟩
  obtain ⟨z0, z1, rfl⟩ : ∃ z0 z1, cs = [z0, z1] := by
    match cs, hl with
    | [z0, z1], _ => exact ⟨_, _, rfl⟩
  obtain ⟨a0, e0, _, _⟩ := DataW.trod_int Try.underlying3 f0
  obtain ⟨v, qs, e1, hS, hl1, _⟩ := recs_in (α := Bst) (k := 1) (f := fun t => [Value.string t.one]) Try.underlying22 c9 (by decide) (fun _ _ _ _ h2 => str_at2 h2) (show DataW.trod enc Try.prog W 0 spare true m 22 [z1] = some y1 from f1)
  simp at e0 e1
  subst e0 e1
  exact ⟨a0, z1, qs.map (·.one), rfl, strs_of_rec2 hS, by simpa using hl1, fun t ht => by
    obtain ⟨q, _, rfl⟩ := List.mem_map.1 ht
    exact q.le⟩
set_option maxRecDepth 100000 in
/-- A table that is handed in. -/
theorem open_table {H : Type} {enc : TypeId × Value → H} {W : World} {v : Value} {d : DataW H} {ps : List MemPlace} {base : Nat} (hok : Value.okWide Try.prog W .any base 24 v)
    (h : DataW.Trod enc Try.prog W 0 (fun _ => true) true 24 v d ps) : ∃ (c : Int) (u : Value) (l : List ByteArray), v = .agg #[.int .i64 c, u] ∧ StrsAt W u l ∧ l.length ≤ 9223372036854775807 ∧ ∀ t ∈ l, t.size ≤ 9223372036854775807 := by
  obtain ⟨cs, rfl, hsz⟩ := okWide_struct Try.underlying24 hok
  obtain ⟨fuel, hf⟩ := h
  have c24 : Try.prog.cellsOf 24 = 2 := by kernel_rfl
  obtain ⟨c, u, l, hs, h1, h2, h3⟩ := table_at (cs := cs.toList) (by rw [c24] at hsz; simpa using hsz) hf
  refine ⟨c, u, l, ?_, h1, h2, h3⟩
  have : cs = #[.int .i64 c, u] := Array.toList_inj.1 hs
  rw [this]
end Go.Proofs.Ytkhnfmdhdfpdhaa

namespace Go.Proofs.Ytkhnfmdhdfpdhaa
open Go.RowKit Go.Shelf

set_option maxRecDepth 100000 in
set_option maxHeartbeats 2000000 in
theorem sameSpans_yes (v u : Value) (qs : List Sp) (w : World) (hl : qs.length ≤ 9223372036854775807) (hS : RecAt 4 spL w v qs) (hR : RecAt 4 spL w u qs) :
    Calls Try.prog 35 #[v, u] w fun e w' => e = .returned (.bool true) ∧ Below w.heap.size w w' := by
  obtain ⟨a, cap, rfl, h2⟩ := hS.ex
  obtain ⟨a', cap', rfl, h3⟩ := hR.ex
  clear hS hR
  go_enter Try.func35, Try.ntmps35
  go_wp2_with fail
  go_loopw [5] (fun i wr => ∃ k : Nat, k ≤ qs.length ∧ i = .int .i64 k ∧ Below w.heap.size w wr) (fun i _ => qs.length - (intOf i).toNat)
  case atStart => exact ⟨0, by omega, rfl, Below.refl _ _⟩
  case round =>
    obtain ⟨k, hk, rfl, hb⟩ := hrel
    by_cases hlt : k < qs.length
    · rcases h2 with h2 | ⟨b, o, rfl, hbl, hc⟩
      · rw [h2] at hlt; simp at hlt
      · rcases h3 with h3 | ⟨b', o', rfl, hbl', hc'⟩
        · rw [h3] at hlt; simp at hlt
        · have hlt' : (k : Int) < qs.length := by omega
          have c0 : wr.cell? ⟨b, o + k * 4, none⟩ = some (.int .i64 qs[k].n) := (hb.cell hbl).trans (hc k hlt 0 _ rfl)
          have d0 : wr.cell? ⟨b', o' + k * 4, none⟩ = some (.int .i64 qs[k].n) := (hb.cell hbl').trans (hc' k hlt 0 _ rfl)
          have c1 : wr.cell? ⟨b, o + k * 4 + 1, none⟩ = some (.int .i64 qs[k].s) := (hb.cell hbl).trans (hc k hlt 1 _ rfl)
          have d1 : wr.cell? ⟨b', o' + k * 4 + 1, none⟩ = some (.int .i64 qs[k].s) := (hb.cell hbl').trans (hc' k hlt 1 _ rfl)
          have c2 : wr.cell? ⟨b, o + k * 4 + 2, none⟩ = some (.int .i64 qs[k].t) := (hb.cell hbl).trans (hc k hlt 2 _ rfl)
          have d2 : wr.cell? ⟨b', o' + k * 4 + 2, none⟩ = some (.int .i64 qs[k].t) := (hb.cell hbl').trans (hc' k hlt 2 _ rfl)
          have c3 : wr.cell? ⟨b, o + k * 4 + 3, none⟩ = some (.int .i64 qs[k].k) := (hb.cell hbl).trans (hc k hlt 3 _ rfl)
          have d3 : wr.cell? ⟨b', o' + k * 4 + 3, none⟩ = some (.int .i64 qs[k].k) := (hb.cell hbl').trans (hc' k hlt 3 _ rfl)
          clear hc hc'
          generalize qs[k].n = x0 at *
          generalize qs[k].s = x1 at *
          generalize qs[k].t = x2 at *
          generalize qs[k].k = x3 at *
          go_wp2_with fail
          go_quiet (fail)
          go_wp2_with fail
          go_roundw
          case rel => exact ⟨k + 1, by omega, by simp, below_drewN hb _⟩
          case measure => simp [intOf]; omega
    · have hge : ¬ (k : Int) < qs.length := by omega
      go_wp2_with fail
      go_ret
      exact ⟨rfl, hb⟩

set_option maxRecDepth 100000 in
set_option maxHeartbeats 2000000 in
theorem sameTexts_yes (v u : Value) (qs : List ByteArray) (w : World) (hl : qs.length ≤ 9223372036854775807) (hS : StrsAt w v qs) (hR : StrsAt w u qs) :
    Calls Try.prog 36 #[v, u] w fun e w' => e = .returned (.bool true) ∧ Below w.heap.size w w' := by
  obtain ⟨a, cap, rfl, h2⟩ := hS.ex
  obtain ⟨a', cap', rfl, h3⟩ := hR.ex
  clear hS hR
  go_enter Try.func36, Try.ntmps36
  go_wp2_with fail
  go_loopw [5] (fun i wr => ∃ k : Nat, k ≤ qs.length ∧ i = .int .i64 k ∧ Below w.heap.size w wr) (fun i _ => qs.length - (intOf i).toNat)
  case atStart => exact ⟨0, by omega, rfl, Below.refl _ _⟩
  case round =>
    obtain ⟨k, hk, rfl, hb⟩ := hrel
    by_cases hlt : k < qs.length
    · rcases h2 with h2 | ⟨b, o, rfl, hbl, hc⟩
      · rw [h2] at hlt; simp at hlt
      · rcases h3 with h3 | ⟨b', o', rfl, hbl', hc'⟩
        · rw [h3] at hlt; simp at hlt
        · have hlt' : (k : Int) < qs.length := by omega
          have c0 : wr.cell? ⟨b, o + k, none⟩ = some (.string qs[k]) := (hb.cell hbl).trans (hc k hlt)
          have d0 : wr.cell? ⟨b', o' + k, none⟩ = some (.string qs[k]) := (hb.cell hbl').trans (hc' k hlt)
          clear hc hc'
          generalize qs[k] = x0 at *
          go_wp2_with fail
          go_quiet (fail)
          go_wp2_with fail
          go_roundw
          case rel => exact ⟨k + 1, by omega, by simp, below_drewN hb _⟩
          case measure => simp [intOf]; omega
    · have hge : ¬ (k : Int) < qs.length := by omega
      go_wp2_with fail
      go_ret
      exact ⟨rfl, hb⟩


set_option maxRecDepth 100000 in
set_option maxHeartbeats 4000000 in
theorem eqIn31 (p : Pr) (w : World) : (Op.equalIn 10000 37 (.agg (prL p).toArray) (.agg (prL p).toArray)).run Try.prog w = .ok true w := by
  obtain ⟨x0, x1, x2, x3, x4, x5, x6, x7, x8, x9, x10, x11, x12, x13, x14, x15, x16⟩ := p
  show (Op.equalIn 10000 37 (.agg #[.int .i64 x0, .int .i64 x1, .int .i64 x2, .int .i64 x3, .int .i64 x4, .int .i64 x5, .int .i64 x6, .int .i64 x7, .int .i64 x8, .int .i64 x9, .int .i64 x10, .int .i64 x11, .int .i64 x12, .int .i64 x13, .int .i64 x14, .int .i64 x15, .int .i64 x16]) (.agg #[.int .i64 x0, .int .i64 x1, .int .i64 x2, .int .i64 x3, .int .i64 x4, .int .i64 x5, .int .i64 x6, .int .i64 x7, .int .i64 x8, .int .i64 x9, .int .i64 x10, .int .i64 x11, .int .i64 x12, .int .i64 x13, .int .i64 x14, .int .i64 x15, .int .i64 x16])).run Try.prog w = .ok true w
  go_simp
theorem eql31 (p : Pr) (w : World) : (binOp .eql 37 (.agg (prL p).toArray) (.agg (prL p).toArray)).run Try.prog w = .ok (.bool true) w := by
  rw [run_eql_struct, eqIn31 p w]
  rfl
theorem guard31 : Try.prog.eqGuardType Try.prog.depth 37 = false := by kernel_rfl
theorem wpList_eql31_want {ops : Array Oper} {rest : List Oper} {o : Oper} {a : Act} {w : World} {Q : Exit → Act → World → Prop} (x y : Operand) (ho : o.op = .binOp .eql 37 x y 37) (hw : Region.wanted o (yielded ops a.tmps) = true)
    (p : Pr) (hx : a.eval x = .agg (prL p).toArray) (hy : a.eval y = .agg (prL p).toArray)
    (h : wpList Try.prog ops Q rest (a.put o.dst (.bool true)) w) : wpList Try.prog ops Q (o :: rest) a w :=
  BigFrame.wpList_want hw fun K hK => by
    have he := eql31 p w
    have hg := run_eqGuard_agg w .eql 37 x y (prL p).toArray (prL p).toArray guard31
    unfold Oper.wp execOp
    simp only [ho, hx, hy, Sem.run_bind, hg, he, Result.andThen_ok, Sem.run_pure]
    exact hK _ _ h

/-- The same paragraph, its lists elsewhere. -/
def paW (a : Pa) (v u : Value) : Pa := ⟨a.t, v, a.p, a.lb, u, a.sp, a.ms⟩

set_option maxRecDepth 100000 in
set_option maxHeartbeats 4000000 in
theorem samePara_yes (a : Pa) (v u : Value) (w : World) (hA : PaAt w a) (hA' : PaAt w (paW a v u)) :
    Calls Try.prog 16 #[paV (paW a v u), paV a] w fun e w' => e = .returned (.bool true) ∧ Below w.heap.size w w' := by
  have hB := (Below.refl w.heap.size w).alloc (Nat.le_refl _) (Obj.cells (paC (paW a v u)) 39)
  have hP := PB.new w (paW a v u)
  have hB2 := hB.alloc hB.size (Obj.cells (paC a) 39)
  have hP2 : PB ((w.alloc (.cells (paC (paW a v u)) 39)).alloc (.cells (paC a) 39)) w.heap.size (paW a v u) := ⟨(Below.heap_alloc _ _ _ (by simp)).trans hP.row⟩
  have hQ2 := PB.new (w.alloc (.cells (paC (paW a v u)) 39)) a
  rw [World.size_alloc] at hQ2
  have hA2 := hA.below hB2 (Nat.le_refl _)
  have hA2' := hA'.below hB2 (Nat.le_refl _)
  unfold paV
  have hs1 : (w.alloc (.cells (paC (paW a v u)) 39)).heap.size = w.heap.size + 1 := World.size_alloc _ _
  clear hP hB hA hA'
  go_enter Try.func16, Try.ntmps16
  generalize hw1 : w.alloc (.cells (paC (paW a v u)) 39) = w1 at *
  have c0 := hP2.c0
  have d0 := hQ2.c0
  have c1 := hP2.c1
  have d1 := hQ2.c1
  generalize hw2 : w1.alloc (.cells (paC a) 39) = w2 at *
  have e0 : (paW a v u).t = a.t := rfl
  have e1 : (paW a v u).sv = v := rfl
  rw [e0] at c0
  rw [e1] at c1
  have hss := sameSpans_yes v a.sv a.sp w2 hA2.few.1 hA2'.sp hA2.sp
  go_wp2_with fail
  refine hss.mono ?_
  rintro e w3 ⟨rfl, b3⟩
  have hP3 := hP2.below b3 hP2.lt
  have hQ3 := hQ2.below b3 hQ2.lt
  have hA3 := hA2.below b3 (Nat.le_refl _)
  have hA3' := hA2'.below b3 (Nat.le_refl _)
  have hB3 := hB2.trans (b3.mono hB2.size)
  have c19 := hP3.c19
  have d19 := hQ3.c19
  have c20 := hP3.c20
  have d20 := hQ3.c20
  have e19 : (paW a v u).lb = a.lb := rfl
  have e20 : (paW a v u).mv = u := rfl
  rw [e19] at c19
  rw [e20] at c20
  have hst := sameTexts_yes u a.mv a.ms w3 hA3.few.2 hA3'.ms hA3.ms
  go_wp2_with (first | (refine wpList_load_part 37 _ rfl (by rfl) w.heap.size 2 rfl (prL a.p) _ hP3.pr Try.underlying37 rfl (info31 a.p) ?_) | (refine wpList_load_part 37 _ rfl (by rfl) (w.heap.size + 1) 2 rfl (prL a.p) _ hQ3.pr Try.underlying37 rfl (info31 a.p) ?_) | (refine wpList_eql31_want _ _ rfl (by rfl) a.p rfl rfl ?_))
  refine hst.mono ?_
  rintro e w4 ⟨rfl, b4⟩
  have hB4 := hB3.trans (b4.mono hB3.size)
  go_wp2_with fail
  go_ret
  exact ⟨rfl, hB4⟩
end Go.Proofs.Ytkhnfmdhdfpdhaa
