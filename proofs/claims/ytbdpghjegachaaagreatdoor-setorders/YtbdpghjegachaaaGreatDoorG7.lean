/-
  What is proved here: the masses of a paragraph (no program is named): what they are, how many marks are used.
  What is proved here: regions of Masses whose operations come up in any order.
-/
import Derived.Test.YtbdpghjegachaaaGreatDoorG6
import Derived.Test.YtbdpghjegachaaaGreatDoorG2
namespace Go.Proofs.YtbdpghjegachaaaGreatDoor
open Go.RowKit Go.Shelf

theorem kind7 {x : Int} : kindI x = 7 ↔ x = 2 := by
  unfold kindI
  constructor
  · intro h
    repeat (split at h <;> try omega)
  · rintro rfl; decide
theorem acc_ne2 {x : Int} (h : accB x = true) : x ≠ 2 := by
  rintro rfl; revert h; decide
/-- How many Refs are among the first clusters. -/
def rI (t : ByteArray) : Nat → Nat
  | 0 => 0
  | i + 1 => rI t i + (if kindI (bt t (st t i)) = 7 then 1 else 0)
theorem refN_succ (t : ByteArray) (k : Nat) : refN t (k + 1) = refN t k + (if bt t k = 2 then 1 else 0) := rfl
theorem refN_end {t : ByteArray} (p : Nat) : refN t (endN t p) = refN t p + (if kindI (bt t p) = 7 then 1 else 0) := by
  have e : (if kindI (bt t p) = 7 then 1 else 0) = (if bt t p = 2 then 1 else 0) := by
    by_cases h : bt t p = 2
    · rw [if_pos h, if_pos (kind7.2 h)]
    · rw [if_neg h, if_neg (fun h' => h (kind7.1 h'))]
  rw [e]
  unfold endN
  split
  · split
    · rename_i h1
      split
      · rename_i h2
        rw [refN_succ, refN_succ, refN_succ, if_neg (acc_ne2 h1), if_neg (acc_ne2 h2)]; omega
      · rw [refN_succ, refN_succ, if_neg (acc_ne2 h1)]; omega
    · rw [refN_succ]
  · rw [refN_succ]
theorem rI_ref (t : ByteArray) : ∀ i, i ≤ num t → rI t i = refN t (st t i)
  | 0, _ => rfl
  | i + 1, h => by
    have hl := num_lt (show i < num t by omega)
    rw [st_succ hl, refN_end, ← rI_ref t i (by omega)]
    rfl
theorem refN_mono (t : ByteArray) {i j : Nat} (h : i ≤ j) : refN t i ≤ refN t j := by
  induction j with
  | zero => obtain rfl : i = 0 := by omega
            exact Nat.le_refl _
  | succ j ih =>
    by_cases e : i = j + 1
    · rw [e]; exact Nat.le_refl _
    · have := ih (by omega)
      rw [refN_succ]; omega
theorem rI_lt {t : ByteArray} {i : Nat} (h : i < num t) (h7 : kindI (bt t (st t i)) = 7) : rI t i < refN t t.size := by
  have h1 := rI_ref t (i + 1) h
  have h2 := refN_mono t (st_le t (i + 1))
  have h3 : rI t (i + 1) = rI t i + 1 := by show rI t i + _ = _; rw [if_pos h7]
  omega

theorem rowC_get (t : ByteArray) : ∀ (n i : Nat), i < n → ∀ j u, (clC t i)[j]? = some u → (rowC t n)[i * 3 + j]? = some u
  | 0, i, h, _, _, _ => by omega
  | n + 1, i, h, j, u, hu => by
    have hj : j < 3 := (List.getElem?_eq_some_iff.1 hu).1
    show (rowC t n ++ clC t n)[i * 3 + j]? = some u
    by_cases hi : i < n
    · rw [List.getElem?_append_left (by rw [rowC_len]; omega)]
      exact rowC_get t n i hi j u hu
    · obtain rfl : i = n := by omega
      rw [List.getElem?_append_right (by rw [rowC_len]; omega), rowC_len]
      rw [show i * 3 + j - i * 3 = j by omega]
      exact hu

/-- A mass. -/
structure Ms where
  f : Int
  t : Int
  k : Int
  s : Int
  w : Int
  q : Int
def msL (m : Ms) : List Value := [.int .i64 m.f, .int .i64 m.t, .int .i64 m.k, .int .i64 m.s, .int .i64 m.w, .int .i64 m.q]
theorem msL_len (m : Ms) : (msL m).length = 6 := rfl
theorem msL_one (r : Ms) : ∀ u ∈ msL r, u.oneCell' = true := by intro u hu; simp [msL] at hu; rcases hu with rfl | rfl | rfl | rfl | rfl | rfl <;> rfl
def fc0 : Fc := ⟨0, 0, 0, 0, 0⟩
/-- What cluster i shows. -/
def fc (a : Pa) (i : Nat) : Fc := ⟨kindI (bt a.t (st a.t i)), bt a.t (st a.t i), szAt a (st a.t i : Nat), (spAt a.sp (st a.t i : Nat)).t, (spAt a.sp (st a.t i : Nat)).k⟩
/-- What the one ahead shows. -/
def pf (a : Pa) : Nat → Fc
  | 0 => fc0
  | i + 1 => fc a i
def mkAt (a : Pa) (i : Nat) : ByteArray := if kindI (bt a.t (st a.t i)) = 7 then a.ms.getD (rI a.t i) ByteArray.empty else ByteArray.empty
def msI (a : Pa) (i : Nat) : Ms := ⟨st a.t i, st a.t (i + 1), (fc a i).kd, (fc a i).s, wdI (fc a i) (mkAt a i), meetI (pf a i) (fc a i)⟩
def mss (a : Pa) : List Ms := (List.range (num a.t)).map (msI a)
theorem mss_len (a : Pa) : (mss a).length = num a.t := by simp [mss]
theorem mss_get (a : Pa) {i : Nat} (h : i < (mss a).length) : (mss a)[i] = msI a i := by simp [mss]

/-- What may be, of a paragraph. -/
structure GoodP (a : Pa) : Prop where
  wr : wrongI a.t = 0
  fd : fieldB a.t = false
  sp : spB a.sp a.t.size = true
  pr : keepB (prB a.p) = true
  lb : standB a.lb 0 16 = true
  mrk : markB a.t a.ms = true
theorem good_of {a : Pa} (h : chkI a = 0) : GoodP a := by
  rcases chk_cases a with ⟨e1, e2⟩ | ⟨e1, _⟩ | ⟨e1, _⟩ | ⟨e1, e2, e3, e4⟩
  · rw [e1] at h; exact absurd h e2
  · rw [e1] at h; cases h
  · rw [e1] at h; cases h
  · obtain ⟨f1, f2, f3, f4⟩ := rest_yes a e4
    exact ⟨e2, e3, f1, f2, f3, f4⟩
theorem GoodP.size {a : Pa} (h : GoodP a) : a.t.size ≤ 4096 := ok_size h.wr
theorem GoodP.p0 {a : Pa} (h : GoodP a) : 1 ≤ a.p.p0 ∧ a.p.p0 ≤ 64 := by
  have := List.all_eq_true.1 h.pr (a.p.p0, 1, 64) (by simp [prB])
  simpa [bdB] using this
theorem GoodP.ms {a : Pa} (h : GoodP a) : a.ms.length = refN a.t a.t.size ∧ ∀ m ∈ a.ms, standB m 1 8 = true := by
  have := h.mrk
  unfold markB at this
  rw [Bool.and_eq_true, decide_eq_true_eq, List.all_eq_true] at this
  exact this
theorem GoodP.span {a : Pa} (h : GoodP a) {k : Nat} (hk : k < a.t.size) : chB (spAt a.sp k) = true := by
  obtain ⟨h1, _, _⟩ := lk_spec h.sp (k := k) (by omega) (by omega)
  unfold spAt
  rw [List.getD_eq_getElem?_getD, List.getElem?_eq_getElem h1]
  exact (spB_all h.sp _ h1).2.1
theorem GoodP.fok {a : Pa} (h : GoodP a) {i : Nat} (hi : i < num a.t) : Fok (fc a i) := by
  have hk := num_lt hi
  have hs := h.span hk
  unfold chB at hs
  rw [decide_eq_true_eq] at hs
  refine ⟨?_, hs.2.1, bt_rng _ _⟩
  show 0 ≤ szAt a _ ∧ szAt a _ ≤ 64
  unfold szAt
  have := h.p0
  split
  · omega
  · exact hs.1
theorem stand_size {m : ByteArray} {x y : Int} (h : standB m x y = true) : x ≤ m.size ∧ (m.size : Int) ≤ y := by
  unfold standB at h
  rw [Bool.and_eq_true, decide_eq_true_eq] at h
  exact h.1
theorem GoodP.mark {a : Pa} (h : GoodP a) {i : Nat} (hi : i < num a.t) (h7 : kindI (bt a.t (st a.t i)) = 7) : ∃ hr : rI a.t i < a.ms.length, mkAt a i = a.ms[rI a.t i] ∧ a.ms[rI a.t i].size ≤ 8 := by
  have hr : rI a.t i < a.ms.length := by rw [h.ms.1]; exact rI_lt hi h7
  refine ⟨hr, ?_, ?_⟩
  · unfold mkAt
    rw [if_pos h7, List.getD_eq_getElem?_getD, List.getElem?_eq_getElem hr]; rfl
  · have := stand_size (h.ms.2 _ (List.getElem_mem hr)); omega
theorem mark_no {a : Pa} {i : Nat} (h7 : kindI (bt a.t (st a.t i)) ≠ 7) : mkAt a i = ByteArray.empty := if_neg h7
theorem rI_yes {t : ByteArray} {i : Nat} (h : kindI (bt t (st t i)) = 7) : rI t (i + 1) = rI t i + 1 := by show rI t i + _ = _; rw [if_pos h]
theorem rI_no {t : ByteArray} {i : Nat} (h : kindI (bt t (st t i)) ≠ 7) : rI t (i + 1) = rI t i := by show rI t i + _ = _; rw [if_neg h]; rfl

/-- What is laid down already. -/
def Laid (a : Pa) (k : Nat) (cs : Array Value) : Prop := cs.size = num a.t * 6 ∧ ∀ j, j < k → ∀ q u, (msL (msI a j))[q]? = some u → cs[j * 6 + q]? = some u
theorem laid_all {a : Pa} {cs : Array Value} (h : Laid a (num a.t) cs) : cs.toList = (mss a).flatMap msL := by
  apply List.ext_getElem?
  intro j
  by_cases hj : j < num a.t * 6
  · have hi : j / 6 < num a.t := by omega
    have hi' : j / 6 < (mss a).length := by rw [mss_len]; exact hi
    have hg := fm_get msL_len (mss a) hi' (j % 6) (by omega)
    rw [show j / 6 * 6 + j % 6 = j by omega, mss_get] at hg
    rw [hg]
    have hl : j % 6 < (msL (msI a (j / 6))).length := by rw [msL_len]; omega
    have := h.2 (j / 6) hi (j % 6) _ (List.getElem?_eq_getElem hl)
    rw [show j / 6 * 6 + j % 6 = j by omega] at this
    rw [List.getElem?_eq_getElem hl, ← this]
    simp
  · rw [List.getElem?_eq_none (by simp [h.1]; omega), List.getElem?_eq_none (by rw [fm_len msL_len, mss_len]; omega)]

end Go.Proofs.YtbdpghjegachaaaGreatDoor

namespace Go.Proofs.YtbdpghjegachaaaGreatDoor
open Go.RowKit Go.Shelf

theorem below_drew (w : World) : Below w.heap.size w w.drew := (Below.refl _ _).drew
theorem load_pa {a : Act} {w : World} {B : Nat} {s : Pa} {o : Oper} {x : Operand} (h : PB w B s) (ho : o.op = .load 27 x) (hx : a.eval x = .pointer (some ⟨B, 0, none⟩)) : (execOp a.eval o).run Tryz.prog w = .ok (.value (.agg (paC s))) w := by
  have hl := run_loadVar_row (P := Tryz.prog) w B 27 27 (paC s) (0, 0) _ h.row Tryz.underlying27 rfl (info34 s)
  simp [execOp, ho, hx, Instr.loadAt, Instr.sureAddr, hl]
theorem load_fc {a : Act} {w : World} {B : Nat} {s : Fc} {o : Oper} {x : Operand} (h : FB w B s) (ho : o.op = .load 98 x) (hx : a.eval x = .pointer (some ⟨B, 0, none⟩)) : (execOp a.eval o).run Tryz.prog w = .ok (.value (.agg (fcC s))) w := by
  have hl := run_loadVar_row (P := Tryz.prog) w B 98 98 (fcC s) (0, 0) _ h.row Tryz.underlying98 rfl (info68 s)
  simp [execOp, ho, hx, Instr.loadAt, Instr.sureAddr, hl]
/-- The box of a cluster. -/
structure CB (W : World) (B : Nat) (a b c : Int) : Prop where
  row : W.heap[B]? = some (.cells #[.int .i64 a, .int .i64 b, .int .i64 c] 100 (0, 0))
theorem CB.lt {w : World} {B : Nat} {a b c : Int} (h : CB w B a b c) : B < w.heap.size := (Array.getElem?_eq_some_iff.1 h.row).1
theorem CB.turns {X : Nat → Prop} {w w' : World} {B : Nat} {a b c : Int} (h : CB w B a b c) (hb : Turns X w w') (hn : ¬ X B) : CB w' B a b c := ⟨(hb.block B h.lt hn).trans h.row⟩
theorem CB.below {n : Nat} {w w' : World} {B : Nat} {a b c : Int} (h : CB w B a b c) (hb : Below n w w') (hn : B < n) : CB w' B a b c := ⟨(hb.block B hn).trans h.row⟩
theorem CB.c0 {W : World} {B : Nat} {a b c : Int} (h : CB W B a b c) : W.cell? ⟨B, 0, none⟩ = some (.int .i64 a) := by rw [Lib.cell_of_heap h.row]; rfl
theorem CB.c1 {W : World} {B : Nat} {a b c : Int} (h : CB W B a b c) : W.cell? ⟨B, 1, none⟩ = some (.int .i64 b) := by rw [Lib.cell_of_heap h.row]; rfl
theorem CB.c2 {W : World} {B : Nat} {a b c : Int} (h : CB W B a b c) : W.cell? ⟨B, 2, none⟩ = some (.int .i64 c) := by rw [Lib.cell_of_heap h.row]; rfl
theorem PB.turns {X : Nat → Prop} {w w' : World} {B : Nat} {a : Pa} (h : PB w B a) (hb : Turns X w w') (hn : ¬ X B) : PB w' B a := ⟨(hb.block B h.lt hn).trans h.row⟩
theorem Turns.setRow {X : Nat → Prop} (W : World) {r : Nat} (hp : X r) (cs : Array Value) : Turns X W (W.setRow r cs) :=
  ⟨rfl, rfl, rfl, by simp, fun k _ hk => setRow_other W r k cs (fun e => hk (e ▸ hp))⟩
def fr17 (v0 v1 v2 v3 v4 v5 v6 v7 v8 v9 v10 v11 v12 v13 v14 v15 v16 v17 v18 v19 v20 v21 v22 v23 v24 v25 v26 v27 v28 v29 v30 v31 v32 v33 v34 v35 v36 v37 v38 v39 v40 v41 v42 v43 v44 v45 v46 v47 v48 v49 v50 v51 v52 v53 v54 v55 v56 v57 v58 v59 v60 v61 v62 v63 v64 v65 v66 v67 v68 v69 v70 v71 v72 v73 v74 v75 v76 v77 : Value) : Act := { tmps := #[v0, v1, v2, v3, v4, v5, v6, v7, v8, v9, v10, v11, v12, v13, v14, v15, v16, v17, v18, v19, v20, v21, v22, v23, v24, v25, v26, v27, v28, v29, v30, v31, v32, v33, v34, v35, v36, v37, v38, v39, v40, v41, v42, v43, v44, v45, v46, v47, v48, v49, v50, v51, v52, v53, v54, v55, v56, v57, v58, v59, v60, v61, v62, v63, v64, v65, v66, v67, v68, v69, v70, v71, v72, v73, v74, v75, v76, v77], defers := [] }
def ops17_4 (ps : String) : Array Oper := #[{ dst := some 22, op := Op.load 27 (Operand.tmp 1), type := 27, pos := ps, after := #[], guard := none }, { dst := some 23, op := Op.call { callee := Callee.value (Operand.func 46), args := #[Operand.tmp 22], argTypes := #[27] }, type := 95, pos := ps, after := #[{ on := 0, ground := Ground.data }], guard := none }, { dst := some 24, op := Op.fieldAddr 27 (Operand.tmp 1) 4, type := 0, pos := ps, after := #[{ on := 4, ground := Ground.gcOnly Departure.lateStores }], guard := none }, { dst := some 25, op := Op.load 25 (Operand.tmp 24), type := 25, pos := ps, after := #[{ on := 2, ground := Ground.data }, { on := 4, ground := Ground.gcOnly Departure.lateStores }], guard := none }, { dst := some 6, op := Op.assign (Operand.tmp 23), type := 95, pos := ps, after := #[{ on := 1, ground := Ground.data }, { on := 1, ground := Ground.chain }, { on := 0, ground := Ground.phase }, { on := 1, ground := Ground.phase }, { on := 2, ground := Ground.textOnly Departure.lateStores }, { on := 3, ground := Ground.textOnly Departure.lateStores }], guard := none }, { dst := some 7, op := Op.assign (Operand.tmp 25), type := 25, pos := ps, after := #[{ on := 3, ground := Ground.data }, { on := 4, ground := Ground.chain }, { on := 0, ground := Ground.phase }, { on := 1, ground := Ground.phase }, { on := 2, ground := Ground.phase }, { on := 3, ground := Ground.phase }, { on := 4, ground := Ground.phase }], guard := none }]

set_option maxRecDepth 100000 in
set_option maxHeartbeats 1000000 in
theorem mass_r4 (Q : Exit → Act → World → Prop) (hQ : ∀ c x (n : Nat) v w, Q (.panic c) (x.put (some n) v) w → Q (.panic c) x w) (id : Nat) (ps : String) {v0 v2 v3 v4 v5 v6 v7 v8 v9 v10 v11 v12 v13 v14 v15 v16 v17 v18 v19 v20 v21 v22 v23 v24 v25 v26 v27 v28 v29 v30 v31 v32 v33 v34 v35 v36 v37 v38 v39 v40 v41 v42 v43 v44 v45 v46 v47 v48 v49 v50 v51 v52 v53 v54 v55 v56 v57 v58 v59 v60 v61 v62 v63 v64 v65 v66 v67 v68 v69 v70 v71 v72 v73 v74 v75 v76 v77 : Value}
    (B : Nat) (a : Pa) (w0 : World) (hP : PB w0 B a) (hA : PaAt w0 a)
    (hq : ∀ F S Bq w', (w0.heap.size ≤ F ∧ w0.heap.size ≤ S ∧ w0.heap.size ≤ Bq ∧ F < w'.heap.size ∧ S < w'.heap.size ∧ Bq < w'.heap.size) → (a.sp ≠ [] → LkAt a F S Bq 0 w') → Below w0.heap.size w0 w' → Q .normal (fr17 v0 (.pointer (some ⟨B, 0, none⟩)) v2 v3 v4 v5 (.func (.func 88) #[] #[.pointer (some ⟨F, 0, none⟩), .pointer (some ⟨S, 0, none⟩), .pointer (some ⟨Bq, 0, none⟩)]) a.mv v8 v9 v10 v11 v12 v13 v14 v15 v16 v17 v18 v19 v20 v21 (.agg (paC a)) (.func (.func 88) #[] #[.pointer (some ⟨F, 0, none⟩), .pointer (some ⟨S, 0, none⟩), .pointer (some ⟨Bq, 0, none⟩)]) (.pointer (some ⟨B, 20, none⟩)) a.mv v26 v27 v28 v29 v30 v31 v32 v33 v34 v35 v36 v37 v38 v39 v40 v41 v42 v43 v44 v45 v46 v47 v48 v49 v50 v51 v52 v53 v54 v55 v56 v57 v58 v59 v60 v61 v62 v63 v64 v65 v66 v67 v68 v69 v70 v71 v72 v73 v74 v75 v76 v77) w') :
    (Code.region id (ops17_4 ps) true).wp Tryz.prog Q (fr17 v0 (.pointer (some ⟨B, 0, none⟩)) v2 v3 v4 v5 v6 v7 v8 v9 v10 v11 v12 v13 v14 v15 v16 v17 v18 v19 v20 v21 v22 v23 v24 v25 v26 v27 v28 v29 v30 v31 v32 v33 v34 v35 v36 v37 v38 v39 v40 v41 v42 v43 v44 v45 v46 v47 v48 v49 v50 v51 v52 v53 v54 v55 v56 v57 v58 v59 v60 v61 v62 v63 v64 v65 v66 v67 v68 v69 v70 v71 v72 v73 v74 v75 v76 v77) w0 := by
  refine wp_region_held (S := fun w => PB w B a ∧ PaAt w a) (by kernel_rfl) ?_
  change wpAnyH _ _ _ _ _ 6 _ _ (World.drew w0)
  have C0 : PB w0.drew B a ∧ PaAt w0.drew a := ⟨hP.below (below_drew w0) hP.lt, hA.below (below_drew w0) (Nat.le_refl _)⟩
  refine take_h (i := 0) (oi := { dst := some 22, op := Op.load 27 (Operand.tmp 1), type := 27, pos := ps, after := #[], guard := none }) (fuel := 5) (v := (.agg (paC a))) (fr17 v0 (.pointer (some ⟨B, 0, none⟩)) v2 v3 v4 v5 v6 v7 v8 v9 v10 v11 v12 v13 v14 v15 v16 v17 v18 v19 v20 v21 (.agg (paC a)) v23 v24 v25 v26 v27 v28 v29 v30 v31 v32 v33 v34 v35 v36 v37 v38 v39 v40 v41 v42 v43 v44 v45 v46 v47 v48 v49 v50 v51 v52 v53 v54 v55 v56 v57 v58 v59 v60 v61 v62 v63 v64 v65 v66 v67 v68 v69 v70 v71 v72 v73 v74 v75 v76 v77) (by kernel_rfl) (by kernel_rfl) (by kernel_rfl) (by kernel_rfl) (fun c x w => hQ c x _ _ w) (by kernel_rfl) (fun w hS => load_pa (x := (Operand.tmp 1)) hS.1 (by kernel_rfl) (by kernel_rfl)) (by kernel_rfl) C0 ?_
  refine take_h (i := 2) (oi := { dst := some 24, op := Op.fieldAddr 27 (Operand.tmp 1) 4, type := 0, pos := ps, after := #[{ on := 4, ground := Ground.gcOnly Departure.lateStores }], guard := none }) (fuel := 4) (v := (.pointer (some ⟨B, 20, none⟩))) (fr17 v0 (.pointer (some ⟨B, 0, none⟩)) v2 v3 v4 v5 v6 v7 v8 v9 v10 v11 v12 v13 v14 v15 v16 v17 v18 v19 v20 v21 (.agg (paC a)) v23 (.pointer (some ⟨B, 20, none⟩)) v25 v26 v27 v28 v29 v30 v31 v32 v33 v34 v35 v36 v37 v38 v39 v40 v41 v42 v43 v44 v45 v46 v47 v48 v49 v50 v51 v52 v53 v54 v55 v56 v57 v58 v59 v60 v61 v62 v63 v64 v65 v66 v67 v68 v69 v70 v71 v72 v73 v74 v75 v76 v77) (by kernel_rfl) (by kernel_rfl) (by kernel_rfl) (by kernel_rfl) (fun c x w => hQ c x _ _ w) (by kernel_rfl) (fun w hS => by unfold fr17; go_simp) (by kernel_rfl) C0 ?_
  refine take_h (i := 3) (oi := { dst := some 25, op := Op.load 25 (Operand.tmp 24), type := 25, pos := ps, after := #[{ on := 2, ground := Ground.data }, { on := 4, ground := Ground.gcOnly Departure.lateStores }], guard := none }) (fuel := 3) (v := a.mv) (fr17 v0 (.pointer (some ⟨B, 0, none⟩)) v2 v3 v4 v5 v6 v7 v8 v9 v10 v11 v12 v13 v14 v15 v16 v17 v18 v19 v20 v21 (.agg (paC a)) v23 (.pointer (some ⟨B, 20, none⟩)) a.mv v26 v27 v28 v29 v30 v31 v32 v33 v34 v35 v36 v37 v38 v39 v40 v41 v42 v43 v44 v45 v46 v47 v48 v49 v50 v51 v52 v53 v54 v55 v56 v57 v58 v59 v60 v61 v62 v63 v64 v65 v66 v67 v68 v69 v70 v71 v72 v73 v74 v75 v76 v77) (by kernel_rfl) (by kernel_rfl) (by kernel_rfl) (by kernel_rfl) (fun c x w => hQ c x _ _ w) (by kernel_rfl) (fun w hS => by have e := hS.1.c20; unfold fr17; go_simp) (by kernel_rfl) C0 ?_
  refine want_h (i := 1) (oi := { dst := some 23, op := Op.call { callee := Callee.value (Operand.func 46), args := #[Operand.tmp 22], argTypes := #[27] }, type := 95, pos := ps, after := #[{ on := 0, ground := Ground.data }], guard := none }) (fuel := 2) (by kernel_rfl) (by kernel_rfl) (by kernel_rfl) fun K hK => ?_
  unfold fr17
  go_simp
  refine (looks_any a _ C0.2).mono ?_
  rintro e w1 ⟨F, S, Bq, rfl, hbd, hL, B1⟩
  have C1 : PB w1 B a ∧ PaAt w1 a := ⟨C0.1.below B1 C0.1.lt, C0.2.below B1 (Nat.le_refl _)⟩
  refine hK _ _ C1 (cast_h (fr17 v0 (.pointer (some ⟨B, 0, none⟩)) v2 v3 v4 v5 v6 v7 v8 v9 v10 v11 v12 v13 v14 v15 v16 v17 v18 v19 v20 v21 (.agg (paC a)) (.func (.func 88) #[] #[.pointer (some ⟨F, 0, none⟩), .pointer (some ⟨S, 0, none⟩), .pointer (some ⟨Bq, 0, none⟩)]) (.pointer (some ⟨B, 20, none⟩)) a.mv v26 v27 v28 v29 v30 v31 v32 v33 v34 v35 v36 v37 v38 v39 v40 v41 v42 v43 v44 v45 v46 v47 v48 v49 v50 v51 v52 v53 v54 v55 v56 v57 v58 v59 v60 v61 v62 v63 v64 v65 v66 v67 v68 v69 v70 v71 v72 v73 v74 v75 v76 v77) (by kernel_rfl) ?_)
  clear hK K
  refine take_h (i := 4) (oi := { dst := some 6, op := Op.assign (Operand.tmp 23), type := 95, pos := ps, after := #[{ on := 1, ground := Ground.data }, { on := 1, ground := Ground.chain }, { on := 0, ground := Ground.phase }, { on := 1, ground := Ground.phase }, { on := 2, ground := Ground.textOnly Departure.lateStores }, { on := 3, ground := Ground.textOnly Departure.lateStores }], guard := none }) (fuel := 1) (v := (.func (.func 88) #[] #[.pointer (some ⟨F, 0, none⟩), .pointer (some ⟨S, 0, none⟩), .pointer (some ⟨Bq, 0, none⟩)])) (fr17 v0 (.pointer (some ⟨B, 0, none⟩)) v2 v3 v4 v5 (.func (.func 88) #[] #[.pointer (some ⟨F, 0, none⟩), .pointer (some ⟨S, 0, none⟩), .pointer (some ⟨Bq, 0, none⟩)]) v7 v8 v9 v10 v11 v12 v13 v14 v15 v16 v17 v18 v19 v20 v21 (.agg (paC a)) (.func (.func 88) #[] #[.pointer (some ⟨F, 0, none⟩), .pointer (some ⟨S, 0, none⟩), .pointer (some ⟨Bq, 0, none⟩)]) (.pointer (some ⟨B, 20, none⟩)) a.mv v26 v27 v28 v29 v30 v31 v32 v33 v34 v35 v36 v37 v38 v39 v40 v41 v42 v43 v44 v45 v46 v47 v48 v49 v50 v51 v52 v53 v54 v55 v56 v57 v58 v59 v60 v61 v62 v63 v64 v65 v66 v67 v68 v69 v70 v71 v72 v73 v74 v75 v76 v77) (by kernel_rfl) (by kernel_rfl) (by kernel_rfl) (by kernel_rfl) (fun c x w => hQ c x _ _ w) (by kernel_rfl) (fun w _ => by kernel_rfl) (by kernel_rfl) C1 ?_
  refine take_h (i := 5) (oi := { dst := some 7, op := Op.assign (Operand.tmp 25), type := 25, pos := ps, after := #[{ on := 3, ground := Ground.data }, { on := 4, ground := Ground.chain }, { on := 0, ground := Ground.phase }, { on := 1, ground := Ground.phase }, { on := 2, ground := Ground.phase }, { on := 3, ground := Ground.phase }, { on := 4, ground := Ground.phase }], guard := none }) (fuel := 0) (v := a.mv) (fr17 v0 (.pointer (some ⟨B, 0, none⟩)) v2 v3 v4 v5 (.func (.func 88) #[] #[.pointer (some ⟨F, 0, none⟩), .pointer (some ⟨S, 0, none⟩), .pointer (some ⟨Bq, 0, none⟩)]) a.mv v8 v9 v10 v11 v12 v13 v14 v15 v16 v17 v18 v19 v20 v21 (.agg (paC a)) (.func (.func 88) #[] #[.pointer (some ⟨F, 0, none⟩), .pointer (some ⟨S, 0, none⟩), .pointer (some ⟨Bq, 0, none⟩)]) (.pointer (some ⟨B, 20, none⟩)) a.mv v26 v27 v28 v29 v30 v31 v32 v33 v34 v35 v36 v37 v38 v39 v40 v41 v42 v43 v44 v45 v46 v47 v48 v49 v50 v51 v52 v53 v54 v55 v56 v57 v58 v59 v60 v61 v62 v63 v64 v65 v66 v67 v68 v69 v70 v71 v72 v73 v74 v75 v76 v77) (by kernel_rfl) (by kernel_rfl) (by kernel_rfl) (by kernel_rfl) (fun c x w => hQ c x _ _ w) (by kernel_rfl) (fun w _ => by kernel_rfl) (by kernel_rfl) C1 ?_
  exact wpAnyH_done (by kernel_rfl) (hq _ _ _ _ hbd hL ((below_drew w0).trans B1)) _
end Go.Proofs.YtbdpghjegachaaaGreatDoor
