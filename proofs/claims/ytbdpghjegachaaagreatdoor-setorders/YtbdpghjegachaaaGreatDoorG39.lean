/-
  What is proved here: bounds of a paragraph's masses, and of those of a line once its blanks are left out and its kerning is taken off (no program is named).
  What is proved here: Place, from the line's record on.
-/
import Derived.Test.YtbdpghjegachaaaGreatDoorG35
import Derived.Test.YtbdpghjegachaaaGreatDoorG37
import Derived.Test.YtbdpghjegachaaaGreatDoorG38
namespace Go.Proofs.YtbdpghjegachaaaGreatDoor
open Go.RowKit Go.Shelf

theorem kernI_rngS (x y : Int) {s : Int} (h0 : 0 ≤ s) (h1 : s ≤ 64) : -64 ≤ kernI x y s ∧ kernI x y s ≤ 0 := by
  unfold kernI
  split
  · omega
  · split <;> omega
theorem GoodP.massS {a : Pa} (h : GoodP a) {i : Nat} (hi : i < num a.t) : (0 ≤ (msI a i).w ∧ (msI a i).w ≤ 4095) ∧ (-64 ≤ (msI a i).q ∧ (msI a i).q ≤ 0) := by
  have hf := h.fok hi
  refine ⟨?_, ?_⟩
  · show 0 ≤ wdI (fc a i) (mkAt a i) ∧ wdI (fc a i) (mkAt a i) ≤ 4095
    unfold wdI
    split
    · have := bw_rng (fc a i).b hf.s.1 hf.s.2
      have := hf.t
      omega
    · split
      · rename_i h7
        obtain ⟨hr, hm1, hm2⟩ := h.mark hi h7
        rw [hm1]
        have := tw_rng a.ms[rI a.t i] hf.s.1 hf.s.2 a.ms[rI a.t i].size
        unfold widthI
        omega
      · omega
  · show -64 ≤ meetI (pf a i) (fc a i) ∧ meetI (pf a i) (fc a i) ≤ 0
    unfold meetI
    split
    · have := kernI_rngS (pf a i).b (fc a i).b hf.s.1 hf.s.2
      omega
    · omega
theorem em_two {x : Int} (h : kindI x = 1 ∨ kindI x = 2) : 2 ≤ emI x := by
  have hx : 32 < x ∧ x ≤ 126 := by
    unfold kindI at h
    by_cases h1 : (97 ≤ x ∧ x ≤ 122) ∨ (65 ≤ x ∧ x ≤ 90)
    · omega
    · rw [if_neg h1] at h
      by_cases h2 : x = 32
      · rw [if_pos h2] at h; omega
      · rw [if_neg h2] at h
        by_cases h3 : 32 < x ∧ x ≤ 126
        · exact h3
        · rw [if_neg h3] at h
          repeat' split at h
          all_goals omega
  unfold emI
  repeat' split
  all_goals omega
theorem bw_two {x s : Int} (h : 2 ≤ emI x) (hs : 0 ≤ s) : (2 * s) / 8 ≤ bw x s := by
  unfold bw
  exact Int.ediv_le_ediv (by omega) (Int.mul_le_mul_of_nonneg_right h hs)
theorem kern_rng {x y s : Int} (hs : 0 ≤ s) : -((2 * s) / 16) ≤ kernI x y s := by
  unfold kernI
  split
  · omega
  · split <;> omega
/-- What is true of a mass. -/
structure MsOk (m : Ms) : Prop where
  ok : MOk m
  bl : (m.k = 3 ∨ m.k = 5) → m.q = 0
theorem GoodP.msOk {a : Pa} (h : GoodP a) {i : Nat} (hi : i < num a.t) : MsOk (msI a i) := by
  obtain ⟨⟨w0, w1⟩, q0, q1⟩ := h.massS hi
  have hf := h.fok hi
  have hq : ∀ hk : ¬ ((fc a i).kd = 1 ∨ (fc a i).kd = 2), (msI a i).q = 0 := fun hk => by
    show meetI (pf a i) (fc a i) = 0
    unfold meetI
    refine if_neg (fun e => ?_)
    have := e.2.1
    unfold kerB at this
    rw [decide_eq_true_eq] at this
    exact hk this.2
  refine ⟨⟨w0, w1, q0, q1, ?_, fun e => hq (by have : (fc a i).kd = 4 := e; omega)⟩, fun e => hq (by have : (fc a i).kd = 3 ∨ (fc a i).kd = 5 := e; omega)⟩
  by_cases hk : (fc a i).kd = 1 ∨ (fc a i).kd = 2
  · have hem : 2 ≤ emI (fc a i).b := em_two (x := bt a.t (st a.t i)) hk
    have hb := bw_two hem hf.s.1
    have hw : (msI a i).w = bw (fc a i).b (fc a i).s + (fc a i).t := by
      show wdI (fc a i) (mkAt a i) = _
      unfold wdI
      rw [if_pos (by omega)]
    have hk2 : -((2 * (fc a i).s) / 16) ≤ (msI a i).q := by
      show _ ≤ meetI (pf a i) (fc a i)
      unfold meetI
      have := hf.s.1
      split
      · exact kern_rng hf.s.1
      · omega
    have := hf.t.1
    have := hf.s.1
    rw [hw]
    omega
  · rw [hq hk]; omega
theorem toN_at {M : Nat → Ms} : ∀ {N i : Nat}, toN M N ≤ i → i < N → (M i).k = 3 ∨ (M i).k = 5
  | 0, i, _, h => by omega
  | N + 1, i, h1, h2 => by
    by_cases h : (M N).k = 3 ∨ (M N).k = 5
    · rw [toN_yes h] at h1
      by_cases e : i = N
      · subst e; exact h
      · exact toN_at h1 (by omega)
    · rw [toN_no h] at h1; omega
theorem frG_at {M : Nat → Ms} : ∀ {n j i : Nat}, j ≤ i → i < frG M n j → (M i).k = 3
  | 0, j, i, h1, h2 => by have : i < j := h2; omega
  | n + 1, j, i, h1, h2 => by
    by_cases h : (M j).k = 3
    · rw [frG_yes h] at h2
      by_cases e : i = j
      · subst e; exact h
      · exact frG_at (by omega) h2
    · rw [frG_no h] at h2; omega
theorem frN_at {b : Bool} {M : Nat → Ms} {t i : Nat} (h : i < fwN b M t) : (M i).k = 3 := by
  unfold fwN at h
  split at h
  · exact frG_at (Nat.zero_le _) h
  · omega
/-- The masses of a line, once its kerning is taken off at some places. -/
def ptM (pn : Int → Bool) (M : Nat → Ms) (i : Nat) : Ms := { M i with q := if i = 0 ∨ pn (M i).f = true then 0 else (M i).q }
/-- The masses of a line, once its blanks are left out. -/
def loM (b : Bool) (M : Nat → Ms) (N : Nat) : Nat → Ms := narM (narM M 0 (fwN b M (toN M N))) (toN M N) (N - toN M N)
theorem narM_ok {M : Nat → Ms} {s n i : Nat} (h : MsOk (M i)) (hk : s ≤ i ∧ i < s + n → (M i).k = 3 ∨ (M i).k = 5) : MsOk (narM M s n i) := by
  unfold narM
  split
  · rename_i hc
    have hq := h.bl (hk hc)
    have h4 : (M i).k ≠ 4 := by have := hk hc; omega
    exact ⟨⟨Int.le_refl _, by show (0 : Int) ≤ 4095; omega, h.ok.q0, h.ok.q1, by show 0 ≤ 0 + (M i).q; omega, fun e => absurd e h4⟩, h.bl⟩
  · exact h
theorem narM_k (M : Nat → Ms) (s n i : Nat) : (narM M s n i).k = (M i).k ∧ (narM M s n i).f = (M i).f ∧ (narM M s n i).q = (M i).q ∧ (narM M s n i).t = (M i).t ∧ (narM M s n i).s = (M i).s := by
  unfold narM
  split <;> exact ⟨rfl, rfl, rfl, rfl, rfl⟩
theorem loM_ok {b : Bool} {M : Nat → Ms} {N i : Nat} (hi : i < N) (h : MsOk (M i)) : MsOk (loM b M N i) := by
  refine narM_ok (narM_ok h (fun hc => .inl (frN_at (b := b) (t := toN M N) (by omega)))) (fun hc => ?_)
  rw [(narM_k _ _ _ _).1]
  exact toN_at (by omega) hi
theorem loM_k (b : Bool) (M : Nat → Ms) (N i : Nat) : (loM b M N i).k = (M i).k ∧ (loM b M N i).f = (M i).f ∧ (loM b M N i).q = (M i).q ∧ (loM b M N i).t = (M i).t ∧ (loM b M N i).s = (M i).s := by
  obtain ⟨a1, a2, a3, a4, a5⟩ := narM_k (narM M 0 (fwN b M (toN M N))) (toN M N) (N - toN M N) i
  obtain ⟨b1, b2, b3, b4, b5⟩ := narM_k M 0 (fwN b M (toN M N)) i
  exact ⟨a1.trans b1, a2.trans b2, a3.trans b3, a4.trans b4, a5.trans b5⟩
theorem ptM_ok {pn : Int → Bool} {M : Nat → Ms} {i : Nat} (h : MsOk (M i)) : MOk (ptM pn M i) := by
  unfold ptM
  have h1 := h.ok.w0
  have h2 := h.ok.w1
  have h3 := h.ok.q0
  have h4 := h.ok.q1
  have h5 := h.ok.wq
  refine ⟨h1, h2, ?_, ?_, ?_, ?_⟩ <;> show _ <;> simp only [] <;> split
  · omega
  · exact h3
  · omega
  · exact h4
  · omega
  · exact h5
  · intro _; rfl
  · exact h.ok.tb
end Go.Proofs.YtbdpghjegachaaaGreatDoor

namespace Go.Proofs.YtbdpghjegachaaaGreatDoor
open Go.RowKit Go.Shelf

def rest12 : Code := (Code.region 12 #[{ dst := some 85, op := Op.move (Operand.tmp 8), type := 48, pos := "set.go:55", after := #[], guard := none }, { dst := some 86, op := Op.move (Operand.tmp 10), type := 3, pos := "set.go:55", after := #[], guard := none }, { dst := some 87, op := Op.move (Operand.tmp 12), type := 3, pos := "set.go:55", after := #[], guard := none }, { dst := some 88, op := Op.slice 48 (Operand.tmp 85) (some (Operand.tmp 86)) (some (Operand.tmp 87)) none, type := 48, pos := "set.go:55", after := #[{ on := 0, ground := Ground.data }, { on := 1, ground := Ground.data }, { on := 2, ground := Ground.data }], guard := none }, { dst := some 89, op := Op.fieldAddr 29 (Operand.tmp 4) 2, type := 0, pos := "set.go:55", after := #[], guard := none }, { dst := some 90, op := Op.load 3 (Operand.tmp 89), type := 3, pos := "set.go:55", after := #[{ on := 4, ground := Ground.data }], guard := none }, { dst := some 91, op := Op.move (Operand.tmp 2), type := 4, pos := "set.go:55", after := #[], guard := none }, { dst := some 92, op := Op.build 60 #[(0, Operand.tmp 88), (2, Operand.tmp 90), (5, Operand.tmp 91)], type := 60, pos := "set.go:55", after := #[{ on := 3, ground := Ground.data }, { on := 5, ground := Ground.data }, { on := 6, ground := Ground.data }], guard := none }, { dst := some 15, op := Op.alloc 60, type := 0, pos := "set.go:55", after := #[], guard := none }, { dst := none, op := Op.store 60 (Operand.tmp 15) (Operand.tmp 92), type := 0, pos := "set.go:55", after := #[{ on := 8, ground := Ground.data }, { on := 7, ground := Ground.data }, { on := 0, ground := Ground.phase }, { on := 1, ground := Ground.phase }, { on := 2, ground := Ground.phase }, { on := 3, ground := Ground.phase }, { on := 4, ground := Ground.phase }, { on := 5, ground := Ground.phase }, { on := 6, ground := Ground.phase }, { on := 7, ground := Ground.phase }, { on := 8, ground := Ground.phase }], guard := none }] true).seq ((Code.region 13 #[{ dst := some 93, op := Op.fieldAddr 29 (Operand.tmp 4) 0, type := 0, pos := "set.go:56", after := #[], guard := none }, { dst := some 94, op := Op.load 3 (Operand.tmp 93), type := 3, pos := "set.go:56", after := #[{ on := 0, ground := Ground.data }], guard := none }, { dst := some 95, op := Op.binOp BinOp.eql 3 (Operand.tmp 94) (Operand.const (Value.int IntKind.i64 0)) 3, type := 4, pos := "set.go:56", after := #[{ on := 1, ground := Ground.data }], guard := none }, { dst := some 96, op := Op.call { callee := Callee.value (Operand.func 26), args := #[Operand.tmp 15, Operand.tmp 95], argTypes := #[60, 4] }, type := 0, pos := "set.go:56", after := #[{ on := 2, ground := Ground.data }], guard := none }] false).seq ((Code.region 14 #[{ dst := some 97, op := Op.load 27 (Operand.tmp 3), type := 27, pos := "set.go:57", after := #[], guard := none }, { dst := some 98, op := Op.call { callee := Callee.value (Operand.func 27), args := #[Operand.tmp 15, Operand.tmp 97], argTypes := #[60, 27] }, type := 0, pos := "set.go:57", after := #[{ on := 0, ground := Ground.data }], guard := none }] false).seq rest15))
/-- What part of set does with a paragraph's lines, whose masses' kerning keeps a bound: it takes the kerning off at some places. -/
def PartOk (a : Pa) (Cq : Int → Prop) (pn : Int → Bool) (w0 : World) : Prop := ∀ (w : World) (r g o N cap : Nat) (M : Nat → Ms) (av : Option Addr) (vb : Value) (x hy rm : Int) (l : Bool), (0 < N → av = some ⟨g, o, none⟩) → N ≤ cap → N ≤ 4096 → (∀ i, i < N → Cq (M i).q) → (0 < N → w0.heap.size ≤ g) → Below w0.heap.size w0 w → PaAt w a → RF w g o N M → RW w r (.slice av N cap) vb x hy rm l → ¬ XG g N r →
  Calls Tryz.prog 27 #[.pointer (some ⟨r, 0, none⟩), .agg (paC a)] w fun e w' => e = .returned (.tuple #[]) ∧ Turns (XG g N) w w' ∧ RF w' g o N (ptM pn M)
/-- The masses of a line that are set. -/
def seM (l : Ln) (pn : Int → Bool) (M : Nat → Ms) (N : Nat) : Nat → Ms := ptM pn (loM (l.f == 0) M N)
/-- The glyphs of a line, behind others. -/
def lnL (a : Pa) (l : Ln) (last : Bool) (pn : Int → Bool) (M : Nat → Ms) (N : Nat) (L : List Gl) : List Gl := fiL a l last (seM l pn M N) (fwN (l.f == 0) M (toN M N)) (toN M N - fwN (l.f == 0) M (toN M N)) N (hyI a l (seM l pn M N) N) L
set_option maxRecDepth 100000 in
set_option maxHeartbeats 4000000 in
theorem place_a (a : Pa) (l : Ln) (w0 : World) (Pb Lb g n0 cap0 f0 t0 base : Nat) (MA : Nat → Ms) (last : Bool) (v : Value) (L : List Gl) (av : Option Addr) (Cq : Int → Prop) (pn : Int → Bool) (hpart : PartOk a Cq pn w0) (hA0 : PaAt w0 a) (hav : 0 < n0 → av = some ⟨g, 0, none⟩) (hcap : n0 ≤ cap0) (hn0 : n0 ≤ 4096) (hL : L.length ≤ 1) (hf0 : f0 ≤ t0) (ht0 : t0 ≤ n0) (hM : ∀ i, i < n0 → MsOk (MA i)) (hCq : ∀ i, i < n0 → Cq (MA i).q) (hal : 0 ≤ a.p.p2 ∧ a.p.p2 ≤ 3) (hlx : 0 ≤ l.x ∧ l.x ≤ 4095) (hlw : 0 ≤ l.w ∧ l.w ≤ 4095)
    (W : World) (hP : PS w0 a l Pb Lb base v L W) (hR : RF W g 0 n0 MA) (hg : 0 < n0 → w0.heap.size ≤ g ∧ g ≠ Pb ∧ g ≠ Lb ∧ v.ownBlock ≠ some g)
    (RR : Ending → World → Prop) (hfin : ∀ v' W', W'.ownsRow base 41 4 v' (lnL a l last pn (fun i => MA (f0 + i)) (t0 - f0) L).length ((lnL a l last pn (fun i => MA (f0 + i)) (t0 - f0) L).flatMap glL) → Below w0.heap.size w0 W' → RR (.returned (.tuple #[v', .int .i64 0])) W') (v0 v1 v5 v6 v7 v9 v11 v13 v15 v16 v17 v18 v19 v20 v21 v22 v23 v24 v25 v26 v27 v28 v29 v30 v31 v32 v33 v34 v35 v36 v37 v38 v39 v40 v41 v42 v43 v44 v45 v46 v47 v48 v49 v50 v51 v52 v53 v54 v55 v56 v57 v58 v59 v60 v61 v62 v63 v64 v65 v66 v67 v68 v69 v70 v71 v72 v73 v74 v75 v76 v77 v78 v79 v80 v81 v82 v83 v84 v85 v86 v87 v88 v89 v90 v91 v92 v93 v94 v95 v96 v97 v98 v99 v100 v101 v102 v103 v104 v105 v106 v107 v108 v109 v110 v111 v112 v113 v114 v115 v116 v117 v118 v119 v120 v121 v122 v123 v124 v125 v126 v127 v128 v129 v130 v131 v132 v133 v134 v135 v136 v137 v138 : Value) :
    rest12.wp Tryz.prog (bodyPost Tryz.prog Tryz.f8 RR) (fr8 v0 v1 (.bool last) (.pointer (some ⟨Pb, 0, none⟩)) (.pointer (some ⟨Lb, 0, none⟩)) v5 v6 v7 (.slice av n0 cap0) v9 (.int .i64 (f0 : Nat)) v11 (.int .i64 (t0 : Nat)) v13 v v15 v16 v17 v18 v19 v20 v21 v22 v23 v24 v25 v26 v27 v28 v29 v30 v31 v32 v33 v34 v35 v36 v37 v38 v39 v40 v41 v42 v43 v44 v45 v46 v47 v48 v49 v50 v51 v52 v53 v54 v55 v56 v57 v58 v59 v60 v61 v62 v63 v64 v65 v66 v67 v68 v69 v70 v71 v72 v73 v74 v75 v76 v77 v78 v79 v80 v81 v82 v83 v84 v85 v86 v87 v88 v89 v90 v91 v92 v93 v94 v95 v96 v97 v98 v99 v100 v101 v102 v103 v104 v105 v106 v107 v108 v109 v110 v111 v112 v113 v114 v115 v116 v117 v118 v119 v120 v121 v122 v123 v124 v125 v126 v127 v128 v129 v130 v131 v132 v133 v134 v135 v136 v137 v138) W := by
  obtain ⟨a6, h6, k6⟩ := slice48 av n0 cap0 f0 t0 hf0 (by omega)
  unfold rest12
  refine wp_seq_k ?_
  intro K hK
  refine pl_r12 _ (fun _ _ _ _ _ h => h) _ _ l last Lb n0 cap0 f0 t0 av a6 W hP.drew.lb h6 ?_
  intro W1 hb1 hr1
  refine hK _ _ ?_
  clear hK K
  have hP1 := hP.below hb1
  have hR1 : RF W1 g (0 + f0 * 6) (t0 - f0) (fun i => MA (f0 + i)) := (hR.below hb1 (fun h => hR.lt h)).part (by omega)
  have hW1 : RW W1 W.heap.size (.slice a6 (t0 - f0) (cap0 - f0)) (.slice none 0 0) l.x 0 0 last := ⟨hr1⟩
  have hl1 := hP.pb.lt
  have hl2 := hP.lb.lt
  have hSep : Sep w0 W.heap.size g (t0 - f0) Pb Lb v := ⟨by omega, by omega, hP.low.size, fun h => by
    have h1 := hg (by omega)
    have h2 := hR.lt (by omega)
    exact ⟨h1.1, h1.2.1, h1.2.2.1, by omega⟩, fun e => by have := (hP.row.lt _ e).2; omega, fun h => (hg (by omega)).2.2.2⟩
  have ha6 : 0 < t0 - f0 → a6 = some ⟨g, 0 + f0 * 6, none⟩ := fun h => k6 g 0 (hav (by omega)) (by omega)
  have hQ1 : QS w0 a l Pb Lb base v L W.heap.size g (0 + f0 * 6) (t0 - f0) (cap0 - f0) a6 (.slice none 0 0) l.x 0 0 last (fun i => MA (f0 + i)) W1 := ⟨hP1, hW1, hR1⟩
  have hlv := leave_any W1 W.heap.size g (0 + f0 * 6) (t0 - f0) (cap0 - f0) (fun i => MA (f0 + i)) a6 ha6 (by omega) (by omega) (.slice none 0 0) l.x 0 0 last (l.f == 0) hR1 hW1 hSep.rg
  have hMs : ∀ i, i < t0 - f0 → MsOk (MA (f0 + i)) := fun i hi => hM _ (by omega)
  have hC : ∀ i, i < t0 - f0 → Cq (MA (f0 + i)).q := fun i hi => hCq _ (by omega)
  unfold lnL at hfin
  generalize hMe : (fun i => MA (f0 + i)) = M at *
  have hMs' : ∀ i, i < t0 - f0 → MsOk (M i) := fun i hi => by rw [← hMe]; exact hMs i hi
  have hC' : ∀ i, i < t0 - f0 → Cq (M i).q := fun i hi => by rw [← hMe]; exact hC i hi
  have htl := toN_le M (t0 - f0)
  have hfl := fwN_le (l.f == 0) M (toN M (t0 - f0))
  have hnx : Hid (∀ W2, LvEnd W1 W.heap.size g (0 + f0 * 6) (t0 - f0) (cap0 - f0) M a6 l.x 0 0 last (toN M (t0 - f0)) (fwN (l.f == 0) M (toN M (t0 - f0))) W2 → PB W2 Pb a ∧ Calls Tryz.prog 27 #[.pointer (some ⟨W.heap.size, 0, none⟩), .agg (paC a)] W2 fun e w' => e = .returned (.tuple #[]) ∧ Hid (∀ v0 v1 v2 v5 v6 v7 v8 v9 v10 v11 v12 v13 v16 v17 v18 v19 v20 v21 v22 v23 v24 v25 v26 v27 v28 v29 v30 v31 v32 v33 v34 v35 v36 v37 v38 v39 v40 v41 v42 v43 v44 v45 v46 v47 v48 v49 v50 v51 v52 v53 v54 v55 v56 v57 v58 v59 v60 v61 v62 v63 v64 v65 v66 v67 v68 v69 v70 v71 v72 v73 v74 v75 v76 v77 v78 v79 v80 v81 v82 v83 v84 v85 v86 v87 v88 v89 v90 v91 v92 v93 v94 v95 v96 v97 v98 v99 v100 v101 v102 v103 v104 v105 v106 v107 v108 v109 v110 v111 v112 v113 v114 v115 v116 v117 v118 v119 v120 v121 v122 v123 v124 v125 v126 v127 v128 v129 v130 v131 v132 v133 v134 v135 v136 v137 v138 : Value, rest15.wp Tryz.prog (bodyPost Tryz.prog Tryz.f8 RR) (fr8 v0 v1 v2 (.pointer (some ⟨Pb, 0, none⟩)) (.pointer (some ⟨Lb, 0, none⟩)) v5 v6 v7 v8 v9 v10 v11 v12 v13 v (.pointer (some ⟨W.heap.size, 0, none⟩)) v16 v17 v18 v19 v20 v21 v22 v23 v24 v25 v26 v27 v28 v29 v30 v31 v32 v33 v34 v35 v36 v37 v38 v39 v40 v41 v42 v43 v44 v45 v46 v47 v48 v49 v50 v51 v52 v53 v54 v55 v56 v57 v58 v59 v60 v61 v62 v63 v64 v65 v66 v67 v68 v69 v70 v71 v72 v73 v74 v75 v76 v77 v78 v79 v80 v81 v82 v83 v84 v85 v86 v87 v88 v89 v90 v91 v92 v93 v94 v95 v96 v97 v98 v99 v100 v101 v102 v103 v104 v105 v106 v107 v108 v109 v110 v111 v112 v113 v114 v115 v116 v117 v118 v119 v120 v121 v122 v123 v124 v125 v126 v127 v128 v129 v130 v131 v132 v133 v134 v135 v136 v137 v138) w')) := fun W2 hE => by
    obtain ⟨hT2, hR2, a', cap', hW2, ha', hc'⟩ := hE
    have hP2 : PS w0 a l Pb Lb base v L W2 := hP1.turns hT2 (fun k hk => by
      rcases hk with hk | hk
      · obtain ⟨e1, e2⟩ := hk
        subst e1
        have := hSep.gg e2
        exact ⟨this.1, this.2.1, this.2.2.1⟩
      · subst hk
        exact ⟨hSep.r0, hSep.rP, hSep.rL⟩) (fun k hk hX => by
      rcases hX with hX | hX
      · obtain ⟨e1, e2⟩ := hX
        subst e1
        exact hSep.vg e2 hk
      · subst hX
        exact hSep.vr hk)
    have hlo : ∀ i, i < t0 - f0 → MsOk (loM (l.f == 0) M (t0 - f0) i) := fun i hi => loM_ok hi (hMs' i hi)
    refine ⟨hP2.pb, (hpart W2 W.heap.size g (0 + f0 * 6) (t0 - f0) (cap0 - f0) (loM (l.f == 0) M (t0 - f0)) a6 _ l.x 0 0 last ha6 (by omega) (by omega) (fun i hi => by rw [(loM_k _ _ _ _).2.2.1]; exact hC' i hi) (fun h => (hSep.gg h).1) hP2.low (hA0.below hP2.low (Nat.le_refl _)) hR2 hW2 hSep.rg).mono ?_⟩
    rintro e W3 ⟨rfl, hT3, hR3⟩
    have hQ2 : QS w0 a l Pb Lb base v L W.heap.size g (0 + f0 * 6) (t0 - f0) (cap0 - f0) a6 (.slice a' (toN M (t0 - f0) - fwN (l.f == 0) M (toN M (t0 - f0))) cap') l.x 0 0 last (loM (l.f == 0) M (t0 - f0)) W2 := ⟨hP2, hW2, hR2⟩
    have hQ3 := hQ2.mass hSep hT3 hR3
    refine ⟨rfl, fun v0 v1 v2 v5 v6 v7 v8 v9 v10 v11 v12 v13 v16 v17 v18 v19 v20 v21 v22 v23 v24 v25 v26 v27 v28 v29 v30 v31 v32 v33 v34 v35 v36 v37 v38 v39 v40 v41 v42 v43 v44 v45 v46 v47 v48 v49 v50 v51 v52 v53 v54 v55 v56 v57 v58 v59 v60 v61 v62 v63 v64 v65 v66 v67 v68 v69 v70 v71 v72 v73 v74 v75 v76 v77 v78 v79 v80 v81 v82 v83 v84 v85 v86 v87 v88 v89 v90 v91 v92 v93 v94 v95 v96 v97 v98 v99 v100 v101 v102 v103 v104 v105 v106 v107 v108 v109 v110 v111 v112 v113 v114 v115 v116 v117 v118 v119 v120 v121 v122 v123 v124 v125 v126 v127 v128 v129 v130 v131 v132 v133 v134 v135 v136 v137 v138 => ?_⟩
    exact place_b a l w0 Pb Lb W.heap.size g (0 + f0 * 6) (t0 - f0) (cap0 - f0) base (fwN (l.f == 0) M (toN M (t0 - f0))) (toN M (t0 - f0) - fwN (l.f == 0) M (toN M (t0 - f0))) cap' (0 + f0 * 6 + fwN (l.f == 0) M (toN M (t0 - f0)) * 6) (seM l pn M (t0 - f0)) last v L a6 a' ha6 (by omega) (by omega) hL rfl (by omega) ha' hc' (fun i hi => ptM_ok (hlo i hi)) hal hlx hlw hSep W3 hQ3 RR hfin v0 v1 v2 v5 v6 v7 v8 v9 v10 v11 v12 v13 v16 v17 v18 v19 v20 v21 v22 v23 v24 v25 v26 v27 v28 v29 v30 v31 v32 v33 v34 v35 v36 v37 v38 v39 v40 v41 v42 v43 v44 v45 v46 v47 v48 v49 v50 v51 v52 v53 v54 v55 v56 v57 v58 v59 v60 v61 v62 v63 v64 v65 v66 v67 v68 v69 v70 v71 v72 v73 v74 v75 v76 v77 v78 v79 v80 v81 v82 v83 v84 v85 v86 v87 v88 v89 v90 v91 v92 v93 v94 v95 v96 v97 v98 v99 v100 v101 v102 v103 v104 v105 v106 v107 v108 v109 v110 v111 v112 v113 v114 v115 v116 v117 v118 v119 v120 v121 v122 v123 v124 v125 v126 v127 v128 v129 v130 v131 v132 v133 v134 v135 v136 v137 v138
  have hl0 := hP1.lb.c0
  clear hfin hpart hQ1 hM hCq hMs hC hMs' hC' hMe hSep hR1 hW1 hP1 hP hR h6 k6 hr1 hg hav hA0
  generalize W.heap.size = rr at *
  unfold fr8
  unfold fr8 at hnx
  go_wp2_with (first | (go_at_call 26; refine hlv.mono ?_; rintro e W2 ⟨rfl, hE⟩; obtain ⟨hpb, hc2⟩ := hnx.out W2 hE; clear hlv hE hnx) | (refine wpList_load_row rfl 27 _ rfl Pb rfl 27 _ (0, 0) _ hpb.row Tryz.underlying27 rfl (info34 a) ?_) | (go_at_call 27; refine hc2.mono ?_; rintro e W3 ⟨rfl, hend⟩; clear hc2))
  exact hend.out _ _ _ _ _ _ _ _ _ _ _ _ _ _ _ _ _ _ _ _ _ _ _ _ _ _ _ _ _ _ _ _ _ _ _ _ _ _ _ _ _ _ _ _ _ _ _ _ _ _ _ _ _ _ _ _ _ _ _ _ _ _ _ _ _ _ _ _ _ _ _ _ _ _ _ _ _ _ _ _ _ _ _ _ _ _ _ _ _ _ _ _ _ _ _ _ _ _ _ _ _ _ _ _ _ _ _ _ _ _ _ _ _ _ _ _ _ _ _ _ _ _ _ _ _ _ _ _ _ _ _ _ _ _ _
end Go.Proofs.YtbdpghjegachaaaGreatDoor
