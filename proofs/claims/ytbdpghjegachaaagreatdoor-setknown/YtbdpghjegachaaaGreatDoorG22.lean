/-
  What is proved here: what Place of set answers.
  What is proved here: lines without kerning are left as they are.
  What is proved here: what an item is, which may be; what keeps, fits and stop answer.
  What is proved here: lists of items: which may be, where lines end and begin, how wide they are (no program is named), and their cells in memory.
  What is proved here: what isSmall, isDigit, isLetter and the document's small and digit answer, and at.
  What is proved here: what SameInts and Plain answer.
  What is proved here: which places within words part of item marks.
  What is proved here: an append of an item to a row of items leaves in the row's block, to the last of its capacity, cells of items alone (numbers, and each eighth a bool).
  What is proved here: what Plain answers.
-/
import Derived.Test.YtbdpghjegachaaaGreatDoorG21
import Derived.Test.YtbdpghjegachaaaGreatDoorG9
import Derived.Test.YtbdpghjegachaaaGreatDoorG16
import Derived.Test.YtbdpghjegachaaaGreatDoorRows
import Derived.Test.YtbdpghjegachaaaGreatDoorG2
import Derived.Test.YtbdpghjegachaaaGreatDoorG6
import Derived.BigQuiet
import Derived.Handy
import Derived.RangeFuncNested
import Derived.Maps.OwnSet
import Derived.Shelf.Strings.OnBuilder
import Derived.Shelf.Strings.Search2
import Derived.Shelf.Strings.Search3
import Derived.Shelf.Strings.Count
import Derived.Shelf.Strings.Prefix
import Derived.Shelf.Strings.Fields
import Derived.Shelf.Slices.Clone
import Derived.Test.YtbdpghjegachaaaGreatDoorProg
import Derived.Test.YtbdpghjegachaaaGreatDoorG1
import Derived.RangeFuncBound
import Derived.RangeFuncCalls
import Derived.RangeFuncLeaves
import Derived.Shelf.Abstract
import Derived.Shelf.RegionOpen
import Derived.OwnWalkIn
import Derived.TacticsInMore
import Derived.LoopNIn
import Derived.LoopIn
import Derived.Lib.Builder
import Derived.Laws.IdiomStrings
import Derived.Test.YtbdpghjegachaaaGreatDoorG7
import Derived.Laws.ResultCell
namespace Go.Proofs.YtbdpghjegachaaaGreatDoor
open Go.RowKit Go.Shelf

/-- A list of masses of one's own, as masses in a block. -/
theorem rf_row {W : World} {base : Nat} {v : Value} {a : Pa} (h : W.ownsRow base 53 6 v (num a.t) ((mss a).flatMap msL)) : ∃ av cap g, v = .slice av (num a.t) cap ∧ num a.t ≤ cap ∧ (0 < num a.t → av = some ⟨g, 0, none⟩ ∧ base ≤ g) ∧ RF W g 0 (num a.t) (fun i => msI a i) := by
  have hl := mss_len a
  have h' : W.ownsRow base 53 6 v (mss a).length ((mss a).flatMap msL) := by rw [hl]; exact h
  have hr := rec_of_row msL_len rfl h'
  obtain ⟨av, cap, rfl, h2⟩ := hr.ex
  have hc := hr.le _ _ _ rfl
  rw [hl] at hc
  rcases h2 with h2 | ⟨b, o, rfl, hb, hcl⟩
  · have h0 : num a.t = 0 := by rw [← hl, h2]; rfl
    exact ⟨av, cap, 0, by rw [hl], hc, fun h => by omega, fun h => by omega, fun i hi => by omega⟩
  · rcases h'.2 with ⟨e, _⟩ | ⟨gg, cc, cur, e, hb', hg, hnc, hcm, hcs, htk⟩
    · cases e
    · cases e
      refine ⟨_, cap, b, by rw [hl], hc, fun _ => ⟨rfl, hb'⟩, fun _ => hb, fun i hi j u hu => ⟨?_, Lib.frozen_of_heap hg _⟩⟩
      have := hcl i (by rw [hl]; exact hi) j u (by rw [mss_get]; exact hu)
      exact this
theorem st_rise {t : ByteArray} : ∀ {j i : Nat}, j < num t → i < j → st t i < st t j
  | 0, i, _, h => by omega
  | j + 1, i, hj, h => by
    have h1 := num_lt (show j < num t by omega)
    have h2 := st_lt h1
    by_cases e : i = j
    · subst e; exact h2
    · exact Nat.lt_trans (st_rise (by omega) (by omega)) h2
theorem GoodP.p2 {a : Pa} (h : GoodP a) : 0 ≤ a.p.p2 ∧ a.p.p2 ≤ 3 := by
  have := List.all_eq_true.1 h.pr (a.p.p2, 0, 3) (by simp [prB])
  simpa [bdB] using this
theorem GoodP.p14 {a : Pa} (h : GoodP a) : 0 ≤ a.p.p14 ∧ a.p.p14 ≤ 4 := by
  have := List.all_eq_true.1 h.pr (a.p.p14, 0, 4) (by simp [prB])
  simpa [bdB] using this
/-- How many masses are ahead of a place; is that a boundary? -/
def loI (a : Pa) (t : Int) : Nat := lowN (fun i => (msI a i).f) t (num a.t)
def bdQ (a : Pa) (t : Int) : Bool := fndB (fun i => (msI a i).f) t (num a.t) || (t == a.t.size)
/-- May a line be? -/
def okL (a : Pa) (l : Ln) : Prop := bdQ a l.f = true ∧ bdQ a l.t = true ∧ loI a l.f ≤ loI a l.t ∧ (0 ≤ l.x ∧ l.x ≤ 4095) ∧ (0 ≤ l.w ∧ l.w ≤ 4095)
instance (a : Pa) (l : Ln) : Decidable (okL a l) := by unfold okL; infer_instance
def plE (a : Pa) (l : Ln) : Int := if chkI a = 0 then (if okL a l then 0 else 5) else chkI a
def plL (a : Pa) (l : Ln) (last : Bool) (pn : Int → Bool) : List Gl := gyL a l last pn (fun i => msI a i) (num a.t) (loI a l.f) (loI a l.t)
/-- What Place answers. -/
def PlEnd (a : Pa) (l : Ln) (last : Bool) (pn : Int → Bool) (w : World) (e : Ending) (w' : World) : Prop :=
  (∃ v, e = .returned (.tuple #[v, .int .i64 (plE a l)]) ∧ ((plE a l ≠ 0 ∧ v = .slice none 0 0) ∨ (plE a l = 0 ∧ ∃ base, w.heap.size ≤ base ∧ w'.ownsRow base 41 4 v (plL a l last pn).length ((plL a l last pn).flatMap glL)))) ∧ Below w.heap.size w w'
set_option maxRecDepth 100000 in
set_option maxHeartbeats 8000000 in
theorem place_any (a : Pa) (l : Ln) (last : Bool) (Cq : Int → Prop) (pn : Int → Bool) (hpart : PartOk a Cq pn) (hCq : chkI a = 0 → ∀ i, i < num a.t → Cq (msI a i).q) (w : World) (hA : PaAt w a) :
    Calls Tryz.prog 8 #[paV a, .agg (lnC l), .bool last] w (PlEnd a l last pn w) := by
  have hB1 := (Below.refl w.heap.size w).alloc (Nat.le_refl _) (Obj.cells (paC a) 27)
  have hB2 := hB1.alloc hB1.size (Obj.cells (lnC l) 29)
  have s1 : (w.alloc (.cells (paC a) 27)).heap.size = w.heap.size + 1 := World.size_alloc _ _
  have s2 : ((w.alloc (.cells (paC a) 27)).alloc (.cells (lnC l) 29)).heap.size = w.heap.size + 2 := by rw [World.size_alloc, s1]
  have hp0 : PB ((w.alloc (.cells (paC a) 27)).alloc (.cells (lnC l) 29)) w.heap.size a := ⟨(Below.heap_alloc _ _ _ (by omega)).trans (World.alloc_heap_new w _)⟩
  have hl0 : LB ((w.alloc (.cells (paC a) 27)).alloc (.cells (lnC l) 29)) (w.heap.size + 1) l := ⟨by have := World.alloc_heap_new (w.alloc (.cells (paC a) 27)) (.cells (lnC l) 29); rw [s1] at this; exact this⟩
  have hA2 := hA.below hB2 (Nat.le_refl _)
  have hms := masses_any a _ hA2
  unfold MassEnd at hms
  have hl0v : (Value.agg (lnC l)) = .agg #[.int .i64 l.f, .int .i64 l.t, .int .i64 l.x, .int .i64 l.w, .int .i64 l.n, .bool l.y, .int .i64 l.g] := rfl
  have hlC : lnC l = #[.int .i64 l.f, .int .i64 l.t, .int .i64 l.x, .int .i64 l.w, .int .i64 l.n, .bool l.y, .int .i64 l.g] := rfl
  unfold paV at hms ⊢
  rw [hl0v]
  rw [hlC] at hms hp0 hl0 hA2 hB2 s2
  clear hl0v hlC
  generalize hw2 : (w.alloc (.cells (paC a) 27)).alloc (.cells #[.int .i64 l.f, .int .i64 l.t, .int .i64 l.x, .int .i64 l.w, .int .i64 l.n, .bool l.y, .int .i64 l.g] 29) = w2 at *
  by_cases hck : chkI a = 0
  · have hG := good_of hck
    have hn4 : num a.t ≤ 4096 := Nat.le_trans (num_le a.t) hG.size
    have hsz := hG.size
    have hrise : ∀ j i, j < num a.t → i < j → (msI a i).f < (msI a j).f := fun j i hj hi => by
      show ((st a.t i : Nat) : Int) < (st a.t j : Nat)
      have := st_rise hj hi
      omega
    have he0 : ∀ h : okL a l, plE a l = 0 := fun h => by unfold plE; rw [if_pos hck, if_pos h]
    have he5 : ∀ h : ¬ okL a l, plE a l = 5 := fun h => by unfold plE; rw [if_pos hck, if_neg h]
    have hend5 : Hid (¬ okL a l → ∀ W, Below w.heap.size w W → PlEnd a l last pn w (.returned (.tuple #[.slice none 0 0, .int .i64 5])) W) := fun h W hW => ⟨⟨_, by rw [he5 h], .inl ⟨by rw [he5 h]; decide, rfl⟩⟩, hW⟩
    have hfin : Hid (okL a l → ∀ base v' W', w.heap.size ≤ base → W'.ownsRow base 41 4 v' (plL a l last pn).length ((plL a l last pn).flatMap glL) → Below w.heap.size w W' → PlEnd a l last pn w (.returned (.tuple #[v', .int .i64 0])) W') := fun h base v' W' h1 h2 h3 => ⟨⟨_, by rw [he0 h], .inr ⟨he0 h, base, h1, h2⟩⟩, h3⟩
    have hall : Hid (∀ W v, Below w2.heap.size w2 W → W.ownsRow w2.heap.size 53 6 v (num a.t) ((mss a).flatMap msL) → ∃ av cap g, v = .slice av (num a.t) cap ∧ (∀ W', Below W.heap.size W W' → ∀ t, Calls Tryz.prog 22 #[.agg (paC a), .slice av (num a.t) cap, .int .i64 t] W' fun e w' => e = .returned (.tuple #[.int .i64 (loI a t : Nat), .bool (bdQ a t)]) ∧ Below W'.heap.size W' w') ∧ (okL a l → ∀ W', Below W.heap.size W W' → ∀ v0 v1 v5 v6 v7 v9 v11 v13 v14 v15 v16 v17 v18 v19 v20 v21 v22 v23 v24 v25 v26 v27 v28 v29 v30 v31 v32 v33 v34 v35 v36 v37 v38 v39 v40 v41 v42 v43 v44 v45 v46 v47 v48 v49 v50 v51 v52 v53 v54 v55 v56 v57 v58 v59 v60 v61 v62 v63 v64 v65 v66 v67 v68 v69 v70 v71 v72 v73 v74 v75 v76 v77 v78 v79 v80 v81 v82 v83 v84 v85 v86 v87 v88 v89 v90 v91 v92 v93 v94 v95 v96 v97 v98 v99 v100 v101 v102 v103 v104 v105 v106 v107 v108 v109 v110 v111 v112 v113 v114 v115 v116 v117 v118 v119 v120 v121 v122 v123 v124 v125 v126 v127 v128 v129 v130 v131 v132 v133 v134 v135 v136 v137 v138 : Value, rest8.wp Tryz.prog (bodyPost Tryz.prog Tryz.f8 (PlEnd a l last pn w)) (fr8 v0 v1 (.bool last) (.pointer (some ⟨w.heap.size, 0, none⟩)) (.pointer (some ⟨(w.heap.size + 1), 0, none⟩)) v5 v6 v7 (.slice av (num a.t) cap) v9 (.int .i64 (loI a l.f : Nat)) v11 (.int .i64 (loI a l.t : Nat)) v13 v14 v15 v16 v17 v18 v19 v20 v21 v22 v23 v24 v25 v26 v27 v28 v29 v30 v31 v32 v33 v34 v35 v36 v37 v38 v39 v40 v41 v42 v43 v44 v45 v46 v47 v48 v49 v50 v51 v52 v53 v54 v55 v56 v57 v58 v59 v60 v61 v62 v63 v64 v65 v66 v67 v68 v69 v70 v71 v72 v73 v74 v75 v76 v77 v78 v79 v80 v81 v82 v83 v84 v85 v86 v87 v88 v89 v90 v91 v92 v93 v94 v95 v96 v97 v98 v99 v100 v101 v102 v103 v104 v105 v106 v107 v108 v109 v110 v111 v112 v113 v114 v115 v116 v117 v118 v119 v120 v121 v122 v123 v124 v125 v126 v127 v128 v129 v130 v131 v132 v133 v134 v135 v136 v137 v138) W')) := fun W v hb hv => by
      obtain ⟨av, cap, g, rfl, hcap, hav, hR⟩ := rf_row hv
      refine ⟨av, cap, g, rfl, fun W' hb' t => ?_, fun hok W' hb' => ?_⟩
      · exact ahead_any a hsz W' g (num a.t) cap (fun i => msI a i) t hrise hn4 hcap av (fun h => (hav h).1) (hR.below hb' (fun h => hR.lt h))
      · intro v0 v1 v5 v6 v7 v9 v11 v13 v14 v15 v16 v17 v18 v19 v20 v21 v22 v23 v24 v25 v26 v27 v28 v29 v30 v31 v32 v33 v34 v35 v36 v37 v38 v39 v40 v41 v42 v43 v44 v45 v46 v47 v48 v49 v50 v51 v52 v53 v54 v55 v56 v57 v58 v59 v60 v61 v62 v63 v64 v65 v66 v67 v68 v69 v70 v71 v72 v73 v74 v75 v76 v77 v78 v79 v80 v81 v82 v83 v84 v85 v86 v87 v88 v89 v90 v91 v92 v93 v94 v95 v96 v97 v98 v99 v100 v101 v102 v103 v104 v105 v106 v107 v108 v109 v110 v111 v112 v113 v114 v115 v116 v117 v118 v119 v120 v121 v122 v123 v124 v125 v126 v127 v128 v129 v130 v131 v132 v133 v134 v135 v136 v137 v138
        have hbb := hb.trans (hb'.mono hb.size)
        have hg2 : 0 < num a.t → w2.heap.size ≤ g := fun h => (hav h).2
        refine place_f a l w w.heap.size (w.heap.size + 1) g (num a.t) cap (loI a l.f) (loI a l.t) (fun i => msI a i) last av Cq pn hpart hA hG (fun h => by have := num_lt h; omega) (fun h => (hav h).1) hcap hn4 hok.2.2.1 (lowN_le _ _ _) (fun i hi => hG.msOk hi) (hCq hck) hG.p14 hG.p2 hok.2.2.2.1 hok.2.2.2.2 W' (hB2.trans (hbb.mono hB2.size)) (hp0.below hbb hp0.lt) ⟨(hbb.block _ hl0.lt).trans hl0.row⟩ (hR.below hb' (fun h => hR.lt h)) (fun h => ⟨?_, ?_, ?_⟩) _ (fun base v' W2 h1 h2 h3 => hfin.out hok base v' W2 h1 h2 h3) v0 v1 v5 v6 v7 v9 v11 v13 v14 v15 v16 v17 v18 v19 v20 v21 v22 v23 v24 v25 v26 v27 v28 v29 v30 v31 v32 v33 v34 v35 v36 v37 v38 v39 v40 v41 v42 v43 v44 v45 v46 v47 v48 v49 v50 v51 v52 v53 v54 v55 v56 v57 v58 v59 v60 v61 v62 v63 v64 v65 v66 v67 v68 v69 v70 v71 v72 v73 v74 v75 v76 v77 v78 v79 v80 v81 v82 v83 v84 v85 v86 v87 v88 v89 v90 v91 v92 v93 v94 v95 v96 v97 v98 v99 v100 v101 v102 v103 v104 v105 v106 v107 v108 v109 v110 v111 v112 v113 v114 v115 v116 v117 v118 v119 v120 v121 v122 v123 v124 v125 v126 v127 v128 v129 v130 v131 v132 v133 v134 v135 v136 v137 v138
        · have := hg2 h; omega
        · have := hg2 h; omega
        · have := hg2 h; omega
    have hkx := fun W => skeeps_any l.x W
    have hkw := fun W => skeeps_any l.w W
    go_enter Tryz.func8, Tryz.ntmps8
    go_wp2_with (refine wpList_load_row rfl 27 _ rfl w.heap.size rfl 27 _ (0, 0) _ hp0.row Tryz.underlying27 rfl (info34 a) ?_)
    refine hms.mono ?_
    rintro e W ⟨⟨v, rfl, hv⟩, hbW⟩
    have hv' : W.ownsRow w2.heap.size 53 6 v (num a.t) ((mss a).flatMap msL) := by
      rcases hv with ⟨h, _⟩ | ⟨_, h⟩
      · exact absurd hck h
      · exact h
    obtain ⟨av, cap, g, rfl, hah, hgo⟩ := hall.out W v hbW hv'
    have hpl : Hid (∀ W', Below W.heap.size W W' → PB W' w.heap.size a ∧ LB W' (w.heap.size + 1) l ∧ Below w.heap.size w W') := fun W' hb => by
      have hbb := hbW.trans (hb.mono hbW.size)
      exact ⟨hp0.below hbb hp0.lt, ⟨(hbb.block _ hl0.lt).trans hl0.row⟩, hB2.trans (hbb.mono hB2.size)⟩
    have hah1 : Hid (∀ t, Calls Tryz.prog 22 #[.agg (paC a), .slice av (num a.t) cap, .int .i64 t] W fun e w' => e = .returned (.tuple #[.int .i64 (loI a t : Nat), .bool (bdQ a t)]) ∧ Below W.heap.size W w') := fun t => hah W (Below.refl _ _) t
    have hah2 : Hid (∀ t W', Below W.heap.size W W' → Calls Tryz.prog 22 #[.agg (paC a), .slice av (num a.t) cap, .int .i64 t] W' fun e w' => e = .returned (.tuple #[.int .i64 (loI a t : Nat), .bool (bdQ a t)]) ∧ Below W'.heap.size W' w') := fun t W' hb => hah W' hb t
    replace hgo : Hid (okL a l → ∀ W', Below W.heap.size W W' → ∀ v0 v1 v5 v6 v7 v9 v11 v13 v14 v15 v16 v17 v18 v19 v20 v21 v22 v23 v24 v25 v26 v27 v28 v29 v30 v31 v32 v33 v34 v35 v36 v37 v38 v39 v40 v41 v42 v43 v44 v45 v46 v47 v48 v49 v50 v51 v52 v53 v54 v55 v56 v57 v58 v59 v60 v61 v62 v63 v64 v65 v66 v67 v68 v69 v70 v71 v72 v73 v74 v75 v76 v77 v78 v79 v80 v81 v82 v83 v84 v85 v86 v87 v88 v89 v90 v91 v92 v93 v94 v95 v96 v97 v98 v99 v100 v101 v102 v103 v104 v105 v106 v107 v108 v109 v110 v111 v112 v113 v114 v115 v116 v117 v118 v119 v120 v121 v122 v123 v124 v125 v126 v127 v128 v129 v130 v131 v132 v133 v134 v135 v136 v137 v138 : Value, rest8.wp Tryz.prog (bodyPost Tryz.prog Tryz.f8 (PlEnd a l last pn w)) (fr8 v0 v1 (.bool last) (.pointer (some ⟨w.heap.size, 0, none⟩)) (.pointer (some ⟨(w.heap.size + 1), 0, none⟩)) v5 v6 v7 (.slice av (num a.t) cap) v9 (.int .i64 (loI a l.f : Nat)) v11 (.int .i64 (loI a l.t : Nat)) v13 v14 v15 v16 v17 v18 v19 v20 v21 v22 v23 v24 v25 v26 v27 v28 v29 v30 v31 v32 v33 v34 v35 v36 v37 v38 v39 v40 v41 v42 v43 v44 v45 v46 v47 v48 v49 v50 v51 v52 v53 v54 v55 v56 v57 v58 v59 v60 v61 v62 v63 v64 v65 v66 v67 v68 v69 v70 v71 v72 v73 v74 v75 v76 v77 v78 v79 v80 v81 v82 v83 v84 v85 v86 v87 v88 v89 v90 v91 v92 v93 v94 v95 v96 v97 v98 v99 v100 v101 v102 v103 v104 v105 v106 v107 v108 v109 v110 v111 v112 v113 v114 v115 v116 v117 v118 v119 v120 v121 v122 v123 v124 v125 v126 v127 v128 v129 v130 v131 v132 v133 v134 v135 v136 v137 v138) W') := hgo
    obtain ⟨hpW, hlW, _⟩ := hpl.out W (Below.refl _ _)
    have c0 := hlW.c0
    rw [hck]
    clear hv hv' hall hah hms hp0 hl0 hA2 hA hB1 hB2 hCq hpart he0 he5 hrise hfin hbW hlW s1 s2 hw2
    go_wp2_with (refine wpList_load_row rfl 27 _ rfl w.heap.size rfl 27 _ (0, 0) _ hpW.row Tryz.underlying27 rfl (info34 a) ?_)
    refine (hah1.out l.f).mono ?_
    rintro e W1 ⟨rfl, hb1⟩
    obtain ⟨hpW1, hlW1, _⟩ := hpl.out W1 hb1
    have c1 := hlW1.c1
    clear hpW c0 hah1 hlW1
    go_wp2_with (refine wpList_load_row rfl 27 _ rfl w.heap.size rfl 27 _ (0, 0) _ hpW1.row Tryz.underlying27 rfl (info34 a) ?_)
    refine (hah2.out l.t W1 hb1).mono ?_
    rintro e W2 ⟨rfl, hb2⟩
    have hb12 := hb1.trans (hb2.mono hb1.size)
    obtain ⟨hpW2, hlW2, hB2⟩ := hpl.out W2 hb12
    have c2 := hlW2.c2
    have c3 := hlW2.c3
    have hB2h : Hid (Below w.heap.size w W2) := hB2
    have hgo2 : Hid (okL a l → ∀ v0 v1 v5 v6 v7 v9 v11 v13 v14 v15 v16 v17 v18 v19 v20 v21 v22 v23 v24 v25 v26 v27 v28 v29 v30 v31 v32 v33 v34 v35 v36 v37 v38 v39 v40 v41 v42 v43 v44 v45 v46 v47 v48 v49 v50 v51 v52 v53 v54 v55 v56 v57 v58 v59 v60 v61 v62 v63 v64 v65 v66 v67 v68 v69 v70 v71 v72 v73 v74 v75 v76 v77 v78 v79 v80 v81 v82 v83 v84 v85 v86 v87 v88 v89 v90 v91 v92 v93 v94 v95 v96 v97 v98 v99 v100 v101 v102 v103 v104 v105 v106 v107 v108 v109 v110 v111 v112 v113 v114 v115 v116 v117 v118 v119 v120 v121 v122 v123 v124 v125 v126 v127 v128 v129 v130 v131 v132 v133 v134 v135 v136 v137 v138 : Value, rest8.wp Tryz.prog (bodyPost Tryz.prog Tryz.f8 (PlEnd a l last pn w)) (fr8 v0 v1 (.bool last) (.pointer (some ⟨w.heap.size, 0, none⟩)) (.pointer (some ⟨(w.heap.size + 1), 0, none⟩)) v5 v6 v7 (.slice av (num a.t) cap) v9 (.int .i64 (loI a l.f : Nat)) v11 (.int .i64 (loI a l.t : Nat)) v13 v14 v15 v16 v17 v18 v19 v20 v21 v22 v23 v24 v25 v26 v27 v28 v29 v30 v31 v32 v33 v34 v35 v36 v37 v38 v39 v40 v41 v42 v43 v44 v45 v46 v47 v48 v49 v50 v51 v52 v53 v54 v55 v56 v57 v58 v59 v60 v61 v62 v63 v64 v65 v66 v67 v68 v69 v70 v71 v72 v73 v74 v75 v76 v77 v78 v79 v80 v81 v82 v83 v84 v85 v86 v87 v88 v89 v90 v91 v92 v93 v94 v95 v96 v97 v98 v99 v100 v101 v102 v103 v104 v105 v106 v107 v108 v109 v110 v111 v112 v113 v114 v115 v116 v117 v118 v119 v120 v121 v122 v123 v124 v125 v126 v127 v128 v129 v130 v131 v132 v133 v134 v135 v136 v137 v138) W2) := fun h => hgo.out h W2 hb12
    clear hpW1 c1 hah2 hlW2 hgo hpl hb1 hb2 hb12 hB2 hpW2
    have hok : Hid (okL a l ↔ bdQ a l.f = true ∧ bdQ a l.t = true ∧ loI a l.f ≤ loI a l.t ∧ (0 ≤ l.x ∧ l.x ≤ 4095) ∧ (0 ≤ l.w ∧ l.w ≤ 4095)) := Iff.rfl
    by_cases h1 : bdQ a l.f = true
    · rw [h1]
      by_cases h2 : bdQ a l.t = true
      · rw [h2]
        by_cases h3 : loI a l.f ≤ loI a l.t
        · have h3' : ¬ ((loI a l.t : Nat) : Int) < (loI a l.f : Nat) := by omega
          by_cases h4 : 0 ≤ l.x ∧ l.x ≤ 4095
          · rw [show decide (0 ≤ l.x ∧ l.x ≤ 4095) = true by simpa using h4] at hkx
            by_cases h5 : 0 ≤ l.w ∧ l.w ≤ 4095
            · rw [show decide (0 ≤ l.w ∧ l.w ≤ 4095) = true by simpa using h5] at hkw
              have hgo3 := hgo2.out (hok.out.2 ⟨h1, h2, h3, h4, h5⟩)
              replace hgo3 : Hid (∀ v0 v1 v5 v6 v7 v9 v11 v13 v14 v15 v16 v17 v18 v19 v20 v21 v22 v23 v24 v25 v26 v27 v28 v29 v30 v31 v32 v33 v34 v35 v36 v37 v38 v39 v40 v41 v42 v43 v44 v45 v46 v47 v48 v49 v50 v51 v52 v53 v54 v55 v56 v57 v58 v59 v60 v61 v62 v63 v64 v65 v66 v67 v68 v69 v70 v71 v72 v73 v74 v75 v76 v77 v78 v79 v80 v81 v82 v83 v84 v85 v86 v87 v88 v89 v90 v91 v92 v93 v94 v95 v96 v97 v98 v99 v100 v101 v102 v103 v104 v105 v106 v107 v108 v109 v110 v111 v112 v113 v114 v115 v116 v117 v118 v119 v120 v121 v122 v123 v124 v125 v126 v127 v128 v129 v130 v131 v132 v133 v134 v135 v136 v137 v138 : Value, rest8.wp Tryz.prog (bodyPost Tryz.prog Tryz.f8 (PlEnd a l last pn w)) (fr8 v0 v1 (.bool last) (.pointer (some ⟨w.heap.size, 0, none⟩)) (.pointer (some ⟨(w.heap.size + 1), 0, none⟩)) v5 v6 v7 (.slice av (num a.t) cap) v9 (.int .i64 (loI a l.f : Nat)) v11 (.int .i64 (loI a l.t : Nat)) v13 v14 v15 v16 v17 v18 v19 v20 v21 v22 v23 v24 v25 v26 v27 v28 v29 v30 v31 v32 v33 v34 v35 v36 v37 v38 v39 v40 v41 v42 v43 v44 v45 v46 v47 v48 v49 v50 v51 v52 v53 v54 v55 v56 v57 v58 v59 v60 v61 v62 v63 v64 v65 v66 v67 v68 v69 v70 v71 v72 v73 v74 v75 v76 v77 v78 v79 v80 v81 v82 v83 v84 v85 v86 v87 v88 v89 v90 v91 v92 v93 v94 v95 v96 v97 v98 v99 v100 v101 v102 v103 v104 v105 v106 v107 v108 v109 v110 v111 v112 v113 v114 v115 v116 v117 v118 v119 v120 v121 v122 v123 v124 v125 v126 v127 v128 v129 v130 v131 v132 v133 v134 v135 v136 v137 v138) W2) := hgo3
              clear hend5 hgo2 hok hB2h h1 h2 h4 h5
              generalize loI a l.f = f0 at *
              generalize loI a l.t = t0 at *
              rename_i K1 hK1 K2 hK2
              replace hK1 : Hid _ := hK1
              go_wp2_with fail
              refine hK1.out _ _ ?_
              clear hK1
              refine wp_seq_k ?_
              intro K3 hK3
              replace hK3 : Hid _ := hK3
              go_wp2_with (go_at_call 23; first | (with_reducible refine (hkx _).mono ?_; rintro e W3 ⟨rfl, hw3⟩; subst hw3) | (with_reducible refine (hkw _).mono ?_; rintro e W3 ⟨rfl, hw3⟩; subst hw3))
              refine hK3.out _ _ ?_
              exact hgo3.out _ _ _ _ _ _ _ _ _ _ _ _ _ _ _ _ _ _ _ _ _ _ _ _ _ _ _ _ _ _ _ _ _ _ _ _ _ _ _ _ _ _ _ _ _ _ _ _ _ _ _ _ _ _ _ _ _ _ _ _ _ _ _ _ _ _ _ _ _ _ _ _ _ _ _ _ _ _ _ _ _ _ _ _ _ _ _ _ _ _ _ _ _ _ _ _ _ _ _ _ _ _ _ _ _ _ _ _ _ _ _ _ _ _ _ _ _ _ _ _ _ _ _ _ _ _ _ _ _ _ _ _ _
            · rw [show decide (0 ≤ l.w ∧ l.w ≤ 4095) = false by simpa using h5] at hkw
              have hE := hend5.out (fun h => h5 (hok.out.1 h).2.2.2.2) W2 hB2h.out
              clear hend5 hgo2 hok hB2h
              generalize loI a l.f = f0 at *
              generalize loI a l.t = t0 at *
              go_wp2_with (go_at_call 23; first | (with_reducible refine (hkx _).mono ?_; rintro e W3 ⟨rfl, hw3⟩; subst hw3) | (with_reducible refine (hkw _).mono ?_; rintro e W3 ⟨rfl, hw3⟩; subst hw3))
              go_ret2
              exact hE
          · rw [show decide (0 ≤ l.x ∧ l.x ≤ 4095) = false by simpa using h4] at hkx
            have hE := hend5.out (fun h => h4 (hok.out.1 h).2.2.2.1) W2 hB2h.out
            clear hend5 hgo2 hok hB2h
            generalize loI a l.f = f0 at *
            generalize loI a l.t = t0 at *
            go_wp2_with (go_at_call 23; first | (with_reducible refine (hkx _).mono ?_; rintro e W3 ⟨rfl, hw3⟩; subst hw3) | (with_reducible refine (hkw _).mono ?_; rintro e W3 ⟨rfl, hw3⟩; subst hw3))
            go_ret2
            exact hE
        · have h3' : ((loI a l.t : Nat) : Int) < (loI a l.f : Nat) := by omega
          have hE := hend5.out (fun h => h3 (hok.out.1 h).2.2.1) W2 hB2h.out
          clear hend5 hgo2 hok hB2h
          generalize loI a l.f = f0 at *
          generalize loI a l.t = t0 at *
          go_wp2_with (go_at_call 23; first | (with_reducible refine (hkx _).mono ?_; rintro e W3 ⟨rfl, hw3⟩; subst hw3) | (with_reducible refine (hkw _).mono ?_; rintro e W3 ⟨rfl, hw3⟩; subst hw3))
          go_ret2
          exact hE
      · rw [show bdQ a l.t = false by simpa using h2]
        have hE := hend5.out (fun h => h2 (hok.out.1 h).2.1) W2 hB2h.out
        clear hend5 hgo2 hok hB2h
        generalize loI a l.f = f0 at *
        generalize loI a l.t = t0 at *
        go_wp2_with (go_at_call 23; first | (with_reducible refine (hkx _).mono ?_; rintro e W3 ⟨rfl, hw3⟩; subst hw3) | (with_reducible refine (hkw _).mono ?_; rintro e W3 ⟨rfl, hw3⟩; subst hw3))
        go_ret2
        exact hE
    · rw [show bdQ a l.f = false by simpa using h1]
      have hE := hend5.out (fun h => h1 (hok.out.1 h).1) W2 hB2h.out
      clear hend5 hgo2 hok hB2h
      generalize bdQ a l.t = b2 at *
      generalize loI a l.f = f0 at *
      generalize loI a l.t = t0 at *
      go_wp2_with (go_at_call 23; first | (with_reducible refine (hkx _).mono ?_; rintro e W3 ⟨rfl, hw3⟩; subst hw3) | (with_reducible refine (hkw _).mono ?_; rintro e W3 ⟨rfl, hw3⟩; subst hw3))
      go_ret2
      exact hE
  · have he : plE a l = chkI a := by unfold plE; rw [if_neg hck]
    have hend : Hid (∀ W, Below w.heap.size w W → PlEnd a l last pn w (.returned (.tuple #[.slice none 0 0, .int .i64 (chkI a)])) W) := fun W hW => ⟨⟨_, by rw [he], .inl ⟨by rw [he]; exact hck, rfl⟩⟩, hW⟩
    have hck' : (chkI a == 0) = false := by simpa using hck
    clear he hpart hCq
    generalize chkI a = ec at *
    go_enter Tryz.func8, Tryz.ntmps8
    go_wp2_with (refine wpList_load_row rfl 27 _ rfl w.heap.size rfl 27 _ (0, 0) _ hp0.row Tryz.underlying27 rfl (info34 a) ?_)
    refine hms.mono ?_
    rintro e W ⟨⟨v, rfl, hv⟩, hbW⟩
    have hB := hB2.trans (hbW.mono hB2.size)
    clear hv hms hp0 hl0 hA2 hA hB1 hB2 hbW hw2
    go_wp2_with fail
    go_ret2
    exact hend.out _ hB
end Go.Proofs.YtbdpghjegachaaaGreatDoor

namespace Go.Proofs.YtbdpghjegachaaaGreatDoor
open Go.RowKit Go.Shelf

def noP (_ : Int) : Bool := false
set_option maxRecDepth 100000 in
set_option maxHeartbeats 1000000 in
theorem part_none (a : Pa) : PartOk a (fun q => q = 0) noP := by
  intro w r g o N cap M av vb x hy rm l hav hcap hN hq hA hR hW hrg
  have hB := (Below.refl w.heap.size w).alloc (Nat.le_refl _) (Obj.cells (paC a) 27)
  have hW1 := hW.below hB hW.lt
  have hR1 := hR.below hB (fun h => hR.lt h)
  have hc := contains56 (fun m => m.q != 0) kern56 (w.alloc (.cells (paC a) 27)) g o N M 0 N cap o (by show o = o + 0 * 6; omega) (by omega) hN hcap av hav hR1
  rw [anyB_no (fun i hi => by show ((M (0 + i)).q != 0) = false; rw [Nat.zero_add, hq i hi]; rfl)] at hc
  have c0 := hW1.c.1
  have hend : Hid (∀ W, Below (w.alloc (.cells (paC a) 27)).heap.size (w.alloc (.cells (paC a) 27)) W → Turns (XG g N) w W ∧ RF W g o N (ptM noP M)) := fun W hb => by
    have hb2 := hB.trans (hb.mono hB.size)
    refine ⟨(Turns.of_below hb2).mono fun _ k => k.elim, (hR.below hb2 (fun h => hR.lt h)).congr fun i hi => ?_⟩
    have := hq i hi
    unfold ptM noP
    split
    · rw [← this]
    · rfl
  clear hA hR hW hR1 hW1 hav hq hB
  generalize hw1 : w.alloc (.cells (paC a) 27) = w1 at *
  go_enter Tryz.func27, Tryz.ntmps27
  go_wp2_with (go_at_call 55; refine hc.mono ?_; rintro e W2 ⟨rfl, hb2⟩)
  exact bodyPost_ret (results_none rfl _ _ _) rfl ⟨rfl, hend.out _ hb2⟩
end Go.Proofs.YtbdpghjegachaaaGreatDoor

namespace Go.Proofs.YtbdpghjegachaaaGreatDoor
open Go.RowKit Go.Shelf

/-- An item: kind, from, to, width, stretch, shrink, cost, hyphen. -/
structure It where
  k : Int
  f : Int
  t : Int
  w : Int
  s : Int
  h : Int
  c : Int
  y : Bool
def itL (x : It) : List Value := [.int .i64 x.k, .int .i64 x.f, .int .i64 x.t, .int .i64 x.w, .int .i64 x.s, .int .i64 x.h, .int .i64 x.c, .bool x.y]
theorem itL_len (x : It) : (itL x).length = 8 := rfl
end Go.Proofs.YtbdpghjegachaaaGreatDoor

namespace Go.Proofs.YtbdpghjegachaaaGreatDoor
open Go.RowKit Go.Shelf

def it0 : It := ⟨0, 0, 0, 0, 0, 0, 0, false⟩
end Go.Proofs.YtbdpghjegachaaaGreatDoor

namespace Go.Proofs.YtbdpghjegachaaaGreatDoor.Hy
open Go.RowKit Go.Shelf

theorem below_drewN {n : Nat} {w w' : World} (h : Below n w w') (q : Nat) : Below n w (w'.drewN q) := ⟨h.1, h.2, h.3, h.4, h.5⟩
end Go.Proofs.YtbdpghjegachaaaGreatDoor.Hy

namespace Go.Proofs.YtbdpghjegachaaaGreatDoor.Hy
open Go.RowKit Go.Shelf

/-- The table of blanks lies as the program's text lays it. -/
structure Tab (w : World) : Prop where
  tab : Lib.TabIs Tryz.prog w "strings.asciiSpace" .u8 Lib.asciiSpaceTab
theorem Tab.below {w w' : World} (h : Tab w) (hb : Below w.heap.size w w') : Tab w' := by
  refine ⟨?_⟩
  have := h.tab
  unfold Lib.TabIs World.var? at this ⊢
  cases hg : Tryz.prog.globalNamed "strings.asciiSpace" with
  | none => rw [hg] at this; cases this
  | some g =>
    rw [hg] at this
    simp only [Option.bind_some] at this ⊢
    cases hw : w.heap[g]? with
    | none => rw [hw] at this; cases this
    | some o =>
      rw [hw] at this
      rw [hb.block g (Array.getElem?_eq_some_iff.1 hw).1, hw]
      exact this

end Go.Proofs.YtbdpghjegachaaaGreatDoor.Hy

namespace Go.Proofs.YtbdpghjegachaaaGreatDoor
open Go.RowKit Go.Shelf

theorem rec_turns {α : Type} {k : Nat} {f : α → List Value} {W W' : World} {X : Nat → Prop} {v : Value} {rs : List α} (h : RecAt k f W v rs) (ht : Turns X W W') (hx : ∀ b o n c, v = .slice (some ⟨b, o, none⟩) n c → ¬ X b) : RecAt k f W' v rs := by
  have hle := h.le
  obtain ⟨a, cap, rfl, h2⟩ := h.ex
  refine ⟨⟨a, cap, rfl, ?_⟩, hle⟩
  rcases h2 with h2 | ⟨b, o, rfl, hlt, hc⟩
  · exact .inl h2
  · refine .inr ⟨b, o, rfl, Nat.lt_of_lt_of_le hlt ht.size, fun i hi j u hu => ?_⟩
    rw [World.cell?_of_block (ht.block b hlt (hx b o _ _ rfl))]
    exact hc i hi j u hu

end Go.Proofs.YtbdpghjegachaaaGreatDoor

namespace Go.Proofs.YtbdpghjegachaaaGreatDoor
open Go.RowKit Go.Shelf

/-- The kind of an item's cell, by its place. -/
def Kd (j : Nat) (u : Value) : Prop := if j % 8 = 7 then ∃ b, u = .bool b else ∃ i, u = .int .i64 i
theorem Kd.shift {j : Nat} {u : Value} (m : Nat) : Kd (j + m * 8) u ↔ Kd j u := by unfold Kd; rw [Nat.add_mul_mod_self_right]
def KdL (xs : List Value) : Prop := ∀ j u, xs[j]? = some u → Kd j u
theorem kd_item (x : It) : KdL (itL x) := fun j u hu => by
  have hj : j < 8 := (List.getElem?_eq_some_iff.1 hu).1
  have hj' : j = 0 ∨ j = 1 ∨ j = 2 ∨ j = 3 ∨ j = 4 ∨ j = 5 ∨ j = 6 ∨ j = 7 := by omega
  rcases hj' with rfl | rfl | rfl | rfl | rfl | rfl | rfl | rfl <;> (simp [itL] at hu; subst hu)
  all_goals first | exact ⟨_, rfl⟩
theorem kd_app {xs ys : List Value} {n : Nat} (hl : xs.length = n * 8) (h : KdL xs) (h' : KdL ys) : KdL (xs ++ ys) := fun j u hu => by
  by_cases hj : j < xs.length
  · rw [List.getElem?_append_left hj] at hu; exact h j u hu
  · rw [List.getElem?_append_right (by omega)] at hu
    have := (Kd.shift n).2 (h' _ _ hu)
    rwa [hl, show j - n * 8 + n * 8 = j by omega] at this
theorem kd_its : ∀ l : List It, KdL (l.flatMap itL)
  | [] => fun j u hu => by simp at hu
  | x :: l => by
    rw [List.flatMap_cons]
    exact kd_app (n := 1) (itL_len x) (kd_item x) (kd_its l)
def z8 : Value := .agg #[.int .i64 0, .int .i64 0, .int .i64 0, .int .i64 0, .int .i64 0, .int .i64 0, .int .i64 0, .bool false]
theorem kd_zero (m : Nat) : KdL (Builtin.zeroCells z8.cells m).toList := fun j u hu => by
  have hz : z8.cells = (itL it0).toArray := rfl
  rw [hz] at hu
  unfold Builtin.zeroCells at hu
  rw [Array.toList_map, List.getElem?_map] at hu
  obtain ⟨k, hk, rfl⟩ := Option.map_eq_some_iff.1 hu
  have hk' : k = j := by
    rw [Array.getElem?_toList] at hk
    have := Array.getElem?_eq_some_iff.1 hk
    obtain ⟨h1, h2⟩ := this
    simpa using h2.symm
  subst hk'
  have e : (itL it0).toArray.size = 8 := rfl
  rw [e]
  have h8 : k % 8 < 8 := Nat.mod_lt _ (by omega)
  have := kd_item it0 (k % 8) ((itL it0).toArray[k % 8]!) (by
    have h' : k % 8 < (itL it0).length := h8
    rw [List.getElem?_eq_getElem h']
    simp [h'])
  have h3 := (Kd.shift (k / 8)).2 this
  rwa [show k % 8 + k / 8 * 8 = k by omega] at h3
/-- The cells of a row's block are items'. -/
def FillI (W : World) (v : Value) : Prop := ∀ g n cap cur, v = .slice (some ⟨g, 0, none⟩) n cap → W.heap[g]? = some (.cells cur 129 (0, 0)) → KdL cur.toList
theorem FillI.nil (W : World) : FillI W (.slice none 0 0) := fun _ _ _ _ e => by cases e
theorem FillI.turns {X : Nat → Prop} {W W' : World} {v : Value} (h : FillI W v) (ht : Turns X W W') (hx : ∀ g, v.ownBlock = some g → g < W.heap.size ∧ ¬ X g) : FillI W' v := fun g n cap cur e hg => by
  obtain ⟨h1, h2⟩ := hx g (by rw [e]; rfl)
  rw [ht.block g h1 h2] at hg
  exact h g n cap cur e hg

theorem run_append_kinds {P : Program} (w : World) (base : Nat) (t ty : TypeId) (i : TypeInfo) (ht : P.underlying t = some (.slice 129)) (hi : P.info? 129 = some i) (hz : i.zero = some z8) (hsize : i.size = 8) (hby : i.bytes = 64)
    (v : Value) (n : Nat) (xs : List Value) (hown : w.ownsRow base 129 8 v n xs) (hk : KdL xs) (hfill : FillI w v) (a : Addr) (c : Nat) (news : List Value) (hl : news.length = 8) (hnews : ∀ j u, news[j]? = some u → w.cell? (a.add j) = some u) (h1 : ∀ u ∈ news, u.oneCell' = true) (hkn : KdL news)
    (h63 : n + 1 ≤ maxLen) (hbytes : (n + 1) * 64 ≤ 140737488355328) (hbase : base ≤ w.heap.size) :
    ∃ v' w', (Builtin.append_ #[t, t] ty #[v, .slice (some a) 1 c]).run P w = .ok v' w' ∧ w'.ownsRow base 129 8 v' (n + 1) (xs ++ news) ∧ w.grownBy w' v.ownBlock ∧ (v'.ownBlock = v.ownBlock ∨ ∀ g, v'.ownBlock = some g → w.heap.size ≤ g) ∧ FillI w' v' := by
  obtain ⟨v', w', hrun, r1, r2, r3⟩ := run_append_where (P := P) w base t ty 129 i z8 8 64 ht hi hz hsize hby rfl (by decide) v n xs hown a 1 c news (by omega) hnews h1 h63 hbytes hbase
  refine ⟨v', w', hrun, r1, r2, r3, ?_⟩
  have hsmall : n + 1 ≤ 9223372036854775807 := by simp only [maxLen] at h63; omega
  have hxl : xs.length = n * 8 := hown.1
  have hfresh : ∀ (cs : Array Value) (m k : Nat), v' = .slice (some ⟨w.heap.size, 0, none⟩) m k → w' = w.drew.alloc (.cells cs 129) → KdL cs.toList → FillI w' v' := by
    intro cs m k hv hw hx g n' cap' cur e hg
    rw [hv] at e
    cases e
    rw [hw] at hg
    have := World.alloc_heap_new w.drew (.cells cs 129)
    rw [show w.drew.heap.size = w.heap.size from rfl] at this
    rw [this] at hg
    cases hg
    exact hx
  rcases hown.2 with ⟨rfl, rfl⟩ | ⟨g, cap, cur, rfl, hbg, hg, hnc, hcm, hcs, htake⟩
  · have hr := run_append_nil (P := P) w t ty 129 i z8 ht hi hz a 1 c news (by rw [hsize]; omega) hnews (by omega) (by omega) (by rw [hby]; omega)
    rw [hrun] at hr
    injection hr with e1 e2
    refine hfresh _ _ _ e1 e2 ?_
    rw [Array.toList_append]
    exact kd_app (n := 1) (by simpa using hl) hkn (kd_zero _)
  · by_cases hroom : n + 1 ≤ cap
    · have hfit : n * i.size + news.length ≤ cur.size := by rw [hsize, hcs, hl]; omega
      have hr := run_append_room (P := P) w t ty 129 i ht hi g n cap cur hg a 1 c news (by rw [hsize]; omega) hnews h1 hroom hfit
      rw [hrun] at hr
      injection hr with e1 e2
      intro g' n' cap' cur' e hg'
      rw [e1] at e
      cases e
      rw [e2, setRow_heap w g cur _ 129 _ hg] at hg'
      cases hg'
      have hold := hfill g n cap cur rfl hg
      rw [hsize] at hfit ⊢
      have hcl : cur.toList.length = cap * 8 := by simpa using hcs
      have ht8 : (cur.toList.take (n * 8)).length = n * 8 := by rw [List.length_take]; omega
      refine kd_app (n := n + 1) (by rw [List.length_append, ht8]; omega) (kd_app (n := n) ht8 (fun j u hu => ?_) hkn) (fun j u hu => ?_)
      · have : cur.toList[j]? = some u := by
          have hj : j < n * 8 := by rw [← ht8]; exact (List.getElem?_eq_some_iff.1 hu).1
          rwa [List.getElem?_take_of_lt hj] at hu
        exact hold j u this
      · rw [List.getElem?_drop, hl] at hu
        have := hold _ u hu
        rw [show n * 8 + 8 + j = j + (n + 1) * 8 by omega] at this
        exact (Kd.shift (n + 1)).1 this
    · have holds : ∀ j u, xs[j]? = some u → w.cell? ((⟨g, 0, none⟩ : Addr).add j) = some u := hown.cells (g := g) rfl
      have hr := run_append_grow (P := P) w t ty 129 i z8 ht hi hz ⟨g, 0, none⟩ n cap xs (by rw [hsize]; exact hown.1) holds a 1 c news (by rw [hsize]; omega) hnews (by omega) (by omega) (by rw [hby]; exact growslice_fits (by omega) hbytes)
      rw [hrun] at hr
      injection hr with e1 e2
      refine hfresh _ _ _ e1 e2 ?_
      rw [Array.toList_append, Array.toList_append]
      exact kd_app (n := n + 1) (by simp; omega) (kd_app (n := n) (by simpa using hxl) hk hkn) (kd_zero _)

theorem wpListIn_append_kinds {F : Fence} {k : Nat} {P : Program} (w : World) {ops : Array Oper} {rest : List Oper} {o : Oper} {a : Act} {Q : Exit → Act → World → Prop}
    (hg : o.guard = none) (s x : Operand) (t : TypeId) (hop : o.op = Op.call { callee := Callee.builtin Builtin.append, args := #[s, x], argTypes := #[t, t] })
    (base : Nat) (i : TypeInfo) (ht : P.underlying t = some (.slice 129)) (hi : P.info? 129 = some i) (hz : i.zero = some z8) (hsize : i.size = 8) (hby : i.bytes = 64)
    (v : Value) (n : Nat) (xs : List Value) (hs : a.eval s = v) (hown : w.ownsRow base 129 8 v n xs) (hk : KdL xs) (hfill : FillI w v) (ad : Addr) (c : Nat) (news : List Value) (hx : a.eval x = .slice (some ad) 1 c) (hl : news.length = 8) (hnews : ∀ j u, news[j]? = some u → w.cell? (ad.add j) = some u) (h1 : ∀ u ∈ news, u.oneCell' = true) (hkn : KdL news)
    (h63 : n + 1 ≤ maxLen) (hbytes : (n + 1) * 64 ≤ 140737488355328) (hbase : base ≤ w.heap.size)
    (hK : ∀ v' w', w'.ownsRow base 129 8 v' (n + 1) (xs ++ news) → w.grownBy w' v.ownBlock → (v'.ownBlock = v.ownBlock ∨ ∀ g, v'.ownBlock = some g → w.heap.size ≤ g) → FillI w' v' → wpListIn F k P ops Q rest (a.put o.dst v') w') :
    wpListIn F k P ops Q (o :: rest) a w := by
  refine wpListIn_plain hg fun K hK' => ?_
  obtain ⟨v', w', hrun, r1, r2, r3, r4⟩ := run_append_kinds (P := P) w base t o.type i ht hi hz hsize hby v n xs hown hk hfill ad c news hl hnews h1 hkn h63 hbytes hbase
  unfold Oper.wpIn
  refine ⟨?_, ?_⟩
  · simp [Oper.about, hop, resolve, Target.leads, Sem.run_pure]
  · rw [Oper.semAt_plain F _ _ (by rw [hop]; intro c hc'; cases hc')]
    simp [execOp, hop, resolve, invoke, builtin, hs, hx, hrun, Result.andThen]
    exact hK' _ _ (hK v' w' r1 r2 r3 r4)
theorem info51z : (Tryz.prog.info? 129).map (fun i => (i.zero, i.size, i.bytes)) = some (some z8, 8, 64) := by kernel_rfl
end Go.Proofs.YtbdpghjegachaaaGreatDoor

namespace Go.Proofs.YtbdpghjegachaaaGreatDoor
open Go.RowKit Go.Shelf

theorem prL_one (p : Pr) : (prL p).toArray.all (·.oneCell') = true := by simp [prL, Value.oneCell']
theorem paC_one (a : Pa) (h1 : a.sv.oneCell' = true) (h2 : a.mv.oneCell' = true) : (paC a).all (·.oneCell') = true := by simp [paC, Value.oneCell']; exact ⟨h1, h2⟩
def plainP (s : Int) : Pr := ⟨s, 12, 0, 0, 0, 0, 0, 0, 0, 0, 1, 1, 0, 0, 0, 0, 0⟩

set_option maxRecDepth 100000 in
set_option maxHeartbeats 2000000 in
theorem plain_any (s : Int) (w : World) : Calls Tryz.prog 44 #[.int .i64 s] w fun e w' => e = .returned (.agg (prL (plainP s)).toArray) ∧ Below w.heap.size w w' := by
  have hB := (Below.refl w.heap.size w).alloc (Nat.le_refl _) (Obj.cells #[.int .i64 0, .int .i64 0, .int .i64 0, .int .i64 0, .int .i64 0, .int .i64 0, .int .i64 0, .int .i64 0, .int .i64 0, .int .i64 0, .int .i64 0, .int .i64 0, .int .i64 0, .int .i64 0, .int .i64 0, .int .i64 0, .int .i64 0] 24)
  have hz : (w.alloc (.cells #[.int .i64 0, .int .i64 0, .int .i64 0, .int .i64 0, .int .i64 0, .int .i64 0, .int .i64 0, .int .i64 0, .int .i64 0, .int .i64 0, .int .i64 0, .int .i64 0, .int .i64 0, .int .i64 0, .int .i64 0, .int .i64 0, .int .i64 0] 24)).heap[w.heap.size]? = some (.cells #[.int .i64 0, .int .i64 0, .int .i64 0, .int .i64 0, .int .i64 0, .int .i64 0, .int .i64 0, .int .i64 0, .int .i64 0, .int .i64 0, .int .i64 0, .int .i64 0, .int .i64 0, .int .i64 0, .int .i64 0, .int .i64 0, .int .i64 0] 24 (0, 0)) := World.alloc_heap_new w _
  go_enter Tryz.func44, Tryz.ntmps44
  go_wp2_with (refine wpList_store_row rfl 24 _ _ rfl w.heap.size (prL (plainP s)).toArray rfl rfl 24 _ hz (info31 _) rfl (prL_one _) ?_)
  refine bodyPost_ret (results_cell_row rfl _ _ w.heap.size 24 _ (0, 0) _ rfl (setRow_heap _ _ _ _ 24 _ hz) Tryz.underlying24 rfl (info31 (plainP s))) rfl ⟨rfl, ?_⟩
  exact hB.trans ((Turns.setRow (X := fun b => b = w.heap.size) (w.alloc (.cells #[.int .i64 0, .int .i64 0, .int .i64 0, .int .i64 0, .int .i64 0, .int .i64 0, .int .i64 0, .int .i64 0, .int .i64 0, .int .i64 0, .int .i64 0, .int .i64 0, .int .i64 0, .int .i64 0, .int .i64 0, .int .i64 0, .int .i64 0] 24)) rfl _).below (by simp) (fun b hb => by omega))

end Go.Proofs.YtbdpghjegachaaaGreatDoor
