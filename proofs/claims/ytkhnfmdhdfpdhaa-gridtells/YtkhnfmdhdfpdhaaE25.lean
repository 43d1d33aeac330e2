/-
  What is proved here: the document's region that asks whether a mass is kerned, in one.
-/
import Derived.Test.YtkhnfmdhdfpdhaaE24
namespace Go.Proofs.Ytkhnfmdhdfpdhaa
open Go.RowKit Go.Shelf

/-- Whether a mass is kerned, as the document asks it. -/
def Asks (a : Pa) (w0 : World) (k : Nat) (kd lk s : Int) (v5 v7 : Value) (c : Bool) : Prop :=
  (k = 0 ∧ c = false) ∨ (0 < k ∧ visK kd = false ∧ c = false) ∨
  (0 < k ∧ visK kd = true ∧ ∃ gl n cp x1 T nT cT : Nat, ∃ kd1 s1 : Int, v5 = .slice (some ⟨gl, 0, none⟩) n cp ∧ gl < w0.heap.size ∧ k - 1 < n ∧ w0.cell? ⟨gl, (k - 1) * 3 + 2, none⟩ = some (.int .i64 kd1) ∧ w0.cell? ⟨gl, (k - 1) * 3, none⟩ = some (.int .i64 (x1 : Nat)) ∧ x1 < a.t.size ∧
    v7 = .slice (some ⟨T, 0, none⟩) nT cT ∧ T < w0.heap.size ∧ k - 1 < nT ∧ w0.cell? ⟨T, (k - 1) * 6 + 3, none⟩ = some (.int .i64 s1) ∧ c = (visK kd1 && (decide (lk = 1) && (decide ((spAt a.sp x1).k = 1) && decide (s1 = s)))))

set_option maxRecDepth 100000 in
set_option maxHeartbeats 4000000 in
theorem rm_r18 (Q : Exit → Act → World → Prop) (hQ : ∀ c x (n : Nat) v w, Q (.panic c) (x.put (some n) v) w → Q (.panic c) x w) (id : Nat) (ps : String) {v0 v2 v3 v4 v5 v6 v7 v8 v13 v14 v15 v16 v17 v18 v19 v20 v21 v22 v23 v24 v25 v26 v27 v28 v29 v30 v31 v32 v33 v34 v35 v36 v37 v38 v39 v40 v41 v42 v43 v44 v45 v46 v47 v48 v49 v50 v51 v52 v53 v54 v55 v56 v57 v58 v59 v60 v61 v62 v63 v64 v65 v66 v67 v68 v69 v70 v71 v72 v73 v74 v75 v76 v77 v78 v79 v80 v81 v82 v83 v84 v85 v86 v87 v88 v89 v90 v91 v92 v93 v94 v95 v96 v97 v98 v99 v100 v101 v102 v103 v104 v105 v106 v107 v108 v109 v110 v111 v112 v113 v114 v115 v116 v117 v118 v119 v120 v121 v122 v123 v124 v125 v126 v127 v128 v129 v130 v131 v132 v133 v134 v135 v136 v137 v138 v139 v140 v141 v142 v143 v144 v145 v146 v147 v148 v149 : Value} (w0 : World) (B C M N k : Nat) (hk : k ≤ 4096) (a : Pa) (ht : a.t.size ≤ 4096) (hsp : spB a.sp a.t.size = true) (x y kd s wd q ls lt lk : Int) (c : Bool) (hP : PB w0 B a) (hA : PaAt w0 a) (hC : CB w0 C x y kd) (hM : MB w0 M x y kd s wd q) (hN : KB w0 N ls lt lk) (hask : Asks a w0 k kd lk s v5 v7 c)
    (hq : ∀ u83 u84 u85 u86 u87 u88 u89 u90 u91 u92 u93 u94 u95 u96 u97 u98 u99 u100 u101 u102 u103 u104 u105 u106 u107 u108 u109 u110 u111 u112 u113 u114 u115 u116 u117 u118 u119 u120 u121 u122 u123 u124 u125 w', Turns Noth w0 w' → Q .normal (fr18 v0 (.pointer (some ⟨B, 0, none⟩)) v2 v3 v4 v5 v6 v7 v8 (.int .i64 (k : Nat)) (.pointer (some ⟨C, 0, none⟩)) (.pointer (some ⟨M, 0, none⟩)) (.pointer (some ⟨N, 0, none⟩)) v13 v14 v15 v16 v17 v18 v19 v20 v21 v22 v23 v24 v25 v26 v27 v28 v29 v30 v31 v32 v33 v34 v35 v36 v37 v38 v39 v40 v41 v42 v43 v44 v45 v46 v47 v48 v49 v50 v51 v52 v53 v54 v55 v56 v57 v58 v59 v60 v61 v62 v63 v64 v65 v66 v67 v68 v69 v70 v71 v72 v73 v74 v75 v76 v77 v78 v79 v80 v81 v82 u83 u84 u85 u86 u87 u88 u89 u90 u91 u92 u93 u94 u95 u96 u97 u98 u99 u100 u101 u102 u103 u104 u105 u106 u107 u108 u109 u110 u111 u112 u113 u114 u115 u116 u117 u118 u119 u120 u121 u122 u123 u124 u125 (.bool c) v127 v128 v129 v130 v131 v132 v133 v134 v135 v136 v137 v138 v139 v140 v141 v142 v143 v144 v145 v146 v147 v148 v149) w') :
    (Code.region id (ops18_18 ps) true).wp Try.prog Q (fr18 v0 (.pointer (some ⟨B, 0, none⟩)) v2 v3 v4 v5 v6 v7 v8 (.int .i64 (k : Nat)) (.pointer (some ⟨C, 0, none⟩)) (.pointer (some ⟨M, 0, none⟩)) (.pointer (some ⟨N, 0, none⟩)) v13 v14 v15 v16 v17 v18 v19 v20 v21 v22 v23 v24 v25 v26 v27 v28 v29 v30 v31 v32 v33 v34 v35 v36 v37 v38 v39 v40 v41 v42 v43 v44 v45 v46 v47 v48 v49 v50 v51 v52 v53 v54 v55 v56 v57 v58 v59 v60 v61 v62 v63 v64 v65 v66 v67 v68 v69 v70 v71 v72 v73 v74 v75 v76 v77 v78 v79 v80 v81 v82 v83 v84 v85 v86 v87 v88 v89 v90 v91 v92 v93 v94 v95 v96 v97 v98 v99 v100 v101 v102 v103 v104 v105 v106 v107 v108 v109 v110 v111 v112 v113 v114 v115 v116 v117 v118 v119 v120 v121 v122 v123 v124 v125 v126 v127 v128 v129 v130 v131 v132 v133 v134 v135 v136 v137 v138 v139 v140 v141 v142 v143 v144 v145 v146 v147 v148 v149) w0 := by
  rcases hask with ⟨h0, rfl⟩ | ⟨h0, h1, rfl⟩ | ⟨h0, h1, gl, n, cp, x1, T, nT, cT, kd1, s1, rfl, hgl, hkn, hg2, hg0, hx1, rfl, hTl, hkT, hT3, hc⟩
  · exact rm_r18_0 Q hQ id ps w0 B C M N k a x y kd s wd q ls lt lk (by omega) hP hA hC hM hN (fun w' hT => hq _ _ _ _ _ _ _ _ _ _ _ _ _ _ _ _ _ _ _ _ _ _ _ _ _ _ _ _ _ _ _ _ _ _ _ _ _ _ _ _ _ _ _ w' hT)
  · exact rm_r18_1 Q hQ id ps w0 B C M N k a x y kd s wd q ls lt lk (by omega) h1 hP hA hC hM hN (fun w' hT => hq _ _ _ _ _ _ _ _ _ _ _ _ _ _ _ _ _ _ _ _ _ _ _ _ _ _ _ _ _ _ _ _ _ _ _ _ _ _ _ _ _ _ _ w' hT)
  · have hk1 : IntKind.i64.wrap ((k : Int) - 1) = ((k - 1 : Nat) : Int) := by rw [wrap_id (by omega) (by omega)]; omega
    have hkn' : ((k - 1 : Nat) : Int) < n := by omega
    have hkT' : ((k - 1 : Nat) : Int) < nT := by omega
    cases h2 : visK kd1
    · rw [h2, Bool.false_and] at hc
      subst hc
      exact rm_r18_2 Q hQ id ps w0 B C M N k a x y kd s wd q ls lt lk gl 0 n cp (k - 1) _ x1 kd1 hgl hk1 hkn' (Nat.zero_add _) hg2 hg0 (by omega) h1 h2 hP hA hC hM hN (fun w' hT => hq _ _ _ _ _ _ _ _ _ _ _ _ _ _ _ _ _ _ _ _ _ _ _ _ _ _ _ _ _ _ _ _ _ _ _ _ _ _ _ _ _ _ _ w' hT)
    · rw [h2, Bool.true_and] at hc
      by_cases h3 : lk = 1
      · rw [decide_eq_true h3, Bool.true_and] at hc
        by_cases h4 : (spAt a.sp x1).k = 1
        · rw [decide_eq_true h4, Bool.true_and] at hc
          by_cases h5 : s1 = s
          · rw [decide_eq_true h5] at hc
            subst hc
            exact rm_r18_6 Q hQ id ps w0 B C M N k a x y kd s wd q ls lt lk gl 0 n cp (k - 1) _ x1 kd1 hgl hk1 hkn' (Nat.zero_add _) hg2 hg0 hx1 ht hsp T 0 nT cT _ s1 hTl hkT' (Nat.zero_add _) hT3 (by omega) h1 h2 (by simpa using h3) (by simpa using h4) (by simpa using h5) hP hA hC hM hN (fun w' hT => hq _ _ _ _ _ _ _ _ _ _ _ _ _ _ _ _ _ _ _ _ _ _ _ _ _ _ _ _ _ _ _ _ _ _ _ _ _ _ _ _ _ _ _ w' hT)
          · rw [decide_eq_false h5] at hc
            subst hc
            exact rm_r18_5 Q hQ id ps w0 B C M N k a x y kd s wd q ls lt lk gl 0 n cp (k - 1) _ x1 kd1 hgl hk1 hkn' (Nat.zero_add _) hg2 hg0 hx1 ht hsp T 0 nT cT _ s1 hTl hkT' (Nat.zero_add _) hT3 (by omega) h1 h2 (by simpa using h3) (by simpa using h4) (by simpa using h5) hP hA hC hM hN (fun w' hT => hq _ _ _ _ _ _ _ _ _ _ _ _ _ _ _ _ _ _ _ _ _ _ _ _ _ _ _ _ _ _ _ _ _ _ _ _ _ _ _ _ _ _ _ w' hT)
        · rw [decide_eq_false h4, Bool.false_and] at hc
          subst hc
          exact rm_r18_4 Q hQ id ps w0 B C M N k a x y kd s wd q ls lt lk gl 0 n cp (k - 1) _ x1 kd1 hgl hk1 hkn' (Nat.zero_add _) hg2 hg0 hx1 ht hsp (by omega) h1 h2 (by simpa using h3) (by simpa using h4) hP hA hC hM hN (fun w' hT => hq _ _ _ _ _ _ _ _ _ _ _ _ _ _ _ _ _ _ _ _ _ _ _ _ _ _ _ _ _ _ _ _ _ _ _ _ _ _ _ _ _ _ _ w' hT)
      · rw [decide_eq_false h3, Bool.false_and] at hc
        subst hc
        exact rm_r18_3 Q hQ id ps w0 B C M N k a x y kd s wd q ls lt lk gl 0 n cp (k - 1) _ x1 kd1 hgl hk1 hkn' (Nat.zero_add _) hg2 hg0 (by omega) h1 h2 (by simpa using h3) hP hA hC hM hN (fun w' hT => hq _ _ _ _ _ _ _ _ _ _ _ _ _ _ _ _ _ _ _ _ _ _ _ _ _ _ _ _ _ _ _ _ _ _ _ _ _ _ _ _ _ _ _ w' hT)
end Go.Proofs.Ytkhnfmdhdfpdhaa
