/-
  What is proved here: what Labels tells of any paragraphs.
-/
import Derived.Test.YtjagnidkjpmkcaaDoorLabs
import Derived.Deep.RegionWith
import Derived.Test.YtjagnidkjpmkcaaDoorWalkB
namespace Go.Proofs.YtjagnidkjpmkcaaDoor
open Go.RowKit Go.Shelf

theorem info9 : (Tryd.prog.info? 9).map (fun i => (i.zero, i.size, i.bytes)) = some (some (.string ⟨#[]⟩), 1, 16) := by kernel_rfl

theorem refE_cases (ls : List En) : refE ls = 0 ∨ refE ls = 2 ∨ refE ls = 3 := by
  unfold refE
  split
  · exact .inr (.inr rfl)
  · split
    · exact .inl rfl
    · exact .inr (.inl rfl)
theorem refE_yes {ls : List En} (h : refE ls = 0) : ls.length ≤ 3999 ∧ ls.all okE = true := by
  unfold refE at h
  split at h
  · cases h
  · split at h
    · exact ⟨by omega, by assumption⟩
    · cases h

theorem Labels_no (v : Value) (ls : List En) (w : World) (hS : EnAt w v ls) (h : refE ls ≠ 0) :
    Calls Tryd.prog 12 #[v] w fun e w' => e = .returned (.tuple #[.slice none 0 0, .int .i64 (refE ls)]) ∧ Below w.heap.size w w' := by
  have hr := refuse_any v ls w hS
  have h0 : ¬ (0 = refE ls) := fun e => h e.symm
  generalize refE ls = r at h hr h0
  go_enter Tryd.func12, Tryd.ntmps12
  go_wp2_with (go_at_call 27; refine hr.mono ?_; rintro e w' ⟨rfl, hb⟩)
  go_ret2
  exact ⟨rfl, hb⟩

theorem made9 (n : Nat) : (madeCells (Value.string ⟨#[]⟩).cells (n * 1)).toList = strC (List.replicate n []) := by
  apply List.ext_getElem?
  intro j
  simp only [madeCells, strC, Nat.mul_one]
  by_cases h : j < n
  · simp [h, Value.cells, Nat.mod_one]
  · simp [h]

def zeroC : Obj := .cells #[.int .i64 0, .int .i64 0, .int .i64 0, .int .i64 0, .int .i64 0, .int .i64 0, .int .i64 0, .int .i64 0, .int .i64 0, .int .i64 0, .int .i64 0, .int .i64 0, .int .i64 0, .int .i64 0, .int .i64 0, .int .i64 0, .int .i64 0, .int .i64 0, .int .i64 0, .int .i64 0, .int .i64 0, .int .i64 0, .int .i64 0, .int .i64 0, .int .i64 0, .int .i64 0, .int .i64 0, .int .i64 0, .int .i64 0, .int .i64 0, .int .i64 0, .int .i64 0] 54

theorem zeroC_at {W : World} {b : Nat} (h : W.heap[b]? = some zeroC) : CAt W b [] := by
  refine ⟨_, h, rfl, fun q lv hq hlv => ?_⟩
  have : ∀ j : Fin 32, (#[.int .i64 0, .int .i64 0, .int .i64 0, .int .i64 0, .int .i64 0, .int .i64 0, .int .i64 0, .int .i64 0, .int .i64 0, .int .i64 0, .int .i64 0, .int .i64 0, .int .i64 0, .int .i64 0, .int .i64 0, .int .i64 0, .int .i64 0, .int .i64 0, .int .i64 0, .int .i64 0, .int .i64 0, .int .i64 0, .int .i64 0, .int .i64 0, .int .i64 0, .int .i64 0, .int .i64 0, .int .i64 0, .int .i64 0, .int .i64 0, .int .i64 0, .int .i64 0] : Array Value)[j.val]? = some (.int .i64 0) := by
    intro j
    rcases j with ⟨j, hj⟩
    simp only
    rw [Array.getElem?_eq_getElem (by simpa using hj)]
    have : ∀ x ∈ (#[.int .i64 0, .int .i64 0, .int .i64 0, .int .i64 0, .int .i64 0, .int .i64 0, .int .i64 0, .int .i64 0, .int .i64 0, .int .i64 0, .int .i64 0, .int .i64 0, .int .i64 0, .int .i64 0, .int .i64 0, .int .i64 0, .int .i64 0, .int .i64 0, .int .i64 0, .int .i64 0, .int .i64 0, .int .i64 0, .int .i64 0, .int .i64 0, .int .i64 0, .int .i64 0, .int .i64 0, .int .i64 0, .int .i64 0, .int .i64 0, .int .i64 0, .int .i64 0] : Array Value).toList, x = .int .i64 0 := by simp
    exact congrArg some (this _ (by simp))
  exact this ⟨q * 4 + lv, by omega⟩

theorem make_texts (n : Nat) (hn : n ≤ 3999) (W : World) : ∃ w2, (Instr.makeSlice 29 (.int .i64 n) (.int .i64 n)).run Tryd.prog W = .ok (.slice (some ⟨W.heap.size, 0, none⟩) n n) w2 ∧ w2.ownsRow W.heap.size 9 1 (.slice (some ⟨W.heap.size, 0, none⟩) n n) n (strC (List.replicate n [])) ∧ W.grownBy w2 none := by
  obtain ⟨i0, hi0, hz0, hz1, hz2⟩ := info_parts info9
  obtain ⟨w', hrun, r1, r2⟩ := run_make_full (P := Tryd.prog) W W.heap.size 29 9 i0 _ 1 Tryd.underlying29 hi0 hz0 hz1 .i64 .i64 n (by rw [hz2]; omega) (by unfold maxLen; omega) (Nat.le_refl _)
  rw [made9] at r1
  exact ⟨w', hrun, r1, r2⟩

set_option maxHeartbeats 4000000 in
set_option maxRecDepth 100000 in
theorem Labels_yes (v : Value) (ls : List En) (w : World) (hS : EnAt w v ls) (h : refE ls = 0) (ht : Tab w) :
    Calls Tryd.prog 12 #[v] w fun e w' => ∃ v', e = .returned (.tuple #[v', .int .i64 0]) ∧ w'.ownsRow w.heap.size 9 1 v' ls.length (strC (labs ls)) ∧ Below w.heap.size w w' := by
  have hr := refuse_any v ls w hS
  rw [h] at hr
  obtain ⟨hlen, hall⟩ := refE_yes h
  obtain ⟨a, cap, rfl, h2⟩ := hS.ex
  obtain ⟨n, hn⟩ : ∃ n, n = ls.length := ⟨_, rfl⟩
  rw [← hn] at hlen hr ⊢
  have HN : Hid (n = ls.length) := hn
  have hmake := make_texts n (by omega)
  have Hall : Hid (ls.all okE = true) := hall
  clear h hn hall
  go_enter Tryd.func12, Tryd.ntmps12
  go_wp2_with (go_at_call 27; refine hr.mono ?_; rintro e w1 ⟨rfl, hb1⟩; obtain ⟨w2, hmk, r1, r2⟩ := hmake (w1.alloc (.cells #[.int .i64 0, .int .i64 0, .int .i64 0, .int .i64 0, .int .i64 0, .int .i64 0, .int .i64 0, .int .i64 0, .int .i64 0, .int .i64 0, .int .i64 0, .int .i64 0, .int .i64 0, .int .i64 0, .int .i64 0, .int .i64 0, .int .i64 0, .int .i64 0, .int .i64 0, .int .i64 0, .int .i64 0, .int .i64 0, .int .i64 0, .int .i64 0, .int .i64 0, .int .i64 0, .int .i64 0, .int .i64 0, .int .i64 0, .int .i64 0, .int .i64 0, .int .i64 0] 54)))
  clear hmk hmake hr
  have hz : w2.heap[w1.heap.size]? = some zeroC := (r2.block _ (by simp) (by simp)).trans (heap_new w1 _)
  have hb2 : Below w1.heap.size w1 w2 := ((Below.refl _ w1).alloc (Nat.le_refl _) _).grown r2 (by simp) (fun k hk => by cases hk)
  have hs2 : w1.heap.size < w2.heap.size := (Array.getElem?_eq_some_iff.1 hz).1
  have hC0 := zeroC_at hz
  rw [World.size_alloc] at r1
  clear hz r2
  go_loopw [19] (fun i wr => ∃ k : Nat, k ≤ n ∧ i = .int .i64 k ∧ CAt wr w1.heap.size (ls.take k) ∧ wr.ownsRow (w1.heap.size + 1) 9 1 (.slice (some ⟨w1.heap.size + 1, 0, none⟩) n n) n (strC (begun ls k)) ∧ Below w1.heap.size w2 wr) (fun i _ => n - (RowKit.intOf i).toNat)
  case atStart => exact ⟨0, by omega, rfl, hC0, by rw [begun_zero, ← HN.out]; exact r1, Below.refl _ _⟩
  case round =>
    clear r1 hC0
    obtain ⟨k, hk, rfl, hC, hrow, hb⟩ := hrel
    by_cases hlt : k < n
    · have hltl : k < ls.length := by have := HN.out; omega
      have hkn : (k : Int) < n := by omega
      rcases h2 with h2 | ⟨b, o, rfl, hbl, hc⟩
      · rw [h2] at hltl; simp at hltl
      · obtain ⟨c0, c1⟩ := hc k hltl
        have hwr : Below w.heap.size w wr := (hb1.trans (hb2.mono hb1.size)).trans (hb.mono hb1.size)
        have d0 := (hwr.cell (p := ⟨b, o + k * 2, none⟩) hbl).trans c0
        have d1 := (hwr.cell (p := ⟨b, o + k * 2 + 1, none⟩) hbl).trans c1
        clear c0 c1 hc
        have hok := (okE_iff _).1 (List.all_eq_true.1 Hall.out ls[k] (List.getElem_mem hltl))
        have hX := heap_new wr (.cells #[.int .i64 ls[k].1, .int .i64 ls[k].2] 37)
        have hCX : CAt (wr.alloc (.cells #[.int .i64 ls[k].1, .int .i64 ls[k].2] 37)) w1.heap.size (ls.take k) := hC.same (Below.heap_alloc _ _ _ hC.lt)
        have hrX := hrow.alloc (.cells #[.int .i64 ls[k].1, .int .i64 ls[k].2] 37)
        have hbX := hb.alloc (by have := hb.size; omega) (.cells #[.int .i64 ls[k].1, .int .i64 ls[k].2] 37)
        by_cases hz : ls[k].1 = 0
        · have hsk := begun_skip ls hltl hz
          have hct : CAt (wr.alloc (.cells #[.int .i64 ls[k].1, .int .i64 ls[k].2] 37)) w1.heap.size (ls.take (k + 1)) := by
            obtain ⟨cur, q1, q2, q3⟩ := hCX.ex
            refine ⟨cur, q1, q2, fun q lv hq hlv => ?_⟩
            rw [cnt_take ls hltl, if_neg (by omega)]
            exact q3 q lv hq hlv
          rw [← hsk] at hrX
          have Hk : Hid (_ = _) := hsk
          clear hsk hC hrow hb hX hCX
          rw [hz] at d0 hct hrX hbX
          clear hz
          generalize ls[k].2 = y at *
          go_wp2_with fail
          go_roundw
          case rel => exact ⟨k + 1, by omega, by simp, hct, hrX, hbX⟩
          case measure => simp [RowKit.intOf]; omega
        · obtain ⟨q, hq⟩ : ∃ q : Nat, ls[k].1 = (q : Int) + 1 := ⟨(ls[k].1 - 1).toNat, by omega⟩
          obtain ⟨lv, hlv⟩ : ∃ lv : Nat, ls[k].2 = lv := ⟨ls[k].2.toNat, by omega⟩
          have hq8 : q < 8 := by omega
          have hlv4 : lv < 4 := by omega
          have hst : Hid (begun ls (k + 1) = (begun ls k).set k (labelN lv (cnt (ls.take (k + 1)) q lv))) := by
            show _ = _
            rw [begun_step ls hltl, lab_of ls hltl hq hlv]
          have hcn : cnt (ls.take (k + 1)) q lv ≤ 3999 := by have := cnt_le q (ls.take (k + 1)) lv; have := HN.out; rw [List.length_take] at *; omega
          have hCXd : CAt (wr.alloc (.cells #[.int .i64 ls[k].1, .int .i64 ls[k].2] 37)).drew w1.heap.size (ls.take k) := ⟨hCX.ex⟩
          have hA : Calls Tryd.prog 28 #[.pointer (some ⟨w1.heap.size, 0, none⟩), .agg #[.int .i64 ls[k].1, .int .i64 ls[k].2]] (wr.alloc (.cells #[.int .i64 ls[k].1, .int .i64 ls[k].2] 37)).drew fun e w' => e = .returned (.int .i64 (cnt (ls.take (k + 1)) q lv)) ∧ CAt w' w1.heap.size (ls.take (k + 1)) ∧ But w1.heap.size (.slice none 0 0) (wr.alloc (.cells #[.int .i64 ls[k].1, .int .i64 ls[k].2] 37)) w' :=
            (add_any w1.heap.size ls k hltl (by have := HN.out; omega) q lv hq8 hlv4 hq hlv _ hCXd).mono (by rintro e w' ⟨h1, h2, h3⟩; exact ⟨h1, h2, ⟨h3.os, h3.tape, h3.output, h3.size, h3.block⟩⟩)
          clear hCXd
          rw [hq, hlv] at hA hX hrX hbX hCX
          rw [hq] at d0
          rw [hlv] at d1
          have hnz : ¬ ((q : Int) + 1 = 0) := by omega
          generalize hcc : cnt (ls.take (k + 1)) q lv = c at hA hst hcn
          obtain ⟨WX, hWX⟩ : ∃ WX, wr.alloc (.cells #[.int .i64 ((q : Int) + 1), .int .i64 lv] 37) = WX := ⟨_, rfl⟩
          rw [hWX] at hA hX hrX hbX hCX
          have hXlt : wr.heap.size < WX.heap.size := (Array.getElem?_eq_some_iff.1 hX).1
          have hcb : w1.heap.size < wr.heap.size := hC.lt
          have hwX : Below w.heap.size w WX := by rw [← hWX]; exact hwr.alloc hwr.size _
          have hkX : ∀ w', But w1.heap.size (.slice none 0 0) WX w' → w'.heap[wr.heap.size]? = some (.cells #[.int .i64 ((q : Int) + 1), .int .i64 lv] 37 (0, 0)) := fun w' hbu => (hbu.block _ hXlt (by omega) (fun e => by cases e)).trans hX
          have hkR : ∀ w', But w1.heap.size (.slice none 0 0) WX w' → w'.ownsRow (w1.heap.size + 1) 9 1 (.slice (some ⟨w1.heap.size + 1, 0, none⟩) n n) n (strC (begun ls k)) := fun w' hbu => by
            refine ⟨hrX.1, ?_⟩
            rcases hrX.2 with hn | ⟨g, cap, cur, e1, e2, e3, r⟩
            · exact .inl hn
            · exact .inr ⟨g, cap, cur, e1, e2, (hbu.block g (Array.getElem?_eq_some_iff.1 e3).1 (by omega) (fun e => by cases e)).trans e3, r⟩
          have hkT : ∀ w', But w1.heap.size (.slice none 0 0) WX w' → Tab w' := fun w' hbu => by
            have e1 : Below w.heap.size w w' := hwX.trans ((hbu.belowB (by omega)).mono hb1.size)
            exact ht.below e1
          have x0 : WX.cell? ⟨wr.heap.size, 0, none⟩ = some (.int .i64 ((q : Int) + 1)) := by rw [Lib.cell_of_heap hX]; rfl
          have x1 : WX.cell? ⟨wr.heap.size, 1, none⟩ = some (.int .i64 lv) := by rw [Lib.cell_of_heap hX]; rfl
          have HQ : Hid (ls[k].1 = (q : Int) + 1) := hq
          have HL : Hid (ls[k].2 = lv) := hlv
          clear hq hlv hcc hz hok hC hrow hb hX hrX hCX
          generalize ls[k].1 = lx at *
          generalize ls[k].2 = ly at *
          go_wp2_with fail
          clear hWX
          have hlab : ∀ w', Tab w' → Calls Tryd.prog 23 #[.int .i64 lv, .int .i64 c] w' fun e w'' => e = .returned (.string ⟨(labelN lv c).toArray⟩) ∧ Below w'.heap.size w' w'' := fun w' hT => label_any lv c (by omega) hcn w' hT
          have hkX1 : ∀ w', But w1.heap.size (.slice none 0 0) WX w' → w'.cell? ⟨wr.heap.size, 1, none⟩ = some (.int .i64 lv) := fun w' hbu => by rw [Lib.cell_of_heap (hkX w' hbu)]; rfl
          have hrow3 : ∀ w' w'' : World, But w1.heap.size (.slice none 0 0) WX w' → Below w'.heap.size w' w'' → w''.ownsRow (w1.heap.size + 1) 9 1 (.slice (some ⟨w1.heap.size + 1, 0, none⟩) n n) n (strC (begun ls k)) := fun w' w'' q1 q2 => ownsRow_below (hkR w' q1) q2
          have hcell3 : ∀ w'' : World, w''.ownsRow (w1.heap.size + 1) 9 1 (.slice (some ⟨w1.heap.size + 1, 0, none⟩) n n) n (strC (begun ls k)) → (∃ u, w''.cell? ⟨w1.heap.size + 1, k, none⟩ = some u) ∧ w''.frozen? ⟨w1.heap.size + 1, k, none⟩ = false := fun w'' q => by
            rcases q.2 with ⟨e, _⟩ | ⟨g, cap, cur, e1, e2, e3, e4, e5, e6, e7⟩
            · cases e
            · cases e1
              refine ⟨?_, Lib.frozen_of_heap e3 k⟩
              rw [Lib.cell_of_heap e3, Array.getElem?_eq_getElem (by omega)]
              exact ⟨_, rfl⟩
          go_region_with (first
            | (go_at_call 28; refine hA.mono ?_; rintro e w' ⟨rfl, hC', hbu⟩; have y1 := hkX1 w' hbu)
            | (go_at_call 23; refine (hlab _ (hkT _ (by assumption))).mono ?_; rintro e w'' ⟨rfl, hbl3⟩; obtain ⟨⟨u, z1⟩, z2⟩ := hcell3 w'' (hrow3 _ _ (by assumption) hbl3)))
          all_goals
            have hcbw : w1.heap.size < w'.heap.size := hC'.lt
            have g1 : CAt (w''.setCell ⟨w1.heap.size + 1, k, none⟩ (.string ⟨(labelN lv c).toArray⟩)) w1.heap.size (ls.take (k + 1)) := hC'.same ((Below.heap_setCell _ ⟨w1.heap.size + 1, k, none⟩ _ _ (by show w1.heap.size ≠ w1.heap.size + 1; omega)).trans (hbl3.block _ hcbw))
            have g2 : (w''.setCell ⟨w1.heap.size + 1, k, none⟩ (.string ⟨(labelN lv c).toArray⟩)).ownsRow (w1.heap.size + 1) 9 1 (.slice (some ⟨w1.heap.size + 1, 0, none⟩) n n) n (strC (begun ls (k + 1))) := by
              rw [hst.out, ← strC_set]
              exact row9_set (hrow3 w' w'' hbu hbl3) k _
            have g3 : Below w1.heap.size w2 (w''.setCell ⟨w1.heap.size + 1, k, none⟩ (.string ⟨(labelN lv c).toArray⟩)) := ((hbX.trans (hbu.belowB (by omega))).trans (hbl3.mono (by omega))).setCell (p := ⟨w1.heap.size + 1, k, none⟩) (by show w1.heap.size ≤ w1.heap.size + 1; omega) _
            clear hA hkX hkR hkT hkX1 hrow3 hcell3 hlab hC' hbu hbl3 z1 z2
            go_wp2_with fail
            go_roundw
            case rel => exact ⟨k + 1, by omega, by simp, g1, g2, g3⟩
            case measure => simp [RowKit.intOf]; omega
    · obtain rfl : k = n := by omega
      have hfin : Hid (strC (begun ls k) = strC (labs ls)) := by show _ = _; rw [HN.out, begun_all]
      have hwr : Below w.heap.size w wr := (hb1.trans (hb2.mono hb1.size)).trans (hb.mono hb1.size)
      rw [hfin.out] at hrow
      go_wp2_with fail
      go_ret2
      exact ⟨_, rfl, ownsRow_base hrow (by have := hb1.size; omega), hwr⟩

end Go.Proofs.YtjagnidkjpmkcaaDoor
