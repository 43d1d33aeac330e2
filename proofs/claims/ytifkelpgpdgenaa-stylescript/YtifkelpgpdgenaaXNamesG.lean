/-
  What is proved here: what Names of style answers of any sheet, to the last cell of the list's capacity (for StyleScript).
-/
import Derived.Test.YtifkelpgpdgenaaXSeq
import Derived.Test.YtifkelpgpdgenaaXNames
import Derived.Test.YtifkelpgpdgenaaXTold
namespace Go.Proofs.Ytifkelpgpdgenaa
open Go.RowKit Go.Shelf Go.Maps Go.Sort

variable {X : Nat → Prop}

set_option maxRecDepth 100000 in
set_option maxHeartbeats 2000000 in
theorem collect_fill {H : Type} (Bm b nn : Nat) (D0 : DataW H) (R : Value → Option (DataW H × List MemPlace)) (w : World) (hBm : Bm < w.heap.size) (hm : w.cell? ⟨Bm, 0, none⟩ = some (.map (some b))) (hown : w.ownsMap Try.prog 9 R b nn D0) (hmax : Maps.size D0 ≤ maxLen) (hbytes : Maps.size D0 * 16 ≤ 140737488355328) :
    Calls Try.prog 60 #[.func (.func 62) #[] #[.pointer (some ⟨Bm, 0, none⟩)]] w fun e w' => ∃ (v : Value) (ss : List (List UInt8)), e = .returned v ∧ ss.Perm (strKeys D0) ∧ w'.ownsRow w.heap.size 9 1 v ss.length (ss.map encStr) ∧ Fill w' v (ss.map encStr) ∧ Below w.heap.size w w' := by
  have ha := appendSeq_fill Bm b nn D0 R w hBm hm hown hmax hbytes
  clear hown hm
  go_enter Try.func60, Try.ntmps60
  go_wp2_with fail
  refine ha.mono ?_
  rintro e w1 ⟨v, ss, rfl, hp, hrow, hf, hb⟩
  have hfin : Hid (ss.Perm (strKeys D0) ∧ w1.ownsRow w.heap.size 9 1 v ss.length (ss.map encStr) ∧ Fill w1 v (ss.map encStr) ∧ Below w.heap.size w w1) := ⟨hp, hrow, hf, hb⟩
  obtain ⟨a2, cp2, rfl⟩ : ∃ a c, v = .slice a ss.length c := by
    rcases hrow.2 with ⟨rfl, hn⟩ | ⟨g, cap, cur, rfl, _⟩
    · exact ⟨none, 0, by rw [hn]⟩
    · exact ⟨_, _, rfl⟩
  clear hp hrow hf hb
  go_wp2_with fail
  go_ret
  exact ⟨_, ss, rfl, hfin.out⟩

theorem put_fill {d : Array (List UInt8)} {cur : Array Value} {u : Value} (h : u ∈ (putCells encStr 0 d cur).toList) : u ∈ cur.toList ∨ u ∈ d.toList.map encStr := by
  obtain ⟨k, hk, rfl⟩ := List.getElem_of_mem h
  have hk' : k < cur.size := by simpa [putCells] using hk
  by_cases hd : k < d.size
  · refine .inr (List.mem_map.2 ⟨d[k], by simp, ?_⟩)
    simp [putCells, hd]
  · refine .inl ?_
    simp [putCells, hd]

set_option maxRecDepth 100000 in
set_option maxHeartbeats 2000000 in
theorem sorted_fill {H : Type} (Bm b nn : Nat) (D0 : DataW H) (R : Value → Option (DataW H × List MemPlace)) (w : World) (hBm : Bm < w.heap.size) (hm : w.cell? ⟨Bm, 0, none⟩ = some (.map (some b))) (hown : w.ownsMap Try.prog 9 R b nn D0) (hmax : Maps.size D0 ≤ 1000) (hlenK : (strKeys D0).length ≤ 1000) :
    Calls Try.prog 51 #[.func (.func 62) #[] #[.pointer (some ⟨Bm, 0, none⟩)]] w fun e w' => ∃ (v : Value) (ss : List (List UInt8)), e = .returned v ∧ ss.Perm (strKeys D0) ∧ w'.ownsRow w.heap.size 9 1 v ss.length ((ss.mergeSort (fun x y => decide (x ≤ y))).map encStr) ∧ Fill w' v (ss.map encStr) ∧ Below w.heap.size w w' := by
  have ha := collect_fill Bm b nn D0 R w hBm hm hown (by unfold maxLen; omega) (by omega)
  have hs1 := fun blk off cap ss W h1 h2 h3 => (callsIn_wide (n := 5)).1 ((Try.sorts51 5).1 blk off cap ss W h1 h2 h3)
  have hs2 := fun p cap W => (callsIn_wide (n := 5)).1 ((Try.sorts51 5).2 p cap W)
  clear hown hm
  go_enter Try.func51, Try.ntmps51
  go_wp2_with fail
  refine ha.mono ?_
  rintro e w1 ⟨v, ss, rfl, hp, hrow, hf, hb⟩
  have hsl : ss.length ≤ 1000 := by rw [hp.length_eq]; exact hlenK
  rcases hrow.2 with ⟨rfl, hn⟩ | ⟨g, cap, cur, rfl, hbase, hgb, r1, r2, r3, r4⟩
  · have hss : ss = [] := List.eq_nil_of_length_eq_zero hn
    subst hss
    have hfin : Hid (List.Perm [] (strKeys D0) ∧ w1.ownsRow w.heap.size 9 1 (.slice none 0 0) 0 [] ∧ Fill w1 (.slice none 0 0) [] ∧ Below w.heap.size w w1) := ⟨hp, hrow, hf, hb⟩
    clear hp hrow hf hb
    go_wp2_with fail
    refine (hs2 none 0 w1).mono ?_
    rintro e w2 ⟨rfl, hww⟩
    subst w2
    go_wp2_with fail
    go_ret
    exact ⟨_, [], rfl, by simpa using hfin.out⟩
  · have hH : Holds encStr w1 g 0 ss.toArray := holds_of_block hgb (by simpa using r4)
    have hgl : g < w1.heap.size := (Array.getElem?_eq_some_iff.1 hgb).1
    have hs := hs1 g 0 cap ss w1 hH hgl (by omega)
    clear hs1 hs2 hH
    go_wp2_with fail
    refine hs.mono ?_
    rintro e w2 ⟨rfl, k, os, rfl⟩
    have hrow2 := ownsRow_sorted (n := k) (os := os) (ts := ss.mergeSort fun x y => decide (x ≤ y)) (by simp) hbase hgb r1 r2 r3
    have hb2 : Below w.heap.size w (grow (putRow encStr (Sort.ahead w1 k) g 0 (ss.mergeSort fun x y => decide (x ≤ y)).toArray) os) := hb.grown (grownBy_sorted _) hb.size (fun j hj => by cases hj; exact hbase)
    have hf2 : Fill (grow (putRow encStr (Sort.ahead w1 k) g 0 (ss.mergeSort fun x y => decide (x ≤ y)).toArray) os) (.slice (some ⟨g, 0, none⟩) ss.length cap) (ss.map encStr) := by
      intro g' n' cap' cur' e' hg' u hu
      cases e'
      rw [heap_sorted _ hgb] at hg'
      cases hg'
      rcases put_fill hu with hu | hu
      · exact hf g ss.length cap cur rfl hgb u hu
      · refine .inr ?_
        obtain ⟨y, hy, rfl⟩ := List.mem_map.1 hu
        exact List.mem_map.2 ⟨y, (List.mergeSort_perm ss (fun x y => decide (x ≤ y))).mem_iff.1 hy, rfl⟩
    generalize grow (putRow encStr (Sort.ahead w1 k) g 0 (ss.mergeSort fun x y => decide (x ≤ y)).toArray) os = w3 at *
    have hfin : Hid (ss.Perm (strKeys D0) ∧ w3.ownsRow w.heap.size 9 1 (.slice (some ⟨g, 0, none⟩) ss.length cap) ss.length ((ss.mergeSort (fun x y => decide (x ≤ y))).map encStr) ∧ Fill w3 (.slice (some ⟨g, 0, none⟩) ss.length cap) (ss.map encStr) ∧ Below w.heap.size w w3) := ⟨hp, hrow2, hf2, hb2⟩
    clear hs hp hrow2 hf2 hb2 hrow hf hb r4
    go_wp2_with fail
    go_ret
    exact ⟨_, ss, rfl, hfin.out⟩

set_option maxRecDepth 100000 in
set_option maxHeartbeats 2000000 in
theorem names_give (t b n : Nat) (S : Sh) (hWF : WF S) (w : World) (h : SheetAt X w t b n S) : Calls Try.prog 30 #[.pointer (some ⟨t, 0, none⟩)] w (NamesGive w S) := by
  obtain ⟨D, h1, h2, hl, hin, hall⟩ := keys_of h
  have hnd := keys_nodup h1
  have hfew := h.few
  have hk := (callsIn_wide (n := 5)).1 (Try.maps_Keys_52 (some b) w)
  have hA := (Below.refl w.heap.size w).alloc (Nat.le_refl _) (Obj.cells #[.map (some b)] 58)
  have hbl := h1.lt
  have h1' : (w.alloc (.cells #[.map (some b)] 58)).ownsMap Try.prog 9 R0 b n D := by
    obtain ⟨es, clock, hb, Ft, hs, hD⟩ := h1
    exact ⟨es, clock, (Below.heap_alloc _ _ b hbl).trans hb, Ft, hs, hD⟩
  have hs := sorted_fill w.heap.size b n D R0 (w.alloc (.cells #[.map (some b)] 58)) (by simp) (box_cell (World.alloc_heap_new w _)).1 h1' (by omega) (by omega)
  have hmade := made_yes t w h.cells.1
  obtain ⟨c0, c1⟩ := h.cells
  have hin' : Hid _ := hin
  have hall' : Hid _ := hall
  have hs' : Hid (Calls Try.prog 51 _ _ _) := hs
  replace hnd : Hid _ := hnd
  clear h1 h1' hin hall hs
  go_enter Try.func30, Try.ntmps30
  go_wp2_with (first
    | (go_at_call 37; refine hmade.mono ?_; rintro e w' ⟨rfl, hww⟩; subst w')
    | (go_at_call 52; refine hk.mono ?_; rintro e w' ⟨rfl, hww⟩; subst w'))
  refine hs'.out.mono ?_
  rintro e w2 ⟨v, ss, rfl, hp, hrow, hf, b2⟩
  have hfin : NamesGive w S (.returned v) w2 := by
    have hms : (ss.mergeSort (fun x y => decide (x ≤ y))).Perm ss := List.mergeSort_perm _ _
    have hlen : (ss.mergeSort (fun x y => decide (x ≤ y))).length = ss.length := hms.length_eq
    refine ⟨v, (ss.mergeSort (fun x y => decide (x ≤ y))).map (fun l => (⟨l.toArray⟩ : Str)), rfl, ?_, ?_, ?_, ?_, hA.trans (b2.mono hA.size)⟩
    · refine strs_of_row (base := w.heap.size) ?_
      rw [List.length_map, List.map_map, hlen]
      exact ownsRow_base hrow hA.size
    · rw [List.pairwise_map]
      refine (rises_of_sort (hp.nodup_iff.2 hnd.out)).imp fun {x y} hxy => ?_
      simpa [ltS] using hxy
    · intro s
      constructor
      · intro hsm
        obtain ⟨x, hx, rfl⟩ := List.mem_map.1 hsm
        exact hin'.out x (hp.mem_iff.1 (hms.mem_iff.1 hx))
      · intro hsm
        obtain ⟨x, hx⟩ := Option.isSome_iff_exists.1 hsm
        exact List.mem_map.2 ⟨s.data.toList, hms.mem_iff.2 (hp.mem_iff.2 (hall'.out s x hx)), by simp⟩
    · rcases hrow.2 with ⟨rfl, hn⟩ | ⟨g, cap, cur, rfl, hbase, hgb, r1, r2, r3, r4⟩
      · exact ⟨none, 0, 0, rfl, by unfold maxLen; omega, Nat.le_refl _, .inl rfl⟩
      · refine ⟨_, _, cap, rfl, r2, r1, .inr ⟨g, rfl, Nat.le_trans hA.size hbase, cur, hgb, by omega, fun i hi => ?_⟩⟩
        have hi' : i < cur.size := by omega
        have hu := hf g ss.length cap cur rfl hgb cur[i] (by simp)
        rw [Array.getElem?_eq_getElem hi']
        rcases hu with hu | hu
        · exact ⟨⟨#[]⟩, by rw [hu], Nat.zero_le _⟩
        · obtain ⟨y, hy, e⟩ := List.mem_map.1 hu
          obtain ⟨z, hz⟩ := Option.isSome_iff_exists.1 (hin'.out y (hp.mem_iff.1 hy))
          have := nameB_pos (hWF.name _ _ hz)
          exact ⟨⟨y.toArray⟩, by rw [← e], this.2⟩
  obtain ⟨a2, cp2, rfl⟩ : ∃ a c, v = .slice a ss.length c := by
    rcases hrow.2 with ⟨rfl, hn⟩ | ⟨g, cap, cur, rfl, _⟩
    · exact ⟨none, 0, by rw [hn]⟩
    · exact ⟨_, _, rfl⟩
  clear hrow hp b2 hf
  go_wp2_with fail
  go_ret
  exact hfin
end Go.Proofs.Ytifkelpgpdgenaa
