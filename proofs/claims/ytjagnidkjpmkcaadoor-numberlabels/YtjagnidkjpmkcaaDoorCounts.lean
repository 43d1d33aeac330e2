/-
  What is proved here: what Counts tells of any paragraphs and any list.
-/
import Derived.Test.YtjagnidkjpmkcaaDoorSame
namespace Go.Proofs.YtjagnidkjpmkcaaDoor
open Go.RowKit Go.Shelf

theorem add_snoc (b : Nat) (l : List En) (x : En) (hlen : l.length ≤ 3999) (q lv : Nat) (hq : q < 8) (hlv : lv < 4) (h1 : x.1 = (q : Int) + 1) (h2 : x.2 = lv) (w : World) (h : CAt w b l) :
    Calls Tryd.prog 28 #[.pointer (some ⟨b, 0, none⟩), .agg #[.int .i64 x.1, .int .i64 x.2]] w fun e w' => e = .returned (.int .i64 (cnt (l ++ [x]) q lv)) ∧ CAt w' b (l ++ [x]) ∧ But b (.slice none 0 0) w w' := by
  have hi : l.length < (l ++ [x]).length := by simp
  have hx : (l ++ [x])[l.length]'hi = x := by simp
  have ht : (l ++ [x]).take l.length = l := by simp
  have ht1 : (l ++ [x]).take (l.length + 1) = l ++ [x] := List.take_of_length_le (by simp)
  have := add_any b (l ++ [x]) l.length hi (by simp; omega) q lv hq hlv (by rw [hx]; exact h1) (by rw [hx]; exact h2) w (by rw [ht]; exact h)
  rw [hx, ht1] at this
  exact this

/-- The paragraphs of a list. -/
def ofL (ls : List En) (li : Int) : List En := ls.filter fun x => x.1 == li
theorem ofL_nil (li : Int) : ofL [] li = [] := rfl
theorem ofL_len (ls : List En) (li : Int) : (ofL ls li).length ≤ ls.length := List.length_filter_le _ _
theorem ofL_take (ls : List En) (li : Int) {k : Nat} (h : k < ls.length) : ofL (ls.take (k + 1)) li = if ls[k].1 = li then ofL (ls.take k) li ++ [ls[k]] else ofL (ls.take k) li := by
  unfold ofL
  rw [List.take_succ_eq_append_getElem h, List.filter_append]
  by_cases e : ls[k].1 = li
  · rw [if_pos e]; simp [e]
  · rw [if_neg e]; simp [e]
theorem cnt_ofL (ls : List En) (q : Nat) : cnt (ofL ls ((q : Int) + 1)) q = cnt ls q := by
  unfold cnt ofL
  rw [List.foldl_filter]
  congr 1
  funext c x
  by_cases e : x.1 = (q : Int) + 1
  · simp [e]
  · simp [e]

/-- The four counts of a list. -/
def four (ls : List En) (q : Nat) : List Int := [(cnt ls q 0 : Int), cnt ls q 1, cnt ls q 2, cnt ls q 3]

theorem Counts_no (v : Value) (ls : List En) (li : Int) (w : World) (hS : EnAt w v ls) (h : refE ls ≠ 0) :
    Calls Tryd.prog 13 #[v, .int .i64 li] w fun e w' => e = .returned (.tuple #[.slice none 0 0, .int .i64 (refE ls)]) ∧ Below w.heap.size w w' := by
  have hr := refuse_any v ls w hS
  have h0 : ¬ (0 = refE ls) := fun e => h e.symm
  generalize refE ls = r at h hr h0
  go_enter Tryd.func13, Tryd.ntmps13
  go_wp2_with (go_at_call 27; refine hr.mono ?_; rintro e w' ⟨rfl, hb⟩)
  go_ret2
  exact ⟨rfl, hb⟩

theorem Counts_list (v : Value) (ls : List En) (li : Int) (w : World) (hS : EnAt w v ls) (h : refE ls = 0) (hl : li < 1 ∨ 8 < li) :
    Calls Tryd.prog 13 #[v, .int .i64 li] w fun e w' => e = .returned (.tuple #[.slice none 0 0, .int .i64 2]) ∧ Below w.heap.size w w' := by
  have hr := refuse_any v ls w hS
  rw [h] at hr
  by_cases h0 : li = 0
  · subst h0
    go_enter Tryd.func13, Tryd.ntmps13
    go_wp2_with (first | (go_at_call 27; refine hr.mono ?_; rintro e w' ⟨rfl, hb⟩) | (go_at_call 29; refine (isList_any _ _).mono ?_; rintro e w2 ⟨rfl, rfl⟩))
    go_ret2
    exact ⟨rfl, hb⟩
  · have hno : isLi li = false := by
      cases hx : isLi li with
      | false => rfl
      | true => simp [isLi] at hx; omega
    have hl' := isList_any li
    rw [hno] at hl'
    go_enter Tryd.func13, Tryd.ntmps13
    go_wp2_with (first | (go_at_call 27; refine hr.mono ?_; rintro e w' ⟨rfl, hb⟩) | (go_at_call 29; refine (hl' _).mono ?_; rintro e w2 ⟨rfl, rfl⟩))
    go_ret2
    exact ⟨rfl, hb⟩

set_option maxHeartbeats 4000000 in
set_option maxRecDepth 100000 in
theorem Counts_yes (v : Value) (ls : List En) (q : Nat) (hq : q < 8) (w : World) (hS : EnAt w v ls) (h : refE ls = 0) :
    Calls Tryd.prog 13 #[v, .int .i64 ((q : Int) + 1)] w fun e w' => ∃ v', e = .returned (.tuple #[v', .int .i64 0]) ∧ w'.ownsRow w.heap.size 3 1 v' 4 ((four ls q).map (Value.int .i64)) ∧ Below w.heap.size w w' := by
  have hr := refuse_any v ls w hS
  rw [h] at hr
  obtain ⟨hlen, hall⟩ := refE_yes h
  have hli : isLi ((q : Int) + 1) = true := by simp [isLi]; omega
  have hl' := isList_any ((q : Int) + 1)
  rw [hli] at hl'
  have hz0 : ¬ ((q : Int) + 1 = 0) := by omega
  obtain ⟨a, cap, rfl, h2⟩ := hS.ex
  obtain ⟨n, hn⟩ : ∃ n, n = ls.length := ⟨_, rfl⟩
  rw [← hn] at hlen hr ⊢
  have HN : Hid (n = ls.length) := hn
  have Hall : Hid (ls.all okE = true) := hall
  clear h hn hall hli
  go_enter Tryd.func13, Tryd.ntmps13
  go_wp2_with (first | (go_at_call 27; refine hr.mono ?_; rintro e w1 ⟨rfl, hb1⟩) | (go_at_call 29; refine (hl' _).mono ?_; rintro e w1' ⟨rfl, rfl⟩))
  rw [show ((q : Int) + 1 == 0) = false by simp; omega]
  change Code.wp _ _ _ _ (w1'.alloc zeroC)
  obtain ⟨w2, hw2⟩ : ∃ w2, w1'.alloc zeroC = w2 := ⟨_, rfl⟩
  have hz : w2.heap[w1'.heap.size]? = some zeroC := by rw [← hw2]; exact heap_new w1' _
  have hb2 : Below w1'.heap.size w1' w2 := by rw [← hw2]; exact (Below.refl _ w1').alloc (Nat.le_refl _) _
  have hs2 : w1'.heap.size < w2.heap.size := (Array.getElem?_eq_some_iff.1 hz).1
  have hC0 := zeroC_at hz
  rw [hw2]
  clear hz hw2 hr hl'
  go_loopw [24] (fun i wr => ∃ k : Nat, k ≤ n ∧ i = .int .i64 k ∧ CAt wr w1'.heap.size (ofL (ls.take k) ((q : Int) + 1)) ∧ Below w1'.heap.size w2 wr) (fun i _ => n - (RowKit.intOf i).toNat)
  case atStart => exact ⟨0, by omega, rfl, hC0, Below.refl _ _⟩
  case round =>
    clear hC0
    obtain ⟨k, hk, rfl, hC, hb⟩ := hrel
    have hwr : Below w.heap.size w wr := (hb1.trans (hb2.mono hb1.size)).trans (hb.mono hb1.size)
    by_cases hlt : k < n
    · have hltl : k < ls.length := by have := HN.out; omega
      have hkn : (k : Int) < n := by omega
      rcases h2 with h2 | ⟨b, o, rfl, hbl, hc⟩
      · rw [h2] at hltl; simp at hltl
      · obtain ⟨c0, c1⟩ := hc k hltl
        have d0 := (hwr.cell (p := ⟨b, o + k * 2, none⟩) hbl).trans c0
        have d1 := (hwr.cell (p := ⟨b, o + k * 2 + 1, none⟩) hbl).trans c1
        clear c0 c1 hc
        have hok := (okE_iff _).1 (List.all_eq_true.1 Hall.out ls[k] (List.getElem_mem hltl))
        have hCX : CAt (wr.alloc (.cells #[.int .i64 ls[k].1, .int .i64 ls[k].2] 37)) w1'.heap.size (ofL (ls.take k) ((q : Int) + 1)) := hC.same (Below.heap_alloc _ _ _ hC.lt)
        have hbX := hb.alloc (by have := hb.size; omega) (.cells #[.int .i64 ls[k].1, .int .i64 ls[k].2] 37)
        have htk := ofL_take ls ((q : Int) + 1) hltl
        by_cases hx : ls[k].1 = (q : Int) + 1
        · obtain ⟨lv, hlv⟩ : ∃ lv : Nat, ls[k].2 = lv := ⟨ls[k].2.toNat, by omega⟩
          have hA := add_snoc w1'.heap.size (ofL (ls.take k) ((q : Int) + 1)) ls[k] (by have := ofL_len (ls.take k) ((q : Int) + 1); have := HN.out; rw [List.length_take] at *; omega) q lv hq (by omega) hx hlv _ hCX
          rw [if_pos hx] at htk
          rw [← htk] at hA
          have Htk : Hid (_ = _) := htk
          clear htk hok hC hCX
          rw [hx] at d0 hA hbX
          have hcb : w1'.heap.size < (wr.alloc (.cells #[.int .i64 ((q : Int) + 1), .int .i64 ls[k].2] 37)).heap.size := by have := hb.size; simp; omega
          have hlq : ((q : Int) + 1) = (q : Int) + 1 := rfl
          clear hx hlv hlq
          generalize ls[k].2 = y at *
          go_wp2_with (go_at_call 28; refine hA.mono ?_; rintro e w' ⟨rfl, hC', hbu⟩)
          go_roundw
          case rel => exact ⟨k + 1, by omega, by simp, hC', hbX.trans (hbu.belowB hcb)⟩
          case measure => simp [RowKit.intOf]; omega
        · rw [if_neg hx] at htk
          rw [← htk] at hCX
          have Htk : Hid (_ = _) := htk
          clear htk hok hC
          have hxn : (ls[k].1 == (q : Int) + 1) = false := by simpa using hx
          generalize ls[k].1 = lx at *
          generalize ls[k].2 = y at *
          go_wp2_with fail
          go_roundw
          case rel => exact ⟨k + 1, by omega, by simp, hCX, hbX⟩
          case measure => simp [RowKit.intOf]; omega
    · obtain rfl : k = n := by omega
      rw [show ls.take k = ls by rw [HN.out, List.take_length]] at hC
      obtain ⟨cur, e1, e2, e3⟩ := hC.ex
      have e4 : ∀ lv, lv < 4 → wr.cell? ⟨w1'.heap.size, q * 4 + lv, none⟩ = some (.int .i64 (cnt ls q lv)) := fun lv hlv => by
        rw [Lib.cell_of_heap e1, e3 q lv hq hlv, cnt_ofL]
      have hcl := Tryd.slices_Clone_int w1'.heap.size (q * 4) 4 4 (four ls q) wr (by simp [four]) (by omega) (fun j hj => by
        have hj4 : j < 4 := by simpa [four] using hj
        rw [e4 j hj4]
        match j, hj4 with
        | 0, _ => rfl
        | 1, _ => rfl
        | 2, _ => rfl
        | 3, _ => rfl)
      have hq8 : (q : Int) < 8 := by omega
      clear e1 e2 e3 e4 hC
      go_wp2_with (go_at_call 30; refine hcl.mono ?_; rintro e w' ⟨v', rfl, q1, q2, q3⟩)
      go_ret2
      exact ⟨v', rfl, ownsRow_base q1 hwr.size, hwr.trans (q3.mono hwr.size)⟩

end Go.Proofs.YtjagnidkjpmkcaaDoor
