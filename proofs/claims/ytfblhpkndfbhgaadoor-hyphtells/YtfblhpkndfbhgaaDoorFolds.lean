/-
  What is proved here: what HyphFolds answers of any patterns, exceptions, word and number.
-/
import Derived.Test.YtfblhpkndfbhgaaDoorFoldM
namespace Go.Proofs.YtfblhpkndfbhgaaDoor
open Go.RowKit Go.Shelf

def strs (ss : List ByteArray) : List Value := ss.map Value.string
theorem tx_of_row {W : World} {base : Nat} {v : Value} {ss : List ByteArray} (h : W.ownsRow base 9 1 v ss.length (strs ss)) : TxAt W v ss :=
  rec_of_row (k := 1) (f := fun s : ByteArray => [Value.string s]) (fun _ => rfl) (base := base) (e := 9) (n := ss.length) rfl (by rw [flat_one]; exact h)
theorem tx_below {W W' : World} {v : Value} {ss : List ByteArray} {n : Nat} (h : TxAt W v ss) (hb : Below n W W') (hn : W.heap.size ≤ n) : TxAt W' v ss := h.below hb hn

/-- The number ahead of the j-th, 1 ahead of the first. -/
def lastI (d : List Int) (j : Nat) : Int := if j = 0 then 1 else d.getD (j - 1) 0
theorem lastI_succ {d : List Int} {j : Nat} (h : j < d.length) : lastI d (j + 1) = d[j]'h := by
  unfold lastI
  rw [if_neg (by omega), Nat.add_sub_cancel, List.getD_eq_getElem?_getD, List.getElem?_eq_getElem h]; rfl
theorem rise_last {d : List Int} {n : Nat} (h : Rise d n) : ∀ j, j ≤ d.length → 1 ≤ lastI d j ∧ ∀ hj : j < d.length, lastI d j < d[j]'hj := by
  have hs : ∀ j (hj : j < d.length), lastI d j < d[j]'hj := fun j hj => by
    have r1 := (h j hj).1
    unfold lastI
    by_cases h0 : j = 0
    · rw [dif_pos h0] at r1; rw [if_pos h0]; exact r1
    · rw [dif_neg h0] at r1
      rw [if_neg h0, List.getD_eq_getElem?_getD, List.getElem?_eq_getElem (by omega)]; exact r1
  intro j
  induction j with
  | zero => exact fun _ => ⟨by unfold lastI; simp, hs 0⟩
  | succ j ih =>
    intro hj
    refine ⟨?_, hs (j + 1)⟩
    rw [lastI_succ (show j < d.length by omega)]
    have := (ih (by omega)).1
    have := hs j (by omega)
    omega
set_option maxRecDepth 100000 in
set_option maxHeartbeats 4000000 in
theorem folds_any (v1 : Value) (ps : List ByteArray) (v2 : Value) (xs : List ByteArray) (s : ByteArray) (hs : s.size ≤ maxLen) (b : Int) (w : World) (ht : Tab w) (t1 : TxAt w v1 ps) (t2 : TxAt w v2 xs) :
    Calls Tryd.prog 6 #[v1, v2, .string s, .int .u64 b] w fun e w' => e = .returned (.bool true) ∧ Below w.heap.size w w' := by
  obtain ⟨i9, hi⟩ := Option.isSome_iff_exists.1 (show (Tryd.prog.info? 9).isSome = true by kernel_rfl)
  have hz0 : i9.zero = some (.string ⟨#[]⟩) := by
    have h : (Tryd.prog.info? 9).map (·.zero) = some (some (.string ⟨#[]⟩)) := by kernel_rfl
    rw [hi] at h; simpa using h
  have hz1 : i9.size = 1 := by
    have h : (Tryd.prog.info? 9).map (·.size) = some 1 := by kernel_rfl
    rw [hi] at h; simpa using h
  have hz2 : i9.bytes = 16 := by
    have h : (Tryd.prog.info? 9).map (·.bytes) = some 16 := by kernel_rfl
    rw [hi] at h; simpa using h
  have hK := known_any w ht
  have hL1 : Hid (∀ W, Below w.heap.size w W → Calls Tryd.prog 8 #[v1] W fun e w' => e = .returned (.bool (longB ps)) ∧ w' = W) := fun W hb => long_any v1 ps W (t1.below hb (Nat.le_refl _))
  have hL2 : Hid (∀ W, Below w.heap.size w W → Calls Tryd.prog 8 #[v2] W fun e w' => e = .returned (.bool (longB xs)) ∧ w' = W) := fun W hb => long_any v2 xs W (t2.below hb (Nat.le_refl _))
  have T1 : Hid (∀ W, Below w.heap.size w W → TxAt W v1 ps) := fun W hb => t1.below hb (Nat.le_refl _)
  have T2 : Hid (∀ W, Below w.heap.size w W → TxAt W v2 xs) := fun W hb => t2.below hb (Nat.le_refl _)
  obtain ⟨a1, c1, rfl, -⟩ := t1.ex
  obtain ⟨a2, c2, rfl, -⟩ := t2.ex
  clear t1 t2
  cases hl1 : longB ps with
  | true =>
    rw [hl1] at hL1
    go_enter Tryd.func6, Tryd.ntmps6
    go_wp2_with (first | (go_at_call 5; refine hK.mono ?_; rintro e w0 ⟨rfl, hb0⟩) | (go_at_call 8; refine (hL1.out _ hb0).mono ?_; rintro e w' ⟨rfl, hww⟩; subst w'))
    go_ret
    exact ⟨rfl, hb0⟩
  | false =>
    rw [hl1] at hL1
    cases hl2 : longB xs with
    | true =>
      rw [hl2] at hL2
      go_enter Tryd.func6, Tryd.ntmps6
      go_wp2_with (first | (go_at_call 5; refine hK.mono ?_; rintro e w0 ⟨rfl, hb0⟩) | (go_at_call 8; first | (with_reducible refine (hL1.out _ hb0).mono ?_; rintro e w' ⟨rfl, hww⟩; subst w') | (with_reducible refine (hL2.out _ hb0).mono ?_; rintro e w' ⟨rfl, hww⟩; subst w')))
      go_ret
      exact ⟨rfl, hb0⟩
    | false =>
      rw [hl2] at hL2
      obtain ⟨hpl, hps⟩ := long_no hl1
      obtain ⟨hxl, hxs⟩ := long_no hl2
      go_enter Tryd.func6, Tryd.ntmps6
      go_wp2_with (first | (go_at_call 5; refine hK.mono ?_; rintro e w0 ⟨rfl, hb0⟩) | (go_at_call 8; first | (with_reducible refine (hL1.out _ hb0).mono ?_; rintro e w' ⟨rfl, hww⟩; subst w') | (with_reducible refine (hL2.out _ hb0).mono ?_; rintro e w' ⟨rfl, hww⟩; subst w')))
      have hw0s := hb0.size
      go_loopw [10, 11] (fun a i wr => ∃ (k : Nat), k ≤ ps.length ∧ i = .int .i64 ((k : Int) - 1) ∧ Below w.heap.size w wr ∧ w0.heap.size ≤ wr.heap.size ∧ Hid (wr.ownsRow w0.heap.size 9 1 a (ps.drop k).reverse.length (strs (ps.drop k).reverse))) (fun _ i _ => (intOf i + 1).toNat)
      case atStart => exact ⟨ps.length, Nat.le_refl _, rfl, hb0, Nat.le_refl _, by rw [List.drop_of_length_le (Nat.le_refl _)]; exact World.ownsRow_nil _ _ _ _⟩
      case round =>
        obtain ⟨k, hk, rfl, hbl, hsz, hrow⟩ := hrel
        by_cases h0 : k = 0
        · subst h0
          obtain ⟨wb, rfl⟩ : ∃ wb, wb = wr := ⟨_, rfl⟩
          rw [List.drop_zero] at hrow
          obtain ⟨a3, c3, hv3⟩ := row_val hrow.out
          subst hv3
          have T3 : Hid (TxAt wb (.slice a3 ps.reverse.length c3) ps.reverse) := tx_of_row hrow.out
          have hN1 : Hid (Calls Tryd.prog 10 #[.slice a1 ps.length c1, .slice a2 xs.length c2] wb fun e w' => Below wb.heap.size wb w' ∧ ((newI (ps.map bs) (xs.map bs) ≠ 0 ∧ e = .returned (.tuple #[.pointer none, .int .i64 (newI (ps.map bs) (xs.map bs))])) ∨
              (newI (ps.map bs) (xs.map bs) = 0 ∧ (ps.map bs).all patB = true ∧ ∃ hb N em M V, e = .returned (.tuple #[.pointer (some ⟨hb, 0, none⟩), .int .i64 0]) ∧ HyphAt w' wb.heap.size hb (trie (ps.map bs)) (exE (xs.map bs)) N em M V))) := new_any _ _ ps xs wb (T1.out _ hbl) (T2.out _ hbl) (by omega) (by omega) hxs
          have hN2 : Hid (∀ W, Below wb.heap.size wb W → Calls Tryd.prog 10 #[.slice a3 ps.reverse.length c3, .slice a2 xs.length c2] W fun e w' => Below W.heap.size W w' ∧ ((newI (ps.map bs) (xs.map bs) ≠ 0 ∧ e = .returned (.tuple #[.pointer none, .int .i64 (newI (ps.map bs) (xs.map bs))])) ∨
              (newI (ps.map bs) (xs.map bs) = 0 ∧ (ps.map bs).all patB = true ∧ ∃ hb N em M V, e = .returned (.tuple #[.pointer (some ⟨hb, 0, none⟩), .int .i64 0]) ∧ HyphAt w' W.heap.size hb (trie (ps.map bs).reverse) (exE (xs.map bs)) N em M V))) := fun W hb => by
            have := new_any _ _ ps.reverse xs W (T3.out.below hb (Nat.le_refl _)) (T2.out _ (hbl.trans (hb.mono hbl.size))) (by simpa using (by omega : ps.length ≤ 1000)) (by omega) hxs
            rw [List.map_reverse, newI_reverse, List.all_reverse] at this
            exact this
          generalize hn3 : ps.reverse.length = n3 at *
          generalize hnI : newI (ps.map bs) (xs.map bs) = nI at *
          have f0 : ¬ (0 : Int) ≤ ((0 : Nat) : Int) - 1 := by omega
          by_cases hn0 : nI = 0
          · have hQ1 : Hid (Calls Tryd.prog 10 #[.slice a1 ps.length c1, .slice a2 xs.length c2] wb fun e w' => ∃ hb N em M V, e = .returned (.tuple #[.pointer (some ⟨hb, 0, none⟩), .int .i64 0]) ∧ Below wb.heap.size wb w' ∧ (ps.map bs).all patB = true ∧ HyphAt w' wb.heap.size hb (trie (ps.map bs)) (exE (xs.map bs)) N em M V) := by
              refine hN1.out.mono ?_
              rintro e w' ⟨q1, q2 | ⟨_, q3, hb, N, em, M, V, q4, q5⟩⟩
              · exact absurd hn0 q2.1
              · exact ⟨hb, N, em, M, V, q4, q1, q3, q5⟩
            have hQ2 : Hid (∀ W, Below wb.heap.size wb W → Calls Tryd.prog 10 #[.slice a3 n3 c3, .slice a2 xs.length c2] W fun e w' => ∃ hb N em M V, e = .returned (.tuple #[.pointer (some ⟨hb, 0, none⟩), .int .i64 0]) ∧ Below W.heap.size W w' ∧ HyphAt w' W.heap.size hb (trie (ps.map bs).reverse) (exE (xs.map bs)) N em M V) := fun W hbW => by
              refine (hN2.out W hbW).mono ?_
              rintro e w' ⟨q1, q2 | ⟨_, q3, hb, N, em, M, V, q4, q5⟩⟩
              · exact absurd hn0 q2.1
              · exact ⟨hb, N, em, M, V, q4, q1, q5⟩
            have hnil : Hid (∀ b (w' : World), (binOp .eql 25 (.pointer (some ⟨b, 0, none⟩)) (.pointer none)).run Tryd.prog w' = .ok (.bool false) w') := fun b w' => run_eql_ptr_nil' w' ⟨b, 0, none⟩ Tryd.underlying25
            obtain ⟨d, hd⟩ : ∃ d, ptV (ps.map bs) (xs.map bs) (bs s) = d := ⟨_, rfl⟩
            obtain ⟨pe, hpe⟩ : ∃ pe, ptE (bs s) = pe := ⟨_, rfl⟩
            have hdl : Hid (d.length ≤ 1000000 → True) := fun _ => trivial
            have hP1 : Hid (∀ W base hb N em M V, (ps.map bs).all patB = true → HyphAt W base hb (trie (ps.map bs)) (exE (xs.map bs)) N em M V → Calls Tryd.prog 14 #[.pointer (some ⟨hb, 0, none⟩), .string s] W fun e w' => ∃ v, e = .returned (.tuple #[v, .int .i64 pe]) ∧ Below W.heap.size W w' ∧ w'.ownsRow W.heap.size 3 1 v d.length (ints d)) := fun W base hb N em M V hg hH => by
              have := points_any hH s
              rw [ptR_val hg, hd, hpe] at this
              exact this
            have hT : Hid (∀ W, Calls Tryd.prog 23 #[.string s, .int .u64 b] W fun e w' => ∃ q : ByteArray, e = .returned (.string q) ∧ Alike (bs q) (bs s) ∧ Below W.heap.size W w') := fun W => turned_any s hs b W
            have hP2 : Hid (∀ q W base hb N em M V, Alike (bs q) (bs s) → (ps.map bs).all patB = true → HyphAt W base hb (trie (ps.map bs).reverse) (exE (xs.map bs)) N em M V → Calls Tryd.prog 14 #[.pointer (some ⟨hb, 0, none⟩), .string q] W fun e w' => ∃ v, e = .returned (.tuple #[v, .int .i64 pe]) ∧ Below W.heap.size W w' ∧ w'.ownsRow W.heap.size 3 1 v d.length (ints d)) := fun q W base hb N em M V hA hg hH => by
              have := points_any hH q
              rw [ptR_val (by rw [List.all_reverse]; exact hg), ptV_reverse, ptV_alike hA, hd, ptE_alike hA, hpe] at this
              exact this
            have hLo : Hid (∀ W, Calls Tryd.prog 24 #[.string s] W fun e w' => e = .returned (.tuple #[.string (lowV (bs s)), .bool (wordB (bs s))]) ∧ Below W.heap.size W w') := fun W => lower_any s hs W
            have hBa : Hid (∀ x ∈ xs, ∀ W, Calls Tryd.prog 25 #[.string x] W fun e w' => e = .returned (.string ⟨(bare (bs x)).toArray⟩) ∧ w' = W) := fun x hx W => bare_any x (by have := hxs x hx; omega) W
            have hRise : Hid ((wordB (bs s) = true → ∀ x ∈ xs.map bs, bare x ≠ low (bs s)) → Rise d s.size) := fun h => by
              rw [← hd, ← size_ba]; exact ptV_rise h
            have hdlen : d.length ≤ 1000000 := by
              rw [← hd]
              refine Nat.le_trans (ptV_len fun x hx => ?_) (by omega)
              obtain ⟨y, hy, rfl⟩ := List.mem_map.1 hx
              rw [size_ba]; exact hxs y hy
            have hS : Hid (∀ va vb W3 W4 W5 (base base' : Nat), W3.ownsRow base 3 1 va d.length (ints d) → Below W3.heap.size W3 W4 → Below W4.heap.size W4 W5 → W5.ownsRow base' 3 1 vb d.length (ints d) → Calls Tryd.prog 16 #[va, vb] W5 fun e w' => e = .returned (.bool true) ∧ Below W5.heap.size W5 w') := fun va vb W3 W4 W5 base base' h1 h2 h3 h4 => by
              have := same_any va vb d d W5 (((ints_of_row h1).below h2 (Nat.le_refl _)).below h3 (Nat.le_refl _)) (ints_of_row h4) hdlen
              rwa [decide_eq_true rfl] at this
            have hIa : Hid (∀ va W3 W7 (base : Nat), W3.ownsRow base 3 1 va d.length (ints d) → Below W3.heap.size W3 W7 → IntsAt W7 va d) := fun va W3 W7 base h1 h2 => (ints_of_row h1).below h2 (Nat.le_refl _)
            clear hN1 hN2 hL1 hL2 hrow T3 hdl hd hpe
            generalize hdn : d.length = dn at *
            go_wp2_with (first | (go_at_call 10; first | (with_reducible refine hQ1.out.mono ?_; rintro e w1 ⟨h1b, N1, em1, M1, V1, rfl, hb1, hg, H1⟩; have hn1 := hnil.out h1b) | (with_reducible refine (hQ2.out _ hb1).mono ?_; rintro e w2 ⟨h2b, N2, em2, M2, V2, rfl, hb2, H2⟩; have hn2 := hnil.out h2b)) |
              (go_at_call 14; first | (with_reducible refine (hP1.out _ _ _ _ _ _ _ hg (H1.below hb2)).mono ?_; rintro e w3 ⟨va, rfl, hb3, hra⟩; obtain ⟨aa, ca, rfl⟩ := row_val hra) | (with_reducible refine (hP2.out _ _ _ _ _ _ _ _ hAl hg ((H2.below hb3).below hb4)).mono ?_; rintro e w5 ⟨vb, rfl, hb5, hrb⟩; obtain ⟨ab, cb, rfl⟩ := row_val hrb)) |
              (go_at_call 23; refine (hT.out _).mono ?_; rintro e w4 ⟨q, rfl, hAl, hb4⟩) |
              (go_at_call 16; refine (hS.out _ _ _ _ _ _ _ hra hb4 hb5 hrb).mono ?_; rintro e w6 ⟨rfl, hb6⟩) |
              (go_at_call 24; refine (hLo.out _).mono ?_; rintro e w7 ⟨rfl, hb7⟩))
            have hbz : Below w.heap.size w w7 := by
              have c1 := hbl.trans (hb1.mono hbl.size)
              have c2 := c1.trans (hb2.mono c1.size)
              have c3 := c2.trans (hb3.mono c2.size)
              have c4 := c3.trans (hb4.mono c3.size)
              have c5 := c4.trans (hb5.mono c4.size)
              have c6 := c5.trans (hb6.mono c5.size)
              exact c6.trans (hb7.mono c6.size)
            have hb37 : Below w3.heap.size w3 w7 := by
              have c5 := hb4.trans (hb5.mono hb4.size)
              have c6 := c5.trans (hb6.mono c5.size)
              exact c6.trans (hb7.mono c6.size)
            have hIa7 : Hid (IntsAt w7 (.slice aa dn ca) d) := hIa.out _ _ _ _ hra hb37
            have hlv : Hid (wordB (bs s) = true → lowV (bs s) = ⟨(low (bs s)).toArray⟩) := fun h => by
              show _ = _
              unfold lowV
              rw [if_pos (by rw [List.all_eq_true]; exact (wordB_parts h).2.2)]
            generalize lowV (bs s) = lv at *
            generalize wordB (bs s) = r at *
            clear hb1 hb2 hb3 hb4 hb5 hb6 hb7 hra hrb H1 H2 hAl hQ1 hQ2 hP1 hP2 hT hLo hS hIa hb37 hn1 hn2 hnil hK
            go_loopw [22] (fun i wr => ∃ k : Nat, k ≤ xs.length ∧ i = .int .i64 k ∧ wr = w7 ∧ Hid (r = true → ∀ (j : Nat) (h : j < xs.length), j < k → bare (bs (xs[j]'h)) ≠ low (bs s))) (fun i _ => xs.length - (intOf i).toNat)
            case atStart => exact ⟨0, by omega, rfl, rfl, fun _ j _ hj => by omega⟩
            case round =>
              obtain ⟨k, hk, rfl, rfl, hall⟩ := hrel
              by_cases hgo : r = true ∧ k < xs.length
              · obtain ⟨hrt, hlt⟩ := hgo
                obtain ⟨b0, o0, hab, cj⟩ := tx_cell (T2.out _ hbz) hlt
                subst hab hrt
                have hlv' := hlv.out rfl
                have hB := hBa.out _ (List.getElem_mem hlt) wr
                have hkl : (k : Int) < xs.length := by omega
                by_cases he : bare (bs (xs[k]'hlt)) = low (bs s)
                · rw [he, ← hlv'] at hB
                  generalize xs[k]'hlt = x at *
                  clear hall hlv' hlv hRise
                  go_wp2_with (go_at_call 25; refine hB.mono ?_; rintro e w' ⟨rfl, hww⟩; subst w')
                  go_ret
                  exact ⟨rfl, hbz⟩
                · have hall2 : Hid (true = true → ∀ (j : Nat) (h : j < xs.length), j < k + 1 → bare (bs (xs[j]'h)) ≠ low (bs s)) := fun hr j h hj => by
                    by_cases hh : j < k
                    · exact hall.out hr j h hh
                    · obtain rfl : j = k := by omega
                      exact he
                  obtain ⟨q2, hq2⟩ : ∃ q2 : ByteArray, (⟨(bare (bs (xs[k]'hlt))).toArray⟩ : ByteArray) = q2 := ⟨_, rfl⟩
                  have hne : q2 ≠ lv := fun e => by
                    rw [hlv', ← hq2] at e
                    exact he (by have := congrArg bs e; exact this)
                  rw [hq2] at hB
                  generalize xs[k]'hlt = x at *
                  have hneq : (ByteArray.toList q2 == ByteArray.toList lv) = false := by
                    rw [beq_eq_false_iff_ne, ByteArray.toList_eq, ByteArray.toList_eq]
                    intro e
                    exact hne (by rw [ba_eq (a := q2) rfl, e, ← ba_eq (a := lv) rfl])
                  clear hall hlv' hlv hRise he hq2
                  go_wp2_with (go_at_call 25; refine hB.mono ?_; rintro e w' ⟨rfl, hww⟩; subst w')
                  go_roundw
                  case rel => exact ⟨k + 1, by omega, by simp, by first | rfl | trivial, hall2⟩
                  case measure => simp [intOf]; omega
              · obtain ⟨w7, rfl⟩ : ∃ w7, w7 = wr := ⟨_, rfl⟩
                have hR := hRise.out (fun hr x hx => by
                  obtain ⟨y, hy, rfl⟩ := List.mem_map.1 hx
                  obtain ⟨j, hj, rfl⟩ := List.getElem_of_mem hy
                  exact hall.out hr j hj (by
                    have : ¬ k < xs.length := fun h => hgo ⟨hr, h⟩
                    omega))
                have hRj : Hid (∀ (j : Nat) (h : j < d.length), 1 ≤ lastI d j ∧ lastI d j < d[j]'h ∧ d[j]'h + 3 ≤ s.size ∧ lastI d (j + 1) = d[j]'h) := fun j h => ⟨(rise_last hR j (by omega)).1, (rise_last hR j (by omega)).2 h, (hR j h).2, lastI_succ h⟩
                have hgf : r = false ∨ (r = true ∧ ¬ (k : Int) < xs.length) := by
                  cases r with
                  | false => exact .inl rfl
                  | true => exact .inr ⟨rfl, fun h => hgo ⟨rfl, by omega⟩⟩
                unfold maxLen at hs
                clear hall hR hgo hlv hRise hBa
                rcases hgf with rfl | ⟨rfl, hkx⟩
                all_goals
                  go_wp2_with fail
                  go_loopw [23, 24] (fun l i wr2 => ∃ j : Nat, j ≤ dn ∧ i = .int .i64 j ∧ l = .int .i64 (lastI d j) ∧ wr2 = w7) (fun _ i _ => dn - (intOf i).toNat)
                  case atStart => exact ⟨0, by omega, rfl, rfl, rfl⟩
                  case round =>
                    obtain ⟨j, hj, rfl, rfl, rfl⟩ := hrel
                    by_cases hjl : j < dn
                    · have hjd : j < d.length := by omega
                      obtain ⟨r0, r1, r2, r3⟩ := hRj.out j hjd
                      obtain ⟨b0, o0, hab, cj⟩ := int_cell hIa7.out hjd
                      subst hab
                      have hkl : (j : Int) < dn := by omega
                      rw [← r3] at r1 r2 cj
                      generalize hla : lastI d j = la at *
                      generalize hlb : lastI d (j + 1) = lb at *
                      have hlbh : Hid (lastI d (j + 1) = lb) := hlb
                      have u1 : ¬ lb ≤ la := by omega
                      have u2 : ¬ (s.size : Int) < lb + 3 := by omega
                      clear hRj r3 hla hlb hdn
                      go_wp2_with fail
                      go_roundw
                      case rel => exact ⟨j + 1, by omega, by simp, by rw [hlbh.out], by first | rfl | trivial⟩
                      case measure => simp [intOf]; omega
                    · have hkl : ¬ (j : Int) < dn := by omega
                      clear hRj
                      go_wp2_with fail
                      go_ret
                      exact ⟨rfl, hbz⟩
          · have hQ1 : Hid (Calls Tryd.prog 10 #[.slice a1 ps.length c1, .slice a2 xs.length c2] wb fun e w' => e = .returned (.tuple #[.pointer none, .int .i64 nI]) ∧ Below wb.heap.size wb w') := by
              refine hN1.out.mono ?_
              rintro e w' ⟨q1, q2 | ⟨q3, _⟩⟩
              · exact ⟨q2.2, q1⟩
              · exact absurd q3 hn0
            have hQ2 : Hid (∀ W, Below wb.heap.size wb W → Calls Tryd.prog 10 #[.slice a3 n3 c3, .slice a2 xs.length c2] W fun e w' => e = .returned (.tuple #[.pointer none, .int .i64 nI]) ∧ Below W.heap.size W w') := fun W hbW => by
              refine (hN2.out W hbW).mono ?_
              rintro e w' ⟨q1, q2 | ⟨q3, _⟩⟩
              · exact ⟨q2.2, q1⟩
              · exact absurd q3 hn0
            have g1 : (nI == 0) = false := by simpa using hn0
            clear hN1 hN2 hL1 hL2 hrow T3
            go_wp2_with (go_at_call 10; first | (with_reducible refine hQ1.out.mono ?_; rintro e w1 ⟨rfl, hb1⟩) | (with_reducible refine (hQ2.out _ hb1).mono ?_; rintro e w2 ⟨rfl, hb2⟩))
            go_ret
            refine ⟨?_, hbl.trans ((hb1.trans (hb2.mono hb1.size)).mono hbl.size)⟩
            show Ending.returned (Value.bool (nI != 0)) = _
            rw [bne, g1]; rfl
        · obtain ⟨j, hj⟩ : ∃ j, k = j + 1 := ⟨k - 1, by omega⟩
          have hjk : (k : Int) - 1 = j := by omega
          have hjl : j < ps.length := by omega
          obtain ⟨b0, o0, hab, cj⟩ := tx_cell (T1.out _ hbl) hjl
          subst hab
          obtain ⟨a3, c3, hv3⟩ := row_val hrow.out
          subst hv3
          have hdr : (ps.drop j).reverse = (ps.drop k).reverse ++ [ps[j]'hjl] := by rw [hj, List.drop_eq_getElem_cons hjl, List.reverse_cons]
          have hlen : (ps.drop k).reverse.length ≤ 300 := by simp; omega
          have hnext : Hid (∀ v' w2, w2.ownsRow w0.heap.size 9 1 v' ((ps.drop k).reverse.length + 1) (strs (ps.drop k).reverse ++ [.string (ps[j]'hjl)]) → (wr.alloc (.cells #[.string (ps[j]'hjl)] 9)).grownBy w2 (Value.slice a3 (ps.drop k).reverse.length c3).ownBlock → Below w.heap.size w w2 ∧ w0.heap.size ≤ w2.heap.size ∧ Hid (w2.ownsRow w0.heap.size 9 1 v' (ps.drop j).reverse.length (strs (ps.drop j).reverse))) := fun v' w2 h1 h2 => by
            refine ⟨below_grown (below_one hbl _) (hrow.out.alloc _) (Nat.le_refl _) hw0s h2, Nat.le_trans hsz (Nat.le_trans (by simp) h2.size), ?_⟩
            rw [hdr]
            show World.ownsRow _ _ _ _ _ _ _
            rw [List.length_append]
            have e : strs ((ps.drop k).reverse ++ [ps[j]'hjl]) = strs (ps.drop k).reverse ++ [.string (ps[j]'hjl)] := by simp [strs]
            rw [e]; exact h1
          have hrowh : Hid (wr.ownsRow w0.heap.size 9 1 (.slice a3 (ps.drop k).reverse.length c3) (ps.drop k).reverse.length (strs (ps.drop k).reverse)) := hrow
          have f0 : (0 : Int) ≤ (k : Int) - 1 := by omega
          generalize hgl : (ps.drop k).reverse.length = n3 at *
          generalize hgs : ps[j]'hjl = x at *
          have hkh : Hid (k = j + 1 ∧ ¬ k = 0) := ⟨hj, h0⟩
          clear hrow hdr hL1 hL2 hgs hj h0
          go_wp2_with (at_builtin; refine wpList_append_any _ rfl _ _ 22 rfl w0.heap.size 9 i9 _ 1 16 Tryd.underlying22 hi hz0 hz1 hz2 rfl (by decide) _ n3 _ rfl (by exact hrowh.out.alloc _) 1 _ _ rfl (by exact srcs_one wr 9 (.string x) rfl) (by unfold maxLen; omega) (by omega) (by simp; omega) ?_; intro v2 w2 hown hgrow; obtain ⟨a2', cap2, rfl⟩ := row_val hown)
          have hfin := hnext.out _ w2 hown hgrow
          go_roundw
          case rel => exact ⟨j, by omega, by first | rfl | (congr 1; omega), hfin.1, hfin.2.1, hfin.2.2⟩
          case measure => simp [intOf]; omega
end Go.Proofs.YtfblhpkndfbhgaaDoor
