/-
  What is proved here: what HyphTells answers of any patterns, exceptions and word.
-/
import Derived.Test.YtfblhpkndfbhgaaDoorTellW
namespace Go.Proofs.YtfblhpkndfbhgaaDoor
open Go.RowKit Go.Shelf

/-- The second of what is lent lies as it was lent, and G holds; G holds. -/
def Sm (w : World) (xs : List ByteArray) (gb : Nat) (G : World → Prop) (W : World) : Prop := Below w.heap.size w W ∧ w.heap.size < gb ∧ SBk W gb (xs ++ List.replicate 3 lentS) ∧ G W
def Sn (w : World) (G : World → Prop) (W : World) : Prop := Below w.heap.size w W ∧ G W
set_option maxRecDepth 100000 in
set_option maxHeartbeats 8000000 in
theorem tells_any (v1 : Value) (ps : List ByteArray) (v2 : Value) (xs : List ByteArray) (s : ByteArray) (hs : s.size ≤ maxLen) (w : World) (ht : Tab w) (t1 : TxAt w v1 ps) (t2 : TxAt w v2 xs) :
    Calls Tryd.prog 3 #[v1, v2, .string s] w fun e w' => e = .returned (.bool true) ∧ Below w.heap.size w w' := by
  have hL1 : Hid (Calls Tryd.prog 8 #[v1] w fun e w' => e = .returned (.bool (longB ps)) ∧ w' = w) := long_any v1 ps w t1
  have hL2 : Hid (Calls Tryd.prog 8 #[v2] w fun e w' => e = .returned (.bool (longB xs)) ∧ w' = w) := long_any v2 xs w t2
  cases hl1 : longB ps with
  | true =>
    rw [hl1] at hL1
    obtain ⟨a1, c1, rfl, -⟩ := t1.ex
    obtain ⟨a2, c2, rfl, -⟩ := t2.ex
    go_enter Tryd.func3, Tryd.ntmps3
    go_wp2_with (go_at_call 8; first | (with_reducible refine hL1.out.mono ?_; rintro e w' ⟨rfl, hww⟩; subst w') | (with_reducible refine hL2.out.mono ?_; rintro e w' ⟨rfl, hww⟩; subst w'))
    go_ret
    exact ⟨rfl, Below.refl _ _⟩
  | false =>
    rw [hl1] at hL1
    cases hl2 : longB xs with
    | true =>
      rw [hl2] at hL2
      obtain ⟨a1, c1, rfl, -⟩ := t1.ex
      obtain ⟨a2, c2, rfl, -⟩ := t2.ex
      go_enter Tryd.func3, Tryd.ntmps3
      go_wp2_with (go_at_call 8; first | (with_reducible refine hL1.out.mono ?_; rintro e w' ⟨rfl, hww⟩; subst w') | (with_reducible refine hL2.out.mono ?_; rintro e w' ⟨rfl, hww⟩; subst w'))
      go_ret
      exact ⟨rfl, Below.refl _ _⟩
    | false =>
      rw [hl2] at hL2
      obtain ⟨hpl, hps⟩ := long_no hl1
      obtain ⟨hxl, hxs⟩ := long_no hl2
      have cLa : Hid (Calls Tryd.prog 9 #[v1] w fun e w' => e = .returned (.slice (some ⟨w.heap.size, 0, none⟩) ps.length (ps.length + 3)) ∧ Below w.heap.size w w' ∧ SBk w' w.heap.size (ps ++ List.replicate 3 lentS)) := lend_a t1 hpl
      have cLb : Hid (∀ W, (Below w.heap.size w W ∧ SBk W w.heap.size (ps ++ List.replicate 3 lentS)) → Calls Tryd.prog 9 #[v2] W fun e w' => ∃ gb, e = .returned (.slice (some ⟨gb, 0, none⟩) xs.length (xs.length + 3)) ∧ Sl w ps xs gb (fun _ => True) w') := lend_b t2 hxl
      obtain ⟨d2, hd2⟩ : ∃ d2, ptV PP PX (bs s) = d2 := ⟨_, rfl⟩
      obtain ⟨pe, hpe⟩ : ∃ pe, ptE (bs s) = pe := ⟨_, rfl⟩
      have hd2l : d2.length ≤ 1000000 := by
        rw [← hd2]
        exact Nat.le_trans (ptV_len size_X) (by omega)
      have cPl : Hid (∀ W, Below w.heap.size w W → Calls Tryd.prog 17 #[] W fun e w' => ∃ hb, e = .returned (.pointer (some ⟨hb, 0, none⟩)) ∧ (Below w.heap.size w w' ∧ HQ hb PP PX w' ∧ True)) := plain_t ht
      have cPP : Hid (∀ hb W, (Below w.heap.size w W ∧ HQ hb PP PX W ∧ True) → Calls Tryd.prog 14 #[.pointer (some ⟨hb, 0, none⟩), .string s] W fun e w' => ∃ v, e = .returned (.tuple #[v, .int .i64 pe]) ∧ Pt w v d2 (fun _ => True) w') := fun hb W h => by
        have := hpoints_t (w := w) good_P s (fun _ => True) (fun _ _ _ _ => trivial) W h
        rw [hd2, hpe] at this
        exact this
      have cRP : Hid (∀ v W, Pt w v d2 (fun _ => True) W → Calls Tryd.prog 18 #[] W fun e w' => ∃ m, e = .returned (.pointer (some ⟨m, 0, none⟩)) ∧ Pt w v d2 (RQ m (tx PP) (tx PX)) w') := fun v W h => rplain_t W h
      have cRQ : Hid (∀ v m W, Pt w v d2 (RQ m (tx PP) (tx PX)) W → Calls Tryd.prog 15 #[.pointer (some ⟨m, 0, none⟩), .string s] W fun e w' => ∃ v2, e = .returned (.tuple #[v2, .int .i64 pe]) ∧ Pt w v d2 (fun W => IntsAt W v2 d2) w') := fun v m W h => by
        have := rpoints_t (w := w) (by decide +kernel) (by decide +kernel) (by rw [tx_bs]; exact good_P) (by rw [tx_bs]; exact good_X) (by rw [tx_bs]; exact fresh_X) s hs v d2 W h
        rw [tx_bs, tx_bs, hd2, hpe] at this
        exact this
      have cS2 : Hid (∀ v vv W, Pt w v d2 (fun W => IntsAt W vv d2) W → Calls Tryd.prog 16 #[v, vv] W fun e w' => e = .returned (.bool true) ∧ Below w.heap.size w w') := fun v vv W h => same_t hd2l W h
      have cA : Hid (∀ W, Below w.heap.size w W → Calls Tryd.prog 19 #[] W fun e w' => e = .returned (.bool true) ∧ Below w.heap.size w w') := awake_t ht
      have cKa : Hid (∀ gb G W, GS w gb G → Sl w ps xs gb G W → Calls Tryd.prog 12 #[.slice (some ⟨w.heap.size, 0, none⟩) ps.length (ps.length + 3), v1] W fun e w' => e = .returned (.bool true) ∧ Sl w ps xs gb G w') := fun gb G W hG h => kept_a t1 hpl hG W h
      have cKb : Hid (∀ gb G W, GS w gb G → Sl w ps xs gb G W → Calls Tryd.prog 12 #[.slice (some ⟨gb, 0, none⟩) xs.length (xs.length + 3), v2] W fun e w' => e = .returned (.bool true) ∧ Sl w ps xs gb G w') := fun gb G W hG h => kept_b t2 hxl hG W h
      have cOa : Hid (∀ gb G W, GS w gb G → Sl w ps xs gb G W → Calls Tryd.prog 13 #[.slice (some ⟨w.heap.size, 0, none⟩) ps.length (ps.length + 3)] W fun e w' => e = .returned (.tuple #[]) ∧ Sm w xs gb G w') := fun gb G W hG h => over_a hpl hps hG W h
      have cOb : Hid (∀ gb G W, GS w gb G → Sm w xs gb G W → Calls Tryd.prog 13 #[.slice (some ⟨gb, 0, none⟩) xs.length (xs.length + 3)] W fun e w' => e = .returned (.tuple #[]) ∧ Sn w G w') := fun gb G W hG h => over_b hxl hxs hG W h
      have cN := new_t (w := w) (ps := ps) (xs := xs) hpl hxl hxs
      have cR := rnew_t t1 t2 hpl hxl hxs
      obtain ⟨a1, c1, rfl, -⟩ := t1.ex
      obtain ⟨a2, c2, rfl, -⟩ := t2.ex
      have hptl : Hid ((ptV (ps.map bs) (xs.map bs) (bs s)).length ≤ 1000000) := by
        refine Nat.le_trans (ptV_len fun x hx => ?_) (by omega)
        obtain ⟨y, hy, rfl⟩ := List.mem_map.1 hx
        rw [size_ba]; exact hxs y hy
      have hn29 : Hid (∀ b (w' : World), (binOp .eql 29 (.pointer (some ⟨b, 0, none⟩)) (.pointer none)).run Tryd.prog w' = .ok (.bool false) w') := fun b w' => run_eql_ptr_nil' w' ⟨b, 0, none⟩ Tryd.underlying29
      have hn25 : Hid (∀ b (w' : World), (binOp .eql 25 (.pointer (some ⟨b, 0, none⟩)) (.pointer none)).run Tryd.prog w' = .ok (.bool false) w') := fun b w' => run_eql_ptr_nil' w' ⟨b, 0, none⟩ Tryd.underlying25
      by_cases hn0 : newI (ps.map bs) (xs.map bs) = 0
      · have cN' : Hid (∀ gb W, Sl w ps xs gb (fun _ => True) W → Calls Tryd.prog 10 #[.slice (some ⟨w.heap.size, 0, none⟩) ps.length (ps.length + 3), .slice (some ⟨gb, 0, none⟩) xs.length (xs.length + 3)] W fun e w' => ∃ hb, e = .returned (.tuple #[.pointer (some ⟨hb, 0, none⟩), .int .i64 0]) ∧ Sl w ps xs gb (HG gb hb (ps.map bs) (xs.map bs)) w') := fun gb W h => by
          refine (cN gb W h).mono ?_
          rintro e w' (⟨q, _⟩ | ⟨_, _, hb, rfl, q⟩)
          · exact absurd hn0 q
          · exact ⟨hb, rfl, q⟩
        have cR' : Hid (∀ gb hb W, Sl w ps xs gb (HG gb hb (ps.map bs) (xs.map bs)) W → Calls Tryd.prog 11 #[.slice a1 ps.length c1, .slice a2 xs.length c2] W fun e w' => ∃ m, e = .returned (.tuple #[.pointer (some ⟨m, 0, none⟩), .int .i64 0]) ∧ ((ps.map bs).all patB = true ∧ (xs.map bs).all excB = true ∧ freshB [] (xs.map bs) = true) ∧ GS w gb (fun W => HG gb hb (ps.map bs) (xs.map bs) W ∧ RG gb m ps xs W) ∧ Sl w ps xs gb (fun W => HG gb hb (ps.map bs) (xs.map bs) W ∧ RG gb m ps xs W) w') := fun gb hb W h => by
          refine (cR gb _ (HG.gs h.2.1 _ _) W h).mono ?_
          rintro e w' (⟨q, _⟩ | ⟨_, hg, m, rfl, q⟩)
          · exact absurd hn0 q
          · exact ⟨m, rfl, hg, and_gs (HG.gs h.2.1 _ _) (RG.gs h.2.1 _ _), q⟩
        obtain ⟨d, hd⟩ : ∃ d, ptV (ps.map bs) (xs.map bs) (bs s) = d := ⟨_, rfl⟩
        have cP : Hid (∀ gb hb m W, (ps.map bs).all patB = true → Sn w (fun W => HG gb hb (ps.map bs) (xs.map bs) W ∧ RG gb m ps xs W) W → Calls Tryd.prog 14 #[.pointer (some ⟨hb, 0, none⟩), .string s] W fun e w' => ∃ v, e = .returned (.tuple #[v, .int .i64 pe]) ∧ Pt w v d (RQ m ps xs) w') := fun gb hb m W hg h => by
          obtain ⟨h1, ⟨base, N, em, M, V, _, h2⟩, ⟨base', _, h3⟩⟩ := h
          have := hpoints_t (w := w) hg s (RQ m ps xs) RQ.keep W ⟨h1, ⟨base, N, em, M, V, h2⟩, ⟨base', h3⟩⟩
          rw [hd, hpe] at this
          exact this
        have cQ : Hid (∀ v m W, ((ps.map bs).all patB = true ∧ (xs.map bs).all excB = true ∧ freshB [] (xs.map bs) = true) → Pt w v d (RQ m ps xs) W → Calls Tryd.prog 15 #[.pointer (some ⟨m, 0, none⟩), .string s] W fun e w' => ∃ vv, e = .returned (.tuple #[vv, .int .i64 pe]) ∧ Pt w v d (fun W => IntsAt W vv d) w') := fun v m W hg h => by
          have := rpoints_t (w := w) (by omega) (by omega) hg.1 hg.2.1 hg.2.2 s hs v d W h
          rw [hd, hpe] at this
          exact this
        have hdl : d.length ≤ 1000000 := by rw [← hd]; exact hptl.out
        have cS : Hid (∀ v vv W, Pt w v d (fun W => IntsAt W vv d) W → Calls Tryd.prog 16 #[v, vv] W fun e w' => e = .returned (.bool true) ∧ Below w.heap.size w w') := fun v vv W h => same_t hdl W h
        clear cN cR hn0 hd hd2 hpe hptl t1 t2 hps hxs hl1 hl2
        go_enter Tryd.func3, Tryd.ntmps3
        go_wp2_with (first
          | (go_at_call 8; first | (with_reducible refine hL1.out.mono ?_; rintro e w' ⟨rfl, hww⟩; subst w') | (with_reducible refine hL2.out.mono ?_; rintro e w' ⟨rfl, hww⟩; subst w'))
          | (go_at_call 9; first | (with_reducible refine cLa.out.mono ?_; rintro e wa ⟨rfl, hA⟩) | (with_reducible refine (cLb.out _ hA).mono ?_; rintro e wb ⟨gb, rfl, hB⟩))
          | (go_at_call 10; refine (cN'.out _ _ hB).mono ?_; rintro e wn ⟨hb, rfl, hN⟩; have hnA := hn25.out hb)
          | (go_at_call 11; refine (cR'.out _ _ _ hN).mono ?_; rintro e wr ⟨m, rfl, hgd, hGS, hR⟩; have hnB := hn29.out m)
          | (go_at_call 12; first | (with_reducible refine (cKa.out _ _ _ hGS hR).mono ?_; rintro e wk ⟨rfl, hK1⟩) | (with_reducible refine (cKb.out _ _ _ hGS hK1).mono ?_; rintro e wl ⟨rfl, hK2⟩))
          | (go_at_call 13; first | (with_reducible refine (cOa.out _ _ _ hGS hK2).mono ?_; rintro e wo ⟨rfl, hO1⟩) | (with_reducible refine (cOb.out _ _ _ hGS hO1).mono ?_; rintro e wp ⟨rfl, hO2⟩))
          | (go_at_call 14; first | (with_reducible refine (cP.out _ _ _ _ hgd.1 hO2).mono ?_; rintro e wq ⟨va, rfl, hP1⟩) | (with_reducible refine (cPP.out _ _ hPl).mono ?_; rintro e wu ⟨vc, rfl, hP3⟩))
          | (go_at_call 15; first | (with_reducible refine (cQ.out _ _ _ hgd hP1).mono ?_; rintro e ws ⟨vb, rfl, hP2⟩) | (with_reducible refine (cRQ.out _ _ _ hP4).mono ?_; rintro e wx ⟨vd, rfl, hP5⟩))
          | (go_at_call 16; first | (with_reducible refine (cS.out _ _ _ hP2).mono ?_; rintro e wt ⟨rfl, hT1⟩) | (with_reducible refine (cS2.out _ _ _ hP5).mono ?_; rintro e wy ⟨rfl, hT2⟩))
          | (go_at_call 17; refine (cPl.out _ hT1).mono ?_; rintro e wv ⟨hc, rfl, hPl⟩)
          | (go_at_call 18; refine (cRP.out _ _ hP3).mono ?_; rintro e ww ⟨mc, rfl, hP4⟩)
          | (go_at_call 19; refine (cA.out _ hT2).mono ?_; rintro e wz ⟨rfl, hZ⟩))
        go_ret
        exact ⟨rfl, hZ⟩
      · obtain ⟨nI, hnI⟩ : ∃ nI, newI (ps.map bs) (xs.map bs) = nI := ⟨_, rfl⟩
        have cN' : Hid (∀ gb W, Sl w ps xs gb (fun _ => True) W → Calls Tryd.prog 10 #[.slice (some ⟨w.heap.size, 0, none⟩) ps.length (ps.length + 3), .slice (some ⟨gb, 0, none⟩) xs.length (xs.length + 3)] W fun e w' => e = .returned (.tuple #[.pointer none, .int .i64 nI]) ∧ Sl w ps xs gb (fun _ => True) w') := fun gb W h => by
          refine (cN gb W h).mono ?_
          rintro e w' (⟨_, rfl, q⟩ | ⟨q, _⟩)
          · exact ⟨by rw [hnI], q⟩
          · exact absurd q hn0
        have cR' : Hid (∀ gb W, Sl w ps xs gb (fun _ => True) W → Calls Tryd.prog 11 #[.slice a1 ps.length c1, .slice a2 xs.length c2] W fun e w' => e = .returned (.tuple #[.pointer none, .int .i64 nI]) ∧ Sl w ps xs gb (fun _ => True) w') := fun gb W h => by
          refine (cR gb _ (true_gs w gb) W h).mono ?_
          rintro e w' (⟨_, rfl, q⟩ | ⟨q, _⟩)
          · exact ⟨by rw [hnI], q⟩
          · exact absurd q hn0
        have ht1 : Hid (∀ gb, GS w gb (fun _ => True)) := true_gs w
        have hTn : Hid (∀ W, Sn w (fun _ => True) W → Below w.heap.size w W) := fun W h => h.1
        clear cN cR hn0 hnI hd2 hpe hptl t1 t2 hps hxs hl1 hl2
        go_enter Tryd.func3, Tryd.ntmps3
        go_wp2_with (first
          | (go_at_call 8; first | (with_reducible refine hL1.out.mono ?_; rintro e w' ⟨rfl, hww⟩; subst w') | (with_reducible refine hL2.out.mono ?_; rintro e w' ⟨rfl, hww⟩; subst w'))
          | (go_at_call 9; first | (with_reducible refine cLa.out.mono ?_; rintro e wa ⟨rfl, hA⟩) | (with_reducible refine (cLb.out _ hA).mono ?_; rintro e wb ⟨gb, rfl, hB⟩))
          | (go_at_call 10; refine (cN'.out _ _ hB).mono ?_; rintro e wn ⟨rfl, hN⟩)
          | (go_at_call 11; refine (cR'.out _ _ hN).mono ?_; rintro e wr ⟨rfl, hR⟩)
          | (go_at_call 12; first | (with_reducible refine (cKa.out _ _ _ (ht1.out _) hR).mono ?_; rintro e wk ⟨rfl, hK1⟩) | (with_reducible refine (cKb.out _ _ _ (ht1.out _) hK1).mono ?_; rintro e wl ⟨rfl, hK2⟩))
          | (go_at_call 13; first | (with_reducible refine (cOa.out _ _ _ (ht1.out _) hK2).mono ?_; rintro e wo ⟨rfl, hO1⟩) | (with_reducible refine (cOb.out _ _ _ (ht1.out _) hO1).mono ?_; rintro e wp ⟨rfl, hO2⟩))
          | (go_at_call 14; refine (cPP.out _ _ hPl).mono ?_; rintro e wu ⟨vc, rfl, hP3⟩)
          | (go_at_call 15; refine (cRQ.out _ _ _ hP4).mono ?_; rintro e wx ⟨vd, rfl, hP5⟩)
          | (go_at_call 16; refine (cS2.out _ _ _ hP5).mono ?_; rintro e wy ⟨rfl, hT2⟩)
          | (go_at_call 17; refine (cPl.out _ (hTn.out _ hO2)).mono ?_; rintro e wv ⟨hc, rfl, hPl⟩)
          | (go_at_call 18; refine (cRP.out _ _ hP3).mono ?_; rintro e ww ⟨mc, rfl, hP4⟩)
          | (go_at_call 19; refine (cA.out _ hT2).mono ?_; rintro e wz ⟨rfl, hZ⟩))
        go_ret
        exact ⟨rfl, hZ⟩
end Go.Proofs.YtfblhpkndfbhgaaDoor
