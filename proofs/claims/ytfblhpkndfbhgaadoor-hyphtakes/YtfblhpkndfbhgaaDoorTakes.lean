/-
  What is proved here: what HyphTakes answers of any patterns, word, run and number.
-/
import Derived.Test.YtfblhpkndfbhgaaDoorTakeA
import Derived.Test.YtfblhpkndfbhgaaDoorTakeR
namespace Go.Proofs.YtfblhpkndfbhgaaDoor
open Go.RowKit Go.Shelf

def Even8 (p : ByteArray) : Prop := ∀ c ∈ bs p, ¬ (56 ≤ c.toNat ∧ c.toNat ≤ 57)
set_option maxRecDepth 100000 in
set_option maxHeartbeats 8000000 in
theorem takes_any (v1 : Value) (ps : List ByteArray) (s : ByteArray) (hs : s.size ≤ maxLen) (r0 : ByteArray) (hr0 : r0.size ≤ maxLen) (x : Int) (w : World) (ht : Tab w) (t1 : TxAt w v1 ps) :
    Calls Tryd.prog 7 #[v1, .string s, .string r0, .int .i64 x] w fun e w' => e = .returned (.bool true) ∧ Below w.heap.size w w' := by
  obtain ⟨i9, hi⟩ := Option.isSome_iff_exists.1 (show (Tryd.prog.info? 9).isSome = true by kernel_rfl)
  have hz0 : i9.zero = some (.string ⟨#[]⟩) := by
    have h : (Tryd.prog.info? 9).map (·.zero) = some (some (.string ⟨#[]⟩)) := by kernel_rfl
    rw [hi] at h; simpa using h
  have hz1 : i9.size = 1 := by
    have h : (Tryd.prog.info? 9).map (·.size) = some 1 := by kernel_rfl
    rw [hi] at h; simpa using h
  have hz2 : i9.bytes = 16 := by
    have h : (Tryd.prog.info? 9).map (·.bytes) = some 16 := by kernel_rfl
    rw [hi] at h; simpa using h
  obtain ⟨i3, hi3⟩ := Option.isSome_iff_exists.1 (show (Tryd.prog.info? 3).isSome = true by kernel_rfl)
  have hy0 : i3.zero = some (.int .i64 0) := by
    have h : (Tryd.prog.info? 3).map (·.zero) = some (some (.int .i64 0)) := by kernel_rfl
    rw [hi3] at h; simpa using h
  have hy1 : i3.size = 1 := by
    have h : (Tryd.prog.info? 3).map (·.size) = some 1 := by kernel_rfl
    rw [hi3] at h; simpa using h
  have hy2 : i3.bytes = 8 := by
    have h : (Tryd.prog.info? 3).map (·.bytes) = some 8 := by kernel_rfl
    rw [hi3] at h; simpa using h
  have hK := known_any w ht
  have hL1 : Hid (∀ W, Below w.heap.size w W → Calls Tryd.prog 8 #[v1] W fun e w' => e = .returned (.bool (longB ps)) ∧ w' = W) := fun W hb => long_any v1 ps W (t1.below hb (Nat.le_refl _))
  have T1 : Hid (∀ W, Below w.heap.size w W → TxAt W v1 ps) := fun W hb => t1.below hb (Nat.le_refl _)
  have hLr : Hid (∀ W, Below w.heap.size w W → Calls Tryd.prog 24 #[.string r0] W fun e w' => e = .returned (.tuple #[.string (lowV (bs r0)), .bool (wordB (bs r0))]) ∧ Below w.heap.size w w') := fun W hb => (lower_any r0 hr0 W).mono fun e w' h => ⟨h.1, hb.trans (h.2.mono hb.size)⟩
  have hLw : Hid (∀ W, Below w.heap.size w W → Calls Tryd.prog 24 #[.string s] W fun e w' => e = .returned (.tuple #[.string (lowV (bs s)), .bool (wordB (bs s))]) ∧ Below w.heap.size w w') := fun W hb => (lower_any s hs W).mono fun e w' h => ⟨h.1, hb.trans (h.2.mono hb.size)⟩
  have hqf : Hid (wordB (bs r0) = true → (∀ c ∈ bs (lowV (bs r0)), sml c = true) ∧ bs (lowV (bs r0)) ≠ []) := fun h => by
    rw [lowV_word h]
    refine ⟨low_small h, fun e => ?_⟩
    have h1 := (wordB_parts h).1
    rw [← low_len] at h1
    have h2 : (low (bs r0)).length = 0 := by rw [show low (bs r0) = [] from e]; rfl
    omega
  have hwf : Hid (wordB (bs s) = true → bs (lowV (bs s)) = low (bs s) ∧ (lowV (bs s)).size ≤ 64 ∧ wordB (bs s) = true) := fun h => by
    refine ⟨by rw [lowV_word h], ?_, h⟩
    rw [lowV_word h]
    show (low (bs s)).toArray.size ≤ 64
    simp [low_len]
    exact (wordB_parts h).2.1
  obtain ⟨a1, c1, rfl, -⟩ := t1.ex
  clear t1
  generalize hlb : longB ps = lb at *
  generalize lowV (bs r0) = q at *
  generalize wordB (bs r0) = br at *
  generalize lowV (bs s) = wv at *
  generalize hbw : wordB (bs s) = bw at *
  have h6 : (lb = true ∨ (lb = false ∧ (200 : Int) < ps.length) ∨ (lb = false ∧ ¬ (200 : Int) < ps.length ∧ br = false) ∨ (lb = false ∧ ¬ (200 : Int) < ps.length ∧ br = true ∧ bw = false) ∨ (lb = false ∧ ¬ (200 : Int) < ps.length ∧ br = true ∧ bw = true ∧ (12 : Int) < q.size)) ∨ (lb = false ∧ ¬ (200 : Int) < ps.length ∧ br = true ∧ bw = true ∧ ¬ (12 : Int) < q.size) := by
    cases lb <;> cases br <;> cases bw <;> simp <;> omega
  rcases h6 with h5 | h6
  · clear hlb hbw hqf hwf
    rcases h5 with rfl | ⟨rfl, g1⟩ | ⟨rfl, g1, rfl⟩ | ⟨rfl, g1, rfl, rfl⟩ | ⟨rfl, g1, rfl, rfl, g2⟩ <;>
    · go_enter Tryd.func7, Tryd.ntmps7
      go_wp2_with (first | (go_at_call 5; refine hK.mono ?_; rintro e w0 ⟨rfl, hb0⟩) | (go_at_call 24; first | (with_reducible refine (hLr.out _ hb0).mono ?_; rintro e wa ⟨rfl, hba⟩) | (with_reducible refine (hLw.out _ hba).mono ?_; rintro e wb ⟨rfl, hbb⟩)) | (go_at_call 8; refine (hL1.out _ hbb).mono ?_; rintro e w' ⟨rfl, hww⟩; subst w'))
      go_ret
      exact ⟨rfl, hbb⟩
  · obtain ⟨rfl, g1, rfl, rfl, g2⟩ := h6
    obtain ⟨hsm, hne⟩ := hqf.out rfl
    have hsmh : Hid ((∀ c ∈ bs q, sml c = true) ∧ bs q ≠ []) := ⟨hsm, hne⟩
    have hwfh := hwf.out rfl
    have hwl : wv.size ≤ 64 := hwfh.2.1
    have hwfh2 : Hid (bs wv = low (bs s) ∧ wordB (bs s) = true) := ⟨hwfh.1, hbw⟩
    have hps : Hid (∀ p ∈ ps, p.size ≤ 200) := (long_no hlb).2
    have hpl : Hid (ps.length ≤ 200) := by show _ ≤ _; omega
    clear hwf hqf hsm hne hwfh hlb hbw
    go_enter Tryd.func7, Tryd.ntmps7
    go_wp2_with (first | (go_at_call 5; refine hK.mono ?_; rintro e w0 ⟨rfl, hb0⟩) | (go_at_call 24; first | (with_reducible refine (hLr.out _ hb0).mono ?_; rintro e wa ⟨rfl, hba⟩) | (with_reducible refine (hLw.out _ hba).mono ?_; rintro e wb ⟨rfl, hbb⟩)) | (go_at_call 8; refine (hL1.out _ hbb).mono ?_; rintro e w' ⟨rfl, hww⟩; subst w'))
    clear hK hLr hLw hL1
    go_loopw [14] (fun i wr => ∃ k : Nat, k ≤ ps.length ∧ i = .int .i64 k ∧ wr = wb ∧ Hid (∀ (j : Nat) (h : j < ps.length), j < k → Even8 (ps[j]'h))) (fun i _ => ps.length - (intOf i).toNat)
    case atStart => exact ⟨0, by omega, rfl, rfl, fun j _ hj => by omega⟩
    case round =>
      obtain ⟨k, hk, rfl, rfl, hall⟩ := hrel
      obtain ⟨wb, rfl⟩ : ∃ wb, wb = wr := ⟨_, rfl⟩
      by_cases hlt : k < ps.length
      · obtain ⟨b0, o0, hab, cj⟩ := tx_cell (T1.out _ hbb) hlt
        subst hab
        have hkl : (k : Int) < ps.length := by omega
        have hnext : Hid (Even8 (ps[k]'hlt) → ∀ (j : Nat) (h : j < ps.length), j < k + 1 → Even8 (ps[j]'h)) := fun h8 j hj hjk => by
          by_cases hh : j < k
          · exact hall.out j hj hh
          · obtain rfl : j = k := by omega
            exact h8
        have hp200 : (ps[k]'hlt).size ≤ 200 := hps.out _ (List.getElem_mem hlt)
        generalize ps[k]'hlt = p at *
        clear hall
        go_wp2_with fail
        go_loopw [15] (fun i wr => ∃ m : Nat, m ≤ p.size ∧ i = .int .i64 m ∧ wr = wb ∧ Hid (∀ (j : Nat) (h : j < p.size), j < m → ¬ (56 ≤ (p[j]'h).toNat ∧ (p[j]'h).toNat ≤ 57))) (fun i _ => p.size - (intOf i).toNat)
        case atStart => exact ⟨0, by omega, rfl, rfl, fun j _ hj => by omega⟩
        case round =>
          obtain ⟨m, hm, rfl, rfl, hin⟩ := hrel
          by_cases hml : m < p.size
          · have hmlI : (m : Int) < p.size := by omega
            have hnx : Hid (¬ (56 ≤ (p[m]'hml).toNat ∧ (p[m]'hml).toNat ≤ 57) → ∀ (j : Nat) (h : j < p.size), j < m + 1 → ¬ (56 ≤ (p[j]'h).toNat ∧ (p[j]'h).toNat ≤ 57)) := fun h8 j hj hjk => by
              by_cases hh : j < m
              · exact hin.out j hj hh
              · obtain rfl : j = m := by omega
                exact h8
            clear hin
            have h3 : (((p[m]'hml).toNat : Int) < 56) ∨ (¬ ((p[m]'hml).toNat : Int) < 56 ∧ (57 : Int) < (p[m]'hml).toNat) ∨ (¬ ((p[m]'hml).toNat : Int) < 56 ∧ ¬ (57 : Int) < (p[m]'hml).toNat) := by omega
            rcases h3 with f1 | ⟨f1, f2⟩ | ⟨f1, f2⟩
            · have hnx2 : Hid (∀ (j : Nat) (h : j < p.size), j < m + 1 → ¬ (56 ≤ (p[j]'h).toNat ∧ (p[j]'h).toNat ≤ 57)) := hnx.out (by omega)
              clear hnx
              go_wp2_with fail
              go_roundw
              case rel => exact ⟨m + 1, by omega, by simp, by first | rfl | trivial, hnx2⟩
              case measure => simp [intOf]; omega
            · have hnx2 : Hid (∀ (j : Nat) (h : j < p.size), j < m + 1 → ¬ (56 ≤ (p[j]'h).toNat ∧ (p[j]'h).toNat ≤ 57)) := hnx.out (by omega)
              clear hnx
              go_wp2_with fail
              go_roundw
              case rel => exact ⟨m + 1, by omega, by simp, by first | rfl | trivial, hnx2⟩
              case measure => simp [intOf]; omega
            · clear hnx
              go_wp2_with fail
              go_ret
              exact ⟨rfl, hbb⟩
          · have hmlI : ¬ (m : Int) < p.size := by omega
            have h8 : Hid (Even8 p) := fun c hc => by
              obtain ⟨j, hj, rfl⟩ := List.getElem_of_mem hc
              have hj2 : j < p.size := by rw [← size_ba]; exact hj
              exact hin.out j hj2 (by omega)
            have hnx := hnext.out h8.out
            have hnxh : Hid (∀ (j : Nat) (h : j < ps.length), j < k + 1 → Even8 (ps[j]'h)) := hnx
            clear hin hnext hnx
            go_wp2_with fail
            go_roundw
            case rel => exact ⟨k + 1, by omega, by simp, by first | rfl | trivial, hnxh⟩
            case measure => simp [intOf]; omega
      · have hkl : ¬ (k : Int) < ps.length := by omega
        have hev : Hid (∀ p ∈ ps.map bs, ∀ c ∈ p, ¬ (56 ≤ c.toNat ∧ c.toNat ≤ 57)) := fun p hp => by
          obtain ⟨y, hy, rfl⟩ := List.mem_map.1 hp
          obtain ⟨j, hj, rfl⟩ := List.getElem_of_mem hy
          exact hall.out j hj (by omega)
        have hPk : Hid (∀ W, Calls Tryd.prog 26 #[.int .i64 x, .int .i64 ((q.size : Int) + 1)] W fun e w' => ∃ a : Nat, a < q.size + 1 ∧ e = .returned (.int .i64 (a : Nat)) ∧ w' = W) := fun W => by
          have := pick_any x (q.size + 1) (by omega) (by omega) W
          rwa [show (((q.size + 1 : Nat) : Int)) = (q.size : Int) + 1 by omega] at this
        obtain ⟨nI, hnI⟩ : ∃ nI, newI (ps.map bs) [] = nI := ⟨_, rfl⟩
        have hN1 : Hid (Calls Tryd.prog 10 #[.slice a1 ps.length c1, .slice none 0 0] wb fun e w' => ∃ p c, e = .returned (.tuple #[p, .int .i64 c]) ∧ Below w.heap.size w w' ∧ NewR nI (ps.map bs) p c w') := new_alone hbb (T1.out _ hbb) (by omega) hnI
        clear hall
        go_wp2_with (first | (go_at_call 26; refine (hPk.out _).mono ?_; rintro e w' ⟨a, ha, rfl, hww⟩; subst w') | (go_at_call 10; refine hN1.out.mono ?_; rintro e w1 ⟨p1, c1', rfl, hb1, hR1⟩))
        obtain ⟨hsm, hne⟩ := hsmh.out
        obtain ⟨hwv, hwd⟩ := hwfh2.out
        obtain ⟨x1, hx1⟩ : ∃ x1, q.extract 0 a = x1 := ⟨_, rfl⟩
        obtain ⟨x2, hx2⟩ : ∃ x2, x1 ++ (⟨#[56]⟩ : ByteArray) = x2 := ⟨_, rfl⟩
        obtain ⟨x3, hx3⟩ : ∃ x3, q.extract a q.size = x3 := ⟨_, rfl⟩
        obtain ⟨x4, hx4⟩ : ∃ x4, x2 ++ x3 = x4 := ⟨_, rfl⟩
        have hz1' : x1.size ≤ q.size := by rw [← hx1, ByteArray.size_extract]; omega
        have hz3' : x3.size ≤ q.size := by rw [← hx3, ByteArray.size_extract]; omega
        have hz2' : x2.size ≤ q.size + 1 := by rw [← hx2, ByteArray.size_append]; show x1.size + 1 ≤ _; omega
        have hx8 := eight_ba hx1 hx2 hx3 hx4
        have haq : a ≤ (bs q).length := by have := size_ba q; show a ≤ q.data.toList.length; omega
        have hpat : patB (bs x4) = true := by rw [hx8]; exact eight_pat hsm hne (by have := size_ba q; show q.data.toList.length ≤ 12; omega) haq
        obtain ⟨d, hd⟩ : ∃ d, oddV (ps.map bs) (low (bs s)) = d := ⟨_, rfl⟩
        have hd2 : Hid (oddV (ps.map bs ++ [bs x4]) (low (bs s)) = d.filter (fun k => !stands (bs q) (bs wv) a k)) := by
          show _ = _
          rw [hx8, ← hd, ← hwv]
          exact oddV_eight hev.out hsm hne haq
        have hdh : Hid (oddV (ps.map bs) (low (bs s)) = d) := hd
        have hdr : Hid (Rise d wv.size) := by
          show Rise _ _
          rw [← hd, ← hwv]
          have := oddV_rise (ps.map bs) (bs wv)
          rwa [show (bs wv).length = wv.size from size_ba wv] at this
        have hwdh : Hid (wordB (bs s) = true) := hwd
        refine take_region _ (fun _ _ _ _ _ h => h) _ _ a1 ps.length c1 a q x1 x2 x3 x4 (by omega) (by omega) hx1 hx2 hx3 hx4 (by omega) (by omega) w1 i9 hi hz0 hz1 hz2 ps (by omega) (fun W hb => tx_srcs (T1.out _ (hb1.trans (hb.mono hb1.size)))) (fun p c w' => NewR nI (ps.map bs ++ [bs x4]) p c w') (fun W v hb ho => new_more hb ho hpl.out hpat hnI) ?_
        intro u102 u104 u113 u114 p2 c2 w2 hb2 hR2
        unfold fr7
        have hb2w : Below w.heap.size w w2 := hb1.trans (hb2.mono hb1.size)
        clear hx8 hpat hd hwd hwv hsm hne hx1 hx2 hx3 hx4 hN1 hPk hev haq
        rcases hR1 with ⟨hn0, rfl, rfl⟩ | ⟨hn0, hg1, rfl, ba1, h1b, N1, em1, M1, V1, rfl, H1⟩
        · rcases hR2 with ⟨-, rfl, rfl⟩ | ⟨hn0', -⟩
          · have g3 : (c2 == 0) = false := by simpa using hn0
            clear hn0 hnI hdr hd2 hdh
            go_wp2_with fail
            go_ret
            refine ⟨?_, hb2w⟩
            show Ending.returned (Value.bool (c2 != 0)) = _
            rw [bne, g3]; rfl
          · exact absurd hn0' hn0
        · rcases hR2 with ⟨hn0', -⟩ | ⟨-, hg2, rfl, ba2, h2b, N2, em2, M2, V2, rfl, H2⟩
          · exact absurd hn0 hn0'
          · obtain ⟨d2, hd2e⟩ : ∃ d2, d.filter (fun k => !stands (bs q) (bs wv) a k) = d2 := ⟨_, rfl⟩
            have hnil : Hid (∀ b (w' : World), (binOp .eql 25 (.pointer (some ⟨b, 0, none⟩)) (.pointer none)).run Tryd.prog w' = .ok (.bool false) w') := fun b w' => run_eql_ptr_nil' w' ⟨b, 0, none⟩ Tryd.underlying25
            have hn1 := hnil.out h1b
            have hn2 := hnil.out h2b
            have hP1 : Hid (Calls Tryd.prog 14 #[.pointer (some ⟨h1b, 0, none⟩), .string s] w2 fun e w' => ∃ v c, e = .returned (.tuple #[v, .int .i64 c]) ∧ Below w2.heap.size w2 w' ∧ w'.ownsRow w2.heap.size 3 1 v d.length (ints d)) := points_more hg1 (H1.below hb2) hwdh.out hdh.out
            have hP2 : Hid (∀ W, Below w2.heap.size w2 W → Calls Tryd.prog 14 #[.pointer (some ⟨h2b, 0, none⟩), .string s] W fun e w' => ∃ v c, e = .returned (.tuple #[v, .int .i64 c]) ∧ Below W.heap.size W w' ∧ w'.ownsRow W.heap.size 3 1 v d2.length (ints d2)) := fun W hb => points_more hg2 (H2.below hb) hwdh.out (by rw [← hd2e]; exact hd2.out)
            have hd2h : Hid (d.filter (fun k => !stands (bs q) (bs wv) a k) = d2) := hd2e
            have hdl : d.length ≤ 100 := by
              rw [← hdh.out]
              unfold oddV
              rw [List.length_map]
              refine Nat.le_trans (List.length_filter_le _ _) ?_
              rw [List.length_range, ← hwfh2.out.1, show (bs wv).length = wv.size from size_ba wv]
              omega
            generalize hdn : d.length = dn at *
            generalize hdn2 : d2.length = dn2 at *
            clear hn0 hnI hdh hd2 hd2e H1 H2 hg1 hg2
            go_wp2_with (go_at_call 14; first | (with_reducible refine hP1.out.mono ?_; rintro e w3 ⟨va, ca', rfl, hb3, hra⟩; obtain ⟨aa, ca, rfl⟩ := row_val hra) | (with_reducible refine (hP2.out _ hb3).mono ?_; rintro e w4 ⟨vb, cb', rfl, hb4, hrb⟩; obtain ⟨ab, cb, rfl⟩ := row_val hrb))
            have hb42 : Below w2.heap.size w2 w4 := hb3.trans (hb4.mono hb3.size)
            have hb4w : Below w.heap.size w w4 := hb2w.trans (hb42.mono hb2w.size)
            have hIa4 : Hid (IntsAt w4 (.slice aa dn ca) d) := (ints_of_row (by rw [hdn]; exact hra)).below hb4 (Nat.le_refl _)
            have hIb4 : Hid (IntsAt w4 (.slice ab dn2 cb) d2) := ints_of_row (by rw [hdn2]; exact hrb)
            obtain ⟨F, hF⟩ : ∃ F : Int → Bool, (fun k => !stands (bs q) (bs wv) a k) = F := ⟨_, rfl⟩
            have hFh : Hid (∀ y, F y = !stands (bs q) (bs wv) a y) := fun y => by rw [← hF]
            have hd3 : Hid (d.filter F = d2) := by show _ = _; rw [← hF]; exact hd2h.out
            have hS : Hid (∀ W vw, Below w4.heap.size w4 W → W.ownsRow w4.heap.size 3 1 vw dn2 (ints d2) → Calls Tryd.prog 16 #[.slice ab dn2 cb, vw] W fun e w' => e = .returned (.bool true) ∧ Below W.heap.size W w') := fun W vw hb ho => by
              have := same_any (.slice ab dn2 cb) vw d2 d2 W (hIb4.out.below hb (Nat.le_refl _)) (ints_of_row (by rw [hdn2]; exact ho)) (by
                rw [← hd3.out]
                refine Nat.le_trans (List.length_filter_le _ _) ?_
                omega)
              rwa [decide_eq_true rfl] at this
            clear hb3 hb4 hra hrb hP1 hP2 hn1 hn2 hnil hF hd2h hb2 hb1 hb2w hb42 hwdh
            go_loopw [24, 25] (fun u i wr => ∃ k : Nat, k ≤ dn ∧ i = .int .i64 k ∧ Below w4.heap.size w4 wr ∧ Hid (wr.ownsRow w4.heap.size 3 1 u ((d.take k).filter F).length (ints ((d.take k).filter F)))) (fun _ i _ => dn - (intOf i).toNat)
            case atStart => exact ⟨0, by omega, rfl, Below.refl _ _, World.ownsRow_nil _ _ _ _⟩
            case round =>
              obtain ⟨k', hk', rfl, hbl, hrow⟩ := hrel
              by_cases hlt : k' < dn
              · obtain ⟨aw, cw, hv⟩ := row_val hrow.out
                subst hv
                have hkd : k' < d.length := by omega
                obtain ⟨b0, o0, hab, cj⟩ := int_cell (hIa4.out.below hbl (Nat.le_refl _)) hkd
                subst hab
                have hkl' : (k' : Int) < dn := by omega
                have r1 := rise_last hdr.out k' (by omega)
                have r2 := r1.2 hkd
                have r3 := (hdr.out k' hkd).2
                have r4 : 2 ≤ d[k']'hkd := by omega
                have htk : Hid ((d.take (k' + 1)).filter F = (d.take k').filter F ++ (if F (d[k']'hkd) then [d[k']'hkd] else [])) := by
                  show _ = _
                  rw [List.take_succ_eq_append_getElem hkd, List.filter_append]
                  congr 1
                  cases hf : F (d[k']'hkd) <;> simp [hf]
                have hFy := hFh.out (d[k']'hkd)
                generalize d[k']'hkd = y at *
                clear r1 r2
                have hLl : ((d.take k').filter F).length ≤ 100 := by
                  refine Nat.le_trans (List.length_filter_le _ _) ?_
                  rw [List.length_take]; omega
                cases hst : F y with
                | true =>
                  have hnext : Hid (∀ v' wz, wz.ownsRow w4.heap.size 3 1 v' (((d.take k').filter F).length + 1) (ints ((d.take k').filter F) ++ [.int .i64 y]) → (wr.alloc (.cells #[.int .i64 y] 3)).grownBy wz (Value.slice aw ((d.take k').filter F).length cw).ownBlock → Below w4.heap.size w4 wz ∧ Hid (wz.ownsRow w4.heap.size 3 1 v' ((d.take (k' + 1)).filter F).length (ints ((d.take (k' + 1)).filter F)))) := fun v' wz h1 h2 => by
                    refine ⟨below_grown (below_one hbl _) (hrow.out.alloc _) (Nat.le_refl _) (Nat.le_refl _) h2, ?_⟩
                    rw [htk.out, if_pos hst]
                    show World.ownsRow _ _ _ _ _ _ _
                    rw [List.length_append]
                    have e : ints ((d.take k').filter F ++ [y]) = ints ((d.take k').filter F) ++ [.int .i64 y] := by simp [ints]
                    rw [e]; exact h1
                  have h3 := stands_case (q := q) (v := wv) (a := a) (y := y) (by rw [hst] at hFy; revert hFy; cases stands (bs q) (bs wv) a y <;> simp) (by omega)
                  have hsz4 := hbl.size
                  have hrowa : Hid (wr.ownsRow w4.heap.size 3 1 (.slice aw ((d.take k').filter F).length cw) ((d.take k').filter F).length (ints ((d.take k').filter F))) := hrow
                  generalize hgl : ((d.take k').filter F).length = m3 at *
                  clear hrow hFy htk hFh hst hgl
                  rcases h3 with f1 | ⟨f1, f2⟩ | ⟨f1, f2, f3⟩
                  · go_wp2_with (at_builtin; refine wpList_append_any _ rfl _ _ 34 rfl w4.heap.size 3 i3 _ 1 8 Tryd.underlying34 hi3 hy0 hy1 hy2 rfl (by decide) _ m3 _ rfl (by exact hrowa.out.alloc _) 1 _ _ rfl (by exact srcs_one wr 3 (.int .i64 y) rfl) (by unfold maxLen; omega) (by omega) (by simp; omega) ?_; intro v2 wz hown hgrow; obtain ⟨a2, cap2, rfl⟩ := row_val hown)
                    have hfin := hnext.out _ wz hown hgrow
                    go_roundw
                    case rel => exact ⟨k' + 1, by omega, by simp, hfin.1, hfin.2⟩
                    case measure => simp [intOf]; omega
                  · go_wp2_with (at_builtin; refine wpList_append_any _ rfl _ _ 34 rfl w4.heap.size 3 i3 _ 1 8 Tryd.underlying34 hi3 hy0 hy1 hy2 rfl (by decide) _ m3 _ rfl (by exact hrowa.out.alloc _) 1 _ _ rfl (by exact srcs_one wr 3 (.int .i64 y) rfl) (by unfold maxLen; omega) (by omega) (by simp; omega) ?_; intro v2 wz hown hgrow; obtain ⟨a2, cap2, rfl⟩ := row_val hown)
                    have hfin := hnext.out _ wz hown hgrow
                    go_roundw
                    case rel => exact ⟨k' + 1, by omega, by simp, hfin.1, hfin.2⟩
                    case measure => simp [intOf]; omega
                  · go_wp2_with (at_builtin; refine wpList_append_any _ rfl _ _ 34 rfl w4.heap.size 3 i3 _ 1 8 Tryd.underlying34 hi3 hy0 hy1 hy2 rfl (by decide) _ m3 _ rfl (by exact hrowa.out.alloc _) 1 _ _ rfl (by exact srcs_one wr 3 (.int .i64 y) rfl) (by unfold maxLen; omega) (by omega) (by simp; omega) ?_; intro v2 wz hown hgrow; obtain ⟨a2, cap2, rfl⟩ := row_val hown)
                    have hfin := hnext.out _ wz hown hgrow
                    go_roundw
                    case rel => exact ⟨k' + 1, by omega, by simp, hfin.1, hfin.2⟩
                    case measure => simp [intOf]; omega
                | false =>
                  obtain ⟨f1, f2, f3⟩ := stands_at (q := q) (v := wv) (a := a) (y := y) (by rw [hst] at hFy; revert hFy; cases stands (bs q) (bs wv) a y <;> simp)
                  have hrow2 : Hid (wr.ownsRow w4.heap.size 3 1 (.slice aw ((d.take k').filter F).length cw) ((d.take (k' + 1)).filter F).length (ints ((d.take (k' + 1)).filter F))) := by
                    rw [htk.out, if_neg (by rw [hst]; decide), List.append_nil]; exact hrow
                  generalize hgl : ((d.take k').filter F).length = m3 at *
                  clear hrow hFy htk hFh hst hgl
                  go_wp2_with fail
                  go_roundw
                  case rel => exact ⟨k' + 1, by omega, by simp, hbl, hrow2⟩
                  case measure => simp [intOf]; omega
              · have hkl' : ¬ (k' : Int) < dn := by omega
                have hrow2 : Hid (wr.ownsRow w4.heap.size 3 1 u24 dn2 (ints d2)) := by
                  have h := hrow.out
                  rw [List.take_of_length_le (by omega), hd3.out, hdn2] at h
                  exact h
                clear hrow
                obtain ⟨aw, cw, hv⟩ := row_val hrow2.out
                subst hv
                have hC := hS.out wr _ hbl hrow2.out
                clear hS hrow2
                go_wp2_with (go_at_call 16; refine hC.mono ?_; rintro e w5 ⟨rfl, hb5⟩)
                go_ret
                have hz := hb4w.trans (hbl.mono hb4w.size)
                exact ⟨rfl, hz.trans (hb5.mono hz.size)⟩
end Go.Proofs.YtfblhpkndfbhgaaDoor
