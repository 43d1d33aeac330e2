/-
  What is proved here: what long, the document's Lower and Bare, and turned answer.
-/
import Derived.Test.YtfblhpkndfbhgaaDoorKnown
namespace Go.Proofs.YtfblhpkndfbhgaaDoor
open Go.RowKit Go.Shelf

def longB (ss : List ByteArray) : Bool := decide (300 < ss.length) || ss.any (fun s => decide (200 < s.size))
theorem long_no {ss : List ByteArray} (h : longB ss = false) : ss.length ≤ 300 ∧ ∀ s ∈ ss, s.size ≤ 200 := by
  unfold longB at h
  simp only [Bool.or_eq_false_iff, decide_eq_false_iff_not, List.any_eq_false, decide_eq_true_eq] at h
  exact ⟨by omega, fun s hs => by have := h.2 s hs; omega⟩
set_option maxRecDepth 100000 in
set_option maxHeartbeats 1000000 in
theorem long_any (v : Value) (ss : List ByteArray) (w : World) (h : TxAt w v ss) : Calls Tryd.prog 8 #[v] w fun e w' => e = .returned (.bool (longB ss)) ∧ w' = w := by
  obtain ⟨a, cap, rfl, -⟩ := h.ex
  by_cases hl : 300 < ss.length
  · have e : longB ss = true := by unfold longB; rw [decide_eq_true hl]; rfl
    rw [e]
    have f : (300 : Int) < ss.length := by omega
    clear e
    go_enter Tryd.func8, Tryd.ntmps8
    go_wp2_with fail
    go_ret
    exact ⟨rfl, rfl⟩
  · have e : longB ss = ss.any (fun s => decide (200 < s.size)) := by unfold longB; rw [decide_eq_false hl]; rfl
    rw [e]
    have hyes : Hid (∀ (k : Nat) (h : k < ss.length), 200 < (ss[k]'h).size → ss.any (fun s => decide (200 < s.size)) = true) := fun k h hk => by
      show _ = _
      rw [List.any_eq_true]
      exact ⟨_, List.getElem_mem h, by simpa using hk⟩
    have hno : Hid ((∀ (k : Nat) (h : k < ss.length), ¬ 200 < (ss[k]'h).size) → ss.any (fun s => decide (200 < s.size)) = false) := fun h => by
      show _ = _
      rw [List.any_eq_false]
      intro s hs
      obtain ⟨k, hk, rfl⟩ := List.getElem_of_mem hs
      simpa using h k hk
    generalize ss.any (fun s => decide (200 < s.size)) = r at *
    have f : ¬ (300 : Int) < ss.length := by omega
    clear e
    go_enter Tryd.func8, Tryd.ntmps8
    go_wp2_with fail
    go_loopw [3] (fun i wr => ∃ k : Nat, k ≤ ss.length ∧ i = .int .i64 k ∧ wr = w ∧ Hid (∀ (j : Nat) (h : j < ss.length), j < k → ¬ 200 < (ss[j]'h).size)) (fun i _ => ss.length - (intOf i).toNat)
    case atStart => exact ⟨0, by omega, rfl, rfl, fun j _ hj => by omega⟩
    case round =>
      obtain ⟨k, hk, rfl, rfl, ha⟩ := hrel
      by_cases hlt : k < ss.length
      · obtain ⟨b0, o0, rfl, c0⟩ := tx_cell h hlt
        have hkl : (k : Int) < ss.length := by omega
        by_cases hs : 200 < (ss[k]'hlt).size
        · have hr := hyes.out k hlt hs
          subst hr
          have hs' : (200 : Int) < (ss[k]'hlt).size := by omega
          generalize ss[k]'hlt = s at *
          clear hyes hno ha h
          go_wp2_with fail
          go_ret
          exact ⟨rfl, rfl⟩
        · have ha2 : Hid (∀ (j : Nat) (h : j < ss.length), j < k + 1 → ¬ 200 < (ss[j]'h).size) := fun j hj hjk => by
            by_cases hh : j < k
            · exact ha.out j hj hh
            · obtain rfl : j = k := by omega
              exact hs
          have hs' : ¬ (200 : Int) < (ss[k]'hlt).size := by omega
          generalize ss[k]'hlt = s at *
          clear hyes hno ha h
          go_wp2_with fail
          go_roundw
          case rel => exact ⟨k + 1, by omega, by simp, by first | rfl | trivial, ha2⟩
          case measure => simp [intOf]; omega
      · have hr := hno.out (fun j hj => ha.out j hj (by omega))
        subst hr
        have hkl : ¬ (k : Int) < ss.length := by omega
        clear hyes hno ha
        go_wp2_with fail
        go_ret
        exact ⟨rfl, rfl⟩

/-- An exception without its signs. -/
def bare (l : Bs) : Bs := l.filter (fun c => !(c == 45))
theorem bare_snoc (l : Bs) (c : UInt8) : bare (l ++ [c]) = if c == 45 then bare l else bare l ++ [c] := by
  unfold bare
  rw [List.filter_append]
  by_cases h : (c == 45) = true <;> simp [h]
theorem ba_append (a : Bs) (b : ByteArray) : (⟨a.toArray⟩ : ByteArray) ++ b = ⟨(a ++ b.data.toList).toArray⟩ := by
  apply ba_eq
  rw [ByteArray.data_append]; simp
theorem extract_one {s : ByteArray} {k : Nat} (h : k < s.size) : s.extract k (k + 1) = ⟨#[s[k]'h]⟩ := by
  have e : (s.extract k (k + 1)).data.toList = [s[k]'h] := by
    rw [extract_ba, take_succ_ba h, List.drop_append_of_le_length (by rw [List.length_take, size_ba]; omega), List.drop_of_length_le (by rw [List.length_take]; omega)]; rfl
  rw [ba_eq e]
set_option maxRecDepth 100000 in
set_option maxHeartbeats 1000000 in
theorem bare_any (s : ByteArray) (hs : s.size ≤ 1000000) (w : World) : Calls Tryd.prog 25 #[.string s] w fun e w' => e = .returned (.string ⟨(bare (bs s)).toArray⟩) ∧ w' = w := by
  have hW : Hid (s.data.toList.take s.size = s.data.toList) := take_all_ba s
  go_enter Tryd.func25, Tryd.ntmps25
  go_wp2_with fail
  go_loopw [3, 4] (fun o i wr => ∃ (k : Nat) (q : ByteArray), k ≤ s.size ∧ i = .int .i64 k ∧ o = .string q ∧ wr = w ∧ Hid (q = ⟨(bare (s.data.toList.take k)).toArray⟩)) (fun _ i _ => s.size - (intOf i).toNat)
  case atStart => exact ⟨0, ⟨#[]⟩, by omega, rfl, rfl, rfl, rfl⟩
  case round =>
    obtain ⟨k, q, hk, rfl, rfl, rfl, hq⟩ := hrel
    by_cases hlt : k < s.size
    · have ht1 := take_succ_ba hlt
      by_cases hc : (s[k]'hlt) = 45
      · have hq2 : Hid (q = ⟨(bare (s.data.toList.take (k + 1))).toArray⟩) := by
          show _ = _
          rw [ht1, bare_snoc, if_pos (by simpa using hc)]; exact hq.out
        have f : (((s[k]'hlt).toNat : Int) == 45) = true := by rw [hc]; rfl
        clear ht1 hq hc hW
        go_wp2_with fail
        go_roundw
        case rel => exact ⟨k + 1, q, by omega, by simp, rfl, by first | rfl | trivial, hq2⟩
        case measure => simp [intOf]; omega
      · obtain ⟨x, hx⟩ : ∃ x, s.extract k (k + 1) = x := ⟨_, rfl⟩
        have hq2 : Hid (q ++ x = ⟨(bare (s.data.toList.take (k + 1))).toArray⟩) := by
          show _ = _
          rw [ht1, bare_snoc, if_neg (by simpa using hc), hq.out, ba_append, ← hx, extract_one hlt]
        have f : (((s[k]'hlt).toNat : Int) == 45) = false := by
          rw [beq_eq_false_iff_ne]
          intro e
          exact hc (UInt8.toNat_inj.1 (by show (s[k]'hlt).toNat = 45; omega))
        have f3 : ¬ 9223372036854775807 < q.size + x.size := by
          have h1 : q.size ≤ k := by
            rw [← size_ba, hq.out]
            exact Nat.le_trans (List.length_filter_le _ _) (by rw [List.length_take]; omega)
          have h2 : x.size = 1 := by rw [← hx, extract_one hlt]; rfl
          omega
        clear ht1 hq hc hW
        go_wp2_with fail
        go_roundw
        case rel => exact ⟨k + 1, q ++ x, by omega, by simp, by first | rfl | (congr 1), by first | rfl | trivial, hq2⟩
        case measure => simp [intOf]; omega
    · obtain rfl : k = s.size := by omega
      rw [hW.out] at hq
      have := hq.out
      subst this
      clear hq hW
      go_wp2_with fail
      go_ret
      exact ⟨rfl, rfl⟩

theorem lower_byte {c : UInt8} : (Lib.lowerB c).toNat = if grI c.toNat then c.toNat + 32 else c.toNat := by
  unfold Lib.lowerB Lib.isUpperB
  by_cases h : grI c.toNat = true
  · have hr := grI_rng h
    rw [if_pos h, if_pos (by
      simp only [Bool.and_eq_true, decide_eq_true_eq, UInt8.le_iff_toNat_le]
      exact ⟨by show 65 ≤ c.toNat; omega, by show c.toNat ≤ 90; omega⟩)]
    rw [UInt8.toNat_add]
    show (c.toNat + 32) % 2 ^ 8 = _
    omega
  · rw [if_neg h, if_neg]
    intro hc
    simp only [Bool.and_eq_true, decide_eq_true_eq, UInt8.le_iff_toNat_le] at hc
    have h1 : 65 ≤ c.toNat := hc.1
    have h2 : c.toNat ≤ 90 := hc.2
    exact h (grI_yes (by omega) (by omega))
theorem lower_small {c : UInt8} : smI (Lib.lowerB c).toNat = ltr c := by
  rw [lower_byte]
  unfold ltr ltI
  by_cases h : grI c.toNat = true
  · have hr := grI_rng h
    rw [if_pos h, h, Bool.or_true]
    exact smI_yes (by omega) (by omega)
  · rw [if_neg h]
    have : grI c.toNat = false := by simpa using h
    rw [this, Bool.or_false]
theorem low_snoc (l : Bs) (c : UInt8) : low (l ++ [c]) = low l ++ [Lib.lowerB c] := by simp [low, Lib.toLowerA]
/-- What Lower tells. -/
def lowV (l : Bs) : ByteArray := if l.all ltr then ⟨(low l).toArray⟩ else ⟨#[]⟩
set_option maxRecDepth 100000 in
set_option maxHeartbeats 2000000 in
theorem lower_any (s : ByteArray) (hs : s.size ≤ maxLen) (w : World) : Calls Tryd.prog 24 #[.string s] w fun e w' => e = .returned (.tuple #[.string (lowV (bs s)), .bool (wordB (bs s))]) ∧ Below w.heap.size w w' := by
  have hW : Hid (s.data.toList.take s.size = s.data.toList) := take_all_ba s
  unfold maxLen at hs
  have hno : Hid (∀ (k : Nat) (h : k < s.size), ltr (s[k]'h) = false → lowV (bs s) = ⟨#[]⟩ ∧ wordB (bs s) = false) := fun k h hc => by
    have ha : (bs s).all ltr = false := all_no_ba h hc
    refine ⟨?_, ?_⟩
    · unfold lowV; rw [ha]; rfl
    · unfold wordB; rw [ha]; simp
  have hyes : Hid ((s.data.toList.take s.size).all ltr = true → lowV (bs s) = ⟨(low (s.data.toList.take s.size)).toArray⟩ ∧ wordB (bs s) = (decide (1 ≤ s.size) && decide (s.size ≤ 64))) := fun h => by
    rw [hW.out] at h ⊢
    refine ⟨?_, ?_⟩
    · unfold lowV; rw [if_pos h]
    · unfold wordB; rw [h, size_ba, Bool.and_true]
  go_enter Tryd.func24, Tryd.ntmps24
  go_wp2_with fail
  go_loopw [4, 5] (fun o i wr => ∃ (k : Nat) (q : ByteArray), k ≤ s.size ∧ i = .int .i64 k ∧ o = .string q ∧ Below w.heap.size w wr ∧ Hid (q = ⟨(low (s.data.toList.take k)).toArray⟩) ∧ Hid ((s.data.toList.take k).all ltr = true)) (fun _ i _ => s.size - (intOf i).toNat)
  case atStart => exact ⟨0, ⟨#[]⟩, by omega, rfl, rfl, Below.refl _ _, rfl, rfl⟩
  case round =>
    obtain ⟨k, q, hk, rfl, rfl, hb, hq, ha⟩ := hrel
    by_cases hlt : k < s.size
    · have ht1 := take_succ_ba hlt
      have hI := rsmall_any ((Lib.lowerB (s[k]'hlt)).toNat : Int)
      rw [lower_small] at hI
      have hlb := lower_byte (c := s[k]'hlt)
      have hstep : Hid (ltr (s[k]'hlt) = true → (q ++ (⟨#[Lib.lowerB (s[k]'hlt)]⟩ : ByteArray) = ⟨(low (s.data.toList.take (k + 1))).toArray⟩) ∧ (s.data.toList.take (k + 1)).all ltr = true) := fun hc => by
        refine ⟨?_, all_step_ba hlt ha.out hc⟩
        rw [ht1, low_snoc, hq.out, ba_append]
      have f3 : ¬ 9223372036854775807 < q.size + 1 := by
        have h1 : q.size ≤ k := by
          rw [← size_ba, hq.out]
          show (low _).length ≤ k
          unfold low Lib.toLowerA
          rw [List.length_map, List.length_take]; omega
        omega
      have hconv : Hid (∀ W : World, (convert 71 9 (.slice (some ⟨W.heap.size, 0, none⟩) 1 1)).run Tryd.prog (W.alloc (.cells #[.int .u8 ((Lib.lowerB (s[k]'hlt)).toNat : Int)] 5)) = .ok (.string ⟨#[Lib.lowerB (s[k]'hlt)]⟩) (W.alloc (.cells #[.int .u8 ((Lib.lowerB (s[k]'hlt)).toNat : Int)] 5))) := fun W =>
        conv_bytes (base := 0) (l := [Lib.lowerB (s[k]'hlt)]) ⟨rfl, .inr ⟨W.heap.size, 1, _, rfl, Nat.zero_le _, World.alloc_heap_new W _, Nat.le_refl _, by unfold maxLen; omega, rfl, rfl⟩⟩
      have hcv := hconv.out wr
      have hx1 : (⟨#[Lib.lowerB (s[k]'hlt)]⟩ : ByteArray).size = 1 := rfl
      have hbn := below_one hb (.cells #[.int .u8 ((Lib.lowerB (s[k]'hlt)).toNat : Int)] 5)
      have hn := hno.out k hlt
      have hnh : Hid (ltr (s[k]'hlt) = false → lowV (bs s) = ⟨#[]⟩ ∧ wordB (bs s) = false) := hn
      clear hno hyes hq ha hW hconv hn
      generalize Lib.lowerB (s[k]'hlt) = cl at *
      generalize (⟨#[cl]⟩ : ByteArray) = xx at *
      cases hg : grI (s[k]'hlt).toNat with
      | true =>
        have hr := grI_rng hg
        rw [if_pos hg] at hlb
        have hlb' : ((s[k]'hlt).toNat : Int) + 32 = (cl.toNat : Int) := by omega
        cases hc : ltr (s[k]'hlt) with
        | true =>
          rw [hc] at hI
          obtain ⟨g1, g2⟩ := hstep.out hc
          have g1h : Hid (q ++ xx = ⟨(low (s.data.toList.take (k + 1))).toArray⟩) := g1
          have g2h : Hid ((s.data.toList.take (k + 1)).all ltr = true) := g2
          clear hstep g1 g2 hc hnh ht1 hlb
          obtain ⟨hr1, hr2⟩ := hr
          go_wp2_with (go_at_call 42; refine (hI _).mono ?_; rintro e w' ⟨rfl, hww⟩; subst w')
          go_roundw
          case rel => exact ⟨k + 1, q ++ xx, by omega, by simp, rfl, hbn, g1h, g2h⟩
          case measure => simp [intOf]; omega
        | false =>
          exfalso
          unfold ltr ltI at hc
          rw [hg, Bool.or_true] at hc
          cases hc
      | false =>
        rw [if_neg (by rw [hg]; simp)] at hlb
        have hlb' : ((s[k]'hlt).toNat : Int) = (cl.toNat : Int) := by omega
        have hgr : ((s[k]'hlt).toNat : Int) < 65 ∨ 90 < ((s[k]'hlt).toNat : Int) := by
          apply Classical.byContradiction
          intro h
          have := grI_yes (x := ((s[k]'hlt).toNat : Int)) (by omega) (by omega)
          rw [hg] at this; cases this
        rw [← hlb'] at hI hcv hbn
        cases hc : ltr (s[k]'hlt) with
        | true =>
          rw [hc] at hI
          obtain ⟨g1, g2⟩ := hstep.out hc
          have g1h : Hid (q ++ xx = ⟨(low (s.data.toList.take (k + 1))).toArray⟩) := g1
          have g2h : Hid ((s.data.toList.take (k + 1)).all ltr = true) := g2
          clear hstep g1 g2 hc hnh ht1 hlb hlb' hg
          rcases hgr with hgr | hgr
          · go_wp2_with (go_at_call 42; refine (hI _).mono ?_; rintro e w' ⟨rfl, hww⟩; subst w')
            go_roundw
            case rel => exact ⟨k + 1, q ++ xx, by omega, by simp, rfl, hbn, g1h, g2h⟩
            case measure => simp [intOf]; omega
          · go_wp2_with (go_at_call 42; refine (hI _).mono ?_; rintro e w' ⟨rfl, hww⟩; subst w')
            go_roundw
            case rel => exact ⟨k + 1, q ++ xx, by omega, by simp, rfl, hbn, g1h, g2h⟩
            case measure => simp [intOf]; omega
        | false =>
          rw [hc] at hI
          obtain ⟨n1, n2⟩ := hnh.out hc
          have n1h : Hid (lowV (bs s) = ⟨#[]⟩ ∧ wordB (bs s) = false) := ⟨n1, n2⟩
          clear hstep hc hnh ht1 hlb hlb' hg n1 n2
          rcases hgr with hgr | hgr
          · go_wp2_with (go_at_call 42; refine (hI _).mono ?_; rintro e w' ⟨rfl, hww⟩; subst w')
            go_ret2
            exact ⟨by rw [n1h.out.1, n1h.out.2]; rfl, hb⟩
          · go_wp2_with (go_at_call 42; refine (hI _).mono ?_; rintro e w' ⟨rfl, hww⟩; subst w')
            go_ret2
            exact ⟨by rw [n1h.out.1, n1h.out.2]; rfl, hb⟩
    · obtain rfl : k = s.size := by omega
      obtain ⟨y1, y2⟩ := hyes.out ha.out
      rw [← hq.out] at y1
      have yh : Hid (lowV (bs s) = q ∧ wordB (bs s) = (decide (1 ≤ s.size) && decide (s.size ≤ 64))) := ⟨y1, y2⟩
      clear hno hyes hq ha hW y1 y2
      by_cases z1 : 1 ≤ s.size
      · have z1' : (1 : Int) ≤ s.size := by omega
        by_cases z2 : s.size ≤ 64
        · have z2' : (s.size : Int) ≤ 64 := by omega
          go_wp2_with fail
          go_ret2
          exact ⟨by rw [yh.out.1, yh.out.2, decide_eq_true z1, decide_eq_true z2]; rfl, hb⟩
        · have z2' : ¬ (s.size : Int) ≤ 64 := by omega
          go_wp2_with fail
          go_ret2
          refine ⟨?_, hb⟩
          rw [yh.out.1, yh.out.2, decide_eq_true z1, decide_eq_false z2]; rfl
      · have z1' : ¬ (1 : Int) ≤ s.size := by omega
        go_wp2_with fail
        go_ret2
        refine ⟨?_, hb⟩
        rw [yh.out.1, yh.out.2, decide_eq_false z1]; rfl
end Go.Proofs.YtfblhpkndfbhgaaDoor
