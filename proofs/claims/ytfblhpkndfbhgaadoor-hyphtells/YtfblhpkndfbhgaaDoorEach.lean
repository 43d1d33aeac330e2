/-
  What is proved here: what eachDigit does, its digits laid.
-/
import Derived.Test.YtfblhpkndfbhgaaDoorLay
namespace Go.Proofs.YtfblhpkndfbhgaaDoor
open Go.RowKit Go.Shelf

theorem take_succ_ba {p : ByteArray} {k : Nat} (h : k < p.size) : p.data.toList.take (k + 1) = p.data.toList.take k ++ [p[k]'h] := by
  have hl : k < p.data.toList.length := by simpa using h
  rw [List.take_succ_eq_append_getElem hl]
  simp [ByteArray.getElem_eq_getElem_data]
theorem take_all_ba (p : ByteArray) : p.data.toList.take p.size = p.data.toList := List.take_of_length_le (by show p.data.toList.length ≤ p.data.size; simp)
theorem ltrs_snoc (q : Bs) (c : UInt8) : ltrs (q ++ [c]) = if dgt c then ltrs q else ltrs q ++ [c] := by
  unfold ltrs
  rw [List.filter_append]
  by_cases h : dgt c <;> simp [h]
theorem digs_snoc (q : Bs) (c : UInt8) : digs 0 (q ++ [c]) = if dgt c then digs 0 q ++ [((ltrs q).length, (c.toNat : Int) - 48)] else digs 0 q := by
  rw [digs_append]
  by_cases h : dgt c
  · rw [if_pos h, digs, if_pos h]; simp [digs]
  · rw [if_neg h, digs, if_neg h]; simp [digs]
theorem ltrs_le (q : Bs) : (ltrs q).length ≤ q.length := List.length_filter_le _ _

set_option maxRecDepth 100000 in
set_option maxHeartbeats 1000000 in
theorem eachDigit_any (p : ByteArray) (hp : p.size ≤ 200) {w0 : World} {v0 : Value} {b o : Nat} {cs : Array Value} {t : TypeId} {d : List Int} {w : World} (ho : o < cs.size) (ht : t ≠ 3) (h : Dig w0 v0 b o cs t d w) (hd : d.length ≤ 1000) :
    Calls Tryd.prog 51 #[.string p, .func (.func 52) #[.pointer (some ⟨b, o, none⟩)] #[]] w fun e w' => e = .returned (.tuple #[]) ∧ Dig w0 v0 b o cs t (layAll d (digs 0 p.data.toList)) w' := by
  have hW : Hid (p.data.toList.take p.size = p.data.toList) := take_all_ba p
  go_enter Tryd.func51, Tryd.ntmps51
  go_wp2_with fail
  go_loopw [4, 8] (fun n i wr => ∃ (k m : Nat) (d1 : List Int), k ≤ p.size ∧ i = .int .i64 k ∧ n = .int .i64 m ∧ m ≤ k ∧ Hid (m = (ltrs (p.data.toList.take k)).length) ∧ Hid (d1 = layAll d (digs 0 (p.data.toList.take k))) ∧ d1.length ≤ 1000 ∧ Dig w0 v0 b o cs t d1 wr) (fun _ i _ => p.size - (intOf i).toNat)
  case atStart => exact ⟨0, 0, d, by omega, rfl, rfl, by omega, rfl, rfl, hd, h⟩
  case round =>
    obtain ⟨k, m, d1, hk, rfl, rfl, hmk, hm, hd1, hl1, hD⟩ := hrel
    by_cases hlt : k < p.size
    · have ht1 := take_succ_ba hlt
      cases hc : dgI ((p[k]'hlt).toNat : Int) with
      | true =>
        have hr := dgI_rng hc
        have hm2 : Hid (m = (ltrs (p.data.toList.take (k + 1))).length) := by
          show _ = _
          rw [ht1, ltrs_snoc, show dgt (p[k]'hlt) = true from hc, if_pos rfl]; exact hm.out
        have hd2 : Hid (layL d1 m (((p[k]'hlt).toNat : Int) - 48) = layAll d (digs 0 (p.data.toList.take (k + 1)))) := by
          show _ = _
          rw [ht1, digs_snoc, show dgt (p[k]'hlt) = true from hc, if_pos rfl, layAll_append, ← hd1.out, ← hm.out]; rfl
        have hS := lay_step ho ht hD m (((p[k]'hlt).toNat : Int) - 48) (by omega) (by omega)
        have hl2 : (layL d1 m (((p[k]'hlt).toNat : Int) - 48)).length ≤ 1000 := by rw [lay_len]; omega
        have hI := isDigit_any ((p[k]'hlt).toNat : Int)
        rw [hc] at hI
        clear ht1 hm hd1 hc
        generalize layL d1 m (((p[k]'hlt).toNat : Int) - 48) = d2 at hd2 hS hl2
        obtain ⟨hr1, hr2⟩ := hr
        go_wp2_with (first | (go_at_call 46; refine (hI _).mono ?_; rintro e w' ⟨rfl, hww⟩; subst w') | (go_at_call 52; refine hS.mono ?_; rintro e w' ⟨rfl, hD2⟩))
        go_roundw
        case rel => exact ⟨k + 1, m, d2, by omega, by simp, rfl, by omega, hm2, hd2, hl2, hD2⟩
        case measure => simp [intOf]; omega
      | false =>
        have hm2 : Hid (m + 1 = (ltrs (p.data.toList.take (k + 1))).length) := by
          show _ = _
          rw [ht1, ltrs_snoc, show dgt (p[k]'hlt) = false from hc]; simp [hm.out]
        have hd2 : Hid (d1 = layAll d (digs 0 (p.data.toList.take (k + 1)))) := by
          show _ = _
          rw [ht1, digs_snoc, show dgt (p[k]'hlt) = false from hc]; simpa using hd1.out
        have hI := isDigit_any ((p[k]'hlt).toNat : Int)
        rw [hc] at hI
        clear ht1 hm hd1 hc
        go_wp2_with (go_at_call 46; refine (hI _).mono ?_; rintro e w' ⟨rfl, hww⟩; subst w')
        go_roundw
        case rel => exact ⟨k + 1, m + 1, d1, by omega, by simp, by simp, by omega, hm2, hd2, hl1, hD⟩
        case measure => simp [intOf]; omega
    · obtain rfl : k = p.size := by omega
      rw [hW.out] at hd1
      have := hd1.out
      subst this
      clear hW hm hd1
      go_wp2_with fail
      go_returns
      exact ⟨rfl, hD⟩

end Go.Proofs.YtfblhpkndfbhgaaDoor
