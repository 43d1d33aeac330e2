/-
  What is proved here: what the small functions of number answer: isLevel, isList, refuse; the document's own Fits and Check; may and Pick.
-/
import Derived.Test.YtjagnidkjpmkcaaDoorMath
import Derived.WalkKit
import Derived.WalkSpells
import Derived.Shelf.Abstract
import Derived.LaidEqlPtr
import Derived.Lib.Builder
import Derived.OwnWalk
import Derived.Laws.StructEq
import Derived.BigQuiet
namespace Go.Proofs.YtjagnidkjpmkcaaDoor
open Go.RowKit Go.Shelf

abbrev En := Int × Int
def isLv (l : Int) : Bool := decide (0 ≤ l) && decide (l < 4)
def isLi (l : Int) : Bool := decide (0 ≤ l) && decide (l ≤ 8)
def okE (x : En) : Bool := isLi x.1 && isLv x.2
def refE (ls : List En) : Int := if 3999 < ls.length then 3 else if ls.all okE then 0 else 2
def fitsE (l n : Int) : Int := if isLv l then (if 1 ≤ n ∧ n ≤ 3999 then 0 else 5) else 2
def pickI (x n : Int) : Int := x % n

theorem isLevel_any (l : Int) (w : World) : Calls Tryd.prog 22 #[.int .i64 l] w fun e w' => e = .returned (.bool (isLv l)) ∧ w' = w := by
  go_enter Tryd.func22, Tryd.ntmps22
  go_wp2
  all_goals (go_ret; refine ⟨?_, rfl⟩; congr 2; simp_all [isLv] <;> first | omega | (rw [Bool.eq_iff_iff]; simp; omega))

theorem isList_any (l : Int) (w : World) : Calls Tryd.prog 29 #[.int .i64 l] w fun e w' => e = .returned (.bool (isLi l)) ∧ w' = w := by
  go_enter Tryd.func29, Tryd.ntmps29
  go_wp2
  all_goals (go_ret; refine ⟨?_, rfl⟩; congr 2; simp_all [isLi] <;> first | omega | (rw [Bool.eq_iff_iff]; simp; omega))

theorem fits_any (l n : Int) (w : World) : Calls Tryd.prog 10 #[.int .i64 l, .int .i64 n] w fun e w' => e = .returned (.int .i64 (fitsE l n)) ∧ w' = w := by
  go_enter Tryd.func10, Tryd.ntmps10
  go_wp2
  all_goals (go_ret; refine ⟨?_, rfl⟩; congr 2; simp_all [fitsE, isLv] <;> omega)

theorem tmod_neg {x : Int} {n : Nat} (h0 : 0 < n) (h : x.tmod n < 0) : x.tmod n + n = x % n := by
  have h1 := Int.emod_nonneg x (b := (n : Int)) (by omega)
  rw [Int.tmod_eq_emod] at h ⊢
  split at h
  · omega
  · rename_i hd
    rw [if_neg hd]; omega
theorem tmod_pos {x : Int} {n : Nat} (h0 : 0 < n) (h : 0 ≤ x.tmod n) : x.tmod n = x % n := by
  have h1 := Int.emod_lt_of_pos x (b := (n : Int)) (by omega)
  rw [Int.tmod_eq_emod] at h ⊢
  split at h
  · rename_i hd
    rw [if_pos hd]; omega
  · omega
theorem pick_lo (x : Int) {n : Nat} (h0 : 0 < n) : 0 ≤ pickI x n := Int.emod_nonneg x (b := (n : Int)) (by omega)
theorem pick_hi (x : Int) {n : Nat} (h0 : 0 < n) : pickI x n < n := Int.emod_lt_of_pos x (b := (n : Int)) (by omega)

theorem pick_any (x : Int) (n : Nat) (h0 : 0 < n) (hn : n ≤ 1000000) (w : World) : Calls Tryd.prog 21 #[.int .i64 x, .int .i64 n] w fun e w' => e = .returned (.int .i64 (pickI x n)) ∧ w' = w := by
  have hn0 : ¬ ((n : Int) < 1) := by omega
  have hz : ¬ ((n : Int) = 0) := by omega
  go_enter Tryd.func21, Tryd.ntmps21
  go_wp2
  all_goals (go_ret; refine ⟨?_, rfl⟩)
  · have h1 := tmod_neg h0 (by assumption)
    have h2 := pick_lo x h0
    have h3 := pick_hi x h0
    show Ending.returned (Value.int IntKind.i64 (wrap64 (x.tmod n + n))) = _
    rw [h1, show wrap64 (x % n) = x % n by unfold pickI at h2 h3; unfold wrap64; omega]
    rfl
  · have h1 := tmod_pos h0 (by assumption)
    show Ending.returned (Value.int IntKind.i64 (x.tmod n)) = _
    rw [h1]
    rfl

/-- A list of paragraphs, in memory. -/
structure EnAt (W : World) (v : Value) (ls : List En) : Prop where
  ex : ∃ a cap, v = .slice a ls.length cap ∧ (ls = [] ∨ ∃ b o, a = some ⟨b, o, none⟩ ∧ b < W.heap.size ∧ ∀ (i : Nat) (h : i < ls.length),
    W.cell? ⟨b, o + i * 2, none⟩ = some (.int .i64 ls[i].1) ∧ W.cell? ⟨b, o + i * 2 + 1, none⟩ = some (.int .i64 ls[i].2))
  few : ls.length ≤ 140737488355328

theorem EnAt.below {W W' : World} {v : Value} {ls : List En} (h : EnAt W v ls) (hb : Below W.heap.size W W') : EnAt W' v ls := by
  obtain ⟨a, cap, rfl, h2⟩ := h.ex
  refine ⟨⟨a, cap, rfl, ?_⟩, h.few⟩
  rcases h2 with h2 | ⟨b, o, rfl, hlt, hc⟩
  · exact .inl h2
  · refine .inr ⟨b, o, rfl, Nat.lt_of_lt_of_le hlt hb.size, fun i hi => ?_⟩
    obtain ⟨c0, c1⟩ := hc i hi
    have hw : ∀ j v, W.cell? ⟨b, j, none⟩ = some v → W'.cell? ⟨b, j, none⟩ = some v := fun j v hv => by
      rw [← hv]; exact hb.cell hlt
    exact ⟨hw _ _ c0, hw _ _ c1⟩

theorem all_no {ls : List En} {k : Nat} (h : k < ls.length) (hm : okE ls[k] = false) : ls.all okE = false := by
  cases ha : ls.all okE with
  | false => rfl
  | true => have := List.all_eq_true.1 ha ls[k] (List.getElem_mem h); rw [hm] at this; cases this
theorem all_take {ls : List En} {k : Nat} (h : k < ls.length) (ha : (ls.take k).all okE = true) (hm : okE ls[k] = true) : (ls.take (k + 1)).all okE = true := by
  rw [List.take_succ_eq_append_getElem h, List.all_append, ha]; simp [hm]

set_option maxRecDepth 100000 in
set_option maxHeartbeats 2000000 in
theorem refuse_any (v : Value) (ls : List En) (w : World) (hS : EnAt w v ls) :
    Calls Tryd.prog 27 #[v] w fun e w' => e = .returned (.int .i64 (refE ls)) ∧ Below w.heap.size w w' := by
  obtain ⟨a, cap, rfl, h2⟩ := hS.ex
  have hlen := hS.few
  by_cases hl : 3999 < ls.length
  · have he : refE ls = 3 := by unfold refE; rw [if_pos hl]
    rw [he]
    go_enter Tryd.func27, Tryd.ntmps27
    go_wp2_with fail
    go_ret
    exact ⟨rfl, Below.refl _ _⟩
  · have he : Hid (refE ls = if ls.all okE then 0 else 2) := by show _ = _; unfold refE; rw [if_neg hl]
    go_enter Tryd.func27, Tryd.ntmps27
    go_wp2_with fail
    go_loopw [10] (fun i wr => ∃ k : Nat, k ≤ ls.length ∧ i = .int .i64 k ∧ Below w.heap.size w wr ∧ Hid ((ls.take k).all okE = true)) (fun i _ => ls.length - (intOf i).toNat)
    case atStart => exact ⟨0, by omega, rfl, Below.refl _ _, rfl⟩
    case round =>
      obtain ⟨k, hk, rfl, hb, hall⟩ := hrel
      by_cases hlt : k < ls.length
      · rcases h2 with h2 | ⟨b, o, rfl, hbl, hc⟩
        · rw [h2] at hlt; simp at hlt
        · obtain ⟨c0, c1⟩ := hc k hlt
          have hw : ∀ j v, w.cell? ⟨b, j, none⟩ = some v → wr.cell? ⟨b, j, none⟩ = some v := fun j v hv => by rw [← hv]; exact hb.cell hbl
          have d0 := hw _ _ c0; have d1 := hw _ _ c1
          clear hw c0 c1 hc
          have hba := hb.alloc hb.size (Obj.cells #[.int .i64 ls[k].1, .int .i64 ls[k].2] 37)
          have hno : Hid (okE ls[k] = false → refE ls = 2) := fun h => by rw [he.out, all_no hlt h]; rfl
          have hyes : Hid (okE ls[k] = true → (ls.take (k + 1)).all okE = true) := all_take hlt hall
          clear he
          cases h1 : isLi ls[k].1
          · have h5 : Hid _ := hno.out (by unfold okE; rw [h1]; rfl)
            clear hno hyes hall
            go_wp2_with (first | (go_at_call 29; refine (isList_any _ _).mono ?_; rw [h1]; rintro e w' ⟨rfl, rfl⟩) | (go_at_call 22; refine (isLevel_any _ _).mono ?_; rintro e w' ⟨rfl, rfl⟩))
            go_ret
            exact ⟨by rw [h5.out]; rfl, hba⟩
          · cases h3 : isLv ls[k].2
            · have h5 : Hid _ := hno.out (by unfold okE; rw [h1, h3]; rfl)
              clear hno hyes hall
              go_wp2_with (first | (go_at_call 29; refine (isList_any _ _).mono ?_; rw [h1]; rintro e w' ⟨rfl, rfl⟩) | (go_at_call 22; refine (isLevel_any _ _).mono ?_; rw [h3]; rintro e w' ⟨rfl, rfl⟩))
              go_ret
              exact ⟨by rw [h5.out]; rfl, hba⟩
            · have h5 : Hid _ := hyes.out (by unfold okE; rw [h1, h3]; rfl)
              clear hno hyes hall
              go_wp2_with (first | (go_at_call 29; refine (isList_any _ _).mono ?_; rw [h1]; rintro e w' ⟨rfl, rfl⟩) | (go_at_call 22; refine (isLevel_any _ _).mono ?_; rw [h3]; rintro e w' ⟨rfl, rfl⟩))
              go_roundw
              case rel => exact ⟨k + 1, by omega, by simp, hba, h5⟩
              case measure => simp [intOf]; omega
      · obtain rfl : k = ls.length := by omega
        have h6 : Hid (refE ls = 0) := by show _ = _; rw [he.out, ← List.take_length (l := ls), hall.out]; rfl
        clear he hall
        go_wp2_with fail
        go_ret
        exact ⟨by rw [h6.out]; rfl, hb⟩

end Go.Proofs.YtjagnidkjpmkcaaDoor
