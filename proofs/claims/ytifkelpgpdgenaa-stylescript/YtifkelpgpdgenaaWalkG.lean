/-
  What is proved here: what May of style answers.
-/
import Derived.Test.YtifkelpgpdgenaaWalkE
import Derived.Test.YtifkelpgpdgenaaWalkF
namespace Go.Proofs.Ytifkelpgpdgenaa
open Go.RowKit Go.Shelf

def mayP (l : List Int) : Bool := (List.range 17).all (fun k => mayS ((k : Int) + 1) (l.getD k 0))
theorem mayP_no {l : List Int} {k : Nat} (hk : k < 17) (h : mayS ((k : Int) + 1) (l.getD k 0) = false) : mayP l = false := by
  cases hm : mayP l with
  | false => rfl
  | true => have := List.all_eq_true.1 hm k (List.mem_range.2 hk); rw [h] at this; cases this
theorem mayP_yes {l : List Int} (h : ∀ k : Nat, k < 17 → mayS ((k : Int) + 1) (l.getD k 0) = true) : mayP l = true :=
  List.all_eq_true.2 fun k hk => h k (List.mem_range.1 hk)

set_option maxRecDepth 100000 in
set_option maxHeartbeats 4000000 in
theorem mayP_any (l : List Int) (hl : l.length = 17) (w : World) : Calls Try.prog 11 #[prV l] w fun e w' => e = .returned (.bool (mayP l)) ∧ Below w.heap.size w w' := by
  have hP := PB.new w (T := 23) hl
  have hB := (Below.refl w.heap.size w).alloc (Nat.le_refl _) (Obj.cells (prC l) 23)
  generalize hw0 : w.alloc (Obj.cells (prC l) 23) = w0 at hP hB
  unfold prV
  go_enter Try.func11, Try.ntmps11
  go_wp2_with fail
  try rw [hw0]
  clear hw0
  go_loopw [3] (fun i wr => ∃ k : Nat, k ≤ 17 ∧ i = .int .i64 ((k : Int) + 1) ∧ Below w0.heap.size w0 wr ∧ Hid (∀ j : Nat, j < k → mayS ((j : Int) + 1) (l.getD j 0) = true)) (fun i _ => 18 - (intOf i).toNat)
  case atStart => exact ⟨0, by omega, rfl, Below.refl _ _, fun j hj => by omega⟩
  case round =>
    obtain ⟨k, hk, rfl, hb, hall⟩ := hrel
    by_cases hlt : k < 17
    · have hP2 := hP.below hb hP.lt
      have hc := hP2.cell hlt
      have hf := field_yes w.heap.size ((k : Int) + 1) (by omega)
      have hk1 : ((k : Int) + 1).toNat - 1 = k := by omega
      rw [hk1] at hf
      have hm := may_any ((k : Int) + 1) (l.getD k 0)
      have hno : Hid _ := mayP_no (l := l) hlt
      have hle : (k : Int) + 1 ≤ 17 := by omega
      obtain ⟨v, hvE⟩ : ∃ v, l.getD k 0 = v := ⟨_, rfl⟩
      rw [hvE] at hc hm hno
      replace hvE : Hid _ := hvE
      unfold seV at hm
      clear hP2 hk1
      cases hv : mayS ((k : Int) + 1) v
      · rw [hv] at hm
        have hno' := hno.out hv
        clear hno hall
        go_wp2_with (first
          | (go_at_call 34; refine (hf _).mono ?_; rintro e w' ⟨rfl, hww⟩; subst w')
          | (go_at_call 33; refine (hm _).mono ?_; rintro e w' ⟨rfl, hb'⟩))
        go_ret
        exact ⟨by first | rfl | (rw [hno']; rfl), hB.trans ((hb.trans (hb'.mono hb.size)).mono hB.size)⟩
      · rw [hv] at hm
        have hyes : Hid (∀ j : Nat, j < k + 1 → mayS ((j : Int) + 1) (l.getD j 0) = true) := fun j hj => by
          by_cases h : j < k
          · exact hall.out j h
          · obtain rfl : j = k := by omega
            rw [hvE.out]; exact hv
        clear hno hall
        go_wp2_with (first
          | (go_at_call 34; refine (hf _).mono ?_; rintro e w' ⟨rfl, hww⟩; subst w')
          | (go_at_call 33; refine (hm _).mono ?_; rintro e w' ⟨rfl, hb'⟩))
        go_roundw
        case rel => exact ⟨k + 1, by omega, by simp, hb.trans (hb'.mono hb.size), hyes⟩
        case measure => simp [intOf]; omega
    · have hgt : ¬ ((k : Int) + 1 ≤ 17) := by omega
      have hk17 : k = 17 := by omega
      rw [hk17] at hall
      have hy := mayP_yes hall.out
      clear hall
      go_wp2_with fail
      go_ret
      exact ⟨by first | rfl | (rw [hy]; rfl), hB.trans (hb.mono hB.size)⟩

end Go.Proofs.Ytifkelpgpdgenaa
