/-
  What is proved here: whether a byte is in a text; the document's Em.
-/
import Derived.Test.YtkhnfmdhdfpdhaaMetA
import Derived.WalkKit
import Derived.WalkSpells
import Derived.LoopN
namespace Go.Proofs.Ytkhnfmdhdfpdhaa
open Go.RowKit Go.Shelf

/-- Is a byte in a text? -/
def inB (x : Int) (t : ByteArray) : Bool := t.data.toList.any (fun b => decide ((b.toNat : Int) = x))
theorem in_yes {x : Int} {t : ByteArray} {k : Nat} (h : k < t.size) (e : bt t k = x) : inB x t = true := by
  rw [bt_eq h] at e
  exact List.any_eq_true.2 ⟨t[k], by simp [ByteArray.getElem_eq_getElem_data], by simpa using e⟩
theorem in_no {x : Int} {t : ByteArray} (h : ∀ k, k < t.size → bt t k ≠ x) : inB x t = false := by
  refine List.any_eq_false.2 fun b hb => ?_
  obtain ⟨k, hk, rfl⟩ := List.getElem_of_mem hb
  have hk' : k < t.size := by simpa using hk
  have := h k hk'
  rw [bt_eq hk'] at this
  simpa [ByteArray.getElem_eq_getElem_data] using this

set_option maxRecDepth 100000 in
set_option maxHeartbeats 1000000 in
theorem in_any (x : Int) (t : ByteArray) (w : World) (ht : t.size ≤ 4096) : Calls Try.prog 99 #[.int .u8 x, .string t] w fun e w' => e = .returned (.bool (inB x t)) ∧ w' = w := by
  have hY : Hid (∀ k, k < t.size → bt t k = x → inB x t = true) := fun k hk e => in_yes hk e
  have hN : Hid ((∀ k, k < t.size → bt t k ≠ x) → inB x t = false) := in_no
  generalize inB x t = n at hY hN ⊢
  go_enter Try.func99, Try.ntmps99
  go_wp2
  go_loopw [5] (fun i wr => ∃ k : Nat, k ≤ t.size ∧ i = .int .i64 k ∧ wr = w ∧ Hid (∀ j, j < k → bt t j ≠ x)) (fun i _ => t.size - (intOf i).toNat)
  case atStart => exact ⟨0, by omega, rfl, rfl, fun j hj => by omega⟩
  case round =>
    obtain ⟨k, hk, rfl, rfl, hall⟩ := hrel
    by_cases hlt : k < t.size
    · have hb : Hid (bt t k = ((t[k]'hlt).toNat : Int)) := bt_eq hlt
      go_wp2_with fail
      · rename_i hv
        have hn := hY.out k hlt (hb.out.trans (by simpa using hv))
        subst hn
        go_ret
        exact ⟨rfl, rfl⟩
      · rename_i hv
        have hyes : Hid (∀ j, j < k + 1 → bt t j ≠ x) := fun j hj => by
          by_cases h : j < k
          · exact hall.out j h
          · obtain rfl : j = k := by omega
            rw [hb.out]
            simpa using hv
        clear hY hN hall hb hv
        go_roundw
        case rel => exact ⟨k + 1, by omega, by simp, by first | rfl | trivial, hyes⟩
        case measure => simp [intOf]; omega
    · have hn := hN.out (fun j hj => hall.out j (by omega))
      clear hY hN hall
      subst hn
      go_wp2_with fail
      go_ret
      exact ⟨rfl, rfl⟩

end Go.Proofs.Ytkhnfmdhdfpdhaa
