/-
  What is proved here: whether a label or a mark may stand; whether a text has a Field; how many Refs it has.
-/
import Derived.Test.YtkhnfmdhdfpdhaaMetE
import Derived.Lib.Bytealg
namespace Go.Proofs.Ytkhnfmdhdfpdhaa
open Go.RowKit Go.Shelf

/-- All bytes are letters. -/
def visB (s : ByteArray) : Bool := decide (∀ k, k < s.size → 32 < bt s k ∧ bt s k ≤ 126)
def standB (s : ByteArray) (a b : Int) : Bool := decide (a ≤ s.size ∧ (s.size : Int) ≤ b) && visB s
theorem vis_no {s : ByteArray} {k : Nat} (hk : k < s.size) (h : ¬ (32 < bt s k ∧ bt s k ≤ 126)) : visB s = false := decide_eq_false (fun ha => h (ha k hk))

set_option maxRecDepth 100000 in
set_option maxHeartbeats 1000000 in
theorem mayStand_any (s : ByteArray) (a b : Int) (hb : b ≤ 16) (w : World) : Calls Try.prog 89 #[.string s, .int .i64 a, .int .i64 b] w fun e w' => e = .returned (.bool (standB s a b)) ∧ w' = w := by
  by_cases h1 : a ≤ s.size
  · by_cases h2 : (s.size : Int) ≤ b
    · have e0 : standB s a b = visB s := by unfold standB; rw [decide_eq_true ⟨h1, h2⟩, Bool.true_and]
      rw [e0]
      clear e0
      have hN : Hid (∀ k, k < s.size → ¬ (32 < bt s k ∧ bt s k ≤ 126) → visB s = false) := fun k hk h => vis_no hk h
      have hY : Hid ((∀ k, k < s.size → 32 < bt s k ∧ bt s k ≤ 126) → visB s = true) := fun h => decide_eq_true h
      generalize visB s = r at hN hY ⊢
      go_enter Try.func89, Try.ntmps89
      go_wp2
      go_loopw [20] (fun i wr => ∃ k : Nat, k ≤ s.size ∧ i = .int .i64 k ∧ wr = w ∧ Hid (∀ j, j < k → 32 < bt s j ∧ bt s j ≤ 126)) (fun i _ => s.size - (intOf i).toNat)
      case atStart => exact ⟨0, by omega, rfl, rfl, fun j hj => by omega⟩
      case round =>
        obtain ⟨k, hk, rfl, rfl, hall⟩ := hrel
        by_cases hlt : k < s.size
        · have hb0 : Hid (bt s k = ((s[k]'hlt).toNat : Int)) := bt_eq hlt
          have hno := hN.out k hlt
          have hno' : Hid (¬ (32 < bt s k ∧ bt s k ≤ 126) → r = false) := hno
          have hyes : Hid ((32 < bt s k ∧ bt s k ≤ 126) → ∀ j, j < k + 1 → 32 < bt s j ∧ bt s j ≤ 126) := fun hv j hj => by
            by_cases h : j < k
            · exact hall.out j h
            · obtain rfl : j = k := by omega
              exact hv
          clear hN hY hall hno
          by_cases d1 : ((s[k]'hlt).toNat : Int) ≤ 32
          · have hn := hno'.out (by rw [hb0.out]; omega)
            subst hn
            clear hno' hyes hb0
            go_wp2_with fail
            go_ret
            exact ⟨rfl, rfl⟩
          · by_cases d2 : 126 < ((s[k]'hlt).toNat : Int)
            · have hn := hno'.out (by rw [hb0.out]; omega)
              subst hn
              clear hno' hyes hb0
              go_wp2_with fail
              go_ret
              exact ⟨rfl, rfl⟩
            · have hy : Hid (∀ j, j < k + 1 → 32 < bt s j ∧ bt s j ≤ 126) := hyes.out (by rw [hb0.out]; omega)
              clear hno' hyes hb0
              go_wp2_with fail
              go_roundw
              case rel => exact ⟨k + 1, by omega, by simp, by first | rfl | trivial, hy⟩
              case measure => simp [intOf]; omega
        · have hn := hY.out (fun j hj => hall.out j (by omega))
          clear hN hY hall
          subst hn
          go_wp2_with fail
          go_ret
          exact ⟨rfl, rfl⟩
    · have e0 : standB s a b = false := by unfold standB; rw [decide_eq_false (fun h => h2 h.2), Bool.false_and]
      rw [e0]
      clear e0
      go_enter Try.func89, Try.ntmps89
      go_wp2
      go_ret
      exact ⟨rfl, rfl⟩
  · have e0 : standB s a b = false := by unfold standB; rw [decide_eq_false (fun h => h1 h.1), Bool.false_and]
    rw [e0]
    clear e0
    go_enter Try.func89, Try.ntmps89
    go_wp2
    go_ret
    exact ⟨rfl, rfl⟩

/-- Has a text a Field? -/
def fieldB (t : ByteArray) : Bool := decide (∃ k, k < t.size ∧ bt t k = 3)
theorem mem_bt {t : ByteArray} {c : UInt8} : c ∈ t.data.toList ↔ ∃ k, k < t.size ∧ bt t k = (c.toNat : Int) := by
  constructor
  · intro h
    obtain ⟨k, hk, rfl⟩ := List.getElem_of_mem h
    have hk' : k < t.size := by simpa using hk
    exact ⟨k, hk', by rw [bt_eq hk']; simp [ByteArray.getElem_eq_getElem_data]⟩
  · rintro ⟨k, hk, e⟩
    rw [bt_eq hk] at e
    have : t[k] = c := UInt8.toNat_inj.1 (by omega)
    rw [← this]
    simp [ByteArray.getElem_eq_getElem_data]
theorem index_pos (l : List UInt8) (c : UInt8) : (0 ≤ Lib.indexByte l c) ↔ c ∈ l := by
  induction l with
  | nil => simp [Lib.indexByte]
  | cons b l ih =>
    have hg := Lib.indexByte_ge l c
    rw [Lib.indexByte]
    by_cases e : b = c
    · simp [e]
    · have e' : (b == c) = false := by simpa using e
      rw [e']
      by_cases h : Lib.indexByte l c = -1
      · simp [h]
        have : ¬ c ∈ l := fun hm => by have := ih.2 hm; omega
        exact ⟨fun h => e h.symm, this⟩
      · have h' : (Lib.indexByte l c == -1) = false := by simpa using h
        rw [h']
        have : c ∈ l := ih.1 (by omega)
        simp [this]
        omega
theorem field_index (t : ByteArray) : decide (0 ≤ Lib.indexByte t.data.toList 3) = fieldB t := by
  unfold fieldB
  rw [decide_eq_decide, index_pos, mem_bt]
  rfl

set_option maxRecDepth 100000 in
set_option maxHeartbeats 1000000 in
theorem liteIndex_any (t : ByteArray) (c : Int) (w : World) : Calls Try.prog 102 #[.string t, .int .u8 c] w fun e w' => e = .returned (.int .i64 (Lib.indexByte t.data.toList c.toNat.toUInt8)) ∧ w' = w := by
  go_enter Try.func102, Try.ntmps102
  go_wp2
  rw [run_callFunc_extern Try.func108 (by kernel_rfl) (by kernel_rfl) (by kernel_rfl) (e := Extern.BytealgIndexByte.indexByte) (by kernel_rfl), Lib.run_indexByteString]
  simp only [Result.andThen]
  rw [Oper.upon_value]
  go_wp2
  go_ret
  exact ⟨rfl, rfl⟩
set_option maxRecDepth 100000 in
set_option maxHeartbeats 1000000 in
theorem indexByte_any (t : ByteArray) (w : World) : Calls Try.prog 85 #[.string t, .int .u8 3] w fun e w' => e = .returned (.int .i64 (Lib.indexByte t.data.toList 3)) ∧ w' = w := by
  have h := liteIndex_any t 3 w
  go_enter Try.func85, Try.ntmps85
  go_wp2_with (go_at_call 102; refine h.mono ?_; rintro e w' ⟨rfl, hww⟩; subst w')
  go_ret
  exact ⟨rfl, rfl⟩

/-- How many Refs are among the first bytes. -/
def refN (t : ByteArray) : Nat → Nat
  | 0 => 0
  | k + 1 => refN t k + (if bt t k = 2 then 1 else 0)
theorem refN_take (t : ByteArray) : ∀ k, k ≤ t.size → refN t k = (t.data.toList.take k).count 2
  | 0, _ => by simp [refN]
  | k + 1, h => by
    have hk : k < t.data.toList.length := by simp; omega
    rw [List.take_succ_eq_append_getElem hk, List.count_append, refN, refN_take t k (by omega)]
    have e : bt t k = ((t.data.toList[k]).toNat : Int) := by rw [bt_eq (by omega)]; simp [ByteArray.getElem_eq_getElem_data]
    rw [e]
    congr 1
    by_cases h2 : t.data.toList[k] = 2
    · rw [h2]; rfl
    · have h3 : ¬ ((t.data.toList[k]).toNat : Int) = 2 := fun h => h2 (UInt8.toNat_inj.1 (by show _ = 2; omega))
      rw [if_neg h3]
      generalize t.data.toList[k] = y at h2
      simp [h2]
theorem refN_count (t : ByteArray) : t.data.toList.count 2 = refN t t.size := by
  rw [refN_take t t.size (Nat.le_refl _)]
  congr 1
  symm
  apply List.take_of_length_le
  simp
theorem refN_le (t : ByteArray) : ∀ k, refN t k ≤ k
  | 0 => Nat.le_refl _
  | k + 1 => by
    have := refN_le t k
    show refN t k + (if bt t k = 2 then 1 else 0) ≤ k + 1
    split <;> omega

set_option maxRecDepth 100000 in
set_option maxHeartbeats 1000000 in
theorem count_any (t : ByteArray) (w : World) : Calls Try.prog 103 #[.string t, .string { data := #[2] }] w fun e w' => e = .returned (.int .i64 (refN t t.size : Nat)) ∧ w' = w := by
  have hcnt : Lib.countByte t.data.toList 2 = refN t t.size := refN_count t
  go_enter Try.func103, Try.ntmps103
  go_wp2
  rw [run_callFunc_extern Try.func110 (by kernel_rfl) (by kernel_rfl) (by kernel_rfl) (e := Extern.BytealgCount.count) (by kernel_rfl), Lib.run_countString]
  simp only [Result.andThen]
  rw [Oper.upon_value]
  go_wp2
  go_ret
  exact ⟨by rw [← hcnt]; rfl, rfl⟩

end Go.Proofs.Ytkhnfmdhdfpdhaa
