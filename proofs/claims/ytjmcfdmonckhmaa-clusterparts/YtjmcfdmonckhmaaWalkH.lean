/-
  What is proved here: what is and long answer.
-/
import Derived.Test.YtjmcfdmonckhmaaWalkG
import Derived.Laws.MakeOwn
import Derived.Laws.IdiomStrings
namespace Go.Proofs.Ytjmcfdmonckhmaa
open Go.RowKit Go.Shelf

theorem is_yes (n : Int) (w : World) : Calls Try.prog 21 #[.int .i64 n, .int .i64 0, .int .i64 n] w fun e w' => e = .returned (.bool true) ∧ w' = w := by
  have hq : (n == n) = true := by simp
  go_enter Try.func21, Try.ntmps21
  go_wp2
  go_ret
  exact ⟨rfl, rfl⟩

theorem info5 : (Try.prog.info? 5).map (fun i => (i.zero, i.size, i.bytes)) = some (some (.int .u8 0), 1, 1) := by kernel_rfl
theorem make46 {n : Nat} (h : n ≤ 5000) (W : World) : (Instr.makeSlice 46 (.int .i64 (n : Int)) (.int .i64 (n : Int))).run Try.prog W = .ok (.slice (some ⟨W.heap.size, 0, none⟩) n n) (W.alloc (.cells (madeCells #[.int .u8 0] n) 5)) := by
  obtain ⟨i0, hi0, hz0, hz1, hz2⟩ := info_parts info5
  have := run_makeSlice (P := Try.prog) (w := W) 46 5 i0 _ Try.underlying46 hi0 hz0 .i64 .i64 n n (by omega) (by omega) (by rw [hz1]; omega) (by rw [hz2]; omega) (by omega)
  rw [hz1, Int.toNat_natCast, Nat.mul_one] at this
  exact this
theorem made_get (n j : Nat) (h : j < n) : (madeCells #[.int .u8 0] n)[j]? = some (.int .u8 0) := by
  simp [madeCells, h, Nat.mod_one]

/-- A row of bytes of which k are a. -/
def LongRow (W : World) (g n k : Nat) : Prop := ∃ cs : Array Value, W.heap[g]? = some (.cells cs 5 (0, 0)) ∧ cs.size = n ∧ ∀ j, j < n → cs[j]? = some (.int .u8 (if j < k then 97 else 0))
theorem LongRow.next {W : World} {g n k : Nat} (h : LongRow W g n k) : LongRow (W.setCell ⟨g, k, none⟩ (.int .u8 97)) g n (k + 1) := by
  obtain ⟨cs, h1, h2, h3⟩ := h
  refine ⟨_, heap_setCell_same W g k cs 5 _ h1, by simp [h2], fun j hj => ?_⟩
  by_cases e : j = k
  · subst e; rw [if_pos (by omega)]; rw [Array.getElem?_setIfInBounds_self_of_lt (by omega)]
  · rw [Array.getElem?_setIfInBounds_ne (fun h => e h.symm), h3 j hj]
    by_cases hk : j < k
    · rw [if_pos hk, if_pos (by omega)]
    · rw [if_neg hk, if_neg (by omega)]

def longT (n : Nat) : ByteArray := ⟨(List.replicate n (97 : UInt8)).toArray⟩
theorem longT_size (n : Nat) : (longT n).size = n := by show (List.replicate n (97 : UInt8)).toArray.size = n; simp
theorem long_conv {W : World} {g n k : Nat} (hk : ¬ k < n) (h : LongRow W g n k) : (convert 46 9 (.slice (some ⟨g, 0, none⟩) n n)).run Try.prog W = .ok (.string (longT n)) W := by
  obtain ⟨cs, h1, h2, h3⟩ := h
  have := run_convert_bytes_back (P := Try.prog) W 46 9 5 ⟨g, 0, none⟩ n (List.replicate n (97 : UInt8)) Try.underlying46 Try.underlying5 Try.underlying9 (fun j hj => by
    rw [addr_add0, Lib.cell_of_heap h1, h3 j (by simpa using hj), if_pos (by simp at hj; omega)]
    simp)
  rw [List.length_replicate] at this
  exact this

set_option maxRecDepth 100000 in
set_option maxHeartbeats 1000000 in
theorem long_any (n : Nat) (hn : n ≤ 5000) (w : World) : Calls Try.prog 20 #[.int .i64 n] w fun e w' => e = .returned (.string (longT n)) ∧ Below w.heap.size w w' := by
  have hm := make46 hn
  go_enter Try.func20, Try.ntmps20
  go_wp2_with fail
  obtain ⟨w1, hw1⟩ : ∃ w1, w.alloc (.cells (madeCells #[.int .u8 0] n) 5) = w1 := ⟨_, rfl⟩
  have hb1 : Below w.heap.size w w1 := by rw [← hw1]; exact (Below.refl _ w).alloc (Nat.le_refl _) _
  have hl1 : LongRow w1 w.heap.size n 0 := by rw [← hw1]; exact ⟨_, World.alloc_heap_new w _, by simp [madeCells], fun j hj => by rw [if_neg (by omega)]; exact made_get n j hj⟩
  rw [hw1]
  clear hm
  go_loopw [4] (fun i wr => ∃ k : Nat, k ≤ n ∧ i = .int .i64 k ∧ Below w.heap.size w wr ∧ LongRow wr w.heap.size n k) (fun i _ => n - (intOf i).toNat)
  case atStart => exact ⟨0, by omega, rfl, hb1, hl1⟩
  case round =>
    obtain ⟨k, hk, rfl, hb, hl⟩ := hrel
    by_cases hlt : k < n
    · have hl2 := hl.next
      have hb2 := hb.setCell (p := ⟨w.heap.size, k, none⟩) (Nat.le_refl _) (.int .u8 97)
      obtain ⟨cs, q1, q2, q3⟩ := hl
      have hc : wr.cell? ⟨w.heap.size, k, none⟩ = some (.int .u8 0) := by rw [Lib.cell_of_heap q1, q3 k hlt, if_neg (by omega)]
      have hf : wr.frozen? ⟨w.heap.size, k, none⟩ = false := Lib.frozen_of_heap q1 k
      clear q3
      go_wp2_with fail
      go_roundw
      case rel => exact ⟨k + 1, by omega, by simp, hb2, hl2⟩
      case measure => simp [intOf]; omega
    · have hc := long_conv hlt hl
      go_wp2_with fail
      go_ret
      exact ⟨rfl, hb⟩
theorem longT_wrong : wrongI (longT 4097) = 3 := wrong_long (by rw [longT_size]; omega)
end Go.Proofs.Ytjmcfdmonckhmaa
