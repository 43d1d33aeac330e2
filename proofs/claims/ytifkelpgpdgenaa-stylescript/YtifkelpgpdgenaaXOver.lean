/-
  What is proved here: what OverTexts does to names of which all cells are texts (for StyleScript).
-/
import Derived.Test.YtifkelpgpdgenaaXRefNames
namespace Go.Proofs.Ytifkelpgpdgenaa
open Go.RowKit Go.Shelf

/-- A list of texts, all its cells to the last of its capacity, in a block of its own. -/
def AllStrs (W : World) (base m : Nat) (v : Value) : Prop :=
  ∃ a n cap, v = .slice a n cap ∧ cap ≤ maxLen ∧ n ≤ cap ∧ (cap = 0 ∨ ∃ g, a = some ⟨g, 0, none⟩ ∧ base ≤ g ∧ ∃ cur : Array Value, W.heap[g]? = some (.cells cur 9 (0, 0)) ∧ cur.size = cap ∧ ∀ (i : Nat) (_ : i < cap), ∃ s : Str, cur[i]? = some (.string s) ∧ s.size ≤ m)

set_option maxRecDepth 100000 in
set_option maxHeartbeats 4000000 in
theorem over_any (v : Value) (base m : Nat) (hm : m < 1000) (w : World) (hbase : base ≤ w.heap.size) (h : AllStrs w base m v) :
    Calls Try.prog 49 #[v] w fun e w' => e = .returned (.tuple #[]) ∧ Below base w w' := by
  obtain ⟨a, n, cap, rfl, hmax, hn, h2⟩ := h
  unfold maxLen at hmax
  rcases h2 with rfl | ⟨g, rfl, hbg, cur, hcur, hsz, hall⟩
  · obtain rfl : n = 0 := by omega
    go_enter Try.func49, Try.ntmps49
    go_wp2_with fail
    go_loopw [3] (fun i wr => i = .int .i64 0 ∧ wr = w) (fun _ _ => 0)
    case atStart => exact ⟨rfl, rfl⟩
    case round =>
      obtain ⟨rfl, rfl⟩ := hrel
      go_wp2_with fail
      go_returns
      exact ⟨rfl, Below.refl _ _⟩
  · go_enter Try.func49, Try.ntmps49
    go_wp2_with fail
    go_loopw [3] (fun i wr => ∃ (k : Nat) (cur2 : Array Value), k ≤ cap ∧ i = .int .i64 k ∧ Below base w wr ∧ Hid (wr.heap[g]? = some (.cells cur2 9 (0, 0)) ∧ cur2.size = cap ∧ ∀ (j : Nat) (_ : j < cap), k ≤ j → ∃ s : Str, cur2[j]? = some (.string s) ∧ s.size ≤ m)) (fun i _ => cap - (intOf i).toNat)
    case atStart => exact ⟨0, cur, by omega, rfl, Below.refl _ _, hcur, hsz, fun j hj _ => hall j hj⟩
    case round =>
      obtain ⟨k, cur2, hk, rfl, hb, hH⟩ := hrel
      by_cases hlt : k < cap
      · obtain ⟨hc2, hs2, ha2⟩ := hH.out
        obtain ⟨s, hs, hsm⟩ := ha2 k hlt (Nat.le_refl _)
        have c0 : wr.cell? ⟨g, k, none⟩ = some (.string s) := by rw [Lib.cell_of_heap hc2]; exact hs
        have f0 := Lib.frozen_of_heap hc2 k
        have hlt' : (k : Int) < cap := by omega
        have hh2 := heap_setCell_same wr g k cur2 9 (.string (s ++ ⟨#[33]⟩)) hc2
        have hb2 : Below base w (wr.setCell ⟨g, k, none⟩ (.string (s ++ ⟨#[33]⟩))) := hb.setCell (p := ⟨g, k, none⟩) hbg _
        have hnext : Hid ((wr.setCell ⟨g, k, none⟩ (.string (s ++ ⟨#[33]⟩))).heap[g]? = some (.cells (cur2.setIfInBounds k (.string (s ++ ⟨#[33]⟩))) 9 (0, 0)) ∧ (cur2.setIfInBounds k (.string (s ++ ⟨#[33]⟩))).size = cap ∧ ∀ (j : Nat) (_ : j < cap), k + 1 ≤ j → ∃ s' : Str, (cur2.setIfInBounds k (.string (s ++ ⟨#[33]⟩)))[j]? = some (.string s') ∧ s'.size ≤ m) :=
          ⟨hh2, by simpa using hs2, fun j hj hkj => by
            obtain ⟨s', h1, h2⟩ := ha2 j hj (by omega)
            exact ⟨s', by rw [Array.getElem?_setIfInBounds_ne (by omega)]; exact h1, h2⟩⟩
        clear hH ha2 hs hs2 hc2 hh2
        go_wp2_with fail
        go_roundw
        case rel => exact ⟨k + 1, _, by omega, by simp, hb2, hnext.out⟩
        case measure => simp [intOf]; omega
      · obtain rfl : k = cap := by omega
        clear hH
        go_wp2_with fail
        go_returns
        exact ⟨rfl, hb⟩
end Go.Proofs.Ytifkelpgpdgenaa
