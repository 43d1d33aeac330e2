/-
  What is proved here: what keep answers of a list of bounds; which bounds a section has.
-/
import Derived.Test.YtglgapmjhmeonaaPlain
namespace Go.Proofs.Ytglgapmjhmeonaa
open Go.RowKit Go.Shelf

theorem heap_new2 (w : World) (a o : Obj) : ((w.alloc a).alloc o).heap[w.heap.size + 1]? = some o := by
  have h : (w.alloc a).heap.size = w.heap.size + 1 := by simp
  rw [← h]; exact heap_new _ _
def bdC (b : Bd) : List Value := [.int .i64 b.n, .int .i64 b.least, .int .i64 b.most, .int .i64 b.why]
def bdRow (qs : List Bd) : Array Value := (qs.flatMap bdC).toArray
theorem bdRow_get (ps : List Bd) {i : Nat} (h : i < ps.length) (j : Nat) (hj : j < 4) : (bdRow ps)[i * 4 + j]? = (bdC ps[i])[j]? := by
  have hs : ps = ps.take i ++ (ps[i] :: ps.drop (i + 1)) := by simp
  have hl : ∀ qs : List Bd, (qs.flatMap bdC).length = qs.length * 4 := fun qs => by
    induction qs with
    | nil => rfl
    | cons p r ih => simp [List.flatMap_cons, bdC] at ih ⊢; omega
  unfold bdRow
  rw [List.getElem?_toArray]
  conv => lhs; rw [hs]
  rw [List.flatMap_append, List.flatMap_cons, List.getElem?_append_right (by rw [hl, List.length_take]; omega), hl, List.length_take, Nat.min_eq_left (by omega), List.getElem?_append_left (by simp [bdC]; omega)]
  congr 1; omega

/-- A list of bounds, in memory. -/
structure BdsAt (W : World) (b : Nat) (qs : List Bd) : Prop where
  row : W.heap[b]? = some (.cells (bdRow qs) 59 (0, 0))
theorem BdsAt.cell {W W' : World} {b : Nat} {qs : List Bd} (h : BdsAt W b qs) (hb : Below W.heap.size W W') {k : Nat} (hk : k < qs.length) :
    W'.cell? ⟨b, k * 4, none⟩ = some (.int .i64 qs[k].n) ∧ W'.cell? ⟨b, k * 4 + 1, none⟩ = some (.int .i64 qs[k].least) ∧ W'.cell? ⟨b, k * 4 + 2, none⟩ = some (.int .i64 qs[k].most) ∧ W'.cell? ⟨b, k * 4 + 3, none⟩ = some (.int .i64 qs[k].why) := by
  have hr : W'.heap[b]? = some (.cells (bdRow qs) 59 (0, 0)) := (hb.block b (Array.getElem?_eq_some_iff.1 h.row).1).trans h.row
  have g : ∀ j v, j < 4 → (bdC qs[k])[j]? = some v → W'.cell? ⟨b, k * 4 + j, none⟩ = some v := fun j v hj hv => by
    rw [Lib.cell_of_heap hr, bdRow_get qs hk j hj, hv]
  exact ⟨g 0 _ (by omega) rfl, g 1 _ (by omega) rfl, g 2 _ (by omega) rfl, g 3 _ (by omega) rfl⟩

theorem drop_eq {α : Type} (l : List α) {k : Nat} (h : k < l.length) : l.drop k = l[k] :: l.drop (k + 1) := List.drop_eq_getElem_cons h
theorem keep_step {qs : List Bd} {k : Nat} (h : k < qs.length) (h1 : qs[k].least ≤ qs[k].n) (h2 : qs[k].n ≤ qs[k].most) : keepI (qs.drop k) = keepI (qs.drop (k + 1)) := by
  rw [drop_eq qs h, keep_skip h1 h2]
theorem keep_stop {qs : List Bd} {k : Nat} (h : k < qs.length) (h1 : qs[k].n < qs[k].least ∨ qs[k].most < qs[k].n) : keepI (qs.drop k) = qs[k].why := by
  rw [drop_eq qs h, keep_no h1]

set_option maxRecDepth 100000 in
set_option maxHeartbeats 2000000 in
theorem keep_any (b cap : Nat) (qs : List Bd) (hfew : qs.length ≤ 100) (w : World) (hS : BdsAt w b qs) :
    Calls Try.prog 30 #[.slice (some ⟨b, 0, none⟩) qs.length cap] w fun e w' => e = .returned (.int .i64 (keepI qs)) ∧ Below w.heap.size w w' := by
  go_enter Try.func30, Try.ntmps30
  go_wp2_with fail
  go_loopw [7] (fun i wr => ∃ k : Nat, k ≤ qs.length ∧ i = .int .i64 k ∧ Below w.heap.size w wr ∧ Hid (keepI (qs.drop k) = keepI qs)) (fun i _ => qs.length - (intOf i).toNat)
  case atStart => exact ⟨0, by omega, rfl, Below.refl _ _, rfl⟩
  case round =>
    obtain ⟨k, hk, rfl, hb, hall⟩ := hrel
    by_cases hlt : k < qs.length
    · obtain ⟨d0, d1, d2, d3⟩ := hS.cell hb hlt
      have hba := hb.alloc hb.size (Obj.cells #[.int .i64 qs[k].n, .int .i64 qs[k].least, .int .i64 qs[k].most, .int .i64 qs[k].why] 59)
      by_cases hg : qs[k].n < qs[k].least ∨ qs[k].most < qs[k].n
      · have h5 : keepI qs = qs[k].why := by rw [← hall.out, keep_stop hlt hg]
        clear hall
        by_cases hg1 : qs[k].n < qs[k].least
        · go_wp2_with fail
          go_ret
          exact ⟨by first | rfl | (rw [h5]; rfl), hba⟩
        · have hg2 : qs[k].most < qs[k].n := by omega
          go_wp2_with fail
          go_ret
          exact ⟨by first | rfl | (rw [h5]; rfl), hba⟩
      · have h6 : Hid (keepI (qs.drop (k + 1)) = keepI qs) := by
          show _ = _
          rw [← keep_step hlt (by omega) (by omega)]; exact hall.out
        have hg1 : ¬ qs[k].n < qs[k].least := by omega
        have hg2 : ¬ qs[k].most < qs[k].n := by omega
        clear hall hg
        go_wp2_with fail
        go_roundw
        case rel => exact ⟨k + 1, by omega, by simp, hba, h6⟩
        case measure => simp [intOf]; omega
    · obtain rfl : k = qs.length := by omega
      have h7 : keepI qs = 0 := by rw [← hall.out, List.drop_length]; rfl
      clear hall
      go_wp2_with fail
      go_ret
      exact ⟨by first | rfl | (rw [h7]; rfl), hb⟩

set_option maxRecDepth 100000 in
set_option maxHeartbeats 2000000 in
theorem numbers_any (s : Sec) (w : World) : Calls Try.prog 31 #[seV s] w fun e w' => ∃ b, e = .returned (.slice (some ⟨b, 0, none⟩) 11 11) ∧ BdsAt w' b (numL s) ∧ Below w.heap.size w w' := by
  have hB := (Below.refl w.heap.size w).alloc (Nat.le_refl _) (Obj.cells (seC s) 24)
  have hB2 := hB.alloc hB.size (Obj.cells (bdRow (numL s)) 59)
  have hP := SB.new w s
  have c0 := hP.c0; have c1 := hP.c1; have c2 := hP.c2; have c3 := hP.c3; have c4 := hP.c4; have c5 := hP.c5; have c6 := hP.c6; have c7 := hP.c7; have c8 := hP.c8; have c9 := hP.c9; have c10 := hP.c10
  clear hP hB
  unfold seV
  go_enter Try.func31, Try.ntmps31
  go_wp2
  go_ret
  exact ⟨_, rfl, ⟨heap_new2 w (.cells (seC s) 24) (.cells (bdRow (numL s)) 59)⟩, hB2⟩

end Go.Proofs.Ytglgapmjhmeonaa
