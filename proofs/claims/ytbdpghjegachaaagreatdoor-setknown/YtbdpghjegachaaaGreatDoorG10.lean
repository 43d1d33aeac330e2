/-
  What is proved here: the stop behind a place, where there are no stops of one's own (package tab); how far a tab goes.
  What is proved here: the closure that keeps where a line has come to; a line's record in memory; the natural width of a line.
  What is proved here: the four ways to align; a drop capital, how wide it is, its glyph; how wide a hyphen is.
-/
import Derived.Test.YtbdpghjegachaaaGreatDoorG6
import Derived.Test.YtbdpghjegachaaaGreatDoorG9
import Derived.Test.YtbdpghjegachaaaGreatDoorG1
namespace Go.Proofs.YtbdpghjegachaaaGreatDoor
open Go.RowKit Go.Shelf

set_option maxRecDepth 100000 in
set_option maxHeartbeats 400000 in
theorem tcheck_nil (w : World) : Calls Tryz.prog 130 #[.slice none 0 0] w fun e w' => e = .returned (.int .i64 0) ∧ w' = w := by
  go_enter Tryz.func130, Tryz.ntmps130
  go_wp2_with fail
  go_loopw [11] (fun i wr => i = .int .i64 0 ∧ wr = w) (fun _ _ => 0)
  case atStart => exact ⟨rfl, rfl⟩
  case round =>
    obtain ⟨rfl, rfl⟩ := hrel
    go_wp2_with fail
    go_ret
    exact ⟨rfl, rfl⟩
set_option maxRecDepth 100000 in
set_option maxHeartbeats 400000 in
theorem reaches_any (x : Int) (h : 0 ≤ x ∧ x ≤ 47) (w : World) : Calls Tryz.prog 131 #[.int .i64 x] w fun e w' => e = .returned (.bool true) ∧ w' = w := by
  obtain ⟨h1, h2⟩ := h
  have h3 : x ≤ 8190 := by omega
  go_enter Tryz.func131, Tryz.ntmps131
  go_wp2_with fail
  go_ret
  exact ⟨rfl, rfl⟩
set_option maxRecDepth 100000 in
set_option maxHeartbeats 400000 in
theorem tsearch_nil (x : Int) (f : Value) (w : World) : Calls Tryz.prog 155 #[.slice none 0 0, .int .i64 x, f] w fun e w' => e = .returned (.tuple #[.int .i64 0, .bool false]) ∧ w' = w := by
  go_enter Tryz.func155, Tryz.ntmps155
  go_wp2_with fail
  go_loopw [9, 10] (fun i j wr => i = .int .i64 0 ∧ j = .int .i64 0 ∧ wr = w) (fun _ _ _ => 0)
  case atStart => exact ⟨rfl, rfl, rfl⟩
  case round =>
    obtain ⟨rfl, rfl, rfl⟩ := hrel
    go_wp2_with fail
    go_ret2
    exact ⟨rfl, rfl⟩
set_option maxRecDepth 100000 in
set_option maxHeartbeats 400000 in
theorem behind_nil (x : Int) (h : 0 ≤ x ∧ x ≤ 47) (w : World) : Calls Tryz.prog 132 #[.slice none 0 0, .int .i64 x] w fun e w' => e = .returned (.agg #[.int .i64 48, .int .i64 0]) ∧ Below w.heap.size w w' := by
  obtain ⟨h1, h2⟩ := h
  have hd : Int.tdiv x 48 = 0 := by rw [Int.tdiv_eq_ediv_of_nonneg h1]; omega
  have hs := fun W => tsearch_nil (x + 1) (.func (.func 156) #[] #[]) W
  have hB := (Below.refl w.heap.size w).alloc (Nat.le_refl _) (.cells #[.int .i64 0, .int .i64 0] 82)
  go_enter Tryz.func132, Tryz.ntmps132
  go_wp2_with (go_at_call 155; refine (hs _).mono ?_; rintro e w' ⟨rfl, rfl⟩)
  exact bodyPost_ret (results_cell_row rfl _ _ w.heap.size 82 _ (0, 0) _ rfl (World.alloc_heap_new w _) Tryz.underlying82 rfl (by kernel_rfl)) rfl ⟨rfl, (Below.refl w.heap.size w).alloc (Nat.le_refl _) _⟩
theorem results_cell_row2 {P : Program} {fn : Func} {p u : Tmp} {ty : TypeId} (h : fn.results = #[.cell p ty, .tmp u]) (tmps : Array Value) (w : World) (g : Nat) (t : TypeId) (cs : Array Value) (fr : Nat × Nat) (d : TypeDesc)
    (hp : tmps.getD p undef = .pointer (some ⟨g, 0, none⟩)) (hg : w.heap[g]? = some (.cells cs t fr))
    (hu : P.underlying ty = some d) (hd : (match d with | .struct _ | .array _ _ => true | _ => false) = true) (hi : (P.info? ty).map (·.size) = some cs.size) :
    (results fn tmps).run P w = .ok (.tuple #[.agg cs, tmps.getD u undef]) w := by
  have hp' : tmps[p]?.getD undef = .pointer (some ⟨g, 0, none⟩) := by simpa using hp
  rw [results_cell_tmp h]
  simp [hp', asAddr, run_loadVar_row w g t ty cs fr d hg hu hd hi, Result.andThen]
set_option maxRecDepth 100000 in
set_option maxHeartbeats 400000 in
theorem next_nil (x : Int) (h : 0 ≤ x ∧ x ≤ 47) (w : World) : Calls Tryz.prog 104 #[.slice none 0 0, .int .i64 x] w fun e w' => e = .returned (.tuple #[.agg #[.int .i64 48, .int .i64 0], .int .i64 0]) ∧ Below w.heap.size w w' := by
  have hc := fun W => tcheck_nil W
  have hr := fun W => reaches_any x h W
  have hb := fun W => behind_nil x h W
  have hB := (Below.refl w.heap.size w).alloc (Nat.le_refl _) (.cells #[.int .i64 0, .int .i64 0] 82)
  have hz : (w.alloc (.cells #[.int .i64 0, .int .i64 0] 82)).heap[w.heap.size]? = some (.cells #[.int .i64 0, .int .i64 0] 82) := World.alloc_heap_new w _
  have hsz : w.heap.size < (w.alloc (.cells #[.int .i64 0, .int .i64 0] 82)).heap.size := by simp
  go_enter Tryz.func104, Tryz.ntmps104
  go_wp2_with (first | (go_at_call 130; refine (hc _).mono ?_; rintro e w' ⟨rfl, rfl⟩) | (go_at_call 131; refine (hr _).mono ?_; rintro e w' ⟨rfl, rfl⟩))
  refine (hb _).mono ?_
  rintro e w2 ⟨rfl, hb2⟩
  have hz2 := (hb2.block _ hsz).trans hz
  have hB2 := hB.trans (hb2.mono (Nat.le_of_lt hsz))
  clear hc hr hb hB hz hb2
  go_wp2_with (refine wpList_store_row rfl 82 _ _ rfl w.heap.size #[.int .i64 48, .int .i64 0] rfl rfl 82 _ hz2 (by kernel_rfl) rfl (by simp [Value.oneCell']) ?_)
  exact bodyPost_ret (results_cell_row2 rfl _ _ w.heap.size 82 _ (0, 0) _ rfl (setRow_heap _ _ _ _ 82 _ hz2) Tryz.underlying82 rfl (by kernel_rfl)) rfl ⟨rfl, hB2.trans ((Turns.setRow (X := fun k => k = w.heap.size) w2 rfl _).below hB2.size (fun k hk => by omega))⟩
set_option maxRecDepth 100000 in
set_option maxHeartbeats 400000 in
/-- How far a tab goes. -/
theorem toStop_any (x : Int) (h : 0 ≤ x ∧ x ≤ 9223372036854775807) (w : World) : Calls Tryz.prog 62 #[.int .i64 x] w fun e w' => e = .returned (.int .i64 (48 - x % 48)) ∧ Below w.heap.size w w' := by
  have hm : Int.tmod x 48 = x % 48 := Int.tmod_eq_emod_of_nonneg h.1
  have hr : 0 ≤ x % 48 ∧ x % 48 ≤ 47 := by omega
  obtain ⟨h1, h2⟩ := h
  have hn := fun W => next_nil (x % 48) hr W
  obtain ⟨r1, r2⟩ := hr
  go_enter Tryz.func62, Tryz.ntmps62
  go_wp2_with (go_at_call 104; refine (hn _).mono ?_; rintro e w2 ⟨rfl, hb2⟩)
  go_ret
  exact ⟨rfl, hb2.alloc hb2.size _⟩
end Go.Proofs.YtbdpghjegachaaaGreatDoor

namespace Go.Proofs.YtbdpghjegachaaaGreatDoor
open Go.RowKit Go.Shelf

/-- A line that is being set, in memory. -/
def rwC (a b : Value) (x h r : Int) (l : Bool) : Array Value := #[a, b, .int .i64 x, .int .i64 h, .int .i64 r, .bool l]
structure RW (W : World) (r : Nat) (a b : Value) (x h m : Int) (l : Bool) : Prop where
  row : W.heap[r]? = some (.cells (rwC a b x h m l) 60)
section
variable {W W' : World} {r : Nat} {a b : Value} {x h m : Int} {l : Bool}
theorem RW.lt (k : RW W r a b x h m l) : r < W.heap.size := (Array.getElem?_eq_some_iff.1 k.row).1
theorem RW.turns {X : Nat → Prop} (k : RW W r a b x h m l) (ht : Turns X W W') (hn : ¬ X r) : RW W' r a b x h m l := ⟨(ht.block r k.lt hn).trans k.row⟩
theorem RW.below {n : Nat} (k : RW W r a b x h m l) (hb : Below n W W') (hn : r < n) : RW W' r a b x h m l := ⟨(hb.block r hn).trans k.row⟩
theorem RW.c (k : RW W r a b x h m l) : W.cell? ⟨r, 0, none⟩ = some a ∧ W.cell? ⟨r, 1, none⟩ = some b ∧ W.cell? ⟨r, 2, none⟩ = some (.int .i64 x) ∧ W.cell? ⟨r, 3, none⟩ = some (.int .i64 h) ∧ W.cell? ⟨r, 4, none⟩ = some (.int .i64 m) ∧ W.cell? ⟨r, 5, none⟩ = some (.bool l) :=
  ⟨by rw [Lib.cell_of_heap k.row]; rfl, by rw [Lib.cell_of_heap k.row]; rfl, by rw [Lib.cell_of_heap k.row]; rfl, by rw [Lib.cell_of_heap k.row]; rfl, by rw [Lib.cell_of_heap k.row]; rfl, by rw [Lib.cell_of_heap k.row]; rfl⟩
theorem RW.z (k : RW W r a b x h m l) (j : Nat) : W.frozen? ⟨r, j, none⟩ = false := Lib.frozen_of_heap k.row _
end
/-- The closure that keeps a place. -/
def wkV (c : Nat) : Value := .func (.func 103) #[] #[.pointer (some ⟨c, 0, none⟩)]
set_option maxRecDepth 100000 in
set_option maxHeartbeats 400000 in
theorem walk_any (x : Int) (w : World) : Calls Tryz.prog 61 #[.int .i64 x] w fun e w' => e = .returned (wkV w.heap.size) ∧ w' = w.alloc (.cells #[.int .i64 x] 3) := by
  go_enter Tryz.func61, Tryz.ntmps61
  go_wp2_with fail
  go_ret
  exact ⟨rfl, rfl⟩
set_option maxRecDepth 100000 in
set_option maxHeartbeats 400000 in
theorem step_any (c : Nat) (x k d : Int) (hx : -1000000000000 ≤ x ∧ x ≤ 1000000000000) (hk : -1000000000000 ≤ k ∧ k ≤ 1000000000000) (hd : -1000000000000 ≤ d ∧ d ≤ 1000000000000) (w : World) (hB : Boxed w c 3 (.int .i64 x)) :
    Calls Tryz.prog 103 #[.int .i64 k, .int .i64 d, .pointer (some ⟨c, 0, none⟩)] w fun e w' => e = .returned (.int .i64 (x + k)) ∧ w' = w.setCell ⟨c, 0, none⟩ (.int .i64 (x + k + d)) := by
  obtain ⟨h1, h2⟩ := hx
  obtain ⟨h3, h4⟩ := hk
  obtain ⟨h5, h6⟩ := hd
  have c0 := hB.cell
  have z0 := hB.frozen
  go_enter Tryz.func103, Tryz.ntmps103
  go_wp2_with fail
  go_ret
  exact ⟨rfl, rfl⟩
end Go.Proofs.YtbdpghjegachaaaGreatDoor

namespace Go.Proofs.YtbdpghjegachaaaGreatDoor
open Go.RowKit Go.Shelf

def alC : Array Value := #[.func (.func 63) #[] #[], .func (.func 64) #[] #[], .func (.func 65) #[] #[], .func (.func 66) #[] #[]]
set_option maxRecDepth 100000 in
set_option maxHeartbeats 400000 in
theorem alignments_any (w : World) : Calls Tryz.prog 31 #[] w fun e w' => e = .returned (.agg alC) ∧ Below w.heap.size w w' := by
  have hz : (w.alloc (.cells #[.nilFunc, .nilFunc, .nilFunc, .nilFunc] 67)).heap[w.heap.size]? = some (.cells #[.nilFunc, .nilFunc, .nilFunc, .nilFunc] 67 (0, 0)) := World.alloc_heap_new w _
  have hB := (Below.refl w.heap.size w).alloc (Nat.le_refl _) (.cells #[.nilFunc, .nilFunc, .nilFunc, .nilFunc] 67)
  go_enter Tryz.func31, Tryz.ntmps31
  go_wp2_with (refine wpList_store_row rfl 67 _ _ rfl w.heap.size alC rfl rfl 67 _ hz (by kernel_rfl) rfl (by kernel_rfl) ?_)
  exact bodyPost_ret (results_cell_row rfl _ _ w.heap.size 67 _ (0, 0) _ rfl (setRow_heap _ _ _ _ 67 _ hz) Tryz.underlying67 rfl (by kernel_rfl)) rfl ⟨rfl, hB.trans ((Turns.setRow (X := fun k => k = w.heap.size) _ rfl _).below hB.size (fun k hk => by omega))⟩
/-- Has a paragraph of n masses a drop capital? -/
def capB (p : Pa) (n : Nat) (k : Int) : Bool := decide (2 ≤ p.p.p14) && (decide (0 < n) && (k == 1))
set_option maxRecDepth 100000 in
set_option maxHeartbeats 2000000 in
theorem hasCapital_any (p : Pa) (w : World) (g n cap : Nat) (M : Nat → Ms) (hn : n ≤ 4096) (a : Option Addr) (ha : 0 < n → a = some ⟨g, 0, none⟩) (hR : RF w g 0 n M) :
    Calls Tryz.prog 24 #[paV p, .slice a n cap] w fun e w' => e = .returned (.bool (capB p n (M 0).k)) ∧ Below w.heap.size w w' := by
  have hB := (Below.refl w.heap.size w).alloc (Nat.le_refl _) (Obj.cells (paC p) 27)
  have hP := PB.new w p
  have c16 : (w.alloc (.cells (paC p) 27)).cell? ⟨w.heap.size, 16, none⟩ = some (.int .i64 p.p.p14) := hP.cell (k := 16) rfl
  have hc : 0 < n → (w.alloc (.cells (paC p) 27)).cell? ⟨g, 2, none⟩ = some (.int .i64 (M 0).k) := fun h => ((hR.below hB (fun h => hR.lt h)).c h).2.2.1
  have hn' : (n : Int) ≤ 4096 := by omega
  clear hR hP
  unfold paV capB
  generalize hw1 : w.alloc (.cells (paC p) 27) = w1 at *
  by_cases h1 : 2 ≤ p.p.p14
  · by_cases h2 : 0 < n
    · obtain rfl := ha h2
      have c2 := hc h2
      have h2' : (0 : Int) < n := by omega
      rw [show decide (2 ≤ p.p.p14) = true by simpa using h1, show decide (0 < n) = true by simpa using h2]
      go_enter Tryz.func24, Tryz.ntmps24
      go_wp2_with fail
      go_ret
      exact ⟨by simp, hB⟩
    · rw [show decide (2 ≤ p.p.p14) = true by simpa using h1, show decide (0 < n) = false by simpa using h2]
      have h2' : ¬ (0 : Int) < n := by omega
      go_enter Tryz.func24, Tryz.ntmps24
      go_wp2_with fail
      go_ret
      exact ⟨by simp, hB⟩
  · rw [show decide (2 ≤ p.p.p14) = false by simpa using h1]
    go_enter Tryz.func24, Tryz.ntmps24
    go_wp2_with fail
    go_ret
    exact ⟨by simp, hB⟩
/-- How wide a hyphen is. -/
def hyW (s : Int) : Int := wVal ⟨#[45]⟩ s
theorem hyW_rng {s : Int} (h : 1 ≤ s ∧ s ≤ 64) : 0 ≤ hyW s ∧ hyW s ≤ 64 := by
  have e : hyW s = widthI ⟨#[45]⟩ s := by
    rcases wErr_cases ⟨#[45]⟩ s with ⟨_, _, h2⟩ | ⟨_, _, _, _, h2⟩ | ⟨_, e2, _⟩
    · omega
    · exact absurd h2 (by decide)
    · exact e2
  have := tw_rng ⟨#[45]⟩ (s := s) (by omega) h.2 1
  rw [e]
  show 0 ≤ tw ⟨#[45]⟩ s 1 ∧ tw ⟨#[45]⟩ s 1 ≤ 64
  omega
set_option maxRecDepth 100000 in
set_option maxHeartbeats 400000 in
theorem hyphenWidth_any (s : Int) (w : World) : Calls Tryz.prog 28 #[.int .i64 s] w fun e w' => e = .returned (.int .i64 (hyW s)) ∧ w' = w := by
  have h := Width_any ⟨#[45]⟩ s w
  unfold hyW
  generalize wVal ⟨#[45]⟩ s = a at *
  generalize wErr ⟨#[45]⟩ s = b at *
  go_enter Tryz.func28, Tryz.ntmps28
  go_wp2_with (go_at_call 59; refine h.mono ?_; rintro e w' ⟨rfl, rfl⟩)
  go_ret
  exact ⟨rfl, rfl⟩
end Go.Proofs.YtbdpghjegachaaaGreatDoor
