/-
  What is proved here: the document's Cell; what its Masses answers of a cell; words, and the runs within them.
  What is proved here: a cell's least and greatest widths, as the document has them.
  What is proved here: all columns' widths, as the document has them.
-/
import Derived.Test.YtkhnfmdhdfpdhaaE14
import Derived.Test.YtkhnfmdhdfpdhaaE15
import Derived.Test.YtkhnfmdhdfpdhaaE29
import Derived.Test.YtkhnfmdhdfpdhaaE18
namespace Go.Proofs.Ytkhnfmdhdfpdhaa
open Go.RowKit Go.Shelf

set_option maxRecDepth 100000 in
set_option maxHeartbeats 2000000 in
theorem rcell_any (t : ByteArray) (_hsz : t.size ≤ 9223372036854775807) (w : World) : Calls Try.prog 18 #[.string t] w (CellEnd t w) := by
  have hB0 := (Below.refl w.heap.size w).alloc (Nat.le_refl _) (.cells (paC paZ) 39)
  have hP0 := PB.new w paZ
  have hs0 : (w.alloc (.cells (paC paZ) 39)).heap.size = w.heap.size + 1 := World.size_alloc _ _
  have hB1 := hB0.alloc hB0.size (.cells (paC paZ) 39)
  have hP1 := PB.new (w.alloc (.cells (paC paZ) 39)) paZ
  have hP01 := hP0.turns (Turns.alloc Noth _ (.cells (paC paZ) 39)) (fun h => h)
  have hs1 : ((w.alloc (.cells (paC paZ) 39)).alloc (.cells (paC paZ) 39)).heap.size = w.heap.size + 2 := by rw [World.size_alloc, hs0]
  rw [hs0] at hP1
  have hT2 := Turns.setRow (X := fun b => b = w.heap.size + 1) ((w.alloc (.cells (paC paZ) 39)).alloc (.cells (paC paZ) 39)) (r := w.heap.size + 1) rfl (paC (cellPa t (.slice none 0 0)))
  have hP2 := hP1.set (cellPa t (.slice none 0 0))
  have hP02 := hP01.turns hT2 (by omega)
  have hB2 := hB1.trans (hT2.below hB1.size (fun b hb => by omega))
  have hs2 : (((w.alloc (.cells (paC paZ) 39)).alloc (.cells (paC paZ) 39)).setRow (w.heap.size + 1) (paC (cellPa t (.slice none 0 0)))).heap.size = w.heap.size + 2 := by simp
  have hE : Hid (∀ sv W, PaAt W (cellPa t sv) → Below w.heap.size w W → CellEnd t w (.returned (paV (cellPa t sv))) W) := fun sv W h1 h2 => ⟨sv, rfl, h1, h2⟩
  by_cases h0 : t.size = 0
  · have hsp : cellSp t = [] := if_pos h0
    have hq : ¬ (0 : Int) < (t.size : Int) := by omega
    have hA : Hid (∀ W, PaAt W (cellPa t (.slice none 0 0))) := fun W =>
      ⟨⟨⟨none, 0, by show _ = Value.slice none (cellSp t).length 0; rw [hsp]; rfl, .inl hsp⟩, fun a n c e => by cases e; exact Nat.le_refl _⟩, ⟨⟨none, 0, rfl, .inl rfl⟩, fun a n c e => by cases e; exact Nat.le_refl _⟩, by show (cellSp t).length ≤ _ ∧ 0 ≤ _; rw [hsp]; exact ⟨by show 0 ≤ _; omega, by omega⟩⟩
    have hP03 := hP02.set (cellPa t (.slice none 0 0))
    have hB3 := hB2.trans ((Turns.setRow (X := fun b => b = w.heap.size) (((w.alloc (.cells (paC paZ) 39)).alloc (.cells (paC paZ) 39)).setRow (w.heap.size + 1) (paC (cellPa t (.slice none 0 0)))) (r := w.heap.size) rfl (paC (cellPa t (.slice none 0 0)))).below hB2.size (fun b hb => by omega))
    clear h0 hsp hB0 hP0 hP01 hT2 hs0 hs1 hs2 hB1
    go_enter Try.func18, Try.ntmps18
    go_wp2_with (first | (refine wpList_store_row rfl 39 _ _ rfl (w.heap.size + 1) (paC (cellPa t (.slice none 0 0))) rfl rfl 39 _ hP1.row (info39p _) rfl (paC_cell t _ rfl) ?_) | (refine wpList_load_row rfl 39 _ rfl (w.heap.size + 1) rfl 39 _ (0, 0) _ hP2.row Try.underlying39 rfl (info39p (cellPa t (.slice none 0 0))) ?_) | (refine wpList_store_row rfl 39 _ _ rfl w.heap.size (paC (cellPa t (.slice none 0 0))) rfl rfl 39 _ hP02.row (info39p _) rfl (paC_cell t _ rfl) ?_))
    exact bodyPost_ret (results_cell_row rfl _ _ w.heap.size 39 (paC (cellPa t (.slice none 0 0))) (0, 0) _ rfl hP03.row Try.underlying39 rfl (info39p _)) rfl (hE.out _ _ (hA.out _) hB3)
  · have hq : (0 : Int) < (t.size : Int) := by omega
    have hsp : cellSp t = [⟨t.size, 0, 0, 0⟩] := if_neg h0
    generalize hw2 : ((w.alloc (.cells (paC paZ) 39)).alloc (.cells (paC paZ) 39)).setRow (w.heap.size + 1) (paC (cellPa t (.slice none 0 0))) = w2 at *
    have hT3 := Turns.setCell (X := fun b => b = w.heap.size + 1) w2 (p := ⟨w.heap.size + 1, 1, none⟩) rfl (.slice (some ⟨w.heap.size + 2, 0, none⟩) 1 1)
    have c1 := hP2.c1
    have z1 : w2.frozen? ⟨w.heap.size + 1, 1, none⟩ = false := Lib.frozen_of_heap hP2.row _
    have hP3 := hP2.setS (.slice (some ⟨w.heap.size + 2, 0, none⟩) 1 1)
    have hP03 := hP02.turns hT3 (by omega)
    have hB3 := hB2.trans (hT3.below hB2.size (fun b hb => by omega))
    have hs3 : (w2.setCell ⟨w.heap.size + 1, 1, none⟩ (.slice (some ⟨w.heap.size + 2, 0, none⟩) 1 1)).heap.size = w.heap.size + 2 := by simp; exact hs2
    have hP4 := hP3.turns (Turns.alloc Noth _ (.cells #[.int .i64 (t.size : Nat), .int .i64 0, .int .i64 0, .int .i64 0] 69)) (fun h => h)
    have hP04 := hP03.turns (Turns.alloc Noth _ (.cells #[.int .i64 (t.size : Nat), .int .i64 0, .int .i64 0, .int .i64 0] 69)) (fun h => h)
    have hB4 := hB3.alloc hB3.size (.cells #[.int .i64 (t.size : Nat), .int .i64 0, .int .i64 0, .int .i64 0] 69)
    have hR4 := rec_new (k := 4) spL_len4 (w2.setCell ⟨w.heap.size + 1, 1, none⟩ (.slice (some ⟨w.heap.size + 2, 0, none⟩) 1 1)) 69 [⟨(t.size : Nat), 0, 0, 0⟩]
    rw [hs3] at hR4
    have hP05 := hP04.set (cellPa t (.slice (some ⟨w.heap.size + 2, 0, none⟩) 1 1))
    have hT5 := Turns.setRow (X := fun b => b = w.heap.size) ((w2.setCell ⟨w.heap.size + 1, 1, none⟩ (.slice (some ⟨w.heap.size + 2, 0, none⟩) 1 1)).alloc (.cells #[.int .i64 (t.size : Nat), .int .i64 0, .int .i64 0, .int .i64 0] 69)) (r := w.heap.size) rfl (paC (cellPa t (.slice (some ⟨w.heap.size + 2, 0, none⟩) 1 1)))
    have hB5 := hB4.trans (hT5.below hB4.size (fun b hb => by omega))
    have hA : Hid (∀ W, RecAt 4 spL W (.slice (some ⟨w.heap.size + 2, 0, none⟩) 1 1) [⟨t.size, 0, 0, 0⟩] → PaAt W (cellPa t (.slice (some ⟨w.heap.size + 2, 0, none⟩) 1 1))) := fun W h =>
      ⟨by show RecAt 4 spL W _ (cellSp t); rw [hsp]; exact h, ⟨⟨none, 0, rfl, .inl rfl⟩, fun a n c e => by cases e; exact Nat.le_refl _⟩, by show (cellSp t).length ≤ _ ∧ 0 ≤ _; rw [hsp]; exact ⟨by show 1 ≤ _; omega, by omega⟩⟩
    have hR5 := hA.out _ (rec_turns hR4 hT5 (by omega))
    clear hP0 hP01 hB0 hB1 hT2 hR4 hA hT3 hT5 hB3 hB4 hP3 hs0 hs1 hs3
    have hw2' : Hid (((w.alloc (.cells (paC paZ) 39)).alloc (.cells (paC paZ) 39)).setRow (w.heap.size + 1) (paC (cellPa t (.slice none 0 0))) = w2) := hw2
    clear hw2 hsp h0
    go_enter Try.func18, Try.ntmps18
    go_wp2_with (first | (refine wpList_store_row rfl 39 _ _ rfl (w.heap.size + 1) (paC (cellPa t (.slice none 0 0))) rfl rfl 39 _ hP1.row (info39p _) rfl (paC_cell t _ rfl) ?_; refine Eq.mp (congrArg (wpList Try.prog _ _ _ _) hw2'.out.symm) ?_) | (refine wpList_load_row rfl 39 _ rfl (w.heap.size + 1) rfl 39 _ (0, 0) _ hP4.row Try.underlying39 rfl (info39p (cellPa t (.slice (some ⟨w.heap.size + 2, 0, none⟩) 1 1))) ?_) | (refine wpList_store_row rfl 39 _ _ rfl w.heap.size (paC (cellPa t (.slice (some ⟨w.heap.size + 2, 0, none⟩) 1 1))) rfl rfl 39 _ hP04.row (info39p _) rfl (paC_cell t _ rfl) ?_))
    exact bodyPost_ret (results_cell_row rfl _ _ w.heap.size 39 (paC (cellPa t (.slice (some ⟨w.heap.size + 2, 0, none⟩) 1 1))) (0, 0) _ rfl hP05.row Try.underlying39 rfl (info39p _)) rfl (hE.out _ _ hR5 hB5)


/-- What the document's Masses answers of a cell. -/
theorem rcmass_any {t : ByteArray} (h : cellB t = true) (sv : Value) (w : World) (hA : PaAt w (cellPa t sv)) : Calls Try.prog 55 #[paV (cellPa t sv)] w fun e w' => ∃ v, e = .returned (.tuple #[v, .int .i64 0]) ∧ RecAt 6 msL w' v (cm t) ∧ Below w.heap.size w w' := by
  refine (rmasses_any (cellPa t sv) (by show (0 : Nat) ≤ _; omega) (fun i h => by cases h) w hA).mono ?_
  rintro e w' ⟨⟨v, rfl, hv⟩, hb⟩
  rw [cell_chk h] at hv ⊢
  rcases hv with ⟨h, _⟩ | ⟨_, h⟩
  · exact absurd rfl h
  · exact ⟨v, rfl, rec_of_row msL_len (mss_len _).symm h, hb⟩

/-- No blank stands from a to e. -/
def Bare (l : List Ms) (a e : Nat) : Prop := ∀ i, a ≤ i → i < e → ¬ (l.getD i ms0).k = 3
theorem wd_bare (l : List Ms) : ∀ k, (∀ p ∈ (wd l k).1, Bare l p.1 p.2 ∧ (l.getD p.2 ms0).k = 3) ∧ Bare l (wd l k).2 k
  | 0 => ⟨fun p hp => (by cases hp), fun i _ hi => by omega⟩
  | k + 1 => by
    have ih := wd_bare l k
    by_cases h3 : (l.getD k ms0).k = 3
    · rw [wd_eq, if_pos h3]
      refine ⟨fun p hp => ?_, fun i h1 h2 => by show ¬ _; have : k + 1 ≤ i := h1; omega⟩
      rcases List.mem_append.1 hp with hp | hp
      · exact ih.1 p hp
      · rw [List.mem_singleton.1 hp]
        exact ⟨ih.2, h3⟩
    · rw [wd_not h3]
      refine ⟨ih.1, fun i h1 h2 => ?_⟩
      by_cases e : i = k
      · rw [e]; exact h3
      · exact ih.2 i h1 (by omega)
theorem wd_in (l : List Ms) : ∀ k a e, a < e → e ≤ k → Bare l a e → (∃ p ∈ (wd l k).1, p.1 ≤ a ∧ e ≤ p.2) ∨ (wd l k).2 ≤ a
  | 0, a, e, h1, h2, _ => by omega
  | k + 1, a, e, h1, h2, hb => by
    by_cases h3 : (l.getD k ms0).k = 3
    · rw [wd_eq, if_pos h3]
      have hek : e ≤ k := by
        by_cases e1 : e = k + 1
        · exact absurd h3 (hb k (by omega) (by omega))
        · omega
      rcases wd_in l k a e h1 hek hb with ⟨p, hp, hpp⟩ | h
      · exact .inl ⟨p, List.mem_append_left _ hp, hpp⟩
      · exact .inl ⟨_, List.mem_append_right _ (List.mem_singleton.2 rfl), h, hek⟩
    · rw [wd_not h3]
      by_cases e1 : e = k + 1
      · have hle := wd_le l k
        by_cases ea : a = k
        · exact .inr (by omega)
        · rcases wd_in l k a k (by omega) (Nat.le_refl _) (fun i x y => hb i x (by omega)) with ⟨p, hp, hpp⟩ | h
          · have h4 := hle.2 p hp
            have h5 := (wd_bare l k).1 p hp
            have : p.2 = k := by omega
            rw [this] at h5
            exact absurd h5.2 h3
          · exact .inr h
      · exact wd_in l k a e h1 (by omega) hb
theorem wds_bare (l : List Ms) : ∀ p ∈ wds l, Bare l p.1 p.2 ∧ (p.2 = l.length ∨ (l.getD p.2 ms0).k = 3) := fun p hp => by
  unfold wds at hp
  rcases List.mem_append.1 hp with hp | hp
  · have := (wd_bare l l.length).1 p hp
    exact ⟨this.1, .inr this.2⟩
  · rw [List.mem_singleton.1 hp]
    exact ⟨(wd_bare l l.length).2, .inl rfl⟩
theorem wds_in (l : List Ms) {a e : Nat} (h1 : a < e) (h2 : e ≤ l.length) (hb : Bare l a e) : ∃ p ∈ wds l, p.1 ≤ a ∧ e ≤ p.2 := by
  unfold wds
  rcases wd_in l l.length a e h1 h2 hb with ⟨p, hp, hpp⟩ | h
  · exact ⟨p, List.mem_append_left _ hp, hpp⟩
  · exact ⟨_, List.mem_append_right _ (List.mem_singleton.2 rfl), h, h2⟩
theorem flat_add {l : List Ms} (h : Flat l) (f d : Nat) : ∀ j, f + (d + j) ≤ l.length → runN l f (d + j) = runN l f d + runN l (f + d) j
  | 0, hj => by
    have := (flat_rng h (f + d) 0 (by omega))
    show runN l f d = runN l f d + runN l (f + d) 0
    have h0 : runN l (f + d) 0 = 0 := by omega
    omega
  | j + 1, hj => by
    have ih := flat_add h f d j (by omega)
    have s1 := flat_step h (f := f) (k := d + j) (by omega)
    have s2 := flat_step h (f := f + d) (k := j) (by omega)
    rw [show d + (j + 1) = d + j + 1 by omega, s1, s2, ih, show f + d + j = f + (d + j) by omega]
    omega
theorem run_in {l : List Ms} (h : Flat l) {f t a e : Nat} (h1 : f ≤ a) (h2 : a ≤ e) (h3 : e ≤ t) (h4 : t ≤ l.length) : runN l a (e - a) ≤ runN l f (t - f) := by
  have e1 := flat_add h f (a - f) (t - a) (by omega)
  have e2 := flat_add h a (e - a) (t - e) (by omega)
  have r1 := flat_rng h f (a - f) (by omega)
  have r2 := flat_rng h (a + (e - a)) (t - e) (by omega)
  rw [show a - f + (t - a) = t - f by omega, show f + (a - f) = a by omega] at e1
  rw [show e - a + (t - e) = t - a by omega] at e2
  omega
theorem wmx_ge (l : List Ms) : ∀ r : List (Nat × Nat), ∀ p ∈ r, runN l p.1 (p.2 - p.1) ≤ wmx l r
  | [], p, hp => by cases hp
  | x :: r, p, hp => by
    show _ ≤ max (wmx l r) (runN l x.1 (x.2 - x.1))
    rcases List.mem_cons.1 hp with rfl | hp
    · omega
    · have := wmx_ge l r p hp; omega
theorem wmx_le (l : List Ms) {b : Int} (h0 : 0 ≤ b) : ∀ r : List (Nat × Nat), (∀ p ∈ r, runN l p.1 (p.2 - p.1) ≤ b) → wmx l r ≤ b
  | [], _ => h0
  | x :: r, h => by
    show max (wmx l r) (runN l x.1 (x.2 - x.1)) ≤ b
    have h1 := wmx_le l h0 r (fun p hp => h p (List.mem_cons_of_mem _ hp))
    have h2 := h x List.mem_cons_self
    omega
/-- A run that no blank stands in is at most the widest word. -/
theorem bare_le {l : List Ms} (h : Flat l) {a e : Nat} (h1 : a < e) (h2 : e ≤ l.length) (hb : Bare l a e) : runN l a (e - a) ≤ exS l := by
  obtain ⟨p, hp, q1, q2⟩ := wds_in l h1 h2 hb
  have hle := wds_le l p hp
  have := run_in h q1 (Nat.le_of_lt h1) q2 hle.2
  have := wmx_ge l (wds l).reverse p (List.mem_reverse.2 hp)
  unfold exS
  omega
end Go.Proofs.Ytkhnfmdhdfpdhaa

namespace Go.Proofs.Ytkhnfmdhdfpdhaa
open Go.RowKit Go.Shelf

theorem word_end {l : List Ms} {p : Nat × Nat} (hp : p ∈ wds l) {k e : Nat} (hk : p.1 = k) (hlt : p.1 < p.2) (hb : Bare l k e) (hke : k ≤ e) (he : e = l.length ∨ (e < l.length ∧ (l.getD e ms0).k = 3)) : p.2 = e := by
  have hw := wds_bare l p hp
  have hle := (wds_le l p hp).2
  rcases Nat.lt_trichotomy p.2 e with h | h | h
  · rcases hw.2 with h2 | h2
    · rcases he with he | he <;> omega
    · exact absurd h2 (hb p.2 (by omega) h)
  · exact h
  · rcases he with he | he
    · omega
    · exact absurd he.2 (hw.1 e (by omega) h)

set_option maxRecDepth 100000 in
set_option maxHeartbeats 4000000 in
theorem rsides_any (t : ByteArray) (h : cellB t = true) (w : World) : Calls Try.prog 45 #[.string t] w fun e w' => e = .returned (.tuple #[.int .i64 (exS (cm t)), .int .i64 (exM (cm t))]) ∧ Below w.heap.size w w' := by
  have hF := cm_flat h
  have hsz := (cell_get h).1
  have hce := rcell_any t (by omega) w
  have hma := fun sv W hA => rcmass_any h sv W hA
  generalize cm t = l at *
  have hl := hF.1
  have hrun : ∀ (u : Value) (k e : Nat) W, k ≤ e → e < l.length → RecAt 6 msL W u l → Calls Try.prog 56 #[u, .int .i64 (k : Int), .int .i64 ((e : Int) + 1)] W fun e' w' => e' = .returned (.int .i64 (runN l k (e + 1 - k))) ∧ w' = W := fun u k e W h1 h2 hS => rrun_any u l (flat_ok hF) k (e + 1) (by omega) (by omega) (by omega) W hS
  have hall : ∀ (u : Value) W, RecAt 6 msL W u l → Calls Try.prog 56 #[u, .int .i64 0, .int .i64 (l.length : Int)] W fun e' w' => e' = .returned (.int .i64 (exM l)) ∧ w' = W := fun u W hS => rrun_any u l (flat_ok hF) 0 l.length (by omega) (Nat.le_refl _) (by omega) W hS
  have hex := ex_rng hF
  have hle : ∀ k e, k ≤ e → e < l.length → Bare l k (e + 1) → runN l k (e + 1 - k) ≤ exS l := fun k e h1 h2 hb => bare_le hF (by omega) (by omega) hb
  go_enter Try.func45, Try.ntmps45
  go_wp2_with (first
    | (go_at_call 18; refine hce.mono ?_; rintro e w1 ⟨sv, rfl, hA1, b1⟩)
    | (go_at_call 55; refine (hma sv w1 hA1).mono ?_; rintro e w2 ⟨v, rfl, hR2, b2⟩; have hB2 := b1.trans (b2.mono b1.size); obtain ⟨aa, cap, rfl, hcs⟩ := hR2.ex))
  have hrun' := fun k e h1 h2 => hrun _ k e w2 h1 h2 hR2
  have hall' := hall _ w2 hR2
  clear hrun hall hce hma hA1 hR2
  go_loopw [6, 7] (fun s i wr => ∃ (m : Int) (k : Nat), k ≤ l.length ∧ s = .int .i64 m ∧ i = .int .i64 (k : Int) ∧ wr = w2 ∧ (0 ≤ m ∧ m ≤ exS l) ∧ Hid (∀ p ∈ wds l, p.1 < k → runN l p.1 (p.2 - p.1) ≤ m)) (fun _ i _ => l.length - (intOf i).toNat)
  case atStart => exact ⟨0, 0, by omega, rfl, rfl, rfl, ⟨by omega, hex.1⟩, fun p _ h => by omega⟩
  case round =>
    obtain ⟨m, k, hk, rfl, rfl, rfl, ⟨hm0, hm1⟩, hw⟩ := hrel
    by_cases hlt : k < l.length
    · have hlt' : (k : Int) < l.length := by omega
      go_wp2_with fail
      go_loopw [6, 8] (fun s i wr' => ∃ (m' : Int) (e : Nat), k ≤ e ∧ e ≤ l.length ∧ s = .int .i64 m' ∧ i = .int .i64 ((e : Int) + 1) ∧ wr' = wr ∧ (m ≤ m' ∧ m' ≤ exS l) ∧ Hid (Bare l k e ∧ (k < e → runN l k (e - k) ≤ m'))) (fun _ i _ => l.length + 1 - (intOf i).toNat)
      case atStart => exact ⟨m, k, Nat.le_refl _, by omega, rfl, rfl, rfl, ⟨Int.le_refl _, hm1⟩, fun i _ _ => by omega, fun h => by omega⟩
      case round =>
        obtain ⟨m', e, hke, hel, rfl, rfl, rfl, ⟨hm2, hm3⟩, hbr⟩ := hrel
        have hstop : Hid ((e = l.length ∨ (e < l.length ∧ (l.getD e ms0).k = 3)) → ∀ p ∈ wds l, p.1 < k + 1 → runN l p.1 (p.2 - p.1) ≤ m') := fun he p hp hpk => by
          by_cases h1 : p.1 < k
          · have := hw.out p hp h1; omega
          · have hpe : p.1 = k := by omega
            by_cases h2 : p.1 < p.2
            · have hq := word_end hp hpe h2 hbr.out.1 hke he
              rw [hpe, hq]
              exact hbr.out.2 (by omega)
            · have := (wds_le l p hp).1
              have h3 : p.2 - p.1 = 0 := by omega
              rw [h3]
              have := flat_rng hF p.1 0 (by have := (wds_le l p hp); omega)
              omega
        by_cases h1 : e < l.length
        · have h1' : (e : Int) + 1 ≤ l.length := by omega
          rcases hcs with hcs | ⟨b, o, rfl, hbl, hc⟩
          · rw [hcs] at h1; simp at h1
          have d2 : wr.cell? ⟨b, o + e * 6 + 2, none⟩ = some (.int .i64 (l.getD e ms0).k) := by
            have := hc e h1 2 _ rfl
            rw [this, List.getD_eq_getElem?_getD, List.getElem?_eq_getElem h1]; rfl
          have hcall := hrun' k e hke h1
          have hbnd := hle k e hke h1
          by_cases h3 : (l.getD e ms0).k = 3
          · have hst := hstop.out (.inr ⟨h1, h3⟩)
            rw [h3] at d2
            have hst' : Hid _ := hst
            clear hst hcall hbnd hc hstop hbr hw h3
            go_wp2_with fail
            go_roundw
            case rel => exact ⟨m', k + 1, by omega, rfl, by simp, (by first | rfl | trivial), ⟨by omega, hm3⟩, hst'⟩
            case measure => simp [intOf]; omega
          · have h3b : ((l.getD e ms0).k != 3) = true := by simp; exact h3
            have hB1 : Bare l k (e + 1) := fun i x y => by
              by_cases ei : i = e
              · rw [ei]; exact h3
              · exact hbr.out.1 i x (by omega)
            have hbd := hbnd hB1
            have hB1' : Hid _ := hB1
            clear hB1 hbnd hc hstop hbr hw h3
            generalize (l.getD e ms0).k = z at *
            generalize hrn : runN l k (e + 1 - k) = rn at *
            have hrn' : Hid (runN l k (e + 1 - k) = rn) := hrn
            clear hrn
            go_wp2_with (go_at_call 56; refine hcall.mono ?_; rintro e' w3 ⟨rfl, rfl⟩)
            go_roundw
            case rel => exact ⟨max m' rn, e + 1, by omega, by omega, (by first | rfl | (congr 1; omega)), (by simp), (by first | rfl | trivial), ⟨by omega, by omega⟩, hB1'.out, fun _ => by rw [hrn'.out]; omega⟩
            case measure => simp [intOf]; omega
        · obtain rfl : e = l.length := by omega
          have h1' : ¬ ((l.length : Int) + 1 ≤ l.length) := by omega
          have hst' : Hid _ := hstop.out (.inl rfl)
          clear hstop hbr hw hcs
          go_wp2_with fail
          go_roundw
          case rel => exact ⟨m', k + 1, by omega, rfl, by simp, (by first | rfl | trivial), ⟨by omega, hm3⟩, hst'⟩
          case measure => simp [intOf]; omega
    · obtain rfl : k = l.length := by omega
      have hge : ¬ (l.length : Int) < l.length := by omega
      have hmx : Hid (m = exS l) := (by
        have := wmx_le l hm0 (wds l).reverse (fun p hp => by
          have hp := List.mem_reverse.1 hp
          have hl2 := wds_le l p hp
          by_cases h1 : p.1 < l.length
          · exact hw.out p hp h1
          · have h3 : p.2 - p.1 = 0 := by omega
            rw [h3]
            have := flat_rng hF p.1 0 (by omega)
            omega)
        have h2 : exS l = wmx l (wds l).reverse := rfl
        omega : m = exS l)
      clear hcs hw hrun' hle
      go_wp2_with (go_at_call 56; refine hall'.mono ?_; rintro e' w3 ⟨rfl, rfl⟩)
      go_ret2
      exact ⟨by rw [← hmx.out]; rfl, hB2⟩
end Go.Proofs.Ytkhnfmdhdfpdhaa

namespace Go.Proofs.Ytkhnfmdhdfpdhaa
open Go.RowKit Go.Shelf

/-- A column's width behind the first k cells: naught where it has none yet. -/
def acc (f : Nat → Int) (n k j : Nat) : Int := if j < k then cmx f n j k + 4 else 0
def acL (f : Nat → Int) (n k : Nat) : List Int := (List.range n).map (acc f n k)
theorem acL_len (f : Nat → Int) (n k : Nat) : (acL f n k).length = n := by simp [acL]
theorem acL_get (f : Nat → Int) (n k : Nat) {j : Nat} (h : j < (acL f n k).length) : (acL f n k)[j] = acc f n k j := by simp [acL]
theorem acL_zero (f : Nat → Int) (n : Nat) : acL f n 0 = List.replicate n 0 := by
  apply List.ext_getElem
  · simp [acL]
  · intro j h1 h2
    rw [acL_get]
    simp [acc]
theorem cmx_zero (f : Nat → Int) (n j : Nat) : cmx f n j 0 = 0 := rfl
theorem cmx_eq (f : Nat → Int) (n j k : Nat) : cmx f n j (k + 1) = if k % n = j then max (cmx f n j k) (f k) else cmx f n j k := rfl
theorem acL_step {f : Nat → Int} {n k : Nat} (hn : 0 < n) (hf : 0 ≤ f k) : (acL f n k).set (k % n) (max (acc f n k (k % n)) (f k + 4)) = acL f n (k + 1) := by
  have hm := Nat.mod_lt k hn
  have hml := Nat.mod_le k n
  apply List.ext_getElem
  · simp [acL]
  · intro j h1 h2
    rw [acL_get, List.getElem_set]
    by_cases e : k % n = j
    · rw [if_pos e, ← e]
      unfold acc
      rw [if_pos (show k % n < k + 1 by omega), cmx_eq, if_pos rfl]
      by_cases h3 : k % n < k
      · rw [if_pos h3]; omega
      · rw [if_neg h3]
        have hkn : k % n = k := by omega
        have h0 : cmx f n (k % n) k = 0 := by
          have := cmx_skip (f := f) (c := n) (j := k % n) (k := 0) k (fun i _ hi => by rw [Nat.mod_eq_of_lt (by omega)]; omega)
          rw [Nat.zero_add] at this
          rw [this, cmx_zero]
        rw [h0]; omega
    · rw [if_neg e, acL_get]
      unfold acc
      rw [cmx_eq, if_neg e]
      by_cases h3 : j < k
      · rw [if_pos h3, if_pos (by omega)]
      · have h4 : ¬ j < k + 1 := fun h => by
          have : j = k := by omega
          have hjn : j < n := by simpa [acL] using h2
          exact e (by rw [this, Nat.mod_eq_of_lt (by omega)])
        rw [if_neg h3, if_neg h4]
theorem acL_endS {n : Nat} {l : List ByteArray} (hT : Tab n l) : acL (fS l) n l.length = leS n l n := by
  have hln : n ≤ l.length := Nat.le_of_dvd (by have := hT.hl; omega) (Nat.dvd_of_mod_eq_zero hT.hd)
  apply List.ext_getElem
  · simp [acL, leS]
  · intro j h1 h2
    rw [acL_get]
    have hj : j < n := by simpa [acL] using h1
    simp [acc, leS, colI, show j < l.length by omega]
theorem acL_endM {n : Nat} {l : List ByteArray} (hT : Tab n l) : acL (fM l) n l.length = leM n l n := by
  have hln : n ≤ l.length := Nat.le_of_dvd (by have := hT.hl; omega) (Nat.dvd_of_mod_eq_zero hT.hd)
  apply List.ext_getElem
  · simp [acL, leM]
  · intro j h1 h2
    rw [acL_get]
    have hj : j < n := by simpa [acL] using h1
    simp [acc, leM, colI, show j < l.length by omega]
def opc1 (ps : String) : Array Oper := #[{ dst := some 10, op := Op.fieldAddr 24 (Operand.tmp 1) 0, type := 0, pos := ps, after := #[], guard := none }, { dst := some 11, op := Op.load 3 (Operand.tmp 10), type := 3, pos := ps, after := #[{ on := 0, ground := Ground.data }], guard := none }, { dst := some 12, op := Op.makeSlice 26 (Operand.tmp 11) (Operand.tmp 11), type := 26, pos := ps, after := #[{ on := 1, ground := Ground.data }, { on := 1, ground := Ground.data }], guard := none }, { dst := some 13, op := Op.fieldAddr 24 (Operand.tmp 1) 0, type := 0, pos := ps, after := #[], guard := none }, { dst := some 14, op := Op.load 3 (Operand.tmp 13), type := 3, pos := ps, after := #[{ on := 3, ground := Ground.data }], guard := none }, { dst := some 15, op := Op.makeSlice 26 (Operand.tmp 14) (Operand.tmp 14), type := 26, pos := ps, after := #[{ on := 4, ground := Ground.data }, { on := 4, ground := Ground.data }], guard := none }, { dst := some 4, op := Op.assign (Operand.tmp 12), type := 26, pos := ps, after := #[{ on := 2, ground := Ground.data }, { on := 0, ground := Ground.phase }, { on := 1, ground := Ground.phase }, { on := 2, ground := Ground.phase }, { on := 3, ground := Ground.textOnly Departure.lateStores }, { on := 4, ground := Ground.textOnly Departure.lateStores }, { on := 5, ground := Ground.textOnly Departure.lateStoresUnsure }], guard := none }, { dst := some 5, op := Op.assign (Operand.tmp 15), type := 26, pos := ps, after := #[{ on := 5, ground := Ground.data }, { on := 6, ground := Ground.chain }, { on := 0, ground := Ground.phase }, { on := 1, ground := Ground.phase }, { on := 2, ground := Ground.phase }, { on := 3, ground := Ground.phase }, { on := 4, ground := Ground.phase }, { on := 5, ground := Ground.phase }, { on := 6, ground := Ground.phase }], guard := none }]

set_option maxRecDepth 100000 in
set_option maxHeartbeats 2000000 in
theorem rcol_r1 (Q : Exit → Act → World → Prop) (hQ : ∀ c x (n : Nat) v w, Q (.panic c) (x.put (some n) v) w → Q (.panic c) x w) (id : Nat) (ps : String) (bT n : Nat) (v : Value) {v0 v2 v3 v4 v5 v6 v7 v8 v9 v10 v11 v12 v13 v14 v15 v16 v17 v18 v19 v20 v21 v22 v23 v24 v25 v26 v27 v28 v29 v30 v31 v32 v33 v34 v35 v36 v37 v38 v39 v40 v41 v42 v43 v44 v45 v46 v47 v48 v49 v50 v51 v52 v53 v54 v55 v56 v57 : Value} (W : World)
    (hn : n ≤ 8) (hS : TB W bT n v)
    (hK : ∀ bA bB W', bA ≠ bB → W.heap.size ≤ bA → W.heap.size ≤ bB → IBk W' bA (List.replicate n 0) → IBk W' bB (List.replicate n 0) → Below W.heap.size W W' → Q .normal { tmps := #[v0, .pointer (some ⟨bT, 0, none⟩), v2, v3, .slice (some ⟨bA, 0, none⟩) n n, .slice (some ⟨bB, 0, none⟩) n n, v6, v7, v8, v9, .pointer (some ⟨bT, 0, none⟩), .int .i64 (n : Int), .slice (some ⟨bA, 0, none⟩) n n, .pointer (some ⟨bT, 0, none⟩), .int .i64 (n : Int), .slice (some ⟨bB, 0, none⟩) n n, v16, v17, v18, v19, v20, v21, v22, v23, v24, v25, v26, v27, v28, v29, v30, v31, v32, v33, v34, v35, v36, v37, v38, v39, v40, v41, v42, v43, v44, v45, v46, v47, v48, v49, v50, v51, v52, v53, v54, v55, v56, v57], defers := [] } W') :
    (Code.region id (opc1 ps) true).wp Try.prog Q { tmps := #[v0, .pointer (some ⟨bT, 0, none⟩), v2, v3, v4, v5, v6, v7, v8, v9, v10, v11, v12, v13, v14, v15, v16, v17, v18, v19, v20, v21, v22, v23, v24, v25, v26, v27, v28, v29, v30, v31, v32, v33, v34, v35, v36, v37, v38, v39, v40, v41, v42, v43, v44, v45, v46, v47, v48, v49, v50, v51, v52, v53, v54, v55, v56, v57], defers := [] } W := by
  refine wp_region_held (S := fun w => TB w bT n v) (by kernel_rfl) ?_
  change wpAnyH _ _ _ _ _ 8 _ _ (World.drew W)
  have hBd : Below W.heap.size W W.drew := below_drewN (Below.refl _ _) 1
  have hS0 : TB W.drew bT n v := ⟨hS.row⟩
  generalize W.drew = V at *
  have mk1 := make26 (n := n) (by omega) V
  have mk2 := make26 (n := n) (by omega) (V.alloc (.cells (ints (List.replicate n 0)).toArray 3))
  have hV1 : V.heap.size < (V.alloc (.cells (ints (List.replicate n 0)).toArray 3)).heap.size := by simp
  have hI1 : IBk (V.alloc (.cells (ints (List.replicate n 0)).toArray 3)) V.heap.size (List.replicate n 0) := World.alloc_heap_new V _
  have hB1 := hBd.alloc hBd.size (.cells (ints (List.replicate n 0)).toArray 3)
  have hS1 := hS0.turns (Turns.alloc Noth V (.cells (ints (List.replicate n 0)).toArray 3)) (fun h => h)
  generalize V.alloc (.cells (ints (List.replicate n 0)).toArray 3) = V1 at *
  have hI2 : IBk (V1.alloc (.cells (ints (List.replicate n 0)).toArray 3)) V1.heap.size (List.replicate n 0) := World.alloc_heap_new V1 _
  have hI12 := hI1.turns (Turns.alloc Noth V1 (.cells (ints (List.replicate n 0)).toArray 3)) (fun h => h)
  have hB2 := hB1.alloc hB1.size (.cells (ints (List.replicate n 0)).toArray 3)
  have hS2 := hS1.turns (Turns.alloc Noth V1 (.cells (ints (List.replicate n 0)).toArray 3)) (fun h => h)
  generalize V1.alloc (.cells (ints (List.replicate n 0)).toArray 3) = V2 at *
  have hVs := hBd.size
  have hK1 := hK V.heap.size V1.heap.size V2 (by omega) (by omega) (by omega) hI12 hI2 hB2
  have hK2 := hK V1.heap.size V.heap.size V2 (by omega) (by omega) (by omega) hI2 hI12 hB2
  clear hK hI12 hI2 hI1 hB1 hB2
  unfold opc1
  refine wpAnyH_take (i := 0) (v := .pointer (some ⟨bT, 0, none⟩)) rfl (by kernel_rfl) (by kernel_rfl) (by kernel_rfl) (fun c x w => hQ c x _ _ w) (Or.inl ⟨by rfl, ?y0_a⟩) hS0 ?_
  case y0_a => (intro w' hw'; have c0 := TB.c0 hw'; go_simp)
  go_simp
  refine wpAnyH_take (i := 1) (v := .int .i64 (n : Int)) rfl (by kernel_rfl) (by kernel_rfl) (by kernel_rfl) (fun c x w => hQ c x _ _ w) (Or.inl ⟨by rfl, ?y1_a⟩) hS0 ?_
  case y1_a => (intro w' hw'; have c0 := TB.c0 hw'; go_simp)
  go_simp
  refine wpAnyH_take (i := 3) (v := .pointer (some ⟨bT, 0, none⟩)) rfl (by kernel_rfl) (by kernel_rfl) (by kernel_rfl) (fun c x w => hQ c x _ _ w) (Or.inl ⟨by rfl, ?y3_a⟩) hS0 ?_
  case y3_a => (intro w' hw'; have c0 := TB.c0 hw'; go_simp)
  go_simp
  refine wpAnyH_take (i := 4) (v := .int .i64 (n : Int)) rfl (by kernel_rfl) (by kernel_rfl) (by kernel_rfl) (fun c x w => hQ c x _ _ w) (Or.inl ⟨by rfl, ?y4_a⟩) hS0 ?_
  case y4_a => (intro w' hw'; have c0 := TB.c0 hw'; go_simp)
  go_simp
  refine two_h (i := 2) (j := 5) (by kernel_rfl) rfl rfl (by kernel_rfl) (by kernel_rfl) (fun K hK' => ?_) (fun K hK' => ?_)
  · go_simp
    refine hK' _ _ hS1 ?_
    clear hK' K
    go_simp
    refine two_h (i := 5) (j := 6) (by kernel_rfl) rfl rfl (by kernel_rfl) (by kernel_rfl) (fun K hK' => ?_) (fun K hK' => ?_)
    · go_simp
      refine hK' _ _ hS2 ?_
      clear hK' K
      go_simp
      refine wpAnyH_take (i := 6) (v := .slice (some ⟨V.heap.size, 0, none⟩) n n) rfl (by kernel_rfl) (by kernel_rfl) (by kernel_rfl) (fun c x w => hQ c x _ _ w) (Or.inl ⟨by rfl, ?y6_b⟩) hS2 ?_
      case y6_b => (intro w' hw'; have c0 := TB.c0 hw'; go_simp)
      go_simp
      refine wpAnyH_take (i := 7) (v := .slice (some ⟨V1.heap.size, 0, none⟩) n n) rfl (by kernel_rfl) (by kernel_rfl) (by kernel_rfl) (fun c x w => hQ c x _ _ w) (Or.inl ⟨by rfl, ?y7_b⟩) hS2 ?_
      case y7_b => (intro w' hw'; have c0 := TB.c0 hw'; go_simp)
      go_simp
      exact wpAnyH_done (by kernel_rfl) hK1 _
    · go_simp
      refine hK' _ _ hS1 ?_
      clear hK' K
      go_simp
      refine want_h (i := 5) (by kernel_rfl) rfl (by kernel_rfl) fun K hK' => ?_
      go_simp
      refine hK' _ _ hS2 ?_
      clear hK' K
      go_simp
      refine wpAnyH_take (i := 7) (v := .slice (some ⟨V1.heap.size, 0, none⟩) n n) rfl (by kernel_rfl) (by kernel_rfl) (by kernel_rfl) (fun c x w => hQ c x _ _ w) (Or.inl ⟨by rfl, ?y7_c⟩) hS2 ?_
      case y7_c => (intro w' hw'; have c0 := TB.c0 hw'; go_simp)
      go_simp
      exact wpAnyH_done (by kernel_rfl) hK1 _
  · go_simp
    refine hK' _ _ hS1 ?_
    clear hK' K
    go_simp
    refine want_h (i := 2) (by kernel_rfl) rfl (by kernel_rfl) fun K hK' => ?_
    go_simp
    refine hK' _ _ hS2 ?_
    clear hK' K
    go_simp
    refine wpAnyH_take (i := 6) (v := .slice (some ⟨V1.heap.size, 0, none⟩) n n) rfl (by kernel_rfl) (by kernel_rfl) (by kernel_rfl) (fun c x w => hQ c x _ _ w) (Or.inl ⟨by rfl, ?y6_d⟩) hS2 ?_
    case y6_d => (intro w' hw'; have c0 := TB.c0 hw'; go_simp)
    go_simp
    refine wpAnyH_take (i := 7) (v := .slice (some ⟨V.heap.size, 0, none⟩) n n) rfl (by kernel_rfl) (by kernel_rfl) (by kernel_rfl) (fun c x w => hQ c x _ _ w) (Or.inl ⟨by rfl, ?y7_d⟩) hS2 ?_
    case y7_d => (intro w' hw'; have c0 := TB.c0 hw'; go_simp)
    go_simp
    exact wpAnyH_done (by kernel_rfl) hK2 _

set_option maxRecDepth 100000 in
set_option maxHeartbeats 4000000 in
theorem rcolumns_any (n : Nat) (v : Value) (l : List ByteArray) (hT : Tab n l) (w : World) (hS : StrsAt w v l) :
    Calls Try.prog 28 #[.agg #[.int .i64 n, v]] w fun e w' => ∃ bA bB, bA ≠ bB ∧ w.heap.size ≤ bA ∧ w.heap.size ≤ bB ∧ e = .returned (.tuple #[.slice (some ⟨bA, 0, none⟩) n n, .slice (some ⟨bB, 0, none⟩) n n]) ∧ IBk w' bA (leS n l n) ∧ IBk w' bB (leM n l n) ∧ Below w.heap.size w w' := by
  obtain ⟨n1, n2⟩ := hT.hc
  have hB0 := (Below.refl w.heap.size w).alloc (Nat.le_refl _) (.cells #[.int .i64 n, v] 24)
  have hS0 := hS.below hB0 (Nat.le_refl _)
  have hs0 : (w.alloc (.cells #[.int .i64 n, v] 24)).heap.size = w.heap.size + 1 := World.size_alloc _ _
  have hT0 := TB.new w n v
  have hC := hT.ha
  have hrg := fun k => hC.rng k
  have hsd : ∀ (k : Nat) (hk : k < l.length) W, Calls Try.prog 45 #[.string l[k]] W fun e w' => e = .returned (.tuple #[.int .i64 (fS l k), .int .i64 (fM l k)]) ∧ Below W.heap.size W w' := fun k hk W => by
    have := rsides_any l[k] (hC k hk) W
    rw [← getD_cell hk] at this ⊢
    exact this
  have hendS := acL_endS hT
  have hendM := acL_endM hT
  have hl64 := hT.hl.2
  obtain ⟨a, cap, rfl, h2⟩ := hS.ex
  clear hS hT hS0 hC
  go_enter Try.func28, Try.ntmps28
  go_wp2_with fail
  generalize w.alloc (.cells #[.int .i64 n, .slice a l.length cap] 24) = w1 at *
  refine rcol_r1 _ (fun _ _ _ _ _ h => h) _ _ w.heap.size n _ w1 (by omega) hT0 ?_
  intro bA bB w2 hab ha hb hIA hIB b2
  have hB2 := hB0.trans (b2.mono hB0.size)
  have hT2 := hT0.below b2 (by omega)
  rw [← acL_zero (fS l)] at hIA
  rw [← acL_zero (fM l)] at hIB
  have hz2 := b2.size
  go_wp2_with fail
  go_loopw [6] (fun i wr => ∃ k : Nat, k ≤ l.length ∧ i = .int .i64 (k : Int) ∧ Below w.heap.size w wr ∧ Hid (TB wr w.heap.size n (.slice a l.length cap)) ∧ Hid (IBk wr bA (acL (fS l) n k)) ∧ Hid (IBk wr bB (acL (fM l) n k))) (fun i _ => l.length - (intOf i).toNat)
  case atStart => exact ⟨0, by omega, rfl, hB2, hT2, hIA, hIB⟩
  case round =>
    clear hIA hIB hT2 hB2 hT0 hB0
    obtain ⟨k, hk, rfl, hbl, ht, hA, hB⟩ := hrel
    have htc0 := ht.out.c0
    have htc1 := ht.out.c1
    by_cases hlt : k < l.length
    · rcases h2 with h2 | ⟨b, o, rfl, hbk, hc⟩
      · rw [h2] at hlt; simp at hlt
      have hlt' : (k : Int) < l.length := by omega
      have c2 : wr.cell? ⟨b, o + k, none⟩ = some (.string l[k]) := (hbl.cell hbk).trans (hc k hlt)
      have hcall := hsd k hlt wr
      have hr := hrg k
      have hmod := Nat.mod_lt k (show 0 < n by omega)
      have hrem : (k : Int) % (n : Int) = ((k % n : Nat) : Int) := by omega
      have hn0 : ¬ (n : Int) = 0 := by omega
      have stS := acL_step (f := fS l) (n := n) (k := k) (by omega) hr.1
      have stM := acL_step (f := fM l) (n := n) (k := k) (by omega) (by omega)
      have gS : ∀ W, IBk W bA (acL (fS l) n k) → W.cell? ⟨bA, k % n, none⟩ = some (.int .i64 (acc (fS l) n k (k % n))) ∧ W.frozen? ⟨bA, k % n, none⟩ = false := fun W h => by
        have := h.cell (show k % n < (acL (fS l) n k).length by rw [acL_len]; exact hmod)
        rw [acL_get] at this
        exact this
      have gM : ∀ W, IBk W bB (acL (fM l) n k) → W.cell? ⟨bB, k % n, none⟩ = some (.int .i64 (acc (fM l) n k (k % n))) ∧ W.frozen? ⟨bB, k % n, none⟩ = false := fun W h => by
        have := h.cell (show k % n < (acL (fM l) n k).length by rw [acL_len]; exact hmod)
        rw [acL_get] at this
        exact this
      have hlA := hA.out.lt
      have hlB := hB.out.lt
      have hltT := ht.out.lt
      have hxs : 0 ≤ acc (fS l) n k (k % n) ∧ acc (fS l) n k (k % n) ≤ 819004 := by
        unfold acc
        have := cmx_rng hrg n (k % n) k
        split <;> omega
      have hxm : 0 ≤ acc (fM l) n k (k % n) ∧ acc (fM l) n k (k % n) ≤ 819004 := by
        unfold acc
        have := cmx_rng hrg n (k % n) k
        split <;> omega
      have hend : Hid (∀ w3, Below wr.heap.size wr w3 → TB w3 w.heap.size n (.slice (some ⟨b, o, none⟩) l.length cap) ∧ IBk w3 bA (acL (fS l) n k) ∧ IBk w3 bB (acL (fM l) n k) ∧ Below w.heap.size w w3) := fun w3 b3 => ⟨ht.out.below b3 hltT, hA.out.below b3 hlA, hB.out.below b3 hlB, hbl.trans (b3.mono hbl.size)⟩
      clear hc hsd ht hA hB hrg
      generalize acc (fS l) n k (k % n) = xs at *
      generalize acc (fM l) n k (k % n) = xm at *
      generalize fS l k = ys at *
      generalize fM l k = ym at *
      generalize l[k] = tx at *
      have stS' : Hid _ := stS
      have stM' : Hid _ := stM
      have hrem' := hrem
      generalize hj : k % n = j at *
      have hj' : Hid (k % n = j) := hj
      have hjn : (j : Int) < n := by omega
      clear stS stM hj
      go_wp2_with (go_at_call 45; refine hcall.mono ?_; rintro e w3 ⟨rfl, b3⟩; obtain ⟨t3, a3, m3, B3⟩ := hend.out w3 b3; have tc0 := t3.c0; have tc1 := t3.c1; obtain ⟨ca, za⟩ := gS w3 a3; have T3 := Turns.setCell (X := fun q => q = bA) w3 (p := ⟨bA, j, none⟩) rfl (.int .i64 (max xs (ys + 4))); have m4 := m3.turns T3 (by omega); obtain ⟨cb, zb⟩ := gM _ m4; have t4 := t3.turns T3 (by omega); have tc2 := t4.c0)
      have a4 := a3.set j (max xs (ys + 4))
      rw [stS'.out] at a4
      have T4 := Turns.setCell (X := fun q => q = bB) (w3.setCell ⟨bA, j, none⟩ (.int .i64 (max xs (ys + 4)))) (p := ⟨bB, j, none⟩) rfl (.int .i64 (max xm (ym + 4)))
      have a5 : Hid _ := a4.turns T4 (by omega)
      have m5 := m4.set j (max xm (ym + 4))
      rw [stM'.out] at m5
      have m5' : Hid _ := m5
      have t5 : Hid _ := t4.turns T4 (by omega)
      have B5 := (B3.trans (T3.below B3.size (fun q hq => by omega))).trans (T4.below (by have := B3.size; have := T3.size; omega) (fun q hq => by omega))
      have q1 : Hid ((if xs < ys + 4 then ys + 4 else xs) = max xs (ys + 4)) := (by split <;> omega : _ = _)
      have q2 : Hid ((if xm < ym + 4 then ym + 4 else xm) = max xm (ym + 4)) := (by split <;> omega : _ = _)
      clear hend
      go_roundw
      case rel =>
        try rw [q1.out, q2.out]
        exact ⟨k + 1, by omega, by simp, B5, t5, a5, m5'⟩
      case measure => simp [intOf]; omega
    · obtain rfl : k = l.length := by omega
      have hge : ¬ (l.length : Int) < l.length := by omega
      have hA' : Hid (IBk wr bA (leS n l n)) := by rw [← hendS]; exact hA.out
      have hB' : Hid (IBk wr bB (leM n l n)) := by rw [← hendM]; exact hB.out
      clear h2 hsd hA hB
      go_wp2_with fail
      go_ret2
      exact ⟨bA, bB, hab, by omega, by omega, rfl, hA'.out, hB'.out, hbl⟩
end Go.Proofs.Ytkhnfmdhdfpdhaa
