/-
  What is proved here: what Clone of style answers (for StyleScript).
-/
import Derived.Test.YtifkelpgpdgenaaXRemove
namespace Go.Proofs.Ytifkelpgpdgenaa
open Go.RowKit Go.Shelf

variable {X : Nat → Prop}

/-- A block that is none of cells. -/
def NoCells (w : World) (b : Nat) : Prop := ∀ cs T fr, w.heap[b]? ≠ some (.cells cs T fr)
theorem SetsAt.only2 {W W' : World} {b : Nat} {v : Value} {qs : List (Int × Int)} (h : SetsAt W v qs) (hm : NoCells W b) (ho : Only b W W') : SetsAt W' v qs := by
  obtain ⟨a, cap, rfl, h2⟩ := h.ex
  refine ⟨⟨a, cap, rfl, ?_⟩, h.few⟩
  rcases h2 with h2 | ⟨g, o, rfl, hlt, hc⟩
  · exact .inl h2
  · refine .inr ⟨g, o, rfl, Nat.lt_of_lt_of_le hlt ho.size, fun i hi => ?_⟩
    obtain ⟨c0, c1⟩ := hc i hi
    have hg : g ≠ b := fun e => by
      subst e
      unfold World.cell? at c0
      simp only at c0
      split at c0
      · rename_i h1; exact hm _ _ _ h1
      · cases c0
    have hw : ∀ j v, W.cell? ⟨g, j, none⟩ = some v → W'.cell? ⟨g, j, none⟩ = some v := fun j v hv => by
      rw [← hv]
      have := ho.block g hlt (by simp; exact hg)
      simp only [World.cell?, this]
    exact ⟨hw _ _ c0, hw _ _ c1⟩
theorem SheetAt.only2 {w w' : World} {t b n b' : Nat} {S : Sh} (h : SheetAt X w t b n S) (ho : Only b' w w') (hne : b ≠ b') (hm : NoCells w b') : SheetAt X w' t b n S := by
  obtain ⟨D, h1, h2, h3⟩ := h.own
  refine ⟨(ho.block t h.lt (by simp; intro e; subst e; exact hm _ _ _ h.obj)).trans h.obj, ⟨D, h1.kept ho (by simp; exact hne), h2, fun s => (h3 s).mono fun v qs hq => hq.only2 hm ho⟩, h.few⟩

theorem keys_nodup {w : World} {b n : Nat} {D : DataW Value} (h : w.ownsMap Try.prog 9 R0 b n D) : (strKeys D).Nodup := by
  obtain ⟨es, rfl, hp⟩ := h.tidy law9
  have hk : ∀ p ∈ es, ∃ x, p.1 = .string x := by
    obtain ⟨es', clock, _, F, _, e⟩ := h
    cases e
    intro p hp
    obtain ⟨v, hv⟩ := Maps.fit_keys F p ((WideShapes.sorted_perm _).mem_iff.1 hp)
    obtain ⟨s, _, hs, _⟩ := Go.WideMaps.string_of_keyOf Try.underlying9 hv
    exact ⟨_, hs⟩
  show (es.map fun p => Go.strOf p.1).Nodup
  unfold List.Nodup
  rw [List.pairwise_map]
  refine List.Pairwise.imp_of_mem ?_ hp
  intro p q hpm hqm hne e
  obtain ⟨x, hx⟩ := hk p hpm
  obtain ⟨y, hy⟩ := hk q hqm
  rw [hx, hy] at e hne
  simp [Go.strOf] at e
  exact hne (by rw [e])
theorem sheet_le {w w' : World} {t b n t' b' n' : Nat} {S : Sh} (h : SheetAt X w t b n S) (h' : SheetAt X w' t' b' n' S) : n ≤ n' := by
  obtain ⟨D, g1, _, g2, g3, _⟩ := keys_of h
  obtain ⟨D', _, _, k2, _, k3⟩ := keys_of h'
  rw [← g2, ← k2]
  refine nodup_le _ _ (keys_nodup g1) fun x hx => ?_
  obtain ⟨y, hy⟩ := Option.isSome_iff_exists.1 (g3 x hx)
  have := k3 _ y hy
  simpa using this

theorem ranges_nocells {w : World} {b r n cnt : Nat} {D : DataW Value} {left : Lit → Bool} (h : w.ranges Try.prog 9 R0 b r n D left cnt) : NoCells w r := by
  obtain ⟨es, clock, since, seen, c0, _, _, _, _, hr, _⟩ := h
  intro cs T fr e
  rw [e] at hr; cases hr

theorem entry_is2 {w : World} {D : DataW Value} {S : Sh} (h3 : ∀ s, Entry X w D s (S s)) {x : Str} {c : Value} {kl : Lit} {y : DataW Value × List MemPlace} (hk : keyOf Try.prog 9 (.string x) = some kl) (hy : R0 c = some y) (hat : ∀ zd, D.atKey kl zd = y.1) : ∃ p a L cap, S x = some (p, L) ∧ c = .agg #[.string p, .slice a L.length cap] ∧ SetsAt w (.slice a L.length cap) L := by
  obtain ⟨p, a, L, cap, hx, rfl⟩ := entry_is h3 hk hy hat
  have he := h3 x
  rw [hx] at he
  obtain ⟨a', cap', e1, e2⟩ := he
  obtain ⟨s, hs, hkl, _⟩ := Go.WideMaps.string_of_keyOf Try.underlying9 hk
  cases hs
  have hy' : y = (.held (.agg #[.string p, .slice a L.length cap]), []) := by simpa [R0] using hy.symm
  subst hy'
  have h1 := e1 .nil
  have h2 := hat (.nil : DataW Value)
  rw [hkl] at h2
  rw [show keyL x = .string x.data.toList from rfl, h2] at h1
  cases h1
  exact ⟨p, _, L, _, hx, rfl, e2.toSetsAt⟩

set_option maxRecDepth 100000 in
set_option maxHeartbeats 4000000 in
theorem clone_any (t b n : Nat) (S : Sh) (hWF : WF S) (w : World) (h : SheetAt X w t b n S) (hXL : XL X w) :
    Calls Try.prog 21 #[.pointer (some ⟨t, 0, none⟩)] w fun e w' => ∃ t2 b2, e = .returned (.pointer (some ⟨t2, 0, none⟩)) ∧ w.heap.size ≤ t2 ∧ w.heap.size ≤ b2 ∧ SheetAt X w' t2 b2 n S ∧ Below w.heap.size w w' := by
  have hmade := made_yes t w h.cells.1
  have hfew := h.few
  go_enter Try.func21, Try.ntmps21
  go_wp2_with (go_at_call 37; refine hmade.mono ?_; rintro e w' ⟨rfl, hww⟩; subst w')
  refine (new_any (X := X) w).mono ?_
  rintro e w1 ⟨t2, b2, rfl, ht2, hb2, hN1, B1⟩
  have h1 := h.below B1
  obtain ⟨D, g0, g2, g3⟩ := h.own
  have g1 : w1.ownsMap Try.prog 9 R0 b n D := g0.kept (row := none) ⟨B1.1, B1.2, B1.3, B1.4, fun k hk _ => B1.5 k hk⟩ (by simp)
  obtain ⟨c0, c1⟩ := h1.cells
  have hbb : b < w.heap.size := h.lt2
  have hb2l := hN1.lt2
  replace g3 : Hid _ := g3
  go_wp2_with (refine wpList_range_own _ rfl _ 58 rfl 9 82 law9 Try.underlying58 R0 b n D rfl g1 ?_; intro w2 hrg2 hg2 hs2)
  go_frame
  have B2 : Below w1.heap.size w1 w2 := ⟨hg2.os, hg2.tape, hg2.output, hg2.size, fun k hk => hg2.block k hk (by simp)⟩
  go_loopw [16] (fun _ wr => ∃ (left : Lit → Bool) (cnt n2 : Nat) (S2 : Sh), wr.ranges Try.prog 9 R0 b w1.heap.size n D left cnt ∧ Below w.heap.size w wr ∧ w1.heap.size < wr.heap.size ∧ Hid (SheetAt X wr t2 b2 n2 S2 ∧ (∀ s, S2 s = if left (keyL s) then none else S s) ∧ n2 + cnt ≤ n)) (fun _ wr => wr.rangeLeft b w1.heap.size)
  case atStart =>
    refine ⟨_, _, 0, _, hrg2, B1.trans (B2.mono B1.size), by omega, hN1.below B2, fun s => ?_, by rw [g2]; omega⟩
    have := entry_has (g3.out s)
    rw [this]
    cases S s <;> rfl
  case round =>
    obtain ⟨left, cnt, n2, S2, hrg, hbr, hrl, hH⟩ := hrel
    obtain ⟨hN, hS2, hcn⟩ := hH.out
    replace hS2 : Hid _ := hS2
    clear hH
    go_wp2_with (refine wpList_next_ranges _ rfl _ rfl 9 law9 R0 (fun x : Str => Value.string x) (fun c : Value => c) str_of_key (fun v _ _ => ⟨v, rfl⟩) b w1.heap.size n D left cnt rfl hrg ?_ ?_)
    · intro _ hl0
      have hSS : S2 = S := funext fun s => by rw [hS2.out s, hl0]; rfl
      rw [hSS] at hN
      have hnn : n2 = n := Nat.le_antisymm (sheet_le hN h1) (sheet_le h1 hN)
      rw [hnn] at hN
      clear hrg hS2
      go_wp2_with fail
      go_ret
      exact ⟨t2, b2, rfl, ht2, hb2, hN, hbr⟩
    · intro x c kl y1 y2 w' cnt' hk hlk hy hat hrg' hlt' hgr hsz hen
      obtain ⟨p, a, L, cap, hxs, rfl, hset⟩ := entry_is2 (y := (y1, y2)) g3.out hk hy hat
      have hkl : kl = keyL x := by
        obtain ⟨s, hs', hkl, _⟩ := Go.WideMaps.string_of_keyOf Try.underlying9 hk
        cases hs'; exact hkl
      have hx16 := (nameB_pos (hWF.name _ _ hxs)).2
      have hp16 := hWF.psize hxs
      have hL64 := refuseL_len (hWF.fits _ _ _ hxs)
      have hr1 : w.heap.size ≤ w1.heap.size := B1.size
      have Br : Below w.heap.size w w' := hbr.grown hgr hbr.size (fun j hj => by cases hj; exact hr1)
      have hN' := hN.only2 (b' := w1.heap.size) hgr (by omega) (ranges_nocells hrg)
      have hA := (Below.refl w'.heap.size w').alloc (Nat.le_refl _) (Obj.cells #[.string p, .slice a L.length cap] 82)
      have Ba := Br.trans (hA.mono Br.size)
      have hnone : S2 x = none := by rw [hS2.out x, ← hkl, hlk]; rfl
      have hput := put_any t2 b2 n2 S2 x p hx16 hp16 L hL64 a cap _ (hN'.below hA) (hset.below Ba) (hXL.mono Ba.size) (fun _ => by omega)
      have hrg3 := hrg'.alloc (Obj.cells #[.string p, .slice a L.length cap] 82)
      have hNew : Hid (∀ s, upd S2 x (p, L) s = if (left (keyL s) && !(keyL s).sameKey kl) then none else S s) := fun s => by
        by_cases hsx : s = x
        · subst hsx
          rw [upd_same, hkl, WideAt.sameKey_self (keyL_lit _), hxs]; simp
        · rw [upd_other _ _ hsx, hS2.out s, hkl, Maps.sameKey_ne (keyL_ne hsx)]; simp
      have hcnt : cntN S2 x n2 = n2 + 1 := by unfold cntN; rw [hnone]; rfl
      rw [hcnt] at hput
      replace hput : Hid (Calls Try.prog 38 _ _ _) := hput
      replace hrg3 : Hid _ := hrg3
      have hw1' : w1.heap.size < w'.heap.size := by omega
      have hlo : wr.rangeLeft b w1.heap.size = cnt := hrg.left_eq
      replace hlo : Hid _ := hlo
      clear hrg hrg' hat hS2 hN hN' hset hkl hnone hcnt
      try go_frame
      go_wp2_with fail
      refine hput.out.mono ?_
      rintro e w4 ⟨rfl, h4, o4⟩
      have Bw4 := Only.below Ba hb2 (Nat.le_refl _) o4
      have hrg4 : w4.ranges Try.prog 9 R0 b w1.heap.size n D (fun z => left z && !z.sameKey kl) cnt' := World.ranges.kept hrg3.out o4 (by simp; omega) (by simp; omega)
      have hm : Hid (w4.rangeLeft b w1.heap.size < wr.rangeLeft b w1.heap.size) := by rw [hrg4.left_eq, hlo.out]; exact hlt'
      have hsz4 : w1.heap.size < w4.heap.size := by have := o4.size; simp at this; omega
      have hfin : Hid (SheetAt X w4 t2 b2 (n2 + 1) (upd S2 x (p, L)) ∧ (∀ s, upd S2 x (p, L) s = if (left (keyL s) && !(keyL s).sameKey kl) then none else S s) ∧ n2 + 1 + cnt' ≤ n) := ⟨h4, hNew.out, by omega⟩
      replace hrg4 : Hid _ := hrg4
      clear h4 o4 hrg3 hput
      go_wp2_with fail
      go_roundw
      case rel => exact ⟨fun z => left z && !z.sameKey kl, cnt', n2 + 1, upd S2 x (p, L), hrg4.out, Bw4, hsz4, hfin⟩
      case measure => exact hm.out
end Go.Proofs.Ytifkelpgpdgenaa
