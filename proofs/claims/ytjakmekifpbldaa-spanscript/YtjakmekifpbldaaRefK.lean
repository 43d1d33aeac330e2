/-
  What is proved here: what the document's Delete answers (for SpanScript).
-/
import Derived.Test.YtjakmekifpbldaaRefJ
namespace Go.Proofs.Ytjakmekifpbldaa
open Go.RowKit Go.Shelf

set_option maxHeartbeats 1000000 in
theorem rdel_range (t : Nat) (v : Value) (L : List Ch) (m : Ch) (a b : Int) (hx : a < 0 ∨ b < 0 ∨ (L.length : Int) < a ∨ (L.length : Int) - a < b) (w : World) (h : RefAt t v L m w) :
    Calls Try.prog 37 #[.pointer (some ⟨t, 0, none⟩), .int .i64 a, .int .i64 b] w fun e w' => e = .returned (.int .i64 5) ∧ w' = w := by
  have hsp := rspan_no t v L m a b hx w h
  clear h hx
  go_enter Try.func37, Try.ntmps37
  go_wp2_with (go_at_call 48; refine hsp.mono ?_; rintro e w' ⟨rfl, hww⟩; subst w')
  go_ret
  exact ⟨rfl, rfl⟩

set_option maxHeartbeats 1000000 in
theorem rdel_none (t : Nat) (v : Value) (L : List Ch) (m : Ch) (p : Nat) (hp : p ≤ L.length) (w : World) (h : RefAt t v L m w) :
    Calls Try.prog 37 #[.pointer (some ⟨t, 0, none⟩), .int .i64 p, .int .i64 0] w fun e w' => e = .returned (.int .i64 0) ∧ w' = w := by
  have hsp : Calls Try.prog 48 #[.pointer (some ⟨t, 0, none⟩), .int .i64 p, .int .i64 0] w _ := rspan_yes t v L m p 0 hp w h
  clear h
  go_enter Try.func37, Try.ntmps37
  go_wp2_with (go_at_call 48; refine hsp.mono ?_; rintro e w' ⟨rfl, hww⟩; subst w')
  go_ret
  exact ⟨rfl, rfl⟩

set_option maxRecDepth 100000 in
set_option maxHeartbeats 1000000 in
theorem rdel_ok (t : Nat) (v : Value) (L : List Ch) (m : Ch) (p n : Nat) (h0 : 0 < n) (hp : p + n ≤ L.length) (w : World) (h : RefAt t v L m w) :
    Calls Try.prog 37 #[.pointer (some ⟨t, 0, none⟩), .int .i64 p, .int .i64 n] w fun e w' => ∃ v', e = .returned (.int .i64 0) ∧ RefAt t v' (delL L p n) (delM L m n) w' ∧ Only t w w' := by
  have hfew := h.few
  have hlt := h.lt
  have hsp := rspan_yes t v L m p n hp w h
  obtain ⟨c0, _, _, _⟩ := h.cells
  obtain ⟨q, hq⟩ : ∃ q, q = p + n := ⟨_, rfl⟩
  obtain ⟨pm, hpm⟩ : ∃ pm, pm = p + n - 1 := ⟨_, rfl⟩
  obtain ⟨g, cap, rfl, hg, r0, r1, r2⟩ := h.row.cells (i := pm) (by omega)
  have hcap := h.row.cap
  have h' : Hid (RefAt t (.slice (some ⟨g, 0, none⟩) L.length cap) L m w) := h
  clear h
  have hpmI : (p : Int) + n - 1 = pm := by omega
  have hpmk : pm < L.length := by omega
  obtain ⟨d, hd, d0, d1, d2⟩ : ∃ d, L[pm]? = some d ∧ w.cell? ⟨g, pm * 3, none⟩ = some (.int .i64 d.s) ∧ w.cell? ⟨g, pm * 3 + 1, none⟩ = some (.int .i64 d.t) ∧ w.cell? ⟨g, pm * 3 + 2, none⟩ = some (.int .i64 d.k) := ⟨L[pm], List.getElem?_eq_getElem hpmk, r0, r1, r2⟩
  clear r0 r1 r2
  have hd' : Hid _ := hd
  have hpm' : Hid _ := hpm
  have hq' : Hid _ := hq
  clear hd hpm hq
  generalize hk : L.length = k at *
  have hk' : Hid _ := hk
  clear hk
  have hn0 : ¬ (n : Int) = 0 := by omega
  go_enter Try.func37, Try.ntmps37
  go_wp2_with (go_at_call 48; refine hsp.mono ?_; rintro e w' ⟨rfl, hww⟩; subst w')
  have B1 := (Below.refl w.heap.size w).alloc (Nat.le_refl _) (.cells #[.int .i64 d.s, .int .i64 d.t, .int .i64 d.k] 23)
  have hX1 := heap_new w (.cells #[.int .i64 d.s, .int .i64 d.t, .int .i64 d.k] 23)
  have hR1 : Hid (RefAt t (.slice (some ⟨g, 0, none⟩) k cap) L m _) := h'.out.below B1
  have hsz := World.size_alloc w (.cells #[.int .i64 d.s, .int .i64 d.t, .int .i64 d.k] 23)
  have hxt : w.heap.size ≠ t := by omega
  obtain ⟨vB, hvB⟩ : ∃ vB : Value, (cap = q ∧ vB = .slice (some ⟨g, 0, none⟩) 0 0) ∨ (cap ≠ q ∧ vB = .slice (some ⟨g, q * 3, none⟩) (k - q) (cap - q)) := by
    by_cases hc : cap = q
    · exact ⟨_, .inl ⟨hc, rfl⟩⟩
    · exact ⟨_, .inr ⟨hc, rfl⟩⟩
  refine del_region _ (fun _ _ _ _ _ h => h) _ _ g k cap t p n q L m hk'.out.symm hq'.out (by have := hq'.out; omega) _ hR1.out vB hvB ?_
  clear hvB
  intro s26 s33 u W' rC hG
  have C2 := B1.trans (hG.mono B1.size)
  have hX2 := (box3 hX1 hG).1
  have hlen : (sub L 0 p ++ sub L q k).length = k - n := by
    rw [← hk'.out, List.length_append, sub_length L (by have := hk'.out; omega), sub_length L (Nat.le_refl _)]
    have := hq'.out; have := hk'.out; omega
  obtain ⟨hst, hon⟩ := hR1.out.store hG rC (by rw [hlen]; omega)
  have hons : Only t W' (W'.setCell ⟨t, 0, none⟩ u) := ⟨rfl, rfl, rfl, by simp, fun k _ hne => Below.heap_setCell _ _ _ k (by intro e; exact hne (by rw [e]))⟩
  have hX3 := (hons.block w.heap.size (Array.getElem?_eq_some_iff.1 hX2).1 (by simp; exact hxt)).trans hX2
  have hon2 : Only t w (W'.setCell ⟨t, 0, none⟩ u) := (only_of_below C2).trans hons
  have hdl : delL L p n = sub L 0 p ++ sub L q k := by unfold delL; rw [hk'.out, hq'.out]
  obtain ⟨au, cu, hu⟩ := rC.form
  rw [hlen] at hu
  subst hu
  generalize hW : W'.setCell ⟨t, 0, none⟩ (.slice au (k - n) cu) = W3 at *
  obtain ⟨e0, f1, f2, f3⟩ := hst.cells
  obtain ⟨_, x0, x1, x2⟩ := box3 hX3 (Below.refl _ W3)
  have z1 := Lib.frozen_of_heap hst.obj 1
  have z2 := Lib.frozen_of_heap hst.obj 2
  have z3 := Lib.frozen_of_heap hst.obj 3
  have K' : Hid _ := And.intro hst (And.intro hon2 (And.intro hdl hlen))
  clear hst hon hon2 hdl hlen hons hW rC hX3 hX2
  unfold fr37
  by_cases hz : k - n = 0
  · have hz' : Hid _ := hz
    rw [hz] at e0
    have a0 := K'.out.1.obj
    have a1 := heap_setCell_same W3 t 1 _ 68 (.int .i64 d.s) a0
    have a2 := heap_setCell_same _ t 2 _ 68 (.int .i64 d.t) a1
    have a3 := heap_setCell_same _ t 3 _ 68 (.int .i64 d.k) a2
    have y2 : (W3.setCell ⟨t, 1, none⟩ (.int .i64 d.s)).cell? ⟨t, 2, none⟩ = some (.int .i64 m.t) := by rw [Lib.cell_of_heap a1]; rfl
    have y3 : ((W3.setCell ⟨t, 1, none⟩ (.int .i64 d.s)).setCell ⟨t, 2, none⟩ (.int .i64 d.t)).cell? ⟨t, 3, none⟩ = some (.int .i64 m.k) := by rw [Lib.cell_of_heap a2]; rfl
    have v2 := Lib.frozen_of_heap a1 2
    have v3 := Lib.frozen_of_heap a2 3
    have hset : ∀ (W : World) j (x : Value), Only t W (W.setCell ⟨t, j, none⟩ x) := fun W j x => ⟨rfl, rfl, rfl, by simp, fun k _ hne => Below.heap_setCell _ _ _ k (by intro e; exact hne (by rw [e]))⟩
    have hons := ((hset W3 1 (.int .i64 d.s)).trans (hset _ 2 (.int .i64 d.t))).trans (hset _ 3 (.int .i64 d.k))
    have hrow := K'.out.1.row.keep hons (K'.out.1.row.apart a0 (by decide))
    have hf : RefAt t _ (sub L 0 p ++ sub L q k) d _ := ⟨a3, hrow, K'.out.1.few⟩
    have hm : delM L m n = d := by
      have hk := hk'.out
      have hpm := hpm'.out
      have hd := hd'.out
      unfold delM
      rw [if_pos (by omega)]
      unfold aheadC
      rw [show L.length - 1 = pm by omega, hd]
      rfl
    have M' : Hid _ := And.intro hf (And.intro (K'.out.2.1.trans hons) hm)
    clear hf hrow hons hset a0 a1 a2 a3 hm
    go_wp2_with fail
    go_ret
    refine ⟨.slice au (k - n) cu, rfl, ?_, M'.out.2.1⟩
    rw [K'.out.2.2.1, M'.out.2.2]
    exact M'.out.1
  · have hnk : ¬ ((k - n : Nat) : Int) = 0 := by omega
    go_wp2_with fail
    go_ret
    refine ⟨.slice au (k - n) cu, rfl, ?_, K'.out.2.1⟩
    have hm : delM L m n = m := by unfold delM; rw [hk'.out, if_neg (by omega)]
    rw [K'.out.2.2.1, hm]
    exact K'.out.1
end Go.Proofs.Ytjakmekifpbldaa
