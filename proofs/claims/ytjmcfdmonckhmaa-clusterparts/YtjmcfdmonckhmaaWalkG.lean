/-
  What is proved here: when two lists of clusters are the same; awake answers true.
-/
import Derived.Test.YtjmcfdmonckhmaaWalkF
import Derived.Test.YtjmcfdmonckhmaaRow
namespace Go.Proofs.Ytjmcfdmonckhmaa
open Go.RowKit Go.Shelf

/-- A cluster. -/
structure Cl where
  f : Int
  t : Int
  k : Int
def clL (r : Cl) : List Value := [.int .i64 r.f, .int .i64 r.t, .int .i64 r.k]
def flat (rs : List Cl) : List Value := rs.flatMap clL
theorem flat_nil : flat [] = [] := rfl
theorem flat_append (a b : List Cl) : flat (a ++ b) = flat a ++ flat b := List.flatMap_append
theorem flat_len (qs : List Cl) : (flat qs).length = qs.length * 3 := by
  induction qs with
  | nil => rfl
  | cons p r ih => unfold flat at ih ⊢; simp [List.flatMap_cons, clL] at ih ⊢; omega
theorem flat_get (ps : List Cl) {i : Nat} (h : i < ps.length) (j : Nat) (hj : j < 3) : (flat ps)[i * 3 + j]? = (clL ps[i])[j]? := by
  have hs : ps = ps.take i ++ (ps[i] :: ps.drop (i + 1)) := by simp
  conv => lhs; rw [hs]
  rw [flat_append, List.getElem?_append_right (by rw [flat_len, List.length_take]; omega), flat_len, List.length_take, Nat.min_eq_left (by omega)]
  show (clL ps[i] ++ flat (ps.drop (i + 1)))[_]? = _
  rw [List.getElem?_append_left (by simp [clL]; omega)]
  congr 1; omega
theorem flat_one (qs : List Cl) : ∀ u ∈ flat qs, u.oneCell' = true := by
  intro u hu
  obtain ⟨r, _, hr⟩ := List.mem_flatMap.1 hu
  simp [clL] at hr; rcases hr with rfl | rfl | rfl <;> rfl
/-- The clusters of a text. -/
def clOf (t : ByteArray) (i : Nat) : Cl := ⟨st t i, st t (i + 1), kindI (bt t (st t i))⟩
def cls (t : ByteArray) : List Cl := (List.range (num t)).map (clOf t)
theorem cls_len (t : ByteArray) : (cls t).length = num t := by simp [cls]
theorem cls_get (t : ByteArray) {i : Nat} (h : i < (cls t).length) : (cls t)[i] = clOf t i := by simp [cls]
theorem rowC_flat (t : ByteArray) : ∀ n, rowC t n = flat ((List.range n).map (clOf t))
  | 0 => rfl
  | n + 1 => by
    rw [List.range_succ, List.map_append, flat_append, ← rowC_flat t n]
    rfl
theorem rowC_cls (t : ByteArray) : rowC t (num t) = flat (cls t) := rowC_flat t _

/-- Clusters, in memory. -/
structure ClsAt (W : World) (v : Value) (rs : List Cl) : Prop where
  ex : ∃ a cap, v = .slice a rs.length cap ∧ (rs = [] ∨ ∃ b, a = some ⟨b, 0, none⟩ ∧ b < W.heap.size ∧ ∀ (i : Nat) (h : i < rs.length),
    W.cell? ⟨b, i * 3, none⟩ = some (.int .i64 rs[i].f) ∧ W.cell? ⟨b, i * 3 + 1, none⟩ = some (.int .i64 rs[i].t) ∧ W.cell? ⟨b, i * 3 + 2, none⟩ = some (.int .i64 rs[i].k))
  few : rs.length ≤ 4096
theorem ClsAt.below {W W' : World} {n : Nat} {v : Value} {rs : List Cl} (h : ClsAt W v rs) (hb : Below n W W') (hn : W.heap.size ≤ n) : ClsAt W' v rs := by
  obtain ⟨a, cap, rfl, h2⟩ := h.ex
  refine ⟨⟨a, cap, rfl, ?_⟩, h.few⟩
  rcases h2 with h2 | ⟨b, rfl, hlt, hc⟩
  · exact .inl h2
  · refine .inr ⟨b, rfl, (Array.getElem?_eq_some_iff.1 ((hb.block b (Nat.lt_of_lt_of_le hlt hn)).trans (Array.getElem?_eq_getElem hlt))).1, fun i hi => ?_⟩
    obtain ⟨c0, c1, c2⟩ := hc i hi
    have hw : ∀ j v, W.cell? ⟨b, j, none⟩ = some v → W'.cell? ⟨b, j, none⟩ = some v := fun j v hv => by
      rw [← hv]; exact hb.cell (Nat.lt_of_lt_of_le hlt hn)
    exact ⟨hw _ _ c0, hw _ _ c1, hw _ _ c2⟩
theorem own_cls {W : World} {base : Nat} {v : Value} {l : List Cl} {n : Nat} (hn : n = l.length) (h : W.ownsRow base 28 3 v n (flat l)) (hf : l.length ≤ 4096) : ClsAt W v l := by
  subst hn
  rcases h.2 with ⟨rfl, hn⟩ | ⟨g, cap, cur, rfl, hb', hg, _⟩
  · have : l = [] := List.eq_nil_of_length_eq_zero hn
    exact ⟨⟨none, 0, by rw [hn], .inl this⟩, hf⟩
  · refine ⟨⟨_, cap, rfl, .inr ⟨g, rfl, (Array.getElem?_eq_some_iff.1 hg).1, fun i hi => ?_⟩⟩, hf⟩
    have hcs : ∀ j u, (flat l)[j]? = some u → W.cell? ⟨g, j, none⟩ = some u := fun j u hu => by
      have := h.cells (g := g) rfl j u hu
      rwa [addr_add0] at this
    have hc : ∀ j v, j < 3 → (clL l[i])[j]? = some v → W.cell? ⟨g, i * 3 + j, none⟩ = some v := fun j v hj hv => by
      have := flat_get l hi j hj
      rw [hv] at this
      exact hcs _ _ this
    exact ⟨hc 0 _ (by omega) rfl, hc 1 _ (by omega) rfl, hc 2 _ (by omega) rfl⟩

theorem below_drewN {n : Nat} {w w' : World} (h : Below n w w') (q : Nat) : Below n w (w'.drewN q) := ⟨h.1, h.2, h.3, h.4, h.5⟩

set_option maxRecDepth 100000 in
set_option maxHeartbeats 2000000 in
theorem same_yes (v u : Value) (qs : List Cl) (w : World) (hS : ClsAt w v qs) (hR : ClsAt w u qs) :
    Calls Try.prog 10 #[v, u] w fun e w' => e = .returned (.bool true) ∧ Below w.heap.size w w' := by
  obtain ⟨a, cap, rfl, h2⟩ := hS.ex
  obtain ⟨a', cap', rfl, h3⟩ := hR.ex
  have hlen := hS.few
  clear hS hR
  go_enter Try.func10, Try.ntmps10
  go_wp2_with fail
  go_loopw [5] (fun i wr => ∃ k : Nat, k ≤ qs.length ∧ i = .int .i64 k ∧ Below w.heap.size w wr) (fun i _ => qs.length - (intOf i).toNat)
  case atStart => exact ⟨0, by omega, rfl, Below.refl _ _⟩
  case round =>
    obtain ⟨k, hk, rfl, hb⟩ := hrel
    by_cases hlt : k < qs.length
    · rcases h2 with h2 | ⟨b, rfl, hbl, hc⟩
      · rw [h2] at hlt; simp at hlt
      · rcases h3 with h3 | ⟨b', rfl, hbl', hc'⟩
        · rw [h3] at hlt; simp at hlt
        · obtain ⟨c0, c1, c2⟩ := hc k hlt
          obtain ⟨e0, e1, e2⟩ := hc' k hlt
          have d0 : wr.cell? _ = _ := (hb.cell hbl).trans c0
          have d1 : wr.cell? _ = _ := (hb.cell hbl).trans c1
          have d2 : wr.cell? _ = _ := (hb.cell hbl).trans c2
          have f0 : wr.cell? _ = _ := (hb.cell hbl').trans e0
          have f1 : wr.cell? _ = _ := (hb.cell hbl').trans e1
          have f2 : wr.cell? _ = _ := (hb.cell hbl').trans e2
          clear c0 c1 c2 hc e0 e1 e2 hc'
          generalize qs[k].f = x0 at *
          generalize qs[k].t = x1 at *
          generalize qs[k].k = x2 at *
          go_wp2_with fail
          go_quiet (fail)
          rename_i nq
          go_wp2_with fail
          go_roundw
          case rel => exact ⟨k + 1, by omega, by simp, below_drewN hb _⟩
          case measure => simp [intOf]; omega
    · have hge : ¬ (k : Int) < qs.length := by omega
      go_wp2_with fail
      go_ret
      exact ⟨rfl, hb⟩

def exT : ByteArray := { data := #[97, 94, 126, 94, 98, 32, 49] }
theorem exT_ok : wrongI exT = 0 := wrong_ok (by decide) (fun k hk => by
  have h7 : exT.size = 7 := rfl
  have : k = 0 ∨ k = 1 ∨ k = 2 ∨ k = 3 ∨ k = 4 ∨ k = 5 ∨ k = 6 := by omega
  rcases this with rfl | rfl | rfl | rfl | rfl | rfl | rfl <;> decide)
theorem exT_cls : cls exT = [⟨0, 3, 1⟩, ⟨3, 4, 2⟩, ⟨4, 5, 1⟩, ⟨5, 6, 3⟩, ⟨6, 7, 2⟩] := by rfl

theorem split_cls (t : ByteArray) (h : wrongI t = 0) (w : World) : Calls Try.prog 8 #[.string t] w fun e w' => ∃ v, e = .returned (.tuple #[v, .int .i64 0]) ∧ (w'.ownsRow w.heap.size 28 3 v (num t) (flat (cls t)) ∧ ClsAt w' v (cls t)) ∧ Below w.heap.size w w' := by
  refine (split_ok t h w).mono ?_
  rintro e w' ⟨v, rfl, hr, hb⟩
  rw [rowC_cls] at hr
  exact ⟨v, rfl, ⟨hr, own_cls (cls_len t).symm hr (by rw [cls_len]; have := num_le t; have := ok_size h; omega)⟩, hb⟩

def exL : List Cl := [⟨0, 3, 1⟩, ⟨3, 4, 2⟩, ⟨4, 5, 1⟩, ⟨5, 6, 3⟩, ⟨6, 7, 2⟩]
theorem exT_split (w : World) : Calls Try.prog 8 #[.string { data := #[97, 94, 126, 94, 98, 32, 49] }] w fun e w' => ∃ v, e = .returned (.tuple #[v, .int .i64 0]) ∧ ClsAt w' v exL ∧ Below w.heap.size w w' := by
  refine (split_cls exT exT_ok w).mono ?_
  rintro e w' ⟨v, rfl, ⟨_, hc⟩, hb⟩
  rw [exT_cls] at hc
  exact ⟨v, rfl, hc, hb⟩
theorem row_new (w : World) (l : List Cl) (hl : l.length ≤ 4096) : ClsAt (w.alloc (.cells (flat l).toArray 28)) (.slice (some ⟨w.heap.size, 0, none⟩) l.length l.length) l := by
  refine own_cls (base := 0) rfl ⟨flat_len l, .inr ⟨w.heap.size, l.length, (flat l).toArray, rfl, Nat.zero_le _, World.alloc_heap_new w _, Nat.le_refl _, by unfold maxLen; omega, ?_, ?_⟩⟩ hl
  · simp [flat_len]
  · rw [List.toList_toArray, ← flat_len, List.take_length]

set_option maxRecDepth 100000 in
set_option maxHeartbeats 2000000 in
theorem awake_any (w : World) : Calls Try.prog 11 #[] w fun e w' => e = .returned (.bool true) ∧ Below w.heap.size w w' := by
  have hs := exT_split w
  go_enter Try.func11, Try.ntmps11
  go_wp2_with (go_at_call 8; refine hs.mono ?_; rintro e w1 ⟨v, rfl, hc, hb⟩)
  have hb2 := (Below.refl w1.heap.size w1).alloc (Nat.le_refl _) (.cells (flat exL).toArray 28)
  refine (same_yes v _ exL _ (hc.below hb2 (Nat.le_refl _)) (row_new w1 exL (by decide))).mono ?_
  rintro e w2 ⟨rfl, hb3⟩
  have hb4 : Below w.heap.size w w2 := (hb.trans (hb2.mono hb.size)).trans (hb3.mono (Nat.le_trans hb.size hb2.size))
  go_wp2_with fail
  go_ret
  exact ⟨rfl, hb4⟩
end Go.Proofs.Ytjmcfdmonckhmaa
