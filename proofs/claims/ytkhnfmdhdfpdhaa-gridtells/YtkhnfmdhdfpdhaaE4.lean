/-
  What is proved here: what end, refuse, refusePlace of cluster answer, and the document's Wrong.
  What is proved here: clusters' iterator goes through the clusters of a text, one round a cluster.
  What is proved here: what Split of cluster tells of any text.
  What is proved here: which paragraphs may be, as split and Check of metric tell it.
-/
import Derived.Test.YtkhnfmdhdfpdhaaE3
import Derived.Test.YtkhnfmdhdfpdhaaE1
import Derived.Test.YtkhnfmdhdfpdhaaE2
import Derived.RangeFuncNested
import Derived.RangeFuncBound
import Derived.RangeFuncCalls
import Derived.RangeFuncLeaves
import Derived.Shelf.Abstract
import Derived.Shelf.RegionOpen
import Derived.OwnWalkIn
import Derived.TacticsInMore
import Derived.LoopNIn
import Derived.LoopIn
import Derived.Lib.Builder
import Derived.Maps.AppendAt
namespace Go.Proofs.Ytkhnfmdhdfpdhaa
open Go.RowKit Go.Shelf

theorem endN_is {t : ByteArray} {k j : Nat} (h1 : kindI (bt t k) = 1) (hj : 1 ≤ j ∧ j ≤ 3) (ha : ∀ m, 1 ≤ m → m < j → accB (bt t (k + m)) = true) (hz : j = 3 ∨ accB (bt t (k + j)) = false) : endN t k = k + j := by
  unfold endN
  rw [if_pos h1]
  have h3 : j = 1 ∨ j = 2 ∨ j = 3 := by omega
  rcases h3 with rfl | rfl | rfl
  · rw [if_neg (by rcases hz with h | h; omega; rw [h]; simp)]
  · rw [if_pos (ha 1 (by omega) (by omega)), if_neg (by rcases hz with h | h; omega; rw [h]; simp)]
  · rw [if_pos (ha 1 (by omega) (by omega)), if_pos (ha 2 (by omega) (by omega))]

set_option maxRecDepth 100000 in
set_option maxHeartbeats 1000000 in
theorem end_any (t : ByteArray) (k : Nat) (hk : k < t.size) (ht : t.size ≤ 4096) (w : World) : Calls Try.prog 107 #[.string t, .int .i64 k] w fun e w' => e = .returned (.int .i64 (endN t k : Nat)) ∧ w' = w := by
  have hb := bt_eq hk
  have hK := kind_any
  have hA := isAccent_any
  by_cases h1 : kindI (bt t k) = 1
  · have hE : Hid (∀ j, (1 ≤ j ∧ j ≤ 3) → (∀ m, 1 ≤ m → m < j → accB (bt t (k + m)) = true) → (j = 3 ∨ accB (bt t (k + j)) = false) → endN t k = k + j) := fun j a b c => endN_is h1 a b c
    rw [hb] at h1
    clear hb
    generalize hn : endN t k = n at hE ⊢
    clear hn
    go_enter Try.func107, Try.ntmps107
    go_wp2_with (go_at_call 105; refine (hK _ _).mono ?_; rintro e w' ⟨rfl, hww⟩; subst w')
    go_loopw [5] (fun i wr => ∃ j : Nat, 1 ≤ j ∧ j ≤ 3 ∧ k + j ≤ t.size ∧ i = .int .i64 (k + j : Nat) ∧ wr = w ∧ Hid (∀ m, 1 ≤ m → m < j → accB (bt t (k + m)) = true)) (fun i _ => t.size - (intOf i).toNat)
    case atStart => exact ⟨1, by omega, by omega, by omega, by simp, rfl, fun m _ _ => by omega⟩
    case round =>
      obtain ⟨j, hj1, hj3, hjs, rfl, rfl, hall⟩ := hrel
      by_cases hlt : k + j < t.size
      · have hbj := bt_eq hlt
        by_cases h3 : j = 3
        · have hn := hE.out j ⟨hj1, hj3⟩ hall.out (.inl h3)
          clear hE hall hbj
          have hd : ((k + j : Nat) : Int) - k = 3 := by omega
          go_wp2_with fail
          go_ret
          exact ⟨by first | rfl | (rw [hn]; done) | (rw [hn]; rfl), rfl⟩
        · have hd : ((k + j : Nat) : Int) - k ≤ 2 := by omega
          cases hv : accB (bt t (k + j))
          · have hn := hE.out j ⟨hj1, hj3⟩ hall.out (.inr hv)
            rw [hbj] at hv
            clear hE hall hbj
            go_wp2_with (go_at_call 112; refine (hA _ _).mono ?_; rw [hv]; rintro e w' ⟨rfl, hww⟩; subst w')
            go_ret
            exact ⟨by first | rfl | (rw [hn]; done) | (rw [hn]; rfl), rfl⟩
          · have hyes : Hid (∀ m, 1 ≤ m → m < j + 1 → accB (bt t (k + m)) = true) := fun m h1 h2 => by
              by_cases h : m < j
              · exact hall.out m h1 h
              · obtain rfl : m = j := by omega
                exact hv
            rw [hbj] at hv
            clear hE hall hbj
            go_wp2_with (go_at_call 112; refine (hA _ _).mono ?_; rw [hv]; rintro e w' ⟨rfl, hww⟩; subst w')
            go_roundw
            case rel => exact ⟨j + 1, by omega, by omega, by omega, by simp; omega, by first | rfl | trivial, hyes⟩
            case measure => simp [intOf]; omega
      · have hv : accB (bt t (k + j)) = false := by rw [bt_no hlt]; decide
        have hn := hE.out j ⟨hj1, hj3⟩ hall.out (.inr hv)
        clear hE hall hv
        go_wp2_with fail
        go_ret
        exact ⟨by first | rfl | (rw [hn]; done) | (rw [hn]; rfl), rfl⟩
  · have e1 : endN t k = k + 1 := by unfold endN; rw [if_neg h1]
    rw [e1]
    rw [hb] at h1
    go_enter Try.func107, Try.ntmps107
    go_wp2_with (go_at_call 105; refine (hK _ _).mono ?_; rintro e w' ⟨rfl, hww⟩; subst w')
    go_ret
    exact ⟨rfl, rfl⟩

set_option maxRecDepth 100000 in
set_option maxHeartbeats 1000000 in
theorem refuse_any (t : ByteArray) (w : World) : Calls Try.prog 100 #[.string t] w fun e w' => e = .returned (.int .i64 (wrongI t)) ∧ w' = w := by
  have hK := kind_any
  by_cases hl : 4096 < t.size
  · rw [wrong_long hl]
    go_enter Try.func100, Try.ntmps100
    go_wp2
    go_ret
    exact ⟨rfl, rfl⟩
  · have hB : Hid (∀ k, k < t.size → kindI (bt t k) = 0 → wrongI t = 4) := fun k hk h0 => wrong_byte hl hk h0
    have hO : Hid ((∀ k, k < t.size → kindI (bt t k) ≠ 0) → wrongI t = 0) := fun h => wrong_ok hl h
    generalize wrongI t = n at hB hO ⊢
    go_enter Try.func100, Try.ntmps100
    go_wp2
    go_loopw [9] (fun i wr => ∃ k : Nat, k ≤ t.size ∧ i = .int .i64 k ∧ wr = w ∧ Hid (∀ j, j < k → kindI (bt t j) ≠ 0)) (fun i _ => t.size - (intOf i).toNat)
    case atStart => exact ⟨0, by omega, rfl, rfl, fun j hj => by omega⟩
    case round =>
      obtain ⟨k, hk, rfl, rfl, hall⟩ := hrel
      by_cases hlt : k < t.size
      · have hb := bt_eq hlt
        by_cases hv : kindI (bt t k) = 0
        · have hn := hB.out k hlt hv
          rw [hb] at hv
          clear hB hO hall hb
          go_wp2_with (go_at_call 105; refine (hK _ _).mono ?_; rw [hv]; rintro e w' ⟨rfl, hww⟩; subst w')
          go_ret
          exact ⟨by first | rfl | (rw [hn]; done) | (rw [hn]; rfl), rfl⟩
        · have hyes : Hid (∀ j, j < k + 1 → kindI (bt t j) ≠ 0) := fun j hj => by
            by_cases h : j < k
            · exact hall.out j h
            · obtain rfl : j = k := by omega
              exact hv
          rw [hb] at hv
          clear hB hO hall hb
          go_wp2_with (go_at_call 105; refine (hK _ _).mono ?_; rintro e w' ⟨rfl, hww⟩; subst w')
          go_roundw
          case rel => exact ⟨k + 1, by omega, by simp, by first | rfl | trivial, hyes⟩
          case measure => simp [intOf]; omega
      · have hn := hO.out (fun j hj => hall.out j (by omega))
        clear hB hO hall
        go_wp2_with fail
        go_ret
        exact ⟨by first | rfl | (rw [hn]; done) | (rw [hn]; rfl), rfl⟩

set_option maxRecDepth 100000 in
set_option maxHeartbeats 1000000 in
theorem wrong_any (t : ByteArray) (w : World) : Calls Try.prog 76 #[.string t] w fun e w' => e = .returned (.int .i64 (wrongI t)) ∧ w' = w := by
  have hK := rkind_any
  by_cases hl : 4096 < t.size
  · rw [wrong_long hl]
    go_enter Try.func76, Try.ntmps76
    go_wp2
    go_ret
    exact ⟨rfl, rfl⟩
  · have hB : Hid (∀ k, k < t.size → kindI (bt t k) = 0 → wrongI t = 4) := fun k hk h0 => wrong_byte hl hk h0
    have hO : Hid ((∀ k, k < t.size → kindI (bt t k) ≠ 0) → wrongI t = 0) := fun h => wrong_ok hl h
    generalize wrongI t = n at hB hO ⊢
    go_enter Try.func76, Try.ntmps76
    go_wp2
    go_loopw [3] (fun i wr => ∃ k : Nat, k ≤ t.size ∧ i = .int .i64 k ∧ wr = w ∧ Hid (∀ j, j < k → kindI (bt t j) ≠ 0)) (fun i _ => t.size - (intOf i).toNat)
    case atStart => exact ⟨0, by omega, rfl, rfl, fun j hj => by omega⟩
    case round =>
      obtain ⟨k, hk, rfl, rfl, hall⟩ := hrel
      by_cases hlt : k < t.size
      · have hb := bt_eq hlt
        by_cases hv : kindI (bt t k) = 0
        · have hn := hB.out k hlt hv
          rw [hb] at hv
          clear hB hO hall hb
          go_wp2_with (go_at_call 80; refine (hK _ _).mono ?_; rw [hv]; rintro e w' ⟨rfl, hww⟩; subst w')
          go_ret
          exact ⟨by first | rfl | (rw [hn]; done) | (rw [hn]; rfl), rfl⟩
        · have hyes : Hid (∀ j, j < k + 1 → kindI (bt t j) ≠ 0) := fun j hj => by
            by_cases h : j < k
            · exact hall.out j h
            · obtain rfl : j = k := by omega
              exact hv
          rw [hb] at hv
          clear hB hO hall hb
          go_wp2_with (go_at_call 80; refine (hK _ _).mono ?_; rintro e w' ⟨rfl, hww⟩; subst w')
          go_roundw
          case rel => exact ⟨k + 1, by omega, by simp, by first | rfl | trivial, hyes⟩
          case measure => simp [intOf]; omega
      · have hn := hO.out (fun j hj => hall.out j (by omega))
        clear hB hO hall
        go_wp2_with fail
        go_ret
        exact ⟨by first | rfl | (rw [hn]; done) | (rw [hn]; rfl), rfl⟩

end Go.Proofs.Ytkhnfmdhdfpdhaa

namespace Go.Proofs.Ytkhnfmdhdfpdhaa
open Go.RowKit Go.Shelf

theorem wide_fn (f : FuncId) : Fence.wide.fn f = True := rfl
theorem wide_depth : Fence.wide.depth = none := rfl
attribute [local go_sem] Oper.semAt_some wide_fn wide_depth

set_option maxHeartbeats 400000 in
theorem clusters_any (t : ByteArray) (w : World) : Calls Try.prog 101 #[.string t] w fun e w' => e = .returned (.func (.func 106) #[] #[.pointer (some ⟨w.heap.size, 0, none⟩)]) ∧ w' = w.alloc (.cells #[.string t] 9) := by
  go_enter Try.func101, Try.ntmps101
  go_wp2
  go_ret
  exact ⟨rfl, rfl⟩

/-- What the iterator reads: its own box. -/
structure Read (Bt : Nat) (t : ByteArray) (W : World) : Prop where
  box : W.heap[Bt]? = some (.cells #[.string t] 9 (0, 0))
/-- Cluster i, as a value. -/
def encC (t : ByteArray) (i : Nat) : Array Value := #[.agg #[.int .i64 (st t i : Nat), .int .i64 (st t (i + 1) : Nat), .int .i64 (kindI (bt t (st t i)))]]

set_option maxRecDepth 100000 in
set_option maxHeartbeats 2000000 in
theorem clusters1_gives (Bt : Nat) (t : ByteArray) (ht : t.size ≤ 4096) :
    Gives Try.prog 106 #[.pointer (some ⟨Bt, 0, none⟩)] (num t) (encC t) (Read Bt t) := by
  intro l J Jx W hJ hJx hRd hY h0
  refine callsIn_wide (n := 0).1 ?_
  refine callsIn_of_wp Try.func106 rfl trivial ?_ rfl
  simp only [Try.ntmps106, List.size_toArray, List.length_cons, List.length_nil, Nat.reduceAdd, Nat.reduceSub, Array.replicate_succ, Array.replicate_zero, List.push_toArray, List.append_toArray, List.nil_append, List.cons_append]
  gi_wp2
  gi_loopw [3] (fun p wr => ∃ (k : Nat) (X : Nat → Prop), k ≤ num t ∧ p = .int .i64 (st t k : Nat) ∧ J k X wr) (fun p _ => t.size - (intOf p).toNat)
  case atStart => exact ⟨0, Noth, Nat.zero_le _, rfl, h0⟩
  case round =>
    obtain ⟨k, X, hk, rfl, hJs⟩ := hrel
    have hbx := (hRd _ _ _ hJs).box
    have hc0 : wr.cell? ⟨Bt, 0, none⟩ = some (.string t) := by rw [Lib.cell_of_heap hbx]; rfl
    by_cases hlt : st t k < t.size
    · have hkn := lt_num hlt
      have hs1 := st_succ hlt
      have hs2 := st_le t (k + 1)
      have hs3 := st_lt hlt
      have hbe := bt_eq hlt
      have hYk := hY k _ _ hkn hJs
      have hen : encC t k = #[.agg #[.int .i64 (st t k : Nat), .int .i64 (st t (k + 1) : Nat), .int .i64 (kindI ((t[st t k]'hlt).toNat : Int))]] := by unfold encC; rw [hbe]
      rw [hen] at hYk
      have hE := end_any t (st t k) hlt ht wr
      have hKd := kind_any ((t[st t k]'hlt).toNat : Int) wr
      rw [← hs1] at hE
      clear hs1 hen hbe hRd hbx
      obtain ⟨fn, tmps, assign, body, hy, hR⟩ := hYk
      generalize hq0 : st t (k + 1) = q at *
      have hq : Hid (st t (k + 1) = q) := hq0
      clear hq0
      gi_wp2_with (first | (gi_at_call 107; refine (callsIn_wide.2 hE).mono ?_; rintro e w' ⟨rfl, hww⟩; subst w') | (gi_at_call 105; refine (callsIn_wide.2 hKd).mono ?_; rintro e w' ⟨rfl, hww⟩; subst w'))
      refine hR.mono ?_
      rintro e W3 ⟨hk3, (⟨rfl, hJ3⟩ | ⟨rfl, hJx3⟩)⟩
      · gi_wp2
        go_roundw
        case rel => exact ⟨k + 1, _, by omega, by rw [hq.out], hJ3⟩
        case measure => simp [intOf]; omega
      · gi_wp2
        refine bodyPost_ret (results_none rfl _ _ _) rfl ?_
        exact ⟨⟨_, rfl⟩, .inr ⟨k, hkn, hJx _ _ _ _ _ hJx3 (Turns.refl _ _) (fun _ h => h.elim)⟩⟩
    · have hkn : k = num t := by
        by_cases h : k < num t
        · exact absurd (num_lt h) hlt
        · omega
      have hJe : J (num t) Noth wr := hkn ▸ hJ _ _ _ _ _ hJs (Turns.refl _ _) (fun _ h => h.elim)
      clear hkn
      gi_wp2
      go_end0
      exact ⟨⟨_, rfl⟩, .inl hJe⟩

end Go.Proofs.Ytkhnfmdhdfpdhaa

namespace Go.Proofs.Ytkhnfmdhdfpdhaa
open Go.RowKit Go.Shelf
attribute [local go_sem] Oper.semAt_some wide_fn wide_depth

theorem Read.turns {Bt : Nat} {t : ByteArray} {W W' : World} {own : Nat → Prop} (h : Read Bt t W) (ht : Turns own W W') (h1 : ¬ own Bt) : Read Bt t W' :=
  ⟨(ht.block _ (Array.getElem?_eq_some_iff.1 h.box).1 h1).trans h.box⟩
theorem cells_new (w : World) (l : List Value) (e : TypeId) : ∀ j u, l[j]? = some u → (w.alloc (.cells l.toArray e)).cell? ((⟨w.heap.size, 0, none⟩ : Addr).add j) = some u := fun j u hu => by
  have h := World.alloc_heap_new w (.cells l.toArray e)
  have e : (⟨w.heap.size, 0, none⟩ : Addr).add j = ⟨w.heap.size, j, none⟩ := by
    unfold Addr.add
    by_cases hj : j = 0
    · rw [if_pos hj, hj]
    · rw [if_neg hj, Nat.zero_add]
  rw [e, Lib.cell_of_heap h]
  simpa using hu
theorem cl_one (t : ByteArray) (i : Nat) : ∀ u ∈ clC t i, u.oneCell' = true := by intro u hu; simp [clC] at hu; rcases hu with rfl | rfl | rfl <;> rfl
theorem info28 : (Try.prog.info? 120).map (fun i => (i.zero, i.size, i.bytes)) = some (some (.agg #[.int .i64 0, .int .i64 0, .int .i64 0]), 3, 24) := by kernel_rfl

set_option maxRecDepth 100000 in
set_option maxHeartbeats 1000000 in
theorem split_no (t : ByteArray) (h : wrongI t ≠ 0) (w : World) : Calls Try.prog 84 #[.string t] w fun e w' => e = .returned (.tuple #[.slice none 0 0, .int .i64 (wrongI t)]) ∧ w' = w := by
  have hR := refuse_any t w
  generalize wrongI t = n at h hR ⊢
  go_enter Try.func84, Try.ntmps84
  go_wp2_with (go_at_call 100; refine hR.mono ?_; rintro e w' ⟨rfl, hww⟩; subst w')
  go_ret2
  exact ⟨rfl, rfl⟩

set_option maxRecDepth 100000 in
set_option maxHeartbeats 1000000 in
theorem split_ok (t : ByteArray) (h : wrongI t = 0) (w : World) : Calls Try.prog 84 #[.string t] w fun e w' => ∃ v, e = .returned (.tuple #[v, .int .i64 0]) ∧ w'.ownsRow w.heap.size 120 3 v (num t) (rowC t (num t)) ∧ Below w.heap.size w w' := by
  have hR := refuse_any t w
  have hsz := ok_size h
  have hnl := num_le t
  rw [h] at hR
  clear h
  refine callsIn_wide (n := 0).1 ?_
  refine callsIn_of_wp_marks Try.func84 rfl trivial ?_ rfl
  simp only [Try.ntmps84, List.size_toArray, List.length_cons, List.length_nil, Nat.reduceAdd, Nat.reduceSub, Array.replicate_succ, Array.replicate_zero, List.push_toArray, List.append_toArray, List.nil_append, List.cons_append]
  gi_wp2_with (first | (gi_at_call 100; refine (callsIn_wide.2 hR).mono ?_; rintro e w' ⟨rfl, hww⟩; subst w') | (gi_at_call 101; refine (callsIn_wide.2 (clusters_any _ _)).mono ?_; rintro e w' ⟨rfl, rfl⟩))
  obtain ⟨w1, hw1⟩ : ∃ w1, (w.alloc (.cells #[.slice none 0 0] 116)).alloc (.cells #[.string t] 9) = w1 := ⟨_, rfl⟩
  have hs1 : w1.heap.size = w.heap.size + 2 := by rw [← hw1]; simp
  have hT1 : Turns Noth w w1 := by rw [← hw1]; exact (Turns.alloc _ _ _).trans (Turns.alloc _ _ _)
  have hB1 : w1.heap[w.heap.size]? = some (.cells #[.slice none 0 0] 116) := by rw [← hw1]; exact (Below.heap_alloc _ _ _ (by simp)).trans (World.alloc_heap_new w _)
  have hB2 : w1.heap[w.heap.size + 1]? = some (.cells #[.string t] 9) := by rw [← hw1]; have := World.alloc_heap_new (w.alloc (.cells #[.slice none 0 0] 116)) (.cells #[.string t] 9); rwa [World.size_alloc] at this
  have hRd : Read (w.heap.size + 1) t w1 := ⟨hB2⟩
  obtain ⟨i0, hi, hz0, hz1, hz2⟩ := info_parts info28
  rw [hw1]
  refine wp_range (gf := 106) (lb := #[.pointer (some ⟨w.heap.size + 1, 0, none⟩)]) rfl (enters_of Try.func106 (by kernel_rfl) rfl) (clusters1_gives (w.heap.size + 1) t hsz) (fun _ => rfl)
    (fun j X W => Base w1 (fun k => k = w.heap.size) X W ∧ ∃ v, W.heap[w.heap.size]? = some (.cells #[v] 116) ∧ W.ownsRow w1.heap.size 120 3 v j (rowC t j) ∧ ∀ g, v.ownBlock = some g → ¬ X g)
    (fun _ _ _ _ => False)
    (fun a' j X W => (Base w1 (fun k => k = w.heap.size) X W ∧ ∃ v, W.heap[w.heap.size]? = some (.cells #[v] 116) ∧ W.ownsRow w1.heap.size 120 3 v j (rowC t j) ∧ ∀ g, v.ownBlock = some g → ¬ X g) ∧
      ∃ B, ¬ X B ∧ W.heap[B]? = some (.cells (clC t j).toArray 120) ∧
      a' = { tmps := #[.string t, undef, .slice none 0 0, .int .i64 0, .int .i64 0, .pointer (some ⟨w.heap.size, 0, none⟩), .pointer (some ⟨B, 0, none⟩), .string t, .int .i64 0, .int .i64 0, .bool false, undef, .string t, .func (.func 106) #[] #[.pointer (some ⟨w.heap.size + 1, 0, none⟩)], .agg (clC t j).toArray, undef, undef, undef, undef, undef], defers := [] })
    (steady_row (by omega) _ _ _ _ _ _) (fun _ => steady_never) (fun a' => (steady_row (by omega) _ _ _ _ _ _).and (steady_round a' _ _)) ?hR ⟨Base.start _ _, _, hB1, World.ownsRow_nil _ _ _ _, fun g hg => by cases hg⟩ ?assign ?body ?done ?stop
  case hR =>
    rintro i X W ⟨hb, _⟩
    exact hRd.turns hb.turns (by omega)
  case assign =>
    rintro l j X W K hj ⟨hb, v, hv, hr, hg⟩ hK
    unfold encC
    gi_wp2
    exact hK _ _ (Keeps.alloc _ _ _) ⟨⟨hb.alloc _, v, (Below.heap_alloc _ _ _ (by have := hb.turns.size; omega)).trans hv, hr.alloc _, hg⟩, W.heap.size, hb.fresh, World.alloc_heap_new _ _, rfl⟩
  case body =>
    rintro l j X a' W hj ⟨⟨hb, v, hv, hrow, hg⟩, B, hB, hr, rfl⟩
    have hc0 : W.cell? ⟨w.heap.size, 0, none⟩ = some v := by rw [Lib.cell_of_heap hv]; rfl
    have hr0 : W.cell? ⟨B, 0, none⟩ = some (.int .i64 (st t j : Nat)) := by rw [Lib.cell_of_heap hr]; rfl
    have hr1 : W.cell? ⟨B, 1, none⟩ = some (.int .i64 (st t (j + 1) : Nat)) := by rw [Lib.cell_of_heap hr]; rfl
    have hr2 : W.cell? ⟨B, 2, none⟩ = some (.int .i64 (kindI (bt t (st t j)))) := by rw [Lib.cell_of_heap hr]; rfl
    have hbs := hb.turns.size
    gi_wp2_with (gi_at_builtin; refine wpListIn_append_where _ rfl _ _ 116 rfl w1.heap.size 120 i0 _ 3 24 Try.underlying116 hi hz0 hz1 hz2 rfl (by decide) v _ _ rfl (hrow.alloc _) ⟨W.heap.size, 0, none⟩ 1 1 (clC t j) rfl rfl (cells_new W _ _) (cl_one t j) (by unfold maxLen; omega) (by omega) (by simp; omega) ?_; intro v' w2 hown' hgrow hwh; obtain ⟨g', cap', rfl⟩ := ownsRow_succ hown'; obtain ⟨hv1, q1, q2, q3, q4, q5⟩ := append_step hb (by omega) hv (by decide) hrow hg hown' hgrow hwh; have hc1 := hv1.cell; have hf1 := hv1.frozen)
    exact ⟨q1, q2, _, q3, q4, q5⟩
  case done =>
    rintro D W hD ⟨hb, v, hv, hrow, hg⟩ hK
    have hc0 : W.cell? ⟨w.heap.size, 0, none⟩ = some v := by rw [Lib.cell_of_heap hv]; rfl
    gi_wp2
    refine ⟨by simp, .inl ⟨_, _, rfl, run_takeDeferred hK, ?_⟩⟩
    refine ⟨_, results_tmp2 rfl _ _ _, v, rfl, ?_, below_end hT1 hb (fun k h => by omega) _⟩
    exact ownsRow_turns (ownsRow_base hrow (by omega)) (Turns.putObj (X := fun k => k = D) W rfl _) hg
  case stop =>
    rintro D c i W _ _ h _
    exact h.elim

end Go.Proofs.Ytkhnfmdhdfpdhaa

namespace Go.Proofs.Ytkhnfmdhdfpdhaa
open Go.RowKit Go.Shelf

theorem wpList_load_want {P : Program} {ops : Array Oper} {rest : List Oper} {o : Oper} {a : Act} {w : World} {Q : Exit → Act → World → Prop} (ty : TypeId) (x : Operand) (ho : o.op = .load ty x) (hw : Region.wanted o (yielded ops a.tmps) = true)
    (g : Nat) (hx : a.eval x = .pointer (some ⟨g, 0, none⟩)) (t : TypeId) (cs : Array Value) (fr : Nat × Nat) (d : TypeDesc) (hg : w.heap[g]? = some (.cells cs t fr))
    (hu : P.underlying ty = some d) (hd : (match d with | .struct _ | .array _ _ => true | _ => false) = true) (hi : (P.info? ty).map (·.size) = some cs.size)
    (h : wpList P ops Q rest (a.put o.dst (.agg cs)) w) : wpList P ops Q (o :: rest) a w :=
  BigFrame.wpList_want hw fun _ hK => wp_load_row ty x ho g hx t cs fr d hg hu hd hi (hK _ _ h)

/-- May the rest of a paragraph be? -/
def restB (a : Pa) : Bool := spB a.sp a.t.size && keepB (prB a.p) && standB a.lb 0 16 && markB a.t a.ms
/-- What Check answers. -/
def chkI (a : Pa) : Int := if wrongI a.t = 0 then (if fieldB a.t = true then 4 else if restB a = true then 0 else 2) else wrongI a.t
theorem chk_cases (a : Pa) : (chkI a = wrongI a.t ∧ wrongI a.t ≠ 0) ∨ (chkI a = 4 ∧ wrongI a.t = 0 ∧ fieldB a.t = true) ∨ (chkI a = 2 ∧ wrongI a.t = 0 ∧ fieldB a.t = false ∧ restB a = false) ∨ (chkI a = 0 ∧ wrongI a.t = 0 ∧ fieldB a.t = false ∧ restB a = true) := by
  unfold chkI
  by_cases h : wrongI a.t = 0
  · rw [if_pos h]
    cases hf : fieldB a.t
    · cases hr : restB a
      · exact .inr (.inr (.inl ⟨by simp, h, rfl, rfl⟩))
      · exact .inr (.inr (.inr ⟨by simp, h, rfl, rfl⟩))
    · exact .inr (.inl ⟨by simp, h, rfl⟩)
  · rw [if_neg h]; exact .inl ⟨rfl, h⟩
theorem rest_cases (a : Pa) (h : restB a = false) : spB a.sp a.t.size = false ∨ (spB a.sp a.t.size = true ∧ keepB (prB a.p) = false) ∨ (spB a.sp a.t.size = true ∧ keepB (prB a.p) = true ∧ standB a.lb 0 16 = false) ∨ (spB a.sp a.t.size = true ∧ keepB (prB a.p) = true ∧ standB a.lb 0 16 = true ∧ markB a.t a.ms = false) := by
  unfold restB at h
  revert h
  cases spB a.sp a.t.size <;> cases keepB (prB a.p) <;> cases standB a.lb 0 16 <;> cases markB a.t a.ms <;> simp
theorem rest_yes (a : Pa) (h : restB a = true) : spB a.sp a.t.size = true ∧ keepB (prB a.p) = true ∧ standB a.lb 0 16 = true ∧ markB a.t a.ms = true := by
  unfold restB at h
  revert h
  cases spB a.sp a.t.size <;> cases keepB (prB a.p) <;> cases standB a.lb 0 16 <;> cases markB a.t a.ms <;> simp

/-- What split answers. -/
def SplitEnd (a : Pa) (w : World) (e : Ending) (w' : World) : Prop :=
  (∃ v, e = .returned (.tuple #[v, .int .i64 (chkI a)]) ∧ ((chkI a ≠ 0 ∧ v = .slice none 0 0) ∨ (chkI a = 0 ∧ w'.ownsRow w.heap.size 120 3 v (num a.t) (rowC a.t (num a.t))))) ∧ Below w.heap.size w w'

set_option maxRecDepth 100000 in
set_option maxHeartbeats 4000000 in
theorem msplit_any (a : Pa) (w : World) (hA : PaAt w a) : Calls Try.prog 70 #[paV a] w (SplitEnd a w) := by
  have hB := (Below.refl w.heap.size w).alloc (Nat.le_refl _) (Obj.cells (paC a) 39)
  have hP := PB.new w a
  have hA1 := hA.below hB (Nat.le_refl _)
  have hsz1 : Hid ((w.alloc (.cells (paC a) 39)).heap.size = w.heap.size + 1) := World.size_alloc _ _
  unfold paV
  rcases chk_cases a with ⟨e1, e2⟩ | ⟨e1, e2, e3⟩ | ⟨e1, e2, e3, e4⟩ | ⟨e1, e2, e3, e4⟩
  · have c0 := hP.c0
    have hE : Hid (∀ W, Below w.heap.size w W → SplitEnd a w (.returned (.tuple #[.slice none 0 0, .int .i64 (wrongI a.t)])) W) := fun W hW => ⟨⟨_, by rw [e1], .inl ⟨by rw [e1]; exact e2, rfl⟩⟩, hW⟩
    have hs := split_no a.t e2
    generalize wrongI a.t = n at *
    generalize hw1 : w.alloc (.cells (paC a) 39) = w1 at *
    have e2' : (n == 0) = false := by simpa using e2
    clear e1 hP hA1 hA
    go_enter Try.func70, Try.ntmps70
    go_wp2_with (go_at_call 84; refine (hs _).mono ?_; rintro e w' ⟨rfl, hww⟩; subst w')
    go_ret2
    exact hE.out _ hB
  · have c0 := hP.c0
    have hE : Hid (∀ W, Below w.heap.size w W → SplitEnd a w (.returned (.tuple #[.slice none 0 0, .int .i64 4])) W) := fun W hW => ⟨⟨_, by rw [e1], .inl ⟨by rw [e1]; decide, rfl⟩⟩, hW⟩
    have hs := split_ok a.t e2
    have hix := indexByte_any a.t
    have hfi := field_index a.t
    rw [e3] at hfi
    have ht4 := ok_size e2
    have hix0 : 0 ≤ Lib.indexByte a.t.data.toList 3 := of_decide_eq_true hfi
    clear hfi e1 e2 e3 ht4
    generalize Lib.indexByte a.t.data.toList 3 = ix at *
    generalize hw1 : w.alloc (.cells (paC a) 39) = w1 at *
    go_enter Try.func70, Try.ntmps70
    go_wp2_with fail
    refine (hs _).mono ?_
    rintro e w2 ⟨v, rfl, hown, hb2⟩
    have hP2 := hP.below hb2 hP.lt
    have hA2 := hA1.below hb2 (Nat.le_refl _)
    have hB2 := hB.trans (hb2.mono hB.size)
    have c0 := hP2.c0
    have c1 := hP2.c1
    go_wp2_with (go_at_call 85; refine (hix _).mono ?_; rintro e w' ⟨rfl, hww⟩; subst w')
    go_ret2
    exact hE.out _ hB2
  · have c0 := hP.c0
    have hE : Hid (∀ W, Below w.heap.size w W → SplitEnd a w (.returned (.tuple #[.slice none 0 0, .int .i64 2])) W) := fun W hW => ⟨⟨_, by rw [e1], .inl ⟨by rw [e1]; decide, rfl⟩⟩, hW⟩
    have hs := split_ok a.t e2
    have hix := indexByte_any a.t
    have hfi := field_index a.t
    rw [e3] at hfi
    have ht4 := ok_size e2
    have hix0 : ¬ 0 ≤ Lib.indexByte a.t.data.toList 3 := of_decide_eq_false hfi
    clear hfi e1 e2 e3
    generalize Lib.indexByte a.t.data.toList 3 = ix at *
    generalize hw1 : w.alloc (.cells (paC a) 39) = w1 at *
    rcases rest_cases a e4 with f1 | ⟨f1, f2⟩ | ⟨f1, f2, f3⟩ | ⟨f1, f2, f3, f4⟩
    · go_enter Try.func70, Try.ntmps70
      go_wp2_with fail
      refine (hs _).mono ?_
      rintro e w2 ⟨v, rfl, hown, hb2⟩
      have hP2 := hP.below hb2 hP.lt
      have hA2 := hA1.below hb2 (Nat.le_refl _)
      have hB2 := hB.trans (hb2.mono hB.size)
      have c0 := hP2.c0
      have c1 := hP2.c1
      go_wp2_with (go_at_call 85; refine (hix _).mono ?_; rintro e w' ⟨rfl, hww⟩; subst w')
      have hq2 := maySpan_any a.sv a.sp a.t.size ht4 hA2.few.1 w2 hA2.sp
      rw [f1] at hq2
      refine hq2.mono ?_
      rintro e w3 ⟨rfl, hb3⟩
      have hP3 := hP2.below hb3 hP2.lt
      have hA3 := hA2.below hb3 (Nat.le_refl _)
      have hB3 := hB2.trans (hb3.mono hB2.size)
      have c1_3 := hP3.c19
      go_wp2_with fail
      go_ret2
      exact hE.out _ hB3
    · go_enter Try.func70, Try.ntmps70
      go_wp2_with fail
      refine (hs _).mono ?_
      rintro e w2 ⟨v, rfl, hown, hb2⟩
      have hP2 := hP.below hb2 hP.lt
      have hA2 := hA1.below hb2 (Nat.le_refl _)
      have hB2 := hB.trans (hb2.mono hB.size)
      have c0 := hP2.c0
      have c1 := hP2.c1
      go_wp2_with (go_at_call 85; refine (hix _).mono ?_; rintro e w' ⟨rfl, hww⟩; subst w')
      have hq2 := maySpan_any a.sv a.sp a.t.size ht4 hA2.few.1 w2 hA2.sp
      rw [f1] at hq2
      refine hq2.mono ?_
      rintro e w3 ⟨rfl, hb3⟩
      have hP3 := hP2.below hb3 hP2.lt
      have hA3 := hA2.below hb3 (Nat.le_refl _)
      have hB3 := hB2.trans (hb3.mono hB2.size)
      have c1_3 := hP3.c19
      go_wp2_with (refine wpList_load_part 37 _ rfl (by rfl) w.heap.size 2 rfl (prL a.p) _ hP3.pr Try.underlying37 rfl (info31 a.p) ?_)
      refine (properties_any a.p w3).mono ?_
      rintro e w4 ⟨vb, rfl, hbd, hb4⟩
      have hP4 := hP3.below hb4 hP3.lt
      have hA4 := hA3.below hb4 (Nat.le_refl _)
      have hB4 := hB3.trans (hb4.mono hB3.size)
      have c1_4 := hP4.c19
      have hq4 := keep_any vb (prB a.p) (by show 17 ≤ 100; omega) w4 hbd
      rw [f2] at hq4
      go_wp2_with fail
      refine hq4.mono ?_
      rintro e w5 ⟨rfl, hb5⟩
      have hP5 := hP4.below hb5 hP4.lt
      have hA5 := hA4.below hb5 (Nat.le_refl _)
      have hB5 := hB4.trans (hb5.mono hB4.size)
      have c1_5 := hP5.c19
      go_wp2_with fail
      go_ret2
      exact hE.out _ hB5
    · go_enter Try.func70, Try.ntmps70
      go_wp2_with fail
      refine (hs _).mono ?_
      rintro e w2 ⟨v, rfl, hown, hb2⟩
      have hP2 := hP.below hb2 hP.lt
      have hA2 := hA1.below hb2 (Nat.le_refl _)
      have hB2 := hB.trans (hb2.mono hB.size)
      have c0 := hP2.c0
      have c1 := hP2.c1
      go_wp2_with (go_at_call 85; refine (hix _).mono ?_; rintro e w' ⟨rfl, hww⟩; subst w')
      have hq2 := maySpan_any a.sv a.sp a.t.size ht4 hA2.few.1 w2 hA2.sp
      rw [f1] at hq2
      refine hq2.mono ?_
      rintro e w3 ⟨rfl, hb3⟩
      have hP3 := hP2.below hb3 hP2.lt
      have hA3 := hA2.below hb3 (Nat.le_refl _)
      have hB3 := hB2.trans (hb3.mono hB2.size)
      have c1_3 := hP3.c19
      go_wp2_with (refine wpList_load_part 37 _ rfl (by rfl) w.heap.size 2 rfl (prL a.p) _ hP3.pr Try.underlying37 rfl (info31 a.p) ?_)
      refine (properties_any a.p w3).mono ?_
      rintro e w4 ⟨vb, rfl, hbd, hb4⟩
      have hP4 := hP3.below hb4 hP3.lt
      have hA4 := hA3.below hb4 (Nat.le_refl _)
      have hB4 := hB3.trans (hb4.mono hB3.size)
      have c1_4 := hP4.c19
      have hq4 := keep_any vb (prB a.p) (by show 17 ≤ 100; omega) w4 hbd
      rw [f2] at hq4
      go_wp2_with fail
      refine hq4.mono ?_
      rintro e w5 ⟨rfl, hb5⟩
      have hP5 := hP4.below hb5 hP4.lt
      have hA5 := hA4.below hb5 (Nat.le_refl _)
      have hB5 := hB4.trans (hb5.mono hB4.size)
      have c1_5 := hP5.c19
      have hq5 := mayStand_any a.lb 0 16 (by omega) w5
      rw [f3] at hq5
      go_wp2_with fail
      refine hq5.mono ?_
      rintro e w6 ⟨rfl, hww⟩
      subst w6
      go_wp2_with fail
      go_ret2
      exact hE.out _ hB5
    · go_enter Try.func70, Try.ntmps70
      go_wp2_with fail
      refine (hs _).mono ?_
      rintro e w2 ⟨v, rfl, hown, hb2⟩
      have hP2 := hP.below hb2 hP.lt
      have hA2 := hA1.below hb2 (Nat.le_refl _)
      have hB2 := hB.trans (hb2.mono hB.size)
      have c0 := hP2.c0
      have c1 := hP2.c1
      go_wp2_with (go_at_call 85; refine (hix _).mono ?_; rintro e w' ⟨rfl, hww⟩; subst w')
      have hq2 := maySpan_any a.sv a.sp a.t.size ht4 hA2.few.1 w2 hA2.sp
      rw [f1] at hq2
      refine hq2.mono ?_
      rintro e w3 ⟨rfl, hb3⟩
      have hP3 := hP2.below hb3 hP2.lt
      have hA3 := hA2.below hb3 (Nat.le_refl _)
      have hB3 := hB2.trans (hb3.mono hB2.size)
      have c1_3 := hP3.c19
      go_wp2_with (refine wpList_load_part 37 _ rfl (by rfl) w.heap.size 2 rfl (prL a.p) _ hP3.pr Try.underlying37 rfl (info31 a.p) ?_)
      refine (properties_any a.p w3).mono ?_
      rintro e w4 ⟨vb, rfl, hbd, hb4⟩
      have hP4 := hP3.below hb4 hP3.lt
      have hA4 := hA3.below hb4 (Nat.le_refl _)
      have hB4 := hB3.trans (hb4.mono hB3.size)
      have c1_4 := hP4.c19
      have hq4 := keep_any vb (prB a.p) (by show 17 ≤ 100; omega) w4 hbd
      rw [f2] at hq4
      go_wp2_with fail
      refine hq4.mono ?_
      rintro e w5 ⟨rfl, hb5⟩
      have hP5 := hP4.below hb5 hP4.lt
      have hA5 := hA4.below hb5 (Nat.le_refl _)
      have hB5 := hB4.trans (hb5.mono hB4.size)
      have c1_5 := hP5.c19
      have hq5 := mayStand_any a.lb 0 16 (by omega) w5
      rw [f3] at hq5
      go_wp2_with fail
      refine hq5.mono ?_
      rintro e w6 ⟨rfl, hww⟩
      subst w6
      have hq6 := mayMark_any a ht4 w5 hA5
      rw [f4] at hq6
      go_wp2_with (refine wpList_load_want 39 _ rfl (by rfl) w.heap.size rfl 39 _ (0, 0) _ hP5.row Try.underlying39 rfl (info34 a) ?_)
      refine hq6.mono ?_
      rintro e w6 ⟨rfl, hb6⟩
      have hP6 := hP5.below hb6 hP5.lt
      have hA6 := hA5.below hb6 (Nat.le_refl _)
      have hB6 := hB5.trans (hb6.mono hB5.size)
      have c1_6 := hP6.c19
      go_wp2_with fail
      go_ret2
      exact hE.out _ hB6
  · have c0 := hP.c0
    have hs := split_ok a.t e2
    have hix := indexByte_any a.t
    have hfi := field_index a.t
    rw [e3] at hfi
    have ht4 := ok_size e2
    have hix0 : ¬ 0 ≤ Lib.indexByte a.t.data.toList 3 := of_decide_eq_false hfi
    have hE : Hid (∀ W v, W.ownsRow w.heap.size 120 3 v (num a.t) (rowC a.t (num a.t)) → Below w.heap.size w W → SplitEnd a w (.returned (.tuple #[v, .int .i64 0])) W) := fun W v hv hW => ⟨⟨_, by rw [e1], .inr ⟨e1, hv⟩⟩, hW⟩
    clear hfi e1 e2 e3
    generalize Lib.indexByte a.t.data.toList 3 = ix at *
    generalize hw1 : w.alloc (.cells (paC a) 39) = w1 at *
    obtain ⟨f1, f2, f3, f4⟩ := rest_yes a e4
    go_enter Try.func70, Try.ntmps70
    go_wp2_with fail
    refine (hs _).mono ?_
    rintro e w2 ⟨v, rfl, hown, hb2⟩
    have hP2 := hP.below hb2 hP.lt
    have hA2 := hA1.below hb2 (Nat.le_refl _)
    have hB2 := hB.trans (hb2.mono hB.size)
    have c0 := hP2.c0
    have c1 := hP2.c1
    go_wp2_with (go_at_call 85; refine (hix _).mono ?_; rintro e w' ⟨rfl, hww⟩; subst w')
    have hq2 := maySpan_any a.sv a.sp a.t.size ht4 hA2.few.1 w2 hA2.sp
    rw [f1] at hq2
    refine hq2.mono ?_
    rintro e w3 ⟨rfl, hb3⟩
    have hP3 := hP2.below hb3 hP2.lt
    have hA3 := hA2.below hb3 (Nat.le_refl _)
    have hB3 := hB2.trans (hb3.mono hB2.size)
    have c1_3 := hP3.c19
    go_wp2_with (refine wpList_load_part 37 _ rfl (by rfl) w.heap.size 2 rfl (prL a.p) _ hP3.pr Try.underlying37 rfl (info31 a.p) ?_)
    refine (properties_any a.p w3).mono ?_
    rintro e w4 ⟨vb, rfl, hbd, hb4⟩
    have hP4 := hP3.below hb4 hP3.lt
    have hA4 := hA3.below hb4 (Nat.le_refl _)
    have hB4 := hB3.trans (hb4.mono hB3.size)
    have c1_4 := hP4.c19
    have hq4 := keep_any vb (prB a.p) (by show 17 ≤ 100; omega) w4 hbd
    rw [f2] at hq4
    go_wp2_with fail
    refine hq4.mono ?_
    rintro e w5 ⟨rfl, hb5⟩
    have hP5 := hP4.below hb5 hP4.lt
    have hA5 := hA4.below hb5 (Nat.le_refl _)
    have hB5 := hB4.trans (hb5.mono hB4.size)
    have c1_5 := hP5.c19
    have hq5 := mayStand_any a.lb 0 16 (by omega) w5
    rw [f3] at hq5
    go_wp2_with fail
    refine hq5.mono ?_
    rintro e w6 ⟨rfl, hww⟩
    subst w6
    have hq6 := mayMark_any a ht4 w5 hA5
    rw [f4] at hq6
    go_wp2_with (refine wpList_load_want 39 _ rfl (by rfl) w.heap.size rfl 39 _ (0, 0) _ hP5.row Try.underlying39 rfl (info34 a) ?_)
    refine hq6.mono ?_
    rintro e w6 ⟨rfl, hb6⟩
    have hP6 := hP5.below hb6 hP5.lt
    have hA6 := hA5.below hb6 (Nat.le_refl _)
    have hB6 := hB5.trans (hb6.mono hB5.size)
    have c1_6 := hP6.c19
    go_wp2_with fail
    have hsz : w.heap.size ≤ w1.heap.size := hB.size
    go_ret2
    exact hE.out _ _ (ownsRow_base (ownsRow_below (ownsRow_below (ownsRow_below (ownsRow_below hown hb3) hb4) hb5) hb6) hsz) hB6

end Go.Proofs.Ytkhnfmdhdfpdhaa
