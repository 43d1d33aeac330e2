/-
  What is proved here: StyleKnown's walk.
-/
import Derived.Test.YtifkelpgpdgenabRemove
import Derived.Test.YtifkelpgpdgenabNames
import Derived.Shelf.RegionOpen
namespace Go.Proofs.Ytifkelpgpdgenab
open Go.RowKit Go.Shelf

theorem defPost.err {w w' : World} {t b n : Nat} {S : Sh} {name parent : Str} {L : List (Int × Int)} {e : Ending} {d : Int} (h : defPost w t b n S name parent L e w') (hd : defE S n name parent L = d) (h0 : d ≠ 0) :
    e = .returned (.int .i64 d) ∧ SheetAt w' t b n S ∧ Only b w w' := by
  obtain ⟨h1, h2, n', S', h3, h4, h5, _⟩ := h
  obtain ⟨rfl, rfl⟩ := h5 (by rw [hd]; exact h0)
  rw [hd] at h1
  exact ⟨h1, h3, h2⟩
theorem remPost.err {w w' : World} {t b n : Nat} {S : Sh} {name : Str} {e : Ending} {d : Int} (h : remPost w t b n S name e w') (hd : remE S name = d) (h0 : d ≠ 0) :
    e = .returned (.int .i64 d) ∧ SheetAt w' t b n S ∧ Only b w w' := by
  obtain ⟨h1, h2, n', S', h3, h4, h5, _⟩ := h
  obtain ⟨rfl, rfl⟩ := h5 (by rw [hd]; exact h0)
  rw [hd] at h1
  exact ⟨h1, h3, h2⟩
theorem remPost.ok {w w' : World} {t b n : Nat} {S : Sh} {name : Str} {e : Ending} (h : remPost w t b (n + 1) S name e w') (hd : remE S name = 0) :
    e = .returned (.int .i64 0) ∧ SheetAt w' t b n (del S name) ∧ WF (del S name) ∧ Only b w w' := by
  obtain ⟨h1, h2, n', S', h3, h4, _, h5⟩ := h
  obtain ⟨rfl, h6⟩ := h5 hd
  obtain rfl : n' = n := by omega
  rw [hd] at h1
  exact ⟨h1, h3, h4, h2⟩

def sc : Str := ⟨#[99]⟩
def sd : Str := ⟨#[100]⟩
def sx : Str := ⟨#[120]⟩
def sA : Str := ⟨#[65]⟩
theorem S2_a : S2 sa = some (e0, La) := by unfold S2; rw [upd_other _ _ sab]; exact S1_a
theorem S2_none {u : Str} (h1 : u ≠ sa) (h2 : u ≠ sb) : S2 u = none := by unfold S2 S1; rw [upd_other _ _ h2, upd_other _ _ h1]
noncomputable def S3 : Sh := del S2 sb
theorem S3_a : S3 sa = some (e0, La) := by unfold S3; rw [del_other _ sab]; exact S2_a
theorem S3_b : S3 sb = none := del_same _ _
theorem S3_only {u : Str} (h : (S3 u).isSome = true) : u = sa := by
  by_cases h1 : u = sa
  · exact h1
  · by_cases h2 : u = sb
    · rw [h2, S3_b] at h; cases h
    · unfold S3 at h; rw [del_other _ h2, S2_none h1 h2] at h; cases h
theorem up_ba : ansUp S2 sb sa = true := by rw [ansUp_step S2 (by decide) sab.symm S2_b]; exact ansUp_here _ (by decide)
theorem d1 : defE S2 2 sa sb [] = 10 := by
  unfold defE
  rw [if_neg (by decide), if_neg (by rintro ⟨_, h⟩; rw [S2_b] at h; cases h), if_neg (by decide), if_pos up_ba]
theorem d2 : defE S2 2 sc sx [] = 6 := by
  unfold defE
  rw [if_neg (by decide), if_pos ⟨by decide, S2_none (by decide) (by decide)⟩]
theorem d3 : defE S2 2 sA e0 [] = 4 := by
  unfold defE
  rw [if_pos (by decide)]
theorem r1 : remE S2 sa = 9 := by
  unfold remE
  rw [if_neg (by rw [S2_a]; intro h; cases h), if_pos ⟨sb, Lb, S2_b⟩]
theorem r2 : remE S2 sb = 0 := by
  unfold remE
  rw [if_neg (by rw [S2_b]; intro h; cases h), if_neg]
  rintro ⟨s, L, h⟩
  by_cases h1 : s = sa
  · rw [h1, S2_a] at h; exact absurd h (by simp [e0, sb])
  · by_cases h2 : s = sb
    · rw [h2, S2_b] at h; exact absurd h (by simp [sa, sb])
    · rw [S2_none h1 h2] at h; cases h
theorem d4 : defE S3 1 sd e0 [(1, 65)] = 2 := by
  unfold defE
  rw [if_neg (by decide), if_neg (by rintro ⟨h, _⟩; exact h rfl), if_pos (by decide)]; rfl
theorem d5 : defE S3 1 sa sa [] = 10 := by
  unfold defE
  rw [if_neg (by decide), if_neg (by rintro ⟨_, h⟩; rw [S3_a] at h; cases h), if_neg (by decide), if_pos (ansUp_here _ (by decide))]

set_option maxRecDepth 100000 in
set_option maxHeartbeats 1000000 in
theorem same_one (v u : Value) (s : Str) (w : World) (hv : StrsAt w v [s]) (hu : StrsAt w u [s]) : Calls Try.prog 7 #[v, u] w fun e w' => e = .returned (.bool true) ∧ Below w.heap.size w w' := by
  obtain ⟨a, ca, rfl, h1⟩ := hv.ex
  obtain ⟨c, cc, rfl, h2⟩ := hu.ex
  rcases h1 with h1 | ⟨g, rfl, hg, hc⟩
  · cases h1
  rcases h2 with h2 | ⟨g2, rfl, hg2, hc2⟩
  · cases h2
  have c1 := hc 0 (by simp)
  have c2 := hc2 0 (by simp)
  simp only [List.getElem_cons_zero] at c1 c2
  clear hc hc2 hv hu
  simp only [List.length_singleton]
  go_enter Try.func7, Try.ntmps7
  go_wp2_with fail
  refine wp_loop_rounds 2 ?_
  rw [rounds_succ]
  go_wp2_with fail
  go_region
  all_goals
    go_wp2_with fail
    try rw [rounds_succ]
    go_wp2_with fail
    go_ret
    exact ⟨rfl, below_drew (Below.refl _ _)⟩
end Go.Proofs.Ytifkelpgpdgenab
