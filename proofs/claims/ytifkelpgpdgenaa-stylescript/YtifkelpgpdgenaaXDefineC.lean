/-
  What is proved here: what Define of style answers of a style without a parent.
-/
import Derived.Test.YtifkelpgpdgenaaXDefineA
namespace Go.Proofs.Ytifkelpgpdgenaa
open Go.RowKit Go.Shelf

variable {X : Nat → Prop}

set_option maxRecDepth 100000 in
set_option maxHeartbeats 4000000 in
theorem define_top (t b n : Nat) (S : Sh) (hWF : WF S) (name parent : Str) (hn : nameB name = true) (hpe : parent = e0) (hpl : parent.size ≤ 16) (v : Value) (L : List (Int × Int)) (w : World) (h : SheetAt X w t b n S) (hL : SetsAt w v L) (hXL : XL X w) :
    Calls Try.prog 23 #[.pointer (some ⟨t, 0, none⟩), .string name, .string parent, v] w (defPost X w t b n S name parent L) := by
  have hnl := (nameB_pos hn).2
  have hmax : name.size ≤ maxLen := by unfold maxLen; omega
  have hmaxp : parent.size ≤ maxLen := by unfold maxLen; omega
  have hdef : defE S n name parent L = if refuseL L ≠ 0 then refuseL L else if ansUp S parent name then 10 else if S name = none ∧ 32 ≤ n then 8 else 0 := by
    unfold defE
    rw [if_neg (by rw [hn]; decide), if_neg (by rintro ⟨h, _⟩; exact h hpe)]
  have hmade := made_yes t w h.cells.1
  have hisn := isName_any name
  rw [hn] at hisn
  have hE : (ByteArray.toList parent).isEmpty = true := by rw [hpe, toList_data]; rfl
  obtain ⟨a, cap, rfl, _⟩ := hL.ex
  replace hdef : Hid _ := hdef
  clear hpe
  go_enter Try.func23, Try.ntmps23
  go_wp2_with (first
    | (go_at_call 37; refine hmade.mono ?_; rintro e w' ⟨rfl, hww⟩; subst w')
    | (go_at_call 39; refine (hisn _).mono ?_; rintro e w' ⟨rfl, hww⟩; subst w'))
  have h1 := h.below (Below.refl w.heap.size w)
  have hL1 := hL.below (Below.refl w.heap.size w)
  have D1 := (Below.refl w.heap.size w)
  refine (refuse_any _ L _ hL1).mono ?_
  rintro e w2 ⟨rfl, b2⟩
  have h2 := h1.below b2
  have hL2 := hL1.below b2
  have D2 := D1.trans (b2.mono D1.size)
  clear h1 hL1 b2
  by_cases hr : refuseL L ≠ 0
  · have hd : defE S n name parent L = refuseL L := by rw [hdef.out, if_pos hr]
    have hr' : (refuseL L == 0) = false := by simpa using hr
    have hr'' : (refuseL L != 0) = true := by simpa using hr
    have hfin := defPost_no hWF D2 h2 hd hr
    generalize refuseL L = rr at *
    go_wp2_with fail
    go_ret
    exact hfin
  · have hr0 : refuseL L = 0 := Classical.not_not.1 hr
    rw [hr0]
    rw [if_neg hr] at hdef
    go_wp2_with fail
    refine (rises_any t b n S hWF parent name hmaxp w2 h2).mono ?_
    rintro e w' ⟨rfl, hww⟩
    subst w'
    cases hu : ansUp S parent name
    · rw [hu] at hdef
      have hdef2 : Hid (defE S n name parent L = if S name = none ∧ 32 ≤ n then 8 else 0) := hdef.out
      clear hdef
      go_wp2_with fail
      refine (has_any t b n S name hmax w2 h2).mono ?_
      rintro e w3 ⟨rfl, b3⟩
      have h3 := h2.below b3
      have hL3 := hL2.below b3
      have D3 := D2.trans (b3.mono D2.size)
      clear h2 hL2 b3
      have hlen := h3.len
      obtain ⟨c0, c1⟩ := h3.cells
      have hput : Hid _ := put_any t b n S name parent hnl hpl L (refuseL_len hr0) a cap w3 h3 hL3 (hXL.mono D3.size)
      cases hx : S name with
      | none =>
        by_cases hfull : 32 ≤ n
        · have hd : defE S n name parent L = 8 := by rw [hdef2.out, if_pos ⟨hx, hfull⟩]
          have hfin := defPost_no (e := 8) hWF D3 h3 hd (by decide)
          have hfull' : (32 : Int) ≤ (n : Int) := by omega
          rw [show (none : Option Sty).isSome = false from rfl]
          go_wp2_with fail
          go_ret
          exact hfin
        · have hd : defE S n name parent L = 0 := by rw [hdef2.out, if_neg (fun h => hfull h.2)]
          have hfull' : ¬ (32 : Int) ≤ (n : Int) := by omega
          rw [show (none : Option Sty).isSome = false from rfl]
          go_wp2_with fail
          refine (hput.out (fun _ => by omega)).mono ?_
          rintro e w4 ⟨rfl, h4, o4⟩
          have hfin := defPost_yes hWF D3 o4 h4 hd
          go_wp2_with fail
          go_ret
          exact hfin
      | some x =>
        have hd : defE S n name parent L = 0 := by rw [hdef2.out, if_neg (fun h => by rw [hx] at h; cases h.1)]
        rw [show (some x : Option Sty).isSome = true from rfl]
        go_wp2_with fail
        refine (hput.out (fun h => by rw [hx] at h; cases h)).mono ?_
        rintro e w4 ⟨rfl, h4, o4⟩
        have hfin := defPost_yes hWF D3 o4 h4 hd
        go_wp2_with fail
        go_ret
        exact hfin
    · rw [hu] at hdef
      have hd : defE S n name parent L = 10 := hdef.out
      have hfin := defPost_no (e := 10) hWF D2 h2 hd (by decide)
      go_wp2_with fail
      go_ret
      exact hfin
end Go.Proofs.Ytifkelpgpdgenaa
