/-
  What is proved here: what Of answers of no text; when two lists of lines are the same; what lines and awake of the law answer.
  What is proved here: what awake and FirstKnown of the law answer.
  What is proved here: what three, has, awake and LeastKnown of the law answer.
  What is proved here: LeastKnown of the law answers true.
-/
import Derived.Test.YtfndocmgonlhpaaGreatDoorG1
import Derived.Test.YtfndocmgonlhpaaGreatDoorG11
import Derived.Test.YtfndocmgonlhpaaGreatDoorG5
import Derived.Deep.MidRow
import Derived.Test.YtfndocmgonlhpaaGreatDoorG10
import Derived.Test.YtfndocmgonlhpaaGreatDoorG40
import Derived.Test.YtfndocmgonlhpaaGreatDoorG35
namespace Go.Proofs.YtfndocmgonlhpaaGreatDoor
open Go.RowKit Go.Shelf
set_option maxRecDepth 100000
set_option maxHeartbeats 4000000

theorem samePieces_yes (v u : Value) (qs : List Pc) (w : World) (hl : qs.length ≤ 9223372036854775807) (hS : PcsAt w v qs) (hR : PcsAt w u qs) :
  Calls Tryz.prog 22 #[v,u] w fun e w' => e = .returned (.bool true) ∧ Below w.heap.size w w' := by
 obtain ⟨a,cap,rfl,h2⟩ := hS.ex
 obtain ⟨a',cap',rfl,h3⟩ := hR.ex
 clear hS hR
 go_enter Tryz.func22,Tryz.ntmps22
 go_wp2_with fail
 go_loopw [5] (fun i wr => ∃ k : Nat,k ≤ qs.length ∧ i = .int .i64 k ∧ Below w.heap.size w wr) (fun i _ => qs.length - (intOf i).toNat)
 case atStart => exact ⟨0,by omega,rfl,Below.refl _ _⟩
 case round =>
  obtain ⟨k,hk,rfl,hb⟩ := hrel
  by_cases hlt : k < qs.length
  ·rcases h2 with h2 | ⟨b,o,rfl,hbl,hc⟩
   ·rw [h2] at hlt; simp at hlt
   ·rcases h3 with h3 | ⟨b',o',rfl,hbl',hc'⟩
    ·rw [h3] at hlt; simp at hlt
    ·have hlt' : (k : Int) < qs.length := by omega
     have c0 : wr.cell? ⟨b,o + k * 5,none⟩ = some (.int .i64 (qs[k].a : Nat)) := (hb.cell hbl).trans (hc k hlt 0 _ rfl)
     have c1 : wr.cell? ⟨b,o + k * 5 + 1,none⟩ = some (.int .i64 (qs[k].b : Nat)) := (hb.cell hbl).trans (hc k hlt 1 _ rfl)
     have c2 : wr.cell? ⟨b,o + k * 5 + 2,none⟩ = some (.bool qs[k].wd) := (hb.cell hbl).trans (hc k hlt 2 _ rfl)
     have c3 : wr.cell? ⟨b,o + k * 5 + 3,none⟩ = some (.bool qs[k].hy) := (hb.cell hbl).trans (hc k hlt 3 _ rfl)
     have c4 : wr.cell? ⟨b,o + k * 5 + 4,none⟩ = some (.int .i64 qs[k].nt) := (hb.cell hbl).trans (hc k hlt 4 _ rfl)
     have d0 : wr.cell? ⟨b',o' + k * 5,none⟩ = some (.int .i64 (qs[k].a : Nat)) := (hb.cell hbl').trans (hc' k hlt 0 _ rfl)
     have d1 : wr.cell? ⟨b',o' + k * 5 + 1,none⟩ = some (.int .i64 (qs[k].b : Nat)) := (hb.cell hbl').trans (hc' k hlt 1 _ rfl)
     have d2 : wr.cell? ⟨b',o' + k * 5 + 2,none⟩ = some (.bool qs[k].wd) := (hb.cell hbl').trans (hc' k hlt 2 _ rfl)
     have d3 : wr.cell? ⟨b',o' + k * 5 + 3,none⟩ = some (.bool qs[k].hy) := (hb.cell hbl').trans (hc' k hlt 3 _ rfl)
     have d4 : wr.cell? ⟨b',o' + k * 5 + 4,none⟩ = some (.int .i64 qs[k].nt) := (hb.cell hbl').trans (hc' k hlt 4 _ rfl)
     clear hc hc'
     generalize qs[k].a = x0 at *
     generalize qs[k].b = x1 at *
     generalize qs[k].wd = x2 at *
     generalize qs[k].hy = x3 at *
     generalize qs[k].nt = x4 at *
     go_wp2_with fail
     go_quiet (fail)
     go_wp2_with fail
     go_roundw
     case rel => exact ⟨k + 1,by omega,by simp,below_drewN hb _⟩
     case measure => simp [intOf]; omega
  ·have hge : ¬ (k : Int) < qs.length := by omega
   go_wp2_with fail
   go_ret
   exact ⟨rfl,hb⟩

end Go.Proofs.YtfndocmgonlhpaaGreatDoor

namespace Go.Proofs.YtfndocmgonlhpaaGreatDoor
open Go.RowKit Go.Shelf

def abcL : List It := [⟨1,0,1,5,0,0,0,false⟩,⟨2,1,2,3,1,1,0,false⟩,⟨1,2,3,5,0,0,0,false⟩,⟨2,3,4,3,1,1,0,false⟩,⟨1,4,5,5,0,0,0,false⟩]
theorem abc_ok (sv : Value) : chkI (ofP ⟨#[97,32,98,32,99]⟩ sv 0) = 0 := by kernel_rfl
theorem abc_its (sv : Value) : itemsOf (ofP ⟨#[97,32,98,32,99]⟩ sv 0) = abcL := by kernel_rfl
theorem of_abc (w : World) : Calls Tryz.prog 7 #[.string ⟨#[97,32,98,32,99]⟩] w fun e w' => (∃ a,e = .returned (.agg (paC a)) ∧ PaAt w' a ∧ chkI a = 0 ∧ a.p.p12 ≠ 1 ∧ ¬ 2 ≤ a.p.p14 ∧ itemsOf a = abcL) ∧ Below w.heap.size w w' := by
 refine (of_any ⟨#[97,32,98,32,99]⟩ (by decide) w).mono ?_
 rintro e w' ⟨⟨sv,rfl,h⟩,hb⟩
 exact ⟨⟨_,rfl,h,abc_ok sv,by show (0 : Int) ≠ 1; decide,by show ¬ (2 : Int) ≤ 0; decide,abc_its sv⟩,hb⟩
end Go.Proofs.YtfndocmgonlhpaaGreatDoor

namespace Go.Proofs.YtfndocmgonlhpaaGreatDoor
open Go.RowKit Go.Shelf
set_option maxRecDepth 100000
set_option maxHeartbeats 1000000

def tabL : List It := [⟨1,0,1,5,0,0,0,false⟩,⟨4,1,2,0,0,0,0,false⟩,⟨1,2,3,5,0,0,0,false⟩]
theorem tab_ok (sv : Value) : chkI (ofP ⟨#[97,9,98]⟩ sv 0) = 0 := by kernel_rfl
theorem tab_its (sv : Value) : itemsOf (ofP ⟨#[97,9,98]⟩ sv 0) = tabL := by kernel_rfl
theorem of_tab (w : World) : Calls Tryz.prog 7 #[.string ⟨#[97,9,98]⟩] w fun e w' => (∃ a,e = .returned (.agg (paC a)) ∧ PaAt w' a ∧ chkI a = 0 ∧ a.p.p12 ≠ 1 ∧ ¬ 2 ≤ a.p.p14 ∧ itemsOf a = tabL) ∧ Below w.heap.size w w' := by
 refine (of_any ⟨#[97,9,98]⟩ (by decide) w).mono ?_
 rintro e w' ⟨⟨sv,rfl,h⟩,hb⟩
 exact ⟨⟨_,rfl,h,tab_ok sv,by show (0 : Int) ≠ 1; decide,by show ¬ (2 : Int) ≤ 0; decide,tab_its sv⟩,hb⟩
theorem items_of {L : List It} {a : Pa} {W : World} (h : PaAt W a ∧ chkI a = 0 ∧ a.p.p12 ≠ 1 ∧ ¬ 2 ≤ a.p.p14 ∧ itemsOf a = L) : Calls Tryz.prog 6 #[.agg (paC a)] W fun e w' => (∃ v,e = .returned (.tuple #[v,.int .i64 0]) ∧ ItsAt w' v L) ∧ Below W.heap.size W w' := by
 obtain ⟨h1,h2,h3,h4,h5⟩ := h
 refine (items_all a W h1 h3 h4).mono ?_
 rintro e w' ⟨⟨v,rfl,hv⟩,hb⟩
 rw [h2] at hv ⊢
 rcases hv with ⟨k1,_⟩ | ⟨_,k1,_⟩
 ·exact absurd rfl k1
 ·rw [h5] at k1
  exact ⟨⟨v,rfl,rec_of_row itL_len rfl k1⟩,hb⟩
theorem three5 (w : World) : Calls Tryz.prog 5 #[] w fun e w' => (∃ v,e = .returned v ∧ Hid (ItsAt w' v abcL)) ∧ Below w.heap.size w w' := by
 have hO : Hid (Calls Tryz.prog 7 #[.string ⟨#[97,32,98,32,99]⟩] w fun e w' => (∃ a,e = .returned (.agg (paC a)) ∧ Hid (PaAt w' a ∧ chkI a = 0 ∧ a.p.p12 ≠ 1 ∧ ¬ 2 ≤ a.p.p14 ∧ itemsOf a = abcL)) ∧ Below w.heap.size w w') := of_abc w
 have hI : Hid (∀ a W,PaAt W a ∧ chkI a = 0 ∧ a.p.p12 ≠ 1 ∧ ¬ 2 ≤ a.p.p14 ∧ itemsOf a = abcL → Calls Tryz.prog 6 #[.agg (paC a)] W fun e w' => (∃ v,e = .returned (.tuple #[v,.int .i64 0]) ∧ ItsAt w' v abcL) ∧ Below W.heap.size W w') := fun a W h => items_of h
 go_enter Tryz.func5,Tryz.ntmps5
 go_wp2_with (first | (go_at_call 7; refine hO.out.mono ?_; rintro e w2 ⟨⟨pa,rfl,hpa⟩,hb2⟩) | (go_at_call 6; refine (hI.out pa w2 hpa.out).mono ?_; rintro e w3 ⟨⟨v3,rfl,hv3⟩,hb3⟩; have hv3h : Hid (ItsAt w3 v3 abcL) := hv3; clear hv3))
 go_ret
 exact ⟨⟨_,rfl,hv3h⟩,hb2.trans (hb3.mono hb2.size)⟩
theorem br13 {ps : List Pc} {d c : Int} (h : BrR abcL [] ⟨0,13⟩ ps d c) : ps = [⟨0,3,false,false,13⟩,⟨4,5,false,false,5⟩] ∧ d = 200 ∧ c = 0 := by
 have e0 : rfE abcL [] ⟨0,13⟩ = 0 := by kernel_rfl
 have e1 : sk abcL 0 = 0 := by kernel_rfl
 unfold BrR at h
 rw [if_neg (by rw [e0]; exact fun h => h rfl),if_neg (by rw [e1]; decide)] at h
 obtain ⟨B,gs,os,cs,gw,ow,cw,mb,h⟩ := h
 have e : endO (plB abcL [] ⟨0,13⟩ B gs os cs gw ow cw mb) (srF (plB abcL [] ⟨0,13⟩ B gs os cs gw ow cw mb) (fun _ => none)) = some ⟨200,2,2⟩ := by kernel_rfl
 unfold BrP at h
 rw [e] at h
 obtain ⟨h1,h2,h3⟩ := h
 exact ⟨h1.trans (by kernel_rfl),h2,h3⟩
theorem br4 {ps : List Pc} {d c : Int} (h : BrR abcL [] ⟨0,4⟩ ps d c) : ps = [] ∧ d = 0 ∧ c = 6 := by
 have e0 : rfE abcL [] ⟨0,4⟩ = 0 := by kernel_rfl
 have e1 : sk abcL 0 = 0 := by kernel_rfl
 unfold BrR at h
 rw [if_neg (by rw [e0]; exact fun h => h rfl),if_neg (by rw [e1]; decide)] at h
 obtain ⟨B,gs,os,cs,gw,ow,cw,mb,h⟩ := h
 have e : endO (plB abcL [] ⟨0,4⟩ B gs os cs gw ow cw mb) (srF (plB abcL [] ⟨0,4⟩ B gs os cs gw ow cw mb) (fun _ => none)) = none := by kernel_rfl
 unfold BrP at h
 rw [e] at h
 exact h
theorem br20 {ps : List Pc} {d c : Int} (h : BrR tabL [] ⟨0,20⟩ ps d c) : ps = [] ∧ d = 0 ∧ c = 9 := by
 have e0 : rfE tabL [] ⟨0,20⟩ = 9 := by kernel_rfl
 unfold BrR at h
 rw [if_pos (by rw [e0]; decide),e0] at h
 exact h
theorem break_of {L : List It} {r : Sl} {ps : List Pc} {d c : Int} (hb : ∀ {qs d' c'},BrR L [] r qs d' c' → qs = ps ∧ d' = d ∧ c' = c) (hL : L.length ≤ 9000) {v : Value} {W : World} (hv : ItsAt W v L) : Calls Tryz.prog 4 #[v,.slice none 0 0,.agg #[.int .i64 r.x,.int .i64 r.w]] W fun e w' => (∃ u,e = .returned (.tuple #[u,.int .i64 d,.int .i64 c]) ∧ Hid (PcsAt w' u ps)) ∧ Below W.heap.size W w' := by
 refine (break_any v (.slice none 0 0) L [] r (by decide) (by omega) W hv (RecAt.nil _ _)).mono ?_
 rintro e w' ⟨u,qs,d',c',rfl,h1,h2,h3⟩
 obtain ⟨rfl,rfl,rfl⟩ := hb h3
 exact ⟨⟨u,rfl,h1⟩,h2⟩
theorem awake8 (w : World) : Calls Tryz.prog 8 #[] w fun e w' => e = .returned (.bool true) ∧ Below w.heap.size w w' := by
 have hT : Hid (Calls Tryz.prog 5 #[] w fun e w' => (∃ v,e = .returned v ∧ Hid (ItsAt w' v abcL)) ∧ Below w.heap.size w w') := three5 w
 have hK : Hid (∀ v W,ItsAt W v abcL → Calls Tryz.prog 4 #[v,.slice none 0 0,.agg #[.int .i64 0,.int .i64 13]] W fun e w' => (∃ u,e = .returned (.tuple #[u,.int .i64 200,.int .i64 0]) ∧ Hid (PcsAt w' u [⟨0,3,false,false,13⟩,⟨4,5,false,false,5⟩])) ∧ Below W.heap.size W w') := fun v W h => break_of (r := ⟨0,13⟩) br13 (by decide) h
 have hSm : Hid (∀ u W,PcsAt W u [⟨0,3,false,false,13⟩,⟨4,5,false,false,5⟩] → Calls Tryz.prog 22 #[u,.slice (some ⟨W.heap.size,0,none⟩) 2 2] (W.alloc (.cells #[.int .i64 0,.int .i64 3,.bool false,.bool false,.int .i64 13,.int .i64 4,.int .i64 5,.bool false,.bool false,.int .i64 5] 46)) fun e w' => e = .returned (.bool true) ∧ Below W.heap.size W w') := fun u W h => by
  have hb := (Below.refl W.heap.size W).alloc (Nat.le_refl _) (.cells #[.int .i64 0,.int .i64 3,.bool false,.bool false,.int .i64 13,.int .i64 4,.int .i64 5,.bool false,.bool false,.int .i64 5] 46)
  have hU : PcsAt (W.alloc (.cells #[.int .i64 0,.int .i64 3,.bool false,.bool false,.int .i64 13,.int .i64 4,.int .i64 5,.bool false,.bool false,.int .i64 5] 46)) (.slice (some ⟨W.heap.size,0,none⟩) 2 2) [⟨0,3,false,false,13⟩,⟨4,5,false,false,5⟩] := rec_new pcL_len W 46 [⟨0,3,false,false,13⟩,⟨4,5,false,false,5⟩]
  exact (samePieces_yes u _ _ _ (by decide) (h.below hb (Nat.le_refl _)) hU).mono fun e w' ⟨h1,h2⟩ => ⟨h1,hb.trans (h2.mono hb.size)⟩
 go_enter Tryz.func8,Tryz.ntmps8
 go_wp2_with (first | (go_at_call 5; refine hT.out.mono ?_; rintro e w2 ⟨⟨v2,rfl,hv2⟩,hb2⟩) | (go_at_call 4; refine (hK.out v2 w2 hv2.out).mono ?_; rintro e w3 ⟨⟨u3,rfl,hu3⟩,hb3⟩) | (go_at_call 22; refine (hSm.out u3 w3 hu3.out).mono ?_; rintro e w4 ⟨rfl,hb4⟩))
 go_ret
 have k3 := hb2.trans (hb3.mono hb2.size)
 exact ⟨rfl,k3.trans (hb4.mono k3.size)⟩
theorem has9 (wd want : Int) (vb : Value) (bs : List Int) (hbl : bs.length ≤ 9000) (h1 : deE abcL [] ⟨0,wd⟩ bs = 0) (h2 : deV abcL [] ⟨0,wd⟩ bs = want) (w : World) (hB : IntsAt w vb bs) : Calls Tryz.prog 9 #[.int .i64 wd,vb,.int .i64 want] w fun e w' => e = .returned (.bool true) ∧ Below w.heap.size w w' := by
 have hT : Hid (Calls Tryz.prog 5 #[] w fun e w' => (∃ v,e = .returned v ∧ Hid (ItsAt w' v abcL)) ∧ Below w.heap.size w w') := three5 w
 have hD : Hid (∀ v W,ItsAt W v abcL → Below w.heap.size w W → Calls Tryz.prog 23 #[v,.slice none 0 0,.agg #[.int .i64 0,.int .i64 wd],vb] W fun e w' => e = .returned (.tuple #[.int .i64 want,.int .i64 0]) ∧ Below W.heap.size W w') := fun v W hv hW => by
  have := demerits23_any v (.slice none 0 0) vb abcL [] ⟨0,wd⟩ bs (by decide) (by omega) W hv (RecAt.nil _ _) (hB.below hW (Nat.le_refl _))
  refine this.mono ?_
  rintro e w' ⟨rfl,hb⟩
  rw [h1,h2]
  exact ⟨rfl,hb⟩
 clear hB h1 h2
 go_enter Tryz.func9,Tryz.ntmps9
 go_wp2_with (first | (go_at_call 5; refine hT.out.mono ?_; rintro e w2 ⟨⟨v2,rfl,hv2⟩,hb2⟩) | (go_at_call 23; refine (hD.out v2 w2 hv2.out hb2).mono ?_; rintro e w3 ⟨rfl,hb3⟩))
 go_ret
 exact ⟨by simp,hb2.trans (hb3.mono hb2.size)⟩
end Go.Proofs.YtfndocmgonlhpaaGreatDoor

namespace Go.Proofs.YtfndocmgonlhpaaGreatDoor
open Go.RowKit Go.Shelf
set_option maxRecDepth 100000
set_option maxHeartbeats 4000000

theorem has_a (W : World) : Calls Tryz.prog 9 #[.int .i64 13,.slice (some ⟨W.heap.size,0,none⟩) 2 2,.int .i64 200] (W.alloc (.cells #[.int .i64 3,.int .i64 5] 3)) fun e w' => e = .returned (.bool true) ∧ Below W.heap.size W w' := by
 have hb := (Below.refl W.heap.size W).alloc (Nat.le_refl _) (.cells #[.int .i64 3,.int .i64 5] 3)
 exact (has9 13 200 _ [3,5] (by decide) (by kernel_rfl) (by kernel_rfl) _ (rec_new inL_len W 3 [3,5])).mono fun e w' ⟨h1,h2⟩ => ⟨h1,hb.trans (h2.mono hb.size)⟩
theorem has_b (W : World) : Calls Tryz.prog 9 #[.int .i64 13,.slice (some ⟨W.heap.size,0,none⟩) 1 1,.int .i64 (-1)] (W.alloc (.cells #[.int .i64 5] 3)) fun e w' => e = .returned (.bool true) ∧ Below W.heap.size W w' := by
 have hb := (Below.refl W.heap.size W).alloc (Nat.le_refl _) (.cells #[.int .i64 5] 3)
 exact (has9 13 (-1) _ [5] (by decide) (by kernel_rfl) (by kernel_rfl) _ (rec_new inL_len W 3 [5])).mono fun e w' ⟨h1,h2⟩ => ⟨h1,hb.trans (h2.mono hb.size)⟩
theorem has_c (W : World) : Calls Tryz.prog 9 #[.int .i64 15,.slice (some ⟨W.heap.size,0,none⟩) 2 2,.int .i64 16080200] (W.alloc (.cells #[.int .i64 3,.int .i64 5] 3)) fun e w' => e = .returned (.bool true) ∧ Below W.heap.size W w' := by
 have hb := (Below.refl W.heap.size W).alloc (Nat.le_refl _) (.cells #[.int .i64 3,.int .i64 5] 3)
 exact (has9 15 16080200 _ [3,5] (by decide) (by kernel_rfl) (by kernel_rfl) _ (rec_new inL_len W 3 [3,5])).mono fun e w' ⟨h1,h2⟩ => ⟨h1,hb.trans (h2.mono hb.size)⟩
theorem known3 (w : World) : Calls Tryz.prog 3 #[] w fun e w' => e = .returned (.bool true) ∧ Below w.heap.size w w' := by
 have hT : Hid (Calls Tryz.prog 5 #[] w fun e w' => (∃ v,e = .returned v ∧ Hid (ItsAt w' v abcL)) ∧ Below w.heap.size w w') := three5 w
 have hK : Hid (∀ v W,ItsAt W v abcL → Calls Tryz.prog 4 #[v,.slice none 0 0,.agg #[.int .i64 0,.int .i64 4]] W fun e w' => (∃ u,e = .returned (.tuple #[u,.int .i64 0,.int .i64 6]) ∧ Hid (PcsAt w' u [])) ∧ Below W.heap.size W w') := fun v W h => break_of (r := ⟨0,4⟩) br4 (by decide) h
 have hO : Hid (∀ W,Calls Tryz.prog 7 #[.string ⟨#[97,9,98]⟩] W fun e w' => (∃ a,e = .returned (.agg (paC a)) ∧ Hid (PaAt w' a ∧ chkI a = 0 ∧ a.p.p12 ≠ 1 ∧ ¬ 2 ≤ a.p.p14 ∧ itemsOf a = tabL)) ∧ Below W.heap.size W w') := of_tab
 have hI : Hid (∀ a W,PaAt W a ∧ chkI a = 0 ∧ a.p.p12 ≠ 1 ∧ ¬ 2 ≤ a.p.p14 ∧ itemsOf a = tabL → Calls Tryz.prog 6 #[.agg (paC a)] W fun e w' => (∃ v,e = .returned (.tuple #[v,.int .i64 0]) ∧ Hid (ItsAt w' v tabL)) ∧ Below W.heap.size W w') := fun a W h => items_of h
 have hJ : Hid (∀ v W,ItsAt W v tabL → Calls Tryz.prog 4 #[v,.slice none 0 0,.agg #[.int .i64 0,.int .i64 20]] W fun e w' => (∃ u,e = .returned (.tuple #[u,.int .i64 0,.int .i64 9]) ∧ Hid (PcsAt w' u [])) ∧ Below W.heap.size W w') := fun v W h => break_of (r := ⟨0,20⟩) br20 (by decide) h
 have hA : Hid (∀ W,Calls Tryz.prog 8 #[] W fun e w' => e = .returned (.bool true) ∧ Below W.heap.size W w') := awake8
 have h1 : Hid (∀ W,Calls Tryz.prog 9 #[.int .i64 13,.slice (some ⟨W.heap.size,0,none⟩) 2 2,.int .i64 200] (W.alloc (.cells #[.int .i64 3,.int .i64 5] 3)) fun e w' => e = .returned (.bool true) ∧ Below W.heap.size W w') := has_a
 have h2 : Hid (∀ W,Calls Tryz.prog 9 #[.int .i64 13,.slice (some ⟨W.heap.size,0,none⟩) 1 1,.int .i64 (-1)] (W.alloc (.cells #[.int .i64 5] 3)) fun e w' => e = .returned (.bool true) ∧ Below W.heap.size W w') := has_b
 have h3 : Hid (∀ W,Calls Tryz.prog 9 #[.int .i64 15,.slice (some ⟨W.heap.size,0,none⟩) 2 2,.int .i64 16080200] (W.alloc (.cells #[.int .i64 3,.int .i64 5] 3)) fun e w' => e = .returned (.bool true) ∧ Below W.heap.size W w') := has_c
 go_enter Tryz.func3,Tryz.ntmps3
 go_wp2_with (first
  | (go_at_call 5; refine hT.out.mono ?_; rintro e w2 ⟨⟨v2,rfl,hv2⟩,hb2⟩)
  | (go_at_call 4; first | (refine (hJ.out v5 w5 hv5.out).mono ?_; rintro e w6 ⟨⟨u6,rfl,hu6⟩,hb6⟩; have k6 : Hid (Below w.heap.size w w6) := k5.out.trans (hb6.mono k5.out.size)) | (refine (hK.out v2 w2 hv2.out).mono ?_; rintro e w3 ⟨⟨u3,rfl,hu3⟩,hb3⟩; have k3 : Hid (Below w.heap.size w w3) := hb2.trans (hb3.mono hb2.size)))
  | (go_at_call 7; refine (hO.out w3).mono ?_; rintro e w4 ⟨⟨pa,rfl,hpa⟩,hb4⟩; have k4 : Hid (Below w.heap.size w w4) := k3.out.trans (hb4.mono k3.out.size))
  | (go_at_call 6; refine (hI.out pa w4 hpa.out).mono ?_; rintro e w5 ⟨⟨v5,rfl,hv5⟩,hb5⟩; have k5 : Hid (Below w.heap.size w w5) := k4.out.trans (hb5.mono k4.out.size))
  | (go_at_call 8; refine (hA.out w6).mono ?_; rintro e w7 ⟨rfl,hb7⟩; have k7 : Hid (Below w.heap.size w w7) := k6.out.trans (hb7.mono k6.out.size))
  | (go_at_call 9; first | (refine (h3.out w9).mono ?_; rintro e w10 ⟨rfl,hb10⟩; have k10 : Hid (Below w.heap.size w w10) := k9.out.trans (hb10.mono k9.out.size)) | (refine (h2.out w8).mono ?_; rintro e w9 ⟨rfl,hb9⟩; have k9 : Hid (Below w.heap.size w w9) := k8.out.trans (hb9.mono k8.out.size)) | (refine (h1.out w7).mono ?_; rintro e w8 ⟨rfl,hb8⟩; have k8 : Hid (Below w.heap.size w w8) := k7.out.trans (hb8.mono k7.out.size))))
 go_ret
 exact ⟨rfl,k10.out⟩
end Go.Proofs.YtfndocmgonlhpaaGreatDoor
