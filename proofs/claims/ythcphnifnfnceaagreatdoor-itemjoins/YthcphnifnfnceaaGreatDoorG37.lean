/-
  What is proved here: ItemKnown answers true in any memory with the listed tables.
  What is proved here: how lists of masses and paragraphs that are handed in look.
-/
import Derived.Test.YthcphnifnfnceaaGreatDoorG36
import Derived.Test.YthcphnifnfnceaaGreatDoorG16
import Derived.ProofKit
import Derived.OpenShut
import Derived.ChangeOld
import Derived.Below
import Derived.Deep.Slices
import Derived.SizedLaws
namespace Go.Proofs.YthcphnifnfnceaaGreatDoor
open Go.RowKit Go.Shelf

theorem on_below {w1 W : World} {f : FuncId} {xs : Array Value} {r : Value} (hb : Below w1.heap.size w1 W) (h : Calls Tryz.prog f xs W fun e w' => e = .returned r ∧ Below W.heap.size W w') : Calls Tryz.prog f xs W fun e w' => e = .returned r ∧ Below w1.heap.size w1 w' :=
  h.mono fun _ _ ⟨he, h2⟩ => ⟨he, Below.trans hb (h2.mono (Below.size hb))⟩
theorem its_stay {w1 W : World} {v : Value} {l : List It} (h : ItsAt w1 v l) (hb : Below w1.heap.size w1 W) : ItsAt W v l := h.below hb (Nat.le_refl _)
theorem below_on {n : Nat} {w w1 W : World} (h : Below n w w1) (hb : Below w1.heap.size w1 W) (hn : n ≤ w1.heap.size) : Below n w W := h.trans (hb.mono hn)
set_option maxRecDepth 100000 in
set_option maxHeartbeats 2000000 in
theorem known_any (w : World) (htb : Hy.Tab w) : Calls Tryz.prog 5 #[] w fun e w' => e = .returned (.bool true) ∧ Below w.heap.size w w' := by
  have h29 : Hid (Calls Tryz.prog 29 #[] w fun e w' => (∃ v, e = .returned v ∧ ItsAt w' v twoL) ∧ Below w.heap.size w w') := two_any w
  have h16 : Hid (∀ w1 v1, ItsAt w1 v1 twoL → Calls Tryz.prog 16 #[v1, .int .i64 1] w1 fun e w' => e = .returned (.tuple #[.int .i64 2, .int .i64 0]) ∧ Below w1.heap.size w1 w') := fun w1 v1 hv => by
    have := start_any v1 twoL 1 w1 hv; rw [two_sV, two_sE] at this; exact this
  go_enter Tryz.func5, Tryz.ntmps5
  apply wp_seq_k; intro K0 hK0
  replace hK0 : Hid _ := hK0
  go_wp2_with fail
  refine hK0.out _ _ ?_
  clear hK0 K0
  apply wp_seq_k; intro K1 hK1
  replace hK1 : Hid _ := hK1
  go_wp2_with (go_at_call 29; refine h29.out.mono ?_; rintro e w1 ⟨⟨v1, rfl, hv⟩, hb1⟩; replace hv : Hid _ := hv; replace hb1 : Hid _ := hb1)
  refine hK1.out _ _ ?_
  clear hK1 K1
  apply wp_seq_k; intro K2 hK2
  replace hK2 : Hid _ := hK2
  go_wp2_with (go_at_call 16; refine (h16.out w1 v1 hv.out).mono ?_; rintro e w2 ⟨rfl, hb2⟩; replace hb2 : Hid _ := hb2)
  refine hK2.out _ _ ?_
  clear hK2 K2 h29 h16
  have hv2 := its_stay hv.out hb2.out
  have hB2 : Below w.heap.size w w2 := below_on hb1.out hb2.out hb1.out.size
  clear hv hb1 hb2
  apply wp_seq_k; intro K3 hK3
  refine kn_r3 _ _ _ (fun W => Below w2.heap.size w2 W) _ (Below.refl _ _) (fun W hb => on_below hb (awake_yes W (htb.below (below_on hB2 hb hB2.size)))) (fun W hb => ?_) (fun W hb => ?_) (fun W hb => ?_) (fun W hb => ?_) (fun W hb => ?_) (fun W hb => ?_) (fun W hb => ?_) (fun w3 hb3 => hK3 _ _ ?_)
  · have := legal_any v1 twoL 0 W (its_stay hv2 hb); rw [two_l0] at this; exact on_below hb this
  · have := legal_any v1 twoL 1 W (its_stay hv2 hb); rw [two_l1] at this; exact on_below hb this
  · have := legal_any v1 twoL 2 W (its_stay hv2 hb); rw [two_l2] at this; exact on_below hb this
  · have := legal_any v1 twoL 3 W (its_stay hv2 hb); rw [two_l3] at this; exact on_below hb this
  · have := wideIs v1 twoL 0 1 0 5 W (its_stay hv2 hb) two_w1.2; rw [two_w1.1] at this; exact on_below hb this
  · have := wideIs v1 twoL 0 3 0 13 W (its_stay hv2 hb) two_w3.2; rw [two_w3.1] at this; exact on_below hb this
  · have := wideIs v1 twoL 0 2 0 5 W (its_stay hv2 hb) two_w2.2; rw [two_w2.1] at this; exact on_below hb this
  clear hK3 K3
  have hv3 := its_stay hv2 hb3
  have hB3 := below_on hB2 hb3 hB2.size
  clear hv2 hB2 hb3
  apply wp_seq_k; intro K4 hK4
  refine kn_r4 _ _ _ _ (fun v5 w4 h5 hb4 => ?_)
  intros
  refine hK4 _ _ ?_
  clear hK4 K4
  have hv4 := its_stay hv3 hb4
  have hB4 := below_on hB3 hb4 hB3.size
  clear hv3 hB3 hb4
  apply wp_seq_k; intro K5 hK5
  refine kn_r5 _ _ _ _ (fun w5 sv w5' hb5 hp5 hP5 hb5' => ?_)
  intros
  refine hK5 _ _ ?_
  clear hK5 K5
  apply wp_seq_k; intro K6 hK6
  refine kn_r6 _ _ _ _ _ sv _ hP5 (fun w6 hP6 hb6 => ?_)
  intros
  refine hK6 _ _ ?_
  clear hK6 K6
  have hb6' : Below w5.heap.size w5 w6 := hb5'.trans (hb6 _ (Nat.le_refl _))
  have hb46 : Below w4.heap.size w4 w6 := below_on hb5 hb6' hb5.size
  have hv6 := its_stay hv4 hb46
  have h56 := its_stay h5 hb46
  have hB6 := below_on hB4 hb46 hB4.size
  have hp6 : PaAt w6 (ofP { data := #[116, 97, 98, 108, 101] } sv 1) := PaAt.below (W := w5) ⟨hp5.sp, hp5.ms, hp5.few⟩ hb6' (Nat.le_refl _)
  clear hv4 h5 hB4 hb46 hb6' hb6 hb5' hP5 hp5
  have hlt6 := hP6.lt
  clear hb5
  generalize w5.heap.size = B at *
  apply wp_seq_k; intro K7 hK7
  refine kn_r7 _ _ _ _ (fun v7 w7 h7 hb7 => ?_)
  intros
  refine hK7 _ _ ?_
  clear hK7 K7
  have hv7 := its_stay hv6 hb7
  have h57 := its_stay h56 hb7
  have hB7 := below_on hB6 hb7 hB6.size
  have hp7 := hp6.below hb7 (Nat.le_refl _)
  have hP7 := hP6.below hb7 hlt6
  have hlt7 := hP7.lt
  clear hv6 h56 hB6 hp6 hP6 hb7 hlt6
  apply wp_seq_k; intro K8 hK8
  refine kn_r8 _ _ _ _ (htb.below hB7) (fun v8 w8 h8 hb8 => ?_)
  intros
  refine hK8 _ _ ?_
  clear hK8 K8
  have hv8 := its_stay hv7 hb8
  have h58 := its_stay h57 hb8
  have h78 := its_stay h7 hb8
  have hB8 := below_on hB7 hb8 hB7.size
  have hp8 := hp7.below hb8 (Nat.le_refl _)
  have hP8 := hP7.below hb8 hlt7
  have hlt8 := hP8.lt
  clear hv7 h57 h7 hB7 hp7 hP7 hb8 hlt7
  apply wp_seq_k; intro K9 hK9
  refine kn_r9 _ _ _ _ (htb.below hB8) (fun w9 hb9 => ?_)
  intros
  refine hK9 _ _ ?_
  clear hK9 K9
  have hv9 := its_stay hv8 hb9
  have h59 := its_stay h58 hb9
  have h79 := its_stay h78 hb9
  have h89 := its_stay h8 hb9
  have hB9 := below_on hB8 hb9 hB8.size
  have hp9 := hp8.below hb9 (Nat.le_refl _)
  have hP9 := hP8.below hb9 hlt8
  have hlt9 := hP9.lt
  clear hv8 h58 h78 h8 hB8 hp8 hP8 hb9 hlt8
  apply wp_seq_k; intro K10 hK10
  refine kn_r10 _ _ _ (fun W => Below w9.heap.size w9 W) B (ofP { data := #[116, 97, 98, 108, 101] } sv 1) _ (Below.refl _ _) (fun W hb => ?_) (fun W sv2 hb hp => ?_) (fun W hb => (hP9.below hb hlt9).row) (fun W hb => ?_) (fun W hb => ?_) (fun W hb => ?_) (fun W hb => ?_) (fun W hb => ?_) (fun wx hbx _ => hK10 _ _ ?_)
  · refine (of_any { data := #[97, 45, 98] } (by decide) W).mono ?_
    rintro e w' ⟨⟨sv2, rfl, hp⟩, hb2⟩
    exact ⟨sv2, rfl, below_on hb hb2 hb.size, hp⟩
  · exact on_below hb (items32_yes _ v5 W hp (htb.below (below_on hB9 hb hB9.size)) (ofP_ok2 sv2) (by rw [ofP_its2]; exact its_stay h59 hb) (by rw [ofP_its2]; decide))
  · exact on_below hb (items32_yes _ v7 W (hp9.below hb (Nat.le_refl _)) (htb.below (below_on hB9 hb hB9.size)) (ofP_ok3 sv) (by rw [ofP_its3]; exact its_stay h79 hb) (by rw [ofP_its3]; decide))
  · have := leaps_any v8 tabL (by rw [show tabL.length = 3 by kernel_rfl]; decide) W (its_stay h89 hb); rw [tab_lp] at this; exact on_below hb this
  · have := leaps_any v1 twoL (by decide) W (its_stay hv9 hb); rw [two_lp] at this; exact on_below hb this
  · have := wideIs v8 tabL 0 3 0 53 W (its_stay h89 hb) tab_e0; rw [tab_w0] at this; exact on_below hb this
  · have := wideIs v8 tabL 0 3 40 13 W (its_stay h89 hb) tab_e4; rw [tab_w4] at this; exact on_below hb this
  clear hK10 K10
  have hBx := below_on hB9 hbx hB9.size
  clear hv9 h59 h79 h89 hB9 hp9 hP9 hbx hlt9
  unfold fr5
  go_wp2_with fail
  go_ret
  exact ⟨rfl, hBx⟩
end Go.Proofs.YthcphnifnfnceaaGreatDoor

namespace Go.Proofs.YthcphnifnfnceaaGreatDoor
open Go.ChangeShapes Go.WideShapes Go.ChangeAt Go.RowKit

theorem own : ownKnob Tryz.prog.godebug = none := by kernel_rfl
theorem laidOut : laidOutB Tryz.prog = true := by kernel_rfl

set_option maxRecDepth 100000 in
theorem ms_at_in {H : Type} {enc : TypeId × Value → H} {W : World} {spare : Nat → Bool} {held : Bool} {n : Nat} {cs : List Value} {x : DataW H × List MemPlace}
    (hl : cs.length = 6) (ht : DataW.trod enc Tryz.prog W 0 spare held n 58 cs = some x) : ∃ q : Ms, cs = msL q := by
  obtain ⟨xs, m, _, _, _, hxl, hf⟩ := DataW.trod_struct Tryz.underlying58 ht
  have c3 : Tryz.prog.cellsOf 3 = 1 := by kernel_rfl
  have f0 : DataW.trod enc Tryz.prog W 0 spare held m 3 ((cs.drop 0).take (Tryz.prog.cellsOf 3)) = xs[0]? := hf 0 _ rfl
  have f1 : DataW.trod enc Tryz.prog W 0 spare held m 3 ((cs.drop 1).take (Tryz.prog.cellsOf 3)) = xs[1]? := hf 1 _ rfl
  have f2 : DataW.trod enc Tryz.prog W 0 spare held m 3 ((cs.drop 2).take (Tryz.prog.cellsOf 3)) = xs[2]? := hf 2 _ rfl
  have f3 : DataW.trod enc Tryz.prog W 0 spare held m 3 ((cs.drop 3).take (Tryz.prog.cellsOf 3)) = xs[3]? := hf 3 _ rfl
  have f4 : DataW.trod enc Tryz.prog W 0 spare held m 3 ((cs.drop 4).take (Tryz.prog.cellsOf 3)) = xs[4]? := hf 4 _ rfl
  have f5 : DataW.trod enc Tryz.prog W 0 spare held m 3 ((cs.drop 5).take (Tryz.prog.cellsOf 3)) = xs[5]? := hf 5 _ rfl
  simp only [c3] at f0 f1 f2 f3 f4 f5
  have hsz : xs.length = 6 := hxl
  obtain ⟨y0, y1, y2, y3, y4, y5, rfl⟩ : ∃ y0 y1 y2 y3 y4 y5, xs = [y0, y1, y2, y3, y4, y5] := by
    match xs, hsz with
    | [y0, y1, y2, y3, y4, y5], _ => exact ⟨_, _, _, _, _, _, rfl⟩
  obtain ⟨z0, z1, z2, z3, z4, z5, rfl⟩ : ∃ z0 z1 z2 z3 z4 z5, cs = [z0, z1, z2, z3, z4, z5] := by
    match cs, hl with
    | [z0, z1, z2, z3, z4, z5], _ => exact ⟨_, _, _, _, _, _, rfl⟩
  obtain ⟨a0, e0, _, _⟩ := DataW.trod_int Tryz.underlying3 f0
  obtain ⟨a1, e1, _, _⟩ := DataW.trod_int Tryz.underlying3 f1
  obtain ⟨a2, e2, _, _⟩ := DataW.trod_int Tryz.underlying3 f2
  obtain ⟨a3, e3, _, _⟩ := DataW.trod_int Tryz.underlying3 f3
  obtain ⟨a4, e4, _, _⟩ := DataW.trod_int Tryz.underlying3 f4
  obtain ⟨a5, e5, _, _⟩ := DataW.trod_int Tryz.underlying3 f5
  simp at e0 e1 e2 e3 e4 e5
  subst e0 e1 e2 e3 e4 e5
  exact ⟨⟨a0, a1, a2, a3, a4, a5⟩, rfl⟩

set_option maxRecDepth 100000 in
theorem pr_at {H : Type} {enc : TypeId × Value → H} {W : World} {spare : Nat → Bool} {held : Bool} {n : Nat} {cs : List Value} {x : DataW H × List MemPlace}
    (hl : cs.length = 17) (ht : DataW.trod enc Tryz.prog W 0 spare held n 24 cs = some x) : ∃ q : Pr, cs = prL q := by
  obtain ⟨xs, m, _, _, _, hxl, hf⟩ := DataW.trod_struct Tryz.underlying24 ht
  have c3 : Tryz.prog.cellsOf 3 = 1 := by kernel_rfl
  have f0 : DataW.trod enc Tryz.prog W 0 spare held m 3 ((cs.drop 0).take (Tryz.prog.cellsOf 3)) = xs[0]? := hf 0 _ rfl
  have f1 : DataW.trod enc Tryz.prog W 0 spare held m 3 ((cs.drop 1).take (Tryz.prog.cellsOf 3)) = xs[1]? := hf 1 _ rfl
  have f2 : DataW.trod enc Tryz.prog W 0 spare held m 3 ((cs.drop 2).take (Tryz.prog.cellsOf 3)) = xs[2]? := hf 2 _ rfl
  have f3 : DataW.trod enc Tryz.prog W 0 spare held m 3 ((cs.drop 3).take (Tryz.prog.cellsOf 3)) = xs[3]? := hf 3 _ rfl
  have f4 : DataW.trod enc Tryz.prog W 0 spare held m 3 ((cs.drop 4).take (Tryz.prog.cellsOf 3)) = xs[4]? := hf 4 _ rfl
  have f5 : DataW.trod enc Tryz.prog W 0 spare held m 3 ((cs.drop 5).take (Tryz.prog.cellsOf 3)) = xs[5]? := hf 5 _ rfl
  have f6 : DataW.trod enc Tryz.prog W 0 spare held m 3 ((cs.drop 6).take (Tryz.prog.cellsOf 3)) = xs[6]? := hf 6 _ rfl
  have f7 : DataW.trod enc Tryz.prog W 0 spare held m 3 ((cs.drop 7).take (Tryz.prog.cellsOf 3)) = xs[7]? := hf 7 _ rfl
  have f8 : DataW.trod enc Tryz.prog W 0 spare held m 3 ((cs.drop 8).take (Tryz.prog.cellsOf 3)) = xs[8]? := hf 8 _ rfl
  have f9 : DataW.trod enc Tryz.prog W 0 spare held m 3 ((cs.drop 9).take (Tryz.prog.cellsOf 3)) = xs[9]? := hf 9 _ rfl
  have f10 : DataW.trod enc Tryz.prog W 0 spare held m 3 ((cs.drop 10).take (Tryz.prog.cellsOf 3)) = xs[10]? := hf 10 _ rfl
  have f11 : DataW.trod enc Tryz.prog W 0 spare held m 3 ((cs.drop 11).take (Tryz.prog.cellsOf 3)) = xs[11]? := hf 11 _ rfl
  have f12 : DataW.trod enc Tryz.prog W 0 spare held m 3 ((cs.drop 12).take (Tryz.prog.cellsOf 3)) = xs[12]? := hf 12 _ rfl
  have f13 : DataW.trod enc Tryz.prog W 0 spare held m 3 ((cs.drop 13).take (Tryz.prog.cellsOf 3)) = xs[13]? := hf 13 _ rfl
  have f14 : DataW.trod enc Tryz.prog W 0 spare held m 3 ((cs.drop 14).take (Tryz.prog.cellsOf 3)) = xs[14]? := hf 14 _ rfl
  have f15 : DataW.trod enc Tryz.prog W 0 spare held m 3 ((cs.drop 15).take (Tryz.prog.cellsOf 3)) = xs[15]? := hf 15 _ rfl
  have f16 : DataW.trod enc Tryz.prog W 0 spare held m 3 ((cs.drop 16).take (Tryz.prog.cellsOf 3)) = xs[16]? := hf 16 _ rfl
  simp only [c3] at f0 f1 f2 f3 f4 f5 f6 f7 f8 f9 f10 f11 f12 f13 f14 f15 f16
  have hsz : xs.length = 17 := hxl
  obtain ⟨y0, y1, y2, y3, y4, y5, y6, y7, y8, y9, y10, y11, y12, y13, y14, y15, y16, rfl⟩ : ∃ y0 y1 y2 y3 y4 y5 y6 y7 y8 y9 y10 y11 y12 y13 y14 y15 y16, xs = [y0, y1, y2, y3, y4, y5, y6, y7, y8, y9, y10, y11, y12, y13, y14, y15, y16] := by
    match xs, hsz with
    | [y0, y1, y2, y3, y4, y5, y6, y7, y8, y9, y10, y11, y12, y13, y14, y15, y16], _ => exact ⟨_, _, _, _, _, _, _, _, _, _, _, _, _, _, _, _, _, rfl⟩
  obtain ⟨z0, z1, z2, z3, z4, z5, z6, z7, z8, z9, z10, z11, z12, z13, z14, z15, z16, rfl⟩ : ∃ z0 z1 z2 z3 z4 z5 z6 z7 z8 z9 z10 z11 z12 z13 z14 z15 z16, cs = [z0, z1, z2, z3, z4, z5, z6, z7, z8, z9, z10, z11, z12, z13, z14, z15, z16] := by
    match cs, hl with
    | [z0, z1, z2, z3, z4, z5, z6, z7, z8, z9, z10, z11, z12, z13, z14, z15, z16], _ => exact ⟨_, _, _, _, _, _, _, _, _, _, _, _, _, _, _, _, _, rfl⟩
  obtain ⟨a0, e0, _, _⟩ := DataW.trod_int Tryz.underlying3 f0
  obtain ⟨a1, e1, _, _⟩ := DataW.trod_int Tryz.underlying3 f1
  obtain ⟨a2, e2, _, _⟩ := DataW.trod_int Tryz.underlying3 f2
  obtain ⟨a3, e3, _, _⟩ := DataW.trod_int Tryz.underlying3 f3
  obtain ⟨a4, e4, _, _⟩ := DataW.trod_int Tryz.underlying3 f4
  obtain ⟨a5, e5, _, _⟩ := DataW.trod_int Tryz.underlying3 f5
  obtain ⟨a6, e6, _, _⟩ := DataW.trod_int Tryz.underlying3 f6
  obtain ⟨a7, e7, _, _⟩ := DataW.trod_int Tryz.underlying3 f7
  obtain ⟨a8, e8, _, _⟩ := DataW.trod_int Tryz.underlying3 f8
  obtain ⟨a9, e9, _, _⟩ := DataW.trod_int Tryz.underlying3 f9
  obtain ⟨a10, e10, _, _⟩ := DataW.trod_int Tryz.underlying3 f10
  obtain ⟨a11, e11, _, _⟩ := DataW.trod_int Tryz.underlying3 f11
  obtain ⟨a12, e12, _, _⟩ := DataW.trod_int Tryz.underlying3 f12
  obtain ⟨a13, e13, _, _⟩ := DataW.trod_int Tryz.underlying3 f13
  obtain ⟨a14, e14, _, _⟩ := DataW.trod_int Tryz.underlying3 f14
  obtain ⟨a15, e15, _, _⟩ := DataW.trod_int Tryz.underlying3 f15
  obtain ⟨a16, e16, _, _⟩ := DataW.trod_int Tryz.underlying3 f16
  simp at e0 e1 e2 e3 e4 e5 e6 e7 e8 e9 e10 e11 e12 e13 e14 e15 e16
  subst e0 e1 e2 e3 e4 e5 e6 e7 e8 e9 e10 e11 e12 e13 e14 e15 e16
  exact ⟨⟨a0, a1, a2, a3, a4, a5, a6, a7, a8, a9, a10, a11, a12, a13, a14, a15, a16⟩, rfl⟩

set_option maxRecDepth 100000 in
theorem ch_at {H : Type} {enc : TypeId × Value → H} {W : World} {spare : Nat → Bool} {held : Bool} {n : Nat} {cs : List Value} {x : DataW H × List MemPlace}
    (hl : cs.length = 3) (ht : DataW.trod enc Tryz.prog W 0 spare held n 90 cs = some x) : ∃ q : Int × Int × Int, cs = [.int .i64 q.1, .int .i64 q.2.1, .int .i64 q.2.2] := by
  obtain ⟨xs, m, _, _, _, hxl, hf⟩ := DataW.trod_struct Tryz.underlying90 ht
  have c3 : Tryz.prog.cellsOf 3 = 1 := by kernel_rfl
  have f0 : DataW.trod enc Tryz.prog W 0 spare held m 3 ((cs.drop 0).take (Tryz.prog.cellsOf 3)) = xs[0]? := hf 0 _ rfl
  have f1 : DataW.trod enc Tryz.prog W 0 spare held m 3 ((cs.drop 1).take (Tryz.prog.cellsOf 3)) = xs[1]? := hf 1 _ rfl
  have f2 : DataW.trod enc Tryz.prog W 0 spare held m 3 ((cs.drop 2).take (Tryz.prog.cellsOf 3)) = xs[2]? := hf 2 _ rfl
  simp only [c3] at f0 f1 f2
  have hsz : xs.length = 3 := hxl
  obtain ⟨y0, y1, y2, rfl⟩ : ∃ y0 y1 y2, xs = [y0, y1, y2] := by
    match xs, hsz with
    | [y0, y1, y2], _ => exact ⟨_, _, _, rfl⟩
  obtain ⟨z0, z1, z2, rfl⟩ : ∃ z0 z1 z2, cs = [z0, z1, z2] := by
    match cs, hl with
    | [z0, z1, z2], _ => exact ⟨_, _, _, rfl⟩
  obtain ⟨a0, e0, _, _⟩ := DataW.trod_int Tryz.underlying3 f0
  obtain ⟨a1, e1, _, _⟩ := DataW.trod_int Tryz.underlying3 f1
  obtain ⟨a2, e2, _, _⟩ := DataW.trod_int Tryz.underlying3 f2
  simp at e0 e1 e2
  subst e0 e1 e2
  exact ⟨⟨a0, a1, a2⟩, rfl⟩

set_option maxRecDepth 100000 in
theorem sp_at {H : Type} {enc : TypeId × Value → H} {W : World} {spare : Nat → Bool} {held : Bool} {n : Nat} {cs : List Value} {x : DataW H × List MemPlace}
    (hl : cs.length = 4) (ht : DataW.trod enc Tryz.prog W 0 spare held n 92 cs = some x) : ∃ q : Sp, cs = spL q := by
  obtain ⟨xs, m, _, _, _, hxl, hf⟩ := DataW.trod_struct Tryz.underlying92 ht
  have c3 : Tryz.prog.cellsOf 3 = 1 := by kernel_rfl
  have c49 : Tryz.prog.cellsOf 90 = 3 := by kernel_rfl
  have f0 : DataW.trod enc Tryz.prog W 0 spare held m 3 ((cs.drop 0).take (Tryz.prog.cellsOf 3)) = xs[0]? := hf 0 _ rfl
  have f1 : DataW.trod enc Tryz.prog W 0 spare held m 90 ((cs.drop 1).take (Tryz.prog.cellsOf 90)) = xs[1]? := hf 1 _ rfl
  simp only [c3, c49] at f0 f1
  have hsz : xs.length = 2 := hxl
  obtain ⟨y0, y1, rfl⟩ : ∃ y0 y1, xs = [y0, y1] := by
    match xs, hsz with
    | [y0, y1], _ => exact ⟨_, _, rfl⟩
  obtain ⟨z0, z1, z2, z3, rfl⟩ : ∃ z0 z1 z2 z3, cs = [z0, z1, z2, z3] := by
    match cs, hl with
    | [z0, z1, z2, z3], _ => exact ⟨_, _, _, _, rfl⟩
  obtain ⟨a0, e0, _, _⟩ := DataW.trod_int Tryz.underlying3 f0
  obtain ⟨⟨b, c, d⟩, e1⟩ := ch_at rfl (show DataW.trod enc Tryz.prog W 0 spare held m 90 [z1, z2, z3] = some y1 from f1)
  simp at e0 e1
  obtain ⟨rfl, rfl, rfl⟩ := e1
  subst e0
  exact ⟨⟨a0, b, c, d⟩, rfl⟩

/-- A list of records that is handed in. -/
theorem recs_in {H : Type} {enc : TypeId × Value → H} {W : World} {spare : Nat → Bool} {fuel : Nat} {cs : List Value} {x : DataW H × List MemPlace} {α : Type} {k : Nat} {f : α → List Value} {ty e : TypeId} (hu : Tryz.prog.underlying ty = some (.slice e)) (ck : Tryz.prog.cellsOf e = k) (hk : 0 < k)
    (hat : ∀ (n : Nat) (cs : List Value) (x : DataW H × List MemPlace), cs.length = k → DataW.trod enc Tryz.prog W 0 spare true n e cs = some x → ∃ q : α, cs = f q)
    (hf : DataW.trod enc Tryz.prog W 0 spare true fuel ty cs = some x) : ∃ (v : Value) (qs : List α), cs = [v] ∧ RecAt k f W v qs ∧ qs.length ≤ 9223372036854775807 ∧ ((x.1 = .nil ∧ qs = []) ∨ ∃ es sp, x.1 = .slice es sp ∧ es.length = qs.length) := by
  rcases Deep.open_slice hu hf with ⟨hcs, hx0⟩ | ⟨a, len, cap, m, n, D, Pl, hcs, _, hl, hm, hmm, hx1, hx⟩
  · subst hcs
    exact ⟨_, [], rfl, ⟨⟨none, 0, rfl, .inl rfl⟩, fun a n c e => by cases e; exact Nat.le_refl _⟩, by simp, .inl ⟨by rw [hx0], rfl⟩⟩
  · subst hcs
    have hlm : len ≤ m := by rw [hmm]; split <;> omega
    rw [ck] at hx
    have hdat : ∃ es sp, x.1 = .slice es sp ∧ es.length = len := by rw [hx1]; exact ⟨_, _, rfl, by simp⟩
    obtain ⟨es, sp, hes, hel⟩ := hdat
    by_cases h0 : len = 0
    · subst h0
      exact ⟨_, [], rfl, ⟨⟨_, _, rfl, .inl rfl⟩, fun a n c e => by cases e; exact hl⟩, by simp, .inr ⟨es, sp, hes, by simpa using hel⟩⟩
    · obtain ⟨b, off, spot⟩ := a
      obtain ⟨cs', hc0, ht0⟩ := hx 0 (by omega)
      have hb := World.cells?_block hc0 (by omega)
      obtain ⟨_, hl0, hce⟩ := World.cells?_some hc0
      have hg := hce 0 (by omega)
      have hspot : spot = none := by
        match cs', hl0 with
        | z :: _, _ => simpa [Addr.add] using World.cell?_spot hg
        | [], h => simp at h; omega
      subst hspot
      rw [addr_add] at hb
      have hq : ∀ i : Fin len, ∃ q : α, ∀ j u, (f q)[j]? = some u → W.cell? ⟨b, off + i * k + j, none⟩ = some u := fun i => by
        obtain ⟨cs', hc1, ht1⟩ := hx i (by omega)
        rw [addr_add] at hc1
        obtain ⟨_, hl1, hce1⟩ := World.cells?_some hc1
        obtain ⟨q, rfl⟩ := hat _ _ _ hl1 ht1
        refine ⟨q, fun j u hu => ?_⟩
        have hj : j < (f q).length := (List.getElem?_eq_some_iff.1 hu).1
        have := hce1 j (by omega)
        rw [addr_add] at this
        exact this.trans hu
      refine ⟨_, List.ofFn (fun i => Classical.choose (hq i)), rfl, ⟨⟨_, _, by simp; exact rfl, .inr ⟨b, off, rfl, hb, fun i hi j u hu => ?_⟩⟩, fun a n c e => by cases e; exact hl⟩, by simp; unfold maxLen at hm; omega, .inr ⟨es, sp, hes, by simpa using hel⟩⟩
      have hi' : i < len := by simpa using hi
      have := Classical.choose_spec (hq ⟨i, hi'⟩) j u (by simpa using hu)
      simpa using this
end Go.Proofs.YthcphnifnfnceaaGreatDoor
