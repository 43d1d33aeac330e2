/-
  What is proved here: ItemLines answers true of any items and places.
  What is proved here: how lists of masses and paragraphs that are handed in look.
-/
import Derived.Test.YthcphnifnfnceaaGreatDoorG56
import Derived.Test.YthcphnifnfnceaaGreatDoorG16
import Derived.ProofKit
import Derived.OpenShut
import Derived.ChangeOld
import Derived.Below
import Derived.Deep.Slices
import Derived.SizedLaws
namespace Go.Proofs.YthcphnifnfnceaaGreatDoor
open Go.RowKit Go.Shelf

theorem on_world {n : Nat} {w1 W : World} {f : FuncId} {xs : Array Value} {r : Value} (hb : Below n w1 W) (hn : n ≤ W.heap.size) (h : Calls Tryz.prog f xs W fun e w' => e = .returned r ∧ Below W.heap.size W w') : Calls Tryz.prog f xs W fun e w' => e = .returned r ∧ Below n w1 w' :=
  h.mono fun _ _ ⟨he, h2⟩ => ⟨he, Below.trans hb (h2.mono hn)⟩
set_option maxRecDepth 100000 in
set_option maxHeartbeats 1000000 in
theorem lines_any (v : Value) (l : List It) (hl : l.length ≤ 9223372036854775807) (x y z : Int) (w : World) (hS : ItsAt w v l) (htb : Hy.Tab w) :
    Calls Tryz.prog 4 #[v, .int .i64 x, .int .i64 y, .int .i64 z] w fun e w' => e = .returned (.bool true) ∧ Below w.heap.size w w' := by
  by_cases h9 : 9000 < l.length
  · obtain ⟨a, cap, rfl, -⟩ := hS.ex
    have h9' : (9000 : Int) < l.length := by omega
    clear hS htb
    go_enter Tryz.func4, Tryz.ntmps4
    go_wp2_with fail
    go_ret
    exact ⟨rfl, Below.refl _ _⟩
  have h9' : ¬ (9000 : Int) < l.length := by omega
  have h15 : Hid (Calls Tryz.prog 15 #[v] w fun e w' => e = .returned (.slice (some ⟨w.heap.size, 0, none⟩) l.length (l.length + 3)) ∧ Below w.heap.size w w' ∧ IB w' w.heap.size (l ++ lentL l.length)) := ilent_any v l (by omega) w hS
  have hvs : Hid (∀ w1, Below w.heap.size w w1 → ItsAt w1 v l) := fun w1 hb => hS.below hb (Nat.le_refl _)
  obtain ⟨a, cap, rfl, -⟩ := hS.ex
  clear hS
  go_enter Tryz.func4, Tryz.ntmps4
  apply wp_seq_k; intro K0 hK0
  replace hK0 : Hid _ := hK0
  go_wp2_with fail
  refine hK0.out _ _ ?_
  clear hK0 K0
  apply wp_seq_k; intro K1 hK1
  replace hK1 : Hid _ := hK1
  go_wp2_with fail
  refine hK1.out _ _ ?_
  clear hK1 K1
  apply wp_seq_k; intro K3 hK3
  replace hK3 : Hid _ := hK3
  go_wp2_with (go_at_call 15; refine h15.out.mono ?_; rintro e w1 ⟨rfl, hb1, hI⟩; replace hI : Hid _ := hI; replace hb1 : Hid _ := hb1)
  refine hK3.out _ _ ?_
  clear hK3 K3
  have hg := hI.out.lt
  have hv9 : ItsAt w1 (.slice (some ⟨w.heap.size, 0, none⟩) l.length (l.length + 3)) l := by
    have := hI.out.its (n := l.length) (cap := l.length + 3) (by simp) (by omega)
    rwa [List.take_left' rfl] at this
  have hv0 := hvs.out w1 hb1.out
  have hn1 := hb1.out.size
  have c28 : Hid (∀ W, Below w1.heap.size w1 W → Calls Tryz.prog 28 #[.slice (some ⟨w.heap.size, 0, none⟩) l.length (l.length + 3), .slice a l.length cap] W fun e w' => e = .returned (.bool true) ∧ Below w1.heap.size w1 w') := fun W hb => on_world hb hb.size (ikept_any w.heap.size _ l (by omega) W (hI.out.below hb hg) (hv0.below hb (Nat.le_refl _)))
  obtain ⟨v9, hv9e⟩ : ∃ v9, Value.slice (some ⟨w.heap.size, 0, none⟩) l.length (l.length + 3) = v9 := ⟨_, rfl⟩
  rw [hv9e] at hv9 c28 ⊢
  have c16 : Hid (∀ W, Below w1.heap.size w1 W → Calls Tryz.prog 16 #[v9, .int .i64 x] W fun e w' => e = .returned (.tuple #[.int .i64 (stV l x), .int .i64 (stE l x)]) ∧ Below w1.heap.size w1 w') := fun W hb => on_world hb hb.size (start_any v9 l x W (hv9.below hb (Nat.le_refl _)))
  have c17 : Hid (∀ W, Below w1.heap.size w1 W → Calls Tryz.prog 17 #[.slice a l.length cap, .int .i64 x] W fun e w' => e = .returned (.tuple #[.int .i64 (stV l x), .int .i64 (stE l x)]) ∧ Below w1.heap.size w1 w') := fun W hb => on_world hb hb.size (rstart_any _ l x W (hv0.below hb (Nat.le_refl _)))
  have c18 : Hid (∀ W, Below w1.heap.size w1 W → Calls Tryz.prog 18 #[v9, .int .i64 x, .int .i64 y, .int .i64 z] W fun e w' => e = .returned (.tuple #[.int .i64 (wiV l x y z), .int .i64 (wiE l x y z)]) ∧ Below w1.heap.size w1 w') := fun W hb => on_world hb hb.size (iwidth_any v9 l x y z W (hv9.below hb (Nat.le_refl _)))
  have c19 : Hid (∀ W, Below w1.heap.size w1 W → Calls Tryz.prog 19 #[.slice a l.length cap, .int .i64 x, .int .i64 y, .int .i64 z] W fun e w' => e = .returned (.tuple #[.int .i64 (wiV l x y z), .int .i64 (wiE l x y z)]) ∧ Below w1.heap.size w1 w') := fun W hb => on_world hb hb.size (rwidth_any _ l x y z W (hv0.below hb (Nat.le_refl _)))
  have c20 : Hid (∀ W, Below w1.heap.size w1 W → Calls Tryz.prog 20 #[v9, .int .i64 x, .int .i64 y] W fun e w' => e = .returned (.tuple #[.int .i64 (giS l x y), .int .i64 (giH l x y), .int .i64 (rfL l x y)]) ∧ Below w1.heap.size w1 w') := fun W hb => on_world hb hb.size (give_any v9 l x y W (hv9.below hb (Nat.le_refl _)))
  have c21 : Hid (∀ W, Below w1.heap.size w1 W → Calls Tryz.prog 21 #[.slice a l.length cap, .int .i64 x, .int .i64 y] W fun e w' => e = .returned (.tuple #[.int .i64 (giS l x y), .int .i64 (giH l x y), .int .i64 (rfL l x y)]) ∧ Below w1.heap.size w1 w') := fun W hb => on_world hb hb.size (rgive_any _ l x y W (hv0.below hb (Nat.le_refl _)))
  have hw : Hid (Below w1.heap.size w1 w1) := Below.refl _ _
  generalize stV l x = a1 at *
  generalize stE l x = e1 at *
  generalize wiV l x y z = a2 at *
  generalize wiE l x y z = e2 at *
  generalize giS l x y = a3 at *
  generalize giH l x y = a4 at *
  generalize rfL l x y = e3 at *
  apply wp_seq_k; intro K4 hK4
  replace hK4 : Hid _ := hK4
  go_wp2_with (go_at_call 16; refine (c16.out _ hw.out).mono ?_; clear hw; rintro e wz ⟨rfl, hw⟩; replace hw : Hid _ := hw)
  refine hK4.out _ _ ?_
  clear hK4 K4
  apply wp_seq_k; intro K5 hK5
  replace hK5 : Hid _ := hK5
  go_wp2_with (go_at_call 17; refine (c17.out _ hw.out).mono ?_; clear hw; rintro e wz ⟨rfl, hw⟩; replace hw : Hid _ := hw)
  refine hK5.out _ _ ?_
  clear hK5 K5
  apply wp_seq_k; intro K6 hK6
  replace hK6 : Hid _ := hK6
  go_wp2_with (go_at_call 18; refine (c18.out _ hw.out).mono ?_; clear hw; rintro e wz ⟨rfl, hw⟩; replace hw : Hid _ := hw)
  refine hK6.out _ _ ?_
  clear hK6 K6
  apply wp_seq_k; intro K7 hK7
  replace hK7 : Hid _ := hK7
  go_wp2_with (go_at_call 19; refine (c19.out _ hw.out).mono ?_; clear hw; rintro e wz ⟨rfl, hw⟩; replace hw : Hid _ := hw)
  refine hK7.out _ _ ?_
  clear hK7 K7
  apply wp_seq_k; intro K8 hK8
  replace hK8 : Hid _ := hK8
  go_wp2_with (go_at_call 20; refine (c20.out _ hw.out).mono ?_; clear hw; rintro e wz ⟨rfl, hw⟩; replace hw : Hid _ := hw)
  refine hK8.out _ _ ?_
  clear hK8 K8
  apply wp_seq_k; intro K9 hK9
  replace hK9 : Hid _ := hK9
  go_wp2_with (go_at_call 21; refine (c21.out _ hw.out).mono ?_; clear hw; rintro e wz ⟨rfl, hw⟩; replace hw : Hid _ := hw)
  refine hK9.out _ _ ?_
  clear hK9 K9
  clear c16 c17 c18 c19 c20 c21 h15
  apply wp_seq_k; intro K10 hK10
  refine ln_r10 _ _ _ a1 e1 a2 e2 a3 a4 e3 _ (hK10 _ _ ?_)
  clear hK10 K10
  apply wp_seq_k; intro K11 hK11
  refine ln_r11 _ _ _ (fun W => Below w1.heap.size w1 W) y (ckL l) (lgB l y) (lpB l) _ hw.out
    (fun W hb => on_world hb hb.size (icheck_any v9 l W (hv9.below hb (Nat.le_refl _))))
    (fun W hb => on_world hb hb.size (richeck_any _ l W (hv0.below hb (Nat.le_refl _))))
    (fun W hb => on_world hb hb.size (legal_any v9 l y W (hv9.below hb (Nat.le_refl _))))
    (fun W hb => on_world hb hb.size (rlegal_any _ l y W (hv0.below hb (Nat.le_refl _))))
    (fun W hb => on_world hb hb.size (leaps_any v9 l hl W (hv9.below hb (Nat.le_refl _))))
    (fun W hb => (rleaps_any _ l hl W (hv0.below hb (Nat.le_refl _))).mono fun e w' ⟨he, h2⟩ => ⟨he, by subst h2; exact hb⟩)
    c28 (fun W hb => on_world hb hb.size (awake_yes W (htb.below (hb1.out.trans (hb.mono hn1))))) (fun wx hbx => hK11 _ _ ?_)
  clear hK11 K11
  have hBx : Below w.heap.size w wx := hb1.out.trans (hbx.mono hn1)
  clear hv9 hv0 c28 hI hvs
  unfold fr4
  go_wp2_with fail
  go_ret
  exact ⟨rfl, hBx⟩
end Go.Proofs.YthcphnifnfnceaaGreatDoor

namespace Go.Proofs.YthcphnifnfnceaaGreatDoor
open Go.ChangeShapes Go.WideShapes Go.ChangeAt Go.RowKit

theorem own : ownKnob Tryz.prog.godebug = none := by kernel_rfl
theorem laidOut : laidOutB Tryz.prog = true := by kernel_rfl

set_option maxRecDepth 100000 in
theorem ms_at_in {H : Type} {enc : TypeId × Value → H} {W : World} {spare : Nat → Bool} {held : Bool} {n : Nat} {cs : List Value} {x : DataW H × List MemPlace}
    (hl : cs.length = 6) (ht : DataW.trod enc Tryz.prog W 0 spare held n 58 cs = some x) : ∃ q : Ms, cs = msL q := by
  obtain ⟨xs, m, _, _, _, hxl, hf⟩ := DataW.trod_struct Tryz.underlying58 ht
  have c3 : Tryz.prog.cellsOf 3 = 1 := by kernel_rfl
  have f0 : DataW.trod enc Tryz.prog W 0 spare held m 3 ((cs.drop 0).take (Tryz.prog.cellsOf 3)) = xs[0]? := hf 0 _ rfl
  have f1 : DataW.trod enc Tryz.prog W 0 spare held m 3 ((cs.drop 1).take (Tryz.prog.cellsOf 3)) = xs[1]? := hf 1 _ rfl
  have f2 : DataW.trod enc Tryz.prog W 0 spare held m 3 ((cs.drop 2).take (Tryz.prog.cellsOf 3)) = xs[2]? := hf 2 _ rfl
  have f3 : DataW.trod enc Tryz.prog W 0 spare held m 3 ((cs.drop 3).take (Tryz.prog.cellsOf 3)) = xs[3]? := hf 3 _ rfl
  have f4 : DataW.trod enc Tryz.prog W 0 spare held m 3 ((cs.drop 4).take (Tryz.prog.cellsOf 3)) = xs[4]? := hf 4 _ rfl
  have f5 : DataW.trod enc Tryz.prog W 0 spare held m 3 ((cs.drop 5).take (Tryz.prog.cellsOf 3)) = xs[5]? := hf 5 _ rfl
  simp only [c3] at f0 f1 f2 f3 f4 f5
  have hsz : xs.length = 6 := hxl
  obtain ⟨y0, y1, y2, y3, y4, y5, rfl⟩ : ∃ y0 y1 y2 y3 y4 y5, xs = [y0, y1, y2, y3, y4, y5] := by
    match xs, hsz with
    | [y0, y1, y2, y3, y4, y5], _ => exact ⟨_, _, _, _, _, _, rfl⟩
  obtain ⟨z0, z1, z2, z3, z4, z5, rfl⟩ : ∃ z0 z1 z2 z3 z4 z5, cs = [z0, z1, z2, z3, z4, z5] := by
    match cs, hl with
    | [z0, z1, z2, z3, z4, z5], _ => exact ⟨_, _, _, _, _, _, rfl⟩
  obtain ⟨a0, e0, _, _⟩ := DataW.trod_int Tryz.underlying3 f0
  obtain ⟨a1, e1, _, _⟩ := DataW.trod_int Tryz.underlying3 f1
  obtain ⟨a2, e2, _, _⟩ := DataW.trod_int Tryz.underlying3 f2
  obtain ⟨a3, e3, _, _⟩ := DataW.trod_int Tryz.underlying3 f3
  obtain ⟨a4, e4, _, _⟩ := DataW.trod_int Tryz.underlying3 f4
  obtain ⟨a5, e5, _, _⟩ := DataW.trod_int Tryz.underlying3 f5
  simp at e0 e1 e2 e3 e4 e5
  subst e0 e1 e2 e3 e4 e5
  exact ⟨⟨a0, a1, a2, a3, a4, a5⟩, rfl⟩

set_option maxRecDepth 100000 in
theorem pr_at {H : Type} {enc : TypeId × Value → H} {W : World} {spare : Nat → Bool} {held : Bool} {n : Nat} {cs : List Value} {x : DataW H × List MemPlace}
    (hl : cs.length = 17) (ht : DataW.trod enc Tryz.prog W 0 spare held n 24 cs = some x) : ∃ q : Pr, cs = prL q := by
  obtain ⟨xs, m, _, _, _, hxl, hf⟩ := DataW.trod_struct Tryz.underlying24 ht
  have c3 : Tryz.prog.cellsOf 3 = 1 := by kernel_rfl
  have f0 : DataW.trod enc Tryz.prog W 0 spare held m 3 ((cs.drop 0).take (Tryz.prog.cellsOf 3)) = xs[0]? := hf 0 _ rfl
  have f1 : DataW.trod enc Tryz.prog W 0 spare held m 3 ((cs.drop 1).take (Tryz.prog.cellsOf 3)) = xs[1]? := hf 1 _ rfl
  have f2 : DataW.trod enc Tryz.prog W 0 spare held m 3 ((cs.drop 2).take (Tryz.prog.cellsOf 3)) = xs[2]? := hf 2 _ rfl
  have f3 : DataW.trod enc Tryz.prog W 0 spare held m 3 ((cs.drop 3).take (Tryz.prog.cellsOf 3)) = xs[3]? := hf 3 _ rfl
  have f4 : DataW.trod enc Tryz.prog W 0 spare held m 3 ((cs.drop 4).take (Tryz.prog.cellsOf 3)) = xs[4]? := hf 4 _ rfl
  have f5 : DataW.trod enc Tryz.prog W 0 spare held m 3 ((cs.drop 5).take (Tryz.prog.cellsOf 3)) = xs[5]? := hf 5 _ rfl
  have f6 : DataW.trod enc Tryz.prog W 0 spare held m 3 ((cs.drop 6).take (Tryz.prog.cellsOf 3)) = xs[6]? := hf 6 _ rfl
  have f7 : DataW.trod enc Tryz.prog W 0 spare held m 3 ((cs.drop 7).take (Tryz.prog.cellsOf 3)) = xs[7]? := hf 7 _ rfl
  have f8 : DataW.trod enc Tryz.prog W 0 spare held m 3 ((cs.drop 8).take (Tryz.prog.cellsOf 3)) = xs[8]? := hf 8 _ rfl
  have f9 : DataW.trod enc Tryz.prog W 0 spare held m 3 ((cs.drop 9).take (Tryz.prog.cellsOf 3)) = xs[9]? := hf 9 _ rfl
  have f10 : DataW.trod enc Tryz.prog W 0 spare held m 3 ((cs.drop 10).take (Tryz.prog.cellsOf 3)) = xs[10]? := hf 10 _ rfl
  have f11 : DataW.trod enc Tryz.prog W 0 spare held m 3 ((cs.drop 11).take (Tryz.prog.cellsOf 3)) = xs[11]? := hf 11 _ rfl
  have f12 : DataW.trod enc Tryz.prog W 0 spare held m 3 ((cs.drop 12).take (Tryz.prog.cellsOf 3)) = xs[12]? := hf 12 _ rfl
  have f13 : DataW.trod enc Tryz.prog W 0 spare held m 3 ((cs.drop 13).take (Tryz.prog.cellsOf 3)) = xs[13]? := hf 13 _ rfl
  have f14 : DataW.trod enc Tryz.prog W 0 spare held m 3 ((cs.drop 14).take (Tryz.prog.cellsOf 3)) = xs[14]? := hf 14 _ rfl
  have f15 : DataW.trod enc Tryz.prog W 0 spare held m 3 ((cs.drop 15).take (Tryz.prog.cellsOf 3)) = xs[15]? := hf 15 _ rfl
  have f16 : DataW.trod enc Tryz.prog W 0 spare held m 3 ((cs.drop 16).take (Tryz.prog.cellsOf 3)) = xs[16]? := hf 16 _ rfl
  simp only [c3] at f0 f1 f2 f3 f4 f5 f6 f7 f8 f9 f10 f11 f12 f13 f14 f15 f16
  have hsz : xs.length = 17 := hxl
  obtain ⟨y0, y1, y2, y3, y4, y5, y6, y7, y8, y9, y10, y11, y12, y13, y14, y15, y16, rfl⟩ : ∃ y0 y1 y2 y3 y4 y5 y6 y7 y8 y9 y10 y11 y12 y13 y14 y15 y16, xs = [y0, y1, y2, y3, y4, y5, y6, y7, y8, y9, y10, y11, y12, y13, y14, y15, y16] := by
    match xs, hsz with
    | [y0, y1, y2, y3, y4, y5, y6, y7, y8, y9, y10, y11, y12, y13, y14, y15, y16], _ => exact ⟨_, _, _, _, _, _, _, _, _, _, _, _, _, _, _, _, _, rfl⟩
  obtain ⟨z0, z1, z2, z3, z4, z5, z6, z7, z8, z9, z10, z11, z12, z13, z14, z15, z16, rfl⟩ : ∃ z0 z1 z2 z3 z4 z5 z6 z7 z8 z9 z10 z11 z12 z13 z14 z15 z16, cs = [z0, z1, z2, z3, z4, z5, z6, z7, z8, z9, z10, z11, z12, z13, z14, z15, z16] := by
    match cs, hl with
    | [z0, z1, z2, z3, z4, z5, z6, z7, z8, z9, z10, z11, z12, z13, z14, z15, z16], _ => exact ⟨_, _, _, _, _, _, _, _, _, _, _, _, _, _, _, _, _, rfl⟩
  obtain ⟨a0, e0, _, _⟩ := DataW.trod_int Tryz.underlying3 f0
  obtain ⟨a1, e1, _, _⟩ := DataW.trod_int Tryz.underlying3 f1
  obtain ⟨a2, e2, _, _⟩ := DataW.trod_int Tryz.underlying3 f2
  obtain ⟨a3, e3, _, _⟩ := DataW.trod_int Tryz.underlying3 f3
  obtain ⟨a4, e4, _, _⟩ := DataW.trod_int Tryz.underlying3 f4
  obtain ⟨a5, e5, _, _⟩ := DataW.trod_int Tryz.underlying3 f5
  obtain ⟨a6, e6, _, _⟩ := DataW.trod_int Tryz.underlying3 f6
  obtain ⟨a7, e7, _, _⟩ := DataW.trod_int Tryz.underlying3 f7
  obtain ⟨a8, e8, _, _⟩ := DataW.trod_int Tryz.underlying3 f8
  obtain ⟨a9, e9, _, _⟩ := DataW.trod_int Tryz.underlying3 f9
  obtain ⟨a10, e10, _, _⟩ := DataW.trod_int Tryz.underlying3 f10
  obtain ⟨a11, e11, _, _⟩ := DataW.trod_int Tryz.underlying3 f11
  obtain ⟨a12, e12, _, _⟩ := DataW.trod_int Tryz.underlying3 f12
  obtain ⟨a13, e13, _, _⟩ := DataW.trod_int Tryz.underlying3 f13
  obtain ⟨a14, e14, _, _⟩ := DataW.trod_int Tryz.underlying3 f14
  obtain ⟨a15, e15, _, _⟩ := DataW.trod_int Tryz.underlying3 f15
  obtain ⟨a16, e16, _, _⟩ := DataW.trod_int Tryz.underlying3 f16
  simp at e0 e1 e2 e3 e4 e5 e6 e7 e8 e9 e10 e11 e12 e13 e14 e15 e16
  subst e0 e1 e2 e3 e4 e5 e6 e7 e8 e9 e10 e11 e12 e13 e14 e15 e16
  exact ⟨⟨a0, a1, a2, a3, a4, a5, a6, a7, a8, a9, a10, a11, a12, a13, a14, a15, a16⟩, rfl⟩

set_option maxRecDepth 100000 in
theorem ch_at {H : Type} {enc : TypeId × Value → H} {W : World} {spare : Nat → Bool} {held : Bool} {n : Nat} {cs : List Value} {x : DataW H × List MemPlace}
    (hl : cs.length = 3) (ht : DataW.trod enc Tryz.prog W 0 spare held n 90 cs = some x) : ∃ q : Int × Int × Int, cs = [.int .i64 q.1, .int .i64 q.2.1, .int .i64 q.2.2] := by
  obtain ⟨xs, m, _, _, _, hxl, hf⟩ := DataW.trod_struct Tryz.underlying90 ht
  have c3 : Tryz.prog.cellsOf 3 = 1 := by kernel_rfl
  have f0 : DataW.trod enc Tryz.prog W 0 spare held m 3 ((cs.drop 0).take (Tryz.prog.cellsOf 3)) = xs[0]? := hf 0 _ rfl
  have f1 : DataW.trod enc Tryz.prog W 0 spare held m 3 ((cs.drop 1).take (Tryz.prog.cellsOf 3)) = xs[1]? := hf 1 _ rfl
  have f2 : DataW.trod enc Tryz.prog W 0 spare held m 3 ((cs.drop 2).take (Tryz.prog.cellsOf 3)) = xs[2]? := hf 2 _ rfl
  simp only [c3] at f0 f1 f2
  have hsz : xs.length = 3 := hxl
  obtain ⟨y0, y1, y2, rfl⟩ : ∃ y0 y1 y2, xs = [y0, y1, y2] := by
    match xs, hsz with
    | [y0, y1, y2], _ => exact ⟨_, _, _, rfl⟩
  obtain ⟨z0, z1, z2, rfl⟩ : ∃ z0 z1 z2, cs = [z0, z1, z2] := by
    match cs, hl with
    | [z0, z1, z2], _ => exact ⟨_, _, _, rfl⟩
  obtain ⟨a0, e0, _, _⟩ := DataW.trod_int Tryz.underlying3 f0
  obtain ⟨a1, e1, _, _⟩ := DataW.trod_int Tryz.underlying3 f1
  obtain ⟨a2, e2, _, _⟩ := DataW.trod_int Tryz.underlying3 f2
  simp at e0 e1 e2
  subst e0 e1 e2
  exact ⟨⟨a0, a1, a2⟩, rfl⟩

set_option maxRecDepth 100000 in
theorem sp_at {H : Type} {enc : TypeId × Value → H} {W : World} {spare : Nat → Bool} {held : Bool} {n : Nat} {cs : List Value} {x : DataW H × List MemPlace}
    (hl : cs.length = 4) (ht : DataW.trod enc Tryz.prog W 0 spare held n 92 cs = some x) : ∃ q : Sp, cs = spL q := by
  obtain ⟨xs, m, _, _, _, hxl, hf⟩ := DataW.trod_struct Tryz.underlying92 ht
  have c3 : Tryz.prog.cellsOf 3 = 1 := by kernel_rfl
  have c49 : Tryz.prog.cellsOf 90 = 3 := by kernel_rfl
  have f0 : DataW.trod enc Tryz.prog W 0 spare held m 3 ((cs.drop 0).take (Tryz.prog.cellsOf 3)) = xs[0]? := hf 0 _ rfl
  have f1 : DataW.trod enc Tryz.prog W 0 spare held m 90 ((cs.drop 1).take (Tryz.prog.cellsOf 90)) = xs[1]? := hf 1 _ rfl
  simp only [c3, c49] at f0 f1
  have hsz : xs.length = 2 := hxl
  obtain ⟨y0, y1, rfl⟩ : ∃ y0 y1, xs = [y0, y1] := by
    match xs, hsz with
    | [y0, y1], _ => exact ⟨_, _, rfl⟩
  obtain ⟨z0, z1, z2, z3, rfl⟩ : ∃ z0 z1 z2 z3, cs = [z0, z1, z2, z3] := by
    match cs, hl with
    | [z0, z1, z2, z3], _ => exact ⟨_, _, _, _, rfl⟩
  obtain ⟨a0, e0, _, _⟩ := DataW.trod_int Tryz.underlying3 f0
  obtain ⟨⟨b, c, d⟩, e1⟩ := ch_at rfl (show DataW.trod enc Tryz.prog W 0 spare held m 90 [z1, z2, z3] = some y1 from f1)
  simp at e0 e1
  obtain ⟨rfl, rfl, rfl⟩ := e1
  subst e0
  exact ⟨⟨a0, b, c, d⟩, rfl⟩

/-- A list of records that is handed in. -/
theorem recs_in {H : Type} {enc : TypeId × Value → H} {W : World} {spare : Nat → Bool} {fuel : Nat} {cs : List Value} {x : DataW H × List MemPlace} {α : Type} {k : Nat} {f : α → List Value} {ty e : TypeId} (hu : Tryz.prog.underlying ty = some (.slice e)) (ck : Tryz.prog.cellsOf e = k) (hk : 0 < k)
    (hat : ∀ (n : Nat) (cs : List Value) (x : DataW H × List MemPlace), cs.length = k → DataW.trod enc Tryz.prog W 0 spare true n e cs = some x → ∃ q : α, cs = f q)
    (hf : DataW.trod enc Tryz.prog W 0 spare true fuel ty cs = some x) : ∃ (v : Value) (qs : List α), cs = [v] ∧ RecAt k f W v qs ∧ qs.length ≤ 9223372036854775807 ∧ ((x.1 = .nil ∧ qs = []) ∨ ∃ es sp, x.1 = .slice es sp ∧ es.length = qs.length) := by
  rcases Deep.open_slice hu hf with ⟨hcs, hx0⟩ | ⟨a, len, cap, m, n, D, Pl, hcs, _, hl, hm, hmm, hx1, hx⟩
  · subst hcs
    exact ⟨_, [], rfl, ⟨⟨none, 0, rfl, .inl rfl⟩, fun a n c e => by cases e; exact Nat.le_refl _⟩, by simp, .inl ⟨by rw [hx0], rfl⟩⟩
  · subst hcs
    have hlm : len ≤ m := by rw [hmm]; split <;> omega
    rw [ck] at hx
    have hdat : ∃ es sp, x.1 = .slice es sp ∧ es.length = len := by rw [hx1]; exact ⟨_, _, rfl, by simp⟩
    obtain ⟨es, sp, hes, hel⟩ := hdat
    by_cases h0 : len = 0
    · subst h0
      exact ⟨_, [], rfl, ⟨⟨_, _, rfl, .inl rfl⟩, fun a n c e => by cases e; exact hl⟩, by simp, .inr ⟨es, sp, hes, by simpa using hel⟩⟩
    · obtain ⟨b, off, spot⟩ := a
      obtain ⟨cs', hc0, ht0⟩ := hx 0 (by omega)
      have hb := World.cells?_block hc0 (by omega)
      obtain ⟨_, hl0, hce⟩ := World.cells?_some hc0
      have hg := hce 0 (by omega)
      have hspot : spot = none := by
        match cs', hl0 with
        | z :: _, _ => simpa [Addr.add] using World.cell?_spot hg
        | [], h => simp at h; omega
      subst hspot
      rw [addr_add] at hb
      have hq : ∀ i : Fin len, ∃ q : α, ∀ j u, (f q)[j]? = some u → W.cell? ⟨b, off + i * k + j, none⟩ = some u := fun i => by
        obtain ⟨cs', hc1, ht1⟩ := hx i (by omega)
        rw [addr_add] at hc1
        obtain ⟨_, hl1, hce1⟩ := World.cells?_some hc1
        obtain ⟨q, rfl⟩ := hat _ _ _ hl1 ht1
        refine ⟨q, fun j u hu => ?_⟩
        have hj : j < (f q).length := (List.getElem?_eq_some_iff.1 hu).1
        have := hce1 j (by omega)
        rw [addr_add] at this
        exact this.trans hu
      refine ⟨_, List.ofFn (fun i => Classical.choose (hq i)), rfl, ⟨⟨_, _, by simp; exact rfl, .inr ⟨b, off, rfl, hb, fun i hi j u hu => ?_⟩⟩, fun a n c e => by cases e; exact hl⟩, by simp; unfold maxLen at hm; omega, .inr ⟨es, sp, hes, by simpa using hel⟩⟩
      have hi' : i < len := by simpa using hi
      have := Classical.choose_spec (hq ⟨i, hi'⟩) j u (by simpa using hu)
      simpa using this
end Go.Proofs.YthcphnifnfnceaaGreatDoor
