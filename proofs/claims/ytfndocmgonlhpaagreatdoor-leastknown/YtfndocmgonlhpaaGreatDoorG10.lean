/-
  What is proved here: lists of items: which may be, where lines end and begin, how wide they are (no program is named), and their cells in memory.
  What is proved here: what Check, refuse and Legal of item answer of any list.
  What is proved here: what Legal of item answers of any list.
  What is proved here: what Start, shown, Give and Leaps of item answer of any list.
  What is proved here: what shown, Give, Width and Leaps of item answer of any list.
  What is proved here: slots, profiles and lines (no program is named): which profiles may be, a line's slot, the line from an item on, the lines of items; a part of a list of items has the breaks, widths and beginnings of the list.
-/
import Derived.Test.YtfndocmgonlhpaaGreatDoorG9
namespace Go.Proofs.YtfndocmgonlhpaaGreatDoor
open Go.RowKit Go.Shelf

def it0 : It := ⟨0,0,0,0,0,0,0,false⟩
def itAt (l : List It) (i : Nat) : It := l.getD i it0
theorem itAt_is {l : List It} {i : Nat} (h : i < l.length) : itAt l i = l[i] := by unfold itAt; rw [List.getD_eq_getElem?_getD,List.getElem?_eq_getElem h]; rfl
def ckL (l : List It) : Int := if 8192 < l.length then 3 else if l.all okI = true then 0 else 2
def rfL (l : List It) (a b : Int) : Int := if ckL l ≠ 0 then ckL l else if 0 ≤ a ∧ a ≤ b ∧ b ≤ l.length then 0 else 5
theorem ck_len {l : List It} (h : ckL l = 0) : l.length ≤ 8192 := by
 unfold ckL at h
 split at h
 ·cases h
 ·omega
theorem ck_all {l : List It} (h : ckL l = 0) : l.all okI = true := by
 unfold ckL at h
 split at h
 ·cases h
 ·split at h
  ·assumption
  ·cases h
theorem rf_ok {l : List It} {a b : Int} (h : rfL l a b = 0) : ckL l = 0 ∧ 0 ≤ a ∧ a ≤ b ∧ b ≤ l.length := by
 unfold rfL at h
 split at h
 ·rename_i h'; exact absurd h h'
 ·split at h
  ·exact ⟨by rename_i h' _; exact Decidable.not_not.1 h',by assumption⟩
  ·cases h
def enB (l : List It) (i : Nat) : Bool := decide (i = l.length ∨ (itAt l i).k = 3 ∨ ((itAt l i).k = 2 ∧ 0 < i ∧ (itAt l (i - 1)).k ≠ 2))
def lgB (l : List It) (i : Int) : Bool := decide (rfL l i l.length = 0) && enB l i.toNat
def skG (l : List It) : Nat → Nat → Nat
 | 0,i => i
 | n + 1,i => if i < l.length ∧ (itAt l i).k = 2 then skG l n (i + 1) else i
def bgN (l : List It) (i : Nat) : Nat := skG l (l.length + 1) (if i < l.length ∧ (itAt l i).k = 3 then i + 1 else i)
theorem skG_go {l : List It} {n i : Nat} (h : i < l.length ∧ (itAt l i).k = 2) : skG l (n + 1) i = skG l n (i + 1) := if_pos h
theorem skG_no {l : List It} {n i : Nat} (h : ¬ (i < l.length ∧ (itAt l i).k = 2)) : skG l n i = i := by
 cases n
 ·rfl
 ·exact if_neg h
def stE (l : List It) (i : Int) : Int := rfL l i l.length
def stV (l : List It) (i : Int) : Int := if rfL l i l.length = 0 then (bgN l i.toNat : Int) else 0
abbrev ItsAt (W : World) (v : Value) (l : List It) : Prop := RecAt 8 itL W v l
theorem its_at {W : World} {a : Option Addr} {n cap : Nat} {l : List It} (h : ItsAt W (.slice a n cap) l) {i : Nat} (hi : i < l.length) :
  ∃ b o,a = some ⟨b,o,none⟩ ∧ b < W.heap.size ∧ ∀ W',Below W.heap.size W W' → ItAt W b (o + i * 8) l[i] W' := by
 obtain ⟨a',cap',h1,h2⟩ := h.ex
 cases h1
 rcases h2 with h2 | ⟨b,o,rfl,hb,hc⟩
 ·subst h2; simp at hi
 ·refine ⟨b,o,rfl,hb,fun W' hW => ⟨hW,?_,?_,?_,?_,?_,?_,?_,?_⟩⟩
  ·exact (hW.cell hb).trans (hc i hi 0 _ rfl)
  ·exact (hW.cell hb).trans (hc i hi 1 _ rfl)
  ·exact (hW.cell hb).trans (hc i hi 2 _ rfl)
  ·exact (hW.cell hb).trans (hc i hi 3 _ rfl)
  ·exact (hW.cell hb).trans (hc i hi 4 _ rfl)
  ·exact (hW.cell hb).trans (hc i hi 5 _ rfl)
  ·exact (hW.cell hb).trans (hc i hi 6 _ rfl)
  ·exact (hW.cell hb).trans (hc i hi 7 _ rfl)
theorem ItAt.all {z : World} {b o : Nat} {x : It} {W : World} (h : ItAt z b o x W) : ∀ (j : Nat) (u : Value),(itL x)[j]? = some u → W.cell? ⟨b,o + j,none⟩ = some u := fun j u hu => by
 have hj : j < 8 := (List.getElem?_eq_some_iff.1 hu).1
 have hj' : j = 0 ∨ j = 1 ∨ j = 2 ∨ j = 3 ∨ j = 4 ∨ j = 5 ∨ j = 6 ∨ j = 7 := by omega
 rcases hj' with rfl | rfl | rfl | rfl | rfl | rfl | rfl | rfl <;> (simp [itL] at hu; subst hu)
 ·exact h.c0
 ·exact h.c1
 ·exact h.c2
 ·exact h.c3
 ·exact h.c4
 ·exact h.c5
 ·exact h.c6
 ·exact h.c7
theorem ck_bad {l : List It} (h8 : l.length ≤ 8192) {k : Nat} (hk : k < l.length) (h : okI l[k] = false) : ckL l = 2 := by
 unfold ckL
 rw [if_neg (by omega),if_neg]
 intro h'
 have := List.all_eq_true.1 h' _ (List.getElem_mem hk)
 rw [h] at this; cases this
theorem ck_good {l : List It} (h8 : l.length ≤ 8192) (h : ∀ k (hk : k < l.length),okI l[k] = true) : ckL l = 0 := by
 unfold ckL
 rw [if_neg (by omega),if_pos]
 exact List.all_eq_true.2 fun b hb => by
  obtain ⟨k,hk,rfl⟩ := List.getElem_of_mem hb
  exact h k hk
theorem ck_long {l : List It} (h : 8192 < l.length) : ckL l = 3 := if_pos h
end Go.Proofs.YtfndocmgonlhpaaGreatDoor

namespace Go.Proofs.YtfndocmgonlhpaaGreatDoor
open Go.RowKit Go.Shelf
set_option maxRecDepth 100000
set_option maxHeartbeats 2000000

theorem icheck_any (v : Value) (l : List It) (w : World) (hS : ItsAt w v l) :
  Calls Tryz.prog 24 #[v] w fun e w' => e = .returned (.int .i64 (ckL l)) ∧ Below w.heap.size w w' := by
 obtain ⟨a,cap,rfl,-⟩ := hS.ex
 by_cases h16 : 8192 < l.length
 ·rw [ck_long h16]
  have h16' : (8192 : Int) < l.length := by omega
  clear hS
  go_enter Tryz.func24,Tryz.ntmps24
  go_wp2
  go_ret
  exact ⟨rfl,Below.refl _ _⟩
 have hY : Hid (∀ k (hk : k < l.length),okI l[k] = false → ckL l = 2) := fun k hk e => ck_bad (by omega) hk e
 have hN : Hid ((∀ k (hk : k < l.length),okI l[k] = true) → ckL l = 0) := fun h => ck_good (by omega) h
 have h16' : ¬ (8192 : Int) < l.length := by omega
 have hSh : Hid (ItsAt w (.slice a l.length cap) l) := hS
 clear hS
 generalize ckL l = r at hY hN ⊢
 go_enter Tryz.func24,Tryz.ntmps24
 go_wp2_with fail
 go_loopw [9] (fun i wr => ∃ (k : Nat),k ≤ l.length ∧ i = .int .i64 k ∧ Below w.heap.size w wr ∧ Hid (∀ j (hj : j < l.length),j < k → okI l[j] = true)) (fun i _ => l.length - (intOf i).toNat)
 case atStart => exact ⟨0,by omega,rfl,Below.refl _ _,fun j _ hj => by omega⟩
 case round =>
  obtain ⟨k,hk,rfl,hb,hall⟩ := hrel
  by_cases hlt : k < l.length
  ·obtain ⟨b,o,rfl,hbl,hit⟩ := its_at hSh.out hlt
   have hm : Hid (Calls Tryz.prog 54 #[.pointer (some ⟨b,o + k * 8,none⟩)] wr fun e w' => e = .returned (.bool (okI l[k])) ∧ Below wr.heap.size wr w') := mayBe_any l[k] b (o + k * 8) wr (hit wr hb).all
   have hlt' : (k : Int) < l.length := by omega
   cases hv : okI l[k] with
   | false =>
    have hn := hY.out k hlt hv
    subst hn
    rw [hv] at hm
    clear hY hN hall hit hv hSh
    go_wp2_with (go_at_call 54; refine hm.out.mono ?_; rintro e w' ⟨rfl,hb2⟩)
    go_ret
    exact ⟨rfl,hb.trans (hb2.mono hb.size)⟩
   | true =>
    have hy : Hid (∀ j (hj : j < l.length),j < k + 1 → okI l[j] = true) := fun j hj hjk => by
     by_cases h : j < k
     ·exact hall.out j hj h
     ·obtain rfl : j = k := by omega
      exact hv
    rw [hv] at hm
    clear hY hN hall hit hv hSh
    go_wp2_with (go_at_call 54; refine hm.out.mono ?_; rintro e w' ⟨rfl,hb2⟩)
    go_roundw
    case rel => exact ⟨k + 1,by omega,by simp,hb.trans (hb2.mono hb.size),hy⟩
    case measure => simp [intOf]; omega
  ·have hn := hN.out (fun j hj => hall.out j hj (by omega))
   have hge : ¬ (k : Int) < l.length := by omega
   clear hY hN hall hSh
   subst hn
   go_wp2_with fail
   go_ret
   exact ⟨rfl,hb⟩

theorem irefuse_any (v : Value) (l : List It) (x y : Int) (w : World) (hS : ItsAt w v l) :
  Calls Tryz.prog 96 #[v,.int .i64 x,.int .i64 y] w fun e w' => e = .returned (.int .i64 (rfL l x y)) ∧ Below w.heap.size w w' := by
 have hc : Hid (Calls Tryz.prog 24 #[v] w fun e w' => e = .returned (.int .i64 (ckL l)) ∧ Below w.heap.size w w') := icheck_any v l w hS
 obtain ⟨a,cap,rfl,-⟩ := hS.ex
 clear hS
 unfold rfL
 by_cases h0 : ckL l = 0
 ·rw [if_neg (by simpa using h0)]
  rw [h0] at hc
  clear h0
  by_cases h1 : 0 ≤ x
  ·by_cases h2 : x ≤ y
   ·by_cases h3 : y ≤ l.length
    ·rw [if_pos ⟨h1,h2,h3⟩]
     go_enter Tryz.func96,Tryz.ntmps96
     go_wp2_with (go_at_call 24; refine hc.out.mono ?_; rintro e w' ⟨rfl,hb2⟩)
     go_ret
     exact ⟨rfl,hb2⟩
    ·rw [if_neg (by omega)]
     go_enter Tryz.func96,Tryz.ntmps96
     go_wp2_with (go_at_call 24; refine hc.out.mono ?_; rintro e w' ⟨rfl,hb2⟩)
     go_ret
     exact ⟨rfl,hb2⟩
   ·rw [if_neg (by omega)]
    go_enter Tryz.func96,Tryz.ntmps96
    go_wp2_with (go_at_call 24; refine hc.out.mono ?_; rintro e w' ⟨rfl,hb2⟩)
    go_ret
    exact ⟨rfl,hb2⟩
  ·rw [if_neg (by omega)]
   go_enter Tryz.func96,Tryz.ntmps96
   go_wp2_with (go_at_call 24; refine hc.out.mono ?_; rintro e w' ⟨rfl,hb2⟩)
   go_ret
   exact ⟨rfl,hb2⟩
 ·rw [if_pos h0]
  have h0' : (ckL l == 0) = false := by simpa using h0
  clear h0
  generalize ckL l = n at *
  go_enter Tryz.func96,Tryz.ntmps96
  go_wp2_with (go_at_call 24; refine hc.out.mono ?_; rintro e w' ⟨rfl,hb2⟩)
  go_ret
  exact ⟨rfl,hb2⟩
end Go.Proofs.YtfndocmgonlhpaaGreatDoor

namespace Go.Proofs.YtfndocmgonlhpaaGreatDoor
open Go.RowKit Go.Shelf
set_option maxRecDepth 100000
set_option maxHeartbeats 2000000

theorem its_kind {W W' : World} {a : Option Addr} {n cap : Nat} {l : List It} (h : ItsAt W (.slice a n cap) l) {i : Nat} (hi : i < l.length) (hW : Below W.heap.size W W') :
  ∃ b o,a = some ⟨b,o,none⟩ ∧ b < W.heap.size ∧ W'.cell? ⟨b,o + i * 8,none⟩ = some (.int .i64 (itAt l i).k) := by
 obtain ⟨b,o,rfl,hb,hit⟩ := its_at h hi
 exact ⟨b,o,rfl,hb,by rw [itAt_is hi]; exact (hit W' hW).c0⟩

theorem legal_any (v : Value) (l : List It) (x : Int) (w : World) (hS : ItsAt w v l) :
  Calls Tryz.prog 59 #[v,.int .i64 x] w fun e w' => e = .returned (.bool (lgB l x)) ∧ Below w.heap.size w w' := by
 have hc : Hid (Calls Tryz.prog 96 #[v,.int .i64 x,.int .i64 l.length] w fun e w' => e = .returned (.int .i64 (rfL l x l.length)) ∧ Below w.heap.size w w') := irefuse_any v l x l.length w hS
 obtain ⟨a,cap,rfl,-⟩ := hS.ex
 have hSh : Hid (ItsAt w (.slice a l.length cap) l) := hS
 clear hS
 unfold lgB
 by_cases h0 : rfL l x l.length = 0
 ·obtain ⟨h1,h2,h3,-⟩ := rf_ok h0
  rw [decide_eq_true h0,Bool.true_and]
  rw [h0] at hc
  obtain ⟨i,rfl⟩ : ∃ i : Nat,x = i := ⟨x.toNat,by omega⟩
  rw [Int.toNat_natCast]
  have h8 : (i : Int) ≤ 8192 := by have := ck_len h1; omega
  clear h0 h1 h2
  unfold enB
  by_cases hi : i = l.length
  ·rw [decide_eq_true (.inl hi)]
   have hi' : ((i : Int) == (l.length : Int)) = true := by rw [beq_iff_eq]; omega
   clear hi
   go_enter Tryz.func59,Tryz.ntmps59
   go_wp2_with (go_at_call 96; refine hc.out.mono ?_; rintro e w' ⟨rfl,hb2⟩)
   go_ret
   exact ⟨rfl,hb2⟩
  ·have hlt : i < l.length := by omega
   have hlt' : (i : Int) < l.length := by omega
   have hi' : ((i : Int) == (l.length : Int)) = false := by rw [beq_eq_false_iff_ne]; omega
   have hk : Hid (∀ W',Below w.heap.size w W' → ∃ b o,a = some ⟨b,o,none⟩ ∧ W'.cell? ⟨b,o + i * 8,none⟩ = some (.int .i64 (itAt l i).k)) := fun W' hW => by
    obtain ⟨b,o,e,_,h⟩ := its_kind hSh.out hlt hW
    exact ⟨b,o,e,h⟩
   have hk1 : Hid (0 < i → ∀ W',Below w.heap.size w W' → ∃ b o,a = some ⟨b,o,none⟩ ∧ W'.cell? ⟨b,o + (i - 1) * 8,none⟩ = some (.int .i64 (itAt l (i - 1)).k)) := fun _ W' hW => by
    obtain ⟨b,o,e,_,h⟩ := its_kind hSh.out (i := i - 1) (by omega) hW
    exact ⟨b,o,e,h⟩
   clear hSh
   generalize (itAt l i).k = kx at *
   generalize (itAt l (i - 1)).k = ky at *
   by_cases h3 : kx = 3
   ·rw [decide_eq_true (.inr (.inl h3))]
    subst h3
    clear hk1
    go_enter Tryz.func59,Tryz.ntmps59
    go_wp2_with (go_at_call 96; refine hc.out.mono ?_; rintro e w' ⟨rfl,hb2⟩; obtain ⟨bb,oo,rfl,c0⟩ := hk.out _ hb2)
    go_ret
    exact ⟨rfl,hb2⟩
   ·have q3 : (kx == 3) = false := by simpa using h3
    by_cases h2 : kx = 2
    ·subst h2
     by_cases hz : i = 0
     ·rw [decide_eq_false (by omega)]
      have hz' : ¬ (0 : Int) < (i : Int) := by omega
      clear hk1 hz h3
      go_enter Tryz.func59,Tryz.ntmps59
      go_wp2_with (go_at_call 96; refine hc.out.mono ?_; rintro e w' ⟨rfl,hb2⟩; obtain ⟨bb,oo,rfl,c0⟩ := hk.out _ hb2)
      go_ret
      exact ⟨rfl,hb2⟩
     ·have hz' : (0 : Int) < (i : Int) := by omega
      have h1i : (1 : Int) ≤ (i : Int) := by omega
      have hjl : (i : Int) - 1 < l.length := by omega
      have hk2 : Hid (∀ W',Below w.heap.size w W' → ∃ b o,a = some ⟨b,o,none⟩ ∧ W'.cell? ⟨b,o + (i - 1) * 8,none⟩ = some (.int .i64 ky)) := hk1.out (by omega)
      clear hk1
      by_cases hy : ky = 2
      ·rw [decide_eq_false (by omega)]
       subst hy
       clear hz h3
       go_enter Tryz.func59,Tryz.ntmps59
       go_wp2_with (go_at_call 96; refine hc.out.mono ?_; rintro e w' ⟨rfl,hb2⟩; obtain ⟨bb,oo,rfl,c0⟩ := hk.out _ hb2; obtain ⟨bb2,oo2,e2,c1⟩ := hk2.out _ hb2; cases e2)
       go_ret
       exact ⟨rfl,hb2⟩
      ·rw [decide_eq_true (by omega)]
       have qy : (ky == 2) = false := by simpa using hy
       clear hz h3 hy
       go_enter Tryz.func59,Tryz.ntmps59
       go_wp2_with (go_at_call 96; refine hc.out.mono ?_; rintro e w' ⟨rfl,hb2⟩; obtain ⟨bb,oo,rfl,c0⟩ := hk.out _ hb2; obtain ⟨bb2,oo2,e2,c1⟩ := hk2.out _ hb2; cases e2)
       go_ret
       exact ⟨by show Ending.returned (Value.bool (ky != 2)) = _; simp only [bne,qy,Bool.not_false],hb2⟩
    ·rw [decide_eq_false (by omega)]
     have q2 : (kx == 2) = false := by simpa using h2
     clear hk1 h2 h3
     go_enter Tryz.func59,Tryz.ntmps59
     go_wp2_with (go_at_call 96; refine hc.out.mono ?_; rintro e w' ⟨rfl,hb2⟩; obtain ⟨bb,oo,rfl,c0⟩ := hk.out _ hb2)
     go_ret
     exact ⟨rfl,hb2⟩
 ·rw [decide_eq_false h0,Bool.false_and]
  have h0' : (rfL l x l.length == 0) = false := by simpa using h0
  clear h0 hSh
  generalize rfL l x l.length = n at *
  go_enter Tryz.func59,Tryz.ntmps59
  go_wp2_with (go_at_call 96; refine hc.out.mono ?_; rintro e w' ⟨rfl,hb2⟩)
  go_ret
  exact ⟨rfl,hb2⟩
end Go.Proofs.YtfndocmgonlhpaaGreatDoor

namespace Go.Proofs.YtfndocmgonlhpaaGreatDoor
open Go.RowKit Go.Shelf
set_option maxRecDepth 100000
set_option maxHeartbeats 2000000

theorem skG_enough {l : List It} : ∀ (n m i : Nat),l.length < i + n → l.length < i + m → skG l n i = skG l m i
 | 0,m,i,h,_ => by
  rw [skG_no (n := m) (by omega)]; rfl
 | n + 1, m, i, h, h' => by
  by_cases hc : i < l.length ∧ (itAt l i).k = 2
  ·obtain ⟨m',rfl⟩ : ∃ m',m = m' + 1 := ⟨m - 1,by omega⟩
   rw [skG_go hc,skG_go hc]
   exact skG_enough n m' (i + 1) (by omega) (by omega)
  ·rw [skG_no hc,skG_no hc]
def sk (l : List It) (i : Nat) : Nat := skG l (l.length + 1) i
theorem sk_go {l : List It} {i : Nat} (h : i < l.length) (hk : (itAt l i).k = 2) : sk l i = sk l (i + 1) := by
 unfold sk
 rw [skG_go ⟨h,hk⟩]
 exact skG_enough _ _ _ (by omega) (by omega)
theorem sk_no {l : List It} {i : Nat} (h : ¬ (i < l.length ∧ (itAt l i).k = 2)) : sk l i = i := skG_no h

theorem start_any (v : Value) (l : List It) (x : Int) (w : World) (hS : ItsAt w v l) :
  Calls Tryz.prog 97 #[v,.int .i64 x] w fun e w' => e = .returned (.tuple #[.int .i64 (stV l x),.int .i64 (stE l x)]) ∧ Below w.heap.size w w' := by
 have hc : Hid (Calls Tryz.prog 96 #[v,.int .i64 x,.int .i64 l.length] w fun e w' => e = .returned (.int .i64 (rfL l x l.length)) ∧ Below w.heap.size w w') := irefuse_any v l x l.length w hS
 obtain ⟨a,cap,rfl,-⟩ := hS.ex
 have hSh : Hid (ItsAt w (.slice a l.length cap) l) := hS
 clear hS
 unfold stV stE
 by_cases h0 : rfL l x l.length = 0
 ·obtain ⟨h1,h2,h3,-⟩ := rf_ok h0
  rw [if_pos h0,h0]
  rw [h0] at hc
  obtain ⟨i,rfl⟩ : ∃ i : Nat,x = i := ⟨x.toNat,by omega⟩
  rw [Int.toNat_natCast]
  have h8 : (l.length : Int) ≤ 8192 := by have := ck_len h1; omega
  clear h0 h1 h2
  have hk : Hid (∀ i,i < l.length → ∀ W',Below w.heap.size w W' → ∃ b o,a = some ⟨b,o,none⟩ ∧ W'.cell? ⟨b,o + i * 8,none⟩ = some (.int .i64 (itAt l i).k)) := fun i hlt W' hW => by
   obtain ⟨b,o,e,_,h⟩ := its_kind hSh.out hlt hW
   exact ⟨b,o,e,h⟩
  clear hSh
  by_cases hp : i < l.length ∧ (itAt l i).k = 3
  ·have hres : Hid (bgN l i = sk l (i + 1)) := by show bgN l i = sk l (i + 1); unfold bgN sk; rw [if_pos hp]
   obtain ⟨hlt,hk3⟩ := hp
   have hlt' : (i : Int) < l.length := by omega
   have hi0 : Hid (∀ W',Below w.heap.size w W' → ∃ b o,a = some ⟨b,o,none⟩ ∧ W'.cell? ⟨b,o + i * 8,none⟩ = some (.int .i64 3)) := fun W' hW => by
    obtain ⟨b,o,e,h⟩ := hk.out i hlt W' hW
    rw [hk3] at h; exact ⟨b,o,e,h⟩
   clear hk3
   generalize bgN l i = R at *
   go_enter Tryz.func97,Tryz.ntmps97
   go_wp2_with (go_at_call 96; refine hc.out.mono ?_; rintro e w' ⟨rfl,hb2⟩; obtain ⟨bb,oo,rfl,c0⟩ := hi0.out _ hb2)
   clear hi0 hc c0
   go_loopw [1] (fun p wr => ∃ k : Nat,k ≤ l.length ∧ p = .int .i64 k ∧ wr = w' ∧ Hid (R = sk l k)) (fun p _ => l.length - (intOf p).toNat)
   case atStart => exact ⟨i + 1,by omega,by simp,rfl,hres⟩
   case round =>
    obtain ⟨k,hk1,rfl,rfl,hr⟩ := hrel
    by_cases hkl : k < l.length
    ·have hkl' : (k : Int) < l.length := by omega
     obtain ⟨b2,o2,e2,c1⟩ := hk.out k hkl _ hb2
     cases e2
     by_cases h2 : (itAt l k).k = 2
     ·have hr2 : Hid (R = sk l (k + 1)) := hr.out.trans (sk_go hkl h2)
      rw [h2] at c1
      clear hr hres h2
      go_wp2_with fail
      go_roundw
      case rel => exact ⟨k + 1,by omega,by simp,by first | rfl | trivial,hr2⟩
      case measure => simp [intOf]; omega
     ·have e := hr.out.trans (sk_no (fun h => h2 h.2))
      subst e
      have q2 : ((itAt l R).k == 2) = false := by simpa using h2
      generalize (itAt l R).k = kx at *
      clear hr hres h2
      go_wp2_with fail
      go_ret2
      exact ⟨rfl,hb2⟩
    ·have e := hr.out.trans (sk_no (fun h => hkl h.1))
     subst e
     have hkl' : ¬ (R : Int) < l.length := by omega
     clear hr hres
     go_wp2_with fail
     go_ret2
     exact ⟨rfl,hb2⟩
  ·have hres : Hid (bgN l i = sk l i) := by show bgN l i = sk l i; unfold bgN sk; rw [if_neg hp]
   have hi0 : Hid (¬ i < l.length ∨ ∀ W',Below w.heap.size w W' → ∃ b o kx,a = some ⟨b,o,none⟩ ∧ W'.cell? ⟨b,o + i * 8,none⟩ = some (.int .i64 kx) ∧ (kx == 3) = false) := by
    by_cases hlt : i < l.length
    ·refine .inr fun W' hW => ?_
     obtain ⟨b,o,e,h⟩ := hk.out i hlt W' hW
     exact ⟨b,o,_,e,h,by rw [beq_eq_false_iff_ne]; exact fun h3 => hp ⟨hlt,h3⟩⟩
    ·exact .inl hlt
   clear hp
   generalize bgN l i = R at *
   have go : Hid (∀ w',Below w.heap.size w w' → ∀ k : Nat,k ≤ l.length → R = sk l k → True) := fun _ _ _ _ _ => trivial
   clear go
   rcases hi0.out with hlt | hi1
   ·have hlt' : ¬ (i : Int) < l.length := by omega
    clear hi0
    go_enter Tryz.func97,Tryz.ntmps97
    go_wp2_with (go_at_call 96; refine hc.out.mono ?_; rintro e w' ⟨rfl,hb2⟩)
    go_loopw [1] (fun p wr => ∃ k : Nat,k ≤ l.length ∧ p = .int .i64 k ∧ wr = w' ∧ Hid (R = sk l k)) (fun p _ => l.length - (intOf p).toNat)
    case atStart => exact ⟨i,by omega,rfl,rfl,hres⟩
    case round =>
     obtain ⟨k,hk1,rfl,rfl,hr⟩ := hrel
     by_cases hkl : k < l.length
     ·have hkl' : (k : Int) < l.length := by omega
      obtain ⟨b2,o2,rfl,c1⟩ := hk.out k hkl _ hb2
      by_cases h2 : (itAt l k).k = 2
      ·have hr2 : Hid (R = sk l (k + 1)) := hr.out.trans (sk_go hkl h2)
       rw [h2] at c1
       clear hr hres h2
       go_wp2_with fail
       go_roundw
       case rel => exact ⟨k + 1,by omega,by simp,by first | rfl | trivial,hr2⟩
       case measure => simp [intOf]; omega
      ·have e := hr.out.trans (sk_no (fun h => h2 h.2))
       subst e
       have q2 : ((itAt l R).k == 2) = false := by simpa using h2
       generalize (itAt l R).k = kx at *
       clear hr hres h2
       go_wp2_with fail
       go_ret2
       exact ⟨rfl,hb2⟩
     ·have e := hr.out.trans (sk_no (fun h => hkl h.1))
      subst e
      have hkl' : ¬ (R : Int) < l.length := by omega
      clear hr hres
      go_wp2_with fail
      go_ret2
      exact ⟨rfl,hb2⟩
   ·have hi2 : Hid (∀ W',Below w.heap.size w W' → ∃ b o kx,a = some ⟨b,o,none⟩ ∧ W'.cell? ⟨b,o + i * 8,none⟩ = some (.int .i64 kx) ∧ (kx == 3) = false) := hi1
    clear hi0 hi1
    by_cases hlt : i < l.length
    ·have hlt' : (i : Int) < l.length := by omega
     go_enter Tryz.func97,Tryz.ntmps97
     go_wp2_with (go_at_call 96; refine hc.out.mono ?_; rintro e w' ⟨rfl,hb2⟩; obtain ⟨bb,oo,kx0,rfl,c0,hq0⟩ := hi2.out _ hb2)
     clear c0 hq0 hi2 hc
     go_loopw [1] (fun p wr => ∃ k : Nat,k ≤ l.length ∧ p = .int .i64 k ∧ wr = w' ∧ Hid (R = sk l k)) (fun p _ => l.length - (intOf p).toNat)
     case atStart => exact ⟨i,by omega,rfl,rfl,hres⟩
     case round =>
      obtain ⟨k,hk1,rfl,rfl,hr⟩ := hrel
      by_cases hkl : k < l.length
      ·have hkl' : (k : Int) < l.length := by omega
       obtain ⟨b2,o2,e2,c1⟩ := hk.out k hkl _ hb2
       cases e2
       by_cases h2 : (itAt l k).k = 2
       ·have hr2 : Hid (R = sk l (k + 1)) := hr.out.trans (sk_go hkl h2)
        rw [h2] at c1
        clear hr hres h2
        go_wp2_with fail
        go_roundw
        case rel => exact ⟨k + 1,by omega,by simp,by first | rfl | trivial,hr2⟩
        case measure => simp [intOf]; omega
       ·have e := hr.out.trans (sk_no (fun h => h2 h.2))
        subst e
        have q2 : ((itAt l R).k == 2) = false := by simpa using h2
        generalize (itAt l R).k = kx at *
        clear hr hres h2
        go_wp2_with fail
        go_ret2
        exact ⟨rfl,hb2⟩
      ·have e := hr.out.trans (sk_no (fun h => hkl h.1))
       subst e
       have hkl' : ¬ (R : Int) < l.length := by omega
       clear hr hres
       go_wp2_with fail
       go_ret2
       exact ⟨rfl,hb2⟩
    ·have hlt' : ¬ (i : Int) < l.length := by omega
     clear hi2
     go_enter Tryz.func97,Tryz.ntmps97
     go_wp2_with (go_at_call 96; refine hc.out.mono ?_; rintro e w' ⟨rfl,hb2⟩)
     go_loopw [1] (fun p wr => ∃ k : Nat,k ≤ l.length ∧ p = .int .i64 k ∧ wr = w' ∧ Hid (R = sk l k)) (fun p _ => l.length - (intOf p).toNat)
     case atStart => exact ⟨i,by omega,rfl,rfl,hres⟩
     case round =>
      obtain ⟨k,hk1,rfl,rfl,hr⟩ := hrel
      have hkl : ¬ k < l.length ∨ k < l.length := by omega
      rcases hkl with hkl | hkl
      ·have e := hr.out.trans (sk_no (fun h => hkl h.1))
       subst e
       have hkl' : ¬ (R : Int) < l.length := by omega
       clear hr hres
       go_wp2_with fail
       go_ret2
       exact ⟨rfl,hb2⟩
      ·have hkl' : (k : Int) < l.length := by omega
       obtain ⟨b2,o2,rfl,c1⟩ := hk.out k hkl _ hb2
       by_cases h2 : (itAt l k).k = 2
       ·have hr2 : Hid (R = sk l (k + 1)) := hr.out.trans (sk_go hkl h2)
        rw [h2] at c1
        clear hr hres h2
        go_wp2_with fail
        go_roundw
        case rel => exact ⟨k + 1,by omega,by simp,by first | rfl | trivial,hr2⟩
        case measure => simp [intOf]; omega
       ·have e := hr.out.trans (sk_no (fun h => h2 h.2))
        subst e
        have q2 : ((itAt l R).k == 2) = false := by simpa using h2
        generalize (itAt l R).k = kx at *
        clear hr hres h2
        go_wp2_with fail
        go_ret2
        exact ⟨rfl,hb2⟩
 ·rw [if_neg h0]
  have h0' : (rfL l x l.length == 0) = false := by simpa using h0
  clear h0 hSh
  generalize rfL l x l.length = n at *
  go_enter Tryz.func97,Tryz.ntmps97
  go_wp2_with (go_at_call 96; refine hc.out.mono ?_; rintro e w' ⟨rfl,hb2⟩)
  go_ret2
  exact ⟨rfl,hb2⟩
end Go.Proofs.YtfndocmgonlhpaaGreatDoor

namespace Go.Proofs.YtfndocmgonlhpaaGreatDoor
open Go.RowKit Go.Shelf

def subL (l : List It) (f t : Nat) : List It := (l.drop f).take (t - f)
theorem sub_len {l : List It} {f t : Nat} (h : t ≤ l.length) : (subL l f t).length = t - f := by unfold subL; rw [List.length_take,List.length_drop]; omega
theorem sub_at {l : List It} {f t i : Nat} (_h : t ≤ l.length) (hi : f + i < t) : itAt (subL l f t) i = itAt l (f + i) := by
 unfold itAt subL
 rw [List.getD_eq_getElem?_getD,List.getD_eq_getElem?_getD,List.getElem?_take_of_lt (by omega),List.getElem?_drop]
theorem sub_its {W : World} {a : Option Addr} {n cap : Nat} {l : List It} (h : ItsAt W (.slice a n cap) l) {f t : Nat} (hft : f ≤ t) (ht : t ≤ l.length) {a' : Option Addr} (ha : ∀ b o,a = some ⟨b,o,none⟩ → f < t → a' = some ⟨b,o + f * 8,none⟩) :
  ItsAt W (.slice a' (t - f) (cap - f)) (subL l f t) := by
 have hle := h.le _ _ _ rfl
 obtain ⟨a0,cap0,h1,h2⟩ := h.ex
 cases h1
 refine ⟨⟨a',cap - f,by rw [sub_len ht],?_⟩,fun _ _ _ e => by cases e; omega⟩
 rcases h2 with h2 | ⟨b,o,rfl,hb,hc⟩
 ·left; subst h2; simp [subL]
 ·by_cases hlt : f < t
  ·refine .inr ⟨b,o + f * 8,ha b o rfl hlt,hb,fun i hi j u hu => ?_⟩
   rw [sub_len ht] at hi
   have e : (subL l f t)[i]'(by rw [sub_len ht]; exact hi) = l[f + i]'(by omega) := by
    rw [← itAt_is,sub_at ht (by omega),itAt_is]
   rw [e] at hu
   have := hc (f + i) (by omega) j u hu
   rw [← this]
   congr 2
   rw [Nat.add_mul]; omega
  ·left
   apply List.eq_nil_of_length_eq_zero
   rw [sub_len ht]; omega
end Go.Proofs.YtfndocmgonlhpaaGreatDoor

namespace Go.Proofs.YtfndocmgonlhpaaGreatDoor
open Go.RowKit Go.Shelf

structure Sl where
 x : Int
 w : Int
def slL (s : Sl) : List Value := [.int .i64 s.x,.int .i64 s.w]
def sl0 : Sl := ⟨0,0⟩
def okS (s : Sl) : Bool := decide ((0 ≤ s.x ∧ s.x ≤ 4095) ∧ 0 ≤ s.w ∧ s.w ≤ 4095)
def ckS (ss : List Sl) (r : Sl) : Int := if 256 < ss.length then 3 else if okS r = true ∧ ss.all okS = true then 0 else 2
def slN (ss : List Sl) (r : Sl) (n : Nat) : Sl := ss.getD n r
def slI (ss : List Sl) (r : Sl) (n : Int) : Sl := if n < 0 then sl0 else slN ss r n.toNat
abbrev SlsAt (W : World) (v : Value) (ss : List Sl) : Prop := RecAt 2 slL W v ss
theorem slI_nat (ss : List Sl) (r : Sl) (n : Nat) : slI ss r n = slN ss r n := by
 unfold slI
 rw [if_neg (by omega),Int.toNat_natCast]
theorem slN_in {ss : List Sl} {r : Sl} {n : Nat} (h : n < ss.length) : slN ss r n = ss[n] := by
 unfold slN; rw [List.getD_eq_getElem?_getD,List.getElem?_eq_getElem h]; rfl
theorem slN_out {ss : List Sl} {r : Sl} {n : Nat} (h : ss.length ≤ n) : slN ss r n = r := by
 unfold slN; rw [List.getD_eq_getElem?_getD,List.getElem?_eq_none h]; rfl
structure Pc where
 a : Nat
 b : Nat
 wd : Bool
 hy : Bool
 nt : Int
def pcL (p : Pc) : List Value := [.int .i64 p.a,.int .i64 p.b,.bool p.wd,.bool p.hy,.int .i64 p.nt]
abbrev PcsAt (W : World) (v : Value) (ps : List Pc) : Prop := RecAt 5 pcL W v ps
theorem sub_ck {l : List It} (h : ckL l = 0) {f t : Nat} (ht : t ≤ l.length) : ckL (subL l f t) = 0 := by
 have h8 := ck_len h
 refine ck_good (by rw [sub_len ht]; omega) fun k hk => ?_
 have : (subL l f t)[k] ∈ l := List.mem_of_mem_drop (List.mem_of_mem_take (List.getElem_mem hk))
 exact List.all_eq_true.1 (ck_all h) _ this
theorem sub_legal {l : List It} (h : ckL l = 0) {b : Nat} (h0 : 0 < b) (hb : b ≤ l.length) : lgB (subL l (b - 1) (min (b + 1) l.length)) 1 = enB l b := by
 have hm : min (b + 1) l.length ≤ l.length := Nat.min_le_right _ _
 have hc := sub_ck h (f := b - 1) hm
 have hl := sub_len (l := l) (f := b - 1) hm
 unfold lgB rfL
 rw [if_neg (by simpa using hc),if_pos (by rw [hl]; omega)]
 show (decide ((0 : Int) = 0) && enB _ 1) = _
 rw [decide_eq_true rfl,Bool.true_and]
 unfold enB
 rw [hl]
 by_cases hbl : b = l.length
 ·rw [decide_eq_true (.inl (by omega)),decide_eq_true (.inl hbl)]
 ·have e1 := sub_at (l := l) (f := b - 1) (t := min (b + 1) l.length) (i := 1) hm (by omega)
  have e0 := sub_at (l := l) (f := b - 1) (t := min (b + 1) l.length) (i := 0) hm (by omega)
  rw [show b - 1 + 1 = b by omega] at e1
  rw [show b - 1 + 0 = b - 1 by omega] at e0
  rw [e1]
  show decide (_ ∨ _ ∨ _ ∧ _ ∧ (itAt (subL l (b - 1) (min (b + 1) l.length)) 0).k ≠ 2) = _
  rw [e0]
  congr 1
  simp only [eq_iff_iff]
  constructor
  ·rintro (h1 | h1 | ⟨h1,_,h2⟩)
   ·omega
   ·exact .inr (.inl h1)
   ·exact .inr (.inr ⟨h1,h0,h2⟩)
  ·rintro (h1 | h1 | ⟨h1,_,h2⟩)
   ·exact absurd h1 hbl
   ·exact .inr (.inl h1)
   ·exact .inr (.inr ⟨h1,by omega,h2⟩)
end Go.Proofs.YtfndocmgonlhpaaGreatDoor
