/-
  What is proved here: lists of items: which may be, where lines end and begin, how wide they are (no program is named), and their cells in memory.
  What is proved here: what Check, refuse and Legal of item answer of any list.
  What is proved here: what Legal of item answers of any list.
  What is proved here: what Start, shown, Give and Leaps of item answer of any list.
  What is proved here: what shown, Give, Width and Leaps of item answer of any list.
-/
import Derived.Test.YtlgcnbomfhmjiaaGreatDoorS2
namespace Go.Proofs.YtlgcnbomfhmjiaaGreatDoor
open Go.RowKit Go.Shelf

def it0 : It := ⟨0,0,0,0,0,0,0,false⟩
def itAt (l : List It) (i : Nat) : It := l.getD i it0
theorem itAt_is {l : List It} {i : Nat} (h : i < l.length) : itAt l i = l[i] := by unfold itAt; rw [List.getD_eq_getElem?_getD,List.getElem?_eq_getElem h]; rfl
def ckL (l : List It) : Int := if 8192 < l.length then 3 else if l.all okI = true then 0 else 2
def rfL (l : List It) (a b : Int) : Int := if ckL l ≠ 0 then ckL l else if 0 ≤ a ∧ a ≤ b ∧ b ≤ l.length then 0 else 5
theorem ck_len {l : List It} (h : ckL l = 0) : l.length ≤ 8192 := by
 unfold ckL at h
 split at h
 ·cases h
 ·omega
theorem ck_all {l : List It} (h : ckL l = 0) : l.all okI = true := by
 unfold ckL at h
 split at h
 ·cases h
 ·split at h
  ·assumption
  ·cases h
theorem ck_at {l : List It} (h : ckL l = 0) {i : Nat} (hi : i < l.length) : okP l[i] := of_decide_eq_true (List.all_eq_true.1 (ck_all h) _ (List.getElem_mem hi))
theorem rf_ok {l : List It} {a b : Int} (h : rfL l a b = 0) : ckL l = 0 ∧ 0 ≤ a ∧ a ≤ b ∧ b ≤ l.length := by
 unfold rfL at h
 split at h
 ·rename_i h'; exact absurd h h'
 ·split at h
  ·exact ⟨by rename_i h' _; exact Decidable.not_not.1 h',by assumption⟩
  ·cases h
def enB (l : List It) (i : Nat) : Bool := decide (i = l.length ∨ (itAt l i).k = 3 ∨ ((itAt l i).k = 2 ∧ 0 < i ∧ (itAt l (i - 1)).k ≠ 2))
def lgB (l : List It) (i : Int) : Bool := decide (rfL l i l.length = 0) && enB l i.toNat
def skG (l : List It) : Nat → Nat → Nat
 | 0,i => i
 | n + 1,i => if i < l.length ∧ (itAt l i).k = 2 then skG l n (i + 1) else i
def bgN (l : List It) (i : Nat) : Nat := skG l (l.length + 1) (if i < l.length ∧ (itAt l i).k = 3 then i + 1 else i)
theorem skG_go {l : List It} {n i : Nat} (h : i < l.length ∧ (itAt l i).k = 2) : skG l (n + 1) i = skG l n (i + 1) := if_pos h
theorem skG_no {l : List It} {n i : Nat} (h : ¬ (i < l.length ∧ (itAt l i).k = 2)) : skG l n i = i := by
 cases n
 ·rfl
 ·exact if_neg h
def stE (l : List It) (i : Int) : Int := rfL l i l.length
def stV (l : List It) (i : Int) : Int := if rfL l i l.length = 0 then (bgN l i.toNat : Int) else 0
def shN (l : List It) (a : Nat) : Nat → Nat
 | 0 => 0
 | n + 1 => if (itAt l (a + n)).k = 2 then shN l a n else n + 1
theorem shN_le (l : List It) (a : Nat) : ∀ n,shN l a n ≤ n
 | 0 => Nat.le_refl _
 | n + 1 => by
  unfold shN
  split
  ·have := shN_le l a n; omega
  ·omega
def goI (p : Int) (x : It) : Int := if x.k = 1 ∨ x.k = 2 then p + x.w else if x.k = 4 then stI p else p
def atN (l : List It) (a : Nat) (x : Int) : Nat → Int
 | 0 => x
 | k + 1 => goI (atN l a x k) (itAt l (a + k))
def pnI (l : List It) (b : Nat) : Int := if b < l.length ∧ (itAt l b).k = 3 then (itAt l b).w else 0
def ntV (l : List It) (a b : Nat) (x : Int) : Int := atN l a x (shN l a (b - a)) + pnI l b - x
def wiE (l : List It) (a b x : Int) : Int := if rfL l a b ≠ 0 then rfL l a b else if 0 ≤ x ∧ x ≤ 4095 then 0 else 5
def wiV (l : List It) (a b x : Int) : Int := if wiE l a b x = 0 then ntV l a.toNat b.toNat x else 0
theorem go_rng {x : It} (h : okP x) {p : Int} (_hp : 0 ≤ p) : p ≤ goI p x ∧ goI p x ≤ p + 524288 := by
 unfold okP at h
 unfold goI stI
 split
 ·omega
 ·split
  ·omega
  ·omega
theorem at_rng {l : List It} (h : ckL l = 0) {a : Nat} {x : Int} (hx : 0 ≤ x) : ∀ k,a + k ≤ l.length → x ≤ atN l a x k ∧ atN l a x k ≤ x + 524288 * (k : Int)
 | 0,_ => by simp [atN]
 | k + 1,hk => by
  have ih := at_rng h (a := a) hx k (by omega)
  have hi : a + k < l.length := by omega
  have := go_rng (ck_at h hi) (p := atN l a x k) (by omega)
  have e : atN l a x (k + 1) = goI (atN l a x k) l[a + k] := by show goI _ (itAt l (a + k)) = _; rw [itAt_is hi]
  rw [e]; omega
theorem pn_rng {l : List It} (h : ckL l = 0) (b : Nat) : 0 ≤ pnI l b ∧ pnI l b ≤ 524288 := by
 unfold pnI
 split
 ·rename_i h'
  rw [itAt_is h'.1]
  have := ck_at h h'.1
  unfold okP at this
  omega
 ·omega

abbrev ItsAt (W : World) (v : Value) (l : List It) : Prop := RecAt 8 itL W v l
theorem its_at {W : World} {a : Option Addr} {n cap : Nat} {l : List It} (h : ItsAt W (.slice a n cap) l) {i : Nat} (hi : i < l.length) :
  ∃ b o,a = some ⟨b,o,none⟩ ∧ b < W.heap.size ∧ ∀ W',Below W.heap.size W W' → ItAt W b (o + i * 8) l[i] W' := by
 obtain ⟨a',cap',h1,h2⟩ := h.ex
 cases h1
 rcases h2 with h2 | ⟨b,o,rfl,hb,hc⟩
 ·subst h2; simp at hi
 ·refine ⟨b,o,rfl,hb,fun W' hW => ⟨hW,?_,?_,?_,?_,?_,?_,?_,?_⟩⟩
  ·exact (hW.cell hb).trans (hc i hi 0 _ rfl)
  ·exact (hW.cell hb).trans (hc i hi 1 _ rfl)
  ·exact (hW.cell hb).trans (hc i hi 2 _ rfl)
  ·exact (hW.cell hb).trans (hc i hi 3 _ rfl)
  ·exact (hW.cell hb).trans (hc i hi 4 _ rfl)
  ·exact (hW.cell hb).trans (hc i hi 5 _ rfl)
  ·exact (hW.cell hb).trans (hc i hi 6 _ rfl)
  ·exact (hW.cell hb).trans (hc i hi 7 _ rfl)
theorem ItAt.all {z : World} {b o : Nat} {x : It} {W : World} (h : ItAt z b o x W) : ∀ (j : Nat) (u : Value),(itL x)[j]? = some u → W.cell? ⟨b,o + j,none⟩ = some u := fun j u hu => by
 have hj : j < 8 := (List.getElem?_eq_some_iff.1 hu).1
 have hj' : j = 0 ∨ j = 1 ∨ j = 2 ∨ j = 3 ∨ j = 4 ∨ j = 5 ∨ j = 6 ∨ j = 7 := by omega
 rcases hj' with rfl | rfl | rfl | rfl | rfl | rfl | rfl | rfl <;> (simp [itL] at hu; subst hu)
 ·exact h.c0
 ·exact h.c1
 ·exact h.c2
 ·exact h.c3
 ·exact h.c4
 ·exact h.c5
 ·exact h.c6
 ·exact h.c7
theorem ck_bad {l : List It} (h8 : l.length ≤ 8192) {k : Nat} (hk : k < l.length) (h : okI l[k] = false) : ckL l = 2 := by
 unfold ckL
 rw [if_neg (by omega),if_neg]
 intro h'
 have := List.all_eq_true.1 h' _ (List.getElem_mem hk)
 rw [h] at this; cases this
theorem ck_good {l : List It} (h8 : l.length ≤ 8192) (h : ∀ k (hk : k < l.length),okI l[k] = true) : ckL l = 0 := by
 unfold ckL
 rw [if_neg (by omega),if_pos]
 exact List.all_eq_true.2 fun b hb => by
  obtain ⟨k,hk,rfl⟩ := List.getElem_of_mem hb
  exact h k hk
theorem ck_long {l : List It} (h : 8192 < l.length) : ckL l = 3 := if_pos h
end Go.Proofs.YtlgcnbomfhmjiaaGreatDoor

namespace Go.Proofs.YtlgcnbomfhmjiaaGreatDoor
open Go.RowKit Go.Shelf
set_option maxRecDepth 100000
set_option maxHeartbeats 2000000

theorem icheck_any (v : Value) (l : List It) (w : World) (hS : ItsAt w v l) :
  Calls Tryz.prog 144 #[v] w fun e w' => e = .returned (.int .i64 (ckL l)) ∧ Below w.heap.size w w' := by
 obtain ⟨a,cap,rfl,-⟩ := hS.ex
 by_cases h16 : 8192 < l.length
 ·rw [ck_long h16]
  have h16' : (8192 : Int) < l.length := by omega
  clear hS
  go_enter Tryz.func144,Tryz.ntmps144
  go_wp2
  go_ret
  exact ⟨rfl,Below.refl _ _⟩
 have hY : Hid (∀ k (hk : k < l.length),okI l[k] = false → ckL l = 2) := fun k hk e => ck_bad (by omega) hk e
 have hN : Hid ((∀ k (hk : k < l.length),okI l[k] = true) → ckL l = 0) := fun h => ck_good (by omega) h
 have h16' : ¬ (8192 : Int) < l.length := by omega
 have hSh : Hid (ItsAt w (.slice a l.length cap) l) := hS
 clear hS
 generalize ckL l = r at hY hN ⊢
 go_enter Tryz.func144,Tryz.ntmps144
 go_wp2_with fail
 go_loopw [9] (fun i wr => ∃ (k : Nat),k ≤ l.length ∧ i = .int .i64 k ∧ Below w.heap.size w wr ∧ Hid (∀ j (hj : j < l.length),j < k → okI l[j] = true)) (fun i _ => l.length - (intOf i).toNat)
 case atStart => exact ⟨0,by omega,rfl,Below.refl _ _,fun j _ hj => by omega⟩
 case round =>
  obtain ⟨k,hk,rfl,hb,hall⟩ := hrel
  by_cases hlt : k < l.length
  ·obtain ⟨b,o,rfl,hbl,hit⟩ := its_at hSh.out hlt
   have hm : Hid (Calls Tryz.prog 205 #[.pointer (some ⟨b,o + k * 8,none⟩)] wr fun e w' => e = .returned (.bool (okI l[k])) ∧ Below wr.heap.size wr w') := mayBe_any l[k] b (o + k * 8) wr (hit wr hb).all
   have hlt' : (k : Int) < l.length := by omega
   cases hv : okI l[k] with
   | false =>
    have hn := hY.out k hlt hv
    subst hn
    rw [hv] at hm
    clear hY hN hall hit hv hSh
    go_wp2_with (go_at_call 205; refine hm.out.mono ?_; rintro e w' ⟨rfl,hb2⟩)
    go_ret
    exact ⟨rfl,hb.trans (hb2.mono hb.size)⟩
   | true =>
    have hy : Hid (∀ j (hj : j < l.length),j < k + 1 → okI l[j] = true) := fun j hj hjk => by
     by_cases h : j < k
     ·exact hall.out j hj h
     ·obtain rfl : j = k := by omega
      exact hv
    rw [hv] at hm
    clear hY hN hall hit hv hSh
    go_wp2_with (go_at_call 205; refine hm.out.mono ?_; rintro e w' ⟨rfl,hb2⟩)
    go_roundw
    case rel => exact ⟨k + 1,by omega,by simp,hb.trans (hb2.mono hb.size),hy⟩
    case measure => simp [intOf]; omega
  ·have hn := hN.out (fun j hj => hall.out j hj (by omega))
   have hge : ¬ (k : Int) < l.length := by omega
   clear hY hN hall hSh
   subst hn
   go_wp2_with fail
   go_ret
   exact ⟨rfl,hb⟩

theorem irefuse_any (v : Value) (l : List It) (x y : Int) (w : World) (hS : ItsAt w v l) :
  Calls Tryz.prog 90 #[v,.int .i64 x,.int .i64 y] w fun e w' => e = .returned (.int .i64 (rfL l x y)) ∧ Below w.heap.size w w' := by
 have hc : Hid (Calls Tryz.prog 144 #[v] w fun e w' => e = .returned (.int .i64 (ckL l)) ∧ Below w.heap.size w w') := icheck_any v l w hS
 obtain ⟨a,cap,rfl,-⟩ := hS.ex
 clear hS
 unfold rfL
 by_cases h0 : ckL l = 0
 ·rw [if_neg (by simpa using h0)]
  rw [h0] at hc
  clear h0
  by_cases h1 : 0 ≤ x
  ·by_cases h2 : x ≤ y
   ·by_cases h3 : y ≤ l.length
    ·rw [if_pos ⟨h1,h2,h3⟩]
     go_enter Tryz.func90,Tryz.ntmps90
     go_wp2_with (go_at_call 144; refine hc.out.mono ?_; rintro e w' ⟨rfl,hb2⟩)
     go_ret
     exact ⟨rfl,hb2⟩
    ·rw [if_neg (by omega)]
     go_enter Tryz.func90,Tryz.ntmps90
     go_wp2_with (go_at_call 144; refine hc.out.mono ?_; rintro e w' ⟨rfl,hb2⟩)
     go_ret
     exact ⟨rfl,hb2⟩
   ·rw [if_neg (by omega)]
    go_enter Tryz.func90,Tryz.ntmps90
    go_wp2_with (go_at_call 144; refine hc.out.mono ?_; rintro e w' ⟨rfl,hb2⟩)
    go_ret
    exact ⟨rfl,hb2⟩
  ·rw [if_neg (by omega)]
   go_enter Tryz.func90,Tryz.ntmps90
   go_wp2_with (go_at_call 144; refine hc.out.mono ?_; rintro e w' ⟨rfl,hb2⟩)
   go_ret
   exact ⟨rfl,hb2⟩
 ·rw [if_pos h0]
  have h0' : (ckL l == 0) = false := by simpa using h0
  clear h0
  generalize ckL l = n at *
  go_enter Tryz.func90,Tryz.ntmps90
  go_wp2_with (go_at_call 144; refine hc.out.mono ?_; rintro e w' ⟨rfl,hb2⟩)
  go_ret
  exact ⟨rfl,hb2⟩
end Go.Proofs.YtlgcnbomfhmjiaaGreatDoor

namespace Go.Proofs.YtlgcnbomfhmjiaaGreatDoor
open Go.RowKit Go.Shelf
set_option maxRecDepth 100000
set_option maxHeartbeats 2000000

theorem its_kind {W W' : World} {a : Option Addr} {n cap : Nat} {l : List It} (h : ItsAt W (.slice a n cap) l) {i : Nat} (hi : i < l.length) (hW : Below W.heap.size W W') :
  ∃ b o,a = some ⟨b,o,none⟩ ∧ b < W.heap.size ∧ W'.cell? ⟨b,o + i * 8,none⟩ = some (.int .i64 (itAt l i).k) := by
 obtain ⟨b,o,rfl,hb,hit⟩ := its_at h hi
 exact ⟨b,o,rfl,hb,by rw [itAt_is hi]; exact (hit W' hW).c0⟩

theorem legal_any (v : Value) (l : List It) (x : Int) (w : World) (hS : ItsAt w v l) :
  Calls Tryz.prog 243 #[v,.int .i64 x] w fun e w' => e = .returned (.bool (lgB l x)) ∧ Below w.heap.size w w' := by
 have hc : Hid (Calls Tryz.prog 90 #[v,.int .i64 x,.int .i64 l.length] w fun e w' => e = .returned (.int .i64 (rfL l x l.length)) ∧ Below w.heap.size w w') := irefuse_any v l x l.length w hS
 obtain ⟨a,cap,rfl,-⟩ := hS.ex
 have hSh : Hid (ItsAt w (.slice a l.length cap) l) := hS
 clear hS
 unfold lgB
 by_cases h0 : rfL l x l.length = 0
 ·obtain ⟨h1,h2,h3,-⟩ := rf_ok h0
  rw [decide_eq_true h0,Bool.true_and]
  rw [h0] at hc
  obtain ⟨i,rfl⟩ : ∃ i : Nat,x = i := ⟨x.toNat,by omega⟩
  rw [Int.toNat_natCast]
  have h8 : (i : Int) ≤ 8192 := by have := ck_len h1; omega
  clear h0 h1 h2
  unfold enB
  by_cases hi : i = l.length
  ·rw [decide_eq_true (.inl hi)]
   have hi' : ((i : Int) == (l.length : Int)) = true := by rw [beq_iff_eq]; omega
   clear hi
   go_enter Tryz.func243,Tryz.ntmps243
   go_wp2_with (go_at_call 90; refine hc.out.mono ?_; rintro e w' ⟨rfl,hb2⟩)
   go_ret
   exact ⟨rfl,hb2⟩
  ·have hlt : i < l.length := by omega
   have hlt' : (i : Int) < l.length := by omega
   have hi' : ((i : Int) == (l.length : Int)) = false := by rw [beq_eq_false_iff_ne]; omega
   have hk : Hid (∀ W',Below w.heap.size w W' → ∃ b o,a = some ⟨b,o,none⟩ ∧ W'.cell? ⟨b,o + i * 8,none⟩ = some (.int .i64 (itAt l i).k)) := fun W' hW => by
    obtain ⟨b,o,e,_,h⟩ := its_kind hSh.out hlt hW
    exact ⟨b,o,e,h⟩
   have hk1 : Hid (0 < i → ∀ W',Below w.heap.size w W' → ∃ b o,a = some ⟨b,o,none⟩ ∧ W'.cell? ⟨b,o + (i - 1) * 8,none⟩ = some (.int .i64 (itAt l (i - 1)).k)) := fun _ W' hW => by
    obtain ⟨b,o,e,_,h⟩ := its_kind hSh.out (i := i - 1) (by omega) hW
    exact ⟨b,o,e,h⟩
   clear hSh
   generalize (itAt l i).k = kx at *
   generalize (itAt l (i - 1)).k = ky at *
   by_cases h3 : kx = 3
   ·rw [decide_eq_true (.inr (.inl h3))]
    subst h3
    clear hk1
    go_enter Tryz.func243,Tryz.ntmps243
    go_wp2_with (go_at_call 90; refine hc.out.mono ?_; rintro e w' ⟨rfl,hb2⟩; obtain ⟨bb,oo,rfl,c0⟩ := hk.out _ hb2)
    go_ret
    exact ⟨rfl,hb2⟩
   ·have q3 : (kx == 3) = false := by simpa using h3
    by_cases h2 : kx = 2
    ·subst h2
     by_cases hz : i = 0
     ·rw [decide_eq_false (by omega)]
      have hz' : ¬ (0 : Int) < (i : Int) := by omega
      clear hk1 hz h3
      go_enter Tryz.func243,Tryz.ntmps243
      go_wp2_with (go_at_call 90; refine hc.out.mono ?_; rintro e w' ⟨rfl,hb2⟩; obtain ⟨bb,oo,rfl,c0⟩ := hk.out _ hb2)
      go_ret
      exact ⟨rfl,hb2⟩
     ·have hz' : (0 : Int) < (i : Int) := by omega
      have h1i : (1 : Int) ≤ (i : Int) := by omega
      have hjl : (i : Int) - 1 < l.length := by omega
      have hk2 : Hid (∀ W',Below w.heap.size w W' → ∃ b o,a = some ⟨b,o,none⟩ ∧ W'.cell? ⟨b,o + (i - 1) * 8,none⟩ = some (.int .i64 ky)) := hk1.out (by omega)
      clear hk1
      by_cases hy : ky = 2
      ·rw [decide_eq_false (by omega)]
       subst hy
       clear hz h3
       go_enter Tryz.func243,Tryz.ntmps243
       go_wp2_with (go_at_call 90; refine hc.out.mono ?_; rintro e w' ⟨rfl,hb2⟩; obtain ⟨bb,oo,rfl,c0⟩ := hk.out _ hb2; obtain ⟨bb2,oo2,e2,c1⟩ := hk2.out _ hb2; cases e2)
       go_ret
       exact ⟨rfl,hb2⟩
      ·rw [decide_eq_true (by omega)]
       have qy : (ky == 2) = false := by simpa using hy
       clear hz h3 hy
       go_enter Tryz.func243,Tryz.ntmps243
       go_wp2_with (go_at_call 90; refine hc.out.mono ?_; rintro e w' ⟨rfl,hb2⟩; obtain ⟨bb,oo,rfl,c0⟩ := hk.out _ hb2; obtain ⟨bb2,oo2,e2,c1⟩ := hk2.out _ hb2; cases e2)
       go_ret
       exact ⟨by show Ending.returned (Value.bool (ky != 2)) = _; simp only [bne,qy,Bool.not_false],hb2⟩
    ·rw [decide_eq_false (by omega)]
     have q2 : (kx == 2) = false := by simpa using h2
     clear hk1 h2 h3
     go_enter Tryz.func243,Tryz.ntmps243
     go_wp2_with (go_at_call 90; refine hc.out.mono ?_; rintro e w' ⟨rfl,hb2⟩; obtain ⟨bb,oo,rfl,c0⟩ := hk.out _ hb2)
     go_ret
     exact ⟨rfl,hb2⟩
 ·rw [decide_eq_false h0,Bool.false_and]
  have h0' : (rfL l x l.length == 0) = false := by simpa using h0
  clear h0 hSh
  generalize rfL l x l.length = n at *
  go_enter Tryz.func243,Tryz.ntmps243
  go_wp2_with (go_at_call 90; refine hc.out.mono ?_; rintro e w' ⟨rfl,hb2⟩)
  go_ret
  exact ⟨rfl,hb2⟩
end Go.Proofs.YtlgcnbomfhmjiaaGreatDoor

namespace Go.Proofs.YtlgcnbomfhmjiaaGreatDoor
open Go.RowKit Go.Shelf
set_option maxRecDepth 100000
set_option maxHeartbeats 2000000

theorem skG_enough {l : List It} : ∀ (n m i : Nat),l.length < i + n → l.length < i + m → skG l n i = skG l m i
 | 0,m,i,h,_ => by
  rw [skG_no (n := m) (by omega)]; rfl
 | n + 1, m, i, h, h' => by
  by_cases hc : i < l.length ∧ (itAt l i).k = 2
  ·obtain ⟨m',rfl⟩ : ∃ m',m = m' + 1 := ⟨m - 1,by omega⟩
   rw [skG_go hc,skG_go hc]
   exact skG_enough n m' (i + 1) (by omega) (by omega)
  ·rw [skG_no hc,skG_no hc]
def sk (l : List It) (i : Nat) : Nat := skG l (l.length + 1) i
theorem sk_go {l : List It} {i : Nat} (h : i < l.length) (hk : (itAt l i).k = 2) : sk l i = sk l (i + 1) := by
 unfold sk
 rw [skG_go ⟨h,hk⟩]
 exact skG_enough _ _ _ (by omega) (by omega)
theorem sk_no {l : List It} {i : Nat} (h : ¬ (i < l.length ∧ (itAt l i).k = 2)) : sk l i = i := skG_no h

theorem start_any (v : Value) (l : List It) (x : Int) (w : World) (hS : ItsAt w v l) :
  Calls Tryz.prog 258 #[v,.int .i64 x] w fun e w' => e = .returned (.tuple #[.int .i64 (stV l x),.int .i64 (stE l x)]) ∧ Below w.heap.size w w' := by
 have hc : Hid (Calls Tryz.prog 90 #[v,.int .i64 x,.int .i64 l.length] w fun e w' => e = .returned (.int .i64 (rfL l x l.length)) ∧ Below w.heap.size w w') := irefuse_any v l x l.length w hS
 obtain ⟨a,cap,rfl,-⟩ := hS.ex
 have hSh : Hid (ItsAt w (.slice a l.length cap) l) := hS
 clear hS
 unfold stV stE
 by_cases h0 : rfL l x l.length = 0
 ·obtain ⟨h1,h2,h3,-⟩ := rf_ok h0
  rw [if_pos h0,h0]
  rw [h0] at hc
  obtain ⟨i,rfl⟩ : ∃ i : Nat,x = i := ⟨x.toNat,by omega⟩
  rw [Int.toNat_natCast]
  have h8 : (l.length : Int) ≤ 8192 := by have := ck_len h1; omega
  clear h0 h1 h2
  have hk : Hid (∀ i,i < l.length → ∀ W',Below w.heap.size w W' → ∃ b o,a = some ⟨b,o,none⟩ ∧ W'.cell? ⟨b,o + i * 8,none⟩ = some (.int .i64 (itAt l i).k)) := fun i hlt W' hW => by
   obtain ⟨b,o,e,_,h⟩ := its_kind hSh.out hlt hW
   exact ⟨b,o,e,h⟩
  clear hSh
  by_cases hp : i < l.length ∧ (itAt l i).k = 3
  ·have hres : Hid (bgN l i = sk l (i + 1)) := by show bgN l i = sk l (i + 1); unfold bgN sk; rw [if_pos hp]
   obtain ⟨hlt,hk3⟩ := hp
   have hlt' : (i : Int) < l.length := by omega
   have hi0 : Hid (∀ W',Below w.heap.size w W' → ∃ b o,a = some ⟨b,o,none⟩ ∧ W'.cell? ⟨b,o + i * 8,none⟩ = some (.int .i64 3)) := fun W' hW => by
    obtain ⟨b,o,e,h⟩ := hk.out i hlt W' hW
    rw [hk3] at h; exact ⟨b,o,e,h⟩
   clear hk3
   generalize bgN l i = R at *
   go_enter Tryz.func258,Tryz.ntmps258
   go_wp2_with (go_at_call 90; refine hc.out.mono ?_; rintro e w' ⟨rfl,hb2⟩; obtain ⟨bb,oo,rfl,c0⟩ := hi0.out _ hb2)
   clear hi0 hc c0
   go_loopw [1] (fun p wr => ∃ k : Nat,k ≤ l.length ∧ p = .int .i64 k ∧ wr = w' ∧ Hid (R = sk l k)) (fun p _ => l.length - (intOf p).toNat)
   case atStart => exact ⟨i + 1,by omega,by simp,rfl,hres⟩
   case round =>
    obtain ⟨k,hk1,rfl,rfl,hr⟩ := hrel
    by_cases hkl : k < l.length
    ·have hkl' : (k : Int) < l.length := by omega
     obtain ⟨b2,o2,e2,c1⟩ := hk.out k hkl _ hb2
     cases e2
     by_cases h2 : (itAt l k).k = 2
     ·have hr2 : Hid (R = sk l (k + 1)) := hr.out.trans (sk_go hkl h2)
      rw [h2] at c1
      clear hr hres h2
      go_wp2_with fail
      go_roundw
      case rel => exact ⟨k + 1,by omega,by simp,by first | rfl | trivial,hr2⟩
      case measure => simp [intOf]; omega
     ·have e := hr.out.trans (sk_no (fun h => h2 h.2))
      subst e
      have q2 : ((itAt l R).k == 2) = false := by simpa using h2
      generalize (itAt l R).k = kx at *
      clear hr hres h2
      go_wp2_with fail
      go_ret2
      exact ⟨rfl,hb2⟩
    ·have e := hr.out.trans (sk_no (fun h => hkl h.1))
     subst e
     have hkl' : ¬ (R : Int) < l.length := by omega
     clear hr hres
     go_wp2_with fail
     go_ret2
     exact ⟨rfl,hb2⟩
  ·have hres : Hid (bgN l i = sk l i) := by show bgN l i = sk l i; unfold bgN sk; rw [if_neg hp]
   have hi0 : Hid (¬ i < l.length ∨ ∀ W',Below w.heap.size w W' → ∃ b o kx,a = some ⟨b,o,none⟩ ∧ W'.cell? ⟨b,o + i * 8,none⟩ = some (.int .i64 kx) ∧ (kx == 3) = false) := by
    by_cases hlt : i < l.length
    ·refine .inr fun W' hW => ?_
     obtain ⟨b,o,e,h⟩ := hk.out i hlt W' hW
     exact ⟨b,o,_,e,h,by rw [beq_eq_false_iff_ne]; exact fun h3 => hp ⟨hlt,h3⟩⟩
    ·exact .inl hlt
   clear hp
   generalize bgN l i = R at *
   have go : Hid (∀ w',Below w.heap.size w w' → ∀ k : Nat,k ≤ l.length → R = sk l k → True) := fun _ _ _ _ _ => trivial
   clear go
   rcases hi0.out with hlt | hi1
   ·have hlt' : ¬ (i : Int) < l.length := by omega
    clear hi0
    go_enter Tryz.func258,Tryz.ntmps258
    go_wp2_with (go_at_call 90; refine hc.out.mono ?_; rintro e w' ⟨rfl,hb2⟩)
    go_loopw [1] (fun p wr => ∃ k : Nat,k ≤ l.length ∧ p = .int .i64 k ∧ wr = w' ∧ Hid (R = sk l k)) (fun p _ => l.length - (intOf p).toNat)
    case atStart => exact ⟨i,by omega,rfl,rfl,hres⟩
    case round =>
     obtain ⟨k,hk1,rfl,rfl,hr⟩ := hrel
     by_cases hkl : k < l.length
     ·have hkl' : (k : Int) < l.length := by omega
      obtain ⟨b2,o2,rfl,c1⟩ := hk.out k hkl _ hb2
      by_cases h2 : (itAt l k).k = 2
      ·have hr2 : Hid (R = sk l (k + 1)) := hr.out.trans (sk_go hkl h2)
       rw [h2] at c1
       clear hr hres h2
       go_wp2_with fail
       go_roundw
       case rel => exact ⟨k + 1,by omega,by simp,by first | rfl | trivial,hr2⟩
       case measure => simp [intOf]; omega
      ·have e := hr.out.trans (sk_no (fun h => h2 h.2))
       subst e
       have q2 : ((itAt l R).k == 2) = false := by simpa using h2
       generalize (itAt l R).k = kx at *
       clear hr hres h2
       go_wp2_with fail
       go_ret2
       exact ⟨rfl,hb2⟩
     ·have e := hr.out.trans (sk_no (fun h => hkl h.1))
      subst e
      have hkl' : ¬ (R : Int) < l.length := by omega
      clear hr hres
      go_wp2_with fail
      go_ret2
      exact ⟨rfl,hb2⟩
   ·have hi2 : Hid (∀ W',Below w.heap.size w W' → ∃ b o kx,a = some ⟨b,o,none⟩ ∧ W'.cell? ⟨b,o + i * 8,none⟩ = some (.int .i64 kx) ∧ (kx == 3) = false) := hi1
    clear hi0 hi1
    by_cases hlt : i < l.length
    ·have hlt' : (i : Int) < l.length := by omega
     go_enter Tryz.func258,Tryz.ntmps258
     go_wp2_with (go_at_call 90; refine hc.out.mono ?_; rintro e w' ⟨rfl,hb2⟩; obtain ⟨bb,oo,kx0,rfl,c0,hq0⟩ := hi2.out _ hb2)
     clear c0 hq0 hi2 hc
     go_loopw [1] (fun p wr => ∃ k : Nat,k ≤ l.length ∧ p = .int .i64 k ∧ wr = w' ∧ Hid (R = sk l k)) (fun p _ => l.length - (intOf p).toNat)
     case atStart => exact ⟨i,by omega,rfl,rfl,hres⟩
     case round =>
      obtain ⟨k,hk1,rfl,rfl,hr⟩ := hrel
      by_cases hkl : k < l.length
      ·have hkl' : (k : Int) < l.length := by omega
       obtain ⟨b2,o2,e2,c1⟩ := hk.out k hkl _ hb2
       cases e2
       by_cases h2 : (itAt l k).k = 2
       ·have hr2 : Hid (R = sk l (k + 1)) := hr.out.trans (sk_go hkl h2)
        rw [h2] at c1
        clear hr hres h2
        go_wp2_with fail
        go_roundw
        case rel => exact ⟨k + 1,by omega,by simp,by first | rfl | trivial,hr2⟩
        case measure => simp [intOf]; omega
       ·have e := hr.out.trans (sk_no (fun h => h2 h.2))
        subst e
        have q2 : ((itAt l R).k == 2) = false := by simpa using h2
        generalize (itAt l R).k = kx at *
        clear hr hres h2
        go_wp2_with fail
        go_ret2
        exact ⟨rfl,hb2⟩
      ·have e := hr.out.trans (sk_no (fun h => hkl h.1))
       subst e
       have hkl' : ¬ (R : Int) < l.length := by omega
       clear hr hres
       go_wp2_with fail
       go_ret2
       exact ⟨rfl,hb2⟩
    ·have hlt' : ¬ (i : Int) < l.length := by omega
     clear hi2
     go_enter Tryz.func258,Tryz.ntmps258
     go_wp2_with (go_at_call 90; refine hc.out.mono ?_; rintro e w' ⟨rfl,hb2⟩)
     go_loopw [1] (fun p wr => ∃ k : Nat,k ≤ l.length ∧ p = .int .i64 k ∧ wr = w' ∧ Hid (R = sk l k)) (fun p _ => l.length - (intOf p).toNat)
     case atStart => exact ⟨i,by omega,rfl,rfl,hres⟩
     case round =>
      obtain ⟨k,hk1,rfl,rfl,hr⟩ := hrel
      have hkl : ¬ k < l.length ∨ k < l.length := by omega
      rcases hkl with hkl | hkl
      ·have e := hr.out.trans (sk_no (fun h => hkl h.1))
       subst e
       have hkl' : ¬ (R : Int) < l.length := by omega
       clear hr hres
       go_wp2_with fail
       go_ret2
       exact ⟨rfl,hb2⟩
      ·have hkl' : (k : Int) < l.length := by omega
       obtain ⟨b2,o2,rfl,c1⟩ := hk.out k hkl _ hb2
       by_cases h2 : (itAt l k).k = 2
       ·have hr2 : Hid (R = sk l (k + 1)) := hr.out.trans (sk_go hkl h2)
        rw [h2] at c1
        clear hr hres h2
        go_wp2_with fail
        go_roundw
        case rel => exact ⟨k + 1,by omega,by simp,by first | rfl | trivial,hr2⟩
        case measure => simp [intOf]; omega
       ·have e := hr.out.trans (sk_no (fun h => h2 h.2))
        subst e
        have q2 : ((itAt l R).k == 2) = false := by simpa using h2
        generalize (itAt l R).k = kx at *
        clear hr hres h2
        go_wp2_with fail
        go_ret2
        exact ⟨rfl,hb2⟩
 ·rw [if_neg h0]
  have h0' : (rfL l x l.length == 0) = false := by simpa using h0
  clear h0 hSh
  generalize rfL l x l.length = n at *
  go_enter Tryz.func258,Tryz.ntmps258
  go_wp2_with (go_at_call 90; refine hc.out.mono ?_; rintro e w' ⟨rfl,hb2⟩)
  go_ret2
  exact ⟨rfl,hb2⟩
end Go.Proofs.YtlgcnbomfhmjiaaGreatDoor

namespace Go.Proofs.YtlgcnbomfhmjiaaGreatDoor
open Go.RowKit Go.Shelf
set_option maxRecDepth 100000
set_option maxHeartbeats 2000000

theorem slice29 (a : Option Addr) (n cap f t : Nat) (W : World) (h1 : f ≤ t) (h2 : t ≤ cap) : ∃ a',(Instr.slice 68 (.slice a n cap) (some (.int .i64 (f : Int))) (some (.int .i64 (t : Int))) none).run Tryz.prog W = .ok (.slice a' (t - f) (cap - f)) W ∧ (∀ b o,a = some ⟨b,o,none⟩ → f < t → a' = some ⟨b,o + f * 8,none⟩) := by
 have he : Tryz.prog.elem 68 = 91 := by kernel_rfl
 have hu : Tryz.prog.underlying 68 = some (.slice (Tryz.prog.elem 68)) := by rw [he]; exact Tryz.underlying68
 have hr := run_slice_lh (P := Tryz.prog) (w := W) 68 a n cap hu .i64 .i64 f t (by omega) (by omega) (by omega)
 have hs : (sizeOf (Tryz.prog.elem 68)).run Tryz.prog W = .ok 8 W := by kernel_rfl
 rw [hs] at hr
 simp only [Result.andThen,sliced,Int.toNat_natCast] at hr
 refine ⟨_,hr,fun b o e hlt => ?_⟩
 rw [if_neg (by omega),e]
 simp [addr_add]
def subL (l : List It) (f t : Nat) : List It := (l.drop f).take (t - f)
theorem sub_len {l : List It} {f t : Nat} (h : t ≤ l.length) : (subL l f t).length = t - f := by unfold subL; rw [List.length_take,List.length_drop]; omega
theorem sub_at {l : List It} {f t i : Nat} (_h : t ≤ l.length) (hi : f + i < t) : itAt (subL l f t) i = itAt l (f + i) := by
 unfold itAt subL
 rw [List.getD_eq_getElem?_getD,List.getD_eq_getElem?_getD,List.getElem?_take_of_lt (by omega),List.getElem?_drop]
theorem sub_its {W : World} {a : Option Addr} {n cap : Nat} {l : List It} (h : ItsAt W (.slice a n cap) l) {f t : Nat} (hft : f ≤ t) (ht : t ≤ l.length) {a' : Option Addr} (ha : ∀ b o,a = some ⟨b,o,none⟩ → f < t → a' = some ⟨b,o + f * 8,none⟩) :
  ItsAt W (.slice a' (t - f) (cap - f)) (subL l f t) := by
 have hle := h.le _ _ _ rfl
 obtain ⟨a0,cap0,h1,h2⟩ := h.ex
 cases h1
 refine ⟨⟨a',cap - f,by rw [sub_len ht],?_⟩,fun _ _ _ e => by cases e; omega⟩
 rcases h2 with h2 | ⟨b,o,rfl,hb,hc⟩
 ·left; subst h2; simp [subL]
 ·by_cases hlt : f < t
  ·refine .inr ⟨b,o + f * 8,ha b o rfl hlt,hb,fun i hi j u hu => ?_⟩
   rw [sub_len ht] at hi
   have e : (subL l f t)[i]'(by rw [sub_len ht]; exact hi) = l[f + i]'(by omega) := by
    rw [← itAt_is,sub_at ht (by omega),itAt_is]
   rw [e] at hu
   have := hc (f + i) (by omega) j u hu
   rw [← this]
   congr 2
   rw [Nat.add_mul]; omega
  ·left
   apply List.eq_nil_of_length_eq_zero
   rw [sub_len ht]; omega
theorem take_its {W : World} {a : Option Addr} {n cap : Nat} {l : List It} (h : ItsAt W (.slice a n cap) l) {m : Nat} (hm : m ≤ l.length) {a' : Option Addr} (ha : 0 < m → a' = a) : ItsAt W (.slice a' m cap) (l.take m) := by
 have hle := h.le _ _ _ rfl
 obtain ⟨a0,cap0,h1,h2⟩ := h.ex
 cases h1
 have hl : (l.take m).length = m := by rw [List.length_take]; omega
 refine ⟨⟨a',cap,by rw [hl],?_⟩,fun _ _ _ e => by cases e; omega⟩
 rcases h2 with h2 | ⟨b,o,rfl,hb,hc⟩
 ·left; subst h2; simp
 ·by_cases h0 : 0 < m
  ·refine .inr ⟨b,o,ha h0,hb,fun i hi j u hu => ?_⟩
   rw [List.getElem_take] at hu
   exact hc i (by omega) j u hu
  ·left
   apply List.eq_nil_of_length_eq_zero
   rw [hl]; omega

theorem shown_any (v : Value) (l : List It) (h8 : l.length ≤ 8192) (w : World) (hS : ItsAt w v l) :
  Calls Tryz.prog 91 #[v] w fun e w' => (∃ a' cap,e = .returned (.slice a' (shN l 0 l.length) cap) ∧ ItsAt w (.slice a' (shN l 0 l.length) cap) (l.take (shN l 0 l.length))) ∧ w' = w := by
 obtain ⟨a,cap,rfl,h2⟩ := hS.ex
 have hle := hS.le _ _ _ rfl
 have hE : Hid (∀ (m : Nat),shN l 0 l.length = m → m ≤ l.length → (∃ a' cap',Ending.returned (.slice a m cap) = .returned (.slice a' (shN l 0 l.length) cap') ∧ ItsAt w (.slice a' (shN l 0 l.length) cap') (l.take (shN l 0 l.length))) ∧ w = w) := fun m hm hml => by
  subst hm
  exact ⟨⟨a,cap,rfl,take_its hS hml (fun _ => rfl)⟩,rfl⟩
 generalize hs : shN l 0 l.length = R at *
 have hs' : Hid (shN l 0 l.length = R) := hs
 clear hs
 have hk : Hid (∀ i,i < l.length → ∃ b o,a = some ⟨b,o,none⟩ ∧ w.cell? ⟨b,o + i * 8,none⟩ = some (.int .i64 (itAt l i).k)) := fun i hlt => by
   obtain ⟨b,o,e,_,h⟩ := its_kind hS hlt (Below.refl _ _)
   exact ⟨b,o,e,h⟩
 clear hS h2
 go_enter Tryz.func91,Tryz.ntmps91
 go_wp2_with fail
 go_loopw [0] (fun p wr => ∃ k : Nat,k ≤ l.length ∧ p = .slice a k cap ∧ wr = w ∧ Hid (shN l 0 k = R)) (fun p _ => match p with | .slice _ n _ => n | _ => 0)
 case atStart => exact ⟨l.length,by omega,rfl,rfl,hs'⟩
 case round =>
  obtain ⟨k,hk1,rfl,rfl,hr⟩ := hrel
  by_cases h0 : k = 0
  ·have e : R = 0 := by rw [← hr.out,h0]; rfl
   subst e
   subst h0
   have hE' := hE.out 0 rfl (by omega)
   clear hr hk hs' hE
   go_wp2_with fail
   go_ret
   exact ⟨hE'.1,rfl⟩
  ·have h0' : (0 : Int) < k := by omega
   have h1' : (1 : Int) ≤ k := by omega
   have h8' : (k : Int) ≤ 8192 := by omega
   have hcap' : (k : Int) ≤ cap := by omega
   have hkm : (k : Int) - 1 < k := by omega
   obtain ⟨b,o,rfl,c0⟩ := hk.out (k - 1) (by omega)
   have ek : Hid (shN l 0 k = if (itAt l (k - 1)).k = 2 then shN l 0 (k - 1) else k) := by
    show shN l 0 k = _
    obtain ⟨j,rfl⟩ : ∃ j,k = j + 1 := ⟨k - 1,by omega⟩
    show (if (itAt l (0 + j)).k = 2 then shN l 0 j else j + 1) = _
    rw [Nat.zero_add,show j + 1 - 1 = j by omega]
   by_cases hx : (itAt l (k - 1)).k = 2
   ·have hr2 : Hid (shN l 0 (k - 1) = R) := by have := hr.out; rw [ek.out,if_pos hx] at this; exact this
    rw [hx] at c0
    clear hr hx hk hE hs' ek
    go_wp2_with fail
    go_roundw
    case rel => exact ⟨k - 1,by omega,by first | rfl | (congr 1; omega),by first | rfl | trivial,hr2⟩
    case measure => simp; omega
   ·have e : k = R := by have := hr.out; rw [ek.out,if_neg hx] at this; exact this
    subst e
    have q : ((itAt l (k - 1)).k == 2) = false := by simpa using hx
    have hE' := hE.out k rfl (by omega)
    generalize (itAt l (k - 1)).k = kx at *
    clear hr hx hk hE hs' ek
    go_wp2_with fail
    go_ret
    exact ⟨hE'.1,rfl⟩
end Go.Proofs.YtlgcnbomfhmjiaaGreatDoor
