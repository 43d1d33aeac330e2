/-
  What is proved here: the blanks of a line, as pointers; whether it has a tab; what is left alone, and by how much a line is moved.
  What is proved here: how room is shared out among blanks (no program is named).
  What is proved here: how spread of set shares out a line's room.
-/
import Derived.Test.YtbdpghjegachaaaGreatDoorE28
import Derived.Test.YtbdpghjegachaaaGreatDoorE24
namespace Go.Proofs.YtbdpghjegachaaaGreatDoor
open Go.RowKit Go.Shelf
set_option maxRecDepth 100000
set_option maxHeartbeats 1000000

def bkL (M : Nat → Ms) (s : Nat) : Nat → List Nat
 | 0 => []
 | k + 1 => bkL M s k ++ (if (M (s + k)).k = 3 then [k] else [])
theorem bkL_len (M : Nat → Ms) (s : Nat) : ∀ n,(bkL M s n).length ≤ n
 | 0 => Nat.le_refl _
 | k + 1 => by have := bkL_len M s k; unfold bkL; split <;> simp <;> omega
theorem bkL_yes {M : Nat → Ms} {s k : Nat} (h : (M (s + k)).k = 3) : bkL M s (k + 1) = bkL M s k ++ [k] := by show _ ++ _ = _; rw [if_pos h]
theorem bkL_no {M : Nat → Ms} {s k : Nat} (h : (M (s + k)).k ≠ 3) : bkL M s (k + 1) = bkL M s k := by show _ ++ _ = _; rw [if_neg h,List.append_nil]
theorem bkL_mem {M : Nat → Ms} {s i : Nat} : ∀ {n : Nat},i ∈ bkL M s n ↔ i < n ∧ (M (s + i)).k = 3
 | 0 => by simp [bkL]
 | n + 1 => by
  have ih := bkL_mem (M := M) (s := s) (i := i) (n := n)
  by_cases h : (M (s + n)).k = 3
  ·rw [bkL_yes h,List.mem_append,ih]
   constructor
   ·rintro (⟨h1,h2⟩ | h1)
    ·exact ⟨by omega,h2⟩
    ·obtain rfl : i = n := by simpa using h1
     exact ⟨by omega,h⟩
   ·rintro ⟨h1,h2⟩
    by_cases e : i = n
    ·right; simp [e]
    ·left; exact ⟨by omega,h2⟩
  ·rw [bkL_no h,ih]
   constructor
   ·rintro ⟨h1,h2⟩; exact ⟨by omega,h2⟩
   ·rintro ⟨h1,h2⟩
    refine ⟨?_,h2⟩
    by_cases e : i = n
    ·subst e; exact absurd h2 h
    ·omega
def ptL (g q : Nat) (i : Nat) : List Value := [.pointer (some ⟨g,q + i * 6,none⟩)]
theorem ptL_len (g q i : Nat) : (ptL g q i).length = 1 := rfl
theorem ptL_one (g q i : Nat) : ∀ u ∈ ptL g q i,u.oneCell' = true := by intro u hu; simp [ptL] at hu; subst hu; rfl
theorem el151 : ElOk 151 119 1 8 := ElOk.of Tryz.underlying151 (by kernel_rfl)
structure BkI (w : World) (v : Value) (g q : Nat) (qs : List Nat) (W : World) : Prop where
 low : Below w.heap.size w W
 row : W.ownsRow w.heap.size 119 1 v qs.length (qs.flatMap (ptL g q))
theorem blanks_any (w : World) (r g o N s n cap q : Nat) (M : Nat → Ms) (x hy rm : Int) (l : Bool) (va : Value) (hq : Hid (q = o + s * 6)) (hs : s + n ≤ N) (hN : N ≤ 4096) (a : Option Addr) (ha : 0 < n → a = some ⟨g,q,none⟩) (hcap : n ≤ cap) (hR : RF w g o N M) (hW : RW w r va (.slice a n cap) x hy rm l) :
  Calls Tryz.prog 105 #[.pointer (some ⟨r,0,none⟩)] w fun e w' => ∃ v,e = .returned v ∧ w'.ownsRow w.heap.size 119 1 v (bkL M s n).length ((bkL M s n).flatMap (ptL g q)) ∧ Below w.heap.size w w' := by
 have hn' : (n : Int) ≤ 4096 := by omega
 have hrow : Hid (∀ W,Below w.heap.size w W → W.cell? ⟨r,1,none⟩ = some (.slice a n cap)) := fun W hb => (hW.below hb hW.lt).c.2.1
 have hcl : Hid (∀ W k,k < n → Below w.heap.size w W → W.cell? ⟨g,q + k * 6 + 2,none⟩ = some (.int .i64 (M (s + k)).k)) := fun W k hk hb => by
  have := ((hR.below hb (fun h => hR.lt h)).c (i := s + k) (by omega)).2.2.1
  rw [show o + (s + k) * 6 = q + k * 6 by have := hq.out; omega] at this
  exact this
 have c1 := hrow.out w (Below.refl _ _)
 have hI0 : Hid (BkI w (.slice none 0 0) g q (bkL M s 0) w) := ⟨Below.refl _ _,World.ownsRow_nil _ _ _ _⟩
 clear hR hW
 go_enter Tryz.func105,Tryz.ntmps105
 go_wp2_with fail
 go_loopw [3,10] (fun v i wr => ∃ k : Nat,k ≤ n ∧ i = .int .i64 k ∧ Hid (BkI w v g q (bkL M s k) wr)) (fun _ i _ => n - (intOf i).toNat)
 case atStart => exact ⟨0,by omega,rfl,hI0⟩
 case round =>
  obtain ⟨k,hk,rfl,hI⟩ := hrel
  by_cases hlt : k < n
  ·obtain rfl := ha (by omega)
   have hlt' : (k : Int) < n := by omega
   have d1 := hrow.out wr hI.out.low
   have d2 := hcl.out wr k hlt hI.out.low
   obtain ⟨va,vc,rfl,hvc⟩ := row_slice (ptL_len g q) hI.out.row
   have hlen := bkL_len M s k
   by_cases h3 : (M (s + k)).k = 3
   ·have h3' : ((M (s + k)).k == 3) = true := by simpa using h3
    have hnx : Hid (bkL M s (k + 1) = bkL M s k ++ [k]) := bkL_yes h3
    clear h3
    generalize (M (s + k)).k = kk at *
    generalize bkL M s k = qs at *
    generalize hqs1 : bkL M s (k + 1) = qs1 at *
    replace hqs1 : Hid (bkL M s (k + 1) = qs1) := hqs1
    go_wp2_with (refine wpList_app2 (k := 1) (f := ptL g q) (w0 := wr) (bytes := 8) rfl el151 (ptL_len g q) (ptL_one g q) (by omega) (by omega) _ _ rfl w.heap.size (.slice va qs.length vc) qs k rfl hI.out.row hI.out.low.size (by omega) rfl rfl ?_; intro v' w6 hr6 hT6 hw6; have hI6 : Hid (BkI w v' g q qs1 w6) := ⟨hI.out.low.trans (hT6.below hI.out.low.size (fun b hb => (hI.out.row.lt b hb).1)),by rw [hnx.out]; exact hr6⟩; clear hr6 hT6 hw6)
    exact ⟨⟨k + 1,by omega,by simp,by rw [hqs1.out]; exact hI6⟩,by simp [intOf]; omega⟩
   ·have h3' : ((M (s + k)).k == 3) = false := by simpa using h3
    have hI2 : Hid (BkI w (.slice va (bkL M s k).length vc) g q (bkL M s (k + 1)) wr) := ⟨hI.out.low,by rw [bkL_no h3]; exact hI.out.row⟩
    clear h3 hI
    generalize (M (s + k)).k = kk at *
    generalize (bkL M s k).length = ln at *
    go_wp2_with fail
    exact ⟨⟨k + 1,by omega,by simp,hI2⟩,by simp [intOf]; omega⟩
  ·obtain rfl : k = n := by omega
   have hlt' : ¬ (k : Int) < k := by omega
   go_wp2_with fail
   go_ret
   exact ⟨_,rfl,hI.out.row,hI.out.low⟩
theorem hasTab_any (w : World) (r g o N s n cap q : Nat) (M : Nat → Ms) (x hy rm : Int) (l : Bool) (va : Value) (hq : Hid (q = o + s * 6)) (hs : s + n ≤ N) (hN : N ≤ 4096) (a : Option Addr) (ha : 0 < n → a = some ⟨g,q,none⟩) (hcap : n ≤ cap) (hR : RF w g o N M) (hW : RW w r va (.slice a n cap) x hy rm l) :
  Calls Tryz.prog 106 #[.pointer (some ⟨r,0,none⟩)] w fun e w' => e = .returned (.bool (aniB (fun m => m.k == 4) M s n)) ∧ Below w.heap.size w w' := by
 have hc := contains133 (fun m => m.k == 4) tab133 w g o N M s n cap q hq hs hN hcap a ha hR
 have c1 := hW.c.2.1
 clear hR hW ha
 generalize aniB (fun m => m.k == 4) M s n = z at *
 go_enter Tryz.func106,Tryz.ntmps106
 go_wp2_with (go_at_call 55; refine hc.mono ?_; rintro e w2 ⟨rfl,hb2⟩)
 go_ret
 exact ⟨rfl,hb2⟩
theorem even_any (v : Value) (w : World) : Calls Tryz.prog 107 #[v] w fun e w' => e = .returned (.int .i64 1) ∧ w' = w := by
 go_enter Tryz.func107,Tryz.ntmps107
 go_wp2_with fail
 go_ret
 exact ⟨rfl,rfl⟩
theorem third_any (g p : Nat) (y : Int) (hy : 0 ≤ y) (hy2 : y ≤ 1000000000000) (w : World) (hc : w.cell? ⟨g,p + 4,none⟩ = some (.int .i64 y)) : Calls Tryz.prog 108 #[.pointer (some ⟨g,p,none⟩)] w fun e w' => e = .returned (.int .i64 (y / 3)) ∧ w' = w := by
 have hd : Int.tdiv y 3 = y / 3 := Int.tdiv_eq_ediv_of_nonneg hy
 go_enter Tryz.func108,Tryz.ntmps108
 go_wp2_with fail
 go_ret
 exact ⟨rfl,rfl⟩
theorem stay_any (v : Value) (w : World) : Calls Tryz.prog 63 #[v] w fun e w' => e = .returned (.int .i64 0) ∧ w' = w := by
 go_enter Tryz.func63,Tryz.ntmps63
 go_wp2_with fail
 go_ret
 exact ⟨rfl,rfl⟩
def posI (x : Int) : Int := if 0 < x then x else 0
theorem posI_rng (x : Int) (h : -1000000000000 ≤ x ∧ x ≤ 1000000000000) : 0 ≤ posI x ∧ posI x ≤ 1000000000000 := by unfold posI; split <;> omega
theorem moveAll_any (r : Nat) (a b : Value) (x hy rm : Int) (l : Bool) (w : World) (hW : RW w r a b x hy rm l) : Calls Tryz.prog 65 #[.pointer (some ⟨r,0,none⟩)] w fun e w' => e = .returned (.int .i64 (posI rm)) ∧ w' = w := by
 have c4 := hW.c.2.2.2.2.1
 clear hW
 unfold posI
 by_cases h : 0 < rm
 ·rw [if_pos h]
  have h' : ¬ rm < 0 := by omega
  go_enter Tryz.func65,Tryz.ntmps65
  go_wp2_with fail
  all_goals (go_ret; exact ⟨by first | rfl | (simp; omega),rfl⟩)
 ·rw [if_neg h]
  go_enter Tryz.func65,Tryz.ntmps65
  go_wp2_with fail
  all_goals (go_ret; exact ⟨by first | rfl | (simp; omega),rfl⟩)
theorem moveHalf_any (r : Nat) (a b : Value) (x hy rm : Int) (l : Bool) (hm : rm ≤ 1000000000000) (w : World) (hW : RW w r a b x hy rm l) : Calls Tryz.prog 66 #[.pointer (some ⟨r,0,none⟩)] w fun e w' => e = .returned (.int .i64 (posI rm / 2)) ∧ w' = w := by
 have c4 := hW.c.2.2.2.2.1
 clear hW
 unfold posI
 by_cases h : 0 < rm
 ·rw [if_pos h]
  have h' : ¬ rm < 0 := by omega
  have hd : Int.tdiv rm 2 = rm / 2 := Int.tdiv_eq_ediv_of_nonneg (by omega)
  go_enter Tryz.func66,Tryz.ntmps66
  go_wp2_with fail
  all_goals (go_ret; exact ⟨by first | rfl | (simp; omega),rfl⟩)
 ·rw [if_neg h]
  go_enter Tryz.func66,Tryz.ntmps66
  go_wp2_with fail
  all_goals (go_ret; exact ⟨by first | rfl | (simp; omega),rfl⟩)
end Go.Proofs.YtbdpghjegachaaaGreatDoor

namespace Go.Proofs.YtbdpghjegachaaaGreatDoor
open Go.RowKit Go.Shelf

def shI (rm : Int) (m : Ms) : Int := if rm < 0 then m.w / 3 else 1
def ssL (M : Nat → Ms) (s : Nat) (rm : Int) : List Nat → Int
 | [] => 0
 | i :: r => shI rm (M (s + i)) + ssL M s rm r
theorem ssL_app (M : Nat → Ms) (s : Nat) (rm : Int) : ∀ (L : List Nat) (i : Nat),ssL M s rm (L ++ [i]) = ssL M s rm L + shI rm (M (s + i))
 | [],i => by simp [ssL]
 | j :: r,i => by
  show shI rm (M (s + j)) + ssL M s rm (r ++ [i]) = shI rm (M (s + j)) + ssL M s rm r + _
  rw [ssL_app M s rm r i]; omega
def shS (M : Nat → Ms) (s : Nat) (rm : Int) (i : Nat) : Int := ssL M s rm (bkL M s i)
def spW (M : Nat → Ms) (s : Nat) (rm A : Int) (i : Nat) : Int := (M (s + i)).w + (Int.tdiv (rm * shS M s rm (i + 1)) A - Int.tdiv (rm * shS M s rm i) A)
def spQ (M : Nat → Ms) (s : Nat) (rm A : Int) (B : List Nat) (i : Nat) : Ms := if s ≤ i ∧ (i - s) ∈ B then { M i with w := spW M s rm A (i - s) } else M i
theorem bkL_take {M : Nat → Ms} {s : Nat} : ∀ {n k : Nat} (h : k < (bkL M s n).length),(bkL M s n).take k = bkL M s (bkL M s n)[k]
 | 0,k,h => by simp [bkL] at h
 | n + 1, k, h => by
  by_cases h3 : (M (s + n)).k = 3
  ·have e := bkL_yes h3
   by_cases hk : k < (bkL M s n).length
   ·have h1 : (bkL M s (n + 1))[k] = (bkL M s n)[k] := by
     have : (bkL M s (n + 1))[k]? = (bkL M s n)[k]? := by rw [e,List.getElem?_append_left hk]
     rw [List.getElem?_eq_getElem h,List.getElem?_eq_getElem hk] at this
     exact Option.some.inj this
    rw [h1,e,List.take_append_of_le_length (by omega)]
    exact bkL_take hk
   ·have hl : (bkL M s (n + 1)).length = (bkL M s n).length + 1 := by rw [e]; simp
    have hke : k = (bkL M s n).length := by omega
    have h1 : (bkL M s (n + 1))[k] = n := by
     have : (bkL M s (n + 1))[k]? = some n := by rw [e,hke]; simp
     rw [List.getElem?_eq_getElem h] at this
     exact Option.some.inj this
    rw [h1,e,hke]
    simp
  ·have e := bkL_no h3
   have h' : k < (bkL M s n).length := by rw [← e]; exact h
   have h1 : (bkL M s (n + 1))[k] = (bkL M s n)[k] := by
    have : (bkL M s (n + 1))[k]? = (bkL M s n)[k]? := by rw [e]
    rw [List.getElem?_eq_getElem h,List.getElem?_eq_getElem h'] at this
    exact Option.some.inj this
   rw [h1,e]
   exact bkL_take h'
theorem shI_rng {rm : Int} {m : Ms} (h : 0 ≤ m.w ∧ m.w ≤ 4095) : 0 ≤ shI rm m ∧ shI rm m ≤ 1365 := by unfold shI; split <;> omega
theorem ssL_rng {M : Nat → Ms} {s n : Nat} (hM : ∀ i,i < n → 0 ≤ (M (s + i)).w ∧ (M (s + i)).w ≤ 4095) (rm : Int) : ∀ L : List Nat,(∀ i ∈ L,i < n) → 0 ≤ ssL M s rm L ∧ ssL M s rm L ≤ 1365 * (L.length : Int)
 | [],_ => by simp [ssL]
 | i :: r,h => by
  have h1 := ssL_rng hM rm r (fun j hj => h j (List.mem_cons_of_mem _ hj))
  have h2 := shI_rng (rm := rm) (hM i (h i (List.mem_cons_self ..)))
  show 0 ≤ shI rm (M (s + i)) + ssL M s rm r ∧ shI rm (M (s + i)) + ssL M s rm r ≤ 1365 * ((r.length + 1 : Nat) : Int)
  omega
theorem shS_rng {M : Nat → Ms} {s n : Nat} (hM : ∀ i,i < n → 0 ≤ (M (s + i)).w ∧ (M (s + i)).w ≤ 4095) (hn : n ≤ 4096) (rm : Int) {i : Nat} (hi : i ≤ n) : 0 ≤ shS M s rm i ∧ shS M s rm i ≤ 5591040 := by
 have h := ssL_rng hM rm (bkL M s i) (fun j hj => by have := (bkL_mem.1 hj).1; omega)
 have hl := bkL_len M s i
 unfold shS
 omega
theorem shS_even {M : Nat → Ms} {s : Nat} {rm : Int} (h : ¬ rm < 0) : ∀ L : List Nat,ssL M s rm L = L.length
 | [] => rfl
 | i :: r => by
  show shI rm (M (s + i)) + ssL M s rm r = ((r.length + 1 : Nat) : Int)
  rw [shS_even h r]; unfold shI; rw [if_neg h]; omega
theorem mul_rng {x y : Int} (h1 : -100000000 ≤ x ∧ x ≤ 100000000) (h2 : 0 ≤ y ∧ y ≤ 5591040) : -600000000000000 ≤ x * y ∧ x * y ≤ 600000000000000 := by
 have a1 : x * y ≤ 100000000 * y := Int.mul_le_mul_of_nonneg_right h1.2 h2.1
 have a2 : -100000000 * y ≤ x * y := Int.mul_le_mul_of_nonneg_right h1.1 h2.1
 omega
theorem tdiv_rng {x y : Int} (h1 : -600000000000000 ≤ x ∧ x ≤ 600000000000000) : -600000000000000 ≤ Int.tdiv x y ∧ Int.tdiv x y ≤ 600000000000000 := by
 have h := Int.natAbs_tdiv_le_natAbs x y
 omega
theorem spQ_nil (M : Nat → Ms) (s : Nat) (rm A : Int) (i : Nat) : spQ M s rm A [] i = M i := by unfold spQ; rw [if_neg (by simp)]
theorem spQ_step {M : Nat → Ms} {s : Nat} {rm A : Int} {B : List Nat} {j : Nat} (hj : j ∉ B) (i : Nat) : spQ M s rm A (B ++ [j]) i = if i = s + j then { spQ M s rm A B (s + j) with w := spW M s rm A j } else spQ M s rm A B i := by
 have e0 : spQ M s rm A B (s + j) = M (s + j) := by unfold spQ; rw [if_neg (by rw [show s + j - s = j by omega]; exact fun h => hj h.2)]
 rw [e0]
 unfold spQ
 by_cases e : i = s + j
 ·subst e
  rw [if_pos rfl,show s + j - s = j by omega,if_pos ⟨by omega,by simp⟩]
 ·rw [if_neg e]
  by_cases h : s ≤ i ∧ (i - s) ∈ B
  ·rw [if_pos h,if_pos ⟨h.1,List.mem_append_left _ h.2⟩]
  ·rw [if_neg h,if_neg]
   rintro ⟨h1,h2⟩
   rcases List.mem_append.1 h2 with h3 | h3
   ·exact h ⟨h1,h3⟩
   ·have : i - s = j := by simpa using h3
    omega
def spF (l : Bool) (M : Nat → Ms) (s n : Nat) (rm : Int) : Nat → Ms :=
 if l = true ∨ aniB (fun m => m.k == 4) M s n = true ∨ bkL M s n = [] ∨ rm < -(shS M s rm n) then M else spQ M s rm (shS M s rm n) (bkL M s n)
end Go.Proofs.YtbdpghjegachaaaGreatDoor

namespace Go.Proofs.YtbdpghjegachaaaGreatDoor
open Go.RowKit Go.Shelf
set_option maxRecDepth 100000
set_option maxHeartbeats 8000000

structure SpPk (M : Nat → Ms) (s n : Nat) (rm A : Int) (L : List Nat) (ln : Nat) (f : Nat → Nat) (S : Nat → Int) (T : Nat → Nat → Ms) : Prop where
 lnE : L.length = ln
 fE : ∀ k (h : k < L.length),L[k] = f k
 fn : ∀ k,k < ln → f k < n
 s0 : S 0 = 0
 sA : S ln = A
 sr : ∀ k,k ≤ ln → 0 ≤ S k ∧ S k ≤ 5591040
 st : ∀ k,k < ln → S k + shI rm (M (s + f k)) = S (k + 1)
 t0 : ∀ i,T 0 i = M i
 tn : T ln = spQ M s rm A L
 tm : ∀ k,k < ln → T k (s + f k) = M (s + f k)
 ts : ∀ k,k < ln → ∀ i,T (k + 1) i = if i = s + f k then { T k (s + f k) with w := (M (s + f k)).w + (Int.tdiv (rm * S (k + 1)) A - Int.tdiv (rm * S k) A) } else T k i
theorem sp_pack (M : Nat → Ms) (s n : Nat) (rm : Int) (hn : n ≤ 4096) (hM : ∀ i,i < n → 0 ≤ (M (s + i)).w ∧ (M (s + i)).w ≤ 4095) : ∃ f S T,SpPk M s n rm (shS M s rm n) (bkL M s n) (bkL M s n).length f S T := by
 have hgd : ∀ k (h : k < (bkL M s n).length),(bkL M s n).getD k 0 = (bkL M s n)[k] := fun k h => by rw [List.getD_eq_getElem?_getD,List.getElem?_eq_getElem h]; rfl
 have hnm : ∀ k (h : k < (bkL M s n).length),(bkL M s n)[k] ∉ (bkL M s n).take k := fun k h hm => by
  rw [bkL_take h] at hm
  have := (bkL_mem.1 hm).1
  omega
 have hs0 : ∀ k (h : k < (bkL M s n).length),ssL M s rm ((bkL M s n).take k) = shS M s rm (bkL M s n)[k] := fun k h => by rw [bkL_take h]; rfl
 have hs1 : ∀ k (h : k < (bkL M s n).length),ssL M s rm ((bkL M s n).take (k + 1)) = shS M s rm ((bkL M s n)[k] + 1) := fun k h => by
  rw [List.take_succ_eq_append_getElem h,bkL_take h]
  unfold shS
  rw [bkL_yes (bkL_mem.1 (List.getElem_mem h)).2]
 refine ⟨fun k => (bkL M s n).getD k 0,fun k => ssL M s rm ((bkL M s n).take k),fun k => spQ M s rm (shS M s rm n) ((bkL M s n).take k),⟨rfl,fun k h => (hgd k h).symm,fun k h => ?_,rfl,?_,fun k h => ?_,fun k h => ?_,fun i => spQ_nil _ _ _ _ _,?_,fun k h => ?_,fun k h i => ?_⟩⟩
 ·show (bkL M s n).getD k 0 < n
  rw [hgd k h]; exact (bkL_mem.1 (List.getElem_mem h)).1
 ·show ssL M s rm ((bkL M s n).take (bkL M s n).length) = ssL M s rm (bkL M s n)
  rw [List.take_length]
 ·have h1 := ssL_rng hM rm ((bkL M s n).take k) (fun j hj => (bkL_mem.1 (List.mem_of_mem_take hj)).1)
  rw [List.length_take,Nat.min_eq_left h] at h1
  have := bkL_len M s n
  show 0 ≤ ssL M s rm ((bkL M s n).take k) ∧ ssL M s rm ((bkL M s n).take k) ≤ 5591040
  omega
 ·show ssL M s rm ((bkL M s n).take k) + shI rm (M (s + (bkL M s n).getD k 0)) = ssL M s rm ((bkL M s n).take (k + 1))
  rw [hgd k h,List.take_succ_eq_append_getElem h,ssL_app]
 ·show spQ M s rm (shS M s rm n) ((bkL M s n).take (bkL M s n).length) = _
  rw [List.take_length]
 ·show spQ M s rm (shS M s rm n) ((bkL M s n).take k) (s + (bkL M s n).getD k 0) = M (s + (bkL M s n).getD k 0)
  rw [hgd k h]
  unfold spQ
  rw [if_neg (by rw [show s + (bkL M s n)[k] - s = (bkL M s n)[k] by omega]; exact fun e => hnm k h e.2)]
 ·show spQ M s rm (shS M s rm n) ((bkL M s n).take (k + 1)) i = if i = s + (bkL M s n).getD k 0 then { spQ M s rm (shS M s rm n) ((bkL M s n).take k) (s + (bkL M s n).getD k 0) with w := (M (s + (bkL M s n).getD k 0)).w + (Int.tdiv (rm * ssL M s rm ((bkL M s n).take (k + 1))) (shS M s rm n) - Int.tdiv (rm * ssL M s rm ((bkL M s n).take k)) (shS M s rm n)) } else spQ M s rm (shS M s rm n) ((bkL M s n).take k) i
  rw [hs0 k h,hs1 k h,hgd k h,List.take_succ_eq_append_getElem h,spQ_step (hnm k h) i]
  rfl
structure SpS (w : World) (g o N : Nat) (va : Option Addr) (q ln : Nat) (f : Nat → Nat) (W : World) (M : Nat → Ms) : Prop where
 t : Turns (XG g N) w W
 fR : RF W g o N M
 b : ∃ b bo,va = some ⟨b,bo,none⟩ ∧ b < W.heap.size ∧ ¬ XG g N b ∧ ∀ i,i < ln → W.cell? ⟨b,bo + i,none⟩ = some (.pointer (some ⟨g,q + f i * 6,none⟩))
theorem SpS.setW {w : World} {g o N : Nat} {va : Option Addr} {q ln : Nat} {f : Nat → Nat} {W : World} {M : Nat → Ms} (h : SpS w g o N va q ln f W M) {p : Nat} (hp : p < N) (u : Int) : SpS w g o N va q ln f (W.setCell ⟨g,o + p * 6 + 4,none⟩ (.int .i64 u)) (fun i => if i = p then { M p with w := u } else M i) := by
 have ht := Turns.setCell (X := XG g N) W (p := ⟨g,o + p * 6 + 4,none⟩) ⟨rfl,by omega⟩ (.int .i64 u)
 obtain ⟨b,bo,h1,h2,h3,h4⟩ := h.b
 exact ⟨h.t.trans ht,h.fR.setW hp u,b,bo,h1,Nat.lt_of_lt_of_le h2 ht.size,h3,fun i hi => by
  have e : (W.setCell ⟨g,o + p * 6 + 4,none⟩ (.int .i64 u)).cell? ⟨b,bo + i,none⟩ = W.cell? ⟨b,bo + i,none⟩ := by unfold World.cell?; rw [ht.block b h2 h3]
  rw [e]; exact h4 i hi⟩
theorem SpS.same {w : World} {g o N : Nat} {va : Option Addr} {q ln : Nat} {f : Nat → Nat} {W : World} {M M' : Nat → Ms} (h : SpS w g o N va q ln f W M) (e : ∀ i,M' i = M i) : SpS w g o N va q ln f W M' := ⟨h.t,h.fR.congr fun i _ => e i,h.b⟩
theorem spread_any (w : World) (r g o N s n cap q : Nat) (M : Nat → Ms) (x hy rm : Int) (l : Bool) (vm : Value) (hq : Hid (q = o + s * 6)) (hs : s + n ≤ N) (hN : N ≤ 4096) (a : Option Addr) (ha : 0 < n → a = some ⟨g,q,none⟩) (hcap : n ≤ cap) (hM : ∀ i,i < n → 0 ≤ (M (s + i)).w ∧ (M (s + i)).w ≤ 4095) (hrm : -100000000 ≤ rm ∧ rm ≤ 100000000) (hR : RF w g o N M) (hW : RW w r vm (.slice a n cap) x hy rm l) (hrg : ¬ XG g N r) :
  Calls Tryz.prog 64 #[.pointer (some ⟨r,0,none⟩)] w fun e w' => e = .returned (.int .i64 0) ∧ Turns (XG g N) w w' ∧ RF w' g o N (spF l M s n rm) := by
 have hbk := blanks_any w r g o N s n cap q M x hy rm l vm hq hs hN a ha hcap hR hW
 have hw0 : Hid (∀ W,Below w.heap.size w W → RF W g o N M ∧ RW W r vm (.slice a n cap) x hy rm l) := fun W hb => ⟨hR.below hb (fun h => hR.lt h),hW.below hb hW.lt⟩
 have hb0 : Hid (∀ W,Below w.heap.size w W → Turns (XG g N) w W) := fun W hb => (Turns.of_below hb).mono fun _ k => k.elim
 have hst : Hid (∀ W,Below w.heap.size w W → spF l M s n rm = M → (Turns (XG g N) w W ∧ RF W g o N (spF l M s n rm))) := fun W hb e => by rw [e]; exact ⟨hb0.out W hb,(hw0.out W hb).1⟩
 have htb : Hid (∀ W,Below w.heap.size w W → Calls Tryz.prog 106 #[.pointer (some ⟨r,0,none⟩)] W fun e w' => e = .returned (.bool (aniB (fun m => m.k == 4) M s n)) ∧ Below W.heap.size W w') := fun W hb => hasTab_any W r g o N s n cap q M x hy rm l vm hq hs hN a ha hcap (hw0.out W hb).1 (hw0.out W hb).2
 have hrc : Hid (∀ W,Turns (XG g N) w W → W.cell? ⟨r,4,none⟩ = some (.int .i64 rm) ∧ W.cell? ⟨r,5,none⟩ = some (.bool l)) := fun W ht => (hW.turns ht hrg).c.2.2.2.2
 have hfin : Hid (¬ (l = true ∨ aniB (fun m => m.k == 4) M s n = true ∨ bkL M s n = [] ∨ rm < -(shS M s rm n)) → spF l M s n rm = spQ M s rm (shS M s rm n) (bkL M s n)) := fun h => if_neg h
 have hno : Hid ((l = true ∨ aniB (fun m => m.k == 4) M s n = true ∨ bkL M s n = [] ∨ rm < -(shS M s rm n)) → spF l M s n rm = M) := fun h => if_pos h
 have hgl : Hid (0 < N → g < w.heap.size) := hR.lt
 have hl4 : (bkL M s n).length ≤ 4096 := by have := bkL_len M s n; omega
 obtain ⟨f,S,T,hpk⟩ := sp_pack M s n rm (by omega) hM
 obtain ⟨r0,r1⟩ := hrm
 clear hR hW
 go_enter Tryz.func64,Tryz.ntmps64
 go_wp2_with fail
 refine hbk.mono ?_
 rintro e w1 ⟨v,rfl,hv,hb1⟩
 obtain ⟨va,vc,rfl,hvc⟩ := row_slice (ptL_len g q) hv
 have hT1 := hb0.out w1 hb1
 obtain ⟨c4,c5⟩ := hrc.out w1 hT1
 cases hl : l
 ·subst hl
  have ht1 := htb.out w1 hb1
  cases hz : aniB (fun m => m.k == 4) M s n
  ·rw [hz] at ht1 hno hfin
   by_cases hL : bkL M s n = []
   ·have e := hno.out (.inr (.inr (.inl hL)))
    have hl0 : ((bkL M s n).length : Int) = 0 := by rw [hL]; rfl
    clear hv hno hfin htb hbk hw0 hpk
    generalize (bkL M s n).length = ln at *
    obtain rfl : ln = 0 := by omega
    go_wp2_with (go_at_call 106; refine ht1.mono ?_; rintro e w2 ⟨rfl,hb2⟩)
    go_ret
    exact ⟨rfl,hst.out _ (hb1.trans (hb2.mono hb1.size)) e⟩
   ·have hpos : 0 < (bkL M s n).length := List.length_pos_iff.2 hL
    have hS0 : Hid (∀ W,Below w1.heap.size w1 W → SpS w g o N va q (bkL M s n).length f W M) := fun W hb => by
     have hb' := hb1.trans (hb.mono hb1.size)
     have hrec := rec_of_row (ptL_len g q) rfl hv
     obtain ⟨a2,c2,e1,e2⟩ := hrec.ex
     cases e1
     rcases e2 with e2 | ⟨b,bo,e3,e4,e5⟩
     ·exact absurd e2 hL
     ·refine ⟨hb0.out W hb',(hw0.out W hb').1,b,bo,e3,Nat.lt_of_lt_of_le e4 hb.size,?_,fun i hi => ?_⟩
      ·intro hX
       have h1 := hv.lt b (by rw [e3]; rfl)
       have h2 := hgl.out hX.2
       have h3 := hX.1
       omega
      ·have := e5 i hi 0 _ rfl
       rw [show bo + i * 1 + 0 = bo + i by omega,hpk.fE i hi] at this
       exact (hb.cell e4).trans this
    have hfin2 : Hid (¬ rm < -(shS M s rm n) → spF false M s n rm = spQ M s rm (shS M s rm n) (bkL M s n)) := fun h => hfin.out (fun e => e.elim (fun h1 => by cases h1) (fun e => e.elim (fun h1 => by cases h1) (fun e => e.elim hL h)))
    have hpn : Hid (T (bkL M s n).length = spQ M s rm (shS M s rm n) (bkL M s n)) := hpk.tn
    have hsA := hpk.sA
    have hs0 := hpk.s0
    have hfn : Hid (∀ k,k < (bkL M s n).length → f k < n) := hpk.fn
    have hsr : Hid (∀ k,k ≤ (bkL M s n).length → 0 ≤ S k ∧ S k ≤ 5591040) := hpk.sr
    have hsp : Hid (∀ k,k < (bkL M s n).length → S k + shI rm (M (s + f k)) = S (k + 1)) := hpk.st
    have ht0 : Hid (∀ i,T 0 i = M i) := hpk.t0
    have htm : Hid (∀ k,k < (bkL M s n).length → T k (s + f k) = M (s + f k)) := hpk.tm
    have hts : Hid (∀ k,k < (bkL M s n).length → ∀ i,T (k + 1) i = if i = s + f k then { T k (s + f k) with w := (M (s + f k)).w + (Int.tdiv (rm * S (k + 1)) (shS M s rm n) - Int.tdiv (rm * S k) (shS M s rm n)) } else T k i) := hpk.ts
    have hno2 : Hid (rm < -(shS M s rm n) → spF false M s n rm = M) := fun h => hno.out (.inr (.inr (.inr h)))
    have heven : Hid (¬ rm < 0 → 0 < shS M s rm n) := fun h => by
     show 0 < ssL M s rm (bkL M s n)
     rw [shS_even h]; omega
    have hMw : Hid (∀ k,k < (bkL M s n).length → 0 ≤ (M (s + f k)).w ∧ (M (s + f k)).w ≤ 4095) := fun k hk => hM _ (hpk.fn k hk)
    clear hv htb hbk hpk hno hfin hM hz hL
    generalize bkL M s n = L at *
    generalize L.length = ln at *
    have hlz : ¬ (ln : Int) = 0 := by omega
    have hbz : ((ln : Int) == 0) = false := by simpa using hlz
    generalize shS M s rm n = A at *
    by_cases hneg : rm < 0
    ·skip
     go_wp2_with (go_at_call 106; refine ht1.mono ?_; rintro e w2 ⟨rfl,hb2⟩; have hS2 := hS0.out w2 hb2; have hS2h : Hid (SpS w g o N va q ln f w2 M) := hS2; have d4 := (hrc.out w2 hS2.t).1; have hb2h : Hid (Below w.heap.size w w2) := hb1.trans (hb2.mono hb1.size); clear hS2 hS0 hb2)
     go_loopw [5,35] (fun y i wr => ∃ k : Nat,k ≤ ln ∧ i = .int .i64 k ∧ y = .int .i64 (S k) ∧ wr = w2) (fun _ i _ => ln - (intOf i).toNat)
     case atStart => exact ⟨0,by omega,rfl,by rw [hs0],rfl⟩
     case round =>
      obtain ⟨k,hk,rfl,rfl,hwr⟩ := hrel
      subst wr
      obtain ⟨s0,s1⟩ := hsr.out k hk
      by_cases hlt : k < ln
      ·have hlt' : (k : Int) < (ln : Nat) := by omega
       obtain ⟨b,bo,hva,hbl,hbx,hbc⟩ := hS2h.out.b
       subst hva
       have p1 := hbc k hlt
       have hcall := third_any g (q + f k * 6) (M (s + f k)).w (hMw.out k hlt).1 (by have := (hMw.out k hlt).2; omega) w2 (by have := (hS2h.out.fR.c (i := s + f k) (by have := hfn.out k hlt; omega)).2.2.2.2.1; rw [show o + (s + f k) * 6 = q + f k * 6 by have := hq.out; omega] at this; exact this)
       have hshe : shI rm (M (s + f k)) = (M (s + f k)).w / 3 := if_pos hneg
       have hsh := shI_rng (rm := rm) (hMw.out k hlt)
       have hst1 := hsp.out k hlt
       rw [← hshe] at hcall
       clear hshe
       generalize shI rm (M (s + f k)) = h0 at *
       clear hbc
       generalize hkf : S k = S0 at *
       generalize hkf1 : S (k + 1) = S1 at *
       replace hkf : Hid (S k = S0) := hkf
       replace hkf1 : Hid (S (k + 1) = S1) := hkf1
       generalize f k = ii at *
       go_wp2_with (go_at_call 108; refine hcall.mono ?_; rintro e w3 ⟨rfl,rfl⟩)
       exact ⟨⟨k + 1,by omega,by simp,by rw [hkf1.out,← hst1],trivial⟩,by simp [intOf]; omega⟩
      ·obtain rfl : k = ln := by omega
       have hlt' : ¬ (k : Int) < k := by omega
       by_cases hbig : rm < -A
       ·have e : Hid (spF false M s n rm = M) := hno2.out hbig
        have hbig' : rm < -(S k) := by rw [hsA]; exact hbig
        clear hts htm ht0 hsp
        generalize S k = Sk at *
        go_wp2_with fail
        go_ret
        exact ⟨rfl,hst.out _ hb2h.out e.out⟩
       ·have hbig' : ¬ rm < -(S k) := by rw [hsA]; exact hbig
        have hA : 0 < A := by omega
        have hAe : Hid (S k = A) := hsA
        have hAr : A ≤ 5591040 := by rw [← hsA]; exact s1
        have hfe : Hid (T k = spF false M s n rm) := hpn.out.trans (hfin2.out (by omega)).symm
        have hS3 : Hid (SpS w g o N va q k f w2 (T 0)) := hS2h.out.same (fun i => ht0.out i)
        clear hbig hfin2 hno2 hst ht0
        rw [hsA] at s0 s1 hbig' ⊢
        clear hsA
        go_wp2_with fail
        go_loopw [8,9,54] (fun y z i wr => ∃ j : Nat,j ≤ k ∧ i = .int .i64 j ∧ y = .int .i64 (S j) ∧ z = .int .i64 (Int.tdiv (rm * S j) A) ∧ Hid (SpS w g o N va q k f wr (T j))) (fun _ _ i _ => k - (intOf i).toNat)
        case atStart => exact ⟨0,by omega,rfl,by rw [hs0],by rw [hs0,Int.mul_zero,Int.zero_tdiv],hS3⟩
        case round =>
         obtain ⟨j,hj,rfl,rfl,rfl,hI⟩ := hrel
         by_cases hlt : j < k
         ·have hlt2 : (j : Int) < (k : Nat) := by omega
          obtain ⟨b,bo,hva,hbl,hbx,hbc⟩ := hI.out.b
          subst hva
          have p1 := hbc j hlt
          have d5 := (hrc.out wr hI.out.t).1
          have hfj := hfn.out j hlt
          have hmm := hMw.out j hlt
          have eq4 : o + (s + f j) * 6 + 4 = q + f j * 6 + 4 := by have := hq.out; omega
          have p2 := (hI.out.fR.c (i := s + f j) (by omega)).2.2.2.2.1
          have p3 := (hI.out.fR.z (i := s + f j) (by omega)).1
          rw [eq4] at p2 p3
          rw [htm.out j hlt] at p2
          have hcall := third_any g (q + f j * 6) (M (s + f j)).w (hMw.out j hlt).1 (by have := (hMw.out j hlt).2; omega) wr (by have := (hI.out.fR.c (i := s + f j) (by have := hfn.out j hlt; omega)).2.2.2.2.1; rw [show o + (s + f j) * 6 = q + f j * 6 by have := hq.out; omega,htm.out j hlt] at this; exact this)
          have hshe : shI rm (M (s + f j)) = (M (s + f j)).w / 3 := if_pos hneg
          have hsh := shI_rng (rm := rm) (hMw.out j hlt)
          have hst1 := hsp.out j hlt
          rw [← hshe] at hcall
          clear hshe
          generalize shI rm (M (s + f j)) = h0 at *
          obtain ⟨g0,g1⟩ := hsr.out j (by omega)
          obtain ⟨g2,g3⟩ := hsr.out (j + 1) (by omega)
          obtain ⟨b0,b1⟩ := mul_rng (x := rm) ⟨r0,r1⟩ ⟨g2,g3⟩
          obtain ⟨b2,b3⟩ := tdiv_rng (y := A) ⟨b0,b1⟩
          obtain ⟨b4,b5⟩ := tdiv_rng (y := A) (mul_rng (x := rm) ⟨r0,r1⟩ ⟨g0,g1⟩)
          have hI2 : Hid (SpS w g o N (some ⟨b,bo,none⟩) q k f (wr.setCell ⟨g,q + f j * 6 + 4,none⟩ (.int .i64 ((M (s + f j)).w + (Int.tdiv (rm * S (j + 1)) A - Int.tdiv (rm * S j) A)))) (T (j + 1))) := by
           have h1 := hI.out.setW (p := s + f j) (by omega) ((M (s + f j)).w + (Int.tdiv (rm * S (j + 1)) A - Int.tdiv (rm * S j) A))
           rw [eq4] at h1
           exact h1.same (fun i => hts.out j hlt i)
          clear hbc hI eq4
          generalize (M (s + f j)).w = ww at *
          generalize hkf : S j = S0 at *
          generalize hkf1 : S (j + 1) = S1 at *
          replace hkf : Hid (S j = S0) := hkf
          replace hkf1 : Hid (S (j + 1) = S1) := hkf1
          generalize f j = ii at *
          go_wp2_with (go_at_call 108; refine hcall.mono ?_; rintro e w3 ⟨rfl,rfl⟩)
          exact ⟨⟨j + 1,by omega,by simp,by rw [hkf1.out],by rw [hkf1.out],hI2⟩,by simp [intOf]; omega⟩
         ·obtain rfl : j = k := by omega
          have hlt2 : ¬ (j : Int) < j := by omega
          clear hts htm hsp hs0
          generalize S j = Sj at *
          go_wp2_with fail
          go_ret
          exact ⟨rfl,hI.out.t,hfe.out ▸ hI.out.fR⟩
    ·have hneg' : ¬ rm < 0 := hneg
     go_wp2_with (go_at_call 106; refine ht1.mono ?_; rintro e w2 ⟨rfl,hb2⟩; have hS2 := hS0.out w2 hb2; have hS2h : Hid (SpS w g o N va q ln f w2 M) := hS2; have d4 := (hrc.out w2 hS2.t).1; have hb2h : Hid (Below w.heap.size w w2) := hb1.trans (hb2.mono hb1.size); clear hS2 hS0 hb2)
     go_loopw [5,35] (fun y i wr => ∃ k : Nat,k ≤ ln ∧ i = .int .i64 k ∧ y = .int .i64 (S k) ∧ wr = w2) (fun _ i _ => ln - (intOf i).toNat)
     case atStart => exact ⟨0,by omega,rfl,by rw [hs0],rfl⟩
     case round =>
      obtain ⟨k,hk,rfl,rfl,hwr⟩ := hrel
      subst wr
      obtain ⟨s0,s1⟩ := hsr.out k hk
      by_cases hlt : k < ln
      ·have hlt' : (k : Int) < (ln : Nat) := by omega
       obtain ⟨b,bo,hva,hbl,hbx,hbc⟩ := hS2h.out.b
       subst hva
       have p1 := hbc k hlt
       have hcall := even_any (.pointer (some ⟨g,q + f k * 6,none⟩)) w2
       have hshe : shI rm (M (s + f k)) = 1 := if_neg (by omega)
       have hsh := shI_rng (rm := rm) (hMw.out k hlt)
       have hst1 := hsp.out k hlt
       rw [← hshe] at hcall
       clear hshe
       generalize shI rm (M (s + f k)) = h0 at *
       clear hbc
       generalize hkf : S k = S0 at *
       generalize hkf1 : S (k + 1) = S1 at *
       replace hkf : Hid (S k = S0) := hkf
       replace hkf1 : Hid (S (k + 1) = S1) := hkf1
       generalize f k = ii at *
       go_wp2_with (go_at_call 107; refine hcall.mono ?_; rintro e w3 ⟨rfl,rfl⟩)
       exact ⟨⟨k + 1,by omega,by simp,by rw [hkf1.out,← hst1],trivial⟩,by simp [intOf]; omega⟩
      ·obtain rfl : k = ln := by omega
       have hlt' : ¬ (k : Int) < k := by omega
       by_cases hbig : rm < -A
       ·exact absurd hbig (by have := heven.out (by omega); omega)
       ·have hbig' : ¬ rm < -(S k) := by rw [hsA]; exact hbig
        have hA : 0 < A := heven.out (by omega)
        have hAe : Hid (S k = A) := hsA
        have hAr : A ≤ 5591040 := by rw [← hsA]; exact s1
        have hfe : Hid (T k = spF false M s n rm) := hpn.out.trans (hfin2.out (by omega)).symm
        have hS3 : Hid (SpS w g o N va q k f w2 (T 0)) := hS2h.out.same (fun i => ht0.out i)
        clear hbig hfin2 hno2 hst ht0
        rw [hsA] at s0 s1 hbig' ⊢
        clear hsA
        go_wp2_with fail
        go_loopw [8,9,54] (fun y z i wr => ∃ j : Nat,j ≤ k ∧ i = .int .i64 j ∧ y = .int .i64 (S j) ∧ z = .int .i64 (Int.tdiv (rm * S j) A) ∧ Hid (SpS w g o N va q k f wr (T j))) (fun _ _ i _ => k - (intOf i).toNat)
        case atStart => exact ⟨0,by omega,rfl,by rw [hs0],by rw [hs0,Int.mul_zero,Int.zero_tdiv],hS3⟩
        case round =>
         obtain ⟨j,hj,rfl,rfl,rfl,hI⟩ := hrel
         by_cases hlt : j < k
         ·have hlt2 : (j : Int) < (k : Nat) := by omega
          obtain ⟨b,bo,hva,hbl,hbx,hbc⟩ := hI.out.b
          subst hva
          have p1 := hbc j hlt
          have d5 := (hrc.out wr hI.out.t).1
          have hfj := hfn.out j hlt
          have hmm := hMw.out j hlt
          have eq4 : o + (s + f j) * 6 + 4 = q + f j * 6 + 4 := by have := hq.out; omega
          have p2 := (hI.out.fR.c (i := s + f j) (by omega)).2.2.2.2.1
          have p3 := (hI.out.fR.z (i := s + f j) (by omega)).1
          rw [eq4] at p2 p3
          rw [htm.out j hlt] at p2
          have hcall := even_any (.pointer (some ⟨g,q + f j * 6,none⟩)) wr
          have hshe : shI rm (M (s + f j)) = 1 := if_neg (by omega)
          have hsh := shI_rng (rm := rm) (hMw.out j hlt)
          have hst1 := hsp.out j hlt
          rw [← hshe] at hcall
          clear hshe
          generalize shI rm (M (s + f j)) = h0 at *
          obtain ⟨g0,g1⟩ := hsr.out j (by omega)
          obtain ⟨g2,g3⟩ := hsr.out (j + 1) (by omega)
          obtain ⟨b0,b1⟩ := mul_rng (x := rm) ⟨r0,r1⟩ ⟨g2,g3⟩
          obtain ⟨b2,b3⟩ := tdiv_rng (y := A) ⟨b0,b1⟩
          obtain ⟨b4,b5⟩ := tdiv_rng (y := A) (mul_rng (x := rm) ⟨r0,r1⟩ ⟨g0,g1⟩)
          have hI2 : Hid (SpS w g o N (some ⟨b,bo,none⟩) q k f (wr.setCell ⟨g,q + f j * 6 + 4,none⟩ (.int .i64 ((M (s + f j)).w + (Int.tdiv (rm * S (j + 1)) A - Int.tdiv (rm * S j) A)))) (T (j + 1))) := by
           have h1 := hI.out.setW (p := s + f j) (by omega) ((M (s + f j)).w + (Int.tdiv (rm * S (j + 1)) A - Int.tdiv (rm * S j) A))
           rw [eq4] at h1
           exact h1.same (fun i => hts.out j hlt i)
          clear hbc hI eq4
          generalize (M (s + f j)).w = ww at *
          generalize hkf : S j = S0 at *
          generalize hkf1 : S (j + 1) = S1 at *
          replace hkf : Hid (S j = S0) := hkf
          replace hkf1 : Hid (S (j + 1) = S1) := hkf1
          generalize f j = ii at *
          go_wp2_with (go_at_call 107; refine hcall.mono ?_; rintro e w3 ⟨rfl,rfl⟩)
          exact ⟨⟨j + 1,by omega,by simp,by rw [hkf1.out],by rw [hkf1.out],hI2⟩,by simp [intOf]; omega⟩
         ·obtain rfl : j = k := by omega
          have hlt2 : ¬ (j : Int) < j := by omega
          clear hts htm hsp hs0
          generalize S j = Sj at *
          go_wp2_with fail
          go_ret
          exact ⟨rfl,hI.out.t,hfe.out ▸ hI.out.fR⟩
  ·have e := hno.out (.inr (.inl hz))
   rw [hz] at ht1
   clear hv hno hfin htb hbk hw0 hpk
   generalize (bkL M s n).length = ln at *
   go_wp2_with (go_at_call 106; refine ht1.mono ?_; rintro e w2 ⟨rfl,hb2⟩)
   go_ret
   exact ⟨rfl,hst.out _ (hb1.trans (hb2.mono hb1.size)) e⟩
 ·subst hl
  have e := hno.out (.inl rfl)
  clear hv hno hfin htb hbk hw0 hpk
  generalize (bkL M s n).length = ln at *
  go_wp2_with fail
  go_ret
  exact ⟨rfl,hst.out _ hb1 e⟩
end Go.Proofs.YtbdpghjegachaaaGreatDoor
