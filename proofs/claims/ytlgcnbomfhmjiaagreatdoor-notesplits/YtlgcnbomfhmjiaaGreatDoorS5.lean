/-
  What is proved here: clusters of a text: where they begin, how many there are (no program is named).
  What is proved here: what Em of metric answers of any byte, and the document's Em.
  What is proved here: how wide bytes are, as Width of metric and the document's Width tell it.
  What is proved here: Width of metric, the document's ByteWidth, TextWidth, Width.
  What is proved here: whether all numbers keep their bounds; the bounds of a paragraph's properties.
  What is proved here: whether spans are as much as so many bytes, and look as characters may; whether a label or a mark may stand.
  What is proved here: whether a label or a mark may stand; whether a text has a Field; how many Refs it has.
  What is proved here: which two bytes stand nearer, as Kern of metric tells it.
  What is proved here: the document's kerning of two bytes.
  What is proved here: the bounds of a paragraph's properties, as properties answers them.
-/
import Derived.Test.YtlgcnbomfhmjiaaGreatDoorRows
import Derived.Shelf.Abstract
import Derived.WalkKit
import Derived.WalkSpells
import Derived.LoopN
import Derived.Test.YtlgcnbomfhmjiaaGreatDoorS1
import Derived.Lib.Bytealg
import Derived.Laws.IdiomStrings
namespace Go.Proofs.YtlgcnbomfhmjiaaGreatDoor
open Go.Shelf

def kindI (x : Int) : Int :=
 if (97 ≤ x ∧ x ≤ 122) ∨ (65 ≤ x ∧ x ≤ 90) then 1 else if x = 32 then 3 else if 32 < x ∧ x ≤ 126 then 2 else if x = 9 then 4 else if x = 31 then 5
 else if x = 1 then 6 else if x = 2 then 7 else if x = 3 then 8 else 0
def accB (x : Int) : Bool := decide (x = 94 ∨ x = 96 ∨ x = 126)
def bt (t : ByteArray) (k : Nat) : Int := if h : k < t.size then ((t[k]'h).toNat : Int) else 0
theorem bt_eq {t : ByteArray} {k : Nat} (h : k < t.size) : bt t k = ((t[k]'h).toNat : Int) := dif_pos h
theorem bt_no {t : ByteArray} {k : Nat} (h : ¬ k < t.size) : bt t k = 0 := dif_neg h
theorem bt_rng (t : ByteArray) (k : Nat) : 0 ≤ bt t k ∧ bt t k < 256 := by
 unfold bt
 split
 ·rename_i h; have := (t[k]'h).toNat_lt; omega
 ·omega
theorem acc_lt {t : ByteArray} {k : Nat} (h : accB (bt t k) = true) : k < t.size := by
 by_cases hk : k < t.size
 ·exact hk
 ·rw [bt_no hk] at h; exact absurd h (by decide)
def endN (t : ByteArray) (k : Nat) : Nat :=
 if kindI (bt t k) = 1 then (if accB (bt t (k + 1)) = true then (if accB (bt t (k + 2)) = true then k + 3 else k + 2) else k + 1) else k + 1
theorem endN_gt (t : ByteArray) (k : Nat) : k < endN t k ∧ endN t k ≤ k + 3 := by
 unfold endN
 repeat' split
 all_goals omega
theorem endN_le {t : ByteArray} {k : Nat} (h : k < t.size) : endN t k ≤ t.size := by
 unfold endN
 split
 ·split
  ·rename_i h1; have := acc_lt h1
   split
   ·rename_i h2; have := acc_lt h2; omega
   ·omega
  ·omega
 ·omega

def st (t : ByteArray) : Nat → Nat
 | 0 => 0
 | i + 1 => if st t i < t.size then endN t (st t i) else st t i
theorem st_succ {t : ByteArray} {i : Nat} (h : st t i < t.size) : st t (i + 1) = endN t (st t i) := if_pos h
theorem st_le (t : ByteArray) : ∀ i,st t i ≤ t.size
 | 0 => Nat.zero_le _
 | i + 1 => by
  by_cases h : st t i < t.size
  ·rw [st_succ h]; exact endN_le h
  ·show (if st t i < t.size then endN t (st t i) else st t i) ≤ _
   rw [if_neg h]; exact st_le t i
theorem st_step (t : ByteArray) (i : Nat) : st t i ≤ st t (i + 1) := by
 by_cases h : st t i < t.size
 ·rw [st_succ h]; have := (endN_gt t (st t i)).1; omega
 ·show _ ≤ (if st t i < t.size then endN t (st t i) else st t i)
  rw [if_neg h]; exact Nat.le_refl _
theorem st_lt {t : ByteArray} {i : Nat} (h : st t i < t.size) : st t i < st t (i + 1) := by rw [st_succ h]; exact (endN_gt t _).1
theorem st_mono (t : ByteArray) {i j : Nat} (h : i ≤ j) : st t i ≤ st t j := by
 induction j with
 | zero => obtain rfl : i = 0 := by omega
           exact Nat.le_refl _
 | succ j ih =>
  by_cases e : i = j + 1
  ·rw [e]; exact Nat.le_refl _
  ·exact Nat.le_trans (ih (by omega)) (st_step t j)

def fst (t : ByteArray) : Nat → Nat → Nat
 | 0,i => i
 | n + 1,i => if st t i < t.size then fst t n (i + 1) else i
theorem fst_spec (t : ByteArray) : ∀ n i,t.size ≤ st t i + n → (∀ j,j < i → st t j < t.size) → st t (fst t n i) = t.size ∧ (∀ j,j < fst t n i → st t j < t.size) ∧ i ≤ fst t n i ∧ fst t n i ≤ i + n
 | 0,i,h,hj => ⟨by have := st_le t i; show st t i = _; omega,hj,Nat.le_refl _,Nat.le_refl _⟩
 | n + 1, i, h, hj => by
  show st t (if st t i < t.size then fst t n (i + 1) else i) = t.size ∧ _
  by_cases hi : st t i < t.size
  ·obtain ⟨h1,h2,h3,h4⟩ := fst_spec t n (i + 1) (by have := st_lt hi; omega) (fun j hj' => by by_cases e : j = i; exact e ▸ hi; exact hj j (by omega))
   have e : fst t (n + 1) i = fst t n (i + 1) := if_pos hi
   rw [e,if_pos hi]
   exact ⟨h1,h2,by omega,by omega⟩
  ·have e : fst t (n + 1) i = i := if_neg hi
   rw [e,if_neg hi]
   exact ⟨by have := st_le t i; omega,hj,Nat.le_refl _,by omega⟩
def num (t : ByteArray) : Nat := fst t t.size 0
theorem num_end (t : ByteArray) : st t (num t) = t.size := (fst_spec t t.size 0 (by omega) (fun _ h => by omega)).1
theorem num_lt {t : ByteArray} {j : Nat} (h : j < num t) : st t j < t.size := (fst_spec t t.size 0 (by omega) (fun _ h => by omega)).2.1 j h
theorem num_le (t : ByteArray) : num t ≤ t.size := by have := (fst_spec t t.size 0 (by omega) (fun _ h => by omega)).2.2.2; unfold num; omega
theorem lt_num {t : ByteArray} {j : Nat} (h : st t j < t.size) : j < num t := by
 by_cases hj : j < num t
 ·exact hj
 ·have := st_mono t (by omega : num t ≤ j); rw [num_end] at this; omega
def wrongI (t : ByteArray) : Int := if 4096 < t.size then 3 else if ∃ k,k < t.size ∧ kindI (bt t k) = 0 then 4 else 0
theorem wrong_long {t : ByteArray} (h : 4096 < t.size) : wrongI t = 3 := if_pos h
theorem wrong_byte {t : ByteArray} (h : ¬ 4096 < t.size) {k : Nat} (hk : k < t.size) (h0 : kindI (bt t k) = 0) : wrongI t = 4 := by unfold wrongI; rw [if_neg h,if_pos ⟨k,hk,h0⟩]
theorem wrong_ok {t : ByteArray} (h : ¬ 4096 < t.size) (h0 : ∀ k,k < t.size → kindI (bt t k) ≠ 0) : wrongI t = 0 := by
 unfold wrongI; rw [if_neg h,if_neg (fun ⟨k,hk,e⟩ => h0 k hk e)]
theorem ok_size {t : ByteArray} (h : wrongI t = 0) : t.size ≤ 4096 := by
 unfold wrongI at h
 split at h
 ·cases h
 ·omega
def clC (t : ByteArray) (i : Nat) : List Value := [.int .i64 (st t i : Nat),.int .i64 (st t (i + 1) : Nat),.int .i64 (kindI (bt t (st t i)))]
def rowC (t : ByteArray) : Nat → List Value
 | 0 => []
 | i + 1 => rowC t i ++ clC t i
theorem rowC_len (t : ByteArray) : ∀ i,(rowC t i).length = i * 3
 | 0 => rfl
 | i + 1 => by show (rowC t i ++ clC t i).length = _; rw [List.length_append,rowC_len t i]; simp [clC]; omega
end Go.Proofs.YtlgcnbomfhmjiaaGreatDoor

namespace Go.Proofs.YtlgcnbomfhmjiaaGreatDoor
open Go.RowKit Go.Shelf
set_option maxRecDepth 100000
set_option maxHeartbeats 4000000

def emI (x : Int) : Int :=
 if x = 105 ∨ x = 106 ∨ x = 108 ∨ x = 39 ∨ x = 46 ∨ x = 44 ∨ x = 58 ∨ x = 59 ∨ x = 33 ∨ x = 124 then 2
 else if x = 102 ∨ x = 116 ∨ x = 114 ∨ x = 40 ∨ x = 41 ∨ x = 91 ∨ x = 93 ∨ x = 123 ∨ x = 125 ∨ x = 45 ∨ x = 34 ∨ x = 94 ∨ x = 95 ∨ x = 126 ∨ x = 96 ∨ x = 32 ∨ x = 73 then 3
 else if x = 109 ∨ x = 119 then 7 else if x = 77 ∨ x = 87 then 8 else if (97 ≤ x ∧ x ≤ 122) ∨ (48 ≤ x ∧ x ≤ 57) then 5 else if 32 < x ∧ x ≤ 126 then 6 else 0
theorem emI_rng (x : Int) : 0 ≤ emI x ∧ emI x ≤ 8 := by
 unfold emI
 repeat' split
 all_goals omega
theorem em_any (x : Int) (w : World) : Calls Tryz.prog 182 #[.int .u8 x] w fun e w' => e = .returned (.int .i64 (emI x)) ∧ w' = w := by
 go_enter Tryz.func182,Tryz.ntmps182
 go_wp2
 all_goals go_ret
 all_goals refine ⟨?_,rfl⟩
 all_goals congr 2
 all_goals try simp only [beq_iff_eq,beq_eq_false_iff_ne,ne_eq] at *
 all_goals first | (subst_vars; rfl) | (unfold emI; repeat (first | rw [if_neg (by omega)] | rw [if_pos (by omega)]))
 all_goals first | rfl | (exfalso; omega)
end Go.Proofs.YtlgcnbomfhmjiaaGreatDoor

namespace Go.Proofs.YtlgcnbomfhmjiaaGreatDoor
open Go.RowKit Go.Shelf
set_option maxRecDepth 100000
set_option maxHeartbeats 1000000

def bw (x s : Int) : Int := (emI x * s) / 8
theorem bw_rng (x : Int) {s : Int} (h0 : 0 ≤ s) (h1 : s ≤ 64) : 0 ≤ bw x s ∧ bw x s ≤ 64 := by
 have he := emI_rng x
 unfold bw
 have a : 0 ≤ emI x * s := Int.mul_nonneg he.1 h0
 have b : emI x * s ≤ 8 * 64 := Int.mul_le_mul he.2 h1 h0 (by omega)
 omega
theorem bw_mul (x : Int) {s : Int} (h0 : 0 ≤ s) (h1 : s ≤ 64) : 0 ≤ emI x * s ∧ emI x * s ≤ 512 := by
 have he := emI_rng x
 have a : 0 ≤ emI x * s := Int.mul_nonneg he.1 h0
 have b : emI x * s ≤ 8 * 64 := Int.mul_le_mul he.2 h1 h0 (by omega)
 omega
def tw (t : ByteArray) (s : Int) : Nat → Int
 | 0 => 0
 | k + 1 => tw t s k + bw (bt t k) s
theorem tw_rng (t : ByteArray) {s : Int} (h0 : 0 ≤ s) (h1 : s ≤ 64) : ∀ k,0 ≤ tw t s k ∧ tw t s k ≤ 64 * (k : Int)
 | 0 => by simp [tw]
 | k + 1 => by
  have := tw_rng t h0 h1 k
  have := bw_rng (bt t k) h0 h1
  show 0 ≤ tw t s k + bw (bt t k) s ∧ tw t s k + bw (bt t k) s ≤ _
  omega
def widthI (t : ByteArray) (s : Int) : Int := tw t s t.size

theorem width_any (t : ByteArray) (s : Int) (h0 : 0 ≤ s) (h1 : s ≤ 64) (ht : t.size ≤ 4096) (w : World) : Calls Tryz.prog 180 #[.string t,.int .i64 s] w fun e w' => e = .returned (.int .i64 (widthI t s)) ∧ w' = w := by
 have hW : Hid (tw t s t.size = widthI t s) := rfl
 go_enter Tryz.func180,Tryz.ntmps180
 go_wp2
 go_loopw [5,9] (fun n i wr => ∃ k : Nat,k ≤ t.size ∧ i = .int .i64 k ∧ n = .int .i64 (tw t s k) ∧ wr = w) (fun _ i _ => t.size - (intOf i).toNat)
 case atStart => exact ⟨0,by omega,rfl,rfl,rfl⟩
 case round =>
  obtain ⟨k,hk,rfl,rfl,rfl⟩ := hrel
  by_cases hlt : k < t.size
  ·have hb := bt_eq hlt
   have hm := bw_mul (bt t k) h0 h1
   have hq : Hid (tw t s (k + 1) = tw t s k + emI (bt t k) * s / 8) := rfl
   have hr := tw_rng t h0 h1 k
   have hE := em_any (bt t k) wr
   rw [hb] at hm hq hE
   generalize emI ((t[k]'hlt).toNat : Int) = e at hm hq hE
   generalize hx : tw t s k = x at hr hq
   clear hx hb
   obtain ⟨hm0,hm1⟩ := hm
   obtain ⟨hr0,hr1⟩ := hr
   have hd : (e * s).tdiv 8 = e * s / 8 := Int.tdiv_eq_ediv_of_nonneg hm0
   go_wp2_with (go_at_call 182; refine hE.mono ?_; rintro e w' ⟨rfl,hww⟩; subst w')
   go_roundw
   case rel => exact ⟨k + 1,by omega,by simp,by rw [hq.out],by first | rfl | trivial⟩
   case measure => simp [intOf]; omega
  ·obtain rfl : k = t.size := by omega
   rw [hW.out]
   clear hW
   go_wp2_with fail
   go_ret
   exact ⟨rfl,rfl⟩

end Go.Proofs.YtlgcnbomfhmjiaaGreatDoor

namespace Go.Proofs.YtlgcnbomfhmjiaaGreatDoor
open Go.RowKit Go.Shelf
set_option maxRecDepth 100000
set_option maxHeartbeats 1000000

def wErr (t : ByteArray) (s : Int) : Int := if 1 ≤ s ∧ s ≤ 64 then (if 4096 < t.size then 3 else 0) else 5
def wVal (t : ByteArray) (s : Int) : Int := if wErr t s = 0 then widthI t s else 0
theorem wErr_cases (t : ByteArray) (s : Int) : (wErr t s = 5 ∧ wVal t s = 0 ∧ (s < 1 ∨ 64 < s)) ∨ (wErr t s = 3 ∧ wVal t s = 0 ∧ 1 ≤ s ∧ s ≤ 64 ∧ 4096 < t.size) ∨ (wErr t s = 0 ∧ wVal t s = widthI t s ∧ 1 ≤ s ∧ s ≤ 64 ∧ t.size ≤ 4096) := by
 unfold wVal
 by_cases h : 1 ≤ s ∧ s ≤ 64
 ·by_cases h2 : 4096 < t.size
  ·have e : wErr t s = 3 := by unfold wErr; rw [if_pos h,if_pos h2]
   rw [e]; exact .inr (.inl ⟨rfl,rfl,h.1,h.2,h2⟩)
  ·have e : wErr t s = 0 := by unfold wErr; rw [if_pos h,if_neg h2]
   rw [e]; exact .inr (.inr ⟨rfl,rfl,h.1,h.2,by omega⟩)
 ·have e : wErr t s = 5 := by unfold wErr; rw [if_neg h]
  rw [e]; exact .inl ⟨rfl,rfl,by omega⟩

theorem Width_any (t : ByteArray) (s : Int) (w : World) : Calls Tryz.prog 121 #[.string t,.int .i64 s] w fun e w' => e = .returned (.tuple #[.int .i64 (wVal t s),.int .i64 (wErr t s)]) ∧ w' = w := by
 rcases wErr_cases t s with ⟨e1,e2,h⟩ | ⟨e1,e2,h1,h2,h3⟩ | ⟨e1,e2,h1,h2,h3⟩
 ·rw [e1,e2]
  clear e1 e2
  rcases h with h | h
  all_goals
   go_enter Tryz.func121,Tryz.ntmps121
   go_wp2
   go_ret2
   exact ⟨rfl,rfl⟩
 ·rw [e1,e2]
  clear e1 e2
  go_enter Tryz.func121,Tryz.ntmps121
  go_wp2
  go_ret2
  exact ⟨rfl,rfl⟩
 ·rw [e1,e2]
  have hE := width_any t s (by omega) h2 h3 w
  clear e1 e2
  go_enter Tryz.func121,Tryz.ntmps121
  go_wp2_with (go_at_call 180; refine hE.mono ?_; rintro e w' ⟨rfl,hww⟩; subst w')
  go_ret2
  exact ⟨rfl,rfl⟩

end Go.Proofs.YtlgcnbomfhmjiaaGreatDoor

namespace Go.Proofs.YtlgcnbomfhmjiaaGreatDoor
open Go.RowKit Go.Shelf
set_option maxRecDepth 100000
set_option maxHeartbeats 1000000

abbrev Bd := Int × Int × Int
def bdL (r : Bd) : List Value := [.int .i64 r.1,.int .i64 r.2.1,.int .i64 r.2.2]
theorem bdL_len (r : Bd) : (bdL r).length = 3 := rfl
def bdB (r : Bd) : Bool := decide (r.2.1 ≤ r.1 ∧ r.1 ≤ r.2.2)
def keepB (l : List Bd) : Bool := l.all bdB

theorem keep_any (v : Value) (l : List Bd) (hl : l.length ≤ 100) (w : World) (hS : RecAt 3 bdL w v l) :
  Calls Tryz.prog 174 #[v] w fun e w' => e = .returned (.bool (keepB l)) ∧ Below w.heap.size w w' := by
 obtain ⟨a,cap,rfl,h2⟩ := hS.ex
 clear hS
 have hY : Hid (∀ k (hk : k < l.length),bdB l[k] = false → keepB l = false) := fun k hk e => List.all_eq_false.2 ⟨l[k],List.getElem_mem hk,by simp [e]⟩
 have hN : Hid ((∀ k (hk : k < l.length),bdB l[k] = true) → keepB l = true) := fun h => List.all_eq_true.2 fun b hb => by
  obtain ⟨k,hk,rfl⟩ := List.getElem_of_mem hb
  exact h k hk
 generalize keepB l = r at hY hN ⊢
 go_enter Tryz.func174,Tryz.ntmps174
 go_wp2
 go_loopw [7] (fun i wr => ∃ k : Nat,k ≤ l.length ∧ i = .int .i64 k ∧ Below w.heap.size w wr ∧ Hid (∀ j (hj : j < l.length),j < k → bdB l[j] = true)) (fun i _ => l.length - (intOf i).toNat)
 case atStart => exact ⟨0,by omega,rfl,Below.refl _ _,fun j _ hj => by omega⟩
 case round =>
  obtain ⟨k,hk,rfl,hb,hall⟩ := hrel
  by_cases hlt : k < l.length
  ·rcases h2 with h2 | ⟨b,o,rfl,hbl,hc⟩
   ·rw [h2] at hlt; simp at hlt
   ·have c0 : wr.cell? ⟨b,o + k * 3,none⟩ = some (.int .i64 l[k].1) := (hb.cell hbl).trans (hc k hlt 0 _ rfl)
    have c1 : wr.cell? ⟨b,o + k * 3 + 1,none⟩ = some (.int .i64 l[k].2.1) := (hb.cell hbl).trans (hc k hlt 1 _ rfl)
    have c2 : wr.cell? ⟨b,o + k * 3 + 2,none⟩ = some (.int .i64 l[k].2.2) := (hb.cell hbl).trans (hc k hlt 2 _ rfl)
    have hlt' : (k : Int) < l.length := by omega
    have hbb : Hid (bdB l[k] = decide (l[k].2.1 ≤ l[k].1 ∧ l[k].1 ≤ l[k].2.2)) := rfl
    have hyes : Hid (bdB l[k] = true → ∀ j (hj : j < l.length),j < k + 1 → bdB l[j] = true) := fun hv j hj hjk => by
      by_cases h : j < k
      ·exact hall.out j hj h
      ·obtain rfl : j = k := by omega
       exact hv
    have hno : Hid (bdB l[k] = false → r = false) := hY.out k hlt
    clear hY hN hall hc
    generalize l[k].1 = x0 at *
    generalize l[k].2.1 = x1 at *
    generalize l[k].2.2 = x2 at *
    by_cases d1 : x0 < x1
    ·have hn := hno.out (hbb.out.trans (decide_eq_false (by omega)))
     subst hn
     clear hyes hno hbb
     go_wp2_with fail
     go_ret
     exact ⟨rfl,hb.alloc hb.size _⟩
    ·by_cases d2 : x2 < x0
     ·have hn := hno.out (hbb.out.trans (decide_eq_false (by omega)))
      subst hn
      clear hyes hno hbb
      go_wp2_with fail
      go_ret
      exact ⟨rfl,hb.alloc hb.size _⟩
     ·have hy : Hid (∀ j (hj : j < l.length),j < k + 1 → bdB l[j] = true) := hyes.out (hbb.out.trans (decide_eq_true (by omega)))
      clear hyes hno hbb
      go_wp2_with fail
      go_roundw
      case rel => exact ⟨k + 1,by omega,by simp,hb.alloc hb.size _,hy⟩
      case measure => simp [intOf]; omega
  ·have hn := hN.out (fun j hj => hall.out j hj (by omega))
   have hge : ¬ (k : Int) < l.length := by omega
   clear hY hN hall h2
   subst hn
   go_wp2_with fail
   go_ret
   exact ⟨rfl,hb⟩

structure Pr where
 p0 : Int
 p1 : Int
 p2 : Int
 p3 : Int
 p4 : Int
 p5 : Int
 p6 : Int
 p7 : Int
 p8 : Int
 p9 : Int
 p10 : Int
 p11 : Int
 p12 : Int
 p13 : Int
 p14 : Int
 p15 : Int
 p16 : Int
def prL (p : Pr) : List Value := [.int .i64 p.p0,.int .i64 p.p1,.int .i64 p.p2,.int .i64 p.p3,.int .i64 p.p4,.int .i64 p.p5,.int .i64 p.p6,.int .i64 p.p7,.int .i64 p.p8,.int .i64 p.p9,.int .i64 p.p10,.int .i64 p.p11,.int .i64 p.p12,.int .i64 p.p13,.int .i64 p.p14,.int .i64 p.p15,.int .i64 p.p16]
def prB (p : Pr) : List Bd := [(p.p0,1,64),(p.p1,1,255),(p.p2,0,3),(p.p3,0,255),(p.p4,0,255),(p.p5,0,255),(p.p6,0,255),(p.p7,0,255),(p.p8,0,1),(p.p9,0,1),(p.p10,1,4),(p.p11,1,4),(p.p12,0,1),(p.p13,0,1),(p.p14,0,4),(p.p15,0,8),(p.p16,0,3)]

end Go.Proofs.YtlgcnbomfhmjiaaGreatDoor

namespace Go.Proofs.YtlgcnbomfhmjiaaGreatDoor
open Go.RowKit Go.Shelf
set_option maxRecDepth 100000
set_option maxHeartbeats 2000000

structure Sp where
 n : Int
 s : Int
 t : Int
 k : Int
def spL (r : Sp) : List Value := [.int .i64 r.n,.int .i64 r.s,.int .i64 r.t,.int .i64 r.k]
def chB (r : Sp) : Bool := decide ((0 ≤ r.s ∧ r.s ≤ 64) ∧ (0 ≤ r.t ∧ r.t ≤ 15) ∧ (0 ≤ r.k ∧ r.k ≤ 1))
def spB : List Sp → Int → Bool
 | [],n => decide (n = 0)
 | r :: l,n => if 1 ≤ r.n ∧ r.n ≤ n ∧ chB r = true then spB l (n - r.n) else false
theorem spB_step {l : List Sp} {k : Nat} (h : k < l.length) {n : Int} (h1 : 1 ≤ l[k].n ∧ l[k].n ≤ n ∧ chB l[k] = true) : spB (l.drop k) n = spB (l.drop (k + 1)) (n - l[k].n) := by
 rw [List.drop_eq_getElem_cons h,spB,if_pos h1]
theorem spB_no {l : List Sp} {k : Nat} (h : k < l.length) {n : Int} (h1 : ¬ (1 ≤ l[k].n ∧ l[k].n ≤ n ∧ chB l[k] = true)) : spB (l.drop k) n = false := by
 rw [List.drop_eq_getElem_cons h,spB,if_neg h1]
theorem spB_end (l : List Sp) (n : Int) : spB (l.drop l.length) n = decide (n = 0) := by simp [spB]

def sp4 (r : Sp) (n : Int) : List Bd := [(r.n,1,n),(r.s,0,64),(r.t,0,15),(r.k,0,1)]
theorem sp4_keep (r : Sp) (n : Int) : keepB (sp4 r n) = decide (1 ≤ r.n ∧ r.n ≤ n ∧ chB r = true) := by
 unfold keepB sp4 bdB chB
 rw [Bool.eq_iff_iff]
 simp only [List.all_cons,List.all_nil,Bool.and_true,Bool.and_eq_true,decide_eq_true_eq]
 constructor
 ·rintro ⟨⟨a,b⟩,c,d,e⟩; exact ⟨a,b,c,d,e⟩
 ·rintro ⟨a,b,c,d,e⟩; exact ⟨⟨a,b⟩,c,d,e⟩

theorem maySpan_any (v : Value) (l : List Sp) (n : Nat) (hn : n ≤ 4096) (hl : l.length ≤ 9223372036854775807) (w : World) (hS : RecAt 4 spL w v l) :
  Calls Tryz.prog 173 #[v,.int .i64 n] w fun e w' => e = .returned (.bool (spB l n)) ∧ Below w.heap.size w w' := by
 obtain ⟨a,cap,rfl,h2⟩ := hS.ex
 clear hS
 have hr : Hid (∀ (W : World) (m : Nat) (r : Sp) (x : Int),W.heap.size = m → Calls Tryz.prog 174 #[.slice (some ⟨m,0,none⟩) 4 4] (W.alloc (.cells #[.int .i64 r.n,.int .i64 1,.int .i64 x,.int .i64 r.s,.int .i64 0,.int .i64 64,.int .i64 r.t,.int .i64 0,.int .i64 15,.int .i64 r.k,.int .i64 0,.int .i64 1] 288)) fun e w' => e = .returned (.bool (decide (1 ≤ r.n ∧ r.n ≤ x ∧ chB r = true))) ∧ Below W.heap.size W w') := fun W m r x hm => by
  subst hm
  have h := keep_any _ (sp4 r x) (by show 4 ≤ 100; omega) _ (rec_new (k := 3) bdL_len W 288 (sp4 r x))
  rw [sp4_keep] at h
  refine h.mono ?_
  rintro e w' ⟨rfl,hb⟩
  exact ⟨rfl,((Below.refl _ W).alloc (Nat.le_refl _) _).trans (hb.mono (by simp))⟩
 have hw0 : Hid (spB l n = spB (l.drop 0) n) := rfl
 generalize hz : spB l n = z at hw0 ⊢
 clear hz
 go_enter Tryz.func173,Tryz.ntmps173
 go_wp2
 go_loopw [1,9] (fun q i wr => ∃ (k : Nat) (x : Int),k ≤ l.length ∧ i = .int .i64 k ∧ q = .int .i64 x ∧ 0 ≤ x ∧ x ≤ 4096 ∧ Below w.heap.size w wr ∧ Hid (z = spB (l.drop k) x)) (fun _ i _ => l.length - (intOf i).toNat)
 case atStart => exact ⟨0,n,by omega,rfl,rfl,by omega,by omega,Below.refl _ _,hw0⟩
 case round =>
  obtain ⟨k,x,hk,rfl,rfl,hx0,hx1,hb,hz⟩ := hrel
  by_cases hlt : k < l.length
  ·rcases h2 with h2 | ⟨b,o,rfl,hbl,hc⟩
   ·rw [h2] at hlt; simp at hlt
   ·have c0 : wr.cell? ⟨b,o + k * 4,none⟩ = some (.int .i64 l[k].n) := (hb.cell hbl).trans (hc k hlt 0 _ rfl)
    have c1 : wr.cell? ⟨b,o + k * 4 + 1,none⟩ = some (.int .i64 l[k].s) := (hb.cell hbl).trans (hc k hlt 1 _ rfl)
    have c2 : wr.cell? ⟨b,o + k * 4 + 2,none⟩ = some (.int .i64 l[k].t) := (hb.cell hbl).trans (hc k hlt 2 _ rfl)
    have c3 : wr.cell? ⟨b,o + k * 4 + 3,none⟩ = some (.int .i64 l[k].k) := (hb.cell hbl).trans (hc k hlt 3 _ rfl)
    have hlt' : (k : Int) < l.length := by omega
    have hw := hb.size
    have hr' : Hid (Calls Tryz.prog 174 #[.slice (some ⟨wr.heap.size + 1,0,none⟩) 4 4] ((wr.alloc (.cells #[.int .i64 l[k].n,.int .i64 l[k].s,.int .i64 l[k].t,.int .i64 l[k].k] 61)).alloc (.cells #[.int .i64 l[k].n,.int .i64 1,.int .i64 x,.int .i64 l[k].s,.int .i64 0,.int .i64 64,.int .i64 l[k].t,.int .i64 0,.int .i64 15,.int .i64 l[k].k,.int .i64 0,.int .i64 1] 288)) fun e w' => e = .returned (.bool (decide (1 ≤ l[k].n ∧ l[k].n ≤ x ∧ chB l[k] = true))) ∧ Below (wr.heap.size + 1) (wr.alloc (.cells #[.int .i64 l[k].n,.int .i64 l[k].s,.int .i64 l[k].t,.int .i64 l[k].k] 61)) w') := by
     have := hr.out (wr.alloc (.cells #[.int .i64 l[k].n,.int .i64 l[k].s,.int .i64 l[k].t,.int .i64 l[k].k] 61)) (wr.heap.size + 1) l[k] x (World.size_alloc _ _)
     rw [World.size_alloc] at this
     exact this
    have hbx : ∀ W,Below (wr.heap.size + 1) (wr.alloc (.cells #[.int .i64 l[k].n,.int .i64 l[k].s,.int .i64 l[k].t,.int .i64 l[k].k] 61)) W → W.cell? ⟨wr.heap.size,0,none⟩ = some (.int .i64 l[k].n) ∧ Below w.heap.size w W := fun W hB => by
     refine ⟨(hB.cell (by simp)).trans ?_,(hb.alloc hb.size _).trans (hB.mono (by omega))⟩
     rw [Lib.cell_of_heap (World.alloc_heap_new wr _)]; rfl
    have hst := spB_step hlt (n := x)
    have hno := spB_no hlt (n := x)
    have hst' : Hid (1 ≤ l[k].n ∧ l[k].n ≤ x ∧ chB l[k] = true → z = spB (l.drop (k + 1)) (x - l[k].n)) := fun h => hz.out.trans (hst h)
    have hno' : Hid (¬ (1 ≤ l[k].n ∧ l[k].n ≤ x ∧ chB l[k] = true) → z = false) := fun h => hz.out.trans (hno h)
    clear hst hno hz hr hc
    by_cases hv : 1 ≤ l[k].n ∧ l[k].n ≤ x ∧ chB l[k] = true
    ·rw [decide_eq_true hv] at hr'
     have hz' := hst'.out hv
     have hz2 : Hid (z = spB (l.drop (k + 1)) (x - l[k].n)) := hz'
     obtain ⟨hv1,hv2,_⟩ := hv
     clear hst' hno' hz'
     generalize l[k].n = x0 at *
     generalize l[k].s = x1 at *
     generalize l[k].t = x2 at *
     generalize l[k].k = x3 at *
     go_wp2_with (go_at_call 174; refine hr'.out.mono ?_; rintro e w' ⟨rfl,hB⟩; obtain ⟨d0,hB2⟩ := hbx _ hB)
     go_roundw
     case rel => exact ⟨k + 1,x - x0,by omega,by simp,by first | rfl | simp,by omega,by omega,hB2,hz2⟩
     case measure => simp [intOf]; omega
    ·rw [decide_eq_false hv] at hr'
     have hz' := hno'.out hv
     subst hz'
     clear hst' hno' hv
     generalize l[k].n = x0 at *
     generalize l[k].s = x1 at *
     generalize l[k].t = x2 at *
     generalize l[k].k = x3 at *
     go_wp2_with (go_at_call 174; refine hr'.out.mono ?_; rintro e w' ⟨rfl,hB⟩; obtain ⟨d0,hB2⟩ := hbx _ hB)
     go_ret
     exact ⟨rfl,hB2⟩
  ·have hge : ¬ (k : Int) < l.length := by omega
   obtain rfl : k = l.length := by omega
   have hz' := hz.out.trans (spB_end l x)
   subst hz'
   clear hz hr h2
   go_wp2_with fail
   all_goals go_ret
   all_goals refine ⟨?_,hb⟩
   all_goals congr 2
   all_goals (try rfl)
   all_goals (rw [Bool.eq_iff_iff]; simp)

end Go.Proofs.YtlgcnbomfhmjiaaGreatDoor

namespace Go.Proofs.YtlgcnbomfhmjiaaGreatDoor
open Go.RowKit Go.Shelf
set_option maxRecDepth 100000
set_option maxHeartbeats 1000000

def visB (s : ByteArray) : Bool := decide (∀ k,k < s.size → 32 < bt s k ∧ bt s k ≤ 126)
def standB (s : ByteArray) (a b : Int) : Bool := decide (a ≤ s.size ∧ (s.size : Int) ≤ b) && visB s
theorem vis_no {s : ByteArray} {k : Nat} (hk : k < s.size) (h : ¬ (32 < bt s k ∧ bt s k ≤ 126)) : visB s = false := decide_eq_false (fun ha => h (ha k hk))

theorem mayStand_any (s : ByteArray) (a b : Int) (hb : b ≤ 16) (w : World) : Calls Tryz.prog 176 #[.string s,.int .i64 a,.int .i64 b] w fun e w' => e = .returned (.bool (standB s a b)) ∧ w' = w := by
 by_cases h1 : a ≤ s.size
 ·by_cases h2 : (s.size : Int) ≤ b
  ·have e0 : standB s a b = visB s := by unfold standB; rw [decide_eq_true ⟨h1,h2⟩,Bool.true_and]
   rw [e0]
   clear e0
   have hN : Hid (∀ k,k < s.size → ¬ (32 < bt s k ∧ bt s k ≤ 126) → visB s = false) := fun k hk h => vis_no hk h
   have hY : Hid ((∀ k,k < s.size → 32 < bt s k ∧ bt s k ≤ 126) → visB s = true) := fun h => decide_eq_true h
   generalize visB s = r at hN hY ⊢
   go_enter Tryz.func176,Tryz.ntmps176
   go_wp2
   go_loopw [20] (fun i wr => ∃ k : Nat,k ≤ s.size ∧ i = .int .i64 k ∧ wr = w ∧ Hid (∀ j,j < k → 32 < bt s j ∧ bt s j ≤ 126)) (fun i _ => s.size - (intOf i).toNat)
   case atStart => exact ⟨0,by omega,rfl,rfl,fun j hj => by omega⟩
   case round =>
    obtain ⟨k,hk,rfl,rfl,hall⟩ := hrel
    by_cases hlt : k < s.size
    ·have hb0 : Hid (bt s k = ((s[k]'hlt).toNat : Int)) := bt_eq hlt
     have hno := hN.out k hlt
     have hno' : Hid (¬ (32 < bt s k ∧ bt s k ≤ 126) → r = false) := hno
     have hyes : Hid ((32 < bt s k ∧ bt s k ≤ 126) → ∀ j,j < k + 1 → 32 < bt s j ∧ bt s j ≤ 126) := fun hv j hj => by
      by_cases h : j < k
      ·exact hall.out j h
      ·obtain rfl : j = k := by omega
       exact hv
     clear hN hY hall hno
     by_cases d1 : ((s[k]'hlt).toNat : Int) ≤ 32
     ·have hn := hno'.out (by rw [hb0.out]; omega)
      subst hn
      clear hno' hyes hb0
      go_wp2_with fail
      go_ret
      exact ⟨rfl,rfl⟩
     ·by_cases d2 : 126 < ((s[k]'hlt).toNat : Int)
      ·have hn := hno'.out (by rw [hb0.out]; omega)
       subst hn
       clear hno' hyes hb0
       go_wp2_with fail
       go_ret
       exact ⟨rfl,rfl⟩
      ·have hy : Hid (∀ j,j < k + 1 → 32 < bt s j ∧ bt s j ≤ 126) := hyes.out (by rw [hb0.out]; omega)
       clear hno' hyes hb0
       go_wp2_with fail
       go_roundw
       case rel => exact ⟨k + 1,by omega,by simp,by first | rfl | trivial,hy⟩
       case measure => simp [intOf]; omega
    ·have hn := hY.out (fun j hj => hall.out j (by omega))
     clear hN hY hall
     subst hn
     go_wp2_with fail
     go_ret
     exact ⟨rfl,rfl⟩
  ·have e0 : standB s a b = false := by unfold standB; rw [decide_eq_false (fun h => h2 h.2),Bool.false_and]
   rw [e0]
   clear e0
   go_enter Tryz.func176,Tryz.ntmps176
   go_wp2
   go_ret
   exact ⟨rfl,rfl⟩
 ·have e0 : standB s a b = false := by unfold standB; rw [decide_eq_false (fun h => h1 h.1),Bool.false_and]
  rw [e0]
  clear e0
  go_enter Tryz.func176,Tryz.ntmps176
  go_wp2
  go_ret
  exact ⟨rfl,rfl⟩

def fieldB (t : ByteArray) : Bool := decide (∃ k,k < t.size ∧ bt t k = 3)
theorem mem_bt {t : ByteArray} {c : UInt8} : c ∈ t.data.toList ↔ ∃ k,k < t.size ∧ bt t k = (c.toNat : Int) := by
 constructor
 ·intro h
  obtain ⟨k,hk,rfl⟩ := List.getElem_of_mem h
  have hk' : k < t.size := by simpa using hk
  exact ⟨k,hk',by rw [bt_eq hk']; simp [ByteArray.getElem_eq_getElem_data]⟩
 ·rintro ⟨k,hk,e⟩
  rw [bt_eq hk] at e
  have : t[k] = c := UInt8.toNat_inj.1 (by omega)
  rw [← this]
  simp [ByteArray.getElem_eq_getElem_data]
theorem index_pos (l : List UInt8) (c : UInt8) : (0 ≤ Lib.indexByte l c) ↔ c ∈ l := by
 induction l with
 | nil => simp [Lib.indexByte]
 | cons b l ih =>
  have hg := Lib.indexByte_ge l c
  rw [Lib.indexByte]
  by_cases e : b = c
  ·simp [e]
  ·have e' : (b == c) = false := by simpa using e
   rw [e']
   by_cases h : Lib.indexByte l c = -1
   ·simp [h]
    have : ¬ c ∈ l := fun hm => by have := ih.2 hm; omega
    exact ⟨fun h => e h.symm,this⟩
   ·have h' : (Lib.indexByte l c == -1) = false := by simpa using h
    rw [h']
    have : c ∈ l := ih.1 (by omega)
    simp [this]
    omega
theorem field_index (t : ByteArray) : decide (0 ≤ Lib.indexByte t.data.toList 3) = fieldB t := by
 unfold fieldB
 rw [decide_eq_decide,index_pos,mem_bt]
 rfl

theorem liteIndex_any (t : ByteArray) (c : Int) (w : World) : Calls Tryz.prog 221 #[.string t,.int .u8 c] w fun e w' => e = .returned (.int .i64 (Lib.indexByte t.data.toList c.toNat.toUInt8)) ∧ w' = w := by
 go_enter Tryz.func221,Tryz.ntmps221
 go_wp2
 rw [run_callFunc_extern Tryz.func262 (by kernel_rfl) (by kernel_rfl) (by kernel_rfl) (e := Extern.BytealgIndexByte.indexByte) (by kernel_rfl),Lib.run_indexByteString]
 simp only [Result.andThen]
 rw [Oper.upon_value]
 go_wp2
 go_ret
 exact ⟨rfl,rfl⟩
theorem indexByte_any (t : ByteArray) (w : World) : Calls Tryz.prog 172 #[.string t,.int .u8 3] w fun e w' => e = .returned (.int .i64 (Lib.indexByte t.data.toList 3)) ∧ w' = w := by
 have h := liteIndex_any t 3 w
 go_enter Tryz.func172,Tryz.ntmps172
 go_wp2_with (go_at_call 221; refine h.mono ?_; rintro e w' ⟨rfl,hww⟩; subst w')
 go_ret
 exact ⟨rfl,rfl⟩

def refN (t : ByteArray) : Nat → Nat
 | 0 => 0
 | k + 1 => refN t k + (if bt t k = 2 then 1 else 0)
theorem refN_take (t : ByteArray) : ∀ k,k ≤ t.size → refN t k = (t.data.toList.take k).count 2
 | 0,_ => by simp [refN]
 | k + 1, h => by
  have hk : k < t.data.toList.length := by simp; omega
  rw [List.take_succ_eq_append_getElem hk,List.count_append,refN,refN_take t k (by omega)]
  have e : bt t k = ((t.data.toList[k]).toNat : Int) := by rw [bt_eq (by omega)]; simp [ByteArray.getElem_eq_getElem_data]
  rw [e]
  congr 1
  by_cases h2 : t.data.toList[k] = 2
  ·rw [h2]; rfl
  ·have h3 : ¬ ((t.data.toList[k]).toNat : Int) = 2 := fun h => h2 (UInt8.toNat_inj.1 (by show _ = 2; omega))
   rw [if_neg h3]
   generalize t.data.toList[k] = y at h2
   simp [h2]
theorem refN_count (t : ByteArray) : t.data.toList.count 2 = refN t t.size := by
 rw [refN_take t t.size (Nat.le_refl _)]
 congr 1
 symm
 apply List.take_of_length_le
 simp
theorem refN_le (t : ByteArray) : ∀ k,refN t k ≤ k
 | 0 => Nat.le_refl _
 | k + 1 => by
  have := refN_le t k
  show refN t k + (if bt t k = 2 then 1 else 0) ≤ k + 1
  split <;> omega

theorem count_any (t : ByteArray) (w : World) : Calls Tryz.prog 222 #[.string t,.string { data := #[2] }] w fun e w' => e = .returned (.int .i64 (refN t t.size : Nat)) ∧ w' = w := by
 have hcnt : Lib.countByte t.data.toList 2 = refN t t.size := refN_count t
 go_enter Tryz.func222,Tryz.ntmps222
 go_wp2
 rw [run_callFunc_extern Tryz.func264 (by kernel_rfl) (by kernel_rfl) (by kernel_rfl) (e := Extern.BytealgCount.count) (by kernel_rfl),Lib.run_countString]
 simp only [Result.andThen]
 rw [Oper.upon_value]
 go_wp2
 go_ret
 exact ⟨by rw [← hcnt]; rfl,rfl⟩

end Go.Proofs.YtlgcnbomfhmjiaaGreatDoor

namespace Go.Proofs.YtlgcnbomfhmjiaaGreatDoor
open Go.RowKit Go.Shelf
set_option maxRecDepth 100000
set_option maxHeartbeats 1000000

def pairs2 : List (Int × Int) := [(65,84),(65,86),(65,87),(65,89),(84,65),(86,65),(87,65),(89,65),(76,84),(76,86),(76,89),(80,65),(84,111),(84,97),(84,101),(86,111),(86,97),(89,111),(89,97)]
def pairs1 : List (Int × Int) := [(114,46),(114,44),(102,46),(102,44),(118,46),(121,46),(65,118),(65,121),(111,118),(118,111)]
def txt2 : ByteArray := { data := #[65,84,65,86,65,87,65,89,84,65,86,65,87,65,89,65,76,84,76,86,76,89,80,65,84,111,84,97,84,101,86,111,86,97,89,111,89,97] }
def txt1 : ByteArray := { data := #[114,46,114,44,102,46,102,44,118,46,121,46,65,118,65,121,111,118,118,111] }
def prs (p : ByteArray) (n : Nat) : List (Int × Int) := (List.range n).map (fun i => (bt p (2 * i),bt p (2 * i + 1)))
theorem prs2 : prs txt2 19 = pairs2 := by decide +kernel
theorem prs1 : prs txt1 10 = pairs1 := by decide +kernel
def hasB (l : List (Int × Int)) (a b : Int) : Bool := decide ((a,b) ∈ l)
def kernI (a b s : Int) : Int := if hasB pairs2 a b = true then -((2 * s) / 16) else if hasB pairs1 a b = true then -(s / 16) else 0
theorem kernI_rng (a b : Int) {s : Int} (h0 : 0 ≤ s) (h1 : s ≤ 64) : -8 ≤ kernI a b s ∧ kernI a b s ≤ 0 := by
 unfold kernI
 repeat' split
 all_goals omega

theorem hasPair_any (p : ByteArray) (n : Nat) (hp : p.size = 2 * n) (hn : n ≤ 100) (a b : Int) (w : World) :
  Calls Tryz.prog 223 #[.string p,.int .u8 a,.int .u8 b] w fun e w' => e = .returned (.bool (hasB (prs p n) a b)) ∧ w' = w := by
 have hY : Hid (∀ k,k < n → bt p (2 * k) = a → bt p (2 * k + 1) = b → hasB (prs p n) a b = true) := fun k hk e1 e2 => by
  refine decide_eq_true (List.mem_map.2 ⟨k,List.mem_range.2 hk,?_⟩)
  rw [e1,e2]
 have hN : Hid ((∀ k,k < n → ¬ (bt p (2 * k) = a ∧ bt p (2 * k + 1) = b)) → hasB (prs p n) a b = false) := fun h => by
  refine decide_eq_false (fun hm => ?_)
  obtain ⟨k,hk,e⟩ := List.mem_map.1 hm
  exact h k (List.mem_range.1 hk) ⟨congrArg Prod.fst e,congrArg Prod.snd e⟩
 generalize hasB (prs p n) a b = r at hY hN ⊢
 have hp1 : p.size ≤ 2 * n := by omega
 have hp2 : 2 * n ≤ p.size := by omega
 clear hp
 go_enter Tryz.func223,Tryz.ntmps223
 go_wp2
 go_loopw [7] (fun i wr => ∃ k : Nat,k ≤ n ∧ i = .int .i64 (2 * k : Nat) ∧ wr = w ∧ Hid (∀ j,j < k → ¬ (bt p (2 * j) = a ∧ bt p (2 * j + 1) = b))) (fun i _ => p.size - (intOf i).toNat)
 case atStart => exact ⟨0,by omega,rfl,rfl,fun j hj => by omega⟩
 case round =>
  obtain ⟨k,hk,rfl,rfl,hall⟩ := hrel
  by_cases hlt : k < n
  ·have hl0 : 2 * k < p.size := by omega
   have hl1 : 2 * k + 1 < p.size := by omega
   have hb0 : Hid (bt p (2 * k) = ((p[2 * k]'hl0).toNat : Int)) := bt_eq hl0
   have hb1 : Hid (bt p (2 * k + 1) = ((p[2 * k + 1]'hl1).toNat : Int)) := bt_eq hl1
   go_wp2_with fail
   ·rename_i h0 _ h1
    have hn := hY.out k hlt (hb0.out.trans h0) (hb1.out.trans (by simpa using h1))
    subst hn
    go_ret
    exact ⟨rfl,rfl⟩
   ·rename_i _ _ h1
    have hyes : Hid (∀ j,j < k + 1 → ¬ (bt p (2 * j) = a ∧ bt p (2 * j + 1) = b)) := fun j hj => by
     by_cases h : j < k
     ·exact hall.out j h
     ·obtain rfl : j = k := by omega
      rintro ⟨_,e⟩
      rw [hb1.out] at e
      simp [e] at h1
    clear hY hN hall hb0 hb1 h1
    refine ⟨⟨k + 1,by omega,by simp; omega,trivial,hyes⟩,?_⟩
    simp [intOf]; omega
   ·rename_i h0
    have hyes : Hid (∀ j,j < k + 1 → ¬ (bt p (2 * j) = a ∧ bt p (2 * j + 1) = b)) := fun j hj => by
     by_cases h : j < k
     ·exact hall.out j h
     ·obtain rfl : j = k := by omega
      rintro ⟨e,_⟩
      rw [hb0.out] at e
      exact h0 e
    clear hY hN hall hb0 hb1 h0
    refine ⟨⟨k + 1,by omega,by simp; omega,trivial,hyes⟩,?_⟩
    simp [intOf]; omega
  ·have hn := hN.out (fun j hj => hall.out j (by omega))
   have hge : ¬ (2 * (k : Int)) < p.size := by omega
   clear hY hN hall
   subst hn
   go_wp2_with fail
   go_ret
   exact ⟨rfl,rfl⟩

theorem kern_any (a b s : Int) (h0 : 0 ≤ s) (h1 : s ≤ 64) (w : World) : Calls Tryz.prog 184 #[.int .u8 a,.int .u8 b,.int .i64 s] w fun e w' => e = .returned (.int .i64 (kernI a b s)) ∧ w' = w := by
 have c2 := hasPair_any txt2 19 rfl (by decide) a b w
 have c1 := hasPair_any txt1 10 rfl (by decide) a b w
 rw [prs2] at c2
 rw [prs1] at c1
 have q2 : (2 * s).tdiv 16 = 2 * s / 16 := Int.tdiv_eq_ediv_of_nonneg (by omega)
 have q1 : s.tdiv 16 = s / 16 := Int.tdiv_eq_ediv_of_nonneg (by omega)
 by_cases e2 : hasB pairs2 a b = true
 ·have ek : kernI a b s = -((2 * s) / 16) := by unfold kernI; rw [if_pos e2]
  rw [ek]
  rw [e2] at c2
  clear ek e2 c1
  go_enter Tryz.func184,Tryz.ntmps184
  go_wp2_with fail
  refine c2.mono ?_
  rintro e w' ⟨rfl,hww⟩
  subst w'
  go_wp2_with fail
  go_ret
  exact ⟨rfl,rfl⟩
 ·have e2' : hasB pairs2 a b = false := by simpa using e2
  rw [e2'] at c2
  by_cases e1 : hasB pairs1 a b = true
  ·have ek : kernI a b s = -(s / 16) := by unfold kernI; rw [if_neg e2,if_pos e1]
   rw [ek]
   rw [e1] at c1
   clear ek e2 e2' e1
   go_enter Tryz.func184,Tryz.ntmps184
   go_wp2_with fail
   refine c2.mono ?_
   rintro e w' ⟨rfl,hww⟩
   subst w'
   go_wp2_with fail
   refine c1.mono ?_
   rintro e w' ⟨rfl,hww⟩
   subst w'
   go_wp2_with fail
   go_ret
   exact ⟨rfl,rfl⟩
  ·have ek : kernI a b s = 0 := by unfold kernI; rw [if_neg e2,if_neg e1]
   have e1' : hasB pairs1 a b = false := by simpa using e1
   rw [ek]
   rw [e1'] at c1
   clear ek e2 e2' e1 e1'
   go_enter Tryz.func184,Tryz.ntmps184
   go_wp2_with fail
   refine c2.mono ?_
   rintro e w' ⟨rfl,hww⟩
   subst w'
   go_wp2_with fail
   refine c1.mono ?_
   rintro e w' ⟨rfl,hww⟩
   subst w'
   go_wp2_with fail
   go_ret
   exact ⟨rfl,rfl⟩

end Go.Proofs.YtlgcnbomfhmjiaaGreatDoor

namespace Go.Proofs.YtlgcnbomfhmjiaaGreatDoor
open Go.RowKit Go.Shelf

structure StrsAt (W : World) (v : Value) (ns : List ByteArray) : Prop where
 ex : ∃ a cap,v = .slice a ns.length cap ∧ (ns = [] ∨ ∃ g o,a = some ⟨g,o,none⟩ ∧ g < W.heap.size ∧ ∀ (i : Nat) (h : i < ns.length),W.cell? ⟨g,o + i,none⟩ = some (.string ns[i]))
 le : ∀ a n c,v = .slice a n c → n ≤ c
theorem StrsAt.below {W W' : World} {n : Nat} {v : Value} {ns : List ByteArray} (h : StrsAt W v ns) (hb : Below n W W') (hn : W.heap.size ≤ n) : StrsAt W' v ns := by
 have hle := h.le
 obtain ⟨a,cap,rfl,h2⟩ := h.ex
 refine ⟨⟨a,cap,rfl,?_⟩,hle⟩
 rcases h2 with h2 | ⟨g,o,rfl,hlt,hc⟩
 ·exact .inl h2
 ·exact .inr ⟨g,o,rfl,Nat.lt_of_lt_of_le hlt hb.size,fun i hi => (hb.cell (Nat.lt_of_lt_of_le hlt hn)).trans (hc i hi)⟩
end Go.Proofs.YtlgcnbomfhmjiaaGreatDoor

namespace Go.Proofs.YtlgcnbomfhmjiaaGreatDoor
open Go.RowKit Go.Shelf
set_option maxRecDepth 100000
set_option maxHeartbeats 2000000

theorem properties_any (p : Pr) (w : World) :
  Calls Tryz.prog 175 #[.agg (prL p).toArray] w fun e w' => ∃ v,e = .returned v ∧ RecAt 3 bdL w' v (prB p) ∧ Below w.heap.size w w' := by
 have hr := fun W : World => rec_new (k := 3) bdL_len W 288 (prB p)
 obtain ⟨x0,x1,x2,x3,x4,x5,x6,x7,x8,x9,x10,x11,x12,x13,x14,x15,x16⟩ := p
 show Calls Tryz.prog 175 #[.agg #[.int .i64 x0,.int .i64 x1,.int .i64 x2,.int .i64 x3,.int .i64 x4,.int .i64 x5,.int .i64 x6,.int .i64 x7,.int .i64 x8,.int .i64 x9,.int .i64 x10,.int .i64 x11,.int .i64 x12,.int .i64 x13,.int .i64 x14,.int .i64 x15,.int .i64 x16]] w _
 go_enter Tryz.func175,Tryz.ntmps175
 go_wp2
 go_ret
 have h1 := hr (w.alloc (.cells #[.int .i64 x0,.int .i64 x1,.int .i64 x2,.int .i64 x3,.int .i64 x4,.int .i64 x5,.int .i64 x6,.int .i64 x7,.int .i64 x8,.int .i64 x9,.int .i64 x10,.int .i64 x11,.int .i64 x12,.int .i64 x13,.int .i64 x14,.int .i64 x15,.int .i64 x16] 33))
 rw [World.size_alloc] at h1
 have hb := (Below.refl w.heap.size w).alloc (Nat.le_refl _) (.cells #[.int .i64 x0,.int .i64 x1,.int .i64 x2,.int .i64 x3,.int .i64 x4,.int .i64 x5,.int .i64 x6,.int .i64 x7,.int .i64 x8,.int .i64 x9,.int .i64 x10,.int .i64 x11,.int .i64 x12,.int .i64 x13,.int .i64 x14,.int .i64 x15,.int .i64 x16] 33)
 exact ⟨_,rfl,h1,hb.alloc hb.size _⟩

end Go.Proofs.YtlgcnbomfhmjiaaGreatDoor
