/-
  What is proved here: OverItems of no list; what paragraphs in other memory have.
  What is proved here: what the document's joined answers of two masses.
  What is proved here: the places within words, marked mass by mass, are those marked word by word (no program is named).
  What is proved here: where the document's Items cuts, as the program's does (no program is named).
  What is proved here: the drawn regions of the document's lone and box.
-/
import Derived.Test.YthcphnifnfnceaaGreatDoorG23
import Derived.Test.YthcphnifnfnceaaGreatDoorG24
import Derived.Test.YthcphnifnfnceaaGreatDoorG25
import Derived.Test.YthcphnifnfnceaaGreatDoorG22
import Derived.Deep.QuietTactic
import Derived.Test.YthcphnifnfnceaaGreatDoorG2
import Derived.Test.YthcphnifnfnceaaGreatDoorG11
namespace Go.Proofs.YthcphnifnfnceaaGreatDoor
open Go.RowKit Go.Shelf
set_option maxRecDepth 100000
set_option maxHeartbeats 1000000

theorem iover_nil (w : World) : Calls Tryz.prog 13 #[.slice none 0 0] w fun e w' => e = .returned (.tuple #[]) ∧ w' = w := by
 go_enter Tryz.func13,Tryz.ntmps13
 go_wp2_with fail
 go_loopw [3] (fun i wr => i = .int .i64 0 ∧ wr = w) (fun _ _ => 0)
 case atStart => exact ⟨rfl,rfl⟩
 case round =>
  obtain ⟨rfl,rfl⟩ := hrel
  go_wp2_with fail
  go_returns
  exact ⟨rfl,rfl⟩
theorem over_first {w W : World} {v : Value} {xs : List It} (ho : W.ownsRow w.heap.size 51 8 v xs.length (xs.flatMap itL)) (hf : FillI W v) :
  ∃ X : Nat → Prop,(∀ k,X k → w.heap.size ≤ k ∧ k < W.heap.size) ∧ ∀ W2,Below W.heap.size W W2 → Calls Tryz.prog 13 #[v] W2 fun e w' => e = .returned (.tuple #[]) ∧ Turns X W2 w' := by
 rcases ho.2 with ⟨rfl,-⟩ | ⟨g,cap,cur,rfl,hg,hh,h1,h2,h3,-⟩
 ·exact ⟨fun _ => False,fun _ h => h.elim,fun W2 _ => (iover_nil W2).mono fun e w' ⟨he,hw⟩ => ⟨he,by subst hw; exact Turns.refl _ _⟩⟩
 ·have hlt : g < W.heap.size := (Array.getElem?_eq_some_iff.1 hh).1
  refine ⟨fun k => k = g,fun k hk => by subst hk; exact ⟨hg,hlt⟩,fun W2 hb => ?_⟩
  exact iover_any g _ cap h1 h2 W2 ⟨cur,(hb.block g hlt).trans hh,h3,hf g _ cap cur rfl hh⟩
theorem over_none {w W : World} : ∃ X : Nat → Prop,(∀ k,X k → w.heap.size ≤ k ∧ k < W.heap.size) ∧ ∀ W2,Below W.heap.size W W2 → Calls Tryz.prog 13 #[.slice none 0 0] W2 fun e w' => e = .returned (.tuple #[]) ∧ Turns X W2 w' :=
 ⟨fun _ => False,fun _ h => h.elim,fun W2 _ => (iover_nil W2).mono fun e w' ⟨he,hw⟩ => ⟨he,by subst hw; exact Turns.refl _ _⟩⟩
def tellL (a : Pa) : List It := if chkI a = 0 then itemsOf a else []
theorem its_nil (W : World) : ItsAt W (.slice none 0 0) [] := ⟨⟨none,0,rfl,.inl rfl⟩,fun a n c e => by cases e; exact Nat.le_refl _⟩
theorem items_tell (a : Pa) (w : World) (hA : PaAt w a) (htb : Hy.Tab w) : Calls Tryz.prog 9 #[paV a] w fun e w' => ∃ v,e = .returned (.tuple #[v,.int .i64 (chkI a)]) ∧ ItsAt w' v (tellL a) ∧ Below w.heap.size w w' ∧ ∃ X : Nat → Prop,(∀ k,X k → w.heap.size ≤ k ∧ k < w'.heap.size) ∧ ∀ W2,Below w'.heap.size w' W2 → Calls Tryz.prog 13 #[v] W2 fun e w' => e = .returned (.tuple #[]) ∧ Turns X W2 w' := by
 refine (items_all a w hA htb).mono ?_
 rintro e w' ⟨⟨v,rfl,hv⟩,hb⟩
 rcases hv with ⟨h1,rfl⟩ | ⟨h1,h2,h3⟩
 ·refine ⟨_,rfl,?_,hb,over_none⟩
  unfold tellL
  rw [if_neg h1]
  exact its_nil _
 ·refine ⟨v,rfl,?_,hb,over_first h2 h3⟩
  unfold tellL
  rw [if_pos h1]
  exact rec_of_row itL_len rfl h2
theorem tell_few (a : Pa) : (tellL a).length ≤ 9000 := by
 unfold tellL
 split
 ·rename_i h
  have h1 := its_few a.t (bodyL a) (pdOf a)
  have h2 := bodyL_few (good_of h)
  show (itsL a.t (bodyL a) (pdOf a)).length ≤ 9000
  omega
 ·simp
end Go.Proofs.YthcphnifnfnceaaGreatDoor

namespace Go.Proofs.YthcphnifnfnceaaGreatDoor
open Go.RowKit Go.Shelf
set_option maxRecDepth 100000
set_option maxHeartbeats 2000000

def joB (l : List Ms) (k : Nat) : Bool := decide (0 < k ∧ (mAt l k).k = 1 ∧ (mAt l (k - 1)).k = 1 ∧ (mAt l k).s = (mAt l (k - 1)).s)
theorem joined_any (v : Value) (l : List Ms) (k : Nat) (hk : k < l.length) (hl : l.length ≤ 4096) (w : World) (hS : RecAt 6 msL w v l) :
  Calls Tryz.prog 80 #[v,.int .i64 k] w fun e w' => e = .returned (.bool (joB l k)) ∧ Below w.heap.size w w' := by
 obtain ⟨a,cap,rfl,-⟩ := hS.ex
 obtain ⟨g,o,rfl,hg,hc⟩ := ms_at hS hk
 have c2 := hc 2 _ rfl
 have c3 := hc 3 _ rfl
 have hk' : (k : Int) < l.length := by omega
 have hkb : (k : Int) ≤ 4096 := by omega
 unfold joB
 by_cases hk0 : 0 < k
 ·have hk1 : (0 : Int) < (k : Int) := by omega
  have h1k : (1 : Int) ≤ (k : Int) := by omega
  have hkm : (k : Int) - 1 < l.length := by omega
  obtain ⟨g',o',e,-,hc'⟩ := ms_at hS (i := k - 1) (by omega)
  cases e
  have d2 := hc' 2 _ rfl
  have d3 := hc' 3 _ rfl
  clear hS hc hc'
  generalize (mAt l k).k = k1 at *
  generalize (mAt l k).s = s1 at *
  generalize (mAt l (k - 1)).k = k2 at *
  generalize (mAt l (k - 1)).s = s2 at *
  by_cases e1 : k1 = 1
  ·by_cases e2 : k2 = 1
   ·by_cases e3 : s1 = s2
    ·rw [decide_eq_true ⟨hk0,e1,e2,e3⟩]
     subst e1 e2 e3
     go_enter Tryz.func80,Tryz.ntmps80
     go_wp2_with fail
     have g1 : decide ((0 : Int) < (k : Int)) = true := decide_eq_true hk1
     have g2 : decide (0 < k) = true := decide_eq_true hk0
     go_quiet (fail)
     go_wp2_with fail
     go_ret
     exact ⟨rfl,below_drewN (Below.refl _ _) _⟩
    ·rw [decide_eq_false (fun h => e3 h.2.2.2)]
     subst e1 e2
     have q3 : (s1 == s2) = false := by simpa using e3
     go_enter Tryz.func80,Tryz.ntmps80
     go_wp2_with fail
     have g1 : decide ((0 : Int) < (k : Int)) = true := decide_eq_true hk1
     have g2 : decide (0 < k) = true := decide_eq_true hk0
     go_quiet (fail)
     go_wp2_with fail
     go_ret
     exact ⟨rfl,below_drewN (Below.refl _ _) _⟩
   ·rw [decide_eq_false (fun h => e2 h.2.2.1)]
    subst e1
    have q2 : (k2 == 1) = false := by simpa using e2
    go_enter Tryz.func80,Tryz.ntmps80
    go_wp2_with fail
    have g1 : decide ((0 : Int) < (k : Int)) = true := decide_eq_true hk1
    have g2 : decide (0 < k) = true := decide_eq_true hk0
    go_quiet (fail)
    go_wp2_with fail
    go_ret
    exact ⟨rfl,below_drewN (Below.refl _ _) _⟩
  ·rw [decide_eq_false (fun h => e1 h.2.1)]
   have q1 : (k1 == 1) = false := by simpa using e1
   go_enter Tryz.func80,Tryz.ntmps80
   go_wp2_with fail
   have g1 : decide ((0 : Int) < (k : Int)) = true := decide_eq_true hk1
   have g2 : decide (0 < k) = true := decide_eq_true hk0
   go_quiet (fail)
   go_wp2_with fail
   go_ret
   exact ⟨rfl,below_drewN (Below.refl _ _) _⟩
 ·rw [decide_eq_false (fun h => hk0 h.1)]
  clear hS hc
  go_enter Tryz.func80,Tryz.ntmps80
  go_wp2_with fail
  have g1 : decide ((0 : Int) < (k : Int)) = false := decide_eq_false (by omega)
  have g2 : decide (0 < k) = false := decide_eq_false hk0
  go_quiet (fail)
  go_wp2_with fail
  go_ret
  exact ⟨rfl,below_drewN (Below.refl _ _) _⟩
end Go.Proofs.YthcphnifnfnceaaGreatDoor

namespace Go.Proofs.YthcphnifnfnceaaGreatDoor
open Go.RowKit Go.Shelf

def hitB (t : ByteArray) (l : List Ms) (a i : Nat) : Bool := decide (∃ j,j < (pts t l a).length ∧ a + ((pts t l a).getD j 0).toNat = i)
theorem pdAt_set {pd : List Bool} {p i : Nat} (hi : i < pd.length) : pdAt (pd.set p true) i = (pdAt pd i || decide (p = i)) := by
 unfold pdAt
 rw [List.getD_eq_getElem?_getD,List.getD_eq_getElem?_getD]
 by_cases e : p = i
 ·subst e
  rw [List.getElem?_set_self hi]
  simp
 ·rw [List.getElem?_set_ne e]
  simp [e]
theorem mkN_at {pd : List Bool} {a i : Nat} {ps : List Int} (hi : i < pd.length) : ∀ k,pdAt (mkN pd a ps k) i = (pdAt pd i || decide (∃ j,j < k ∧ a + (ps.getD j 0).toNat = i))
 | 0 => by simp [mkN]
 | k + 1 => by
  show pdAt ((mkN pd a ps k).set (a + (ps.getD k 0).toNat) true) i = _
  rw [pdAt_set (by rw [mkN_len]; exact hi),mkN_at hi k,Bool.or_assoc]
  congr 1
  rw [Bool.eq_iff_iff]
  simp only [Bool.or_eq_true,decide_eq_true_eq]
  constructor
  ·rintro (⟨j,h1,h2⟩ | h)
   ·exact ⟨j,by omega,h2⟩
   ·exact ⟨k,by omega,h⟩
  ·rintro ⟨j,h1,h2⟩
   by_cases e : j = k
   ·subst e; exact .inr h2
   ·exact .inl ⟨j,by omega,h2⟩
theorem mkA_at {t : ByteArray} {l : List Ms} {pd : List Bool} {a i : Nat} (hi : i < pd.length) : pdAt (mkA t l pd a) i = (pdAt pd i || hitB t l a i) := mkN_at hi _
def stB (l : List Ms) (a : Nat) : Bool := decide ((mAt l a).k = 1) && !joB l a
def anyB (t : ByteArray) (l : List Ms) (i a : Nat) : Nat → Bool
 | 0 => false
 | n + 1 => anyB t l i a n || (stB l (a + n) && hitB t l (a + n) i)
theorem any_join (t : ByteArray) (l : List Ms) (i a m : Nat) : ∀ n,anyB t l i a (m + n) = (anyB t l i a m || anyB t l i (a + m) n)
 | 0 => by simp [anyB]
 | n + 1 => by
  show (anyB t l i a (m + n) || (stB l (a + (m + n)) && hitB t l (a + (m + n)) i)) = _
  rw [any_join t l i a m n,Bool.or_assoc,show a + (m + n) = a + m + n by omega]
  rfl
theorem any_none {t : ByteArray} {l : List Ms} {i a : Nat} : ∀ n,(∀ j,j < n → stB l (a + j) = false) → anyB t l i a n = false
 | 0,_ => rfl
 | n + 1,h => by
  show (anyB t l i a n || (stB l (a + n) && hitB t l (a + n) i)) = false
  rw [any_none n (fun j hj => h j (by omega)),h n (by omega)]
  rfl
theorem wn_spec {l : List Ms} {a : Nat} (ha : a ≤ l.length) : (∀ i,i < wn l a → inW l a (a + i)) ∧ (a + wn l a = l.length ∨ ¬ inW l a (a + wn l a)) := by
 have key : ∀ n,a + n ≤ l.length → (∀ i,i < n → inW l a (a + i)) → ∃ m,(∀ i,i < m → inW l a (a + i)) ∧ a + m ≤ l.length ∧ (a + m = l.length ∨ ¬ inW l a (a + m)) := by
  intro n hn h
  obtain ⟨d,hd⟩ : ∃ d,a + n + d = l.length := ⟨l.length - (a + n),by omega⟩
  induction d generalizing n with
  | zero => exact ⟨n,h,by omega,.inl (by omega)⟩
  | succ d ih =>
   by_cases hx : inW l a (a + n)
   ·exact ih (n + 1) (by omega) (fun i hi => by
     by_cases e : i = n
     ·subst e; exact hx
     ·exact h i (by omega)) (by omega)
   ·exact ⟨n,h,by omega,.inr hx⟩
 obtain ⟨m,h1,h2,h3⟩ := key 0 (by omega) (fun i hi => by omega)
 have e := wn_is h1 h2 h3
 rw [e]
 exact ⟨h1,h3⟩
theorem pts_nil {t : ByteArray} {l : List Ms} {a : Nat} (h : wn l a = 0) : pts t l a = [] := by
 unfold pts
 rw [h]
 rfl
theorem hit_nil {t : ByteArray} {l : List Ms} {a i : Nat} (h : wn l a = 0) : hitB t l a i = false := by
 unfold hitB
 rw [pts_nil h]
 simp
theorem partG_at {t : ByteArray} {l : List Ms} {i : Nat} : ∀ n a (pd : List Bool),i < pd.length → l.length ≤ a + n → a ≤ l.length → (a < l.length → joB l a = false) → pdAt (partG t l n a pd) i = (pdAt pd i || anyB t l i a (l.length - a))
 | 0,a,pd,_,hn,_,_ => by
  rw [show l.length - a = 0 by omega]
  simp [partG,anyB]
 | n + 1, a, pd, hi, hn, ha, hj => by
  unfold partG
  by_cases hlt : a < l.length
  ·rw [if_pos hlt]
   obtain ⟨h1,h2⟩ := wn_spec ha
   have hle := wn_le ha
   have hmx : a + max (wn l a) 1 ≤ l.length := by omega
   have hj2 : a + max (wn l a) 1 < l.length → joB l (a + max (wn l a) 1) = false := fun hlt2 => by
    unfold joB
    refine decide_eq_false ?_
    rintro ⟨-,e1,e2,e3⟩
    by_cases h0 : wn l a = 0
    ·rw [h0] at h2 e2 
     rcases h2 with h2 | h2
     ·omega
     ·apply h2
      rw [show a + max 0 1 - 1 = a by omega] at e2
      rw [Nat.add_zero]
      exact ⟨e2,rfl⟩
    ·rw [show max (wn l a) 1 = wn l a by omega] at e1 e2 e3 hlt2
     rcases h2 with h2 | h2
     ·omega
     ·apply h2
      have hp := h1 (wn l a - 1) (by omega)
      rw [show a + (wn l a - 1) = a + wn l a - 1 by omega] at hp
      exact ⟨e1,e3.trans hp.2⟩
   rw [partG_at n _ _ (by unfold mkA; rw [mkN_len]; exact hi) (by omega) hmx hj2,mkA_at hi,Bool.or_assoc]
   congr 1
   rw [show l.length - a = max (wn l a) 1 + (l.length - (a + max (wn l a) 1)) by omega,any_join]
   congr 1
   -- the first word
   by_cases h0 : wn l a = 0
   ·rw [h0,hit_nil h0]
    show false = (false || (stB l (a + 0) && hitB t l (a + 0) i))
    rw [Nat.add_zero,hit_nil h0]
    simp
   ·rw [show max (wn l a) 1 = 1 + (wn l a - 1) by omega,any_join]
    have hst : stB l a = true := by
     unfold stB
     have := (h1 0 (by omega)).1
     rw [Nat.add_zero] at this
     rw [decide_eq_true this,hj hlt]
     rfl
    have e1 : anyB t l i a 1 = hitB t l a i := by
     show (false || (stB l (a + 0) && hitB t l (a + 0) i)) = _
     rw [Nat.add_zero,hst]
     simp
    rw [e1,any_none (wn l a - 1) (fun j hj' => by
     unfold stB
     have x1 := h1 (1 + j) (by omega)
     have x0 := h1 j (by omega)
     have : joB l (a + 1 + j) = true := by
      unfold joB
      refine decide_eq_true ⟨by omega,?_,?_,?_⟩
      ·rw [show a + 1 + j = a + (1 + j) by omega]; exact x1.1
      ·rw [show a + 1 + j - 1 = a + j by omega]; exact x0.1
      ·rw [show a + 1 + j - 1 = a + j by omega,show a + 1 + j = a + (1 + j) by omega]; exact x1.2.trans x0.2.symm
     rw [this]
     simp)]
    simp
  ·rw [if_neg hlt,show l.length - a = 0 by omega]
   simp [anyB]
def parR (t : ByteArray) (l : List Ms) (h : Int) : Nat → List Bool
 | 0 => List.replicate (l.length + 1) false
 | k + 1 => if stB l k = true ∧ h ≠ 0 then mkA t l (parR t l h k) k else parR t l h k
theorem parR_len (t : ByteArray) (l : List Ms) (h : Int) : ∀ k,(parR t l h k).length = l.length + 1
 | 0 => by simp [parR]
 | k + 1 => by
  unfold parR
  split
  ·unfold mkA; rw [mkN_len,parR_len t l h k]
  ·exact parR_len t l h k
theorem pdAt_rep (n i : Nat) : pdAt (List.replicate n false) i = false := by
 unfold pdAt
 rw [List.getD_eq_getElem?_getD,List.getElem?_replicate]
 split <;> rfl
theorem parR_at {t : ByteArray} {l : List Ms} {h : Int} (hh : h ≠ 0) {i : Nat} (hi : i < l.length + 1) : ∀ k,pdAt (parR t l h k) i = anyB t l i 0 k
 | 0 => pdAt_rep _ _
 | k + 1 => by
  unfold parR
  show _ = (anyB t l i 0 k || (stB l (0 + k) && hitB t l (0 + k) i))
  rw [Nat.zero_add]
  cases hs : stB l k
  ·rw [if_neg (fun h => by cases h.1),parR_at hh hi k]
   simp
  ·rw [if_pos ⟨rfl,hh⟩,mkA_at (by rw [parR_len]; exact hi),parR_at hh hi k]
   rfl
theorem parR_zero (t : ByteArray) (l : List Ms) : ∀ k,parR t l 0 k = List.replicate (l.length + 1) false
 | 0 => rfl
 | k + 1 => by unfold parR; rw [if_neg (fun h => h.2 rfl),parR_zero t l k]
theorem marks_same {t : ByteArray} {l : List Ms} {h : Int} (hh : h = 0 ∨ h = 1) {i : Nat} (hi : i < l.length) :
  pdAt (parR t l h l.length) i = pdAt (if h = 1 then partL t l (List.replicate l.length false) else List.replicate l.length false) i := by
 rcases hh with rfl | rfl
 ·rw [parR_zero,if_neg (by decide),pdAt_rep,pdAt_rep]
 ·rw [parR_at (by decide) (by omega),if_pos rfl]
  unfold partL
  rw [partG_at l.length 0 _ (by simpa using hi) (by omega) (by omega) (fun _ => decide_eq_false (fun h => by omega)),pdAt_rep,Nat.sub_zero]
  rfl
end Go.Proofs.YthcphnifnfnceaaGreatDoor

namespace Go.Proofs.YthcphnifnfnceaaGreatDoor
open Go.RowKit Go.Shelf

namespace Hy
theorem exc_one : ∀ x ∈ PX,∀ y ∈ excP x,1 ≤ y := by decide +kernel
theorem pt_one {l : Bs} {x : Int} (h : x ∈ ptV PP PX l) : 1 ≤ x := by
 unfold ptV at h
 cases hw : wordB l with
 | false => rw [hw] at h; simp at h
 | true =>
  rw [hw] at h
  simp only [if_true] at h
  cases he : exE PX (low l) with
  | some d =>
   rw [he] at h
   obtain ⟨y,h1,h2,rfl⟩ := exE_some _ PX rfl he
   exact exc_one y h1 x h
  | none =>
   rw [he] at h
   simp only [Option.getD_none] at h
   unfold oddV at h
   obtain ⟨j,hj,rfl⟩ := List.mem_map.1 h
   have := (List.mem_filter.1 hj).2
   simp only [Bool.and_eq_true,decide_eq_true_eq] at this
   omega
end Hy
theorem hit_in {t : ByteArray} {l : List Ms} {a i : Nat} (ha : a ≤ l.length) (h : hitB t l a i = true) : 0 < i ∧ (mAt l (i - 1)).k = 1 := by
 obtain ⟨j,hj,e⟩ := of_decide_eq_true h
 have hm : (pts t l a).getD j 0 ∈ pts t l a := by
  rw [List.getD_eq_getElem?_getD,List.getElem?_eq_getElem hj]
  exact List.getElem_mem hj
 have h1 := Hy.pt_one hm
 have h2 := Hy.pt_in hm
 rw [wdB_len] at h2
 have hw := (wn_spec ha).1 (((pts t l a).getD j 0).toNat - 1) (by omega)
 refine ⟨by omega,?_⟩
 rw [show a + (((pts t l a).getD j 0).toNat - 1) = i - 1 by omega] at hw
 exact hw.1
theorem any_in {t : ByteArray} {l : List Ms} {i : Nat} : ∀ n,n ≤ l.length → anyB t l i 0 n = true → 0 < i ∧ (mAt l (i - 1)).k = 1
 | 0,_,h => by cases h
 | n + 1,hn,h => by
  have h' : (anyB t l i 0 n || (stB l (0 + n) && hitB t l (0 + n) i)) = true := h
  rw [Bool.or_eq_true,Bool.and_eq_true,Nat.zero_add] at h'
  rcases h' with h' | h'
  ·exact any_in n (by omega) h'
  ·exact hit_in (by omega) h'.2
theorem pd_in {a : Pa} {i : Nat} (hi : i < (bodyL a).length) (h : pdAt (pdOf a) i = true) : 0 < i ∧ (mAt (bodyL a) (i - 1)).k = 1 := by
 unfold pdOf at h
 by_cases h1 : a.p.p12 = 1
 ·rw [if_pos h1] at h
  unfold partL at h
  rw [partG_at (bodyL a).length 0 _ (by simpa using hi) (by omega) (by omega) (fun _ => decide_eq_false (fun h => by omega)),pdAt_rep,Nat.sub_zero,Bool.false_or] at h
  exact any_in _ (Nat.le_refl _) h
 ·rw [if_neg h1,pdAt_rep] at h
  cases h
def rbN (l : List Ms) : Nat → Nat
 | 0 => 0
 | k + 1 => if alB (mAt l k) = true then k + 1 else rbN l k
theorem rbN_le (l : List Ms) : ∀ k,rbN l k ≤ k
 | 0 => Nat.le_refl _
 | k + 1 => by
  have := rbN_le l k
  unfold rbN
  split <;> omega
theorem rbN_in (l : List Ms) : ∀ k i,rbN l k ≤ i → i < k → alB (mAt l i) = false
 | 0,_,_,h => by omega
 | k + 1, i, h1, h2 => by
  unfold rbN at h1
  split at h1
  ·omega
  ·rename_i hn
   by_cases e : i = k
   ·subst e; simpa using hn
   ·exact rbN_in l k i h1 (by omega)
theorem rbN_at (l : List Ms) : ∀ k,rbN l k = 0 ∨ (0 < rbN l k ∧ alB (mAt l (rbN l k - 1)) = true)
 | 0 => .inl rfl
 | k + 1 => by
  unfold rbN
  split
  ·rename_i h
   exact .inr ⟨by omega,by rw [Nat.add_sub_cancel]; exact h⟩
  ·exact rbN_at l k
theorem sg_not {t : ByteArray} {m : Ms} (h : sgB t m = true) : alB m = false := by
 have := (of_decide_eq_true h).1
 unfold alB
 rw [decide_eq_false]
 omega
theorem let_not {m : Ms} (h : m.k = 1) : alB m = false := by
 unfold alB
 rw [decide_eq_false]
 omega
theorem cut_first {a : Pa} {k : Nat} (hk : k < (bodyL a).length) (h : k = frN a.t (bodyL a) (pdOf a) k ∨ k = 0) : cuB a.t (bodyL a) (pdOf a) k = false := by
 have hprev : k = 0 ∨ alB (mAt (bodyL a) (k - 1)) = true := by
  by_cases h0 : k = 0
  ·exact .inl h0
  ·right
   have e : k = frN a.t (bodyL a) (pdOf a) k := by
    rcases h with h | h
    ·exact h
    ·exact absurd h h0
   obtain ⟨j,rfl⟩ : ∃ j,k = j + 1 := ⟨k - 1,by omega⟩
   rw [Nat.add_sub_cancel]
   have hle := frN_le a.t (bodyL a) (pdOf a) j
   unfold frN at e
   split at e
   ·assumption
   ·split at e <;> omega
 unfold cuB
 have h1 : pdAt (pdOf a) k = false := by
  cases hp : pdAt (pdOf a) k
  ·rfl
  ·obtain ⟨h2,h3⟩ := pd_in hk hp
   rcases hprev with h0 | h0
   ·omega
   ·rw [let_not h3] at h0; cases h0
 have h2 : bsB a.t (bodyL a) k = false := by
  cases hb : bsB a.t (bodyL a) k
  ·rfl
  ·unfold bsB at hb
   simp only [Bool.and_eq_true,decide_eq_true_eq] at hb
   rcases hprev with h0 | h0
   ·omega
   ·rw [sg_not hb.1.1.2] at h0; cases h0
 rw [h1,h2]
 rfl
theorem dash_same {t : ByteArray} {l : List Ms} {k : Nat} (h0 : 0 < k) (_hk : alB (mAt l k) = false) : (sgB t (mAt l (k - 1)) && !sgB t (mAt l k) && decide (rbN l k < k - 1)) = bsB t l k := by
 unfold bsB
 cases h1 : sgB t (mAt l (k - 1))
 ·simp
 ·cases h2 : sgB t (mAt l k)
  ·simp only [Bool.true_and,Bool.not_false,Bool.and_true]
   have hn := sg_not h1
   by_cases h3 : rbN l k < k - 1
   ·rw [decide_eq_true h3,decide_eq_true (show 2 ≤ k by omega),rbN_in l k (k - 2) (by omega) (by omega)]
    rfl
   ·rw [decide_eq_false h3]
    by_cases h4 : 2 ≤ k
    ·have hle := rbN_le l k
     have e : rbN l k = k - 1 ∨ rbN l k = k := by omega
     have hal : alB (mAt l (k - 2)) = true := by
      rcases e with e | e
      ·rcases rbN_at l k with h | ⟨h,h'⟩
       ·omega
       ·rw [e,show k - 1 - 1 = k - 2 by omega] at h'; exact h'
      ·rcases rbN_at l k with h | ⟨h,h'⟩
       ·omega
       ·rw [e,hn] at h'; cases h'
     rw [hal]
     simp
    ·rw [decide_eq_false h4]
     rfl
  ·simp
end Go.Proofs.YthcphnifnfnceaaGreatDoor

namespace Go.Proofs.YthcphnifnfnceaaGreatDoor
open Go.RowKit Go.Shelf
set_option maxRecDepth 100000
set_option maxHeartbeats 1000000

def fr45l (v0 v1 v2 v3 v4 v5 v6 v7 v8 v9 xa xb xc xd xe xf xg xh xi xj xk xl xm xn xo xp xq xr xt xu xv xw xx xy xz : Value) : Act := { tmps := #[v0,v1,v2,v3,v4,v5,v6,v7,v8,v9,xa,xb,xc,xd,xe,xf,xg,xh,xi,xj,xk,xl,xm,xn,xo,xp,xq,xr,xt,xu,xv,xw,xx,xy,xz],defers := [] }
def ops45l_0 (ps : String) : Oper := ⟨some 27,.fieldAddr 58 (.tmp 1) 0,0,ps,#[],none⟩
def ops45l_1 (ps : String) : Oper := ⟨some 28,.load 3 (.tmp 27),3,ps,#[⟨0,.data⟩],none⟩
def ops45l_2 (ps : String) : Oper := ⟨some 29,.fieldAddr 58 (.tmp 1) 1,0,ps,#[],none⟩
def ops45l_3 (ps : String) : Oper := ⟨some 30,.load 3 (.tmp 29),3,ps,#[⟨2,.data⟩],none⟩
def ops45l_4 (ps : String) : Oper := ⟨some 31,.fieldAddr 58 (.tmp 1) 3,0,ps,#[],none⟩
def ops45l_5 (ps : String) : Oper := ⟨some 32,.load 3 (.tmp 31),3,ps,#[⟨4,.data⟩],none⟩
def ops45l_6 (ps : String) : Oper := ⟨some 33,.call ⟨.value (.func 44),#[.const (.int .u8 45),.tmp 32],#[5,3]⟩,3,ps,#[⟨5,.data⟩],none⟩
def ops45l_7 (ps : String) : Oper := ⟨some 34,.build 51 #[(0,.const (.int .i64 3)),(1,.tmp 28),(2,.tmp 30),(3,.tmp 33),(6,.const (.int .i64 50)),(7,.const (.bool true))],51,ps,#[⟨1,.data⟩,⟨3,.data⟩,⟨6,.data⟩],none⟩
def ops45l_8 (ps : String) : Oper := ⟨none,.store 51 (.tmp 2) (.tmp 34),0,ps,#[⟨7,.data⟩,⟨6,.chain⟩,⟨0,.phase⟩,⟨1,.phase⟩,⟨2,.phase⟩,⟨3,.phase⟩,⟨4,.phase⟩,⟨5,.phase⟩,⟨6,.phase⟩,⟨7,.phase⟩],none⟩
def ops45l (ps : String) : Array Oper := #[ops45l_0 ps,ops45l_1 ps,ops45l_2 ps,ops45l_3 ps,ops45l_4 ps,ops45l_5 ps,ops45l_6 ps,ops45l_7 ps,ops45l_8 ps]

theorem lo_r6 (Q : Exit → Act → World → Prop) (hQ : ∀ c x (n : Nat) v w,Q (.panic c) (x.put (some n) v) w → Q (.panic c) x w) (id : Nat) (ps : String) {v0 v3 v4 v5 v6 v7 v8 v9 xa xb xc xd xe xf xg xh xi xj xk xl xm xn xo xp xq xr xt xu xv xw xx xy xz : Value} (M D : Nat) (m : Ms) (x0 : It) (w : World) (hS : MX M m (World.drew w))
  (hc : Hid (∀ W : World,Calls Tryz.prog 44 #[.int .u8 45,.int .i64 m.s] W fun e w' => e = .returned (.int .i64 (hyW m.s)) ∧ w' = W)) (hI : IX (World.drew w) D x0) (hne : M ≠ D)
  (hq : Q .normal (fr45l v0 (.pointer (some ⟨M,0,none⟩)) (.pointer (some ⟨D,0,none⟩)) v3 v4 v5 v6 v7 v8 v9 xa xb xc xd xe xf xg xh xi xj xk xl xm xn xo xp xq (.pointer (some ⟨M,0,none⟩)) (.int .i64 m.f) (.pointer (some ⟨M,1,none⟩)) (.int .i64 m.t) (.pointer (some ⟨M,3,none⟩)) (.int .i64 m.s) (.int .i64 (hyW m.s)) (.agg (itC ⟨3,m.f,m.t,hyW m.s,0,0,50,true⟩))) ((World.drew w).setRow D (itC ⟨3,m.f,m.t,hyW m.s,0,0,50,true⟩))) :
  (Code.region id (ops45l ps) true).wp Tryz.prog Q (fr45l v0 (.pointer (some ⟨M,0,none⟩)) (.pointer (some ⟨D,0,none⟩)) v3 v4 v5 v6 v7 v8 v9 xa xb xc xd xe xf xg xh xi xj xk xl xm xn xo xp xq xr xt xu xv xw xx xy xz) w := by
 refine wp_region_held (S := MX M m) (by kernel_rfl) ?_
 change wpAnyH _ _ _ _ _ 9 _ _ (World.drew w)
 refine take_r 0 ⟨some 27,.fieldAddr 58 (.tmp 1) 0,0,ps,#[],none⟩ (.pointer (some ⟨M,0,none⟩)) hQ (fun w hS => by unfold fr45l; go_simp) hS ?_
 refine take_r 1 ⟨some 28,.load 3 (.tmp 27),3,ps,#[⟨0,.data⟩],none⟩ (.int .i64 m.f) hQ (fun w hS => by have e := hS.c0; unfold fr45l; go_simp) hS ?_
 refine take_r 2 ⟨some 29,.fieldAddr 58 (.tmp 1) 1,0,ps,#[],none⟩ (.pointer (some ⟨M,1,none⟩)) hQ (fun w hS => by unfold fr45l; go_simp) hS ?_
 refine take_r 3 ⟨some 30,.load 3 (.tmp 29),3,ps,#[⟨2,.data⟩],none⟩ (.int .i64 m.t) hQ (fun w hS => by have e := hS.c1; unfold fr45l; go_simp) hS ?_
 refine take_r 4 ⟨some 31,.fieldAddr 58 (.tmp 1) 3,0,ps,#[],none⟩ (.pointer (some ⟨M,3,none⟩)) hQ (fun w hS => by unfold fr45l; go_simp) hS ?_
 refine take_k 5 (ops45l_5 ps) (.int .i64 m.s) (fr45l v0 (.pointer (some ⟨M,0,none⟩)) (.pointer (some ⟨D,0,none⟩)) v3 v4 v5 v6 v7 v8 v9 xa xb xc xd xe xf xg xh xi xj xk xl xm xn xo xp xq (.pointer (some ⟨M,0,none⟩)) (.int .i64 m.f) (.pointer (some ⟨M,1,none⟩)) (.int .i64 m.t) (.pointer (some ⟨M,3,none⟩)) (.int .i64 m.s) xy xz) hQ (fun w hS => by have e := hS.c3; unfold fr45l ops45l_5; go_simp) hS ?_
 refine want_k 6 (ops45l_6 ps) fun K hK => ?_
 unfold fr45l ops45l_6
 go_simp
 refine (hc.out _).mono ?_
 rintro e w' ⟨rfl,hww⟩
 subst w'
 refine hK _ _ hS (cast_h (fr45l v0 (.pointer (some ⟨M,0,none⟩)) (.pointer (some ⟨D,0,none⟩)) v3 v4 v5 v6 v7 v8 v9 xa xb xc xd xe xf xg xh xi xj xk xl xm xn xo xp xq (.pointer (some ⟨M,0,none⟩)) (.int .i64 m.f) (.pointer (some ⟨M,1,none⟩)) (.int .i64 m.t) (.pointer (some ⟨M,3,none⟩)) (.int .i64 m.s) (.int .i64 (hyW m.s)) xz) (by kernel_rfl) ?_)
 clear hK K
 refine take_r 7 ⟨some 34,.build 51 #[(0,.const (.int .i64 3)),(1,.tmp 28),(2,.tmp 30),(3,.tmp 33),(6,.const (.int .i64 50)),(7,.const (.bool true))],51,ps,#[⟨1,.data⟩,⟨3,.data⟩,⟨6,.data⟩],none⟩ (.agg (itC ⟨3,m.f,m.t,hyW m.s,0,0,50,true⟩)) hQ (fun w hS => by unfold fr45l; go_simp; try rfl) hS ?_
 refine want_k 8 (ops45l_8 ps) fun K hK => ?_
 refine wp_store_row 51 _ _ (by unfold ops45l_8; rfl) D (itC ⟨3,m.f,m.t,hyW m.s,0,0,50,true⟩) rfl rfl 51 _ hI.row (info51 _) rfl (itC_one _) ?_
 have hS2 : MX M m ((World.drew w).setRow D (itC ⟨3,m.f,m.t,hyW m.s,0,0,50,true⟩)) := hS.turns (Turns.setRow (X := fun b => b = D) _ (r := D) rfl _) hne
 refine hK _ _ hS2 (cast_h (fr45l v0 (.pointer (some ⟨M,0,none⟩)) (.pointer (some ⟨D,0,none⟩)) v3 v4 v5 v6 v7 v8 v9 xa xb xc xd xe xf xg xh xi xj xk xl xm xn xo xp xq (.pointer (some ⟨M,0,none⟩)) (.int .i64 m.f) (.pointer (some ⟨M,1,none⟩)) (.int .i64 m.t) (.pointer (some ⟨M,3,none⟩)) (.int .i64 m.s) (.int .i64 (hyW m.s)) (.agg (itC ⟨3,m.f,m.t,hyW m.s,0,0,50,true⟩))) (by kernel_rfl) ?_)
 clear hK K
 exact wpAnyH_done (by kernel_rfl) hq _

theorem rec_turnsR {α : Type} {k : Nat} {f : α → List Value} {W W' : World} {X : Nat → Prop} {v : Value} {rs : List α} (h : RecAt k f W v rs) (ht : Turns X W W') (hx : ∀ b o n c,v = .slice (some ⟨b,o,none⟩) n c → ¬ X b) : RecAt k f W' v rs := by
 have hle := h.le
 obtain ⟨a,cap,rfl,h2⟩ := h.ex
 refine ⟨⟨a,cap,rfl,?_⟩,hle⟩
 rcases h2 with h2 | ⟨b,o,rfl,hlt,hc⟩
 ·exact .inl h2
 ·refine .inr ⟨b,o,rfl,Nat.lt_of_lt_of_le hlt ht.size,fun i hi j u hu => ?_⟩
  rw [World.cell?_of_block (ht.block b hlt (hx b o _ _ rfl))]
  exact hc i hi j u hu

structure RX (l : List Ms) (g o n cap F T : Nat) (f t : Int) (W : World) : Prop where
 lt : g < W.heap.size
 ms : RecAt 6 msL W (.slice (some ⟨g,o,none⟩) n cap) l
 c0 : W.cell? ⟨g,o + F * 6,none⟩ = some (.int .i64 f)
 c1 : W.cell? ⟨g,o + (T - 1) * 6 + 1,none⟩ = some (.int .i64 t)
theorem RX.turns {X : Nat → Prop} {W W' : World} {l : List Ms} {g o n cap F T : Nat} {f t : Int} (h : RX l g o n cap F T f t W) (ht : Turns X W W') (hn : ¬ X g) : RX l g o n cap F T f t W' := by
 have hb := ht.block g h.lt hn
 refine ⟨Nat.lt_of_lt_of_le h.lt ht.size,rec_turnsR h.ms ht (fun b _ _ _ e => by cases e; exact hn),?_,?_⟩
 ·have := h.c0; unfold World.cell? at this ⊢; rw [hb]; exact this
 ·have := h.c1; unfold World.cell? at this ⊢; rw [hb]; exact this
def fr43 (v0 v1 v2 v3 v4 v5 v6 v7 v8 v9 xa xb xc xd xe xf xg xh xi xj xk xl xm : Value) : Act := { tmps := #[v0,v1,v2,v3,v4,v5,v6,v7,v8,v9,xa,xb,xc,xd,xe,xf,xg,xh,xi,xj,xk,xl,xm],defers := [] }
def ops43_0 (ps : String) : Oper := ⟨some 7,.move (.tmp 0),54,ps,#[],none⟩
def ops43_1 (ps : String) : Oper := ⟨some 8,.move (.tmp 1),3,ps,#[],none⟩
def ops43_2 (ps : String) : Oper := ⟨some 9,.indexAddr 54 (.tmp 7) (.tmp 8),0,ps,#[⟨0,.data⟩,⟨1,.data⟩],none⟩
def ops43_3 (ps : String) : Oper := ⟨some 10,.fieldAddr 58 (.tmp 9) 0,0,ps,#[⟨2,.data⟩],none⟩
def ops43_4 (ps : String) : Oper := ⟨some 11,.load 3 (.tmp 10),3,ps,#[⟨3,.data⟩],none⟩
def ops43_5 (ps : String) : Oper := ⟨some 12,.move (.tmp 0),54,ps,#[],none⟩
def ops43_6 (ps : String) : Oper := ⟨some 13,.move (.tmp 2),3,ps,#[],none⟩
def ops43_7 (ps : String) : Oper := ⟨some 14,.binOp .sub 3 (.tmp 13) (.const (.int .i64 1)) 3,3,ps,#[⟨6,.data⟩],none⟩
def ops43_8 (ps : String) : Oper := ⟨some 15,.indexAddr 54 (.tmp 12) (.tmp 14),0,ps,#[⟨5,.data⟩,⟨7,.data⟩],none⟩
def ops43_9 (ps : String) : Oper := ⟨some 16,.fieldAddr 58 (.tmp 15) 1,0,ps,#[⟨8,.data⟩],none⟩
def ops43_10 (ps : String) : Oper := ⟨some 17,.load 3 (.tmp 16),3,ps,#[⟨9,.data⟩],none⟩
def ops43_11 (ps : String) : Oper := ⟨some 18,.move (.tmp 0),54,ps,#[],none⟩
def ops43_12 (ps : String) : Oper := ⟨some 19,.move (.tmp 1),3,ps,#[],none⟩
def ops43_13 (ps : String) : Oper := ⟨some 20,.move (.tmp 2),3,ps,#[],none⟩
def ops43_14 (ps : String) : Oper := ⟨some 21,.call ⟨.value (.func 83),#[.tmp 18,.tmp 19,.tmp 20],#[54,3,3]⟩,3,ps,#[⟨11,.data⟩,⟨12,.data⟩,⟨13,.data⟩],none⟩
def ops43_15 (ps : String) : Oper := ⟨some 22,.build 51 #[(0,.const (.int .i64 1)),(1,.tmp 11),(2,.tmp 17),(3,.tmp 21)],51,ps,#[⟨4,.data⟩,⟨10,.data⟩,⟨14,.data⟩],none⟩
def ops43_16 (ps : String) : Oper := ⟨none,.store 51 (.tmp 6) (.tmp 22),0,ps,#[⟨15,.data⟩,⟨14,.chain⟩,⟨0,.phase⟩,⟨1,.phase⟩,⟨2,.phase⟩,⟨3,.phase⟩,⟨4,.phase⟩,⟨5,.phase⟩,⟨6,.phase⟩,⟨7,.phase⟩,⟨8,.phase⟩,⟨9,.phase⟩,⟨10,.phase⟩,⟨11,.phase⟩,⟨12,.phase⟩,⟨13,.phase⟩,⟨14,.phase⟩,⟨15,.phase⟩],none⟩
def ops43 (ps : String) : Array Oper := #[ops43_0 ps,ops43_1 ps,ops43_2 ps,ops43_3 ps,ops43_4 ps,ops43_5 ps,ops43_6 ps,ops43_7 ps,ops43_8 ps,ops43_9 ps,ops43_10 ps,ops43_11 ps,ops43_12 ps,ops43_13 ps,ops43_14 ps,ops43_15 ps,ops43_16 ps]

theorem rb_r1 (Q : Exit → Act → World → Prop) (hQ : ∀ c x (n : Nat) v w,Q (.panic c) (x.put (some n) v) w → Q (.panic c) x w) (id : Nat) (ps : String) {v3 v4 v5 v7 v8 v9 xa xb xc xd xe xf xg xh xi xj xk xl xm : Value} (l : List Ms) (g o n cap F T D : Nat) (f t rn : Int) (x0 : It) (w : World) (hS : RX l g o n cap F T f t (World.drew w))
  (hF : (F : Int) < n) (hT : (T : Int) - 1 < n) (h1 : (1 : Int) ≤ T) (hw1 : IntKind.i64.wrap ((T : Int) - 1) = (T : Int) - 1) (hc : Hid (∀ W : World,RX l g o n cap F T f t W → Calls Tryz.prog 83 #[.slice (some ⟨g,o,none⟩) n cap,.int .i64 (F : Nat),.int .i64 (T : Nat)] W fun e w' => e = .returned (.int .i64 rn) ∧ w' = W)) (hI : IX (World.drew w) D x0) (hne : ¬ g = D)
  (hq : Q .normal (fr43 (.slice (some ⟨g,o,none⟩) n cap) (.int .i64 ((F : Nat))) (.int .i64 ((T : Nat))) v3 v4 v5 (.pointer (some ⟨D,0,none⟩)) (.slice (some ⟨g,o,none⟩) n cap) (.int .i64 ((F : Nat))) (.pointer (some ⟨g,o + F * 6,none⟩)) (.pointer (some ⟨g,o + F * 6,none⟩)) (.int .i64 f) (.slice (some ⟨g,o,none⟩) n cap) (.int .i64 ((T : Nat))) (.int .i64 ((T : Int) - 1)) (.pointer (some ⟨g,o + (T - 1) * 6,none⟩)) (.pointer (some ⟨g,o + (T - 1) * 6 + 1,none⟩)) (.int .i64 t) (.slice (some ⟨g,o,none⟩) n cap) (.int .i64 ((F : Nat))) (.int .i64 ((T : Nat))) (.int .i64 rn) (.agg (itC ⟨1,f,t,rn,0,0,0,false⟩))) ((World.drew w).setRow D (itC ⟨1,f,t,rn,0,0,0,false⟩))) :
  (Code.region id (ops43 ps) true).wp Tryz.prog Q (fr43 (.slice (some ⟨g,o,none⟩) n cap) (.int .i64 ((F : Nat))) (.int .i64 ((T : Nat))) v3 v4 v5 (.pointer (some ⟨D,0,none⟩)) v7 v8 v9 xa xb xc xd xe xf xg xh xi xj xk xl xm) w := by
 refine wp_region_held (S := RX l g o n cap F T f t) (by kernel_rfl) ?_
 change wpAnyH _ _ _ _ _ 17 _ _ (World.drew w)
 refine pures_h (fuel := 15) (by kernel_rfl) hQ hS [0,1] (fr43 (.slice (some ⟨g,o,none⟩) n cap) (.int .i64 ((F : Nat))) (.int .i64 ((T : Nat))) v3 v4 v5 (.pointer (some ⟨D,0,none⟩)) (.slice (some ⟨g,o,none⟩) n cap) (.int .i64 ((F : Nat))) v9 xa xb xc xd xe xf xg xh xi xj xk xl xm) (by kernel_rfl) (by kernel_rfl) ?_
 refine take_r 2 ⟨some 9,.indexAddr 54 (.tmp 7) (.tmp 8),0,ps,#[⟨0,.data⟩,⟨1,.data⟩],none⟩ (.pointer (some ⟨g,o + F * 6,none⟩)) hQ (fun w hS => by unfold fr43; go_simp) hS ?_
 refine take_r 3 ⟨some 10,.fieldAddr 58 (.tmp 9) 0,0,ps,#[⟨2,.data⟩],none⟩ (.pointer (some ⟨g,o + F * 6,none⟩)) hQ (fun w hS => by unfold fr43; go_simp) hS ?_
 refine take_r 4 ⟨some 11,.load 3 (.tmp 10),3,ps,#[⟨3,.data⟩],none⟩ (.int .i64 f) hQ (fun w hS => by have e := hS.c0; unfold fr43; go_simp) hS ?_
 refine pures_h (fuel := 10) (by kernel_rfl) hQ hS [5,6] (fr43 (.slice (some ⟨g,o,none⟩) n cap) (.int .i64 ((F : Nat))) (.int .i64 ((T : Nat))) v3 v4 v5 (.pointer (some ⟨D,0,none⟩)) (.slice (some ⟨g,o,none⟩) n cap) (.int .i64 ((F : Nat))) (.pointer (some ⟨g,o + F * 6,none⟩)) (.pointer (some ⟨g,o + F * 6,none⟩)) (.int .i64 f) (.slice (some ⟨g,o,none⟩) n cap) (.int .i64 ((T : Nat))) xe xf xg xh xi xj xk xl xm) (by kernel_rfl) (by kernel_rfl) ?_
 refine take_r 7 ⟨some 14,.binOp .sub 3 (.tmp 13) (.const (.int .i64 1)) 3,3,ps,#[⟨6,.data⟩],none⟩ (.int .i64 ((T : Int) - 1)) hQ (fun w hS => by unfold fr43; go_simp) hS ?_
 refine take_r 8 ⟨some 15,.indexAddr 54 (.tmp 12) (.tmp 14),0,ps,#[⟨5,.data⟩,⟨7,.data⟩],none⟩ (.pointer (some ⟨g,o + (T - 1) * 6,none⟩)) hQ (fun w hS => by unfold fr43; go_simp) hS ?_
 refine take_r 9 ⟨some 16,.fieldAddr 58 (.tmp 15) 1,0,ps,#[⟨8,.data⟩],none⟩ (.pointer (some ⟨g,o + (T - 1) * 6 + 1,none⟩)) hQ (fun w hS => by unfold fr43; go_simp) hS ?_
 refine take_r 10 ⟨some 17,.load 3 (.tmp 16),3,ps,#[⟨9,.data⟩],none⟩ (.int .i64 t) hQ (fun w hS => by have e := hS.c1; unfold fr43; go_simp) hS ?_
 refine pures_h (fuel := 3) (by kernel_rfl) hQ hS [11,12,13] (fr43 (.slice (some ⟨g,o,none⟩) n cap) (.int .i64 ((F : Nat))) (.int .i64 ((T : Nat))) v3 v4 v5 (.pointer (some ⟨D,0,none⟩)) (.slice (some ⟨g,o,none⟩) n cap) (.int .i64 ((F : Nat))) (.pointer (some ⟨g,o + F * 6,none⟩)) (.pointer (some ⟨g,o + F * 6,none⟩)) (.int .i64 f) (.slice (some ⟨g,o,none⟩) n cap) (.int .i64 ((T : Nat))) (.int .i64 ((T : Int) - 1)) (.pointer (some ⟨g,o + (T - 1) * 6,none⟩)) (.pointer (some ⟨g,o + (T - 1) * 6 + 1,none⟩)) (.int .i64 t) (.slice (some ⟨g,o,none⟩) n cap) (.int .i64 ((F : Nat))) (.int .i64 ((T : Nat))) xl xm) (by kernel_rfl) (by kernel_rfl) ?_
 refine want_k 14 (ops43_14 ps) fun K hK => ?_
 unfold fr43 ops43_14
 go_simp
 refine (hc.out _ hS).mono ?_
 rintro e w' ⟨rfl,hww⟩
 subst w'
 refine hK _ _ hS (cast_h (fr43 (.slice (some ⟨g,o,none⟩) n cap) (.int .i64 ((F : Nat))) (.int .i64 ((T : Nat))) v3 v4 v5 (.pointer (some ⟨D,0,none⟩)) (.slice (some ⟨g,o,none⟩) n cap) (.int .i64 ((F : Nat))) (.pointer (some ⟨g,o + F * 6,none⟩)) (.pointer (some ⟨g,o + F * 6,none⟩)) (.int .i64 f) (.slice (some ⟨g,o,none⟩) n cap) (.int .i64 ((T : Nat))) (.int .i64 ((T : Int) - 1)) (.pointer (some ⟨g,o + (T - 1) * 6,none⟩)) (.pointer (some ⟨g,o + (T - 1) * 6 + 1,none⟩)) (.int .i64 t) (.slice (some ⟨g,o,none⟩) n cap) (.int .i64 ((F : Nat))) (.int .i64 ((T : Nat))) (.int .i64 rn) xm) (by kernel_rfl) ?_)
 clear hK K
 refine take_r 15 ⟨some 22,.build 51 #[(0,.const (.int .i64 1)),(1,.tmp 11),(2,.tmp 17),(3,.tmp 21)],51,ps,#[⟨4,.data⟩,⟨10,.data⟩,⟨14,.data⟩],none⟩ (.agg (itC ⟨1,f,t,rn,0,0,0,false⟩)) hQ (fun w hS => by unfold fr43; go_simp; try rfl) hS ?_
 refine want_k 16 (ops43_16 ps) fun K hK => ?_
 refine wp_store_row 51 _ _ (by unfold ops43_16; rfl) D (itC ⟨1,f,t,rn,0,0,0,false⟩) rfl rfl 51 _ hI.row (info51 _) rfl (itC_one _) ?_
 have hS2 : RX l g o n cap F T f t ((World.drew w).setRow D (itC ⟨1,f,t,rn,0,0,0,false⟩)) := hS.turns (Turns.setRow (X := fun b => b = D) _ (r := D) rfl _) hne
 refine hK _ _ hS2 (cast_h (fr43 (.slice (some ⟨g,o,none⟩) n cap) (.int .i64 ((F : Nat))) (.int .i64 ((T : Nat))) v3 v4 v5 (.pointer (some ⟨D,0,none⟩)) (.slice (some ⟨g,o,none⟩) n cap) (.int .i64 ((F : Nat))) (.pointer (some ⟨g,o + F * 6,none⟩)) (.pointer (some ⟨g,o + F * 6,none⟩)) (.int .i64 f) (.slice (some ⟨g,o,none⟩) n cap) (.int .i64 ((T : Nat))) (.int .i64 ((T : Int) - 1)) (.pointer (some ⟨g,o + (T - 1) * 6,none⟩)) (.pointer (some ⟨g,o + (T - 1) * 6 + 1,none⟩)) (.int .i64 t) (.slice (some ⟨g,o,none⟩) n cap) (.int .i64 ((F : Nat))) (.int .i64 ((T : Nat))) (.int .i64 rn) (.agg (itC ⟨1,f,t,rn,0,0,0,false⟩))) (by kernel_rfl) ?_)
 clear hK K
 exact wpAnyH_done (by kernel_rfl) hq _
end Go.Proofs.YthcphnifnfnceaaGreatDoor
