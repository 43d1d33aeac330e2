/-
  What is proved here: what long, the document's Lower and Bare, and turned answer.
  What is proved here: what points hang on: neither the order of patterns nor the size of letters; that they rise, and keep letters on both sides (no function of the program is named).
  What is proved here: what the document's exception answers.
  What is proved here: exceptions without their signs, and where these stand (no function of the program is named).
-/
import Derived.Test.YthcphnifnfnceaaGreatDoorG21
namespace Go.Proofs.YthcphnifnfnceaaGreatDoor.Hy
open Go.RowKit Go.Shelf
set_option maxRecDepth 100000
set_option maxHeartbeats 2000000

def bare (l : Bs) : Bs := l.filter (fun c => !(c == 45))
theorem bare_snoc (l : Bs) (c : UInt8) : bare (l ++ [c]) = if c == 45 then bare l else bare l ++ [c] := by
 unfold bare
 rw [List.filter_append]
 by_cases h : (c == 45) = true <;> simp [h]
theorem ba_append (a : Bs) (b : ByteArray) : (⟨a.toArray⟩ : ByteArray) ++ b = ⟨(a ++ b.data.toList).toArray⟩ := by
 apply ba_eq
 rw [ByteArray.data_append]; simp
theorem extract_one {s : ByteArray} {k : Nat} (h : k < s.size) : s.extract k (k + 1) = ⟨#[s[k]'h]⟩ := by
 have e : (s.extract k (k + 1)).data.toList = [s[k]'h] := by
  rw [extract_ba,take_succ_ba h,List.drop_append_of_le_length (by rw [List.length_take,size_ba]; omega),List.drop_of_length_le (by rw [List.length_take]; omega)]; rfl
 rw [ba_eq e]
theorem bare_any (s : ByteArray) (hs : s.size ≤ 1000000) (w : World) : Calls Tryz.prog 120 #[.string s] w fun e w' => e = .returned (.string ⟨(bare (bs s)).toArray⟩) ∧ w' = w := by
 have hW : Hid (s.data.toList.take s.size = s.data.toList) := take_all_ba s
 go_enter Tryz.func120,Tryz.ntmps120
 go_wp2_with fail
 go_loopw [3,4] (fun o i wr => ∃ (k : Nat) (q : ByteArray),k ≤ s.size ∧ i = .int .i64 k ∧ o = .string q ∧ wr = w ∧ Hid (q = ⟨(bare (s.data.toList.take k)).toArray⟩)) (fun _ i _ => s.size - (intOf i).toNat)
 case atStart => exact ⟨0,⟨#[]⟩,by omega,rfl,rfl,rfl,rfl⟩
 case round =>
  obtain ⟨k,q,hk,rfl,rfl,rfl,hq⟩ := hrel
  by_cases hlt : k < s.size
  ·have ht1 := take_succ_ba hlt
   by_cases hc : (s[k]'hlt) = 45
   ·have hq2 : Hid (q = ⟨(bare (s.data.toList.take (k + 1))).toArray⟩) := by
     show _ = _
     rw [ht1,bare_snoc,if_pos (by simpa using hc)]; exact hq.out
    have f : (((s[k]'hlt).toNat : Int) == 45) = true := by rw [hc]; rfl
    clear ht1 hq hc hW
    go_wp2_with fail
    go_roundw
    case rel => exact ⟨k + 1,q,by omega,by simp,rfl,by first | rfl | trivial,hq2⟩
    case measure => simp [intOf]; omega
   ·obtain ⟨x,hx⟩ : ∃ x,s.extract k (k + 1) = x := ⟨_,rfl⟩
    have hq2 : Hid (q ++ x = ⟨(bare (s.data.toList.take (k + 1))).toArray⟩) := by
     show _ = _
     rw [ht1,bare_snoc,if_neg (by simpa using hc),hq.out,ba_append,← hx,extract_one hlt]
    have f : (((s[k]'hlt).toNat : Int) == 45) = false := by
     rw [beq_eq_false_iff_ne]
     intro e
     exact hc (UInt8.toNat_inj.1 (by show (s[k]'hlt).toNat = 45; omega))
    have f3 : ¬ 9223372036854775807 < q.size + x.size := by
     have h1 : q.size ≤ k := by
      rw [← size_ba,hq.out]
      exact Nat.le_trans (List.length_filter_le _ _) (by rw [List.length_take]; omega)
     have h2 : x.size = 1 := by rw [← hx,extract_one hlt]; rfl
     omega
    clear ht1 hq hc hW
    go_wp2_with fail
    go_roundw
    case rel => exact ⟨k + 1,q ++ x,by omega,by simp,by first | rfl | (congr 1),by first | rfl | trivial,hq2⟩
    case measure => simp [intOf]; omega
  ·obtain rfl : k = s.size := by omega
   rw [hW.out] at hq
   have := hq.out
   subst this
   clear hq hW
   go_wp2_with fail
   go_ret
   exact ⟨rfl,rfl⟩

theorem lower_byte {c : UInt8} : (Lib.lowerB c).toNat = if grI c.toNat then c.toNat + 32 else c.toNat := by
 unfold Lib.lowerB Lib.isUpperB
 by_cases h : grI c.toNat = true
 ·have hr := grI_rng h
  rw [if_pos h,if_pos (by
   simp only [Bool.and_eq_true,decide_eq_true_eq,UInt8.le_iff_toNat_le]
   exact ⟨by show 65 ≤ c.toNat; omega,by show c.toNat ≤ 90; omega⟩)]
  rw [UInt8.toNat_add]
  show (c.toNat + 32) % 2 ^ 8 = _
  omega
 ·rw [if_neg h,if_neg]
  intro hc
  simp only [Bool.and_eq_true,decide_eq_true_eq,UInt8.le_iff_toNat_le] at hc
  have h1 : 65 ≤ c.toNat := hc.1
  have h2 : c.toNat ≤ 90 := hc.2
  exact h (grI_yes (by omega) (by omega))
theorem lower_small {c : UInt8} : smI (Lib.lowerB c).toNat = ltr c := by
 rw [lower_byte]
 unfold ltr ltI
 by_cases h : grI c.toNat = true
 ·have hr := grI_rng h
  rw [if_pos h,h,Bool.or_true]
  exact smI_yes (by omega) (by omega)
 ·rw [if_neg h]
  have : grI c.toNat = false := by simpa using h
  rw [this,Bool.or_false]
theorem low_snoc (l : Bs) (c : UInt8) : low (l ++ [c]) = low l ++ [Lib.lowerB c] := by simp [low,Lib.toLowerA]
def lowV (l : Bs) : ByteArray := if l.all ltr then ⟨(low l).toArray⟩ else ⟨#[]⟩
theorem lower_any (s : ByteArray) (hs : s.size ≤ maxLen) (w : World) : Calls Tryz.prog 119 #[.string s] w fun e w' => e = .returned (.tuple #[.string (lowV (bs s)),.bool (wordB (bs s))]) ∧ Below w.heap.size w w' := by
 have hW : Hid (s.data.toList.take s.size = s.data.toList) := take_all_ba s
 unfold maxLen at hs
 have hno : Hid (∀ (k : Nat) (h : k < s.size),ltr (s[k]'h) = false → lowV (bs s) = ⟨#[]⟩ ∧ wordB (bs s) = false) := fun k h hc => by
  have ha : (bs s).all ltr = false := all_no_ba h hc
  refine ⟨?_,?_⟩
  ·unfold lowV; rw [ha]; rfl
  ·unfold wordB; rw [ha]; simp
 have hyes : Hid ((s.data.toList.take s.size).all ltr = true → lowV (bs s) = ⟨(low (s.data.toList.take s.size)).toArray⟩ ∧ wordB (bs s) = (decide (1 ≤ s.size) && decide (s.size ≤ 64))) := fun h => by
  rw [hW.out] at h ⊢
  refine ⟨?_,?_⟩
  ·unfold lowV; rw [if_pos h]
  ·unfold wordB; rw [h,size_ba,Bool.and_true]
 go_enter Tryz.func119,Tryz.ntmps119
 go_wp2_with fail
 go_loopw [4,5] (fun o i wr => ∃ (k : Nat) (q : ByteArray),k ≤ s.size ∧ i = .int .i64 k ∧ o = .string q ∧ Below w.heap.size w wr ∧ Hid (q = ⟨(low (s.data.toList.take k)).toArray⟩) ∧ Hid ((s.data.toList.take k).all ltr = true)) (fun _ i _ => s.size - (intOf i).toNat)
 case atStart => exact ⟨0,⟨#[]⟩,by omega,rfl,rfl,Below.refl _ _,rfl,rfl⟩
 case round =>
  obtain ⟨k,q,hk,rfl,rfl,hb,hq,ha⟩ := hrel
  by_cases hlt : k < s.size
  ·have ht1 := take_succ_ba hlt
   have hI := rsmall_any ((Lib.lowerB (s[k]'hlt)).toNat : Int)
   rw [lower_small] at hI
   have hlb := lower_byte (c := s[k]'hlt)
   have hstep : Hid (ltr (s[k]'hlt) = true → (q ++ (⟨#[Lib.lowerB (s[k]'hlt)]⟩ : ByteArray) = ⟨(low (s.data.toList.take (k + 1))).toArray⟩) ∧ (s.data.toList.take (k + 1)).all ltr = true) := fun hc => by
    refine ⟨?_,all_step_ba hlt ha.out hc⟩
    rw [ht1,low_snoc,hq.out,ba_append]
   have f3 : ¬ 9223372036854775807 < q.size + 1 := by
    have h1 : q.size ≤ k := by
     rw [← size_ba,hq.out]
     show (low _).length ≤ k
     unfold low Lib.toLowerA
     rw [List.length_map,List.length_take]; omega
    omega
   have hconv : Hid (∀ W : World,(convert 145 9 (.slice (some ⟨W.heap.size,0,none⟩) 1 1)).run Tryz.prog (W.alloc (.cells #[.int .u8 ((Lib.lowerB (s[k]'hlt)).toNat : Int)] 5)) = .ok (.string ⟨#[Lib.lowerB (s[k]'hlt)]⟩) (W.alloc (.cells #[.int .u8 ((Lib.lowerB (s[k]'hlt)).toNat : Int)] 5))) := fun W =>
    conv_bytes (base := 0) (l := [Lib.lowerB (s[k]'hlt)]) ⟨rfl,.inr ⟨W.heap.size,1,_,rfl,Nat.zero_le _,World.alloc_heap_new W _,Nat.le_refl _,by unfold maxLen; omega,rfl,rfl⟩⟩
   have hcv := hconv.out wr
   have hx1 : (⟨#[Lib.lowerB (s[k]'hlt)]⟩ : ByteArray).size = 1 := rfl
   have hbn := below_one hb (.cells #[.int .u8 ((Lib.lowerB (s[k]'hlt)).toNat : Int)] 5)
   have hn := hno.out k hlt
   have hnh : Hid (ltr (s[k]'hlt) = false → lowV (bs s) = ⟨#[]⟩ ∧ wordB (bs s) = false) := hn
   clear hno hyes hq ha hW hconv hn
   generalize Lib.lowerB (s[k]'hlt) = cl at *
   generalize (⟨#[cl]⟩ : ByteArray) = xx at *
   cases hg : grI (s[k]'hlt).toNat with
   | true =>
    have hr := grI_rng hg
    rw [if_pos hg] at hlb
    have hlb' : ((s[k]'hlt).toNat : Int) + 32 = (cl.toNat : Int) := by omega
    cases hc : ltr (s[k]'hlt) with
    | true =>
     rw [hc] at hI
     obtain ⟨g1,g2⟩ := hstep.out hc
     have g1h : Hid (q ++ xx = ⟨(low (s.data.toList.take (k + 1))).toArray⟩) := g1
     have g2h : Hid ((s.data.toList.take (k + 1)).all ltr = true) := g2
     clear hstep g1 g2 hc hnh ht1 hlb
     obtain ⟨hr1,hr2⟩ := hr
     go_wp2_with (go_at_call 153; refine (hI _).mono ?_; rintro e w' ⟨rfl,hww⟩; subst w')
     go_roundw
     case rel => exact ⟨k + 1,q ++ xx,by omega,by simp,rfl,hbn,g1h,g2h⟩
     case measure => simp [intOf]; omega
    | false =>
     exfalso
     unfold ltr ltI at hc
     rw [hg,Bool.or_true] at hc
     cases hc
   | false =>
    rw [if_neg (by rw [hg]; simp)] at hlb
    have hlb' : ((s[k]'hlt).toNat : Int) = (cl.toNat : Int) := by omega
    have hgr : ((s[k]'hlt).toNat : Int) < 65 ∨ 90 < ((s[k]'hlt).toNat : Int) := by
     apply Classical.byContradiction
     intro h
     have := grI_yes (x := ((s[k]'hlt).toNat : Int)) (by omega) (by omega)
     rw [hg] at this; cases this
    rw [← hlb'] at hI hcv hbn
    cases hc : ltr (s[k]'hlt) with
    | true =>
     rw [hc] at hI
     obtain ⟨g1,g2⟩ := hstep.out hc
     have g1h : Hid (q ++ xx = ⟨(low (s.data.toList.take (k + 1))).toArray⟩) := g1
     have g2h : Hid ((s.data.toList.take (k + 1)).all ltr = true) := g2
     clear hstep g1 g2 hc hnh ht1 hlb hlb' hg
     rcases hgr with hgr | hgr
     ·go_wp2_with (go_at_call 153; refine (hI _).mono ?_; rintro e w' ⟨rfl,hww⟩; subst w')
      go_roundw
      case rel => exact ⟨k + 1,q ++ xx,by omega,by simp,rfl,hbn,g1h,g2h⟩
      case measure => simp [intOf]; omega
     ·go_wp2_with (go_at_call 153; refine (hI _).mono ?_; rintro e w' ⟨rfl,hww⟩; subst w')
      go_roundw
      case rel => exact ⟨k + 1,q ++ xx,by omega,by simp,rfl,hbn,g1h,g2h⟩
      case measure => simp [intOf]; omega
    | false =>
     rw [hc] at hI
     obtain ⟨n1,n2⟩ := hnh.out hc
     have n1h : Hid (lowV (bs s) = ⟨#[]⟩ ∧ wordB (bs s) = false) := ⟨n1,n2⟩
     clear hstep hc hnh ht1 hlb hlb' hg n1 n2
     rcases hgr with hgr | hgr
     ·go_wp2_with (go_at_call 153; refine (hI _).mono ?_; rintro e w' ⟨rfl,hww⟩; subst w')
      go_ret2
      exact ⟨by rw [n1h.out.1,n1h.out.2]; rfl,hb⟩
     ·go_wp2_with (go_at_call 153; refine (hI _).mono ?_; rintro e w' ⟨rfl,hww⟩; subst w')
      go_ret2
      exact ⟨by rw [n1h.out.1,n1h.out.2]; rfl,hb⟩
  ·obtain rfl : k = s.size := by omega
   obtain ⟨y1,y2⟩ := hyes.out ha.out
   rw [← hq.out] at y1
   have yh : Hid (lowV (bs s) = q ∧ wordB (bs s) = (decide (1 ≤ s.size) && decide (s.size ≤ 64))) := ⟨y1,y2⟩
   clear hno hyes hq ha hW y1 y2
   by_cases z1 : 1 ≤ s.size
   ·have z1' : (1 : Int) ≤ s.size := by omega
    by_cases z2 : s.size ≤ 64
    ·have z2' : (s.size : Int) ≤ 64 := by omega
     go_wp2_with fail
     go_ret2
     exact ⟨by rw [yh.out.1,yh.out.2,decide_eq_true z1,decide_eq_true z2]; rfl,hb⟩
    ·have z2' : ¬ (s.size : Int) ≤ 64 := by omega
     go_wp2_with fail
     go_ret2
     refine ⟨?_,hb⟩
     rw [yh.out.1,yh.out.2,decide_eq_true z1,decide_eq_false z2]; rfl
   ·have z1' : ¬ (1 : Int) ≤ s.size := by omega
    go_wp2_with fail
    go_ret2
    refine ⟨?_,hb⟩
    rw [yh.out.1,yh.out.2,decide_eq_false z1]; rfl
end Go.Proofs.YthcphnifnfnceaaGreatDoor.Hy

namespace Go.Proofs.YthcphnifnfnceaaGreatDoor.Hy

theorem parts_bare : ∀ l : Bs,(parts l).flatten = bare l
 | [] => rfl
 | c :: l => by
  rw [parts]
  have ih := parts_bare l
  unfold bare at ih ⊢
  by_cases h : (c == 45) = true
  ·rw [if_pos h,List.filter_cons,h]
   simpa using ih
  ·rw [if_neg h,List.filter_cons]
   have h' : (c == 45) = false := by simpa using h
   rw [h']
   cases hp : parts l with
   | nil => exact absurd hp (parts_ne l)
   | cons a b =>
    rw [hp] at ih
    simp only [List.flatten_cons,List.cons_append,Bool.not_false,if_true] at ih ⊢
    rw [ih]
theorem excW_bare (x : Bs) : excW x = bare x := by
 unfold excW wordTo
 rw [List.take_length,parts_bare]
theorem exE_none {u : Bs} : ∀ (n : Nat) (xs : List Bs),xs.length = n → (∀ x ∈ xs,bare x ≠ u) → exE xs u = none
 | 0,xs,hn,_ => by
  obtain rfl : xs = [] := List.eq_nil_of_length_eq_zero hn
  rfl
 | n + 1,xs,hn,h => by
  have hne : xs ≠ [] := by intro e; subst e; simp at hn
  obtain ⟨ys,x,rfl⟩ : ∃ ys x,xs = ys ++ [x] := ⟨xs.dropLast,xs.getLast hne,(List.dropLast_concat_getLast hne).symm⟩
  rw [exE_snoc]
  unfold setV
  rw [if_neg (fun e => h x (by simp) (by rw [e,excW_bare]))]
  exact exE_none n ys (by simpa using hn) (fun y hy => h y (by simp [hy]))
def strs (ss : List ByteArray) : List Value := ss.map Value.string
theorem tx_of_row {W : World} {base : Nat} {v : Value} {ss : List ByteArray} (h : W.ownsRow base 9 1 v ss.length (strs ss)) : TxAt W v ss :=
 rec_of_row (k := 1) (f := fun s : ByteArray => [Value.string s]) (fun _ => rfl) (base := base) (e := 9) (n := ss.length) rfl (by rw [flat_one]; exact h)
theorem lowV_word {l : Bs} (h : wordB l = true) : lowV l = ⟨(low l).toArray⟩ := by
 unfold lowV
 rw [if_pos (by rw [List.all_eq_true]; exact (wordB_parts h).2.2)]
theorem tx_srcs {W : World} {v : Value} {ss : List ByteArray} (h : TxAt W v ss) : Srcs W 1 v ss.length (strs ss) := by
 have := rec_srcs (k := 1) (f := fun s : ByteArray => [Value.string s]) (fun _ => rfl) (fun a u hu => by simp at hu; subst hu; rfl) (by decide) h
 rwa [flat_one] at this
end Go.Proofs.YthcphnifnfnceaaGreatDoor.Hy

namespace Go.Proofs.YthcphnifnfnceaaGreatDoor.Hy
open Go.RowKit Go.Shelf
set_option maxRecDepth 100000
set_option maxHeartbeats 4000000

def pq : Bool → Bs → Bool
 | b,[] => !b
 | b,c :: l => if c == 45 then (!b && pq true l) else (sml c && pq false l)
theorem pq_parts : ∀ l : Bs,pq true l = (parts l).all partB ∧ ∃ h t,parts l = h :: t ∧ pq false l = (h.all sml && t.all partB)
 | [] => ⟨rfl,[],[],rfl,rfl⟩
 | c :: l => by
  obtain ⟨h1,h,t,h2,h3⟩ := pq_parts l
  by_cases hc : (c == 45) = true
  ·refine ⟨?_,[],parts l,?_,?_⟩
   ·rw [pq,if_pos hc,parts,if_pos hc]; rfl
   ·rw [parts,if_pos hc]
   ·rw [pq,if_pos hc,h1]; rfl
  ·refine ⟨?_,c :: h,t,?_,?_⟩
   ·rw [pq,if_neg hc,parts,if_neg hc,h2,h3]
    simp [partB,Bool.and_assoc]
   ·rw [parts,if_neg hc,h2]
   ·rw [pq,if_neg hc,h3]
    simp [Bool.and_assoc]
theorem pq_len : ∀ (l : Bs) (b : Bool),pq b l = true → l.count 45 + (if b then 1 else 0) ≤ l.length - l.count 45
 | [],b,h => by cases b <;> simp [pq] at h ⊢
 | c :: l, b, h => by
  have hle := count_le l
  by_cases hc : (c == 45) = true
  ·rw [pq,if_pos hc] at h
   simp only [Bool.and_eq_true,Bool.not_eq_true'] at h
   have ih := pq_len l true h.2
   rw [List.count_cons,if_pos hc,List.length_cons,h.1]
   simp at ih ⊢
   omega
  ·rw [pq,if_neg hc,Bool.and_eq_true] at h
   have ih := pq_len l false h.2
   rw [List.count_cons,if_neg hc,List.length_cons]
   simp at ih
   cases b <;> simp <;> omega
theorem pq_last : ∀ (l : Bs) (b : Bool) (c : UInt8),l.getLast? = some c → c = 45 → pq b l = false
 | [],_,_,h,_ => by cases h
 | [c],b,d,h,hd => by
  simp at h
  subst h hd
  cases b <;> rfl
 | c :: e :: l,b,d,h,hd => by
  have h' : (e :: l).getLast? = some d := by rw [List.getLast?_cons_cons] at h; exact h
  have i1 := pq_last (e :: l) true d h' hd
  have i2 := pq_last (e :: l) false d h' hd
  rw [pq,i1,i2]
  simp
theorem bare_len : ∀ l : Bs,(bare l).length = l.length - l.count 45
 | [] => rfl
 | c :: l => by
  have ih := bare_len l
  have hle := count_le l
  unfold bare at ih ⊢
  rw [List.filter_cons,List.count_cons]
  by_cases hc : (c == 45) = true
  ·rw [if_neg (by rw [hc]; decide),if_pos hc,ih,List.length_cons]; omega
  ·rw [if_pos (by simpa using hc),if_neg hc,List.length_cons,List.length_cons,ih]; omega
theorem excB_is (l : Bs) : excB l = (decide (2 ≤ (bare l).length) && (decide ((bare l).length ≤ 64) && pq true l)) := by
 unfold excB
 rw [bare_len,(pq_parts l).1]
theorem excB_long {l : Bs} (h : 128 < l.length) : excB l = false := by
 rw [excB_is]
 cases hp : pq true l with
 | false => simp
 | true =>
  have := pq_len l true hp
  have := count_le l
  rw [decide_eq_false (p := (bare l).length ≤ 64) (by rw [bare_len]; simp at *; omega)]
  simp
theorem excB_first {l : Bs} (h : l.getD 0 0 = 45) : excB l = false := by
 cases l with
 | nil => rw [excB_is]; rfl
 | cons c l =>
  have hc : c = 45 := h
  subst hc
  rw [excB_is]
  simp [pq]
theorem excB_last {l : Bs} (hl : 0 < l.length) (h : l.getD (l.length - 1) 0 = 45) : excB l = false := by
 rw [excB_is,pq_last l true 45 (by
  rw [List.getLast?_eq_getElem?,List.getElem?_eq_getElem (by omega)]
  rw [List.getD_eq_getElem?_getD,List.getElem?_eq_getElem (by omega)] at h
  exact congrArg some h) rfl]
 simp
def begB (l : Bs) (k : Nat) : Bool := decide (k = 0) || (l.getD (k - 1) 0 == 45)
theorem pq_drop {l : Bs} {k : Nat} (h : k < l.length) : pq (begB l k) (l.drop k) = if l.getD k 0 == 45 then (!(begB l k) && pq true (l.drop (k + 1))) else (sml (l.getD k 0) && pq false (l.drop (k + 1))) := by
 rw [List.drop_eq_getElem_cons h,pq,List.getD_eq_getElem?_getD,List.getElem?_eq_getElem h]
 rfl
theorem begB_succ (l : Bs) (k : Nat) : begB l (k + 1) = (l.getD k 0 == 45) := by
 unfold begB
 rw [decide_eq_false (by omega)]; rfl
theorem beqJ {c : UInt8} {n : Nat} (hn : n < 256) : ((c.toNat : Int) == (n : Int)) = (c == UInt8.ofNat n) := by
 have h1 : (UInt8.ofNat n).toNat = n := by simp; omega
 rw [Bool.eq_iff_iff,beq_iff_eq,beq_iff_eq]
 constructor
 ·intro h
  exact UInt8.toNat_inj.1 (by rw [h1]; omega)
 ·rintro rfl; rw [h1]
theorem exception_any (s : ByteArray) (hs : s.size ≤ 1000000) (w : World) : Calls Tryz.prog 152 #[.string s] w fun e w' => e = .returned (.bool (excB (bs s))) ∧ w' = w := by
 have hB := bare_any s hs w
 have hbs : (bs s).length = s.size := size_ba s
 obtain ⟨q,hq⟩ : ∃ q : ByteArray,(⟨(bare (bs s)).toArray⟩ : ByteArray) = q := ⟨_,rfl⟩
 have hql : (bare (bs s)).length = q.size := by rw [← hq]; rfl
 have hqs : q.size ≤ s.size := by rw [← hql,← hbs]; exact List.length_filter_le _ _
 have hgD : ∀ (j : Nat) (h : j < s.size),(bs s).getD j 0 = s[j]'h := fun j h => getD_ba h
 rw [hq] at hB
 clear hq
 by_cases h1 : q.size < 2
 ·have e : excB (bs s) = false := by rw [excB_is,hql,decide_eq_false (by omega)]; rfl
  rw [e]
  have f1 : (q.size : Int) < 2 := by omega
  clear e hgD
  go_enter Tryz.func152,Tryz.ntmps152
  go_wp2_with (go_at_call 120; refine hB.mono ?_; rintro e w' ⟨rfl,hww⟩; subst w')
  go_ret
  exact ⟨rfl,rfl⟩
 have f1 : ¬ (q.size : Int) < 2 := by omega
 by_cases h2 : 64 < q.size
 ·have e : excB (bs s) = false := by rw [excB_is,hql,decide_eq_false (p := q.size ≤ 64) (by omega)]; simp
  rw [e]
  have f2 : (64 : Int) < q.size := by omega
  clear e hgD
  go_enter Tryz.func152,Tryz.ntmps152
  go_wp2_with (go_at_call 120; refine hB.mono ?_; rintro e w' ⟨rfl,hww⟩; subst w')
  go_ret
  exact ⟨rfl,rfl⟩
 have f2 : ¬ (64 : Int) < q.size := by omega
 by_cases h3 : 128 < s.size
 ·have e : excB (bs s) = false := excB_long (by omega)
  rw [e]
  have f3 : (128 : Int) < s.size := by omega
  clear e hgD
  go_enter Tryz.func152,Tryz.ntmps152
  go_wp2_with (go_at_call 120; refine hB.mono ?_; rintro e w' ⟨rfl,hww⟩; subst w')
  go_ret
  exact ⟨rfl,rfl⟩
 have f3 : ¬ (128 : Int) < s.size := by omega
 have hz : 0 < s.size := by omega
 have hzI : (0 : Int) < s.size := by omega
 have e0 : (((s[0]'hz).toNat : Int) == 45) = ((s[0]'hz) == 45) := beqJ (n := 45) (by decide)
 cases h4 : ((s[0]'hz) == 45) with
 | true =>
  have e : excB (bs s) = false := excB_first (by rw [hgD 0 hz]; simpa using h4)
  rw [e]
  rw [h4] at e0
  clear e hgD h4
  go_enter Tryz.func152,Tryz.ntmps152
  go_wp2_with (go_at_call 120; refine hB.mono ?_; rintro e w' ⟨rfl,hww⟩; subst w')
  go_ret
  exact ⟨rfl,rfl⟩
 | false =>
 obtain ⟨j,hj⟩ : ∃ j,s.size - 1 = j := ⟨_,rfl⟩
 have hjI : (s.size : Int) - 1 = j := by omega
 have hjl : j < s.size := by omega
 have e1 : (((s[j]'hjl).toNat : Int) == 45) = ((s[j]'hjl) == 45) := beqJ (n := 45) (by decide)
 rw [h4] at e0
 cases h5 : ((s[j]'hjl) == 45) with
 | true =>
  have e : excB (bs s) = false := excB_last (by omega) (by rw [hbs,hj,hgD j hjl]; simpa using h5)
  rw [e]
  rw [h5] at e1
  have hjh : Hid (s.size - 1 = j) := hj
  clear e hgD h4 h5 hj
  go_enter Tryz.func152,Tryz.ntmps152
  go_wp2_with (go_at_call 120; refine hB.mono ?_; rintro e w' ⟨rfl,hww⟩; subst w')
  go_ret
  exact ⟨rfl,rfl⟩
 | false =>
 rw [h5] at e1
 have e : excB (bs s) = pq (begB (bs s) 0) ((bs s).drop 0) := by
  rw [excB_is,hql,decide_eq_true (by omega),decide_eq_true (p := q.size ≤ 64) (by omega)]; rfl
 rw [e]
 have hin : Hid (pq (begB (bs s) 0) ((bs s).drop 0) = pq (begB (bs s) 0) ((bs s).drop 0)) := rfl
 generalize hr : pq (begB (bs s) 0) ((bs s).drop 0) = r at *
 have hgDh : Hid (∀ (j : Nat) (h : j < s.size),(bs s).getD j 0 = s[j]'h) := hgD
 have hstep : Hid (∀ (k : Nat) (h : k < s.size),pq (begB (bs s) k) ((bs s).drop k) = if (s[k]'h) == 45 then (!(begB (bs s) k) && pq true ((bs s).drop (k + 1))) else (sml (s[k]'h) && pq false ((bs s).drop (k + 1)))) := fun k h => by
  rw [pq_drop (by omega),hgD k h]
 have hbsu : Hid (∀ (k : Nat) (h : k < s.size),begB (bs s) (k + 1) = ((s[k]'h) == 45)) := fun k h => by rw [begB_succ,hgD k h]
 have hend : Hid (pq (begB (bs s) s.size) ((bs s).drop s.size) = true) := by
  have h6 : begB (bs s) s.size = false := by
   rw [show s.size = j + 1 by omega,begB_succ,hgD j hjl,h5]
  show _ = _
  rw [h6,List.drop_of_length_le (by omega)]; rfl
 have hjh : Hid (s.size - 1 = j) := hj
 have h4h : Hid (((s[0]'hz) == 45) = false) := h4
 have hr' : Hid (r = pq (begB (bs s) 0) ((bs s).drop 0)) := hr.symm
 clear e hin hgD h4 h5 hj hbs hql h1 h2 h3 hr
 go_enter Tryz.func152,Tryz.ntmps152
 go_wp2_with (go_at_call 120; refine hB.mono ?_; rintro e w' ⟨rfl,hww⟩; subst w')
 clear hB e0 e1
 go_loopw [4] (fun i wr => ∃ k : Nat,k ≤ s.size ∧ i = .int .i64 k ∧ wr = w ∧ Hid (r = pq (begB (bs s) k) ((bs s).drop k))) (fun i _ => s.size - (intOf i).toNat)
 case atStart => exact ⟨0,by omega,rfl,rfl,hr'⟩
 case round =>
  obtain ⟨k,hk,rfl,rfl,hin⟩ := hrel
  by_cases hlt : k < s.size
  ·have hkl : (k : Int) < s.size := by omega
   have hst := hstep.out k hlt
   have hbk := hbsu.out k hlt
   have e45 : (((s[k]'hlt).toNat : Int) == 45) = ((s[k]'hlt) == 45) := beqJ (n := 45) (by decide)
   have hin0 := hin.out
   rw [hst] at hin0
   cases hc : ((s[k]'hlt) == 45) with
   | false =>
    have eP : ¬ ((s[k]'hlt).toNat : Int) = 45 := by rw [hc] at e45; exact beq_eq_false_iff_ne.1 e45
    rw [hc] at hin0 hbk e45
    rw [if_neg (by decide)] at hin0
    cases hm : sml (s[k]'hlt) with
    | false =>
     have hm' : smI ((s[k]'hlt).toNat : Int) = false := hm
     rw [hm,Bool.false_and] at hin0
     subst hin0
     clear hin hst hbk hc hm hstep hbsu hend hgDh hr' h4h
     go_wp2_with (go_at_call 153; refine (rsmall_any _ wr).mono ?_; rintro e w' ⟨rfl,hww⟩; subst w'; rw [hm'])
     go_ret
     exact ⟨rfl,rfl⟩
    | true =>
     have hm' : smI ((s[k]'hlt).toNat : Int) = true := hm
     rw [hm,Bool.true_and] at hin0
     have hin2 : Hid (r = pq (begB (bs s) (k + 1)) ((bs s).drop (k + 1))) := by rw [hbk]; exact hin0
     have h0 : ((0 : Int) < k) ∨ ¬ ((0 : Int) < k) := by omega
     clear hin hst hbk hc hm hstep hbsu hend hgDh hr' h4h hin0
     rcases h0 with h0 | h0
     ·go_wp2_with (go_at_call 153; refine (rsmall_any _ wr).mono ?_; rintro e w' ⟨rfl,hww⟩; subst w'; rw [hm'])
      go_roundw
      case rel => exact ⟨k + 1,by omega,by simp,by first | rfl | trivial,hin2⟩
      case measure => simp [intOf]; omega
     ·go_wp2_with (go_at_call 153; refine (rsmall_any _ wr).mono ?_; rintro e w' ⟨rfl,hww⟩; subst w'; rw [hm'])
      go_roundw
      case rel => exact ⟨k + 1,by omega,by simp,by first | rfl | trivial,hin2⟩
      case measure => simp [intOf]; omega
   | true =>
    have eP : ((s[k]'hlt).toNat : Int) = 45 := by rw [hc] at e45; exact beq_iff_eq.1 e45
    have h45 : smI 45 = false := by decide
    rw [hc] at hin0 hbk e45
    rw [if_pos rfl] at hin0
    have hm' : smI ((s[k]'hlt).toNat : Int) = false := by
     rw [show (s[k]'hlt) = 45 by simpa using hc]; decide
    have hk0 : ¬ k = 0 := by
     rintro rfl
     rw [h4h.out] at hc; cases hc
    have f0 : (0 : Int) < k := by omega
    obtain ⟨i,hi⟩ : ∃ i,k - 1 = i := ⟨_,rfl⟩
    have hiI : (k : Int) - 1 = i := by omega
    have hil : i < s.size := by omega
    have ei : (((s[i]'hil).toNat : Int) == 45) = ((s[i]'hil) == 45) := beqJ (n := 45) (by decide)
    have hbi : begB (bs s) k = ((s[i]'hil) == 45) := by rw [show k = i + 1 by omega]; exact hbsu.out i hil
    rw [hbi] at hin0
    have hih : Hid (k - 1 = i ∧ ¬ k = 0) := ⟨hi,hk0⟩
    cases hp : ((s[i]'hil) == 45) with
    | true =>
     rw [hp] at hin0 ei
     rw [Bool.not_true,Bool.false_and] at hin0
     subst hin0
     clear hin hst hbk hc hstep hbsu hend hgDh hr' h4h hi hk0 hp hbi
     go_wp2_with (go_at_call 153; refine (rsmall_any _ wr).mono ?_; rintro e w' ⟨rfl,hww⟩; subst w'; first | rw [hm'] | rw [h45])
     go_ret
     exact ⟨rfl,rfl⟩
    | false =>
     rw [hp] at hin0 ei
     rw [Bool.not_false,Bool.true_and] at hin0
     have hin2 : Hid (r = pq (begB (bs s) (k + 1)) ((bs s).drop (k + 1))) := by rw [hbk]; exact hin0
     clear hin hst hbk hc hstep hbsu hend hgDh hr' h4h hi hk0 hp hbi hin0
     go_wp2_with (go_at_call 153; refine (rsmall_any _ wr).mono ?_; rintro e w' ⟨rfl,hww⟩; subst w'; first | rw [hm'] | rw [h45])
     go_roundw
     case rel => exact ⟨k + 1,by omega,by simp,by first | rfl | trivial,hin2⟩
     case measure => simp [intOf]; omega
  ·obtain rfl : k = s.size := by omega
   have hin0 := hin.out
   rw [hend.out] at hin0
   subst hin0
   clear hin hstep hbsu hend hgDh hr' h4h
   go_wp2_with fail
   go_ret
   exact ⟨rfl,rfl⟩
end Go.Proofs.YthcphnifnfnceaaGreatDoor.Hy

namespace Go.Proofs.YthcphnifnfnceaaGreatDoor.Hy

theorem foldl_some {x : Bs} : ∀ (xs : List Bs) (E : Ex),(x ∈ xs ∨ (E (excW x)).isSome = true) → ((xs.foldl (fun E x => setV E (excW x) (excP x)) E) (excW x)).isSome = true
 | [],E,h => by rcases h with h | h; cases h; exact h
 | y :: xs, E, h => by
  rw [List.foldl_cons]
  refine foldl_some xs _ ?_
  rcases h with h | h
  ·rcases List.mem_cons.1 h with rfl | h
   ·right; unfold setV; rw [if_pos rfl]; rfl
   ·exact .inl h
  ·right
   unfold setV
   by_cases e : excW x = excW y
   ·rw [if_pos e]; rfl
   ·rw [if_neg e]; exact h
theorem exE_isSome {xs : List Bs} {u : Bs} : (exE xs u).isSome = true ↔ ∃ x ∈ xs,bare x = u := by
 constructor
 ·intro h
  obtain ⟨d,hd⟩ := Option.isSome_iff_exists.1 h
  obtain ⟨x,hx,h1,-⟩ := exE_some xs.length xs rfl hd
  exact ⟨x,hx,by rw [← excW_bare]; exact h1⟩
 ·rintro ⟨x,hx,rfl⟩
  rw [← excW_bare]
  exact foldl_some xs _ (.inl hx)
theorem fresh_hit {xs : List Bs} {i k : Nat} (hi : i < xs.length) (hk : k < i) (h : bare (xs[i]'hi) = bare (xs[k]'(by omega))) : freshB (xs.take i) (xs.drop i) = false := by
 rw [fresh_no xs _ i hi rfl,exE_isSome.2 ⟨xs[k]'(by omega),?_,?_⟩]
 ·rfl
 ·rw [List.mem_take_iff_getElem]
  exact ⟨k,by omega,rfl⟩
 ·rw [excW_bare,h]
theorem fresh_go {xs : List Bs} {i : Nat} (hi : i < xs.length) (h : ∀ k (hk : k < i),bare (xs[i]'hi) ≠ bare (xs[k]'(by omega))) : freshB (xs.take i) (xs.drop i) = freshB (xs.take (i + 1)) (xs.drop (i + 1)) := by
 rw [fresh_no xs _ i hi rfl]
 have : (exE (xs.take i) (excW xs[i])).isSome = false := by
  rw [Bool.eq_false_iff]
  intro hc
  obtain ⟨x,hx,h1⟩ := exE_isSome.1 hc
  rw [List.mem_take_iff_getElem] at hx
  obtain ⟨k,hk,rfl⟩ := hx
  exact h k (by omega) (by rw [← excW_bare,← h1])
 rw [this]; rfl
theorem exE_at {x : Bs} : ∀ (zs ys : List Bs),freshB ys zs = true → (x ∈ zs ∨ exE ys (excW x) = some (excP x)) → exE (ys ++ zs) (excW x) = some (excP x)
 | [],ys,_,h => by
  rw [List.append_nil]
  rcases h with h | h
  ·cases h
  ·exact h
 | z :: zs, ys, hf, h => by
  rw [freshB,Bool.and_eq_true,Bool.not_eq_true'] at hf
  rw [show ys ++ z :: zs = (ys ++ [z]) ++ zs by simp]
  refine exE_at zs (ys ++ [z]) hf.2 ?_
  rcases h with h | h
  ·rcases List.mem_cons.1 h with rfl | h
   ·right; rw [exE_snoc]; unfold setV; rw [if_pos rfl]
   ·exact .inl h
  ·right
   rw [exE_snoc]
   unfold setV
   rw [if_neg]
   ·exact h
   ·intro e
    rw [← e,h] at hf
    cases hf.1
def dashP : Bs → Nat → List Int
 | [],_ => []
 | c :: l,n => if c == 45 then (n : Int) :: dashP l n else dashP l (n + 1)
def cumP : Nat → List Bs → List Int
 | _,[] => []
 | _,[_] => []
 | n,h :: h2 :: t => ((n + h.length : Nat) : Int) :: cumP (n + h.length) (h2 :: t)
theorem parts_cons (l : Bs) : ∃ h t,parts l = h :: t := by
 obtain ⟨_,h,t,e,_⟩ := pq_parts l
 exact ⟨h,t,e⟩
theorem dash_cum : ∀ (l : Bs) (n : Nat),dashP l n = cumP n (parts l)
 | [],n => rfl
 | c :: l, n => by
  obtain ⟨h,t,e⟩ := parts_cons l
  rw [dashP,parts]
  by_cases hc : (c == 45) = true
  ·rw [if_pos hc,if_pos hc,dash_cum l n,e]; rfl
  ·rw [if_neg hc,if_neg hc,dash_cum l (n + 1),e]
   cases t with
   | nil => rfl
   | cons h2 t =>
    show cumP (n + 1) (h :: h2 :: t) = cumP n ((c :: h) :: h2 :: t)
    rw [cumP,cumP,List.length_cons,show n + 1 + h.length = n + (h.length + 1) by omega]
theorem wordTo_cons (h : Bs) (t : List Bs) (i : Nat) : wordTo (h :: t) (i + 1) = h ++ wordTo t i := by
 unfold wordTo
 rw [List.take_succ_cons,List.flatten_cons]
theorem cum_map : ∀ (t : List Bs) (n : Nat) (h : Bs),cumP n (h :: t) = (List.range t.length).map (fun i => ((n + h.length + (wordTo t i).length : Nat) : Int))
 | [],_,_ => rfl
 | h2 :: t,n,h => by
  rw [cumP,cum_map t,List.length_cons,List.range_succ_eq_map,List.map_cons,List.map_map]
  congr 1
  apply List.map_congr_left
  intro i _
  show _ = ((n + h.length + (wordTo (h2 :: t) (i + 1)).length : Nat) : Int)
  rw [wordTo_cons,List.length_append]
  congr 1
  omega
theorem plTo_map {h : Bs} {t : List Bs} (hh : 0 < h.length) : ∀ j,plTo (h :: t) (j + 1) = (List.range j).map (fun i => ((h.length + (wordTo t i).length : Nat) : Int))
 | 0 => by rw [plTo,if_neg (by unfold wordTo; simp)]; rfl
 | j + 1 => by
  rw [plTo,if_pos (by rw [wordTo_cons,List.length_append]; omega),plTo_map hh j,List.range_succ,List.map_append,wordTo_cons,List.length_append]
  rfl
theorem excP_dash {x : Bs} (h : excB x = true) : excP x = dashP x 0 := by
 obtain ⟨g,t,e⟩ := parts_cons x
 have hp : (parts x).all partB = true := by
  unfold excB at h
  simp only [Bool.and_eq_true] at h
  exact h.2.2
 rw [e] at hp
 simp only [List.all_cons,Bool.and_eq_true] at hp
 have hg : 0 < g.length := by
  have := hp.1
  unfold partB at this
  simp only [Bool.and_eq_true,Bool.not_eq_true'] at this
  cases g with
  | nil => cases this.1
  | cons => simp
 rw [dash_cum,e,cum_map]
 unfold excP
 rw [e,List.length_cons,plTo_map hg]
 simp
theorem dashP_append : ∀ (l m : Bs) (n : Nat),dashP (l ++ m) n = dashP l n ++ dashP m (n + (bare l).length)
 | [],_,_ => by simp [dashP,bare]
 | c :: l, m, n => by
  rw [List.cons_append,dashP,dashP]
  unfold bare
  rw [List.filter_cons]
  by_cases hc : (c == 45) = true
  ·rw [if_pos hc,if_pos hc,dashP_append l m n,if_neg (by rw [hc]; decide)]; rfl
  ·rw [if_neg hc,if_neg hc,dashP_append l m (n + 1),if_pos (by simpa using hc),List.length_cons]
   congr 2
   show n + 1 + (bare l).length = _
   unfold bare
   omega
end Go.Proofs.YthcphnifnfnceaaGreatDoor.Hy
