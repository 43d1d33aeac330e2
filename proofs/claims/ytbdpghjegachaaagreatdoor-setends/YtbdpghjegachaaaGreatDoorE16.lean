/-
  What is proved here: what allBytes, isWord and isPattern answer.
  What is proved here: the law of a range over a function whose iterator has private blocks from the beginning, and turns them between two rounds (no program is named).
  What is proved here: strings.SplitSeq at one sign: its iterator goes through the parts of a text, one round a part.
-/
import Derived.Test.YtbdpghjegachaaaGreatDoorE14
import Derived.Test.YtbdpghjegachaaaGreatDoorE15
import Derived.Test.YtbdpghjegachaaaGreatDoorE1
import Derived.RangeFuncNested
import Derived.RangeFuncBound
import Derived.RangeFuncCalls
import Derived.RangeFuncLeaves
import Derived.Shelf.Abstract
import Derived.Shelf.RegionOpen
import Derived.OwnWalkIn
import Derived.TacticsInMore
import Derived.LoopNIn
import Derived.LoopIn
import Derived.Lib.Builder
namespace Go.Proofs.YtbdpghjegachaaaGreatDoor.Hy
open Go.RowKit Go.Shelf
set_option maxRecDepth 100000
set_option maxHeartbeats 1000000

theorem all_step_ba {p : ByteArray} {f : UInt8 → Bool} {k : Nat} (h : k < p.size) (ha : (p.data.toList.take k).all f = true) (hf : f (p[k]'h) = true) : (p.data.toList.take (k + 1)).all f = true := by
 rw [take_succ_ba h,List.all_append,ha]; simp [hf]
theorem mem_ba {p : ByteArray} {k : Nat} (h : k < p.size) : p[k]'h ∈ p.data.toList := by
 rw [ByteArray.getElem_eq_getElem_data]
 exact Array.getElem_mem_toList (by simpa using h)
theorem all_no_ba {p : ByteArray} {f : UInt8 → Bool} {k : Nat} (h : k < p.size) (hf : f (p[k]'h) = false) : p.data.toList.all f = false := by
 rw [List.all_eq_false]
 exact ⟨_,mem_ba h,by simp [hf]⟩

theorem allSmall_any (s : ByteArray) (hs : s.size ≤ 1000000) (w : World) : Calls Tryz.prog 183 #[.string s,.func (.func 198) #[] #[]] w fun e w' => e = .returned (.bool (s.data.toList.all sml)) ∧ w' = w := by
 have hW : Hid (s.data.toList.take s.size = s.data.toList) := take_all_ba s
 have hno : Hid (∀ (k : Nat) (h : k < s.size),sml (s[k]'h) = false → s.data.toList.all sml = false) := fun k h hf => all_no_ba h hf
 have hyes : Hid ((s.data.toList.take s.size).all sml = true → s.data.toList.all sml = true) := fun h => by rw [hW.out] at h; exact h
 have hst : Hid (∀ (k : Nat) (h : k < s.size),(s.data.toList.take k).all sml = true → sml (s[k]'h) = true → (s.data.toList.take (k + 1)).all sml = true) := fun k h ha hf => all_step_ba h ha hf
 generalize s.data.toList.all sml = r at *
 go_enter Tryz.func183,Tryz.ntmps183
 go_wp2_with fail
 go_loopw [8] (fun i wr => ∃ k : Nat,k ≤ s.size ∧ i = .int .i64 k ∧ wr = w ∧ Hid ((s.data.toList.take k).all sml = true)) (fun i _ => s.size - (intOf i).toNat)
 case atStart => exact ⟨0,by omega,rfl,rfl,rfl⟩
 case round =>
  obtain ⟨k,hk,rfl,rfl,ha⟩ := hrel
  by_cases hlt : k < s.size
  ·have hI := isSmall_any ((s[k]'hlt).toNat : Int) wr
   cases hc : sml (s[k]'hlt) with
   | true =>
    have ha2 : Hid ((s.data.toList.take (k + 1)).all sml = true) := hst.out k hlt ha.out hc
    have hc' : smI ((s[k]'hlt).toNat : Int) = true := hc
    rw [hc'] at hI
    clear hst hno hyes hW ha hc hc'
    go_wp2_with (go_at_call 198; refine hI.mono ?_; rintro e w' ⟨rfl,hww⟩; subst w')
    go_roundw
    case rel => exact ⟨k + 1,by omega,by simp,by first | rfl | trivial,ha2⟩
    case measure => simp [intOf]; omega
   | false =>
    have hr := hno.out k hlt hc
    subst hr
    have hc' : smI ((s[k]'hlt).toNat : Int) = false := hc
    rw [hc'] at hI
    clear hst hno hyes hW ha hc hc'
    go_wp2_with (go_at_call 198; refine hI.mono ?_; rintro e w' ⟨rfl,hww⟩; subst w')
    go_ret
    exact ⟨rfl,rfl⟩
  ·obtain rfl : k = s.size := by omega
   have hr := hyes.out ha.out
   subst hr
   clear hst hno hyes hW ha
   go_wp2_with fail
   go_ret
   exact ⟨rfl,rfl⟩

theorem allLetter_any (s : ByteArray) (hs : s.size ≤ 1000000) (w : World) : Calls Tryz.prog 183 #[.string s,.func (.func 184) #[] #[]] w fun e w' => e = .returned (.bool (s.data.toList.all ltr)) ∧ w' = w := by
 have hW : Hid (s.data.toList.take s.size = s.data.toList) := take_all_ba s
 have hno : Hid (∀ (k : Nat) (h : k < s.size),ltr (s[k]'h) = false → s.data.toList.all ltr = false) := fun k h hf => all_no_ba h hf
 have hyes : Hid ((s.data.toList.take s.size).all ltr = true → s.data.toList.all ltr = true) := fun h => by rw [hW.out] at h; exact h
 have hst : Hid (∀ (k : Nat) (h : k < s.size),(s.data.toList.take k).all ltr = true → ltr (s[k]'h) = true → (s.data.toList.take (k + 1)).all ltr = true) := fun k h ha hf => all_step_ba h ha hf
 generalize s.data.toList.all ltr = r at *
 go_enter Tryz.func183,Tryz.ntmps183
 go_wp2_with fail
 go_loopw [8] (fun i wr => ∃ k : Nat,k ≤ s.size ∧ i = .int .i64 k ∧ wr = w ∧ Hid ((s.data.toList.take k).all ltr = true)) (fun i _ => s.size - (intOf i).toNat)
 case atStart => exact ⟨0,by omega,rfl,rfl,rfl⟩
 case round =>
  obtain ⟨k,hk,rfl,rfl,ha⟩ := hrel
  by_cases hlt : k < s.size
  ·have hI := isLetter_any ((s[k]'hlt).toNat : Int) wr
   cases hc : ltr (s[k]'hlt) with
   | true =>
    have ha2 : Hid ((s.data.toList.take (k + 1)).all ltr = true) := hst.out k hlt ha.out hc
    have hc' : ltI ((s[k]'hlt).toNat : Int) = true := hc
    rw [hc'] at hI
    clear hst hno hyes hW ha hc hc'
    go_wp2_with (go_at_call 184; refine hI.mono ?_; rintro e w' ⟨rfl,hww⟩; subst w')
    go_roundw
    case rel => exact ⟨k + 1,by omega,by simp,by first | rfl | trivial,ha2⟩
    case measure => simp [intOf]; omega
   | false =>
    have hr := hno.out k hlt hc
    subst hr
    have hc' : ltI ((s[k]'hlt).toNat : Int) = false := hc
    rw [hc'] at hI
    clear hst hno hyes hW ha hc hc'
    go_wp2_with (go_at_call 184; refine hI.mono ?_; rintro e w' ⟨rfl,hww⟩; subst w')
    go_ret
    exact ⟨rfl,rfl⟩
  ·obtain rfl : k = s.size := by omega
   have hr := hyes.out ha.out
   subst hr
   clear hst hno hyes hW ha
   go_wp2_with fail
   go_ret
   exact ⟨rfl,rfl⟩

def wordB (l : Bs) : Bool := decide (1 ≤ l.length) && (decide (l.length ≤ 64) && l.all ltr)
theorem isEmpty_ba (s : ByteArray) : (ByteArray.toList s).isEmpty = decide (s.size = 0) := by
 rw [ByteArray.toList_eq,← size_ba]
 cases s.data.toList <;> simp
theorem size_zero {s : ByteArray} (h : s.size = 0) : s = ⟨#[]⟩ := by
 obtain ⟨⟨l⟩⟩ := s
 have : l = [] := List.eq_nil_of_length_eq_zero h
 rw [this]
theorem isWord_any (s : ByteArray) (w : World) : Calls Tryz.prog 166 #[.string s] w fun e w' => e = .returned (.bool (wordB s.data.toList)) ∧ w' = w := by
 by_cases h0 : s.size = 0
 ·have e : wordB s.data.toList = false := by unfold wordB; rw [size_ba,h0]; rfl
  rw [e]
  obtain rfl := size_zero h0
  clear e h0
  go_enter Tryz.func166,Tryz.ntmps166
  go_wp2_with fail
  go_ret
  exact ⟨rfl,rfl⟩
 ·have hE : (ByteArray.toList s).isEmpty = false := by rw [isEmpty_ba]; simpa using h0
  by_cases h1 : s.size ≤ 64
  ·have e : wordB s.data.toList = s.data.toList.all ltr := by unfold wordB; rw [size_ba,decide_eq_true (by omega : 1 ≤ s.size),decide_eq_true h1]; rfl
   rw [e]
   have hA := allLetter_any s (by omega) w
   have h2 : (s.size : Int) ≤ 64 := by omega
   generalize s.data.toList.all ltr = r at *
   clear e h0
   go_enter Tryz.func166,Tryz.ntmps166
   go_wp2_with (go_at_call 183; refine hA.mono ?_; rintro e w' ⟨rfl,hww⟩; subst w')
   go_ret
   exact ⟨rfl,rfl⟩
  ·have e : wordB s.data.toList = false := by unfold wordB; rw [size_ba,decide_eq_false h1]; simp
   rw [e]
   have h2 : ¬ (s.size : Int) ≤ 64 := by omega
   clear e h0
   go_enter Tryz.func166,Tryz.ntmps166
   go_wp2_with fail
   go_ret
   exact ⟨rfl,rfl⟩

def trimD (l : Bs) : Bs := Lib.trimSuffix (Lib.trimPrefix l [46]) [46]
def okAt (t : Bs) (i : Nat) : Bool := sml (t.getD i 0) || (dgt (t.getD i 0) && !(decide (0 < i) && dgt (t.getD (i - 1) 0)))
def patT (t : Bs) : Bool := (List.range t.length).all (okAt t) && decide (0 < (t.filter sml).length)
def patB (l : Bs) : Bool := decide (l.length ≤ 16) && patT (trimD l)
theorem trimD_len (l : Bs) : (trimD l).length ≤ l.length := by
 unfold trimD Lib.trimSuffix Lib.trimPrefix
 split <;> split <;> simp <;> omega
theorem getD_ba {p : ByteArray} {k : Nat} (h : k < p.size) : p.data.toList.getD k 0 = p[k]'h := by
 have hl : k < p.data.toList.length := by rw [size_ba]; exact h
 rw [List.getD_eq_getElem?_getD,List.getElem?_eq_getElem hl]
 simp [ByteArray.getElem_eq_getElem_data]
theorem filter_snoc (q : Bs) (c : UInt8) : ((q ++ [c]).filter sml).length = (q.filter sml).length + (if sml c then 1 else 0) := by
 rw [List.filter_append,List.length_append]
 by_cases h : sml c <;> simp [h]
theorem range_all_succ {f : Nat → Bool} {k : Nat} (h : (List.range k).all f = true) (hk : f k = true) : (List.range (k + 1)).all f = true := by
 rw [List.range_succ,List.all_append,h]; simp [hk]
theorem patT_no {t : Bs} {k : Nat} (h : k < t.length) (hk : okAt t k = false) : patT t = false := by
 unfold patT
 have : (List.range t.length).all (okAt t) = false := by
  rw [List.all_eq_false]
  exact ⟨k,List.mem_range.2 h,by simp [hk]⟩
 rw [this]; rfl
theorem isPattern_any (s : ByteArray) (w : World) : Calls Tryz.prog 177 #[.string s] w fun e w' => e = .returned (.bool (patB s.data.toList)) ∧ w' = w := by
 by_cases h16 : s.size ≤ 16
 ·have e : patB s.data.toList = patT (trimD s.data.toList) := by unfold patB; rw [size_ba,decide_eq_true h16]; rfl
  rw [e]
  clear e
  have hP := Tryz.strings_TrimPrefix s ⟨#[46]⟩ w
  have hS := Tryz.strings_TrimSuffix ⟨(Lib.trimPrefix s.data.toList [46]).toArray⟩ ⟨#[46]⟩ w (by
   rw [← size_ba]
   show (Lib.trimPrefix s.data.toList [46]).length ≤ _
   have : s.data.toList.length ≤ 16 := by rw [size_ba]; exact h16
   unfold Lib.trimPrefix
   split
   ·rw [List.length_drop]; omega
   ·omega)
  have hS' : Calls Tryz.prog 196 #[.string ⟨(Lib.trimPrefix s.data.toList [46]).toArray⟩,.string ⟨#[46]⟩] w fun e w' => e = .returned (.string ⟨(trimD s.data.toList).toArray⟩) ∧ w' = w := hS
  have hP' : Calls Tryz.prog 197 #[.string s,.string ⟨#[46]⟩] w fun e w' => e = .returned (.string ⟨(Lib.trimPrefix s.data.toList [46]).toArray⟩) ∧ w' = w := hP
  clear hS hP
  have htl : (trimD s.data.toList).length ≤ 16 := Nat.le_trans (trimD_len _) (by rw [size_ba]; exact h16)
  generalize (⟨(Lib.trimPrefix s.data.toList [46]).toArray⟩ : ByteArray) = s1 at *
  obtain ⟨q,hq⟩ : ∃ q : ByteArray,(⟨(trimD s.data.toList).toArray⟩ : ByteArray) = q := ⟨_,rfl⟩
  have hql : trimD s.data.toList = q.data.toList := by rw [← hq]
  rw [hq] at hS'
  rw [hql] at htl ⊢
  rw [size_ba] at htl
  clear hq hql
  have h16' : (s.size : Int) ≤ 16 := by omega
  have hno : Hid (∀ (k : Nat),k < q.size → okAt q.data.toList k = false → patT q.data.toList = false) := fun k h hk => patT_no (by rw [size_ba]; exact h) hk
  have hfin : Hid (∀ m : Nat,(List.range q.size).all (okAt q.data.toList) = true → m = ((q.data.toList.take q.size).filter sml).length → patT q.data.toList = decide (0 < m)) := by
   rintro m h rfl
   unfold patT
   rw [size_ba,h,take_all_ba]; rfl
  have hsm : Hid (∀ (k : Nat) (h : k < q.size),((q.data.toList.take (k + 1)).filter sml).length = ((q.data.toList.take k).filter sml).length + (if sml (q[k]'h) then 1 else 0)) := fun k h => by rw [take_succ_ba h,filter_snoc]
  have hok : Hid (∀ (k : Nat) (h : k < q.size),okAt q.data.toList k = (sml (q[k]'h) || (dgt (q[k]'h) && !(decide (0 < k) && dgt (q.data.toList.getD (k - 1) 0))))) := fun k h => by rw [okAt,getD_ba h]
  have hpv : Hid (∀ (j : Nat) (h : j < q.size),q.data.toList.getD j 0 = q[j]'h) := fun j h => getD_ba h
  have hrs : Hid (∀ (k : Nat),(List.range k).all (okAt q.data.toList) = true → okAt q.data.toList k = true → (List.range (k + 1)).all (okAt q.data.toList) = true) := fun k => range_all_succ
  generalize patT q.data.toList = r at *
  generalize okAt q.data.toList = okf at *
  go_enter Tryz.func177,Tryz.ntmps177
  go_wp2_with (first | (go_at_call 197; refine hP'.mono ?_; rintro e w' ⟨rfl,hww⟩; subst w') | (go_at_call 196; refine hS'.mono ?_; rintro e w' ⟨rfl,hww⟩; subst w'))
  clear hS' hP'
  go_loopw [3,13] (fun n i wr => ∃ (k m : Nat),k ≤ q.size ∧ m ≤ k ∧ i = .int .i64 k ∧ n = .int .i64 m ∧ wr = w ∧ Hid ((List.range k).all okf = true) ∧ Hid (m = ((q.data.toList.take k).filter sml).length)) (fun _ i _ => q.size - (intOf i).toNat)
  case atStart => exact ⟨0,0,by omega,by omega,rfl,rfl,rfl,rfl,rfl⟩
  case round =>
   obtain ⟨k,m,hk,hmk,rfl,rfl,rfl,ha,hm⟩ := hrel
   by_cases hlt : k < q.size
   ·have hI := isSmall_any ((q[k]'hlt).toNat : Int) wr
    have hJ := isDigit_any ((q[k]'hlt).toNat : Int) wr
    have hsk := hsm.out k hlt
    have hokk := hok.out k hlt
    cases hc : sml (q[k]'hlt) with
    | true =>
     have hc' : smI ((q[k]'hlt).toNat : Int) = true := hc
     rw [hc'] at hI
     have ha2 : Hid ((List.range (k + 1)).all okf = true) := hrs.out k ha.out (by rw [hokk,hc]; rfl)
     have hm2 : Hid (m + 1 = ((q.data.toList.take (k + 1)).filter sml).length) := by show _ = _; rw [hsk,hc,← hm.out]; rfl
     clear hno hfin hsm hok hpv hrs ha hm hc hc' hsk hokk hJ
     go_wp2_with (go_at_call 198; refine hI.mono ?_; rintro e w' ⟨rfl,hww⟩; subst w')
     go_roundw
     case rel => exact ⟨k + 1,m + 1,by omega,by omega,by simp,by simp,by first | rfl | trivial,ha2,hm2⟩
     case measure => simp [intOf]; omega
    | false =>
     have hc' : smI ((q[k]'hlt).toNat : Int) = false := hc
     rw [hc'] at hI
     have hm2 : Hid (m = ((q.data.toList.take (k + 1)).filter sml).length) := by show _ = _; rw [hsk,hc,← hm.out]; rfl
     rw [hc,Bool.false_or] at hokk
     cases hd : dgt (q[k]'hlt) with
     | false =>
      have hd' : dgI ((q[k]'hlt).toNat : Int) = false := hd
      rw [hd'] at hJ
      have hr := hno.out k hlt (by rw [hokk,hd]; rfl)
      subst hr
      clear hno hfin hsm hok hpv hrs ha hm hc hc' hsk hokk hd hd' hm2
      go_wp2_with (first | (go_at_call 198; refine hI.mono ?_; rintro e w' ⟨rfl,hww⟩; subst w') | (go_at_call 199; refine hJ.mono ?_; rintro e w' ⟨rfl,hww⟩; subst w'))
      go_ret
      exact ⟨rfl,rfl⟩
     | true =>
      have hd' : dgI ((q[k]'hlt).toNat : Int) = true := hd
      rw [hd'] at hJ
      rw [hd,Bool.true_and] at hokk
      by_cases h0 : k = 0
      ·have ha2 : Hid ((List.range (k + 1)).all okf = true) := hrs.out k ha.out (by rw [hokk,decide_eq_false (by omega : ¬ 0 < k)]; rfl)
       have f0 : ¬ (0 : Int) < k := by omega
       have h0h : Hid (k = 0) := h0
       clear hno hfin hsm hok hpv hrs ha hm hc hc' hsk hokk hd hd' h0
       go_wp2_with (first | (go_at_call 198; refine hI.mono ?_; rintro e w' ⟨rfl,hww⟩; subst w') | (go_at_call 199; refine hJ.mono ?_; rintro e w' ⟨rfl,hww⟩; subst w'))
       go_roundw
       case rel => exact ⟨k + 1,m,by omega,by omega,by simp,rfl,by first | rfl | trivial,ha2,hm2⟩
       case measure => simp [intOf]; omega
      ·obtain ⟨j,hj⟩ : ∃ j,k - 1 = j := ⟨_,rfl⟩
       have hjk : (k : Int) - 1 = j := by omega
       have hjl : j < q.size := by omega
       have f0 : (0 : Int) < k := by omega
       have hL := isDigit_any ((q[j]'hjl).toNat : Int) wr
       rw [decide_eq_true (by omega : 0 < k),Bool.true_and,hj,hpv.out j hjl] at hokk
       cases hp : dgt (q[j]'hjl) with
       | true =>
        have hp' : dgI ((q[j]'hjl).toNat : Int) = true := hp
        rw [hp'] at hL
        have hr := hno.out k hlt (by rw [hokk,hp]; rfl)
        subst hr
        have hjH : Hid (k - 1 = j ∧ ¬ k = 0) := ⟨hj,h0⟩
        clear hno hfin hsm hok hpv hrs ha hm hc hc' hsk hokk hd h0 hp hj hm2 hJ hL
        go_wp2_with (first | (go_at_call 198; refine hI.mono ?_; rintro e w' ⟨rfl,hww⟩; subst w') | (go_at_call 199; refine (isDigit_any _ wr).mono ?_; rintro e w' ⟨rfl,hww⟩; subst w'; first | rw [hd'] | rw [hp']))
        go_ret
        exact ⟨rfl,rfl⟩
       | false =>
        have hp' : dgI ((q[j]'hjl).toNat : Int) = false := hp
        rw [hp'] at hL
        have ha2 : Hid ((List.range (k + 1)).all okf = true) := hrs.out k ha.out (by rw [hokk,hp]; rfl)
        have hjH : Hid (k - 1 = j ∧ ¬ k = 0) := ⟨hj,h0⟩
        clear hno hfin hsm hok hpv hrs ha hm hc hc' hsk hokk hd h0 hp hj hJ hL
        go_wp2_with (first | (go_at_call 198; refine hI.mono ?_; rintro e w' ⟨rfl,hww⟩; subst w') | (go_at_call 199; refine (isDigit_any _ wr).mono ?_; rintro e w' ⟨rfl,hww⟩; subst w'; first | rw [hd'] | rw [hp']))
        go_roundw
        case rel => exact ⟨k + 1,m,by omega,by omega,by simp,rfl,by first | rfl | trivial,ha2,hm2⟩
        case measure => simp [intOf]; omega
   ·obtain rfl : k = q.size := by omega
    have hr := hfin.out m ha.out hm.out
    clear hno hfin hsm hok hpv hrs ha hm
    go_wp2_with fail
    go_ret
    refine ⟨?_,rfl⟩
    rw [hr]
    show Ending.returned (Value.bool _) = _
    congr 2
 ·have e : patB s.data.toList = false := by unfold patB; rw [size_ba,decide_eq_false h16]; rfl
  rw [e]
  have h16' : ¬ (s.size : Int) ≤ 16 := by omega
  clear e
  go_enter Tryz.func177,Tryz.ntmps177
  go_wp2_with fail
  go_ret
  exact ⟨rfl,rfl⟩
end Go.Proofs.YtbdpghjegachaaaGreatDoor.Hy

namespace Go.Proofs.YtbdpghjegachaaaGreatDoor.Hy
open Go.RowKit

def GivesX (P : Program) (g : Nat) (lb : Array Value) (N : Nat) (enc : Nat → Array Value) (X0 : Nat → Prop) (R : World → Prop) : Prop :=
 ∀ (l : Nat) (J Jx : Nat → (Nat → Prop) → World → Prop) (W : World), Steady J → Steady Jx →
  (∀ (i : Nat) (X : Nat → Prop) (W1 : World),i < N → J i X W1 → YieldAt Fence.wide 0 P l (enc i) W1 fun e W' => Keeps X W1 W' ∧
   ((e = .returned (.bool true) ∧ J (i + 1) X W') ∨ (e = .returned (.bool false) ∧ Jx i X W'))) →
  J 0 X0 W → R W → (∀ k,X0 k → k < W.heap.size) →
  Calls P g (#[.func (.yield l) #[] #[]] ++ lb) W fun e W' => (∃ v,e = .returned v) ∧ (J N X0 W' ∨ ∃ i,i < N ∧ Jx i X0 W')

theorem wp_rangeX {P : Program} {g : Operand} {ps : Array Tmp} {assign body : Code} {Q : Exit → Act → World → Prop} {a : Act} {w : World} {gf : Nat} {lb : Array Value}
  (hg : a.eval g = .func (.func gf) #[] lb) (eg : ∀ args w,(callFunc gf args).run P w = .ok (.enter gf args) w)
  {N : Nat} {enc : Nat → Array Value} {X0 : Nat → Prop} {R : World → Prop} (hseq : GivesX P gf lb N enc X0 R) (hps : ∀ i,(enc i).size = ps.size)
  (I : Nat → (Nat → Prop) → World → Prop) (Ix : Code → Nat → (Nat → Prop) → World → Prop) (Ia : Act → Nat → (Nat → Prop) → World → Prop)
  (hI : Steady I) (hIx : ∀ c,Steady (Ix c)) (hIa : ∀ a',Steady (Ia a')) (hR : ∀ W,Turns Noth w W → R W) (hX0 : ∀ k,X0 k → k < w.heap.size) (h0 : I 0 X0 w)
  (hassign : ∀ (l i : Nat) (X : Nat → Prop) (W : World) (K : Act → World → Prop),i < N → I i X W → (∀ a' W',Keeps X W W' → Ia a' i X W' → K a' W') →
   assign.wpIn (Fence.wide.inRound l) 0 P (Exit.then K (fun _ _ _ => False)) { tmps := (ps.zip (enc i)).foldl (fun t (p,v) => t.setIfInBounds p v) a.tmps,defers := [] } W)
  (hbody : ∀ (l i : Nat) (X : Nat → Prop) (a' : Act) (W : World),i < N → Ia a' i X W → body.wpIn (Fence.wide.inRound l) 0 P (leftBy I Ix i X W) a' W)
  (hdone : ∀ (D : Nat) (W : World),w.heap.size ≤ D → I N (fun k => k = D) W → W.heap[D]? = some (.deferred (some [])) → Q .normal { a with defers := { target := .collected D,args := #[] } :: a.defers } W)
  (hstop : ∀ (D : Nat) (c : Code) (i : Nat) (W : World),w.heap.size ≤ D → i < N → Ix c i (fun k => k = D) W → W.heap[D]? = some (.deferred (some [])) → c.wpIn Fence.wide 0 P Q { a with defers := { target := .collected D,args := #[] } :: a.defers } W) :
  (Code.rangeFunc g ps assign body).wpIn Fence.wide 0 P Q a w := by
 refine wpIn_rangeFunc ?_
 intro fn hfn
 obtain ⟨rec,hrec⟩ : ∃ rec : LoopState → Option Code → Loop,rec = fun st pe => { state := st,pending := pe,fn,tmps := a.tmps,params := ps,assign,body,defers := w.heap.size } := ⟨_,rfl⟩
 obtain ⟨D,hD⟩ : ∃ D,D = w.heap.size := ⟨_,rfl⟩
 obtain ⟨l,hl⟩ : ∃ l,l = w.heap.size + 1 := ⟨_,rfl⟩
 obtain ⟨W1,hW1⟩ : ∃ W1,(w.alloc (.deferred (some []))).alloc (.loop (rec .ready none)) = W1 := ⟨_,rfl⟩
 have hL1 : W1.heap[l]? = some (.loop (rec .ready none)) := by
  rw [← hW1,hl]; have := World.alloc_heap_new (w.alloc (.deferred (some []))) (.loop (rec .ready none)); rwa [World.size_alloc] at this
 have hK1 : W1.heap[D]? = some (.deferred (some [])) := by
  rw [← hW1,hD]; exact (Below.heap_alloc _ _ _ (by simp)).trans (World.alloc_heap_new w _)
 have hT1 : Turns Noth w W1 := by rw [← hW1]; exact (Turns.alloc _ _ _).trans (Turns.alloc _ _ _)
 refine ⟨l,[{ target := .collected D,args := #[] }],W1,{ target := .fn (.func gf) lb,args := #[.func (.yield l) #[] #[]] },W1,gf,#[.func (.yield l) #[] #[]] ++ lb,W1,?_,?_,?_,?_,(fun h => (by cases h)),?_⟩
 ·rw [← hW1,hrec,hl,hD]; exact run_enterLoop_outer _ _ _ _ _
 ·simp only [resolve,hg]
  simp [go_sem]
 ·intro f' _; trivial
 ·simp [invoke,go_sem,eg]
 ·have hDl : D ≠ l := by omega
  refine callsIn_wide.2 ((hseq l
   (fun i X W => I i (fun k => X k ∨ k = l ∨ k = D) W ∧ W.heap[l]? = some (.loop (rec .ready none)) ∧ W.heap[D]? = some (.deferred (some [])) ∧ ¬ X l ∧ ¬ X D)
   (fun i X W => ∃ c,Ix c i (fun k => X k ∨ k = l ∨ k = D) W ∧ W.heap[l]? = some (.loop (rec .done (some c))) ∧ W.heap[D]? = some (.deferred (some [])) ∧ ¬ X l ∧ ¬ X D)
   W1 ?_ ?_ ?_ ⟨?_,hL1,hK1,fun h => (by have := hX0 _ h; omega),fun h => (by have := hX0 _ h; omega)⟩ (hR _ hT1) (fun k hk => Nat.lt_of_lt_of_le (hX0 k hk) hT1.size)).mono ?_)
  ·rintro i X X' A B ⟨hi,hla,hda,hxl,hxd⟩ ht hx
   have sl := (Array.getElem?_eq_some_iff.1 hla).1
   have sd := (Array.getElem?_eq_some_iff.1 hda).1
   refine ⟨hI i _ _ A B hi (ht.mono (fun _ h => .inl h)) ?_,(ht.block l sl hxl).trans hla,(ht.block D sd hxd).trans hda,?_,?_⟩
   ·rintro k (h | h)
    ·exact (hx k h).elim (fun h => .inl (.inl h)) .inr
    ·exact .inl (.inr h)
   ·intro h; exact (hx l h).elim hxl (fun h => by omega)
   ·intro h; exact (hx D h).elim hxd (fun h => by omega)
  ·rintro i X X' A B ⟨c,hi,hla,hda,hxl,hxd⟩ ht hx
   have sl := (Array.getElem?_eq_some_iff.1 hla).1
   have sd := (Array.getElem?_eq_some_iff.1 hda).1
   refine ⟨c,hIx c i _ _ A B hi (ht.mono (fun _ h => .inl h)) ?_,(ht.block l sl hxl).trans hla,(ht.block D sd hxd).trans hda,?_,?_⟩
   ·rintro k (h | h)
    ·exact (hx k h).elim (fun h => .inl (.inl h)) .inr
    ·exact .inl (.inr h)
   ·intro h; exact (hx l h).elim hxl (fun h => by omega)
   ·intro h; exact (hx D h).elim hxd (fun h => by omega)
  ·-- one round
   rintro i X W hiN ⟨hi,hlw,hdw,hxl,hxd⟩
   have hy := run_yield (P := P) (args := enc i) hlw (by rw [hrec]; exact hps i)
   rw [hrec] at hy
   refine ⟨fn,_,assign,body,hy,roundIn_of_wpIn hfn (hassign l i _ W _ hiN hi ?_)⟩
   clear hy
   intro a' Wa hka hia
   have hla := hka.get (.inr (.inl rfl)) hlw
   have hda := hka.get (.inr (.inr rfl)) hdw
   have sla := (Array.getElem?_eq_some_iff.1 hla).1
   refine ⟨_,run_beginRound hla (by rw [hrec]),?_⟩
   obtain ⟨Wb,hWb⟩ : ∃ Wb,Wa.putObj l (.loop { rec .ready none with state := .busy }) = Wb := ⟨_,rfl⟩
   rw [hWb]
   have hlb : Wb.heap[l]? = some (.loop { rec .ready none with state := .busy }) := by rw [← hWb]; exact World.putObj_heap_same sla
   have hdb : Wb.heap[D]? = some (.deferred (some [])) := by rw [← hWb]; exact (World.putObj_heap_other hDl).trans hda
   have hib : Ia a' i (fun k => X k ∨ k = l ∨ k = D) Wb := by
    rw [← hWb]; exact hIa a' i _ _ Wa _ hia (Turns.putObj Wa (.inr (.inl rfl)) _) (fun k h => .inl h)
   have hkb : Keeps X W Wb := by
    rw [← hWb]; exact (hka.mono (fun _ h => .inl h)).trans (Keeps.of_turns (Turns.putObj (X := fun k => k = l) Wa rfl _) (fun k hk e => hxl (e ▸ hk)))
   refine wpIn_mono (hbody l i _ a' Wb hiN hib) ?_
   have fin : ∀ (jump : Option Code) (W3 : World),Keeps (fun k => X k ∨ k = l ∨ k = D) Wb W3 →
     (Instr.endRound l jump).run P W3 = .ok (.bool jump.isNone) (W3.putObj l (.loop (rec (if jump.isNone then .ready else .done) jump))) ∧
     (W3.putObj l (.loop (rec (if jump.isNone then .ready else .done) jump))).heap[l]? = some (.loop (rec (if jump.isNone then .ready else .done) jump)) ∧
     (W3.putObj l (.loop (rec (if jump.isNone then .ready else .done) jump))).heap[D]? = some (.deferred (some [])) ∧
     Keeps X W (W3.putObj l (.loop (rec (if jump.isNone then .ready else .done) jump))) := fun jump W3 hk3 => by
    have hl3 := hk3.get (.inr (.inl rfl)) hlb
    have hd3 := hk3.get (.inr (.inr rfl)) hdb
    have := run_endRound (P := P) jump hl3
    rw [hrec] at this ⊢
    exact ⟨this,World.putObj_heap_same (Array.getElem?_eq_some_iff.1 hl3).1,(World.putObj_heap_other hDl).trans hd3,
     (hkb.trans (hk3.mono (fun _ h => .inl h))).trans (Keeps.of_turns (Turns.putObj (X := fun k => k = l) W3 rfl _) (fun k hk e => hxl (e ▸ hk)))⟩
   rintro e a3 W3 hp
   cases e with
   | normal =>
    obtain ⟨hk3,hi3⟩ := hp
    obtain ⟨hr,hl4,hd4,hk4⟩ := fin none W3 hk3
    exact ⟨_,_,hr,hk4,.inl ⟨rfl,hI _ _ _ _ _ hi3 (Turns.putObj W3 (.inr (.inl rfl)) _) (fun k h => .inl h),hl4,hd4,hxl,hxd⟩⟩
   | ret =>
    obtain ⟨hk3,hi3⟩ := hp
    obtain ⟨hr,hl4,hd4,hk4⟩ := fin (some .ret) W3 hk3
    exact ⟨_,_,hr,hk4,.inr ⟨rfl,.ret,hIx _ _ _ _ _ _ hi3 (Turns.putObj W3 (.inr (.inl rfl)) _) (fun k h => .inl h),hl4,hd4,hxl,hxd⟩⟩
   | exit id =>
    obtain ⟨hk3,hi3⟩ := hp
    obtain ⟨hr,hl4,hd4,hk4⟩ := fin (some (.exit id)) W3 hk3
    exact ⟨_,_,hr,hk4,.inr ⟨rfl,.exit id,hIx _ _ _ _ _ _ hi3 (Turns.putObj W3 (.inr (.inl rfl)) _) (fun k h => .inl h),hl4,hd4,hxl,hxd⟩⟩
   | goto t =>
    obtain ⟨hk3,hi3⟩ := hp
    obtain ⟨hr,hl4,hd4,hk4⟩ := fin (some (.goto t)) W3 hk3
    exact ⟨_,_,hr,hk4,.inr ⟨rfl,.goto t,hIx _ _ _ _ _ _ hi3 (Turns.putObj W3 (.inr (.inl rfl)) _) (fun k h => .inl h),hl4,hd4,hxl,hxd⟩⟩
   | panic ch => exact hp.elim
   | outgrown => exact hp.elim
  ·have s1 := (Array.getElem?_eq_some_iff.1 hL1).1
   exact hI 0 X0 _ w W1 h0 (hT1.mono (fun _ h => h.elim)) (fun k h => by rcases h with h | h | h; exact .inl h; exact .inr (by omega); exact .inr (by omega))
  ·-- behind the iterator
   rintro e W2 ⟨⟨v,rfl⟩,(⟨hi,hl2,hd2,_,_⟩ | ⟨i,hiN,c,hi,hl2,hd2,_,_⟩)⟩
   ·refine ⟨none,_,by have := run_endLoop (P := P) hl2 (by rw [hrec]; simp); rw [hrec] at this; exact this,?_⟩
    exact hdone D _ (by omega) (hI N _ _ W2 _ hi (Turns.putObj W2 (.inr (.inl rfl)) _) (fun k h => .inl (.inr (.inr h)))) ((World.putObj_heap_other hDl).trans hd2)
   ·refine ⟨some c,_,by have := run_endLoop (P := P) hl2 (by rw [hrec]; simp); rw [hrec] at this; exact this,?_⟩
    exact hstop D c i _ (by omega) hiN (hIx c i _ _ W2 _ hi (Turns.putObj W2 (.inr (.inl rfl)) _) (fun k h => .inl (.inr (.inr h)))) ((World.putObj_heap_other hDl).trans hd2)


end Go.Proofs.YtbdpghjegachaaaGreatDoor.Hy

namespace Go.Proofs.YtbdpghjegachaaaGreatDoor.Hy
open Go.RowKit Go.Shelf
set_option maxRecDepth 100000
set_option maxHeartbeats 2000000

def parts : Bs → List Bs
 | [] => [[]]
 | c :: l => if c == 45 then [] :: parts l else match parts l with
  | h :: t => (c :: h) :: t
  | [] => [[c]]
theorem parts_ne : ∀ l,parts l ≠ []
 | [] => by simp [parts]
 | c :: l => by
  rw [parts]
  split
  ·simp
  ·split <;> simp
theorem idx_parts : ∀ l : Bs,(Lib.indexByte l 45 = -1 ∧ parts l = [l]) ∨ ∃ n : Nat,Lib.indexByte l 45 = n ∧ n < l.length ∧ parts l = l.take n :: parts (l.drop (n + 1))
 | [] => .inl ⟨rfl,rfl⟩
 | c :: l => by
  rw [parts,Lib.indexByte]
  by_cases h : (c == 45) = true
  ·rw [if_pos h,if_pos h]
   exact .inr ⟨0,rfl,by simp,by simp⟩
  ·rw [if_neg h,if_neg h]
   rcases idx_parts l with ⟨h1,h2⟩ | ⟨n,h1,h2,h3⟩
   ·rw [h1,h2]; exact .inl ⟨rfl,rfl⟩
   ·rw [h1,h3]
    refine .inr ⟨n + 1,?_,by simp; omega,by simp⟩
    have : ((n : Int) == -1) = false := by rw [beq_eq_false_iff_ne]; omega
    rw [this]; simp
theorem ba_eq {a : ByteArray} {l : Bs} (h : a.data.toList = l) : a = ⟨l.toArray⟩ := by
 subst h
 obtain ⟨⟨a⟩⟩ := a
 rfl
theorem extract_ba (s : ByteArray) (i j : Nat) : (s.extract i j).data.toList = (s.data.toList.take j).drop i := by
 rw [ByteArray.data_extract,Array.toList_extract,List.extract_eq_take_drop]
 simp [List.drop_take]

theorem wide_fn (f : FuncId) : Fence.wide.fn f = True := rfl
theorem wide_depth : Fence.wide.depth = none := rfl
attribute [local go_sem] Oper.semAt_some wide_fn wide_depth

def splitW (x : ByteArray) (w : World) : World := ((w.alloc (.cells #[.string x] 9)).alloc (.cells #[.string ⟨#[45]⟩] 9)).alloc (.cells #[.int .i64 0] 3)
def splitV (n : Nat) : Array Value := #[.pointer (some ⟨n + 1,0,none⟩),.pointer (some ⟨n,0,none⟩),.pointer (some ⟨n + 2,0,none⟩)]
theorem split_any (x : ByteArray) (w : World) : Calls Tryz.prog 200 #[.string x,.string ⟨#[45]⟩] w fun e w' => e = .returned (.func (.func 223) #[] (splitV w.heap.size)) ∧ w' = splitW x w := by
 go_enter Tryz.func200,Tryz.ntmps200
 go_wp2
 go_ret
 exact ⟨rfl,rfl⟩

def X3 (n : Nat) (k : Nat) : Prop := k = n ∨ k = n + 1 ∨ k = n + 2
structure Read3 (n : Nat) (x : ByteArray) (W : World) : Prop where
 s : Blk W n #[.string x] 9
 p : Blk W (n + 1) #[.string ⟨#[45]⟩] 9
 v : Blk W (n + 2) #[.int .i64 0] 3
def partN (x : ByteArray) (i : Nat) : ByteArray := ⟨((parts x.data.toList).getD i []).toArray⟩
def encP (x : ByteArray) (i : Nat) : Array Value := #[.string (partN x i)]
def strAt (b : Nat) (w : World) : Nat := match w.cell? ⟨b,0,none⟩ with
 | some (.string s) => s.size
 | _ => 0
theorem strAt_is {w : World} {b : Nat} {s : ByteArray} (h : w.cell? ⟨b,0,none⟩ = some (.string s)) : strAt b w = s.size := by simp [strAt,h]
theorem Read3.keeps {n : Nat} {x : ByteArray} {W W' : World} (h : Read3 n x W) (hk : Keeps (X3 n) W W') : Read3 n x W' :=
 ⟨hk.get (.inl rfl) h.s,hk.get (.inr (.inl rfl)) h.p,hk.get (.inr (.inr rfl)) h.v⟩

theorem split1_gives (n : Nat) (x : ByteArray) (hx : x.size ≤ 1000000) :
  GivesX Tryz.prog 223 (splitV n) (parts x.data.toList).length (encP x) (X3 n) (Read3 n x) := by
 intro l J Jx W hJ hJx hY h0 hR0 hlt0
 refine callsIn_wide (n := 0).1 ?_
 refine callsIn_of_wp Tryz.func223 rfl trivial ?_ rfl
 unfold splitV
 simp only [Tryz.ntmps223,List.size_toArray,List.length_cons,List.length_nil,Nat.reduceAdd,Nat.reduceSub,Array.replicate_succ,Array.replicate_zero,List.push_toArray,List.append_toArray,List.nil_append,List.cons_append]
 have c0 : W.cell? ⟨n,0,none⟩ = some (.string x) := by rw [hR0.s.cell]; rfl
 have c1 : W.cell? ⟨n + 1,0,none⟩ = some (.string ⟨#[45]⟩) := by rw [hR0.p.cell]; rfl
 have c2 : W.cell? ⟨n + 2,0,none⟩ = some (.int .i64 0) := by rw [hR0.v.cell]; rfl
 have hgetD : Hid (∀ (k : Nat) (r : ByteArray) (h : Bs) (t : List Bs),parts r.data.toList = (parts x.data.toList).drop k → parts r.data.toList = h :: t → encP x k = #[.string ⟨h.toArray⟩] ∧ k < (parts x.data.toList).length ∧ (parts x.data.toList).drop (k + 1) = t) := by
  intro k r h t h1 h2
  rw [h2] at h1
  have hk : k < (parts x.data.toList).length := by
   apply Classical.byContradiction
   intro hc
   rw [List.drop_of_length_le (by omega)] at h1
   cases h1
  rw [List.drop_eq_getElem_cons hk] at h1
  injection h1 with h3 h4
  refine ⟨?_,hk,h4.symm⟩
  unfold encP partN
  rw [List.getD_eq_getElem?_getD,List.getElem?_eq_getElem hk,← h3]; rfl
 gi_wp2
 gi_loopw [7] (fun _ wr => ∃ (k : Nat) (r : ByteArray),Read3 n r wr ∧ J k (X3 n) wr ∧ r.size ≤ x.size ∧ Hid (parts r.data.toList = (parts x.data.toList).drop k)) (fun _ wr => strAt n wr)
 case atStart => exact ⟨0,x,hR0,h0,by omega,rfl⟩
 case round =>
  obtain ⟨k,r,hR,hJk,hrx,hpr⟩ := hrel
  have d0 : wr.cell? ⟨n,0,none⟩ = some (.string r) := by rw [hR.s.cell]; rfl
  have d1 : wr.cell? ⟨n + 1,0,none⟩ = some (.string ⟨#[45]⟩) := by rw [hR.p.cell]; rfl
  have d2 : wr.cell? ⟨n + 2,0,none⟩ = some (.int .i64 0) := by rw [hR.v.cell]; rfl
  have hsz : Hid (strAt n wr = r.size) := strAt_is d0
  have hIx := Tryz.strings_Index_one r 45 wr
  rcases idx_parts r.data.toList with ⟨h1,h2⟩ | ⟨m,h1,h2,h3⟩
  ·rw [h1] at hIx
   obtain ⟨e1,e2,e3⟩ := hgetD.out k r _ _ hpr.out h2
   have e4 : k + 1 = (parts x.data.toList).length := by
    have := congrArg List.length e3
    simp at this
    omega
   have hYk := hY k _ _ e2 hJk
   rw [e1,← ba_eq (a := r) rfl] at hYk
   obtain ⟨fn,tmps,assign,body,hy,hRo⟩ := hYk
   have hfin : Hid (k + 1 = (parts x.data.toList).length ∧ k < (parts x.data.toList).length) := ⟨e4,e2⟩
   clear hgetD hpr h1 h2 e1 e2 e3 e4
   gi_wp2_with (gi_at_call 144; refine (callsIn_wide.2 hIx).mono ?_; rintro e w' ⟨rfl,hww⟩; subst w')
   refine hRo.mono ?_
   rintro e W3 ⟨hk3,(⟨rfl,hJ3⟩ | ⟨rfl,hJx3⟩)⟩
   ·gi_wp2
    go_end0
    refine ⟨⟨_,rfl⟩,.inl ?_⟩
    rw [← hfin.out.1]; exact hJ3
   ·gi_wp2
    go_end0
    exact ⟨⟨_,rfl⟩,.inr ⟨k,hfin.out.2,hJx3⟩⟩
  ·rw [h1] at hIx
   have hml : m < r.size := by rw [size_ba] at h2; exact h2
   obtain ⟨e1,e2,e3⟩ := hgetD.out k r _ _ hpr.out h3
   have hYk := hY k _ _ e2 hJk
   rw [e1] at hYk
   obtain ⟨fr,hfr⟩ : ∃ fr : ByteArray,(⟨(r.data.toList.take m).toArray⟩ : ByteArray) = fr := ⟨_,rfl⟩
   have hfr2 : r.extract 0 m = fr := by rw [← hfr]; apply ba_eq; rw [extract_ba]; simp
   rw [hfr] at hYk
   obtain ⟨fn,tmps,assign,body,hy,hRo⟩ := hYk
   obtain ⟨r2,hr2⟩ : ∃ r2,r.extract (m + 1) r.size = r2 := ⟨_,rfl⟩
   have hr2l : r2.data.toList = r.data.toList.drop (m + 1) := by rw [← hr2,extract_ba,take_all_ba]
   have hr2s : r2.size = r.size - (m + 1) := by rw [← size_ba,hr2l,List.length_drop,size_ba]
   have hnext : Hid (parts r2.data.toList = (parts x.data.toList).drop (k + 1)) := by show _ = _; rw [hr2l,e3]
   have hRf : Hid (Read3 n r wr) := hR
   have hkn : Hid (k < (parts x.data.toList).length) := e2
   have m1 : (m : Int) ≤ r.size := by omega
   have m2 : (m : Int) + 1 ≤ r.size := by omega
   clear hgetD hpr h1 h3 e1 e2 e3 hr2l hR h2
   gi_wp2_with (gi_at_call 144; refine (callsIn_wide.2 hIx).mono ?_; rintro e w' ⟨rfl,hww⟩; subst w')
   refine hRo.mono ?_
   rintro e W3 ⟨hk3,(⟨rfl,hJ3⟩ | ⟨rfl,hJx3⟩)⟩
   ·have hR3 := hRf.out.keeps hk3
    have g0 : W3.cell? ⟨n,0,none⟩ = some (.string r) := by rw [hR3.s.cell]; rfl
    have g1 : W3.cell? ⟨n + 1,0,none⟩ = some (.string ⟨#[45]⟩) := by rw [hR3.p.cell]; rfl
    have gf := hR3.s.free 0
    have hR4 : Read3 n r2 (W3.setCell ⟨n,0,none⟩ (.string r2)) := ⟨hR3.s.set 0 _,hR3.p.other 0 _ (by omega),hR3.v.other 0 _ (by omega)⟩
    have hJ4 : J (k + 1) (X3 n) (W3.setCell ⟨n,0,none⟩ (.string r2)) := hJ _ _ _ _ _ hJ3 (Turns.setCell W3 (p := ⟨n,0,none⟩) (.inl rfl) _) (fun _ h => .inl h)
    have hsz2 : Hid (strAt n (W3.setCell ⟨n,0,none⟩ (.string r2)) = r2.size) := strAt_is (by rw [hR4.s.cell]; rfl)
    clear hR3 hRf hJ3
    gi_wp2
    go_roundw
    case rel => exact ⟨k + 1,r2,hR4,hJ4,by omega,hnext⟩
    case measure => rw [hsz.out,hsz2.out]; omega
   ·gi_wp2
    refine bodyPost_ret (results_none rfl _ _ _) rfl ?_
    exact ⟨⟨_,rfl⟩,.inr ⟨k,hkn.out,hJx3⟩⟩
end Go.Proofs.YtbdpghjegachaaaGreatDoor.Hy
