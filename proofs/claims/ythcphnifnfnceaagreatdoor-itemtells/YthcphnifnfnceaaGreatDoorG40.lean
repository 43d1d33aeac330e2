/-
  What is proved here: what the document calls a pattern, place by place, is what the program calls one (no function of the program is named).
  What is proved here: what the document's Letters and pattern answer.
-/
import Derived.Test.YthcphnifnfnceaaGreatDoorG39
namespace Go.Proofs.YthcphnifnfnceaaGreatDoor.Hy

def rOk (p : Bs) (i : Nat) : Bool :=
 (sml (p.getD i 0) || (dgt (p.getD i 0) || (p.getD i 0 == 46 && (decide (i = 0) || decide (i = p.length - 1))))) &&
 !(dgt (p.getD i 0) && ((decide (0 < i) && dgt (p.getD (i - 1) 0)) || ((decide (i = p.length - 1) && (decide (0 < i) && (p.getD (i - 1) 0 == 46))) || (decide (i = 0) && (decide (1 < p.length) && (p.getD 1 0 == 46))))))
def rPat (p : Bs) : Bool := decide (1 ≤ p.length) && (decide (p.length ≤ 16) && ((List.range p.length).all (rOk p) && decide (0 < (p.filter sml).length)))
theorem dot_not_small : sml 46 = false := by decide
theorem dot_not_digit : dgt 46 = false := by decide
theorem trim_shape (p : Bs) : ∃ o e : Nat,o ≤ 1 ∧ e ≤ 1 ∧ p = List.replicate o 46 ++ (trimD p ++ List.replicate e 46) ∧ (o = 0 → p.getD 0 0 ≠ 46 ∨ p = []) ∧ (e = 0 → ∀ i,i + 1 = (trimD p).length → (trimD p).getD i 0 ≠ 46) := by
 have h1 : ∃ o : Nat,o ≤ 1 ∧ p = List.replicate o 46 ++ Lib.trimPrefix p [46] ∧ (o = 0 → p.getD 0 0 ≠ 46 ∨ p = []) := by
  cases p with
  | nil => exact ⟨0,by omega,by rfl,fun _ => .inr rfl⟩
  | cons c l =>
   by_cases hc : c = 46
   ·subst hc
    refine ⟨1,by omega,?_,fun h => by omega⟩
    rfl
   ·refine ⟨0,by omega,?_,fun _ => .inl (by simpa using hc)⟩
    unfold Lib.trimPrefix Lib.hasPrefix
    rw [if_neg]
    ·rfl
    ·intro h
     obtain ⟨t,ht⟩ := List.isPrefixOf_iff_prefix.1 h
     simp at ht
     exact hc ht.1.symm
 obtain ⟨o,ho,hp,h0⟩ := h1
 have h2 : ∀ q : Bs,∃ e : Nat,e ≤ 1 ∧ q = Lib.trimSuffix q [46] ++ List.replicate e 46 ∧ (e = 0 → ∀ i,i + 1 = (Lib.trimSuffix q [46]).length → (Lib.trimSuffix q [46]).getD i 0 ≠ 46) := by
  intro q
  unfold Lib.trimSuffix Lib.hasSuffix
  by_cases hs : ([46] : Bs).isSuffixOf q = true
  ·rw [if_pos hs]
   obtain ⟨t,ht⟩ := List.isSuffixOf_iff_suffix.1 hs
   refine ⟨1,by omega,?_,fun h => by omega⟩
   rw [← ht]
   simp
  ·rw [if_neg hs]
   refine ⟨0,by omega,by simp,fun _ i hi he => hs ?_⟩
   rw [List.isSuffixOf_iff_suffix]
   refine ⟨q.take i,?_⟩
   have hil : i < q.length := by omega
   rw [List.getD_eq_getElem?_getD,List.getElem?_eq_getElem hil] at he
   have he' : q[i] = 46 := he
   rw [← he',← List.take_succ_eq_append_getElem hil,List.take_of_length_le (by omega)]
 obtain ⟨e,he,hq,h3⟩ := h2 (Lib.trimPrefix p [46])
 refine ⟨o,e,ho,he,?_,h0,?_⟩
 ·unfold trimD
  rw [← hq]; exact hp
 ·exact h3
theorem rPat_is (p : Bs) : rPat p = patB p := by
 obtain ⟨o,e,ho,he,hp,hno,hne⟩ := trim_shape p
 unfold rPat patB patT
 generalize trimD p = t at *
 have hlen : p.length = o + t.length + e := by rw [hp]; simp; omega
 have hmid : ∀ i,i < t.length → p.getD (o + i) 0 = t.getD i 0 := by
  intro i hi
  rw [List.getD_eq_getElem?_getD,List.getD_eq_getElem?_getD,hp,List.getElem?_append_right (by simp),List.length_replicate,Nat.add_sub_cancel_left,List.getElem?_append_left hi]
 have hlo : o = 1 → p.getD 0 0 = 46 := by rintro rfl; rw [hp]; rfl
 have hhi : e = 1 → p.getD (p.length - 1) 0 = 46 := by
  rintro rfl
  rw [List.getD_eq_getElem?_getD,show p.length - 1 = o + t.length by omega,hp,List.getElem?_append_right (by simp),List.length_replicate,Nat.add_sub_cancel_left,List.getElem?_append_right (by omega),Nat.sub_self]
  rfl
 have hf : p.filter sml = t.filter sml := by
  have hr : ∀ n : Nat,(List.replicate n (46 : UInt8)).filter sml = [] := fun n => by simp [dot_not_small]
  rw [hp,List.filter_append,List.filter_append,hr,hr]; simp
 rw [hf]
 by_cases hz' : ¬ 0 < (t.filter sml).length
 ·rw [decide_eq_false hz']; simp
 have hz : 0 < (t.filter sml).length := by omega
 rw [decide_eq_true hz,Bool.and_true,Bool.and_true]
 have htl : 0 < t.length := Nat.lt_of_lt_of_le hz (List.length_filter_le _ _)
 have h1 : decide (1 ≤ p.length) = true := by rw [decide_eq_true_eq]; omega
 rw [h1,Bool.true_and]
 congr 1
 -- one digit alone has no letter
 have hone : t.length = 1 → dgt (t.getD 0 0) = true → False := by
  intro h1 h2
  obtain ⟨c,rfl⟩ := List.length_eq_one_iff.1 h1
  have hc : dgt c = true := h2
  have hs : sml c = false := by
   have hr := dgI_rng hc
   exact smI_no (by omega)
  rw [List.filter_cons,hs] at hz
  simp at hz
 have hsd : ∀ c : UInt8,(sml c = true ∨ dgt c = true) → c ≠ 46 := by
  rintro c (h | h) rfl
  ·cases (dot_not_small ▸ h)
  ·cases (dot_not_digit ▸ h)
 have hsnd : ∀ c : UInt8,sml c = true → dgt c = false := fun c h => by
  have hr := smI_rng h
  exact dgI_no (by omega)
 apply Bool.eq_iff_iff.2
 rw [List.all_eq_true,List.all_eq_true]
 constructor
 ·intro h i hi
  have hil := List.mem_range.1 hi
  have hr := h (o + i) (List.mem_range.2 (by omega))
  unfold rOk at hr
  rw [hmid i hil] at hr
  simp only [Bool.and_eq_true,Bool.or_eq_true,Bool.not_eq_true',Bool.and_eq_false_iff,Bool.or_eq_false_iff,decide_eq_true_eq,decide_eq_false_iff_not,beq_iff_eq] at hr
  unfold okAt
  simp only [Bool.and_eq_true,Bool.or_eq_true,Bool.not_eq_true',Bool.and_eq_false_iff,decide_eq_false_iff_not]
  obtain ⟨h2,h3⟩ := hr
  rcases h2 with h2 | h2 | ⟨h2,h4⟩
  ·exact .inl h2
  ·refine .inr ⟨h2,?_⟩
   rcases h3 with h3 | ⟨h3,-⟩
   ·rw [h2] at h3; cases h3
   ·by_cases hi0 : i = 0
    ·exact .inl (by omega)
    ·rcases h3 with h3 | h3
     ·exact absurd h3 (by omega)
     ·refine .inr ?_
      rw [show o + i - 1 = o + (i - 1) by omega,hmid _ (by omega)] at h3
      exact h3
  ·exfalso
   rcases h4 with h4 | h4
   ·have ho0 : o = 0 := by omega
    have hi0 : i = 0 := by omega
    subst hi0
    have := hmid 0 hil
    rw [ho0] at this
    rcases hno ho0 with h5 | h5
    ·exact h5 (by rw [show (0 : Nat) = 0 + 0 from rfl,this]; exact h2)
    ·rw [h5] at hlen; simp at hlen; omega
   ·have he0 : e = 0 := by omega
    exact hne he0 i (by omega) h2
 ·intro h j hj
  have hjl := List.mem_range.1 hj
  have hok : ∀ i,i < t.length → (sml (t.getD i 0) = true ∨ dgt (t.getD i 0) = true) ∧ (dgt (t.getD i 0) = true → 0 < i → dgt (t.getD (i - 1) 0) = false) := by
   intro i hi
   have hr := h i (List.mem_range.2 hi)
   unfold okAt at hr
   simp only [Bool.and_eq_true,Bool.or_eq_true,Bool.not_eq_true',Bool.and_eq_false_iff,decide_eq_false_iff_not] at hr
   rcases hr with hr | ⟨hr,h2⟩
   ·exact ⟨.inl hr,fun hd => by rw [hsnd _ hr] at hd; cases hd⟩
   ·refine ⟨.inr hr,fun _ h0 => ?_⟩
    rcases h2 with h2 | h2
    ·omega
    ·exact h2
  unfold rOk
  simp only [Bool.and_eq_true,Bool.or_eq_true,Bool.not_eq_true',Bool.and_eq_false_iff,Bool.or_eq_false_iff,decide_eq_true_eq,decide_eq_false_iff_not,beq_iff_eq,beq_eq_false_iff_ne]
  by_cases h1 : j < o
  ·have h46 : p.getD j 0 = 46 := by rw [show j = 0 by omega]; exact hlo (by omega)
   rw [h46]
   exact ⟨.inr (.inr ⟨rfl,.inl (by omega)⟩),.inl dot_not_digit⟩
  by_cases h2 : o + t.length ≤ j
  ·have h46 : p.getD j 0 = 46 := by rw [show j = p.length - 1 by omega]; exact hhi (by omega)
   rw [h46]
   exact ⟨.inr (.inr ⟨rfl,.inr (by omega)⟩),.inl dot_not_digit⟩
  obtain ⟨i,rfl⟩ : ∃ i,j = o + i := ⟨j - o,by omega⟩
  have hi : i < t.length := by omega
  rw [hmid i hi]
  obtain ⟨g1,g2⟩ := hok i hi
  refine ⟨by rcases g1 with g | g; exact .inl g; exact .inr (.inl g),?_⟩
  cases hd : dgt (t.getD i 0) with
  | false => exact .inl rfl
  | true =>
   refine .inr ⟨?_,?_,?_⟩
   ·by_cases hi0 : i = 0
    ·subst hi0
     by_cases ho0 : o = 0
     ·exact .inl (by omega)
     ·refine .inr ?_
      rw [show o + 0 - 1 = 0 by omega,hlo (by omega)]; exact dot_not_digit
    ·refine .inr ?_
     rw [show o + i - 1 = o + (i - 1) by omega,hmid _ (by omega)]
     exact g2 hd (by omega)
   ·by_cases hl : o + i = p.length - 1
    ·by_cases hi0 : i = 0
     ·subst hi0
      exact absurd hd (fun hd => hone (by omega) hd)
     ·refine .inr (.inr ?_)
      rw [show o + i - 1 = o + (i - 1) by omega,hmid _ (by omega)]
      exact hsd _ (hok (i - 1) (by omega)).1
    ·exact .inl hl
   ·by_cases hl : o + i = 0
    ·have ho0 : o = 0 := by omega
     have hi0 : i = 0 := by omega
     subst hi0
     by_cases ht1 : t.length = 1
     ·exact absurd hd (fun hd => hone ht1 hd)
     ·refine .inr (.inr ?_)
      have := hmid 1 (by omega)
      rw [ho0] at this
      rw [show (1 : Nat) = 0 + 1 from rfl,this]
      exact hsd _ (hok 1 (by omega)).1
    ·exact .inl hl
end Go.Proofs.YthcphnifnfnceaaGreatDoor.Hy

namespace Go.Proofs.YthcphnifnfnceaaGreatDoor.Hy
open Go.RowKit Go.Shelf
set_option maxRecDepth 100000
set_option maxHeartbeats 4000000

theorem ltrs_add (l : Bs) (c : UInt8) : ltrs (l ++ [c]) = if dgt c then ltrs l else ltrs l ++ [c] := by
 unfold ltrs
 rw [List.filter_append]
 by_cases h : dgt c = true <;> simp [h]
theorem letters_any (s : ByteArray) (hs : s.size ≤ 1000000) (w : World) : Calls Tryz.prog 154 #[.string s] w fun e w' => e = .returned (.string ⟨(ltrs (bs s)).toArray⟩) ∧ w' = w := by
 have hW : Hid (s.data.toList.take s.size = s.data.toList) := take_all_ba s
 go_enter Tryz.func154,Tryz.ntmps154
 go_wp2_with fail
 go_loopw [3,4] (fun o i wr => ∃ (k : Nat) (q : ByteArray),k ≤ s.size ∧ i = .int .i64 k ∧ o = .string q ∧ wr = w ∧ Hid (q = ⟨(ltrs (s.data.toList.take k)).toArray⟩)) (fun _ i _ => s.size - (intOf i).toNat)
 case atStart => exact ⟨0,⟨#[]⟩,by omega,rfl,rfl,rfl,rfl⟩
 case round =>
  obtain ⟨k,q,hk,rfl,rfl,rfl,hq⟩ := hrel
  by_cases hlt : k < s.size
  ·have ht1 := take_succ_ba hlt
   have hD := rdigit_any ((s[k]'hlt).toNat : Int) wr
   cases hc : dgt (s[k]'hlt) with
   | true =>
    have hq2 : Hid (q = ⟨(ltrs (s.data.toList.take (k + 1))).toArray⟩) := by
     show _ = _
     rw [ht1,ltrs_add,if_pos hc]; exact hq.out
    rw [show dgI ((s[k]'hlt).toNat : Int) = true from hc] at hD
    clear ht1 hq hc hW
    go_wp2_with (go_at_call 155; refine hD.mono ?_; rintro e w' ⟨rfl,hww⟩; subst w')
    go_roundw
    case rel => exact ⟨k + 1,q,by omega,by simp,rfl,by first | rfl | trivial,hq2⟩
    case measure => simp [intOf]; omega
   | false =>
    obtain ⟨x,hx⟩ : ∃ x,s.extract k (k + 1) = x := ⟨_,rfl⟩
    have hq2 : Hid (q ++ x = ⟨(ltrs (s.data.toList.take (k + 1))).toArray⟩) := by
     show _ = _
     rw [ht1,ltrs_add,if_neg (by rw [hc]; decide),hq.out,ba_append,← hx,extract_one hlt]
    have f3 : ¬ 9223372036854775807 < q.size + x.size := by
     have h1 : q.size ≤ k := by
      rw [← size_ba,hq.out]
      exact Nat.le_trans (List.length_filter_le _ _) (by rw [List.length_take]; omega)
     have h2 : x.size = 1 := by rw [← hx,extract_one hlt]; rfl
     omega
    rw [show dgI ((s[k]'hlt).toNat : Int) = false from hc] at hD
    clear ht1 hq hc hW
    go_wp2_with (go_at_call 155; refine hD.mono ?_; rintro e w' ⟨rfl,hww⟩; subst w')
    go_roundw
    case rel => exact ⟨k + 1,q ++ x,by omega,by simp,by first | rfl | (congr 1),by first | rfl | trivial,hq2⟩
    case measure => simp [intOf]; omega
  ·obtain rfl : k = s.size := by omega
   rw [hW.out] at hq
   have := hq.out
   subst this
   clear hq hW
   go_wp2_with fail
   go_ret
   exact ⟨rfl,rfl⟩
theorem beqI {c : UInt8} {n : Nat} (hn : n < 256) : ((c.toNat : Int) == (n : Int)) = (c == UInt8.ofNat n) := by
 have h1 : (UInt8.ofNat n).toNat = n := by simp; omega
 rw [Bool.eq_iff_iff,beq_iff_eq,beq_iff_eq]
 constructor
 ·intro h
  exact UInt8.toNat_inj.1 (by rw [h1]; omega)
 ·rintro rfl; rw [h1]
theorem pattern_any (s : ByteArray) (w : World) : Calls Tryz.prog 151 #[.string s] w fun e w' => e = .returned (.bool (patB (bs s))) ∧ w' = w := by
 rw [← rPat_is]
 by_cases h16 : s.size < 1 ∨ 16 < s.size
 ·have e : rPat (bs s) = false := by
   unfold rPat
   rw [show (bs s).length = s.size from size_ba s]
   rcases h16 with h | h
   ·rw [decide_eq_false (by omega)]; rfl
   ·rw [decide_eq_false (p := s.size ≤ 16) (by omega)]; simp
  rw [e]
  clear e
  have h17 : ((s.size : Int) < 1) ∨ (¬ (s.size : Int) < 1 ∧ (16 : Int) < s.size) := by omega
  clear h16
  rcases h17 with g1 | ⟨g1,g2⟩
  ·go_enter Tryz.func151,Tryz.ntmps151
   go_wp2_with fail
   go_ret
   exact ⟨rfl,rfl⟩
  ·go_enter Tryz.func151,Tryz.ntmps151
   go_wp2_with fail
   go_ret
   exact ⟨rfl,rfl⟩
 ·have g1 : ¬ (s.size : Int) < 1 := by omega
  have g2 : ¬ (16 : Int) < s.size := by omega
  have hno : Hid (∀ (k : Nat),k < s.size → rOk (bs s) k = false → rPat (bs s) = false) := fun k h hk => by
   show _ = _
   unfold rPat
   have : (List.range (bs s).length).all (rOk (bs s)) = false := by
    rw [List.all_eq_false]
    exact ⟨k,List.mem_range.2 (by rw [show (bs s).length = s.size from size_ba s]; exact h),by simp [hk]⟩
   rw [this]; simp
  have hfin : Hid (∀ m : Nat,(List.range s.size).all (rOk (bs s)) = true → m = ((s.data.toList.take s.size).filter sml).length → rPat (bs s) = decide (0 < m)) := by
   rintro m h rfl
   unfold rPat
   rw [show (bs s).length = s.size from size_ba s,h,take_all_ba,decide_eq_true (by omega),decide_eq_true (p := s.size ≤ 16) (by omega)]; rfl
  have hsm : Hid (∀ (k : Nat) (h : k < s.size),((s.data.toList.take (k + 1)).filter sml).length = ((s.data.toList.take k).filter sml).length + (if sml (s[k]'h) then 1 else 0)) := fun k h => by rw [take_succ_ba h,filter_snoc]
  have hok : Hid (∀ (k : Nat) (h : k < s.size),rOk (bs s) k = ((sml (s[k]'h) || (dgt (s[k]'h) || ((s[k]'h) == 46 && (decide (k = 0) || decide (k = s.size - 1))))) && !(dgt (s[k]'h) && ((decide (0 < k) && dgt ((bs s).getD (k - 1) 0)) || ((decide (k = s.size - 1) && (decide (0 < k) && ((bs s).getD (k - 1) 0 == 46))) || (decide (k = 0) && (decide (1 < s.size) && ((bs s).getD 1 0 == 46)))))))) := fun k h => by
   rw [rOk,show (bs s).getD k 0 = s[k]'h from getD_ba h,show (bs s).length = s.size from size_ba s]
  have hpv : Hid (∀ (j : Nat) (h : j < s.size),(bs s).getD j 0 = s[j]'h) := fun j h => getD_ba h
  have hrs : Hid (∀ (k : Nat),(List.range k).all (rOk (bs s)) = true → rOk (bs s) k = true → (List.range (k + 1)).all (rOk (bs s)) = true) := fun k => range_all_succ
  generalize rPat (bs s) = r at *
  generalize rOk (bs s) = okf at *
  have hsz : Hid (1 ≤ s.size ∧ s.size ≤ 16) := ⟨by omega,by omega⟩
  clear h16
  go_enter Tryz.func151,Tryz.ntmps151
  go_wp2_with fail
  go_loopw [3,4] (fun n i wr => ∃ (k m : Nat),k ≤ s.size ∧ m ≤ k ∧ i = .int .i64 k ∧ n = .int .i64 m ∧ wr = w ∧ Hid ((List.range k).all okf = true) ∧ Hid (m = ((s.data.toList.take k).filter sml).length)) (fun _ i _ => s.size - (intOf i).toNat)
  case atStart => exact ⟨0,0,by omega,by omega,rfl,rfl,rfl,rfl,rfl⟩
  case round =>
   obtain ⟨k,m,hk,hmk,rfl,rfl,rfl,ha,hm⟩ := hrel
   by_cases hlt : k < s.size
   ·have hsk := hsm.out k hlt
    have hokk := hok.out k hlt
    have e46 : (((s[k]'hlt).toNat : Int) == 46) = ((s[k]'hlt) == 46) := beqI (n := 46) (by decide)
    have hkl : (k : Int) < s.size := by omega
    clear hok
    cases hc : sml (s[k]'hlt) with
    | true =>
     have hc' : smI ((s[k]'hlt).toNat : Int) = true := hc
     have hd : dgt (s[k]'hlt) = false := by have hr := smI_rng hc'; exact dgI_no (by omega)
     have hd' : dgI ((s[k]'hlt).toNat : Int) = false := hd
     have hp' := hd'
     have ha2 : Hid ((List.range (k + 1)).all okf = true) := hrs.out k ha.out (by rw [hokk,hc,hd]; rfl)
     have hm2 : Hid (m + 1 = ((s.data.toList.take (k + 1)).filter sml).length) := by show _ = _; rw [hsk,hc,← hm.out]; rfl
     clear hsk hpv e46
     clear hno hfin hsm hrs ha hm hokk hc hd
     go_wp2_with (first | (go_at_call 153; refine (rsmall_any _ wr).mono ?_; rintro e w' ⟨rfl,hww⟩; subst w'; rw [hc']) | (go_at_call 155; refine (rdigit_any _ wr).mono ?_; rintro e w' ⟨rfl,hww⟩; subst w'; first | rw [hd'] | rw [hp']))
     go_roundw
     case rel => exact ⟨k + 1,m + 1,by omega,by omega,by simp,by simp,by first | rfl | trivial,ha2,hm2⟩
     case measure => simp [intOf]; omega
    | false =>
     have hc' : smI ((s[k]'hlt).toNat : Int) = false := hc
     have hm2 : Hid (m = ((s.data.toList.take (k + 1)).filter sml).length) := by show _ = _; rw [hsk,hc,← hm.out]; rfl
     rw [hc,Bool.false_or] at hokk
     clear hsk
     cases hd : dgt (s[k]'hlt) with
     | false =>
      have hd' : dgI ((s[k]'hlt).toNat : Int) = false := hd
      have hp' := hd'
      rw [hd,Bool.false_or,Bool.false_and,Bool.not_false,Bool.and_true] at hokk
      cases h46 : ((s[k]'hlt) == 46) with
      | false =>
       rw [h46] at e46
       have hr := hno.out k hlt (by rw [hokk]; rw [h46]; rfl)
       subst hr
       clear hm2 hpv h46
       clear hno hfin hsm hrs ha hm hokk hc hd
       go_wp2_with (first | (go_at_call 153; refine (rsmall_any _ wr).mono ?_; rintro e w' ⟨rfl,hww⟩; subst w'; rw [hc']) | (go_at_call 155; refine (rdigit_any _ wr).mono ?_; rintro e w' ⟨rfl,hww⟩; subst w'; first | rw [hd'] | rw [hp']))
       go_ret
       exact ⟨rfl,rfl⟩
      | true =>
       rw [h46] at e46
       rw [h46,Bool.true_and] at hokk
       clear h46
       by_cases h0 : k = 0
       ·have f0 : ((k : Int) == 0) = true := by first | (rw [beq_iff_eq]; omega) | (rw [beq_eq_false_iff_ne]; omega)
        have ha2 : Hid ((List.range (k + 1)).all okf = true) := hrs.out k ha.out (by rw [hokk]; rw [decide_eq_true h0]; rfl)
        have h0h : Hid (k = 0) := h0
        clear hpv h0
        clear hno hfin hsm hrs ha hm hokk hc hd
        go_wp2_with (first | (go_at_call 153; refine (rsmall_any _ wr).mono ?_; rintro e w' ⟨rfl,hww⟩; subst w'; rw [hc']) | (go_at_call 155; refine (rdigit_any _ wr).mono ?_; rintro e w' ⟨rfl,hww⟩; subst w'; first | rw [hd'] | rw [hp']))
        go_roundw
        case rel => exact ⟨k + 1,m,by omega,by omega,by simp,rfl,by first | rfl | trivial,ha2,hm2⟩
        case measure => simp [intOf]; omega
       ·have f0 : ((k : Int) == 0) = false := by first | (rw [beq_iff_eq]; omega) | (rw [beq_eq_false_iff_ne]; omega)
        by_cases hl : k = s.size - 1
        ·have f1 : ((k : Int) == (s.size : Int) - 1) = true := by first | (rw [beq_iff_eq]; omega) | (rw [beq_eq_false_iff_ne]; omega)
         have ha2 : Hid ((List.range (k + 1)).all okf = true) := hrs.out k ha.out (by rw [hokk]; rw [decide_eq_true hl]; simp)
         have hlh : Hid (k = s.size - 1 ∧ ¬ k = 0) := ⟨hl,h0⟩
         clear hpv h0 hl
         clear hno hfin hsm hrs ha hm hokk hc hd
         go_wp2_with (first | (go_at_call 153; refine (rsmall_any _ wr).mono ?_; rintro e w' ⟨rfl,hww⟩; subst w'; rw [hc']) | (go_at_call 155; refine (rdigit_any _ wr).mono ?_; rintro e w' ⟨rfl,hww⟩; subst w'; first | rw [hd'] | rw [hp']))
         go_roundw
         case rel => exact ⟨k + 1,m,by omega,by omega,by simp,rfl,by first | rfl | trivial,ha2,hm2⟩
         case measure => simp [intOf]; omega
        ·have f1 : ((k : Int) == (s.size : Int) - 1) = false := by first | (rw [beq_iff_eq]; omega) | (rw [beq_eq_false_iff_ne]; omega)
         have hr := hno.out k hlt (by rw [hokk]; rw [decide_eq_false hl,decide_eq_false h0]; rfl)
         subst hr
         clear hm2 hpv hl h0
         clear hno hfin hsm hrs ha hm hokk hc hd
         go_wp2_with (first | (go_at_call 153; refine (rsmall_any _ wr).mono ?_; rintro e w' ⟨rfl,hww⟩; subst w'; rw [hc']) | (go_at_call 155; refine (rdigit_any _ wr).mono ?_; rintro e w' ⟨rfl,hww⟩; subst w'; first | rw [hd'] | rw [hp']))
         go_ret
         exact ⟨rfl,rfl⟩
     | true =>
      have hd' : dgI ((s[k]'hlt).toNat : Int) = true := hd
      rw [hd,Bool.true_or,Bool.true_and,Bool.true_and] at hokk
      by_cases h0 : k = 0
      ·have hp' := hd'
       have f3 : ¬ (0 : Int) < k := by omega
       have f0 : ((k : Int) == 0) = true := by first | (rw [beq_iff_eq]; omega) | (rw [beq_eq_false_iff_ne]; omega)
       rw [decide_eq_false (p := 0 < k) (by omega),decide_eq_true h0,Bool.false_and,Bool.false_and,Bool.and_false,Bool.true_and,Bool.false_or,Bool.false_or] at hokk
       by_cases h1 : 1 < s.size
       ·have f4 : (1 : Int) < s.size := by omega
        have e1 : (((s[1]'h1).toNat : Int) == 46) = ((s[1]'h1) == 46) := beqI (n := 46) (by decide)
        have f1 : ((k : Int) == (s.size : Int) - 1) = false := by first | (rw [beq_iff_eq]; omega) | (rw [beq_eq_false_iff_ne]; omega)
        rw [decide_eq_true h1,Bool.true_and,hpv.out 1 h1] at hokk
        have h0h : Hid (k = 0) := h0
        clear h0
        cases h46 : ((s[1]'h1) == 46) with
        | true =>
         rw [h46] at e1
         have hr := hno.out k hlt (by rw [hokk]; rw [h46]; rfl)
         subst hr
         clear hm2 hpv h46 e46
         clear hno hfin hsm hrs ha hm hokk hc hd
         go_wp2_with (first | (go_at_call 153; refine (rsmall_any _ wr).mono ?_; rintro e w' ⟨rfl,hww⟩; subst w'; rw [hc']) | (go_at_call 155; refine (rdigit_any _ wr).mono ?_; rintro e w' ⟨rfl,hww⟩; subst w'; first | rw [hd'] | rw [hp']))
         go_ret
         exact ⟨rfl,rfl⟩
        | false =>
         rw [h46] at e1
         have ha2 : Hid ((List.range (k + 1)).all okf = true) := hrs.out k ha.out (by rw [hokk]; rw [h46]; rfl)
         clear hpv h46 e46
         clear hno hfin hsm hrs ha hm hokk hc hd
         go_wp2_with (first | (go_at_call 153; refine (rsmall_any _ wr).mono ?_; rintro e w' ⟨rfl,hww⟩; subst w'; rw [hc']) | (go_at_call 155; refine (rdigit_any _ wr).mono ?_; rintro e w' ⟨rfl,hww⟩; subst w'; first | rw [hd'] | rw [hp']))
         go_roundw
         case rel => exact ⟨k + 1,m,by omega,by omega,by simp,rfl,by first | rfl | trivial,ha2,hm2⟩
         case measure => simp [intOf]; omega
       ·have f4 : ¬ (1 : Int) < s.size := by omega
        have f1 : ((k : Int) == (s.size : Int) - 1) = true := by first | (rw [beq_iff_eq]; omega) | (rw [beq_eq_false_iff_ne]; omega)
        have h0h : Hid (k = 0) := h0
        have ha2 : Hid ((List.range (k + 1)).all okf = true) := hrs.out k ha.out (by rw [hokk]; rw [decide_eq_false h1]; rfl)
        clear hpv h0 e46
        clear hno hfin hsm hrs ha hm hokk hc hd
        go_wp2_with (first | (go_at_call 153; refine (rsmall_any _ wr).mono ?_; rintro e w' ⟨rfl,hww⟩; subst w'; rw [hc']) | (go_at_call 155; refine (rdigit_any _ wr).mono ?_; rintro e w' ⟨rfl,hww⟩; subst w'; first | rw [hd'] | rw [hp']))
        go_roundw
        case rel => exact ⟨k + 1,m,by omega,by omega,by simp,rfl,by first | rfl | trivial,ha2,hm2⟩
        case measure => simp [intOf]; omega
      ·obtain ⟨j,hj⟩ : ∃ j,k - 1 = j := ⟨_,rfl⟩
       have hjk : (k : Int) - 1 = j := by omega
       have hjl : j < s.size := by omega
       have f3 : (0 : Int) < k := by omega
       have e1 : (((s[j]'hjl).toNat : Int) == 46) = ((s[j]'hjl) == 46) := beqI (n := 46) (by decide)
       have f0 : ((k : Int) == 0) = false := by first | (rw [beq_iff_eq]; omega) | (rw [beq_eq_false_iff_ne]; omega)
       have hjH : Hid (k - 1 = j ∧ ¬ k = 0) := ⟨hj,h0⟩
       rw [decide_eq_true (by omega : 0 < k),decide_eq_false h0,Bool.true_and,Bool.true_and,Bool.false_and,Bool.or_false,hj,hpv.out j hjl] at hokk
       clear h0 hj e46
       cases hp : dgt (s[j]'hjl) with
       | true =>
        have hp' : dgI ((s[j]'hjl).toNat : Int) = true := hp
        have hr := hno.out k hlt (by rw [hokk]; rw [hp]; rfl)
        subst hr
        clear hm2 hpv hp e1
        clear hno hfin hsm hrs ha hm hokk hc hd
        go_wp2_with (first | (go_at_call 153; refine (rsmall_any _ wr).mono ?_; rintro e w' ⟨rfl,hww⟩; subst w'; rw [hc']) | (go_at_call 155; refine (rdigit_any _ wr).mono ?_; rintro e w' ⟨rfl,hww⟩; subst w'; first | rw [hd'] | rw [hp']))
        go_ret
        exact ⟨rfl,rfl⟩
       | false =>
        have hp' : dgI ((s[j]'hjl).toNat : Int) = false := hp
        rw [hp,Bool.false_or] at hokk
        by_cases hl : k = s.size - 1
        ·have f1 : ((k : Int) == (s.size : Int) - 1) = true := by first | (rw [beq_iff_eq]; omega) | (rw [beq_eq_false_iff_ne]; omega)
         rw [decide_eq_true hl,Bool.true_and] at hokk
         have hlh : Hid (k = s.size - 1) := hl
         clear hl
         cases h46 : ((s[j]'hjl) == 46) with
         | true =>
          rw [h46] at e1
          have hr := hno.out k hlt (by rw [hokk]; rw [h46]; rfl)
          subst hr
          clear hm2 hpv h46 hp
          clear hno hfin hsm hrs ha hm hokk hc hd
          go_wp2_with (first | (go_at_call 153; refine (rsmall_any _ wr).mono ?_; rintro e w' ⟨rfl,hww⟩; subst w'; rw [hc']) | (go_at_call 155; refine (rdigit_any _ wr).mono ?_; rintro e w' ⟨rfl,hww⟩; subst w'; first | rw [hd'] | rw [hp']))
          go_ret
          exact ⟨rfl,rfl⟩
         | false =>
          rw [h46] at e1
          have ha2 : Hid ((List.range (k + 1)).all okf = true) := hrs.out k ha.out (by rw [hokk]; rw [h46]; rfl)
          clear hpv h46 hp
          clear hno hfin hsm hrs ha hm hokk hc hd
          go_wp2_with (first | (go_at_call 153; refine (rsmall_any _ wr).mono ?_; rintro e w' ⟨rfl,hww⟩; subst w'; rw [hc']) | (go_at_call 155; refine (rdigit_any _ wr).mono ?_; rintro e w' ⟨rfl,hww⟩; subst w'; first | rw [hd'] | rw [hp']))
          go_roundw
          case rel => exact ⟨k + 1,m,by omega,by omega,by simp,rfl,by first | rfl | trivial,ha2,hm2⟩
          case measure => simp [intOf]; omega
        ·have f1 : ((k : Int) == (s.size : Int) - 1) = false := by first | (rw [beq_iff_eq]; omega) | (rw [beq_eq_false_iff_ne]; omega)
         have ha2 : Hid ((List.range (k + 1)).all okf = true) := hrs.out k ha.out (by rw [hokk]; rw [decide_eq_false hl]; rfl)
         clear hpv hp hl e1
         clear hno hfin hsm hrs ha hm hokk hc hd
         go_wp2_with (first | (go_at_call 153; refine (rsmall_any _ wr).mono ?_; rintro e w' ⟨rfl,hww⟩; subst w'; rw [hc']) | (go_at_call 155; refine (rdigit_any _ wr).mono ?_; rintro e w' ⟨rfl,hww⟩; subst w'; first | rw [hd'] | rw [hp']))
         go_roundw
         case rel => exact ⟨k + 1,m,by omega,by omega,by simp,rfl,by first | rfl | trivial,ha2,hm2⟩
         case measure => simp [intOf]; omega
   ·obtain rfl : k = s.size := by omega
    have hr := hfin.out m ha.out hm.out
    clear hno hfin hsm hok hpv hrs ha hm hsz
    go_wp2_with fail
    go_ret
    refine ⟨?_,rfl⟩
    rw [hr]
    show Ending.returned (Value.bool _) = _
    congr 2
end Go.Proofs.YthcphnifnfnceaaGreatDoor.Hy
