/-
  What is proved here: patterns, exceptions, digits and the values of places (no program is named).
  What is proved here: what isSmall, isDigit, isLetter and the document's small and digit answer, and at.
  What is proved here: what lay of digits does.
-/
import Derived.RangeFuncNested
import Derived.Test.YtbdpghjegachaaaGreatDoorRows
import Derived.Test.YtbdpghjegachaaaGreatDoorE3
import Derived.Test.YtbdpghjegachaaaGreatDoorE1
import Derived.BigQuiet
import Derived.Handy
namespace Go.Proofs.YtbdpghjegachaaaGreatDoor.Hy

abbrev Bs := List UInt8
theorem le_max_iff {a b c : Int} : a ≤ max b c ↔ a ≤ b ∨ a ≤ c := by omega
def smI (x : Int) : Bool := decide (97 ≤ x) && decide (x ≤ 122)
def grI (x : Int) : Bool := decide (65 ≤ x) && decide (x ≤ 90)
def dgI (x : Int) : Bool := decide (48 ≤ x) && decide (x ≤ 57)
def ltI (x : Int) : Bool := smI x || grI x
def sml (c : UInt8) : Bool := smI c.toNat
def ltr (c : UInt8) : Bool := ltI c.toNat
def dgt (c : UInt8) : Bool := dgI c.toNat

def ltrs (p : Bs) : Bs := p.filter (fun c => !dgt c)
def digs : Nat → Bs → List (Nat × Int)
 | _,[] => []
 | n,c :: p => if dgt c then (n,(c.toNat : Int) - 48) :: digs n p else digs (n + 1) p
theorem digs_append : ∀ (n : Nat) (p q : Bs),digs n (p ++ q) = digs n p ++ digs (n + (ltrs p).length) q
 | n,[],q => rfl
 | n, c :: p, q => by
  rw [List.cons_append,digs,digs]
  by_cases h : dgt c
  ·rw [if_pos h,if_pos h,digs_append n p q,List.cons_append]
   simp [ltrs,h]
  ·rw [if_neg h,if_neg h,digs_append (n + 1) p q]
   simp only [ltrs,List.filter_cons,h,Bool.not_false,if_true,List.length_cons]
   rw [show n + 1 + (List.filter (fun c => !dgt c) p).length = n + ((List.filter (fun c => !dgt c) p).length + 1) by omega]
theorem dgt_rng {c : UInt8} (h : dgt c = true) : 48 ≤ c.toNat ∧ c.toNat ≤ 57 := by
 unfold dgt dgI at h
 simp at h
 omega
theorem digs_rng : ∀ (n : Nat) (p : Bs) (x : Nat × Int),x ∈ digs n p → n ≤ x.1 ∧ x.1 ≤ n + (ltrs p).length ∧ 0 ≤ x.2 ∧ x.2 ≤ 9
 | _,[],_,h => by simp [digs] at h
 | n, c :: p, x, h => by
  rw [digs] at h
  by_cases hc : dgt c = true
  ·rw [if_pos hc] at h
   have hr := dgt_rng hc
   simp only [ltrs,List.filter_cons,hc,Bool.not_true,Bool.false_eq_true,if_false]
   rcases List.mem_cons.1 h with rfl | h
   ·refine ⟨Nat.le_refl _,Nat.le_add_right _ _,?_,?_⟩ <;> simp <;> omega
   ·exact digs_rng n p x h
  ·rw [if_neg hc] at h
   have := digs_rng (n + 1) p x h
   simp only [ltrs,List.filter_cons,hc,Bool.not_false,if_true,List.length_cons]
   unfold ltrs at this
   omega

def atL (d : List Int) (k : Nat) : Int := d.getD k 0
def layL (d : List Int) (k : Nat) (v : Int) : List Int := (d ++ List.replicate (k + 1 - d.length) 0).set k (max (atL d k) v)
theorem lay_len (d : List Int) (k : Nat) (v : Int) : (layL d k v).length = max d.length (k + 1) := by
 simp [layL]; omega
theorem atL_pad (d : List Int) (n k : Nat) : atL (d ++ List.replicate n 0) k = atL d k := by
 simp only [atL,List.getD_eq_getElem?_getD]
 by_cases h : k < d.length
 ·rw [List.getElem?_append_left h]
 ·rw [List.getElem?_append_right (by omega),List.getElem?_eq_none (by omega : d.length ≤ k)]
  by_cases h2 : k - d.length < n
  ·rw [List.getElem?_replicate_of_lt h2]; rfl
  ·rw [List.getElem?_eq_none (by simp; omega)]
theorem atL_lay (d : List Int) (k : Nat) (v : Int) (j : Nat) : atL (layL d k v) j = if j = k then max (atL d k) v else atL d j := by
 by_cases h : j = k
 ·subst h
  rw [if_pos rfl,layL,atL,List.getD_eq_getElem?_getD,List.getElem?_set_self (by simp; omega)]
  rfl
 ·rw [if_neg h,← atL_pad d (k + 1 - d.length) j]
  simp only [layL,atL,List.getD_eq_getElem?_getD]
  rw [List.getElem?_set_ne (fun e => h e.symm)]
def layAll (d : List Int) (xs : List (Nat × Int)) : List Int := xs.foldl (fun d x => layL d x.1 x.2) d
theorem layAll_append (d : List Int) (xs ys : List (Nat × Int)) : layAll d (xs ++ ys) = layAll (layAll d xs) ys := List.foldl_append ..
theorem le_at_layAll (v : Int) (j : Nat) : ∀ (xs : List (Nat × Int)) (d : List Int),v ≤ atL (layAll d xs) j ↔ v ≤ atL d j ∨ ∃ x ∈ xs,x.1 = j ∧ v ≤ x.2
 | [],d => by simp [layAll]
 | x :: xs, d => by
  have ih := le_at_layAll v j xs (layL d x.1 x.2)
  rw [show layAll d (x :: xs) = layAll (layL d x.1 x.2) xs from rfl,ih,atL_lay]
  by_cases h : j = x.1
  ·rw [if_pos h]
   subst h
   simp only [List.mem_cons,exists_eq_or_imp,true_and]
   rw [le_max_iff]
   exact or_assoc
  ·rw [if_neg h]
   simp only [List.mem_cons,exists_eq_or_imp,show ¬ x.1 = j from fun e => h e.symm,false_and,false_or]

abbrev Tr := Bs → Option (List Int)
def T0 : Tr := fun L => if L = [] then some [] else none
def putT (T : Tr) (L : Bs) (d : List Int) : Tr := fun M => if M = L then some d else T M
def growT (T : Tr) (L : Bs) : Tr := if (T L).isSome then T else putT T L []
def pathT (T : Tr) (q : Bs) : Nat → Tr
 | 0 => T
 | n + 1 => growT (pathT T q n) (q.take (n + 1))
def addT (T : Tr) (p : Bs) : Tr := putT (pathT T (ltrs p) (ltrs p).length) (ltrs p) (layAll ((pathT T (ltrs p) (ltrs p).length (ltrs p)).getD []) (digs 0 p))
def trie (ps : List Bs) : Tr := ps.foldl addT T0
theorem trie_snoc (ps : List Bs) (p : Bs) : trie (ps ++ [p]) = addT (trie ps) p := by simp [trie]

theorem growT_some {T : Tr} {L M : Bs} : ((growT T L) M).isSome ↔ (T M).isSome ∨ M = L := by
 unfold growT
 by_cases h : (T L).isSome
 ·rw [if_pos h]
  constructor
  ·exact .inl
  ·rintro (h1 | rfl)
   ·exact h1
   ·exact h
 ·rw [if_neg h]
  unfold putT
  by_cases e : M = L
  ·simp [e]
  ·simp [e]
theorem growT_getD {T : Tr} {L M : Bs} : ((growT T L) M).getD [] = (T M).getD [] := by
 unfold growT
 by_cases h : (T L).isSome
 ·rw [if_pos h]
 ·rw [if_neg h]
  unfold putT
  by_cases e : M = L
  ·subst e
   rw [if_pos rfl]
   have : T M = none := by simpa using h
   rw [this]; rfl
  ·rw [if_neg e]
theorem pathT_some {T : Tr} {q : Bs} {M : Bs} : ∀ n,((pathT T q n) M).isSome ↔ (T M).isSome ∨ ∃ k,k < n ∧ M = q.take (k + 1)
 | 0 => by simp [pathT]
 | n + 1 => by
  rw [pathT,growT_some,pathT_some n]
  constructor
  ·rintro ((h | ⟨k,hk,e⟩) | h)
   ·exact .inl h
   ·exact .inr ⟨k,by omega,e⟩
   ·exact .inr ⟨n,by omega,h⟩
  ·rintro (h | ⟨k,hk,e⟩)
   ·exact .inl (.inl h)
   ·by_cases hk' : k < n
    ·exact .inl (.inr ⟨k,hk',e⟩)
    ·obtain rfl : k = n := by omega
     exact .inr e
theorem pathT_getD {T : Tr} {q : Bs} {M : Bs} : ∀ n,((pathT T q n) M).getD [] = (T M).getD []
 | 0 => rfl
 | n + 1 => by rw [pathT,growT_getD,pathT_getD n]
theorem addT_getD (T : Tr) (p M : Bs) : ((addT T p) M).getD [] = if M = ltrs p then layAll ((T M).getD []) (digs 0 p) else (T M).getD [] := by
 unfold addT putT
 by_cases h : M = ltrs p
 ·rw [if_pos h,if_pos h,pathT_getD,h]; rfl
 ·rw [if_neg h,if_neg h,pathT_getD]
theorem prefix_take {M q : Bs} : M <+: q ↔ ∃ k,k ≤ q.length ∧ M = q.take k := by
 constructor
 ·rintro ⟨t,rfl⟩
  exact ⟨M.length,by simp,by simp⟩
 ·rintro ⟨k,_,rfl⟩
  exact List.take_prefix _ _
theorem addT_some (T : Tr) (p M : Bs) (hp : ltrs p ≠ []) (h0 : (T []).isSome) : ((addT T p) M).isSome ↔ (T M).isSome ∨ M <+: ltrs p := by
 unfold addT putT
 have hl : 0 < (ltrs p).length := List.length_pos_iff.2 hp
 by_cases h : M = ltrs p
 ·rw [if_pos h]; subst h; simp
 ·rw [if_neg h,pathT_some]
  constructor
  ·rintro (h1 | ⟨k,hk,e⟩)
   ·exact .inl h1
   ·exact .inr (e ▸ List.take_prefix _ _)
  ·rintro (h1 | h1)
   ·exact .inl h1
   ·obtain ⟨k,hk,rfl⟩ := prefix_take.1 h1
    match k,hk with
    | 0,_ => exact .inl (by simpa using h0)
    | k + 1,hk => exact .inr ⟨k,by omega,rfl⟩

theorem trie_has : ∀ (n : Nat) (ps : List Bs),ps.length = n → (∀ p ∈ ps,ltrs p ≠ []) → ∀ M,
  (((trie ps) M).isSome ↔ M = [] ∨ ∃ p ∈ ps,M <+: ltrs p) ∧
  ∀ v,0 < v → ∀ k,(v ≤ atL (((trie ps) M).getD []) k ↔ ∃ p ∈ ps,ltrs p = M ∧ ∃ x ∈ digs 0 p,x.1 = k ∧ v ≤ x.2)
 | 0, ps, hn, _, M => by
  obtain rfl : ps = [] := List.eq_nil_of_length_eq_zero hn
  refine ⟨?_,fun v hv k => ?_⟩
  ·simp only [trie,List.foldl_nil,T0]
   by_cases h : M = [] <;> simp [h]
  ·have e : ((trie [] M).getD []) = [] := by
    simp only [trie,List.foldl_nil,T0]
    by_cases h : M = [] <;> simp [h]
   rw [e]
   simp [atL]; omega
 | n + 1, ps, hn, hp, M => by
  have hne : ps ≠ [] := by intro e; subst e; simp at hn
  obtain ⟨qs,p,rfl⟩ : ∃ qs p,ps = qs ++ [p] := ⟨ps.dropLast,ps.getLast hne,(List.dropLast_concat_getLast hne).symm⟩
  have hq : ∀ q ∈ qs,ltrs q ≠ [] := fun q hq => hp q (by simp [hq])
  have hp1 : ltrs p ≠ [] := hp p (by simp)
  have hqn : qs.length = n := by simpa using hn
  obtain ⟨i1,i2⟩ := trie_has n qs hqn hq M
  have i0 := (trie_has n qs hqn hq []).1.2 (.inl rfl)
  rw [trie_snoc]
  refine ⟨?_,fun v hv k => ?_⟩
  ·rw [addT_some _ _ _ hp1 i0,i1]
   simp only [List.mem_append,List.mem_singleton]
   constructor
   ·rintro ((h | ⟨q,h1,h2⟩) | h)
    ·exact .inl h
    ·exact .inr ⟨q,.inl h1,h2⟩
    ·exact .inr ⟨p,.inr rfl,h⟩
   ·rintro (h | ⟨q,h1 | rfl,h2⟩)
    ·exact .inl (.inl h)
    ·exact .inl (.inr ⟨q,h1,h2⟩)
    ·exact .inr h2
  ·rw [addT_getD]
   have i3 := i2 v hv k
   simp only [List.mem_append,List.mem_singleton]
   by_cases h : M = ltrs p
   ·rw [if_pos h,le_at_layAll,i3]
    constructor
    ·rintro (⟨q,h1,h2⟩ | h1)
     ·exact ⟨q,.inl h1,h2⟩
     ·exact ⟨p,.inr rfl,h.symm,h1⟩
    ·rintro ⟨q,h1 | rfl,h2,h3⟩
     ·exact .inl ⟨q,h1,h2,h3⟩
     ·exact .inr h3
   ·rw [if_neg h,i3]
    constructor
    ·rintro ⟨q,h1,h2⟩
     exact ⟨q,.inl h1,h2⟩
    ·rintro ⟨q,h1 | rfl,h2,h3⟩
     ·exact ⟨q,h1,h2,h3⟩
     ·exact absurd h2.symm h

def enum : Nat → List Int → List (Nat × Int)
 | _,[] => []
 | n,v :: d => (n,v) :: enum (n + 1) d
theorem enum_append : ∀ (n : Nat) (d e : List Int),enum n (d ++ e) = enum n d ++ enum (n + d.length) e
 | n,[],e => rfl
 | n,v :: d,e => by
  rw [List.cons_append,enum,enum,enum_append (n + 1) d e,List.cons_append,List.length_cons,show n + 1 + d.length = n + (d.length + 1) by omega]
theorem enum_mem {j : Nat} {v : Int} : ∀ (n : Nat) (d : List Int),(j,v) ∈ enum n d ↔ n ≤ j ∧ d[j - n]? = some v
 | n,[] => by simp [enum]
 | n, u :: d => by
  rw [enum,List.mem_cons,enum_mem (n + 1) d]
  by_cases h : j = n
  ·subst h; simp [eq_comm]; intro h; omega
  ·constructor
   ·rintro (h1 | ⟨h1,h2⟩)
    ·simp at h1; omega
    ·refine ⟨by omega,?_⟩
     rw [show j - n = (j - (n + 1)) + 1 by omega,List.getElem?_cons_succ]; exact h2
   ·rintro ⟨h1,h2⟩
    refine .inr ⟨by omega,?_⟩
    rw [show j - n = (j - (n + 1)) + 1 by omega,List.getElem?_cons_succ] at h2; exact h2
def mat (T : Tr) (text : Bs) (i : Nat) (vals : List Int) : Nat → List Int × Bool
 | 0 => (vals,true)
 | n + 1 => match mat T text i vals n with
  | (d,false) => (d,false)
  | (d,true) => match T ((text.drop i).take (n + 1)) with
   | none => (d,false)
   | some e => (layAll d (enum i e),true)
def matA (T : Tr) (text : Bs) (i : Nat) (vals : List Int) : List Int := (mat T text i vals (text.length - i)).1
theorem mat_stops {T : Tr} {text : Bs} {i : Nat} {vals d : List Int} {n : Nat} (h : mat T text i vals n = (d,false)) : ∀ m,n ≤ m → mat T text i vals m = (d,false)
 | 0, hm => by obtain rfl : n = 0 := by omega
               exact h
 | m + 1,hm => by
  by_cases e : n = m + 1
  ·rw [← e]; exact h
  ·rw [mat,mat_stops h m (by omega)]
def mats (T : Tr) (text : Bs) : Nat → List Int
 | 0 => []
 | n + 1 => matA T text n (mats T text n)

def Closed (T : Tr) : Prop := ∀ L M,M <+: L → (T L).isSome → (T M).isSome
theorem trie_closed {ps : List Bs} (hp : ∀ p ∈ ps,ltrs p ≠ []) : Closed (trie ps) := fun L M hm hL => by
 have h1 := (trie_has _ ps rfl hp L).1.1 hL
 refine (trie_has _ ps rfl hp M).1.2 ?_
 rcases h1 with rfl | ⟨p,h1,h2⟩
 ·exact .inl (List.prefix_nil.1 hm)
 ·exact .inr ⟨p,h1,hm.trans h2⟩
theorem atL_get {d : List Int} {k : Nat} {v : Int} (hv : 0 < v) : v ≤ atL d k ↔ ∃ x,d[k]? = some x ∧ v ≤ x := by
 unfold atL
 rw [List.getD_eq_getElem?_getD]
 cases h : d[k]? with
 | none => simp; omega
 | some x => simp
theorem le_enum {e : List Int} {i j : Nat} {v : Int} (hv : 0 < v) : (∃ x ∈ enum i e,x.1 = j ∧ v ≤ x.2) ↔ i ≤ j ∧ v ≤ atL e (j - i) := by
 rw [atL_get hv]
 constructor
 ·rintro ⟨⟨a,b⟩,h1,rfl,h2⟩
  obtain ⟨h3,h4⟩ := (enum_mem i e).1 h1
  exact ⟨h3,b,h4,h2⟩
 ·rintro ⟨h1,x,h2,h3⟩
  exact ⟨(j,x),(enum_mem i e).2 ⟨h1,h2⟩,rfl,h3⟩
theorem mat_val {T : Tr} (hT : Closed T) (text : Bs) (i : Nat) (vals : List Int) {v : Int} (hv : 0 < v) (j : Nat) : ∀ n,i + n ≤ text.length →
  (v ≤ atL (mat T text i vals n).1 j ↔ v ≤ atL vals j ∨ ∃ k,k < n ∧ i ≤ j ∧ v ≤ atL ((T ((text.drop i).take (k + 1))).getD []) (j - i)) ∧
  ((mat T text i vals n).2 = true ↔ ∀ k,k < n → (T ((text.drop i).take (k + 1))).isSome)
 | 0,_ => by simp [mat]
 | n + 1, hn => by
  obtain ⟨i1,i2⟩ := mat_val hT text i vals hv j n (by omega)
  have hst : ∀ k,n ≤ k → ¬ (T ((text.drop i).take (n + 1))).isSome → ¬ (T ((text.drop i).take (k + 1))).isSome := fun k hk h h' =>
   h (hT _ _ (by
    rw [show (text.drop i).take (n + 1) = ((text.drop i).take (k + 1)).take (n + 1) by rw [List.take_take,Nat.min_eq_left (by omega)]]
    exact List.take_prefix _ _) h')
  rw [mat]
  cases hm : mat T text i vals n with
  | mk d b =>
   rw [hm] at i1 i2
   cases b with
   | false =>
    have hx : ∃ k,k < n ∧ ¬ (T ((text.drop i).take (k + 1))).isSome := by
     apply Classical.byContradiction
     intro hc
     have := i2.2 (fun k hk => Classical.byContradiction fun h => hc ⟨k,hk,h⟩)
     simp at this
    obtain ⟨k,hk,hx⟩ := hx
    have hN : ¬ (T ((text.drop i).take (n + 1))).isSome := fun h => hx (hT _ _ (by
     rw [show (text.drop i).take (k + 1) = ((text.drop i).take (n + 1)).take (k + 1) by rw [List.take_take,Nat.min_eq_left (by omega)]]
     exact List.take_prefix _ _) h)
    refine ⟨?_,?_⟩
    ·simp only
     rw [i1]
     constructor
     ·rintro (h | ⟨k',h1,h2⟩)
      ·exact .inl h
      ·exact .inr ⟨k',by omega,h2⟩
     ·rintro (h | ⟨k',h1,h2,h3⟩)
      ·exact .inl h
      ·by_cases e : k' = n
       ·subst e
        have e1 : T ((text.drop i).take (k' + 1)) = none := by simpa using hN
        rw [e1] at h3
        simp [atL] at h3; omega
       ·exact .inr ⟨k',by omega,h2,h3⟩
    ·simp only [Bool.false_eq_true,false_iff]
     intro h
     exact hx (h k (by omega))
   | true =>
    have hall := i2.1 rfl
    cases hq : T ((text.drop i).take (n + 1)) with
    | none =>
     simp only
     refine ⟨?_,?_⟩
     ·rw [i1]
      constructor
      ·rintro (h | ⟨k',h1,h2⟩)
       ·exact .inl h
       ·exact .inr ⟨k',by omega,h2⟩
      ·rintro (h | ⟨k',h1,h2,h3⟩)
       ·exact .inl h
       ·by_cases e : k' = n
        ·subst e
         rw [hq] at h3
         simp [atL] at h3; omega
        ·exact .inr ⟨k',by omega,h2,h3⟩
     ·simp only [Bool.false_eq_true,false_iff]
      intro h
      have := h n (by omega)
      rw [hq] at this; simp at this
    | some e =>
     simp only
     refine ⟨?_,?_⟩
     ·rw [le_at_layAll,i1,le_enum hv]
      constructor
      ·rintro ((h | ⟨k',h1,h2⟩) | h)
       ·exact .inl h
       ·exact .inr ⟨k',by omega,h2⟩
       ·refine .inr ⟨n,by omega,h.1,?_⟩
        rw [hq]; exact h.2
      ·rintro (h | ⟨k',h1,h2,h3⟩)
       ·exact .inl (.inl h)
       ·by_cases e : k' = n
        ·subst e
         rw [hq] at h3
         exact .inr ⟨h2,h3⟩
        ·exact .inl (.inr ⟨k',by omega,h2,h3⟩)
     ·simp only [true_iff]
      intro k hk
      by_cases e : k = n
      ·subst e; rw [hq]; rfl
      ·exact hall k (by omega)

def Has (ps : List Bs) (text : Bs) (j : Nat) (v : Int) (n : Nat) : Prop := ∃ p ∈ ps,∃ i,i < n ∧ ltrs p <+: text.drop i ∧ ∃ x ∈ digs 0 p,i + x.1 = j ∧ v ≤ x.2
theorem mats_val {ps : List Bs} (hp : ∀ p ∈ ps,ltrs p ≠ []) (text : Bs) {v : Int} (hv : 0 < v) (j : Nat) : ∀ n,n ≤ text.length → (v ≤ atL (mats (trie ps) text n) j ↔ Has ps text j v n)
 | 0,_ => by simp [mats,Has,atL]; omega
 | n + 1, hn => by
  have hm := (mat_val (trie_closed hp) text n (mats (trie ps) text n) hv j (text.length - n) (by omega)).1
  rw [mats,matA,hm,mats_val hp text hv j n (by omega)]
  constructor
  ·rintro (⟨p,h1,i,hi,h2⟩ | ⟨k,hk,hj,h2⟩)
   ·exact ⟨p,h1,i,by omega,h2⟩
   ·obtain ⟨p,h3,h4,x,h5,h6,h7⟩ := ((trie_has _ ps rfl hp _).2 v hv _).1 h2
    refine ⟨p,h3,n,by omega,?_,x,h5,by omega,h7⟩
    rw [h4]
    exact List.take_prefix _ _
  ·rintro ⟨p,h1,i,hi,h2,x,h5,h6,h7⟩
   by_cases e : i = n
   ·subst e
    obtain ⟨t,ht⟩ := h2
    have hl : 0 < (ltrs p).length := List.length_pos_iff.2 (hp p h1)
    have hlen : (ltrs p).length + t.length = text.length - i := by
     have := congrArg List.length ht
     simpa using this
    refine .inr ⟨(ltrs p).length - 1,by omega,by omega,?_⟩
    refine ((trie_has _ ps rfl hp _).2 v hv _).2 ⟨p,h1,?_,x,h5,by omega,h7⟩
    rw [show (ltrs p).length - 1 + 1 = (ltrs p).length by omega,← ht]
    simp
   ·exact .inl ⟨p,h1,i,by omega,h2,x,h5,h6,h7⟩

def hits (ps : List Bs) (text : Bs) (j : Nat) : List Int :=
 ps.flatMap fun p => (List.range text.length).flatMap fun i => if (ltrs p).isPrefixOf (text.drop i) then ((digs 0 p).filter fun x => i + x.1 == j).map (·.2) else []
def valI (ps : List Bs) (text : Bs) (j : Nat) : Int := (hits ps text j).foldl max 0
theorem le_foldl_max (v : Int) : ∀ (l : List Int) (a : Int),v ≤ l.foldl max a ↔ v ≤ a ∨ ∃ x ∈ l,v ≤ x
 | [],a => by simp
 | x :: l,a => by
  rw [List.foldl_cons,le_foldl_max v l,le_max_iff]
  simp only [List.mem_cons,exists_eq_or_imp]
  exact or_assoc
theorem le_valI {ps : List Bs} {text : Bs} {j : Nat} {v : Int} (hv : 0 < v) : v ≤ valI ps text j ↔ Has ps text j v text.length := by
 unfold valI
 rw [le_foldl_max]
 constructor
 ·rintro (h | ⟨x,h1,h2⟩)
  ·omega
  ·unfold hits at h1
   simp only [List.mem_flatMap,List.mem_range] at h1
   obtain ⟨p,hp,i,hi,h3⟩ := h1
   by_cases hc : (ltrs p).isPrefixOf (text.drop i)
   ·rw [if_pos hc] at h3
    simp only [List.mem_map,List.mem_filter,beq_iff_eq] at h3
    obtain ⟨y,⟨h4,h5⟩,rfl⟩ := h3
    exact ⟨p,hp,i,hi,List.isPrefixOf_iff_prefix.1 hc,y,h4,h5,h2⟩
   ·rw [if_neg hc] at h3; simp at h3
 ·rintro ⟨p,hp,i,hi,hc,y,h4,h5,h2⟩
  refine .inr ⟨y.2,?_,h2⟩
  unfold hits
  simp only [List.mem_flatMap,List.mem_range]
  refine ⟨p,hp,i,hi,?_⟩
  rw [if_pos (List.isPrefixOf_iff_prefix.2 hc)]
  simp only [List.mem_map,List.mem_filter,beq_iff_eq]
  exact ⟨y,⟨h4,h5⟩,rfl⟩
theorem valI_nonneg (ps : List Bs) (text : Bs) (j : Nat) : 0 ≤ valI ps text j := (le_foldl_max 0 _ 0).2 (.inl (Int.le_refl _))
theorem eq_of_le {a b : Int} (ha : 0 ≤ a) (hb : 0 ≤ b) (h : ∀ v,0 < v → (v ≤ a ↔ v ≤ b)) : a = b := by
 by_cases h1 : a = 0
 ·by_cases h2 : b = 0
  ·omega
  ·have := (h b (by omega)).2 (Int.le_refl _); omega
 ·have := (h a (by omega)).1 (Int.le_refl _)
  by_cases h2 : b = 0
  ·omega
  ·have := (h b (by omega)).2 (Int.le_refl _); omega
theorem layAll_nonneg : ∀ (xs : List (Nat × Int)) (d : List Int),(∀ j,0 ≤ atL d j) → ∀ j,0 ≤ atL (layAll d xs) j
 | [],d,h => h
 | x :: xs,d,h => by
  refine layAll_nonneg xs _ fun j => ?_
  rw [atL_lay]
  have := h x.1
  have := h j
  split <;> omega
theorem mats_nonneg (T : Tr) (text : Bs) : ∀ n j,0 ≤ atL (mats T text n) j
 | 0,j => by simp [mats,atL]
 | n + 1, j => by
  rw [mats,matA]
  generalize text.length - n = m
  suffices h : ∀ m j,0 ≤ atL (mat T text n (mats T text n) m).1 j from h m j
  intro m
  induction m with
  | zero => exact mats_nonneg T text n
  | succ m ih =>
   intro j
   rw [mat]
   cases hm : mat T text n (mats T text n) m with
   | mk d b =>
    rw [hm] at ih
    cases b with
    | false => exact ih j
    | true =>
     cases hq : T ((text.drop n).take (m + 1)) with
     | none => exact ih j
     | some e => exact layAll_nonneg _ _ ih j
theorem mats_is {ps : List Bs} (hp : ∀ p ∈ ps,ltrs p ≠ []) (text : Bs) (j : Nat) : atL (mats (trie ps) text text.length) j = valI ps text j :=
 eq_of_le (mats_nonneg _ _ _ _) (valI_nonneg _ _ _) fun v hv => by rw [mats_val hp text hv j _ (Nat.le_refl _),le_valI hv]

end Go.Proofs.YtbdpghjegachaaaGreatDoor.Hy

namespace Go.Proofs.YtbdpghjegachaaaGreatDoor.Hy
open Go.RowKit Go.Shelf

theorem smI_yes {x : Int} (h1 : 97 ≤ x) (h2 : x ≤ 122) : smI x = true := by unfold smI; rw [decide_eq_true h1,decide_eq_true h2]; rfl
theorem smI_no {x : Int} (h : x < 97 ∨ 122 < x) : smI x = false := by unfold smI; simp; omega
theorem grI_yes {x : Int} (h1 : 65 ≤ x) (h2 : x ≤ 90) : grI x = true := by unfold grI; rw [decide_eq_true h1,decide_eq_true h2]; rfl
theorem grI_no {x : Int} (h : x < 65 ∨ 90 < x) : grI x = false := by unfold grI; simp; omega
theorem dgI_yes {x : Int} (h1 : 48 ≤ x) (h2 : x ≤ 57) : dgI x = true := by unfold dgI; rw [decide_eq_true h1,decide_eq_true h2]; rfl
theorem dgI_no {x : Int} (h : x < 48 ∨ 57 < x) : dgI x = false := by unfold dgI; simp; omega
theorem smI_rng {x : Int} (h : smI x = true) : 97 ≤ x ∧ x ≤ 122 := by unfold smI at h; simpa using h
theorem grI_rng {x : Int} (h : grI x = true) : 65 ≤ x ∧ x ≤ 90 := by unfold grI at h; simpa using h
theorem dgI_rng {x : Int} (h : dgI x = true) : 48 ≤ x ∧ x ≤ 57 := by unfold dgI at h; simpa using h

theorem isSmall_any (x : Int) (w : World) : Calls Tryz.prog 198 #[.int .u8 x] w fun e w' => e = .returned (.bool (smI x)) ∧ w' = w := by
 by_cases h1 : 97 ≤ x
 ·by_cases h2 : x ≤ 122
  ·rw [smI_yes h1 h2]
   go_enter Tryz.func198,Tryz.ntmps198
   go_wp2
   go_ret
   exact ⟨rfl,rfl⟩
  ·rw [smI_no (by omega)]
   go_enter Tryz.func198,Tryz.ntmps198
   go_wp2
   go_ret
   exact ⟨rfl,rfl⟩
 ·rw [smI_no (by omega)]
  go_enter Tryz.func198,Tryz.ntmps198
  go_wp2
  go_ret
  exact ⟨rfl,rfl⟩
theorem isDigit_any (x : Int) (w : World) : Calls Tryz.prog 199 #[.int .u8 x] w fun e w' => e = .returned (.bool (dgI x)) ∧ w' = w := by
 by_cases h1 : 48 ≤ x
 ·by_cases h2 : x ≤ 57
  ·rw [dgI_yes h1 h2]
   go_enter Tryz.func199,Tryz.ntmps199
   go_wp2
   go_ret
   exact ⟨rfl,rfl⟩
  ·rw [dgI_no (by omega)]
   go_enter Tryz.func199,Tryz.ntmps199
   go_wp2
   go_ret
   exact ⟨rfl,rfl⟩
 ·rw [dgI_no (by omega)]
  go_enter Tryz.func199,Tryz.ntmps199
  go_wp2
  go_ret
  exact ⟨rfl,rfl⟩
theorem isLetter_any (x : Int) (w : World) : Calls Tryz.prog 184 #[.int .u8 x] w fun e w' => e = .returned (.bool (ltI x)) ∧ w' = w := by
 have hS := isSmall_any x w
 unfold ltI
 cases hs : smI x with
 | true =>
  rw [hs] at hS
  clear hs
  go_enter Tryz.func184,Tryz.ntmps184
  go_wp2_with (go_at_call 198; refine hS.mono ?_; rintro e w' ⟨rfl,hww⟩; subst w')
  go_ret
  exact ⟨rfl,rfl⟩
 | false =>
  rw [hs] at hS
  clear hs
  rw [Bool.false_or]
  by_cases h1 : 65 ≤ x
  ·by_cases h2 : x ≤ 90
   ·rw [grI_yes h1 h2]
    go_enter Tryz.func184,Tryz.ntmps184
    go_wp2_with (go_at_call 198; refine hS.mono ?_; rintro e w' ⟨rfl,hww⟩; subst w')
    go_ret
    exact ⟨rfl,rfl⟩
   ·rw [grI_no (by omega)]
    go_enter Tryz.func184,Tryz.ntmps184
    go_wp2_with (go_at_call 198; refine hS.mono ?_; rintro e w' ⟨rfl,hww⟩; subst w')
    go_ret
    exact ⟨by show Ending.returned (Value.bool (decide (x ≤ 90))) = _; rw [decide_eq_false (show ¬ x ≤ 90 by omega)],rfl⟩
  ·rw [grI_no (by omega)]
   go_enter Tryz.func184,Tryz.ntmps184
   go_wp2_with (go_at_call 198; refine hS.mono ?_; rintro e w' ⟨rfl,hww⟩; subst w')
   go_ret
   exact ⟨rfl,rfl⟩

end Go.Proofs.YtbdpghjegachaaaGreatDoor.Hy

namespace Go.Proofs.YtbdpghjegachaaaGreatDoor.Hy
open Go.RowKit Go.Shelf
set_option maxRecDepth 100000
set_option maxHeartbeats 1000000

def ints (d : List Int) : List Value := d.map (Value.int .i64)
theorem ints_append (d e : List Int) : ints (d ++ e) = ints d ++ ints e := List.map_append ..
def Blk (w : World) (b : Nat) (cs : Array Value) (t : TypeId) : Prop := w.heap[b]? = some (.cells cs t (0,0))
theorem Blk.lt {w : World} {b : Nat} {cs : Array Value} {t : TypeId} (h : Blk w b cs t) : b < w.heap.size := (Array.getElem?_eq_some_iff.1 h).1
theorem Blk.cell {w : World} {b : Nat} {cs : Array Value} {t : TypeId} (h : Blk w b cs t) (o : Nat) : w.cell? ⟨b,o,none⟩ = cs[o]? := by rw [Lib.cell_of_heap h]
theorem Blk.free {w : World} {b : Nat} {cs : Array Value} {t : TypeId} (h : Blk w b cs t) (o : Nat) : w.frozen? ⟨b,o,none⟩ = false := Lib.frozen_of_heap h o
theorem Blk.set {w : World} {b : Nat} {cs : Array Value} {t : TypeId} (h : Blk w b cs t) (o : Nat) (v : Value) : Blk (w.setCell ⟨b,o,none⟩ v) b (cs.setIfInBounds o v) t := heap_setCell_same w b o cs t v h
theorem Blk.other {w : World} {b c : Nat} {cs : Array Value} {t : TypeId} (h : Blk w b cs t) (o : Nat) (v : Value) (hne : b ≠ c) : Blk (w.setCell ⟨c,o,none⟩ v) b cs t := (Below.heap_setCell _ _ _ b hne).trans h
theorem Blk.turns {w w' : World} {b : Nat} {cs : Array Value} {t : TypeId} {X : Nat → Prop} (h : Blk w b cs t) (ht : Turns X w w') (hx : ¬ X b) : Blk w' b cs t := (ht.block b h.lt hx).trans h
theorem setSelf {cs : Array Value} {o : Nat} {v : Value} (h : cs[o]? = some v) : cs.setIfInBounds o v = cs := by
 have hl := (Array.getElem?_eq_some_iff.1 h).1
 apply Array.ext_getElem?
 intro i
 by_cases e : o = i
 ·subst e
  rw [Array.getElem?_setIfInBounds_self_of_lt hl,h]
 ·rw [Array.getElem?_setIfInBounds_ne e]
theorem setSet (cs : Array Value) (o : Nat) (v u : Value) : (cs.setIfInBounds o v).setIfInBounds o u = cs.setIfInBounds o u := by
 apply Array.ext_getElem?
 intro i
 simp only [Array.getElem?_setIfInBounds]
 split <;> simp

theorem run_append_anyw {P : Program} (w : World) (base : Nat) (t ty e : TypeId) (i : TypeInfo) (z : Value) (size bytes : Nat) (ht : P.underlying t = some (.slice e)) (hi : P.info? e = some i) (hz : i.zero = some z)
  (hsize : i.size = size) (hby : i.bytes = bytes) (hzs : z.cells.size = size) (hsz : 0 < size)
  (v : Value) (n : Nat) (xs : List Value) (hown : w.ownsRow base e size v n xs) (x : Value) (m : Nat) (news : List Value) (hx : Srcs w size x m news)
  (h63 : n + m ≤ maxLen) (hbytes : (n + m) * bytes ≤ 140737488355328) (hbase : base ≤ w.heap.size) :
  ∃ v' w',(Builtin.append_ #[t,t] ty #[v,x]).run P w = .ok v' w' ∧ w'.ownsRow base e size v' (n + m) (xs ++ news) ∧ w.grownBy w' v.ownBlock ∧ (v'.ownBlock = v.ownBlock ∨ ∀ g,v'.ownBlock = some g → w.heap.size ≤ g) := by
 obtain ⟨hl,h1,hx⟩ := hx
 rcases hx with ⟨rfl,c,rfl⟩ | ⟨a,c,rfl,hc⟩
 ·have hn : news = [] := List.eq_nil_of_length_eq_zero (by simpa using hl)
  subst hn
  refine ⟨v,w,?_,by simpa using hown,World.grownBy.refl _ _,.inl rfl⟩
  rcases hown.2 with ⟨rfl,rfl⟩ | ⟨g,cap,cur,rfl,hbg,hg,hnc,hcm,hcs,htake⟩
  ·simp [Builtin.append_,run_underlying ht,sizeOf,typeInfo,hi,Builtin.lenOf,run_firstCells_none]
  ·have := run_append_room_src (P := P) w t t ty e i ht hi g 0 n cap (.slice none 0 c) 0 [] (Src.ofNil w ht c) (by omega) (by simp) (by simp)
   rw [this]
   simp [World.setCells]
 ·exact run_append_where (P := P) w base t ty e i z size bytes ht hi hz hsize hby hzs hsz v n xs hown a m c news hl hc h1 h63 hbytes hbase
theorem wpList_append_anyw {P : Program} (w : World) {ops : Array Oper} {rest : List Oper} {o : Oper} {a : Act} {Q : Exit → Act → World → Prop} (hgd : o.guard = none) (sl x : Operand) (t : TypeId)
  (ho : o.op = .call { callee := .builtin .append,args := #[sl,x],argTypes := #[t,t] })
  (base : Nat) (e : TypeId) (i : TypeInfo) (z : Value) (size bytes : Nat) (ht : P.underlying t = some (.slice e)) (hi : P.info? e = some i) (hz : i.zero = some z) (hsize : i.size = size) (hby : i.bytes = bytes) (hzs : z.cells.size = size) (hsz : 0 < size)
  (v : Value) (n : Nat) (xs : List Value) (hs : a.eval sl = v) (hown : w.ownsRow base e size v n xs) (m : Nat) (news : List Value) (u : Value) (hxe : a.eval x = u) (hx : Srcs w size u m news)
  (h63 : n + m ≤ maxLen) (hbytes : (n + m) * bytes ≤ 140737488355328) (hbase : base ≤ w.heap.size)
  (h : ∀ v' w',w'.ownsRow base e size v' (n + m) (xs ++ news) → w.grownBy w' v.ownBlock → (v'.ownBlock = v.ownBlock ∨ ∀ g,v'.ownBlock = some g → w.heap.size ≤ g) → wpList P ops Q rest (a.put o.dst v') w') : wpList P ops Q (o :: rest) a w := by
 refine wpList_plain hgd fun K hK => ?_
 obtain ⟨v',w',hr,h2,h3,h4⟩ := run_append_anyw (P := P) w base t o.type e i z size bytes ht hi hz hsize hby hzs hsz v n xs hown u m news hx h63 hbytes hbase
 unfold Oper.wp execOp
 simp only [ho,resolve,invoke,builtin,Sem.run_bind,Sem.run_pure,Result.andThen_ok,List.map_toArray,List.map_cons,List.map_nil,hs,hxe,hr]
 exact hK _ _ (h v' w' h2 h3 h4)
theorem srcs_one (w : World) (e : TypeId) (u : Value) (h1 : u.oneCell' = true) : Srcs (w.alloc (.cells #[u] e)) 1 (.slice (some ⟨w.heap.size,0,none⟩) 1 1) 1 [u] := by
 refine ⟨rfl,by simpa using h1,.inr ⟨_,_,rfl,fun j x hj => ?_⟩⟩
 match j,hj with
 | 0,hj =>
  simp at hj
  subst hj
  rw [addr_add0]
  rw [Lib.cell_of_heap (World.alloc_heap_new w (.cells #[u] e (0,0)))]; rfl
theorem row_val {w : World} {base : Nat} {e : TypeId} {sz : Nat} {v : Value} {n : Nat} {xs : List Value} (h : w.ownsRow base e sz v n xs) : ∃ a cap,v = .slice a n cap := by
 rcases h.2 with ⟨rfl,rfl⟩ | ⟨g,cap,cur,rfl,_⟩
 ·exact ⟨_,_,rfl⟩
 ·exact ⟨_,_,rfl⟩
theorem row_ne {w : World} {base : Nat} {e t : TypeId} {sz : Nat} {v : Value} {n b : Nat} {xs : List Value} {cs : Array Value} (h : w.ownsRow base e sz v n xs) (hB : Blk w b cs t) (ht : t ≠ e) : v.ownBlock ≠ some b := fun hb => by
 rcases h.2 with ⟨rfl,rfl⟩ | ⟨g,cap,cur,rfl,_,hg,_⟩
 ·cases hb
 ·cases hb
  rw [hB] at hg
  injection hg with hg
  injection hg with h1 h2
  exact ht h2
def lenAt (b o : Nat) (w : World) : Nat := match w.cell? ⟨b,o,none⟩ with
 | some (.slice _ n _) => n
 | _ => 0
theorem lenAt_is {w : World} {b o n cap : Nat} {a : Option Addr} (h : w.cell? ⟨b,o,none⟩ = some (.slice a n cap)) : lenAt b o w = n := by simp [lenAt,h]

theorem lay_any (b o k : Nat) (x : Int) (w : World) (cs : Array Value) (t : TypeId) (ht : t ≠ 3) (hB : Blk w b cs t) (d : List Int) (v : Value) (hv : cs[o]? = some v) (hr : w.ownsRow 0 3 1 v d.length (ints d)) (hk : k < 1000000) (_hd : d.length < 1000000) :
  Calls Tryz.prog 192 #[.pointer (some ⟨b,o,none⟩),.int .i64 k,.int .i64 x] w fun e w' => e = .returned (.tuple #[]) ∧ ∃ v',Blk w' b (cs.setIfInBounds o v') t ∧ w'.ownsRow 0 3 1 v' (layL d k x).length (ints (layL d k x)) ∧ Turns (fun i => i = b ∨ v.ownBlock = some i) w w' ∧
   (v'.ownBlock = v.ownBlock ∨ ∀ g,v'.ownBlock = some g → w.heap.size ≤ g) := by
 have ho : o < cs.size := (Array.getElem?_eq_some_iff.1 hv).1
 obtain ⟨i3,hi⟩ := Option.isSome_iff_exists.1 (show (Tryz.prog.info? 3).isSome = true by kernel_rfl)
 have hz0 : i3.zero = some (.int .i64 0) := by
  have h : (Tryz.prog.info? 3).map (·.zero) = some (some (.int .i64 0)) := by kernel_rfl
  rw [hi] at h; simpa using h
 have hz1 : i3.size = 1 := by
  have h : (Tryz.prog.info? 3).map (·.size) = some 1 := by kernel_rfl
  rw [hi] at h; simpa using h
 have hz2 : i3.bytes = 8 := by
  have h : (Tryz.prog.info? 3).map (·.bytes) = some 8 := by kernel_rfl
  rw [hi] at h; simpa using h
 go_enter Tryz.func192,Tryz.ntmps192
 go_wp2_with fail
 go_loopw [11] (fun _ wr => ∃ (n : Nat) (v' : Value),n ≤ k + 1 - d.length ∧ Blk wr b (cs.setIfInBounds o v') t ∧ wr.ownsRow 0 3 1 v' (d.length + n) (ints (d ++ List.replicate n 0)) ∧ Turns (fun i => i = b ∨ v.ownBlock = some i) w wr ∧ Hid (v'.ownBlock = v.ownBlock ∨ ∀ g,v'.ownBlock = some g → w.heap.size ≤ g)) (fun _ wr => k + 1 - lenAt b o wr)
 case atStart => exact ⟨0,v,by omega,by rw [setSelf hv]; exact hB,by simpa using hr,Turns.refl _ _,.inl rfl⟩
 case round =>
  obtain ⟨n,v1,hn,hB1,hr1,hT,hw⟩ := hrel
  have c0 : wr.cell? ⟨b,o,none⟩ = some v1 := by rw [hB1.cell]; simp [ho]
  obtain ⟨a1,cap1,rfl⟩ := row_val hr1
  have hm0 : Hid (lenAt b o wr = d.length + n) := lenAt_is c0
  have hne := row_ne hr1 hB1 ht
  by_cases hlt : d.length + n ≤ k
  ·have f1 : ((d.length + n : Nat) : Int) ≤ k := by omega
   have hHn : Hid (Blk wr b (cs.setIfInBounds o (.slice a1 (d.length + n) cap1)) t ∧ (Value.slice a1 (d.length + n) cap1).ownBlock ≠ some b) := ⟨hB1,hne⟩
   have hTh : Hid (Turns (fun i => i = b ∨ v.ownBlock = some i) w wr) := hT
   have hdd : Hid (d = d) := rfl
   generalize hL : d.length + n = L at *
   clear hne hB1 hT
   go_wp2_with (at_builtin; refine wpList_append_anyw _ rfl _ _ 203 rfl 0 3 i3 _ 1 8 Tryz.underlying203 hi hz0 hz1 hz2 rfl (by decide) _ L _ rfl (by exact hr1.alloc _) 1 _ _ rfl (by exact srcs_one wr 3 (.int .i64 0) rfl) (by unfold maxLen; omega) (by omega) (by simp) ?_; intro v2 w2 hown hgrow hwh; obtain ⟨a2,cap2,rfl⟩ := row_val hown; have hB2 : Blk w2 b (cs.setIfInBounds o (.slice a1 L cap1)) t := (hgrow.block b (by have := hHn.out.1.lt; simp; omega) (fun e => hHn.out.2 e.symm)).trans ((Below.heap_alloc _ _ _ hHn.out.1.lt).trans hHn.out.1); have f2 := hB2.free o; have c2 : w2.cell? ⟨b,o,none⟩ = some (.slice a1 L cap1) := by rw [hB2.cell]; simp [ho])
   have hrow2 : (w2.setCell ⟨b,o,none⟩ (.slice a2 (L + 1) cap2)).ownsRow 0 3 1 (.slice a2 (L + 1) cap2) (L + 1) (ints (d ++ List.replicate (n + 1) 0)) := by
    have h1 : w2.ownsRow 0 3 1 (.slice a2 (L + 1) cap2) (L + 1) (ints (d ++ List.replicate (n + 1) 0)) := by
     rw [List.replicate_succ',← List.append_assoc,ints_append]; exact hown
    exact ownsRow_turns h1 (Turns.setCell (X := fun i => i = b) w2 (p := ⟨b,o,none⟩) rfl _) (fun g hg e => row_ne h1 hB2 ht (e ▸ hg))
   have hB3 := hB2.set o (.slice a2 (L + 1) cap2)
   rw [setSet] at hB3
   have hT3 : Turns (fun i => i = b ∨ v.ownBlock = some i) w (w2.setCell ⟨b,o,none⟩ (.slice a2 (L + 1) cap2)) := by
    refine (hTh.out.trans (Turns.alloc _ _ _)).trans' (Y := fun i => i = b ∨ (Value.slice a1 L cap1).ownBlock = some i) (((Turns.of_grownBy hgrow).mono ?_).trans (Turns.setCell w2 (p := ⟨b,o,none⟩) (.inl rfl) _)) ?_
    ·intro i hi; exact .inr hi
    ·rintro i (rfl | hi)
     ·exact .inl (.inl rfl)
     ·rcases hw.out with h | h
      ·exact .inl (.inr (h ▸ hi))
      ·exact .inr (h i hi)
   have hw3 : (Value.slice a2 (L + 1) cap2).ownBlock = v.ownBlock ∨ ∀ g,(Value.slice a2 (L + 1) cap2).ownBlock = some g → w.heap.size ≤ g := by
    rcases hwh with h | h
    ·rcases hw.out with h2 | h2
     ·exact .inl (h.trans h2)
     ·exact .inr fun g hg => h2 g (h.symm.trans hg)
    ·refine .inr fun g hg => Nat.le_trans ?_ (h g hg)
     have := hTh.out.size
     simp; omega
   go_roundw
   case rel => exact ⟨n + 1,_,by omega,hB3,by rw [← Nat.add_assoc,hL]; exact hrow2,hT3,hw3⟩
   case measure =>
    rw [hm0.out,lenAt_is (n := L + 1) (a := a2) (cap := cap2) (by rw [hB3.cell]; simp [ho])]; omega
  ·have hnn : Hid (d ++ List.replicate (k + 1 - d.length) 0 = d ++ List.replicate n 0) := by
    show _ = _
    rw [show n = k + 1 - d.length by omega]
   have hlen : Hid ((layL d k x).length = d.length + n) := by
    show _ = _
    rw [lay_len]; omega
   have hlay : Hid (layL d k x = (d ++ List.replicate n 0).set k (max (atL d k) x)) := by
    show _ = _
    rw [layL,hnn.out]
   rcases hr1.2 with ⟨h1,h2⟩ | ⟨g,cap,cur,h1,_,hg,hcap,hcm,hcs,htk⟩
   ·exfalso; omega
   cases h1
   have hkk : k < d.length + n := by omega
   have hgb : Blk wr g cur 3 := hg
   have hgk : cur[k]? = some (.int .i64 (atL d k)) := by
    have h3 : (cur.toList.take ((d.length + n) * 1))[k]? = (ints (d ++ List.replicate n 0))[k]? := by rw [htk]
    rw [List.getElem?_take_of_lt (by omega)] at h3
    rw [← Array.getElem?_toList,h3,ints,List.getElem?_map,← atL_pad d n k,atL,List.getD_eq_getElem?_getD,List.getElem?_eq_getElem (by simp; omega)]
    rfl
   have c1 : wr.cell? ⟨g,k,none⟩ = some (.int .i64 (atL d k)) := by rw [hgb.cell]; exact hgk
   have f1 := hgb.free k
   have hH : Hid (wr.ownsRow 0 3 1 (.slice (some ⟨g,0,none⟩) (d.length + n) cap1) (d.length + n) (ints (d ++ List.replicate n 0)) ∧ g ≠ b) := ⟨hr1,fun e => hne (by rw [e]; rfl)⟩
   have hBh : Hid (Blk wr b (cs.setIfInBounds o (.slice (some ⟨g,0,none⟩) (d.length + n) cap1)) t) := hB1
   have hTh : Hid (Turns (fun i => i = b ∨ v.ownBlock = some i) w wr) := hT
   have hgh : Hid (Blk wr g cur 3 ∧ (d.length + n ≤ cap1 ∧ cap1 ≤ maxLen ∧ cur.size = cap1 * 1 ∧ cur.toList.take ((d.length + n) * 1) = ints (d ++ List.replicate n 0))) := ⟨hgb,hcap,hcm,hcs,htk⟩
   generalize atL d k = y at *
   have hx : Hid (max y x = max y x) := rfl
   clear hnn hgk hgb htk hcs hcm hcap hg hne hB1 hT hr1 hm0
   go_wp2_with fail
   go_region
   have hfin : ∀ m,m = max y x → Blk (wr.setCell ⟨g,k,none⟩ (.int .i64 m)).drew b (cs.setIfInBounds o (.slice (some ⟨g,0,none⟩) (d.length + n) cap1)) t ∧
     (wr.setCell ⟨g,k,none⟩ (.int .i64 m)).drew.ownsRow 0 3 1 (.slice (some ⟨g,0,none⟩) (d.length + n) cap1) (layL d k x).length (ints (layL d k x)) ∧ Turns (fun i => i = b ∨ v.ownBlock = some i) w (wr.setCell ⟨g,k,none⟩ (.int .i64 m)).drew := by
    rintro m rfl
    refine ⟨hBh.out.other k _ hH.out.2.symm,?_,?_⟩
    ·rw [hlen.out,hlay.out]
     obtain ⟨q0,q1,q2,q3,q4⟩ := hgh.out
     refine ⟨by simp [ints],.inr ⟨g,cap1,cur.setIfInBounds k (.int .i64 (max y x)),rfl,Nat.zero_le _,hgh.out.1.set k _,q1,q2,by simpa using q3,?_⟩⟩
     rw [Array.toList_setIfInBounds,ints,List.map_set,← ints,← q4,List.take_set]
    ·refine hTh.out.trans' (Y := fun i => i = g) ((Turns.setCell (X := fun i => i = g) wr (p := ⟨g,k,none⟩) rfl _).trans (Turns.drew _ _)) ?_
     rintro i rfl
     rcases hw.out with h | h
     ·exact .inl (.inr (h ▸ rfl))
     ·exact .inr (h i rfl)
   go_wp2_with fail
   ·rename_i hyx
    go_returns
    obtain ⟨r1,r2,r3⟩ := hfin x (by omega)
    exact ⟨rfl,_,r1,r2,r3,hw.out⟩
   ·rename_i hyx
    go_returns
    obtain ⟨r1,r2,r3⟩ := hfin y (by omega)
    exact ⟨rfl,_,r1,r2,r3,hw.out⟩

def Dig (w0 : World) (v0 : Value) (b o : Nat) (cs : Array Value) (t : TypeId) (d : List Int) (w : World) : Prop :=
 ∃ v,Blk w b (cs.setIfInBounds o v) t ∧ w.ownsRow 0 3 1 v d.length (ints d) ∧ Turns (fun i => i = b ∨ v0.ownBlock = some i) w0 w ∧ (v.ownBlock = v0.ownBlock ∨ ∀ g,v.ownBlock = some g → w0.heap.size ≤ g)
theorem Dig.start {w : World} {b o : Nat} {cs : Array Value} {t : TypeId} {d : List Int} {v : Value} (hB : Blk w b cs t) (hv : cs[o]? = some v) (hr : w.ownsRow 0 3 1 v d.length (ints d)) : Dig w v b o cs t d w :=
 ⟨v,by rw [setSelf hv]; exact hB,hr,Turns.refl _ _,.inl rfl⟩
theorem lay_step {w0 : World} {v0 : Value} {b o : Nat} {cs : Array Value} {t : TypeId} {d : List Int} {w : World} (ho : o < cs.size) (ht : t ≠ 3) (h : Dig w0 v0 b o cs t d w) (k : Nat) (x : Int) (hk : k < 1000000) (hd : d.length < 1000000) :
  Calls Tryz.prog 192 #[.pointer (some ⟨b,o,none⟩),.int .i64 k,.int .i64 x] w fun e w' => e = .returned (.tuple #[]) ∧ Dig w0 v0 b o cs t (layL d k x) w' := by
 obtain ⟨v,hB,hr,hT,hw⟩ := h
 refine (lay_any b o k x w _ t ht hB d v (by simp [ho]) hr hk hd).mono ?_
 rintro e w' ⟨rfl,v',h1,h2,h3,h4⟩
 rw [setSet] at h1
 refine ⟨rfl,v',h1,h2,hT.trans' h3 ?_,?_⟩
 ·rintro i (rfl | hi)
  ·exact .inl (.inl rfl)
  ·rcases hw with h | h
   ·exact .inl (.inr (h ▸ hi))
   ·exact .inr (h i hi)
 ·rcases h4 with h4 | h4
  ·rcases hw with h | h
   ·exact .inl (h4.trans h)
   ·exact .inr fun g hg => h g (h4.symm.trans hg)
  ·exact .inr fun g hg => Nat.le_trans hT.size (h4 g hg)
end Go.Proofs.YtbdpghjegachaaaGreatDoor.Hy
