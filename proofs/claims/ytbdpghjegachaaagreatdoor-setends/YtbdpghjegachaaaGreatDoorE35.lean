/-
  What is proved here: what SetEnds asks of the end of a line, for every paragraph and line.
  What is proved here: a paragraph that is aligned to the left ends at its natural end; what SetEnds asks.
-/
import Derived.Test.YtbdpghjegachaaaGreatDoorE34
namespace Go.Proofs.YtbdpghjegachaaaGreatDoor
open Go.RowKit Go.Shelf

def snK (t : ByteArray) (e : Nat) : Nat → Bool
 | 0 => false
 | k + 1 => snK t e k || (decide (bt t (e - 1 - k) ≠ 32) && decide (bt t (e - 1 - k) ≠ 31))
def tbK (t : ByteArray) (e : Nat) : Nat → Nat
 | 0 => 0
 | k + 1 => tbK t e k + (if bt t (e - 1 - k) = 9 then 1 else 0)
def blK (t : ByteArray) (e : Nat) : Nat → Nat
 | 0 => 0
 | k + 1 => blK t e k + (if bt t (e - 1 - k) = 32 ∧ snK t e k = true then 1 else 0)
theorem tbK_le (t : ByteArray) (e : Nat) : ∀ k,tbK t e k ≤ k
 | 0 => Nat.le_refl _
 | k + 1 => by have := tbK_le t e k; show tbK t e k + _ ≤ _; split <;> omega
theorem blK_le (t : ByteArray) (e : Nat) : ∀ k,blK t e k ≤ k
 | 0 => Nat.le_refl _
 | k + 1 => by have := blK_le t e k; show blK t e k + _ ≤ _; split <;> omega
theorem tbK_iff {t : ByteArray} {e : Nat} : ∀ {k : Nat},k ≤ e → (0 < tbK t e k ↔ TabIn t (e - k) e)
 | 0,_ => by
  constructor
  ·intro h; exact absurd h (by simp [tbK])
  ·rintro ⟨p,h1,h2,_⟩; omega
 | k + 1, h => by
  have ih := tbK_iff (t := t) (e := e) (k := k) (by omega)
  constructor
  ·intro h1
   by_cases h9 : bt t (e - 1 - k) = 9
   ·exact ⟨e - 1 - k,by omega,by omega,h9⟩
   ·have : 0 < tbK t e k := by
     have h2 : tbK t e (k + 1) = tbK t e k + (if bt t (e - 1 - k) = 9 then 1 else 0) := rfl
     rw [if_neg h9] at h2; omega
    obtain ⟨p,a,b,c⟩ := ih.1 this
    exact ⟨p,by omega,b,c⟩
  ·rintro ⟨p,a,b,c⟩
   show 0 < tbK t e k + _
   by_cases e' : p = e - 1 - k
   ·rw [← e',if_pos c]; omega
   ·have := ih.2 ⟨p,by omega,b,c⟩
    omega
theorem snK_iff {t : ByteArray} {e : Nat} : ∀ {k : Nat},k ≤ e → (snK t e k = true ↔ ∃ q,e - k ≤ q ∧ q < e ∧ bt t q ≠ 32 ∧ bt t q ≠ 31)
 | 0,_ => by
  constructor
  ·intro h; exact absurd h (by simp [snK])
  ·rintro ⟨p,h1,h2,_⟩; omega
 | k + 1, h => by
  have ih := snK_iff (t := t) (e := e) (k := k) (by omega)
  show (snK t e k || _) = true ↔ _
  rw [Bool.or_eq_true,Bool.and_eq_true,decide_eq_true_eq,decide_eq_true_eq,ih]
  constructor
  ·rintro (⟨q,a,b,c⟩ | c)
   ·exact ⟨q,by omega,b,c⟩
   ·exact ⟨e - 1 - k,by omega,by omega,c⟩
  ·rintro ⟨q,a,b,c⟩
   by_cases e' : q = e - 1 - k
   ·right; rw [← e']; exact c
   ·left; exact ⟨q,by omega,b,c⟩
theorem blK_iff {t : ByteArray} {e : Nat} : ∀ {k : Nat},k ≤ e → (0 < blK t e k ↔ BlkIn t (e - k) e)
 | 0,_ => by
  constructor
  ·intro h; exact absurd h (by simp [blK])
  ·rintro ⟨p,q,h1,h2,h3,_⟩; omega
 | k + 1, h => by
  have ih := blK_iff (t := t) (e := e) (k := k) (by omega)
  have hs := snK_iff (t := t) (e := e) (k := k) (by omega)
  constructor
  ·intro h1
   by_cases h9 : bt t (e - 1 - k) = 32 ∧ snK t e k = true
   ·obtain ⟨q,a,b,c,d⟩ := hs.1 h9.2
    exact ⟨e - 1 - k,q,by omega,by omega,b,h9.1,c,d⟩
   ·have : 0 < blK t e k := by
     have h2 : blK t e (k + 1) = blK t e k + (if bt t (e - 1 - k) = 32 ∧ snK t e k = true then 1 else 0) := rfl
     rw [if_neg h9] at h2; omega
    obtain ⟨p,q,a,b⟩ := ih.1 this
    exact ⟨p,q,by omega,b⟩
  ·rintro ⟨p,q,a,b,c,d,f,g⟩
   show 0 < blK t e k + _
   by_cases e' : p = e - 1 - k
   ·rw [← e',if_pos ⟨d,hs.2 ⟨q,by omega,c,f,g⟩⟩]; omega
   ·have := ih.2 ⟨p,q,by omega,b,c,d,f,g⟩
    omega
theorem glS_end (R : Nat → Ms) (x : Int) {N : Nat} (h : 0 < N) : (glS R x N).getLast? = some ⟨(R (N - 1)).f,(R (N - 1)).t,psN R x (N - 1) + (R (N - 1)).q,(R (N - 1)).w⟩ := by
 obtain ⟨k,rfl⟩ : ∃ k,N = k + 1 := ⟨N - 1,by omega⟩
 show (glS R x k ++ [_]).getLast? = _
 rw [List.getLast?_concat]
 rfl
theorem fi_end (a : Pa) (l : Ln) (last : Bool) (M : Nat → Ms) (s n N : Nat) (hh x0 : Int) (hy : l.y = false → hh = 0 ∧ 0 < N) :
  enI (fiL a l last M s n N hh []) x0 = psN (alM a.p.p2 last (tabM M s l.x n) s n (l.w - (atQ M s l.x n + hh - l.x))) (l.x + mvI a.p.p2 (l.w - (atQ M s l.x n + hh - l.x))) N + hh := by
 unfold fiL enI
 generalize alM a.p.p2 last (tabM M s l.x n) s n (l.w - (atQ M s l.x n + hh - l.x)) = R
 generalize l.x + mvI a.p.p2 (l.w - (atQ M s l.x n + hh - l.x)) = x
 rw [List.nil_append]
 by_cases h : l.y = true
 ·rw [if_pos h,List.getLast?_concat]
 ·obtain ⟨rfl,hN⟩ := hy (by simpa using h)
  rw [if_neg h,List.append_nil,glS_end R x hN]
  obtain ⟨k,rfl⟩ : ∃ k,N = k + 1 := ⟨N - 1,by omega⟩
  show psN R x k + (R k).q + (R k).w = psN R x k + (R k).q + (R k).w + 0
  omega
theorem aniB_iff {P : Ms → Bool} {M : Nat → Ms} {s : Nat} : ∀ {n : Nat},aniB P M s n = true ↔ ∃ i,i < n ∧ P (M (s + i)) = true
 | 0 => by simp [aniB]
 | n + 1 => by
  show (aniB P M s n || P (M (s + n))) = true ↔ _
  rw [Bool.or_eq_true,aniB_iff]
  constructor
  ·rintro (⟨i,h1,h2⟩ | h)
   ·exact ⟨i,by omega,h2⟩
   ·exact ⟨n,by omega,h⟩
  ·rintro ⟨i,h1,h2⟩
   by_cases e : i = n
   ·subst e; exact .inr h2
   ·exact .inl ⟨i,by omega,h2⟩
theorem seM_k {l : Ln} {pn : Int → Bool} {M : Nat → Ms} {N i : Nat} : (seM l pn M N i).k = (M i).k := (loM_k (l.f == 0) M N i).1
theorem seM_out {l : Ln} {pn : Int → Bool} {M : Nat → Ms} {N i : Nat} (hi : i < N) (h : MsOk (M i)) (ho : i < fwN (l.f == 0) M (toN M N) ∨ toN M N ≤ i) : (seM l pn M N i).q = 0 ∧ (seM l pn M N i).w = 0 := by
 have hq : (M i).q = 0 := h.bl (by
  rcases ho with ho | ho
  ·exact .inl (frN_at ho)
  ·exact toN_at ho hi)
 have hf := fwN_le (l.f == 0) M (toN M N)
 constructor
 ·show (if i = 0 ∨ pn (loM (l.f == 0) M N i).f = true then (0 : Int) else (loM (l.f == 0) M N i).q) = 0
  rw [(loM_k (l.f == 0) M N i).2.2.1,hq]
  split <;> rfl
 ·show (loM (l.f == 0) M N i).w = 0
  unfold loM narM
  by_cases h1 : toN M N ≤ i
  ·rw [if_pos ⟨h1,by omega⟩]
  ·rw [if_neg (by omega),if_pos (by omega)]
structure EnF (a : Pa) (l : Ln) (last : Bool) (nt : Int) (sp : Bool) : Prop where
 en : enV a l last = endV a.p.p2 sp nt (l.x + l.w - nt)
 yes : ∀ fs,Fst a.t (st a.t (loI a l.f)) (st a.t (loI a l.t)) fs → sp = true → last = false ∧ ¬ TabIn a.t fs (st a.t (loI a l.t)) ∧ BlkIn a.t fs (st a.t (loI a l.t))
 no : ∀ fs,Fst a.t (st a.t (loI a l.f)) (st a.t (loI a l.t)) fs → sp = false → 0 ≤ l.x + l.w - nt → last = true ∨ TabIn a.t fs (st a.t (loI a l.t)) ∨ ¬ BlkIn a.t fs (st a.t (loI a l.t))
def Pa.left (a : Pa) (v u : Value) : Pa := { a with sv := v,mv := u,p := { a.p with p2 := 0 } }
def bareM (a : Pa) (l : Ln) : Nat → Ms := seM l (pnB a) (fun i => msI a (loI a l.f + i)) (loI a l.t - loI a l.f)
def bareS (a : Pa) (l : Ln) : Nat := fwN (l.f == 0) (fun i => msI a (loI a l.f + i)) (toN (fun i => msI a (loI a l.f + i)) (loI a l.t - loI a l.f))
def bareE (a : Pa) (l : Ln) : Nat := toN (fun i => msI a (loI a l.f + i)) (loI a l.t - loI a l.f)
def bareH (a : Pa) (l : Ln) : Int := hyI a l (bareM a l) (loI a l.t - loI a l.f)
def bareN (a : Pa) (l : Ln) : Int := atQ (bareM a l) (bareS a l) l.x (bareE a l - bareS a l) + bareH a l
theorem ends_is {a : Pa} {l : Ln} {last : Bool} (he : plE a l = 0) (hd : ¬ 0 < drV a) (hne : ¬ (l.f = l.t ∧ l.y = false)) : ∃ sp,EnF a l last (bareN a l) sp := by
 obtain ⟨hck,hb1,hb2,hle,hx,hw⟩ := plE_ok he
 have hG := good_of hck
 have ht : loI a l.t ≤ num a.t := lowN_le _ _ _
 have s0 := bd_st hb1
 have s1 := bd_st hb2
 have hcap : capB a (num a.t) (msI a 0).k = false := by
  cases hc : capB a (num a.t) (msI a 0).k
  ·rfl
  ·exfalso
   apply hd
   unfold drV
   rw [if_pos ⟨hck,hc⟩]
   have := cwI_rng a
   omega
 have hcp : ¬ cpB a (num a.t) (loI a l.f) (loI a l.t) (msI a 0).k = true := by
  unfold cpB; rw [hcap]; simp
 have hN0 : l.y = false → bareH a l = 0 ∧ 0 < loI a l.t - loI a l.f := fun hy => by
  refine ⟨?_,?_⟩
  ·unfold bareH hyI; rw [if_neg (by rw [hy]; decide)]
  ·apply Classical.byContradiction
   intro h
   have : loI a l.f = loI a l.t := by omega
   rw [this] at s0
   exact hne ⟨by omega,hy⟩
 have hsum : loI a l.f + (loI a l.t - loI a l.f) = loI a l.t := Nat.add_sub_cancel' hle
 have hMok : ∀ i,i < loI a l.t - loI a l.f → MsOk (msI a (loI a l.f + i)) := fun i hi => hG.msOk (by omega)
 have hSE : bareS a l ≤ bareE a l := fwN_le _ _ _
 have hEN : bareE a l ≤ loI a l.t - loI a l.f := toN_le _ _
 have hnat := psN_nat (M := bareM a l) (s := bareS a l) (m := bareE a l - bareS a l) (N := loI a l.t - loI a l.f) (x := l.x) (fun i hi ho => seM_out hi (hMok i hi) (by
  rcases ho with ho | ho
  ·exact .inl ho
  ·refine .inr ?_
   have : bareE a l ≤ i := by omega
   exact this)) (by omega)
 have hen : enV a l last = psN (alM a.p.p2 last (tabM (bareM a l) (bareS a l) l.x (bareE a l - bareS a l)) (bareS a l) (bareE a l - bareS a l) (l.w - (bareN a l - l.x))) (l.x + mvI a.p.p2 (l.w - (bareN a l - l.x))) (loI a l.t - loI a l.f) + bareH a l := by
  unfold enV
  rw [if_pos he]
  unfold plL gyL
  rw [if_neg hcp]
  exact fi_end a l last (bareM a l) (bareS a l) (bareE a l - bareS a l) (loI a l.t - loI a l.f) (bareH a l) l.x hN0
 have hrm : l.w - (bareN a l - l.x) = l.x + l.w - bareN a l := by omega
 rw [hrm,psN_al (by omega),hnat] at hen
 refine ⟨sprB last (tabM (bareM a l) (bareS a l) l.x (bareE a l - bareS a l)) (bareS a l) (bareE a l - bareS a l) (l.x + l.w - bareN a l),⟨hen.trans ?_,?_,?_⟩⟩
 ·have e : bareN a l = atQ (bareM a l) (bareS a l) l.x (bareE a l - bareS a l) + bareH a l := rfl
  generalize l.x + l.w - bareN a l = rm
  rw [e]
  unfold endV
  split
  ·omega
  ·split
   ·omega
   ·split <;> omega
 all_goals
  intro fs hF hsp
  have hF' : Fst a.t (st a.t (loI a l.f)) (st a.t (loI a l.f + (loI a l.t - loI a l.f))) fs := by rw [hsum]; exact hF
  have hbz : (l.f == 0) = true ↔ st a.t (loI a l.f) = 0 := by rw [beq_iff_eq]; omega
  have hT := tab_in (t := a.t) (M := fun i => msI a (loI a l.f + i)) (b := l.f == 0) (by omega) (fun i _ => rfl) hbz hF'
  have hB := blk_in (t := a.t) (M := fun i => msI a (loI a l.f + i)) (b := l.f == 0) (by omega) (fun i _ => rfl) hbz hF'
  rw [hsum] at hT hB
  have hk : ∀ i,i < bareE a l - bareS a l → (tabM (bareM a l) (bareS a l) l.x (bareE a l - bareS a l) (bareS a l + i)).k = (msI a (loI a l.f + (bareS a l + i))).k := fun i hi => by
   rw [(tabM_in hi).2.2]; exact seM_k
  have hT2 : aniB (fun m => m.k == 4) (tabM (bareM a l) (bareS a l) l.x (bareE a l - bareS a l)) (bareS a l) (bareE a l - bareS a l) = true ↔ TabIn a.t fs (st a.t (loI a l.t)) := by
   rw [← hT,aniB_iff]
   constructor
   ·rintro ⟨i,h1,h2⟩
    rw [beq_iff_eq,hk i h1] at h2
    exact ⟨bareS a l + i,⟨Nat.le_add_right _ _,by show _ < bareE a l; omega⟩,h2⟩
   ·rintro ⟨i,⟨h1,h2⟩,h3⟩
    replace h1 : bareS a l ≤ i := h1
    replace h2 : i < bareE a l := h2
    refine ⟨i - bareS a l,by omega,?_⟩
    rw [beq_iff_eq,hk _ (by omega),show bareS a l + (i - bareS a l) = i by omega]
    exact h3
  have hB2 : bkL (tabM (bareM a l) (bareS a l) l.x (bareE a l - bareS a l)) (bareS a l) (bareE a l - bareS a l) ≠ [] ↔ BlkIn a.t fs (st a.t (loI a l.t)) := by
   rw [← hB]
   constructor
   ·intro h
    obtain ⟨i,hi⟩ := List.exists_mem_of_ne_nil _ h
    obtain ⟨h1,h2⟩ := mem_bkL.1 hi
    rw [hk i h1] at h2
    exact ⟨bareS a l + i,⟨Nat.le_add_right _ _,by show _ < bareE a l; omega⟩,h2⟩
   ·rintro ⟨i,⟨h1,h2⟩,h3⟩
    replace h1 : bareS a l ≤ i := h1
    replace h2 : i < bareE a l := h2
    have hlt : i - bareS a l < bareE a l - bareS a l := by clear h3; omega
    refine List.ne_nil_of_mem (mem_bkL.2 ⟨hlt,?_⟩)
    rw [hk _ hlt,show bareS a l + (i - bareS a l) = i by clear h3; omega]
    exact h3
  unfold sprB at hsp
 ·rw [decide_eq_true_eq] at hsp
  refine ⟨?_,?_,?_⟩
  ·cases last
   ·rfl
   ·exact absurd (.inl rfl) hsp
  ·intro h; exact hsp (.inr (.inl (hT2.2 h)))
  ·exact hB2.1 (fun h => hsp (.inr (.inr (.inl h))))
 ·intro hr
  rw [decide_eq_false_iff_not,Classical.not_not] at hsp
  rcases hsp with h | h | h | h
  ·exact .inl h
  ·exact .inr (.inl (hT2.1 h))
  ·exact .inr (.inr (fun hb => hB2.2 hb h))
  ·have : shS (tabM (bareM a l) (bareS a l) l.x (bareE a l - bareS a l)) (bareS a l) (l.x + l.w - bareN a l) (bareE a l - bareS a l) = _ := shS_even (by omega) _
   rw [this] at h
   omega
end Go.Proofs.YtbdpghjegachaaaGreatDoor

namespace Go.Proofs.YtbdpghjegachaaaGreatDoor
open Go.RowKit Go.Shelf

theorem sp_len : ∀ {l : List Sp} {n : Int},spB l n = true → (l.length : Int) ≤ n
 | [], n, h => by have : n = 0 := by simpa [spB] using h
                  simp; omega
 | r :: l, n, h => by
  unfold spB at h
  split at h
  ·rename_i h1
   have := sp_len h
   rw [List.length_cons]
   omega
  ·exact absurd h (by decide)
theorem refN_leN (t : ByteArray) : ∀ k,refN t k ≤ k
 | 0 => Nat.le_refl _
 | k + 1 => by have := refN_leN t k; rw [refN_succ]; split <;> omega
theorem few_of {a : Pa} (h : chkI a = 0) (hs : a.t.size ≤ 400) : a.sp.length ≤ 5000 ∧ a.ms.length ≤ 5000 := by
 have hG := good_of h
 have h1 := sp_len hG.sp
 have h2 := hG.ms.1
 have h3 := refN_leN a.t a.t.size
 exact ⟨by omega,by omega⟩
theorem left_num (a : Pa) (v u : Value) (l : Ln) : bareN (a.left v u) l = bareN a l := rfl
theorem left_dr (a : Pa) (v u : Value) (h : chkI a = 0) (hl : chkI (a.left v u) = 0) : drV (a.left v u) = drV a := by
 unfold drV
 rw [h,hl]
 rfl
theorem left_chk (a : Pa) (v u : Value) (h : chkI a = 0) : chkI (a.left v u) = 0 := by
 have hG := good_of h
 unfold chkI
 show (if wrongI a.t = 0 then (if fieldB a.t = true then 4 else if restB (a.left v u) = true then 0 else 2) else wrongI a.t) = 0
 have hr : restB a = true := by
  unfold chkI at h
  rw [if_pos hG.wr,if_neg (by rw [hG.fd]; decide)] at h
  apply Classical.byContradiction
  intro hn
  rw [if_neg hn] at h
  exact absurd h (by decide)
 rw [if_pos hG.wr,if_neg (by rw [hG.fd]; decide),if_pos]
 unfold restB at hr ⊢
 have hp : keepB (prB (a.left v u).p) = true := by
  have := hG.pr
  unfold keepB prB at this ⊢
  simp [Pa.left] at this ⊢
  exact ⟨this.1,this.2.1,by decide,this.2.2.2⟩
 revert hr
 show _ → (_ : Bool) = true
 rw [hp,hG.pr]
 exact id
theorem left_plE (a : Pa) (v u : Value) (l : Ln) (he : plE a l = 0) : plE (a.left v u) l = 0 := by
 obtain ⟨h1,h2⟩ := plE_ok he
 unfold plE
 rw [left_chk a v u h1,if_pos rfl,if_pos]
 exact h2
theorem left_end (a : Pa) (v u : Value) (l : Ln) (last : Bool) (he : plE a l = 0) (hd : ¬ 0 < drV a) (hne : ¬ (l.f = l.t ∧ l.y = false)) : enV (a.left v u) l last = bareN a l := by
 have hck := (plE_ok he).1
 obtain ⟨sp,hE⟩ := ends_is (a := a.left v u) (l := l) (last := last) (left_plE a v u l he) (by rw [left_dr a v u hck (left_chk a v u hck)]; exact hd) hne
 rw [hE.en,left_num]
 unfold endV
 have h0 : (a.left v u).p.p2 = 0 := rfl
 rw [h0,if_neg (by decide),if_neg (by decide),if_neg (by simp)]
structure AskE (al en nt rm sm : Int) (last : Bool) (tb bl : Nat) : Prop where
 le : 0 ≤ rm → en ≤ sm
 p2 : al = 2 → (rm < 0 → en = nt) ∧ (0 ≤ rm → en = sm)
 p3 : al = 3 → (rm < 0 → en = nt) ∧ (0 ≤ rm → en = nt + Int.tdiv rm 2)
 py : al = 1 → last = false → tb = 0 → 0 < bl → 0 ≤ rm → en = sm
 pn : al = 1 → ¬ (last = false ∧ tb = 0 ∧ 0 < bl ∧ 0 ≤ rm) → en ≤ nt
 p0 : al = 0 → en = nt
theorem ask_ok {a : Pa} {l : Ln} {last : Bool} {fs : Nat} (he : plE a l = 0) (hd : ¬ 0 < drV a) (hne : ¬ (l.f = l.t ∧ l.y = false)) (hF : Fst a.t (st a.t (loI a l.f)) (st a.t (loI a l.t)) fs) :
  AskE a.p.p2 (enV a l last) (bareN a l) (l.x + l.w - bareN a l) (l.x + l.w) last (tbK a.t (st a.t (loI a l.t)) (st a.t (loI a l.t) - fs)) (blK a.t (st a.t (loI a l.t)) (st a.t (loI a l.t) - fs)) := by
 obtain ⟨sp,hE⟩ := ends_is (last := last) he hd hne
 have hT := tbK_iff (t := a.t) (e := st a.t (loI a l.t)) (k := st a.t (loI a l.t) - fs) (by omega)
 have hB := blK_iff (t := a.t) (e := st a.t (loI a l.t)) (k := st a.t (loI a l.t) - fs) (by omega)
 have hhi := hF.hi
 rw [show st a.t (loI a l.t) - (st a.t (loI a l.t) - fs) = fs by omega] at hT hB
 have hy := hE.yes fs hF
 have hn := hE.no fs hF
 have hen := hE.en
 generalize enV a l last = en at *
 generalize bareN a l = nt at *
 generalize tbK a.t (st a.t (loI a l.t)) (st a.t (loI a l.t) - fs) = tb at *
 generalize blK a.t (st a.t (loI a l.t)) (st a.t (loI a l.t) - fs) = bl at *
 generalize a.p.p2 = al at *
 rw [← hT,← hB] at hy hn
 clear hT hB hE hF
 unfold endV posI at hen
 refine ⟨?_,?_,?_,?_,?_,?_⟩
 ·intro h
  split at hen
  ·split at hen <;> omega
  ·split at hen
   ·split at hen <;> omega
   ·split at hen <;> omega
 ·rintro rfl
  rw [if_pos rfl] at hen
  constructor <;> intro h <;> split at hen <;> omega
 ·rintro rfl
  rw [if_neg (by decide),if_pos rfl] at hen
  constructor
  ·intro h; split at hen <;> omega
  ·intro h
   rw [Int.tdiv_eq_ediv_of_nonneg h]
   split at hen <;> omega
 ·rintro rfl h1 h2 h3 h4
  rw [if_neg (by decide),if_neg (by decide)] at hen
  have hsp : sp = true := by
   cases sp
   ·exfalso
    rcases hn rfl h4 with h | h | h
    ·rw [h1] at h; exact absurd h (by decide)
    ·omega
    ·omega
   ·rfl
  rw [if_pos ⟨rfl,hsp⟩] at hen
  omega
 ·rintro rfl h1
  rw [if_neg (by decide),if_neg (by decide)] at hen
  cases hs : sp
  ·rw [if_neg (by rw [hs]; decide)] at hen; omega
  ·obtain ⟨y1,y2,y3⟩ := hy hs
   rw [if_pos ⟨rfl,hs⟩] at hen
   have : ¬ 0 ≤ l.x + l.w - nt := fun h => h1 ⟨y1,by omega,y3,h⟩
   omega
 ·rintro rfl
  rw [if_neg (by decide),if_neg (by decide),if_neg (fun h => absurd h.1 (by decide))] at hen
  exact hen
end Go.Proofs.YtbdpghjegachaaaGreatDoor
