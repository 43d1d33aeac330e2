/-
  What is proved here: what SameLines and lines of the law answer.
  What is proved here: a cell's items may be broken, its lines are its text (no program is named).
  What is proved here: what a column's closure answers: a cell with its lines.
  What is proved here: a column's closure, called.
  What is proved here: rows of cells in memory.
-/
import Derived.Test.YtaphggjakaghjaaGreatDoorG31
import Derived.Test.YtaphggjakaghjaaGreatDoorG24
import Derived.Test.YtaphggjakaghjaaGreatDoorG29
namespace Go.Proofs.YtaphggjakaghjaaGreatDoor
open Go.RowKit Go.Shelf

def pcsB (pl : List Pc) (n : Nat) : Bool := pl.all (fun p => decide (p.a ≤ p.b ∧ p.b ≤ n)) && pl.tail.all (fun p => decide (p.a < n))
theorem pcs_of {pl : List Pc} {n : Nat} (h : pcsB pl n = true) : ∀ k (h : k < pl.length),pl[k].a ≤ pl[k].b ∧ pl[k].b ≤ n ∧ (0 < k → pl[k].a < n) := fun k hk => by
 unfold pcsB at h
 rw [Bool.and_eq_true,List.all_eq_true,List.all_eq_true] at h
 have h1 := of_decide_eq_true (h.1 _ (List.getElem_mem hk))
 refine ⟨h1.1,h1.2,fun h0 => ?_⟩
 have e : pl[k] = pl.tail[k - 1]'(by rw [List.length_tail]; omega) := by
  rw [List.getElem_tail]
  congr 1
  omega
 rw [e]
 exact of_decide_eq_true (h.2 _ (List.getElem_mem _))
structure Exm (a : Pa) (r : Sl) (L : List It) (pl : List Pc) (lo : Bool) (wl : List Lx) : Prop where
 e : paE a [] r = 0
 h12 : a.p.p12 ≠ 1
 h14 : ¬ 2 ≤ a.p.p14
 it : itemsOf a = L
 wd : L.all (fun x => decide (x.w ≤ 524288)) = true
 ck : ckL L = 0
 ps : lsL L (inSs a [] r) (inR a [] r) = pl
 few : pl.length ≤ 9000
 pc : pcsB pl L.length = true
 ln : glL (lyY a L (inSs a [] r) (inR a [] r) pl lo) pl.length = wl
theorem items_26 {L : List It} {a : Pa} {W : World} (h1 : PaAt W a) (h2 : chkI a = 0) (h3 : a.p.p12 ≠ 1) (h4 : ¬ 2 ≤ a.p.p14) (h5 : itemsOf a = L) : Calls Tryz.prog 105 #[.agg (paC a)] W fun e w' => (∃ v,e = .returned (.tuple #[v,.int .i64 0]) ∧ ItsAt w' v L) ∧ Below W.heap.size W w' := by
 refine (items_all a W h1 h3 h4).mono ?_
 rintro e w' ⟨⟨v,rfl,hv⟩,hb⟩
 rw [h2] at hv ⊢
 rcases hv with ⟨k1,_⟩ | ⟨_,k1,_⟩
 ·exact absurd rfl k1
 ·rw [h5] at k1
  exact ⟨⟨v,rfl,rec_of_row itL_len rfl k1⟩,hb⟩
theorem lay_exm {a : Pa} {r : Sl} {L : List It} {pl : List Pc} {lo : Bool} {wl : List Lx} (h : Exm a r L pl lo wl) (w : World) (hA : PaAt w a) (fn : Nat) (hfn : chN a L = fn) (h67 : fn = 107 ∨ fn = 108) (hc : ∀ w v u,ItsAt w v L → SlsAt w u (inSs a [] r) → Calls Tryz.prog fn #[v,u,.agg (slL (inR a [] r)).toArray] w (BkEnd pl lo w)) :
  Calls Tryz.prog 60 #[.agg (paC a),.slice none 0 0,.agg #[.int .i64 r.x,.int .i64 r.w]] w fun e w' => (∃ g,w.heap.size ≤ g ∧ e = .returned (.tuple #[.slice (some ⟨g,0,none⟩) pl.length pl.length,.int .i64 0]) ∧ LxsAt w' (.slice (some ⟨g,0,none⟩) pl.length pl.length) wl) ∧ Below w.heap.size w w' := by
 have hk := (paE_ok h.e).1
 refine (lay_ok a (.slice none 0 0) [] r L pl lo fn w hA (RecAt.nil _ _) h.e (ck_len h.ck) (fun x hx => of_decide_eq_true (List.all_eq_true.1 h.wd x hx)) h.ck (fun W hW => items_26 hW hk h.h12 h.h14 h.it) h.few (pcs_of h.pc) hfn h67 hc).mono ?_
 rintro e w' ⟨⟨g,hg,rfl,hu⟩,hb⟩
 rw [h.ln] at hu
 exact ⟨⟨g,hg,rfl,hu⟩,hb⟩
theorem lay_fit {a : Pa} {r : Sl} {L : List It} {pl : List Pc} {wl : List Lx} (h : Exm a r L pl false wl) (h13 : a.p.p13 ≠ 1) (w : World) (hA : PaAt w a) :
  Calls Tryz.prog 60 #[.agg (paC a),.slice none 0 0,.agg #[.int .i64 r.x,.int .i64 r.w]] w fun e w' => (∃ g,w.heap.size ≤ g ∧ e = .returned (.tuple #[.slice (some ⟨g,0,none⟩) pl.length pl.length,.int .i64 0]) ∧ LxsAt w' (.slice (some ⟨g,0,none⟩) pl.length pl.length) wl) ∧ Below w.heap.size w w' :=
 lay_exm h w hA 108 (if_neg fun h' => h13 h'.1) (.inr rfl) fun w v u h1 h2 => by
  have := fits67 v u L _ _ h.ck (in_ck h.e) w h1 h2
  rwa [h.ps] at this
end Go.Proofs.YtaphggjakaghjaaGreatDoor

namespace Go.Proofs.YtaphggjakaghjaaGreatDoor
open Go.RowKit Go.Shelf

abbrev Pn (t : ByteArray) : Pa := cellPa t (.slice none 0 0)
theorem cm_w {t : ByteArray} (h : cellB t = true) {k : Nat} (hk : k < num t) : (0 ≤ (msI (Pn t) k).w ∧ (msI (Pn t) k).w ≤ 64) ∧ (msI (Pn t) k).k ∈ [1,2,3] := by
 have hG := good_of (cell_chk h (.slice none 0 0))
 have hs := num_lt hk
 have hf := hG.fok (i := k) hk
 have h1 := (cell_get h).2 _ hs
 have hkd := kind_vis h1
 have ht : (fc (Pn t) k).t = 0 := by
  show (spAt (cellSp t) (st t k : Nat)).t = 0
  rw [cell_sp t _ hs]
 refine ⟨?_,?_⟩
 ·show 0 ≤ wdI (fc (Pn t) k) (mkAt (Pn t) k) ∧ wdI (fc (Pn t) k) (mkAt (Pn t) k) ≤ 64
  unfold wdI
  have hkd' : (fc (Pn t) k).kd = 1 ∨ (fc (Pn t) k).kd = 2 ∨ (fc (Pn t) k).kd = 3 := hkd
  rw [if_pos hkd',ht,Int.add_zero]
  exact bw_rng (fc (Pn t) k).b hf.s.1 hf.s.2
 ·show kindI (bt t (st t k)) ∈ [1,2,3]
  rcases hkd with e | e | e <;> rw [e] <;> decide
structure Thin (t : ByteArray) (l : List Ms) : Prop where
 few : l.length ≤ 200
 w : ∀ k (h : k < l.length),0 ≤ l[k].w ∧ l[k].w ≤ 64
 q : ∀ k (h : k < l.length),l[k].q = 0
 kd : ∀ k (h : k < l.length),l[k].k ∈ [1,2,3]
 f0 : ∀ k (h : k < l.length),0 ≤ l[k].f ∧ l[k].f ≤ l[k].t
 up : ∀ i k (_ : i ≤ k) (h : k < l.length),l[i].f ≤ l[k].t
theorem cm_thin {t : ByteArray} (h : cellB t = true) : Thin t (cm t) := by
 have hn : (cm t).length = num t := cm_len t
 have hg : ∀ k (hk : k < (cm t).length),(cm t)[k] = msI (Pn t) k := fun k hk => mss_get _ hk
 have hup : ∀ i k,i ≤ k → st t i ≤ st t (k + 1) := fun i k hik => st_mono t (by omega)
 refine ⟨cm_few h,fun k hk => ?_,fun k hk => ?_,fun k hk => ?_,fun k hk => ?_,fun i k hik hk => ?_⟩
 ·rw [hg]; exact (cm_w h (by omega)).1
 ·rw [hg]; exact cm_q (by omega)
 ·rw [hg]; exact (cm_w h (by omega)).2
 ·rw [hg]
  show (0 : Int) ≤ (st t k : Nat) ∧ ((st t k : Nat) : Int) ≤ (st t (k + 1) : Nat)
  have := hup k k (Nat.le_refl _)
  omega
 ·rw [hg,hg]
  show ((st t i : Nat) : Int) ≤ (st t (k + 1) : Nat)
  have := hup i k hik
  omega
theorem run64 {l : List Ms} (hw : ∀ k (h : k < l.length),0 ≤ l[k].w ∧ l[k].w ≤ 64) (hq : ∀ k (h : k < l.length),l[k].q = 0) : ∀ n,n ≤ l.length → 0 ≤ runN l 0 n ∧ runN l 0 n ≤ 64 * (n : Int)
 | 0,_ => by simp [runN]
 | n + 1,hn => by
  have ih := run64 hw hq n (by omega)
  have hk : n < l.length := by omega
  have e : runN l 0 (n + 1) = runN l 0 n + (l.getD (0 + n) ms0).w + (if 0 < n then (l.getD (0 + n) ms0).q else 0) := rfl
  rw [Nat.zero_add,getD_is hk] at e
  have h1 := hw n hk
  have h2 := hq n hk
  rw [e,h2]
  split <;> omega
theorem nat64 {l : List Ms} (hw : ∀ k (h : k < l.length),0 ≤ l[k].w ∧ l[k].w ≤ 64) (hq : ∀ k (h : k < l.length),l[k].q = 0) (hn : l.length ≤ 200) : 0 ≤ natV l 0 l.length ∧ natV l 0 l.length ≤ 12800 := by
 unfold natV
 split
 ·have := run64 hw hq l.length (Nat.le_refl _)
  have e : runN l (0 : Int).toNat ((l.length : Int).toNat - (0 : Int).toNat) = runN l 0 l.length := by simp
  rw [e]; omega
 ·omega
theorem box_ok {t : ByteArray} {l : List Ms} (h : Thin t l) {a b : Nat} (hb : b ≤ l.length) : ∀ x ∈ bxL l a b,okP x := fun x hx => by
 unfold bxL at hx
 split at hx
 ·rename_i hab
  rw [List.mem_singleton] at hx
  subst hx
  have hl := run_len (l := l) (a := a) hb
  have hg : ∀ k (hk : k < (runL l a b).length),(runL l a b)[k] = l[a + k]'(by omega) := fun k hk => by
   have hk' : k < ((l.drop a).take (b - a)).length := hk
   have e : ((l.drop a).take (b - a))[k]'hk' = l[a + k]'(by omega) := by rw [List.getElem_take,List.getElem_drop]
   exact e
  have hw := nat64 (l := runL l a b) (fun k hk => by rw [hg]; exact h.w _ _) (fun k hk => by rw [hg]; exact h.q _ _) (by have := h.few; omega)
  have e0 : ((runL l a b).getD 0 ms0) = l[a]'(by omega) := by rw [getD_is (by omega),hg]; rfl
  have e1 : ((runL l a b).getD ((runL l a b).length - 1) ms0) = l[b - 1]'(by omega) := by
   rw [getD_is (by omega),hg]
   congr 1
   omega
  have hu := h.up a (b - 1) (by omega) (by omega)
  have hf := h.f0 a (by omega)
  unfold okP boxI
  rw [e0,e1]
  refine ⟨?_,hf.1,hu,?_,?_,?_,?_,.inl ?_,.inr ⟨rfl,rfl⟩,.inr ⟨rfl,rfl⟩⟩ <;> dsimp only <;> omega
 ·cases hx
theorem sm_ok {t : ByteArray} {l : List Ms} {pd : List Bool} (h : Thin t l) (hpd : ∀ i,pdAt pd i = false) {k : Nat} (hk : k < l.length) : ∀ x ∈ smL t l pd k,okP x := fun x hx => by
 have hm : mAt l k = l[k] := mAt_is hk
 have hw := h.w k hk
 have hf := h.f0 k hk
 have hkd := h.kd k hk
 have hfr := frN_le t l pd k
 unfold smL at hx
 rw [hm] at hx
 split at hx
 ·rename_i hal
  rw [List.mem_append] at hx
  rcases hx with hx | hx
  ·exact box_ok h (by omega) x hx
  ·rw [List.mem_singleton] at hx
   subst hx
   have h3 : l[k].k = 3 := by
    unfold alB at hal
    rw [decide_eq_true_eq] at hal
    simp only [List.mem_cons,List.not_mem_nil,or_false] at hkd
    omega
   unfold loneI
   rw [if_pos h3]
   unfold okP
   refine ⟨?_,hf.1,hf.2,?_,?_,?_,?_,.inl ?_,.inl rfl,.inr ⟨rfl,rfl⟩⟩ <;> dsimp only <;> omega
 ·split at hx
  ·rename_i hcu
   rw [List.mem_append] at hx
   rcases hx with hx | hx
   ·exact box_ok h (by omega) x hx
   ·rw [List.mem_singleton] at hx
    subst hx
    unfold cuB at hcu
    rw [hpd,Bool.false_or] at hcu
    unfold cutI
    rw [hpd,if_neg (by simp),if_pos hcu,hm]
    refine ⟨?_,hf.1,Int.le_refl _,?_,?_,?_,?_,.inl ?_,.inr ⟨rfl,rfl⟩,.inl rfl⟩ <;> dsimp only <;> omega
  ·cases hx
theorem ou_ok {t : ByteArray} {l : List Ms} {pd : List Bool} (h : Thin t l) (hpd : ∀ i,pdAt pd i = false) : ∀ k,k ≤ l.length → ∀ x ∈ ouL t l pd k,okP x
 | 0,_,x,hx => by cases hx
 | k + 1,hk,x,hx => by
  have hx' : x ∈ ouL t l pd k ++ smL t l pd k := hx
  rw [List.mem_append] at hx'
  rcases hx' with hx | hx
  ·exact ou_ok h hpd k (by omega) x hx
  ·exact sm_ok h hpd (by omega) x hx
def cellIt (t : ByteArray) : List It := itsL t (cm t) (List.replicate (cm t).length false)
theorem pd_none (n i : Nat) : pdAt (List.replicate n false) i = false := by
 unfold pdAt
 rw [List.getD_eq_getElem?_getD,List.getElem?_replicate]
 split <;> rfl
theorem cell_items (t : ByteArray) (sv : Value) : itemsOf (cellPa t sv) = cellIt t := by
 have hd : ¬ dropB (cellPa t sv) := fun h => by
  have h1 : (2 : Int) ≤ (0 : Int) := h.1
  omega
 unfold itemsOf pdOf bodyL
 rw [if_neg hd]
 rfl
theorem cell_few {t : ByteArray} (h : cellB t = true) : (cellIt t).length ≤ 401 := by
 have := its_few t (cm t) (List.replicate (cm t).length false)
 have := cm_few h
 unfold cellIt
 omega
theorem cell_okP {t : ByteArray} (h : cellB t = true) : ∀ x ∈ cellIt t,okP x := fun x hx => by
 unfold cellIt itsL at hx
 rw [List.mem_append] at hx
 rcases hx with hx | hx
 ·exact ou_ok (cm_thin h) (pd_none _) _ (Nat.le_refl _) x hx
 ·exact box_ok (cm_thin h) (Nat.le_refl _) x hx
theorem cell_ck {t : ByteArray} (h : cellB t = true) : ckL (cellIt t) = 0 :=
 ck_good (by have := cell_few h; omega) fun k hk => decide_eq_true (cell_okP h _ (List.getElem_mem hk))

structure PlOk (n a : Nat) (pl : List Pc) : Prop where
 pos : 0 < pl.length
 few : pl.length ≤ n - a + 1
 all : ∀ p ∈ pl,p.a ≤ p.b ∧ p.b ≤ n
 tl : ∀ p ∈ pl.tail,p.a < n
theorem lsA_ok {L : List It} {ss : List Sl} {r : Sl} : ∀ d a n,a ≤ L.length → L.length - a ≤ d → PlOk L.length a (lsA L ss r a n) := by
 intro d
 induction d with
 | zero =>
  intro a n ha hd
  obtain rfl : a = L.length := by omega
  have hp : lnP L L.length (slN ss r n) = pc0 L.length := lnP_end _ _
  have hb := bg_le (l := L) (i := L.length) (Nat.le_refl _)
  rw [lsA_end (by rw [hp]; show ¬ bgN L L.length < L.length; omega),hp]
  exact ⟨by simp,by simp,fun p hp => by rw [List.mem_singleton] at hp; subst hp; exact ⟨Nat.le_refl _,Nat.le_refl _⟩,fun p hp => by cases hp⟩
 | succ d ih =>
  intro a n ha hd
  have hl := lnP_le (l := L) (s := slN ss r n) ha
  have hla := lnP_a L a (slN ss r n)
  by_cases hb : bgN L (lnP L a (slN ss r n)).b < L.length
  ·have hgo := lsA_go (ss := ss) (r := r) (n := n) ha hb
   have hbg := bg_le (l := L) (i := (lnP L a (slN ss r n)).b) hl.2
   have hlt : a < L.length := by omega
   have hst := lnP_b (l := L) (s := slN ss r n) hlt
   have hi := ih (bgN L (lnP L a (slN ss r n)).b) (n + 1) (by omega) (by omega)
   rw [hgo]
   refine ⟨by simp,?_,fun p hp => ?_,fun p hp => ?_⟩
   ·rw [List.length_cons]
    have := hi.few
    omega
   ·rw [List.mem_cons] at hp
    rcases hp with rfl | hp
    ·exact ⟨by omega,hl.2⟩
    ·exact hi.all p hp
   ·have hp' : p ∈ lsA L ss r (bgN L (lnP L a (slN ss r n)).b) (n + 1) := hp
    cases he : lsA L ss r (bgN L (lnP L a (slN ss r n)).b) (n + 1) with
    | nil => rw [he] at hp'; cases hp'
    | cons q qs =>
     rw [he] at hp'
     rw [List.mem_cons] at hp'
     rcases hp' with rfl | hp'
     ·by_cases h2 : bgN L (lnP L (bgN L (lnP L a (slN ss r n)).b) (slN ss r (n + 1))).b < L.length
      ·rw [lsA_go (by omega) h2] at he
       have : p = lnP L (bgN L (lnP L a (slN ss r n)).b) (slN ss r (n + 1)) := (List.cons.inj he).1.symm
       rw [this,lnP_a]; exact hb
      ·rw [lsA_end h2] at he
       have : p = lnP L (bgN L (lnP L a (slN ss r n)).b) (slN ss r (n + 1)) := (List.cons.inj he).1.symm
       rw [this,lnP_a]; exact hb
     ·exact hi.tl p (by rw [he]; exact hp')
  ·rw [lsA_end hb]
   exact ⟨by simp,by simp,fun p hp => by rw [List.mem_singleton] at hp; subst hp; exact ⟨by omega,hl.2⟩,fun p hp => by cases hp⟩
theorem lsL_ok (L : List It) (ss : List Sl) (r : Sl) : PlOk L.length 0 (lsL L ss r) := by
 have h : sk L 0 ≤ L.length := (sk_le (l := L) _ _ (Nat.zero_le _)).2
 have := lsA_ok (L := L) (ss := ss) (r := r) (L.length - sk L 0) (sk L 0) 0 h (Nat.le_refl _)
 exact ⟨this.pos,by have := this.few; show (lsA L ss r (sk L 0) 0).length ≤ _; omega,this.all,this.tl⟩
theorem PlOk.pcs {n : Nat} {pl : List Pc} (h : PlOk n 0 pl) : pcsB pl n = true := by
 unfold pcsB
 rw [Bool.and_eq_true,List.all_eq_true,List.all_eq_true]
 exact ⟨fun p hp => decide_eq_true (h.all p hp),fun p hp => decide_eq_true (h.tl p hp)⟩

theorem tk_none {m d n : Int} {s : Sl} (h : okS s = true) : tkI ⟨0,0,0,0,0,d,m⟩ n s 5 = s := by
 obtain ⟨⟨h1,h2⟩,h3,h4⟩ := okS_rng h
 have hL : ∀ k n,tkL 0 k n s = s := fun k n => by
  unfold tkL
  split
  ·rfl
  ·have e1 : min (s.x + 0) 4095 = s.x := by omega
   have e2 : max (s.w - 0) 0 = s.w := by omega
   rw [e1,e2]
 have hR : tkR 0 s = s := by
  unfold tkR
  have e2 : max (s.w - 0) 0 = s.w := by omega
  rw [e2]
 show tkF _ n 4 (tkF _ n 3 (tkF _ n 2 (tkF _ n 1 (tkF _ n 0 s)))) = s
 show tkR 0 (tkL 0 d n (tkL 0 1 n (tkL 0 1 n (tkL 0 m n s)))) = s
 rw [hL,hL,hL,hL,hR]
theorem cell_dr (t : ByteArray) (sv : Value) : drV (cellPa t sv) = 0 := by
 have h : capB (cellPa t sv) (num t) (msI (cellPa t sv) 0).k = false := by
  unfold capB
  rw [decide_eq_false (show ¬ (2 : Int) ≤ (cellPa t sv).p.p14 from by show ¬ (2 : Int) ≤ 0; omega)]; rfl
 have h' : capB (cellPa t sv) (num (cellPa t sv).t) (msI (cellPa t sv) 0).k = false := h
 unfold drV
 rw [if_neg (by rw [h']; simp)]
theorem cell_tk (t : ByteArray) (sv : Value) : tkP (cellPa t sv) = ⟨0,0,0,0,0,0,9223372036854775807⟩ := by
 unfold tkP
 rw [cell_dr]; rfl
theorem cell_in (t : ByteArray) (sv : Value) {r : Sl} (h : okS r = true) : inSs (cellPa t sv) [] r = [r] ∧ inR (cellPa t sv) [] r = r := by
 have hn : inN (cellPa t sv) [] = 1 := rfl
 refine ⟨?_,?_⟩
 ·unfold inSs inL'
  rw [hn,cell_tk]
  show [tkI ⟨0,0,0,0,0,0,9223372036854775807⟩ (0 : Nat) (slN [] r 0) 5] = [r]
  rw [slN_out (Nat.zero_le _),tk_none h]
 ·unfold inR
  rw [cell_tk,tk_none h]
def cellPl (t : ByteArray) (r : Sl) : List Pc := lsL (cellIt t) [r] r
def cellLs (t : ByteArray) (r : Sl) : List Lx := glL (lyY (Pn t) (cellIt t) [r] r (cellPl t r) false) (cellPl t r).length
theorem cell_exm {t : ByteArray} (h : cellB t = true) {r : Sl} (hr : okS r = true) (sv : Value) : Exm (cellPa t sv) r (cellIt t) (cellPl t r) false (cellLs t r) where
 e := by
  unfold paE
  rw [if_neg (by rw [cell_chk h]; simp)]
  unfold ckS
  rw [if_neg (by simp),if_pos ⟨hr,rfl⟩]
 h12 := by show (0 : Int) ≠ 1; decide
 h14 := by show ¬ (2 : Int) ≤ 0; decide
 it := cell_items t sv
 wd := List.all_eq_true.2 fun x hx => decide_eq_true (by
  have := (cell_okP h x hx).2.2.2.1
  omega)
 ck := cell_ck h
 ps := by rw [(cell_in t sv hr).1,(cell_in t sv hr).2]; rfl
 few := by have := (lsL_ok (cellIt t) [r] r).few; have := cell_few h; show (lsL (cellIt t) [r] r).length ≤ 9000; omega
 pc := (lsL_ok (cellIt t) [r] r).pcs
 ln := by rw [(cell_in t sv hr).1,(cell_in t sv hr).2]; rfl
structure CLs (t : ByteArray) (r : Sl) (ls : List Lx) : Prop where
 pos : 0 < ls.length
 few : ls.length ≤ 402
 f : ∀ k (h : k < ls.length),ls[k].f = if h0 : k = 0 then 0 else (ls[k - 1]'(by omega)).t
 t : ∀ _h : 0 < ls.length,(ls[ls.length - 1]'(by omega)).t = t.size
 x : ∀ k (h : k < ls.length),ls[k].x = r.x
theorem lyY_t (a : Pa) (L : List It) (iS : List Sl) (iR : Sl) (pl : List Pc) (lo : Bool) (k : Nat) : (lyY a L iS iR pl lo k).t = edI a L (pl.drop (k + 1)) := rfl
theorem lyY_f (a : Pa) (L : List It) (iS : List Sl) (iR : Sl) (pl : List Pc) (lo : Bool) (k : Nat) : (lyY a L iS iR pl lo k).f = frI a L pl k := rfl
theorem lyY_x (a : Pa) (L : List It) (iS : List Sl) (iR : Sl) (pl : List Pc) (lo : Bool) (k : Nat) : (lyY a L iS iR pl lo k).x = (slN iS iR k).x := rfl
theorem edI_nil (a : Pa) (L : List It) : edI a L [] = a.t.size := rfl
theorem Pn_t (t : ByteArray) : (Pn t).t = t := rfl
theorem cell_ls {t : ByteArray} (h : cellB t = true) (r : Sl) : CLs t r (cellLs t r) := by
 have hp := lsL_ok (cellIt t) [r] r
 have hf := cell_few h
 have hlen : (cellLs t r).length = (cellPl t r).length := glL_len
 have hlen2 : (cellPl t r).length = (lsL (cellIt t) [r] r).length := rfl
 have hg : ∀ k (hk : k < (cellLs t r).length),(cellLs t r)[k] = lyY (Pn t) (cellIt t) [r] r (cellPl t r) false k := fun k hk => by simp [cellLs,glL]
 refine ⟨by have := hp.pos; omega,by have := hp.few; omega,fun k hk => ?_,fun h0 => ?_,fun k hk => ?_⟩
 ·rw [hg,lyY_f]
  unfold frI
  split
  ·rfl
  ·rw [hg,lyY_t]
   rw [show k - 1 + 1 = k by omega]
 ·rw [hg,lyY_t,show (cellLs t r).length - 1 + 1 = (cellPl t r).length by omega,List.drop_length,edI_nil,Pn_t]
 ·rw [hg,lyY_x]
  by_cases h0 : k = 0
  ·subst h0; rfl
  ·rw [slN_out (by simp; omega)]
end Go.Proofs.YtaphggjakaghjaaGreatDoor

namespace Go.Proofs.YtaphggjakaghjaaGreatDoor
open Go.RowKit Go.Shelf
set_option maxRecDepth 100000
set_option maxHeartbeats 1000000

structure Cel where
 x : Int
 w : Int
 v : Value
 ls : List Lx
def ceL (c : Cel) : List Value := [.int .i64 c.x,.int .i64 c.w,c.v]
theorem ceL_len (c : Cel) : (ceL c).length = 3 := rfl
theorem info46 (x w : Int) (v : Value) : (Tryz.prog.info? 46).map (·.size) = some (#[.int .i64 x,.int .i64 w,v] : Array Value).size := by show _ = some 3; kernel_rfl
def LcEnd (t : ByteArray) (r : Sl) (w : World) (e : Ending) (w' : World) : Prop := (∃ g,w.heap.size ≤ g ∧ e = .returned (.tuple #[.slice (some ⟨g,0,none⟩) (cellLs t r).length (cellLs t r).length,.int .i64 0]) ∧ LxsAt w' (.slice (some ⟨g,0,none⟩) (cellLs t r).length (cellLs t r).length) (cellLs t r)) ∧ Below w.heap.size w w'
theorem lay_cell {t : ByteArray} (h : cellB t = true) {r : Sl} (hr : okS r = true) (sv : Value) (w : World) (hA : PaAt w (cellPa t sv)) : Calls Tryz.prog 60 #[paV (cellPa t sv),.slice none 0 0,.agg #[.int .i64 r.x,.int .i64 r.w]] w (LcEnd t r w) := by
 refine (lay_fit (cell_exm h hr sv) (by show ¬ (0 : Int) = 1; omega) w hA).mono ?_
 rintro e w' ⟨⟨g,hg,rfl,hu⟩,hb⟩
 have e1 : (cellPl t r).length = (cellLs t r).length := glL_len.symm
 rw [e1] at hu ⊢
 exact ⟨⟨g,hg,rfl,hu⟩,hb⟩
def opc59 (ps : String) : Array Oper := #[⟨some 9,.move (.tmp 0),9,ps,#[],none⟩,⟨some 10,.call ⟨.value (.func 61),#[.tmp 9],#[9]⟩,95,ps,#[⟨0,.data⟩],none⟩,⟨some 11,.load 98 (.tmp 1),98,ps,#[],none⟩,⟨some 12,.call ⟨.value (.func 60),#[.tmp 10,.const (.slice none 0 0),.tmp 11],#[95,109,98]⟩,89,ps,#[⟨1,.data⟩,⟨2,.data⟩,⟨1,.chain⟩],none⟩,⟨some 8,.move (.tmp 12),89,ps,#[⟨3,.data⟩],none⟩,⟨some 13,.extract (.tmp 8) 0,44,ps,#[⟨4,.data⟩],none⟩,⟨some 14,.extract (.tmp 8) 1,28,ps,#[⟨4,.data⟩,⟨7,.gcOnly .lateStores⟩],none⟩,⟨some 6,.assign (.tmp 13),44,ps,#[⟨5,.data⟩,⟨3,.chain⟩,⟨0,.phase⟩,⟨1,.phase⟩,⟨2,.phase⟩,⟨3,.phase⟩,⟨4,.phase⟩,⟨5,.phase⟩,⟨6,.textOnly .lateStores⟩],none⟩,⟨some 7,.assign (.tmp 14),28,ps,#[⟨6,.data⟩,⟨7,.chain⟩,⟨0,.phase⟩,⟨1,.phase⟩,⟨2,.phase⟩,⟨3,.phase⟩,⟨4,.phase⟩,⟨5,.phase⟩,⟨6,.phase⟩,⟨7,.phase⟩],none⟩]

theorem cc_r1 (Q : Exit → Act → World → Prop) (hQ : ∀ c x (n : Nat) v w,Q (.panic c) (x.put (some n) v) w → Q (.panic c) x w) (id : Nat) (ps : String) (t : ByteArray) (ht : cellB t = true) (r : Sl) (hr : okS r = true) (g5 : Nat) (v2 v3 v4 v5 v15 v16 v17 v18 : Value) (W : World)
  (h5 : W.heap[g5]? = some (.cells (slL r).toArray 98 (0,0)))
  (hK : ∀ g W' v6 v8 v9 v10 v12 v13,W.heap.size ≤ g → LxsAt W' (.slice (some ⟨g,0,none⟩) (cellLs t r).length (cellLs t r).length) (cellLs t r) → Below W.heap.size W W' → v6 = .slice (some ⟨g,0,none⟩) (cellLs t r).length (cellLs t r).length → Q .normal { tmps := #[.string t,.pointer (some ⟨g5,0,none⟩),v2,v3,v4,v5,v6,.int .i64 0,v8,v9,v10,.agg #[.int .i64 r.x,.int .i64 r.w],v12,v13,.int .i64 0,v15,v16,v17,v18],defers := [] } W') :
  (Code.region id (opc59 ps) true).wp Tryz.prog Q { tmps := #[.string t,.pointer (some ⟨g5,0,none⟩),v2,v3,v4,v5,undef,undef,undef,undef,undef,undef,undef,undef,undef,v15,v16,v17,v18],defers := [] } W := by
 have hS : (fun w => w.heap[g5]? = some (.cells (slL r).toArray 98 (0,0)) ∧ Below W.heap.size W w) W.drew := ⟨h5,below_drew W⟩
 have hsz : W.drew.heap.size = W.heap.size := rfl
 refine wp_region_held (S := fun w => w.heap[g5]? = some (.cells (slL r).toArray 98 (0,0)) ∧ Below W.heap.size W w) (by kernel_rfl) ?_
 change wpAnyH _ _ _ _ _ 9 _ _ (World.drew W)
 have hl5 := (Array.getElem?_eq_some_iff.1 h5).1
 generalize W.drew = V at hS hsz ⊢
 unfold opc59
 refine wpAnyH_take (i := 0) (v := .string t) rfl (by kernel_rfl) (by kernel_rfl) (by kernel_rfl) (fun c x w => hQ c x _ _ w) (Or.inl ⟨by rfl,?y0⟩) hS ?_
 case y0 => (intro w' hw'; go_simp)
 go_simp
 refine wpAnyH_take (i := 2) (v := .agg #[.int .i64 r.x,.int .i64 r.w]) rfl (by kernel_rfl) (by kernel_rfl) (by kernel_rfl) (fun c x w => hQ c x _ _ w) (Or.inl ⟨by rfl,?y2⟩) hS ?_
 case y2 => (intro w' hw'; have c0 : w'.cell? ⟨g5,0,none⟩ = some (.int .i64 r.x) := (Lib.cell_of_heap hw'.1 _).trans rfl; have c1 : w'.cell? ⟨g5,1,none⟩ = some (.int .i64 r.w) := (Lib.cell_of_heap hw'.1 _).trans rfl; go_simp)
 go_simp
 refine want_h (i := 1) (by kernel_rfl) rfl (by kernel_rfl) fun K hK' => ?_
 go_simp
 refine (cell_any t (by have := (cell_get ht).1; omega) _).mono ?_
 rintro e w1 ⟨sv,rfl,hp1,hb1⟩
 have hsV := hS.2.size
 have hB1 := hS.2.trans (hb1.mono hsV)
 have hS1 : w1.heap[g5]? = some (.cells (slL r).toArray 98 (0,0)) ∧ Below W.heap.size W w1 := ⟨(hb1.block g5 (by omega)).trans hS.1,hB1⟩
 refine hK' _ _ hS1 ?_
 clear hK' K hS hb1
 go_simp
 refine want_h (i := 3) (by kernel_rfl) rfl (by kernel_rfl) fun K hK' => ?_
 go_simp
 refine (lay_cell ht hr sv w1 hp1).mono ?_
 rintro e w2 ⟨⟨g,hg,rfl,hu⟩,hb2⟩
 have hB2 := hB1.trans (hb2.mono hB1.size)
 have hS2 : w2.heap[g5]? = some (.cells (slL r).toArray 98 (0,0)) ∧ Below W.heap.size W w2 := ⟨(hb2.block g5 (by have := hB1.size; omega)).trans hS1.1,hB2⟩
 refine hK' _ _ hS2 ?_
 have hg2 : W.heap.size ≤ g := Nat.le_trans hB1.size hg
 clear hK' K hS1 hb2 hB1
 have hQ1 := fun v6 v8 v9 v10 v12 v13 => hK g w2 v6 v8 v9 v10 v12 v13 hg2 hu hB2
 clear hu hB2 hK
 generalize (cellLs t r).length = n at *
 go_simp
 refine wpAnyH_take (i := 4) (v := .tuple #[.slice (some ⟨g,0,none⟩) n n,.int .i64 0]) rfl (by kernel_rfl) (by kernel_rfl) (by kernel_rfl) (fun c x w => hQ c x _ _ w) (Or.inl ⟨by rfl,?y4⟩) hS2 ?_
 case y4 => (intro w' hw'; go_simp)
 go_simp
 refine wpAnyH_take (i := 5) (v := .slice (some ⟨g,0,none⟩) n n) rfl (by kernel_rfl) (by kernel_rfl) (by kernel_rfl) (fun c x w => hQ c x _ _ w) (Or.inl ⟨by rfl,?y5⟩) hS2 ?_
 case y5 => (intro w' hw'; go_simp)
 go_simp
 refine wpAnyH_take (i := 6) (v := .int .i64 0) rfl (by kernel_rfl) (by kernel_rfl) (by kernel_rfl) (fun c x w => hQ c x _ _ w) (Or.inl ⟨by rfl,?y6⟩) hS2 ?_
 case y6 => (intro w' hw'; go_simp)
 go_simp
 refine wpAnyH_take (i := 7) (v := .slice (some ⟨g,0,none⟩) n n) rfl (by kernel_rfl) (by kernel_rfl) (by kernel_rfl) (fun c x w => hQ c x _ _ w) (Or.inl ⟨by rfl,?y7⟩) hS2 ?_
 case y7 => (intro w' hw'; go_simp)
 go_simp
 refine wpAnyH_take (i := 8) (v := .int .i64 0) rfl (by kernel_rfl) (by kernel_rfl) (by kernel_rfl) (fun c x w => hQ c x _ _ w) (Or.inl ⟨by rfl,?y8⟩) hS2 ?_
 case y8 => (intro w' hw'; go_simp)
 go_simp
 exact wpAnyH_done (by kernel_rfl) (hQ1 _ _ _ _ _ _ rfl) _
def CcEnd (t : ByteArray) (x c : Int) (w : World) (e : Ending) (w' : World) : Prop := (∃ g,w.heap.size ≤ g ∧ e = .returned (.agg #[.int .i64 x,.int .i64 c,.slice (some ⟨g,0,none⟩) (cellLs t (roS x c)).length (cellLs t (roS x c)).length]) ∧ LxsAt w' (.slice (some ⟨g,0,none⟩) (cellLs t (roS x c)).length (cellLs t (roS x c)).length) (cellLs t (roS x c))) ∧ Below w.heap.size w w'
end Go.Proofs.YtaphggjakaghjaaGreatDoor

namespace Go.Proofs.YtaphggjakaghjaaGreatDoor
open Go.RowKit Go.Shelf
set_option maxRecDepth 100000
set_option maxHeartbeats 4000000

theorem one46 (x c : Int) (a : Option Addr) (n m : Nat) : (#[.int .i64 x,.int .i64 c,.slice a n m] : Array Value).all (·.oneCell') = true := by simp [Value.oneCell']
theorem cc_any (t : ByteArray) (ht : cellB t = true) (x c : Int) (hr : okS (roS x c) = true) (g5 g2 g3 : Nat) (w : World) (h5 : w.heap[g5]? = some (.cells (slL (roS x c)).toArray 98 (0,0))) (h2 : w.heap[g2]? = some (.cells #[.int .i64 x] 3 (0,0))) (h3 : w.heap[g3]? = some (.cells #[.int .i64 c] 3 (0,0))) :
  Calls Tryz.prog 59 #[.string t,.pointer (some ⟨g5,0,none⟩),.pointer (some ⟨g2,0,none⟩),.pointer (some ⟨g3,0,none⟩)] w (CcEnd t x c w) := by
 have l5 := (Array.getElem?_eq_some_iff.1 h5).1
 have l2 := (Array.getElem?_eq_some_iff.1 h2).1
 have l3 := (Array.getElem?_eq_some_iff.1 h3).1
 have hend : Hid (∀ g W,w.heap.size ≤ g → LxsAt W (.slice (some ⟨g,0,none⟩) (cellLs t (roS x c)).length (cellLs t (roS x c)).length) (cellLs t (roS x c)) → Below w.heap.size w W → CcEnd t x c w (.returned (.agg #[.int .i64 x,.int .i64 c,.slice (some ⟨g,0,none⟩) (cellLs t (roS x c)).length (cellLs t (roS x c)).length])) W) := fun g W h1 h2 h3 => ⟨⟨g,h1,rfl,h2⟩,h3⟩
 generalize CcEnd t x c w = E at *
 generalize roS x c = r at *
 have hB0 := (Below.refl w.heap.size w).alloc (Nat.le_refl _) (.cells #[.int .i64 0,.int .i64 0,.slice none 0 0] 46)
 have k0 : (w.alloc (.cells #[.int .i64 0,.int .i64 0,.slice none 0 0] 46)).heap[w.heap.size]? = some (.cells #[.int .i64 0,.int .i64 0,.slice none 0 0] 46 (0,0)) := World.alloc_heap_new w _
 have k5 := (hB0.block g5 l5).trans h5
 have k2 := (hB0.block g2 l2).trans h2
 have k3 := (hB0.block g3 l3).trans h3
 generalize hw1 : w.alloc (.cells #[.int .i64 0,.int .i64 0,.slice none 0 0] 46) = w1 at *
 have hs1 : w1.heap.size = w.heap.size + 1 := by rw [← hw1]; exact World.size_alloc _ _
 have hw1' : Hid (w.alloc (.cells #[.int .i64 0,.int .i64 0,.slice none 0 0] 46) = w1) := hw1
 have hB0h : Hid (Below w.heap.size w w1) := hB0
 have hkh : Hid (w1.heap[w.heap.size]? = some (.cells #[.int .i64 0,.int .i64 0,.slice none 0 0] 46 (0,0)) ∧ w1.heap[g2]? = some (.cells #[.int .i64 x] 3 (0,0)) ∧ w1.heap[g3]? = some (.cells #[.int .i64 c] 3 (0,0))) := ⟨k0,k2,k3⟩
 have hth : Hid (cellB t = true ∧ okS r = true) := ⟨ht,hr⟩
 clear hw1 h5 h2 h3 k0 k2 k3 hB0 ht hr
 go_enter Tryz.func59,Tryz.ntmps59
 go_wp2_with fail
 rw [hw1'.out]
 refine cc_r1 _ (fun _ _ _ _ _ h => h) _ _ t hth.out.1 r hth.out.2 g5 _ _ _ _ _ _ _ _ w1 k5 ?_
 intro g W' v6 v8 v9 v10 v12 v13 hg hu hb hv6
 subst hv6
 obtain ⟨q0,q2,q3⟩ := hkh.out
 have j0 := (hb.block w.heap.size (by omega)).trans q0
 have j2 := (hb.block g2 (by omega)).trans q2
 have j3 := (hb.block g3 (by omega)).trans q3
 have d2 : W'.cell? ⟨g2,0,none⟩ = some (.int .i64 x) := (Lib.cell_of_heap j2 _).trans rfl
 have d3 : W'.cell? ⟨g3,0,none⟩ = some (.int .i64 c) := (Lib.cell_of_heap j3 _).trans rfl
 have hB := hB0h.out.trans (hb.mono hB0h.out.size)
 have hT := Turns.setRow (X := fun j => j = w.heap.size) W' (r := w.heap.size) rfl (#[.int .i64 x,.int .i64 c,.slice (some ⟨g,0,none⟩) (cellLs t r).length (cellLs t r).length] : Array Value)
 have hU := rec_turns hu hT (by show ¬ g = w.heap.size; omega)
 have hBB := hB.trans (hT.below hB.size (fun j hj => by omega))
 have hgw : w.heap.size ≤ g := by omega
 have hfin : Hid (E _ _) := hend.out g _ hgw hU hBB
 have jn := setRow_heap W' w.heap.size _ (#[.int .i64 x,.int .i64 c,.slice (some ⟨g,0,none⟩) (cellLs t r).length (cellLs t r).length] : Array Value) _ _ j0
 clear hu hU hBB hB hT hend hkh q0 q2 q3 j2 j3 hb
 generalize (cellLs t r).length = n at *
 go_wp2_with (refine wpList_store_row rfl 46 _ _ rfl w.heap.size (#[.int .i64 x,.int .i64 c,.slice (some ⟨g,0,none⟩) n n] : Array Value) rfl rfl 46 _ j0 (info46 _ _ _) rfl (one46 _ _ _ _ _) ?_)
 exact bodyPost_ret (results_cell_row rfl _ _ w.heap.size 46 _ (0,0) _ rfl jn Tryz.underlying46 rfl (info46 _ _ _)) rfl hfin.out
end Go.Proofs.YtaphggjakaghjaaGreatDoor

namespace Go.Proofs.YtaphggjakaghjaaGreatDoor
open Go.RowKit Go.Shelf

structure CeAt (lo : Nat) (W : World) (c : Cel) : Prop where
 ex : ∃ g,lo ≤ g ∧ c.v = .slice (some ⟨g,0,none⟩) c.ls.length c.ls.length ∧ LxsAt W (.slice (some ⟨g,0,none⟩) c.ls.length c.ls.length) c.ls
theorem CeAt.turns {lo : Nat} {W W' : World} {X : Nat → Prop} {c : Cel} (h : CeAt lo W c) (ht : Turns X W W') (hX : ∀ k,lo ≤ k → ¬ X k) : CeAt lo W' c := by
 obtain ⟨g,hg,hv,hl⟩ := h.ex
 exact ⟨g,hg,hv,rec_turns hl ht (hX g hg)⟩
theorem CeAt.below {lo : Nat} {W W' : World} {c : Cel} (h : CeAt lo W c) {n : Nat} (hb : Below n W W') (hn : W.heap.size ≤ n) : CeAt lo W' c := by
 obtain ⟨g,hg,hv,hl⟩ := h.ex
 exact ⟨g,hg,hv,hl.below hb hn⟩
theorem CeAt.lo {lo lo' : Nat} {W : World} {c : Cel} (h : CeAt lo W c) (hl : lo' ≤ lo) : CeAt lo' W c := by
 obtain ⟨g,hg,hv,h'⟩ := h.ex
 exact ⟨g,by omega,hv,h'⟩
def ce0 : Cel := ⟨0,0,.slice none 0 0,[]⟩
theorem info46z : ∃ i z,Tryz.prog.info? 46 = some i ∧ i.zero = some z ∧ i.size = 3 ∧ i.bytes = 40 ∧ z = .agg (ceL ce0).toArray := by
 have h : (Tryz.prog.info? 46).map (fun i => (i.zero,i.size,i.bytes)) = some (some (.agg (ceL ce0).toArray),3,40) := by kernel_rfl
 cases hi : Tryz.prog.info? 46 with
 | none => rw [hi] at h; cases h
 | some i =>
  rw [hi] at h
  simp only [Option.map_some,Option.some.injEq,Prod.mk.injEq] at h
  obtain ⟨h1,h2,h3⟩ := h
  exact ⟨i,_,rfl,h1,h2,h3,rfl⟩
def noCes (n : Nat) : List Value := (List.replicate n ce0).flatMap ceL
theorem make37 {n : Nat} (h : n ≤ 400) (W : World) : (Instr.makeSlice 37 (.int .i64 (n : Int)) (.int .i64 (n : Int))).run Tryz.prog W = .ok (.slice (some ⟨W.heap.size,0,none⟩) n n) (W.alloc (.cells (noCes n).toArray 46)) := by
 obtain ⟨i9,z,hi,hz0,hz1,hz2,rfl⟩ := info46z
 have := run_makeSlice (P := Tryz.prog) (w := W) 37 46 i9 _ Tryz.underlying37 hi hz0 .i64 .i64 n n (by omega) (by omega) (by rw [hz1]; omega) (by rw [hz2]; omega) (by omega)
 rw [hz1,Int.toNat_natCast] at this
 unfold noCes
 rw [← made_rec ceL_len (by omega)]
 exact this
theorem made37 (W : World) (n : Nat) : RB 3 ceL (W.alloc (.cells (noCes n).toArray 46)) W.heap.size (List.replicate n ce0) :=
 RB.of_row (World.alloc_heap_new W _) fun i hi j v hv => by
  have hj : j < 3 := by have := (List.getElem?_eq_some_iff.1 hv).1; rw [ceL_len] at this; exact this
  have := fm_get ceL_len (List.replicate n ce0) hi j hj
  rw [hv] at this
  show (noCes n).toArray[i * 3 + j]? = _
  unfold noCes
  simpa using this

def ceI (ws : List Int) (ts : List ByteArray) (i : Nat) : List Lx := cellLs (ts.getD i ⟨#[]⟩) (roS (smI ws i) (ws.getD i 0))
def mxN (ws : List Int) (ts : List ByteArray) : Nat → Nat
 | 0 => 0
 | k + 1 => max (mxN ws ts k) (ceI ws ts k).length
structure CeIs (ws : List Int) (ts : List ByteArray) (i : Nat) (c : Cel) : Prop where
 x : c.x = smI ws i
 w : c.w = ws.getD i 0
 ls : c.ls = ceI ws ts i
structure RcI (lo : Nat) (w : World) (T : Nat) (ws : List Int) (ts : List ByteArray) (n k : Nat) (W : World) : Prop where
 low : Below w.heap.size w W
 ex : ∃ d : List Cel,d.length = k ∧ RB 3 ceL W T (d ++ List.replicate (n - d.length) ce0) ∧ ∀ i (h : i < d.length),CeIs ws ts i d[i] ∧ CeAt lo W d[i]
theorem RcI.start (w w1 : World) (ws : List Int) (ts : List ByteArray) (n : Nat) (h : Below w.heap.size w w1) : RcI (w1.heap.size + 1) w w1.heap.size ws ts n 0 (w1.alloc (.cells (noCes n).toArray 46)) :=
 ⟨h.alloc h.size _,[],rfl,made37 w1 n,fun i hi => by simp at hi⟩
theorem RcI.next {lo : Nat} {w : World} {T : Nat} {ws : List Int} {ts : List ByteArray} {n k : Nat} {W : World} (h : RcI lo w T ws ts n k W) {W2 : World} (hb : Below W.heap.size W W2) : RcI lo w T ws ts n k W2 := by
 obtain ⟨d,hd,hr,hc⟩ := h.ex
 exact ⟨h.low.trans (hb.mono h.low.size),d,hd,hr.below hb hr.lt,fun i hi => ⟨(hc i hi).1,(hc i hi).2.below hb (Nat.le_refl _)⟩⟩
theorem RcI.step {lo : Nat} {w : World} {T : Nat} {ws : List Int} {ts : List ByteArray} {n k : Nat} {W : World} (h : RcI lo w T ws ts n k W) (hk : k < n) (hT : w.heap.size ≤ T) (hTl : T < lo) :
  W.there T (k * 3) 3 ∧ ∀ c : Cel,CeIs ws ts k c → CeAt lo W c → RcI lo w T ws ts n (k + 1) (W.setCells T (k * 3) (ceL c)) ∧ (W.setCells T (k * 3) (ceL c)).cell? ⟨T,k * 3 + 2,none⟩ = some c.v := by
 obtain ⟨d,rfl,hr,hc⟩ := h.ex
 obtain ⟨hk1,_⟩ := fill_get d ce0 hk
 refine ⟨hr.there ceL_len hk1,fun c hi ha => ?_⟩
 have hs := hr.set ceL_len hk1 c
 have ht := turns_setCells (X := fun j => j = T) rfl (ceL c) (d.length * 3) W
 have hset := fill_set d ce0 c hk
 have hcell : (W.setCells T (d.length * 3) (ceL c)).cell? ⟨T,d.length * 3 + 2,none⟩ = some c.v := by
  have h1 := (hs.all d.length (by rw [List.length_set]; exact hk1) 2 c.v (by rw [List.getElem_set_self]; rfl)).1
  exact h1
 rw [hset] at hs
 refine ⟨⟨h.low.trans (ht.below h.low.size (fun j hj => by omega)),d ++ [c],by simp,hs,fun i hi' => ?_⟩,hcell⟩
 by_cases e : i = d.length
 ·subst e
  have e2 : (d ++ [c])[d.length]'hi' = c := by rw [List.getElem_append_right (Nat.le_refl _)]; simp
  rw [e2]
  exact ⟨hi,ha.turns ht (fun j hj => by omega)⟩
 ·have hlt : i < d.length := by rw [List.length_append] at hi'; simp at hi'; omega
  have e2 : (d ++ [c])[i]'hi' = d[i] := List.getElem_append_left hlt
  rw [e2]
  exact ⟨(hc i hlt).1,(hc i hlt).2.turns ht (fun j hj => by omega)⟩

structure Rw where
 h : Int
 sv : Value
 sp : List Int
 cv : Value
 cs : List Cel
def rwL (r : Rw) : List Value := [.int .i64 r.h,r.sv,r.cv]
theorem rwL_len (r : Rw) : (rwL r).length = 3 := rfl
structure RwAt (lo : Nat) (W : World) (r : Rw) : Prop where
 sp : W.ownsRow lo 3 1 r.sv r.sp.length (r.sp.flatMap inL)
 cv : ∃ T,lo ≤ T ∧ r.cv = .slice (some ⟨T,0,none⟩) r.cs.length r.cs.length ∧ RB 3 ceL W T r.cs
 cs : ∀ c ∈ r.cs,CeAt lo W c
theorem RwAt.turns {lo : Nat} {W W' : World} {X : Nat → Prop} {r : Rw} (h : RwAt lo W r) (ht : Turns X W W') (hX : ∀ k,lo ≤ k → ¬ X k) : RwAt lo W' r := by
 obtain ⟨T,hT,hv,hr⟩ := h.cv
 exact ⟨ownsRow_turns h.sp ht (fun g hg => hX g (h.sp.lt g hg).1),⟨T,hT,hv,hr.turns ht (hX T hT)⟩,fun c hc => (h.cs c hc).turns ht hX⟩
theorem RwAt.below {lo : Nat} {W W' : World} {r : Rw} (h : RwAt lo W r) (hb : Below W.heap.size W W') : RwAt lo W' r := by
 obtain ⟨T,hT,hv,hr⟩ := h.cv
 exact ⟨ownsRow_below h.sp hb,⟨T,hT,hv,hr.below hb hr.lt⟩,fun c hc => (h.cs c hc).below hb (Nat.le_refl _)⟩
theorem RwAt.lo {lo lo' : Nat} {W : World} {r : Rw} (h : RwAt lo W r) (hl : lo' ≤ lo) : RwAt lo' W r := by
 obtain ⟨T,hT,hv,hr⟩ := h.cv
 exact ⟨ownsRow_base h.sp hl,⟨T,by omega,hv,hr⟩,fun c hc => (h.cs c hc).lo hl⟩
structure RwIs (ws : List Int) (ts : List ByteArray) (r : Rw) : Prop where
 h : r.h = 10 * (mxN ws ts ts.length : Nat) + 4
 sp : r.sp = spI (mxN ws ts ts.length - 1)
 n : r.cs.length = ts.length
 cs : ∀ i (h : i < r.cs.length),CeIs ws ts i r.cs[i]
def RwEnd (ws : List Int) (ts : List ByteArray) (w : World) (e : Ending) (w' : World) : Prop := (∃ r,e = .returned (.agg (rwL r).toArray) ∧ RwAt w.heap.size w' r ∧ RwIs ws ts r) ∧ Below w.heap.size w w'
theorem SdI.col {lo : Nat} {z : World} {T : Nat} {ws : List Int} {W : World} (h : SdI lo z T ws ws.length W) {k : Nat} (hk : k < ws.length) {W2 : World} (hb : Below W.heap.size W W2) :
  ∃ g5 g2 g3 : Nat,W2.cell? ⟨T,k,none⟩ = some (.func (.func 59) #[] #[.pointer (some ⟨g5,0,none⟩),.pointer (some ⟨g2,0,none⟩),.pointer (some ⟨g3,0,none⟩)]) ∧
   W2.heap[g5]? = some (.cells (slL (roS (smI ws k) (ws.getD k 0))).toArray 98 (0,0)) ∧ W2.heap[g2]? = some (.cells #[.int .i64 (smI ws k)] 3 (0,0)) ∧ W2.heap[g3]? = some (.cells #[.int .i64 (ws.getD k 0)] 3 (0,0)) := by
 obtain ⟨d,hd,hv,hc⟩ := h.ex
 have hv2 := hv.below hb hv.lt
 obtain ⟨g5,g2,g3,e,_,h1,h2,h3⟩ := ((hc k hk).below hb (Nat.le_refl _)).ex
 have hk1 : k < (d ++ List.replicate (ws.length - d.length) Value.nilFunc).length := by simp; omega
 have hcl := (hv2.cell hk1).1
 rw [List.getElem_append_left (by omega)] at hcl
 rw [List.getD_eq_getElem?_getD,List.getElem?_eq_getElem (by omega)] at e
 have e' : d[k] = _ := e
 rw [e'] at hcl
 exact ⟨g5,g2,g3,hcl,h1,h2,h3⟩
theorem ceI_len {ws : List Int} {ts : List ByteArray} (h : ∀ t ∈ ts,cellB t = true) {i : Nat} (hi : i < ts.length) : 1 ≤ (ceI ws ts i).length ∧ (ceI ws ts i).length ≤ 402 := by
 have hg : ts.getD i ⟨#[]⟩ = ts[i] := by rw [List.getD_eq_getElem?_getD,List.getElem?_eq_getElem hi]; rfl
 unfold ceI
 rw [hg]
 have := cell_ls (h _ (List.getElem_mem hi)) (roS (smI ws i) (ws.getD i 0))
 exact ⟨this.pos,this.few⟩
theorem mxN_le {ws : List Int} {ts : List ByteArray} (h : ∀ t ∈ ts,cellB t = true) : ∀ k,k ≤ ts.length → mxN ws ts k ≤ 402
 | 0,_ => Nat.zero_le _
 | k + 1,hk => by
  have h1 := mxN_le (ws := ws) h k (by omega)
  have h2 := (ceI_len (ws := ws) h (i := k) (by omega)).2
  show max _ _ ≤ _
  omega
end Go.Proofs.YtaphggjakaghjaaGreatDoor
