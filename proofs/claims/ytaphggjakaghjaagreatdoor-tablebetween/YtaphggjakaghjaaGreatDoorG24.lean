/-
  What is proved here: tables, the paragraphs of their cells, how wide words and columns are (no program is named).
  What is proved here: which tables may be; a cell's paragraph; the width of a run.
  What is proved here: a cell's paragraph; the width of a run.
-/
import Derived.Test.YtaphggjakaghjaaGreatDoorG23
import Derived.Test.YtaphggjakaghjaaGreatDoorG12
import Derived.Laws.ResultCell
import Derived.Test.YtaphggjakaghjaaGreatDoorG2
import Derived.Test.YtaphggjakaghjaaGreatDoorG18
namespace Go.Proofs.YtaphggjakaghjaaGreatDoor
open Go.RowKit Go.Shelf

theorem kind_vis {x : Int} (h : 32 ≤ x ∧ x ≤ 126) : kindI x = 1 ∨ kindI x = 2 ∨ kindI x = 3 := by
 unfold kindI
 repeat (split <;> try omega)
def cellB (t : ByteArray) : Bool := decide (t.size ≤ 200 ∧ ∀ k,k < t.size → 32 ≤ bt t k ∧ bt t k ≤ 126)
theorem cell_get {t : ByteArray} (h : cellB t = true) : t.size ≤ 200 ∧ ∀ k,k < t.size → 32 ≤ bt t k ∧ bt t k ≤ 126 := of_decide_eq_true h
theorem cell_no {t : ByteArray} {k : Nat} (hk : k < t.size) (h : ¬ (32 ≤ bt t k ∧ bt t k ≤ 126)) : cellB t = false := decide_eq_false (fun ⟨_,ha⟩ => h (ha k hk))
def chkG (c : Int) (l : List ByteArray) : Int := if (1 ≤ c ∧ c ≤ 8) ∧ (1 ≤ l.length ∧ l.length ≤ 64) ∧ (l.length : Int) % c = 0 ∧ l.all cellB = true then 0 else 2
def cellPr : Pr := ⟨8,10,0,0,0,0,0,0,0,0,1,1,0,0,0,0,0⟩
def cellSp (t : ByteArray) : List Sp := if t.size = 0 then [] else [⟨t.size,0,0,0⟩]
def cellPa (t : ByteArray) (sv : Value) : Pa := { t := t,sv := sv,p := cellPr,lb := { data := #[] },mv := .slice none 0 0,sp := cellSp t,ms := [] }
theorem cell_ref {t : ByteArray} (h : ∀ k,k < t.size → 32 ≤ bt t k ∧ bt t k ≤ 126) : ∀ k,k ≤ t.size → refN t k = 0
 | 0,_ => rfl
 | k + 1,hk => by
  rw [refN_succ,cell_ref h k (by omega),if_neg (by have := (h k (by omega)).1; omega)]
theorem cell_chk {t : ByteArray} (h : cellB t = true) (sv : Value) : chkI (cellPa t sv) = 0 := by
 obtain ⟨hn,ha⟩ := cell_get h
 have e1 : wrongI (cellPa t sv).t = 0 := wrong_ok (show ¬ 4096 < t.size by omega) (fun k hk => by
  rcases kind_vis (ha k hk) with e | e | e <;> (show kindI (bt t k) ≠ 0; rw [e]; decide))
 have e2 : fieldB (cellPa t sv).t = false := decide_eq_false (fun ⟨k,hk,e⟩ => by have := (ha k hk).1; have e' : bt t k = 3 := e; omega)
 have e3 : spB (cellPa t sv).sp (cellPa t sv).t.size = true := by
  show spB (cellSp t) t.size = true
  unfold cellSp
  by_cases h0 : t.size = 0
  ·rw [if_pos h0]
   exact decide_eq_true (by omega)
  ·rw [if_neg h0]
   unfold spB
   rw [if_pos ⟨by show 1 ≤ (t.size : Int); omega,Int.le_refl _,by simp [chB]⟩]
   simp [spB]
 have e4 : keepB (prB (cellPa t sv).p) = true := by show keepB (prB cellPr) = true; decide
 have e5 : standB (cellPa t sv).lb 0 16 = true := by show standB { data := #[] } 0 16 = true; decide
 have e6 : markB (cellPa t sv).t (cellPa t sv).ms = true := by
  show markB t [] = true
  unfold markB
  rw [cell_ref ha _ (Nat.le_refl _)]; rfl
 unfold chkI restB
 rw [if_pos e1,e2,e3,e4,e5,e6]; rfl
def cm (t : ByteArray) : List Ms := mss (cellPa t (.slice none 0 0))
theorem cm_len (t : ByteArray) : (cm t).length = num t := mss_len _
theorem cm_few {t : ByteArray} (h : cellB t = true) : (cm t).length ≤ 200 := by
 rw [cm_len]
 have := num_le t
 have := (cell_get h).1
 omega
theorem cm_all {t : ByteArray} (h : cellB t = true) : (cm t).all mOk = true := (good_of (cell_chk h (.slice none 0 0))).all
theorem cell_sp (t : ByteArray) (k : Nat) (hk : k < t.size) : spAt (cellSp t) k = ⟨t.size,0,0,0⟩ := by
 unfold cellSp
 rw [if_neg (by omega)]
 show spAt [⟨t.size,0,0,0⟩] k = _
 unfold spAt lkI
 rw [if_pos (by show (k : Int) < (t.size : Int); omega)]; rfl
theorem cm_q {t : ByteArray} {k : Nat} (hk : k < num t) : (msI (cellPa t (.slice none 0 0)) k).q = 0 := by
 have hs := num_lt hk
 show meetI _ (fc (cellPa t (.slice none 0 0)) k) = 0
 have e : (fc (cellPa t (.slice none 0 0)) k).k = 0 := by
  show (spAt (cellSp t) (st t k : Nat)).k = 0
  rw [cell_sp t _ hs]
 unfold meetI
 rw [if_neg (fun hc => by have := hc.2.1; unfold kerB at this; rw [decide_eq_true_eq,e] at this; omega)]
def Flat (l : List Ms) : Prop := l.length ≤ 200 ∧ ∀ k (hk : k < l.length),l[k].q = 0 ∧ 0 ≤ l[k].w ∧ l[k].w ≤ 4095
theorem cm_flat {t : ByteArray} (h : cellB t = true) : Flat (cm t) := by
 refine ⟨cm_few h,fun k hk => ?_⟩
 have hk' : k < num t := by rwa [cm_len] at hk
 have e : (cm t)[k] = msI (cellPa t (.slice none 0 0)) k := mss_get _ hk
 have hm := List.all_eq_true.1 (cm_all h) _ (List.getElem_mem hk)
 unfold mOk at hm
 rw [decide_eq_true_eq] at hm
 exact ⟨by rw [e]; exact cm_q hk',hm.1⟩
theorem Flat.get {l : List Ms} (h : Flat l) {k : Nat} (hk : k < l.length) : (l.getD k ms0).q = 0 ∧ 0 ≤ (l.getD k ms0).w ∧ (l.getD k ms0).w ≤ 4095 := by
 rw [getD_is hk]; exact h.2 k hk
theorem flat_step {l : List Ms} (h : Flat l) {f k : Nat} (hk : f + k < l.length) : runN l f (k + 1) = runN l f k + (l.getD (f + k) ms0).w := by
 show runN l f k + (l.getD (f + k) ms0).w + _ = _
 rw [(h.get hk).1]
 split <;> omega
theorem flat_mono {l : List Ms} (h : Flat l) (f : Nat) : ∀ (n m : Nat),f + (n + m) ≤ l.length → runN l f n ≤ runN l f (n + m)
 | n,0,_ => Int.le_refl _
 | n,m + 1,hm => by
  have := flat_mono h f n m (by omega)
  rw [show n + (m + 1) = n + m + 1 by omega,flat_step h (by omega)]
  have := (h.get (show f + (n + m) < l.length by omega)).2.1
  omega
theorem flat_rng {l : List Ms} (h : Flat l) (f : Nat) : ∀ k,f + k ≤ l.length → 0 ≤ runN l f k ∧ runN l f k ≤ 4095 * (k : Int)
 | 0,_ => by simp [runN]
 | k + 1,hk => by
  have ih := flat_rng h f k (by omega)
  rw [flat_step h (by omega)]
  have := (h.get (show f + k < l.length by omega)).2
  omega
theorem flat_part {l : List Ms} (h : Flat l) {f n : Nat} (hn : f + n ≤ l.length) : runN l f n ≤ runN l 0 l.length := by
 have e := run_join l 0 f n
 rw [Nat.zero_add] at e
 have hz : (if 0 < f ∧ 0 < n then (l.getD f ms0).q else 0) = 0 := by
  by_cases hc : 0 < f ∧ 0 < n
  ·rw [if_pos hc]; exact (h.get (show f < l.length by omega)).1
  ·rw [if_neg hc]
 rw [hz] at e
 have h1 := flat_mono h 0 (f + n) (l.length - (f + n)) (by omega)
 rw [show f + n + (l.length - (f + n)) = l.length by omega] at h1
 have h2 := (flat_rng h 0 f (by omega)).1
 omega
theorem flat_ok {l : List Ms} (h : Flat l) : l.all mOk = true := all_yes (fun k hk => by
 unfold mOk
 have := h.2 k hk
 exact decide_eq_true (by omega))
theorem flat_nat {l : List Ms} (h : Flat l) : natE l 0 l.length = 0 ∧ natV l 0 l.length = runN l 0 l.length := by
 have e : natE l 0 l.length = 0 := by
  unfold natE
  rw [if_neg (by have := h.1; omega),if_pos (flat_ok h),if_pos (by omega)]
 exact ⟨e,by unfold natV; rw [if_pos e]; rfl⟩
def cut {α : Type} (l : List α) (f t : Nat) : List α := (l.drop f).take (t - f)
theorem cut_len {α : Type} {l : List α} {f t : Nat} (ht : t ≤ l.length) : (cut l f t).length = t - f := by
 unfold cut; rw [List.length_take,List.length_drop]; omega
theorem cut_get {α : Type} {l : List α} {f t : Nat} {i : Nat} (hi : i < (cut l f t).length) (h : f + i < l.length) : (cut l f t)[i] = l[f + i] := by
 have e : (cut l f t)[i]? = l[f + i]? := by
  unfold cut
  rw [List.getElem?_take,if_pos (by have := hi; unfold cut at this; rw [List.length_take] at this; omega),List.getElem?_drop]
 rw [List.getElem?_eq_getElem hi,List.getElem?_eq_getElem h] at e
 exact Option.some.inj e
theorem cut_getD {l : List Ms} {f t : Nat} (ht : t ≤ l.length) {i : Nat} (hi : f + i < t) : (cut l f t).getD i ms0 = l.getD (f + i) ms0 := by
 have hl := cut_len (f := f) ht
 rw [getD_is (show i < (cut l f t).length by omega),getD_is (show f + i < l.length by omega),cut_get]
theorem cut_run {l : List Ms} {f t : Nat} (ht : t ≤ l.length) : ∀ k,f + k ≤ t → runN (cut l f t) 0 k = runN l f k
 | 0,_ => rfl
 | k + 1,hk => by
  show runN (cut l f t) 0 k + ((cut l f t).getD (0 + k) ms0).w + (if 0 < k then ((cut l f t).getD (0 + k) ms0).q else 0) = _
  rw [cut_run ht k (by omega),Nat.zero_add,cut_getD ht (by omega)]; rfl
theorem flat_cut {l : List Ms} (h : Flat l) {f t : Nat} (hft : f ≤ t) (ht : t ≤ l.length) : Flat (cut l f t) ∧ runN (cut l f t) 0 (cut l f t).length = runN l f (t - f) := by
 have hl := cut_len (f := f) ht
 refine ⟨⟨by rw [hl]; have := h.1; omega,fun k hk => ?_⟩,?_⟩
 ·rw [cut_get hk (by omega)]
  exact h.2 _ _
 ·rw [hl,cut_run ht _ (by omega)]

def wd (l : List Ms) : Nat → List (Nat × Nat) × Nat
 | 0 => ([],0)
 | k + 1 => if (l.getD k ms0).k = 3 then ((wd l k).1 ++ [((wd l k).2,k)],k + 1) else wd l k
def wds (l : List Ms) : List (Nat × Nat) := (wd l l.length).1 ++ [((wd l l.length).2,l.length)]
theorem wd_le (l : List Ms) : ∀ k,(wd l k).2 ≤ k ∧ ∀ p ∈ (wd l k).1,p.1 ≤ p.2 ∧ p.2 ≤ k
 | 0 => ⟨Nat.le_refl _,fun p hp => by cases hp⟩
 | k + 1 => by
  obtain ⟨h1,h2⟩ := wd_le l k
  unfold wd
  split
  ·refine ⟨Nat.le_refl _,fun p hp => ?_⟩
   rcases List.mem_append.1 hp with hp | hp
   ·have := h2 p hp; omega
   ·rw [List.mem_singleton] at hp; subst hp
    exact ⟨h1,by show k ≤ k + 1; omega⟩
  ·exact ⟨by omega,fun p hp => by have := h2 p hp; omega⟩
theorem wds_le (l : List Ms) : ∀ p ∈ wds l,p.1 ≤ p.2 ∧ p.2 ≤ l.length := fun p hp => by
 obtain ⟨h1,h2⟩ := wd_le l l.length
 rcases List.mem_append.1 hp with hp | hp
 ·exact h2 p hp
 ·rw [List.mem_singleton] at hp; subst hp
  exact ⟨h1,Nat.le_refl _⟩
def wmx (l : List Ms) : List (Nat × Nat) → Int
 | [] => 0
 | p :: r => max (wmx l r) (runN l p.1 (p.2 - p.1))
def exS (l : List Ms) : Int := wmx l (wds l).reverse
def exM (l : List Ms) : Int := runN l 0 l.length
theorem wmx_rng {l : List Ms} (h : Flat l) : ∀ r : List (Nat × Nat),(∀ p ∈ r,p.1 ≤ p.2 ∧ p.2 ≤ l.length) → 0 ≤ wmx l r ∧ wmx l r ≤ exM l
 | [],_ => ⟨Int.le_refl _,(flat_rng h 0 l.length (by omega)).1⟩
 | p :: r,hp => by
  have ih := wmx_rng h r (fun q hq => hp q (List.mem_cons_of_mem _ hq))
  obtain ⟨h1,h2⟩ := hp p List.mem_cons_self
  have := flat_part h (f := p.1) (n := p.2 - p.1) (by omega)
  show 0 ≤ max _ _ ∧ max _ _ ≤ _
  unfold exM at ih ⊢
  omega
theorem ex_rng {l : List Ms} (h : Flat l) : 0 ≤ exS l ∧ exS l ≤ exM l ∧ exM l ≤ 819000 := by
 have h1 := wmx_rng h (wds l).reverse (fun p hp => wds_le l p (List.mem_reverse.1 hp))
 have h2 := flat_rng h 0 l.length (by omega)
 have h3 := h.1
 exact ⟨h1.1,h1.2,by unfold exM; omega⟩

def cmx (f : Nat → Int) (c j : Nat) : Nat → Int
 | 0 => 0
 | k + 1 => if k % c = j then max (cmx f c j k) (f k) else cmx f c j k
def fS (l : List ByteArray) (k : Nat) : Int := exS (cm (l.getD k ByteArray.empty))
def fM (l : List ByteArray) (k : Nat) : Int := exM (cm (l.getD k ByteArray.empty))
structure Co where
 s : Int
 m : Int
def coL (q : Co) : List Value := [.int .i64 q.s,.int .i64 q.m]
theorem coL_len (q : Co) : (coL q).length = 2 := rfl
theorem coL_one (q : Co) : ∀ u ∈ coL q,u.oneCell' = true := by intro u hu; simp [coL] at hu; rcases hu with rfl | rfl <;> rfl
def colI (c : Nat) (l : List ByteArray) (j : Nat) : Co := ⟨cmx (fS l) c j l.length + 4,cmx (fM l) c j l.length + 4⟩
def cols (c : Nat) (l : List ByteArray) : List Co := (List.range c).map (colI c l)
theorem cols_len (c : Nat) (l : List ByteArray) : (cols c l).length = c := by simp [cols]
theorem cols_get (c : Nat) (l : List ByteArray) {i : Nat} (h : i < (cols c l).length) : (cols c l)[i] = colI c l i := by simp [cols]
theorem cmx_skip {f : Nat → Int} {c j k : Nat} : ∀ n,(∀ i,k ≤ i → i < k + n → i % c ≠ j) → cmx f c j (k + n) = cmx f c j k
 | 0,_ => rfl
 | n + 1,h => by
  show (if (k + n) % c = j then _ else _) = _
  rw [if_neg (h (k + n) (by omega) (by omega))]
  exact cmx_skip n (fun i h1 h2 => h i h1 (by omega))
theorem cmx_round {f : Nat → Int} {c j : Nat} (hj : j < c) (r : Nat) : cmx f c j (r * c + c) = max (cmx f c j (r * c)) (f (r * c + j)) := by
 have h1 : cmx f c j (r * c + j) = cmx f c j (r * c) := cmx_skip j (fun i h1 h2 => by
  obtain ⟨d,rfl⟩ : ∃ d,i = r * c + d := ⟨i - r * c,by omega⟩
  rw [Nat.mul_comm,Nat.mul_add_mod,Nat.mod_eq_of_lt (by omega)]; omega)
 have h2 : cmx f c j (r * c + j + 1) = max (cmx f c j (r * c)) (f (r * c + j)) := by
  show (if (r * c + j) % c = j then _ else _) = _
  rw [if_pos (by rw [Nat.mul_comm,Nat.mul_add_mod,Nat.mod_eq_of_lt hj]),h1]
 rw [← h2,show r * c + c = r * c + j + 1 + (c - j - 1) by omega]
 refine cmx_skip _ (fun i h3 h4 => ?_)
 obtain ⟨d,rfl⟩ : ∃ d,i = r * c + d := ⟨i - r * c,by omega⟩
 rw [Nat.mul_comm,Nat.mul_add_mod,Nat.mod_eq_of_lt (by omega)]; omega
def Cells (l : List ByteArray) : Prop := ∀ k (hk : k < l.length),cellB l[k] = true
theorem getD_cell {l : List ByteArray} {k : Nat} (hk : k < l.length) : l.getD k ByteArray.empty = l[k] := by rw [List.getD_eq_getElem?_getD,List.getElem?_eq_getElem hk]; rfl
theorem empty_cell : cellB ByteArray.empty = true := decide_eq_true ⟨by show 0 ≤ 200; omega,fun k hk => by have : k < 0 := hk; omega⟩
theorem Cells.rng {l : List ByteArray} (h : Cells l) (k : Nat) : 0 ≤ fS l k ∧ fS l k ≤ fM l k ∧ fM l k ≤ 819000 := by
 refine ex_rng (cm_flat ?_)
 by_cases hk : k < l.length
 ·rw [getD_cell hk]; exact h k hk
 ·rw [List.getD_eq_getElem?_getD,List.getElem?_eq_none (by omega)]; exact empty_cell
theorem cmx_rng {f g : Nat → Int} (h : ∀ k,0 ≤ f k ∧ f k ≤ g k ∧ g k ≤ 819000) (c j : Nat) : ∀ k,0 ≤ cmx f c j k ∧ cmx f c j k ≤ cmx g c j k ∧ cmx g c j k ≤ 819000
 | 0 => by simp [cmx]
 | k + 1 => by
  have ih := cmx_rng h c j k
  have hk := h k
  unfold cmx
  split <;> omega
theorem Cells.col {l : List ByteArray} (h : Cells l) (c j : Nat) : 4 ≤ (colI c l j).s ∧ (colI c l j).s ≤ (colI c l j).m ∧ (colI c l j).m ≤ 819004 := by
 have := cmx_rng h.rng c j l.length
 unfold colI
 show 4 ≤ _ + 4 ∧ _ + 4 ≤ _ + 4 ∧ _ + 4 ≤ _
 omega
def tot (g : Nat → Int) : Nat → Int
 | 0 => 0
 | k + 1 => tot g k + g k
theorem chk_ok {c : Int} {l : List ByteArray} (h : chkG c l = 0) : ∃ n : Nat,c = n ∧ (1 ≤ n ∧ n ≤ 8) ∧ (1 ≤ l.length ∧ l.length ≤ 64) ∧ l.length % n = 0 ∧ Cells l := by
 unfold chkG at h
 split at h
 ·rename_i hc
  obtain ⟨h1,h2,h3,h4⟩ := hc
  obtain ⟨n,rfl⟩ : ∃ n : Nat,c = n := ⟨c.toNat,by omega⟩
  refine ⟨n,rfl,by omega,h2,?_,fun k hk => List.all_eq_true.1 h4 _ (List.getElem_mem hk)⟩
  have : ((l.length % n : Nat) : Int) = 0 := by rw [← h3]; exact Int.natCast_emod _ _
  omega
 ·cases h
end Go.Proofs.YtaphggjakaghjaaGreatDoor

namespace Go.Proofs.YtaphggjakaghjaaGreatDoor
open Go.RowKit Go.Shelf
set_option maxRecDepth 100000
set_option maxHeartbeats 2000000

theorem mayCell_any (t : ByteArray) (hsz : t.size ≤ 9223372036854775807) (w : World) : Calls Tryz.prog 52 #[.string t] w fun e w' => e = .returned (.bool (cellB t)) ∧ w' = w := by
 by_cases h200 : t.size ≤ 200
 ·have hN : Hid (∀ k,k < t.size → ¬ (32 ≤ bt t k ∧ bt t k ≤ 126) → cellB t = false) := fun k hk h => cell_no hk h
  have hY : Hid ((∀ k,k < t.size → 32 ≤ bt t k ∧ bt t k ≤ 126) → cellB t = true) := fun h => decide_eq_true ⟨h200,h⟩
  have h200' : ¬ (200 : Int) < t.size := by omega
  generalize cellB t = r at *
  go_enter Tryz.func52,Tryz.ntmps52
  go_wp2_with fail
  go_loopw [9] (fun i wr => ∃ k : Nat,k ≤ t.size ∧ i = .int .i64 k ∧ wr = w ∧ Hid (∀ j,j < k → 32 ≤ bt t j ∧ bt t j ≤ 126)) (fun i _ => t.size - (intOf i).toNat)
  case atStart => exact ⟨0,by omega,rfl,rfl,fun j hj => by omega⟩
  case round =>
   obtain ⟨k,hk,rfl,rfl,hall⟩ := hrel
   by_cases hlt : k < t.size
   ·have hb0 : Hid (bt t k = ((t[k]'hlt).toNat : Int)) := bt_eq hlt
    have hlt' : (k : Int) < t.size := by omega
    by_cases d0 : ((t[k]'hlt).toNat : Int) < 32
    ·have hr : false = r := ((hN.out k hlt (by rw [hb0.out]; omega)).symm)
     subst hr
     clear hN hY hb0 hall
     go_wp2_with fail
     go_ret
     exact ⟨rfl,rfl⟩
    ·by_cases d1 : 126 < ((t[k]'hlt).toNat : Int)
     ·have hr : false = r := ((hN.out k hlt (by rw [hb0.out]; omega)).symm)
      subst hr
      clear hN hY hb0 hall
      go_wp2_with fail
      go_ret
      exact ⟨rfl,rfl⟩
     ·have hn : Hid (∀ j,j < k + 1 → 32 ≤ bt t j ∧ bt t j ≤ 126) := fun j hj => by
       by_cases e : j = k
       ·subst e; rw [hb0.out]; omega
       ·exact hall.out j (by omega)
      clear hb0 hall
      go_wp2_with fail
      go_roundw
      case rel => exact ⟨k + 1,by omega,by simp,by first | rfl | trivial,hn⟩
      case measure => simp [intOf]; omega
   ·obtain rfl : k = t.size := by omega
    have hr : true = r := (hY.out hall.out).symm
    subst hr
    clear hN hY hall
    go_wp2_with fail
    go_ret
    exact ⟨rfl,rfl⟩
 ·have e : cellB t = false := decide_eq_false (fun h => h200 h.1)
  have h200' : (200 : Int) < t.size := by omega
  rw [e]
  clear e
  go_enter Tryz.func52,Tryz.ntmps52
  go_wp2_with fail
  go_ret
  exact ⟨rfl,rfl⟩

theorem gcheck_any (c : Int) (v : Value) (l : List ByteArray) (hl : l.length ≤ 9223372036854775807) (hsz : ∀ t ∈ l,t.size ≤ 9223372036854775807) (w : World) (hS : StrsAt w v l) :
  Calls Tryz.prog 33 #[.agg #[.int .i64 c,v]] w fun e w' => e = .returned (.int .i64 (chkG c l)) ∧ Below w.heap.size w w' := by
 have hB := (Below.refl w.heap.size w).alloc (Nat.le_refl _) (.cells #[.int .i64 c,v] 24)
 have hS1 := hS.below hB (Nat.le_refl _)
 have hb0 : (w.alloc (.cells #[.int .i64 c,v] 24)).heap[w.heap.size]? = some (.cells #[.int .i64 c,v] 24) := World.alloc_heap_new w _
 obtain ⟨a,cap,rfl,h2⟩ := hS1.ex
 clear hS hS1
 have c0 : (w.alloc (.cells #[.int .i64 c,.slice a l.length cap] 24)).cell? ⟨w.heap.size,0,none⟩ = some (.int .i64 c) := by rw [Lib.cell_of_heap hb0]; rfl
 have c1 : (w.alloc (.cells #[.int .i64 c,.slice a l.length cap] 24)).cell? ⟨w.heap.size,1,none⟩ = some (.slice a l.length cap) := by rw [Lib.cell_of_heap hb0]; rfl
 have hN : Hid (¬ ((1 ≤ c ∧ c ≤ 8) ∧ (1 ≤ l.length ∧ l.length ≤ 64) ∧ (l.length : Int) % c = 0) → chkG c l = 2) := fun h => if_neg (fun hh => h ⟨hh.1,hh.2.1,hh.2.2.1⟩)
 have hN2 : Hid (∀ k (hk : k < l.length),cellB l[k] = false → chkG c l = 2) := fun k hk h => if_neg (fun hh => by have := List.all_eq_true.1 hh.2.2.2 _ (List.getElem_mem hk); rw [h] at this; cases this)
 have hY : Hid (((1 ≤ c ∧ c ≤ 8) ∧ (1 ≤ l.length ∧ l.length ≤ 64) ∧ (l.length : Int) % c = 0) → (∀ k (hk : k < l.length),cellB l[k] = true) → chkG c l = 0) := fun h ha => if_pos ⟨h.1,h.2.1,h.2.2,List.all_eq_true.2 fun b hb => by
  obtain ⟨i,hi,rfl⟩ := List.getElem_of_mem hb
  exact ha i hi⟩
 generalize chkG c l = r at *
 generalize hw1 : w.alloc (.cells #[.int .i64 c,.slice a l.length cap] 24) = w1 at *
 by_cases h1 : c < 1
 ·have hr : 2 = r := (hN.out (fun h => by omega)).symm
  subst hr
  clear hN hN2 hY h2 hb0
  go_enter Tryz.func33,Tryz.ntmps33
  go_wp2_with fail
  go_ret
  exact ⟨rfl,hB⟩
 by_cases h8 : 8 < c
 ·have hr : 2 = r := (hN.out (fun h => by omega)).symm
  subst hr
  clear hN hN2 hY h2 hb0
  go_enter Tryz.func33,Tryz.ntmps33
  go_wp2_with fail
  go_ret
  exact ⟨rfl,hB⟩
 by_cases hz : l.length = 0
 ·have hr : 2 = r := (hN.out (fun h => by omega)).symm
  subst hr
  have hz' : ((l.length : Int) == 0) = true := by simp [hz]
  have hcz : ¬ c = 0 := by omega
  clear hN hN2 hY h2 hb0 hz
  go_enter Tryz.func33,Tryz.ntmps33
  go_wp2_with fail
  go_ret
  exact ⟨rfl,hB⟩
 have hz' : ((l.length : Int) == 0) = false := beq_eq_false_iff_ne.2 (by omega)
 have hcz : ¬ c = 0 := by omega
 by_cases h64 : 64 < l.length
 ·have hr : 2 = r := (hN.out (fun h => by omega)).symm
  subst hr
  have h64' : (64 : Int) < l.length := by omega
  clear hN hN2 hY h2 hb0 hz
  go_enter Tryz.func33,Tryz.ntmps33
  go_wp2_with fail
  go_ret
  exact ⟨rfl,hB⟩
 have h64' : ¬ (64 : Int) < l.length := by omega
 by_cases hm : (l.length : Int) % c = 0
 ·have hY2 : Hid ((∀ k (hk : k < l.length),cellB l[k] = true) → r = 0) := fun ha => hY.out ⟨by omega,by omega,hm⟩ ha
  have hm' : ((l.length : Int) % c != 0) = false := by simp [hm]
  have hcell := fun k (hk : k < l.length) => mayCell_any l[k] (hsz _ (List.getElem_mem hk))
  have hcell' : Hid (∀ k (hk : k < l.length) (w : World),Calls Tryz.prog 52 #[.string l[k]] w fun e w' => e = .returned (.bool (cellB l[k])) ∧ w' = w) := hcell
  clear hN hY hb0 hz hcell hm
  go_enter Tryz.func33,Tryz.ntmps33
  go_wp2_with fail
  go_loopw [33] (fun i wr => ∃ k : Nat,k ≤ l.length ∧ i = .int .i64 k ∧ wr = w1 ∧ Hid (∀ j (hj : j < l.length),j < k → cellB l[j] = true)) (fun i _ => l.length - (intOf i).toNat)
  case atStart => exact ⟨0,by omega,rfl,rfl,fun j _ hj => by omega⟩
  case round =>
   obtain ⟨k,hk,rfl,rfl,hall⟩ := hrel
   by_cases hlt : k < l.length
   ·rcases h2 with h2 | ⟨b,o,rfl,hbl,hc⟩
    ·rw [h2] at hlt; simp at hlt
    have hlt' : (k : Int) < l.length := by omega
    have d0 : wr.cell? ⟨b,o + k,none⟩ = some (.string l[k]) := hc k hlt
    have hq := hcell'.out k hlt
    have hN3 : Hid (cellB l[k] = false → r = 2) := hN2.out k hlt
    have hall2 : Hid (cellB l[k] = true → ∀ j (hj : j < l.length),j < k + 1 → cellB l[j] = true) := fun h j hj hjk => by
     by_cases e : j = k
     ·subst e; exact h
     ·exact hall.out j hj (by omega)
    clear hc hN2 hall hsz
    generalize cellB l[k] = z at *
    generalize l[k] = x at *
    rcases z with _ | _
    ·have hr : 2 = r := (hN3.out rfl).symm
     subst hr
     clear hN3 hall2
     go_wp2_with (go_at_call 52; (with_reducible refine (hq _).mono ?_); rintro e w' ⟨rfl,hw⟩; subst w')
     go_ret
     exact ⟨rfl,hB⟩
    ·have hall3 : Hid (∀ j (hj : j < l.length),j < k + 1 → cellB l[j] = true) := hall2.out rfl
     clear hN3 hall2
     go_wp2_with (go_at_call 52; (with_reducible refine (hq _).mono ?_); rintro e w' ⟨rfl,hw⟩; subst w')
     go_roundw
     case rel => exact ⟨k + 1,by omega,by simp,by first | rfl | trivial,hall3⟩
     case measure => simp [intOf]; omega
   ·obtain rfl : k = l.length := by omega
    have hr : 0 = r := (hY2.out (fun j hj => hall.out j hj hj)).symm
    subst hr
    clear h2 hall hY2 hN2
    go_wp2_with fail
    go_ret
    exact ⟨rfl,hB⟩
 ·have hr : 2 = r := (hN.out (fun h => hm h.2.2)).symm
  subst hr
  have hm' : ((l.length : Int) % c != 0) = true := by simpa using hm
  clear hN hN2 hY h2 hb0 hz hm
  go_enter Tryz.func33,Tryz.ntmps33
  go_wp2_with fail
  go_ret
  exact ⟨rfl,hB⟩

end Go.Proofs.YtaphggjakaghjaaGreatDoor

namespace Go.Proofs.YtaphggjakaghjaaGreatDoor
open Go.RowKit Go.Shelf
set_option maxRecDepth 100000
set_option maxHeartbeats 2000000

theorem gnatural_any (v : Value) (l : List Ms) (hl : l.length ≤ 9223372036854775807) (w : World) (hR : RecAt 6 msL w v l) : Calls Tryz.prog 101 #[v] w fun e w' => e = .returned (.int .i64 (natV l 0 l.length)) ∧ Below w.heap.size w w' := by
 have hN := natural_any v l hl 0 l.length w hR
 obtain ⟨a,cap,rfl,_⟩ := hR.ex
 clear hR
 generalize natV l 0 l.length = x at *
 generalize natE l 0 l.length = y at *
 go_enter Tryz.func101,Tryz.ntmps101
 go_wp2_with fail
 refine hN.mono ?_
 rintro e w1 ⟨rfl,hb⟩
 go_wp2_with fail
 go_ret
 exact ⟨rfl,hb⟩

theorem info39p (a : Pa) : (Tryz.prog.info? 95).map (·.size) = some (paC a).size := info34 a
def paZ : Pa := { t := { data := #[] },sv := .slice none 0 0,p := ⟨0,0,0,0,0,0,0,0,0,0,0,0,0,0,0,0,0⟩,lb := { data := #[] },mv := .slice none 0 0,sp := [],ms := [] }
def CellEnd (t : ByteArray) (w : World) (e : Ending) (w' : World) : Prop := ∃ sv,e = .returned (paV (cellPa t sv)) ∧ PaAt w' (cellPa t sv) ∧ Below w.heap.size w w'

theorem glempty (s : ByteArray) : s.toList.isEmpty = decide (s.size = 0) := by
 rw [ByteArray.toList_eq]
 show s.data.toList.isEmpty = decide (s.data.size = 0)
 rcases h : s.data.toList with _ | ⟨x,r⟩
 ·have : s.data.size = 0 := by rw [← Array.length_toList,h]; rfl
  rw [this]; rfl
 ·have : s.data.size ≠ 0 := by rw [← Array.length_toList,h]; simp
  rw [decide_eq_false this]; rfl
theorem rec_turns {α : Type} {k : Nat} {f : α → List Value} {X : Nat → Prop} {W W' : World} {g o n c : Nat} {rs : List α} (h : RecAt k f W (.slice (some ⟨g,o,none⟩) n c) rs) (ht : Turns X W W') (hg : ¬ X g) : RecAt k f W' (.slice (some ⟨g,o,none⟩) n c) rs := by
 obtain ⟨⟨a,cap,e,h2⟩,hle⟩ := h
 cases e
 refine ⟨⟨_,_,rfl,?_⟩,hle⟩
 rcases h2 with h2 | ⟨b,o',e,hlt,hc⟩
 ·exact .inl h2
 ·cases e
  refine .inr ⟨g,o,rfl,Nat.lt_of_lt_of_le hlt ht.size,fun i hi j u hu => ?_⟩
  rw [← hc i hi j u hu]
  unfold World.cell?
  rw [ht.block g hlt hg]
theorem spL_len4 (r : Sp) : (spL r).length = 4 := rfl
theorem paC_cell (t : ByteArray) (sv : Value) (h : sv.oneCell' = true) : (paC (cellPa t sv)).all (·.oneCell') = true := paC_one _ h rfl
theorem PB.set {w : World} {B : Nat} {a : Pa} (h : PB w B a) (b : Pa) : PB (w.setRow B (paC b)) B b := ⟨setRow_heap _ _ _ _ 95 _ h.row⟩
theorem PB.setS {w : World} {B : Nat} {t : ByteArray} {sv : Value} (h : PB w B (cellPa t sv)) (u : Value) : PB (w.setCell ⟨B,1,none⟩ u) B (cellPa t u) := ⟨heap_setCell_same w B 1 _ 95 _ h.row⟩
theorem cell_any (t : ByteArray) (_hsz : t.size ≤ 9223372036854775807) (w : World) : Calls Tryz.prog 61 #[.string t] w (CellEnd t w) := by
 have hB0 := (Below.refl w.heap.size w).alloc (Nat.le_refl _) (.cells (paC paZ) 95)
 have hP0 := PB.new w paZ
 have hs0 : (w.alloc (.cells (paC paZ) 95)).heap.size = w.heap.size + 1 := World.size_alloc _ _
 have hB1 := hB0.alloc hB0.size (.cells (paC paZ) 95)
 have hP1 := PB.new (w.alloc (.cells (paC paZ) 95)) paZ
 have hP01 := hP0.turns (Turns.alloc Noth _ (.cells (paC paZ) 95)) (fun h => h)
 have hs1 : ((w.alloc (.cells (paC paZ) 95)).alloc (.cells (paC paZ) 95)).heap.size = w.heap.size + 2 := by rw [World.size_alloc,hs0]
 rw [hs0] at hP1
 have hT2 := Turns.setRow (X := fun b => b = w.heap.size + 1) ((w.alloc (.cells (paC paZ) 95)).alloc (.cells (paC paZ) 95)) (r := w.heap.size + 1) rfl (paC (cellPa t (.slice none 0 0)))
 have hP2 := hP1.set (cellPa t (.slice none 0 0))
 have hP02 := hP01.turns hT2 (by omega)
 have hB2 := hB1.trans (hT2.below hB1.size (fun b hb => by omega))
 have hs2 : (((w.alloc (.cells (paC paZ) 95)).alloc (.cells (paC paZ) 95)).setRow (w.heap.size + 1) (paC (cellPa t (.slice none 0 0)))).heap.size = w.heap.size + 2 := by simp
 have hE : Hid (∀ sv W,PaAt W (cellPa t sv) → Below w.heap.size w W → CellEnd t w (.returned (paV (cellPa t sv))) W) := fun sv W h1 h2 => ⟨sv,rfl,h1,h2⟩
 by_cases h0 : t.size = 0
 ·have hsp : cellSp t = [] := if_pos h0
  have hq : t.toList.isEmpty = true := by rw [glempty]; exact decide_eq_true h0
  have hA : Hid (∀ W,PaAt W (cellPa t (.slice none 0 0))) := fun W =>
   ⟨⟨⟨none,0,by show _ = Value.slice none (cellSp t).length 0; rw [hsp]; rfl,.inl hsp⟩,fun a n c e => by cases e; exact Nat.le_refl _⟩,⟨⟨none,0,rfl,.inl rfl⟩,fun a n c e => by cases e; exact Nat.le_refl _⟩,by show (cellSp t).length ≤ _ ∧ 0 ≤ _; rw [hsp]; exact ⟨by show 0 ≤ _; omega,by omega⟩⟩
  have hP03 := hP02.set (cellPa t (.slice none 0 0))
  have hB3 := hB2.trans ((Turns.setRow (X := fun b => b = w.heap.size) (((w.alloc (.cells (paC paZ) 95)).alloc (.cells (paC paZ) 95)).setRow (w.heap.size + 1) (paC (cellPa t (.slice none 0 0)))) (r := w.heap.size) rfl (paC (cellPa t (.slice none 0 0)))).below hB2.size (fun b hb => by omega))
  clear h0 hsp hB0 hP0 hP01 hT2 hs0 hs1 hs2 hB1
  go_enter Tryz.func61,Tryz.ntmps61
  go_wp2_with (first | (refine wpList_store_row rfl 95 _ _ rfl (w.heap.size + 1) (paC (cellPa t (.slice none 0 0))) rfl rfl 95 _ hP1.row (info39p _) rfl (paC_cell t _ rfl) ?_) | (refine wpList_load_row rfl 95 _ rfl (w.heap.size + 1) rfl 95 _ (0,0) _ hP2.row Tryz.underlying95 rfl (info39p (cellPa t (.slice none 0 0))) ?_) | (refine wpList_store_row rfl 95 _ _ rfl w.heap.size (paC (cellPa t (.slice none 0 0))) rfl rfl 95 _ hP02.row (info39p _) rfl (paC_cell t _ rfl) ?_))
  exact bodyPost_ret (results_cell_row rfl _ _ w.heap.size 95 (paC (cellPa t (.slice none 0 0))) (0,0) _ rfl hP03.row Tryz.underlying95 rfl (info39p _)) rfl (hE.out _ _ (hA.out _) hB3)
 ·have hq : t.toList.isEmpty = false := by rw [glempty]; exact decide_eq_false h0
  have hsp : cellSp t = [⟨t.size,0,0,0⟩] := if_neg h0
  generalize hw2 : ((w.alloc (.cells (paC paZ) 95)).alloc (.cells (paC paZ) 95)).setRow (w.heap.size + 1) (paC (cellPa t (.slice none 0 0))) = w2 at *
  have hT3 := Turns.setCell (X := fun b => b = w.heap.size + 1) w2 (p := ⟨w.heap.size + 1,1,none⟩) rfl (.slice (some ⟨w.heap.size + 2,0,none⟩) 1 1)
  have c1 := hP2.c1
  have z1 : w2.frozen? ⟨w.heap.size + 1,1,none⟩ = false := Lib.frozen_of_heap hP2.row _
  have hP3 := hP2.setS (.slice (some ⟨w.heap.size + 2,0,none⟩) 1 1)
  have hP03 := hP02.turns hT3 (by omega)
  have hB3 := hB2.trans (hT3.below hB2.size (fun b hb => by omega))
  have hs3 : (w2.setCell ⟨w.heap.size + 1,1,none⟩ (.slice (some ⟨w.heap.size + 2,0,none⟩) 1 1)).heap.size = w.heap.size + 2 := by simp; exact hs2
  have hP4 := hP3.turns (Turns.alloc Noth _ (.cells #[.int .i64 (t.size : Nat),.int .i64 0,.int .i64 0,.int .i64 0] 130)) (fun h => h)
  have hP04 := hP03.turns (Turns.alloc Noth _ (.cells #[.int .i64 (t.size : Nat),.int .i64 0,.int .i64 0,.int .i64 0] 130)) (fun h => h)
  have hB4 := hB3.alloc hB3.size (.cells #[.int .i64 (t.size : Nat),.int .i64 0,.int .i64 0,.int .i64 0] 130)
  have hR4 := rec_new (k := 4) spL_len4 (w2.setCell ⟨w.heap.size + 1,1,none⟩ (.slice (some ⟨w.heap.size + 2,0,none⟩) 1 1)) 130 [⟨(t.size : Nat),0,0,0⟩]
  rw [hs3] at hR4
  have hP05 := hP04.set (cellPa t (.slice (some ⟨w.heap.size + 2,0,none⟩) 1 1))
  have hT5 := Turns.setRow (X := fun b => b = w.heap.size) ((w2.setCell ⟨w.heap.size + 1,1,none⟩ (.slice (some ⟨w.heap.size + 2,0,none⟩) 1 1)).alloc (.cells #[.int .i64 (t.size : Nat),.int .i64 0,.int .i64 0,.int .i64 0] 130)) (r := w.heap.size) rfl (paC (cellPa t (.slice (some ⟨w.heap.size + 2,0,none⟩) 1 1)))
  have hB5 := hB4.trans (hT5.below hB4.size (fun b hb => by omega))
  have hA : Hid (∀ W,RecAt 4 spL W (.slice (some ⟨w.heap.size + 2,0,none⟩) 1 1) [⟨t.size,0,0,0⟩] → PaAt W (cellPa t (.slice (some ⟨w.heap.size + 2,0,none⟩) 1 1))) := fun W h =>
   ⟨by show RecAt 4 spL W _ (cellSp t); rw [hsp]; exact h,⟨⟨none,0,rfl,.inl rfl⟩,fun a n c e => by cases e; exact Nat.le_refl _⟩,by show (cellSp t).length ≤ _ ∧ 0 ≤ _; rw [hsp]; exact ⟨by show 1 ≤ _; omega,by omega⟩⟩
  have hR5 := hA.out _ (rec_turns hR4 hT5 (by omega))
  clear hP0 hP01 hB0 hB1 hT2 hR4 hA hT3 hT5 hB3 hB4 hP3 hs0 hs1 hs3
  have hw2' : Hid (((w.alloc (.cells (paC paZ) 95)).alloc (.cells (paC paZ) 95)).setRow (w.heap.size + 1) (paC (cellPa t (.slice none 0 0))) = w2) := hw2
  clear hw2 hsp h0
  go_enter Tryz.func61,Tryz.ntmps61
  go_wp2_with (first | (refine wpList_store_row rfl 95 _ _ rfl (w.heap.size + 1) (paC (cellPa t (.slice none 0 0))) rfl rfl 95 _ hP1.row (info39p _) rfl (paC_cell t _ rfl) ?_; refine Eq.mp (congrArg (wpList Tryz.prog _ _ _ _) hw2'.out.symm) ?_) | (refine wpList_load_row rfl 95 _ rfl (w.heap.size + 1) rfl 95 _ (0,0) _ hP4.row Tryz.underlying95 rfl (info39p (cellPa t (.slice (some ⟨w.heap.size + 2,0,none⟩) 1 1))) ?_) | (refine wpList_store_row rfl 95 _ _ rfl w.heap.size (paC (cellPa t (.slice (some ⟨w.heap.size + 2,0,none⟩) 1 1))) rfl rfl 95 _ hP04.row (info39p _) rfl (paC_cell t _ rfl) ?_))
  exact bodyPost_ret (results_cell_row rfl _ _ w.heap.size 95 (paC (cellPa t (.slice (some ⟨w.heap.size + 2,0,none⟩) 1 1))) (0,0) _ rfl hP05.row Tryz.underlying95 rfl (info39p _)) rfl (hE.out _ _ hR5 hB5)

end Go.Proofs.YtaphggjakaghjaaGreatDoor
