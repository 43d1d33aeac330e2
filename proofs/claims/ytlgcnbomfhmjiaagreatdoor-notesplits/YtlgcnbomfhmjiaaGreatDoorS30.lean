/-
  What is proved here: notes, their paragraphs, items and lines (no program is named).
  What is proved here: a cell's paragraph; the width of a run.
  What is proved here: which texts may be notes; their properties; a note's paragraph.
  What is proved here: a note's paragraph in memory.
  What is proved here: what Lay of note answers: for every text and width.
  What is proved here: how wide a cell's text is, at least and at most.
  What is proved here: what row answers: a row of the cells of texts.
  What is proved here: like lines and like cells are told to be alike.
  What is proved here: what LentTexts hands back, what KeptTexts answers of what is kept.
-/
import Derived.Test.YtlgcnbomfhmjiaaGreatDoorS29
import Derived.Test.YtlgcnbomfhmjiaaGreatDoorS1
import Derived.Test.YtlgcnbomfhmjiaaGreatDoorS11
import Derived.Laws.ResultCell
import Derived.Test.YtlgcnbomfhmjiaaGreatDoorS19
import Derived.Test.YtlgcnbomfhmjiaaGreatDoorS6
import Derived.Sort.BigQuietIn
import Derived.RangeFuncNested
import Derived.BigRegion
import Derived.BigQuiet
import Derived.Test.YtlgcnbomfhmjiaaGreatDoorS14
import Derived.Test.YtlgcnbomfhmjiaaGreatDoorS20
import Derived.OwnWalk
import Derived.Deep.QuietTactic
import Derived.ProofKit
import Derived.OpenShut
import Derived.ChangeOld
import Derived.Below
import Derived.Deep.Slices
import Derived.SizedLaws
import Derived.Test.YtlgcnbomfhmjiaaGreatDoorS7
import Derived.Laws.CopyRow
namespace Go.Proofs.YtlgcnbomfhmjiaaGreatDoor
open Go.RowKit Go.Shelf

def visB' (t : ByteArray) : Bool := decide (∀ k,k < t.size → 32 ≤ bt t k ∧ bt t k ≤ 126)
def noteB (t : ByteArray) : Bool := decide (t.size ≤ 4096 ∧ ∀ k,k < t.size → 32 ≤ bt t k ∧ bt t k ≤ 126)
theorem note_get {t : ByteArray} (h : noteB t = true) : t.size ≤ 4096 ∧ ∀ k,k < t.size → 32 ≤ bt t k ∧ bt t k ≤ 126 := of_decide_eq_true h
def ntE (t : ByteArray) : Int := if 4096 < t.size then 3 else if visB' t = true then 0 else 4
theorem ntE_ok {t : ByteArray} (h : ntE t = 0) : noteB t = true := by
 unfold ntE at h
 split at h
 ·cases h
 ·split at h
  ·rename_i h1 h2
   exact decide_eq_true ⟨by omega,of_decide_eq_true h2⟩
  ·cases h
def notePr : Pr := ⟨8,10,0,0,14,0,0,0,0,0,1,1,0,0,0,0,0⟩
def noteSp (t : ByteArray) : List Sp := if t.size = 0 then [] else [⟨t.size,0,0,0⟩]
def notePa (t : ByteArray) (sv : Value) : Pa := { t := t,sv := sv,p := notePr,lb := { data := #[] },mv := .slice none 0 0,sp := noteSp t,ms := [] }
theorem note_chk {t : ByteArray} (h : noteB t = true) (sv : Value) : chkI (notePa t sv) = 0 := by
 obtain ⟨hn,ha⟩ := note_get h
 have e1 : wrongI (notePa t sv).t = 0 := wrong_ok (show ¬ 4096 < t.size by omega) (fun k hk => by
  rcases kind_vis (ha k hk) with e | e | e <;> (show kindI (bt t k) ≠ 0; rw [e]; decide))
 have e2 : fieldB (notePa t sv).t = false := decide_eq_false (fun ⟨k,hk,e⟩ => by have := (ha k hk).1; have e' : bt t k = 3 := e; omega)
 have e3 : spB (notePa t sv).sp (notePa t sv).t.size = true := by
  show spB (noteSp t) t.size = true
  unfold noteSp
  by_cases h0 : t.size = 0
  ·rw [if_pos h0]
   exact decide_eq_true (by omega)
  ·rw [if_neg h0]
   unfold spB
   rw [if_pos ⟨by show 1 ≤ (t.size : Int); omega,Int.le_refl _,by simp [chB]⟩]
   simp [spB]
 have e4 : keepB (prB (notePa t sv).p) = true := by show keepB (prB notePr) = true; decide
 have e5 : standB (notePa t sv).lb 0 16 = true := by show standB { data := #[] } 0 16 = true; decide
 have e6 : markB (notePa t sv).t (notePa t sv).ms = true := by
  show markB t [] = true
  unfold markB
  rw [cell_ref ha _ (Nat.le_refl _)]; rfl
 unfold chkI restB
 rw [if_pos e1,e2,e3,e4,e5,e6]; rfl
abbrev Nt (t : ByteArray) : Pa := notePa t (.slice none 0 0)
def nm (t : ByteArray) : List Ms := mss (Nt t)
theorem nm_len (t : ByteArray) : (nm t).length = num t := mss_len _
theorem nm_few {t : ByteArray} (h : noteB t = true) : (nm t).length ≤ 4096 := by
 rw [nm_len]
 have := num_le t
 have := (note_get h).1
 omega
theorem note_sp (t : ByteArray) (k : Nat) (hk : k < t.size) : spAt (noteSp t) k = ⟨t.size,0,0,0⟩ := by
 unfold noteSp
 rw [if_neg (by omega)]
 show spAt [⟨t.size,0,0,0⟩] k = _
 unfold spAt lkI
 rw [if_pos (by show (k : Int) < (t.size : Int); omega)]; rfl
theorem nm_q {t : ByteArray} {k : Nat} (hk : k < num t) : (msI (Nt t) k).q = 0 := by
 have hs := num_lt hk
 show meetI _ (fc (Nt t) k) = 0
 have e : (fc (Nt t) k).k = 0 := by
  show (spAt (noteSp t) (st t k : Nat)).k = 0
  rw [note_sp t _ hs]
 unfold meetI
 rw [if_neg (fun hc => by have := hc.2.1; unfold kerB at this; rw [decide_eq_true_eq,e] at this; omega)]
theorem nm_w {t : ByteArray} (h : noteB t = true) {k : Nat} (hk : k < num t) : (0 ≤ (msI (Nt t) k).w ∧ (msI (Nt t) k).w ≤ 64) ∧ (msI (Nt t) k).k ∈ [1,2,3] := by
 have hG := good_of (note_chk h (.slice none 0 0))
 have hs := num_lt hk
 have hf := hG.fok (i := k) hk
 have h1 := (note_get h).2 _ hs
 have hkd := kind_vis h1
 have ht : (fc (Nt t) k).t = 0 := by
  show (spAt (noteSp t) (st t k : Nat)).t = 0
  rw [note_sp t _ hs]
 refine ⟨?_,?_⟩
 ·show 0 ≤ wdI (fc (Nt t) k) (mkAt (Nt t) k) ∧ wdI (fc (Nt t) k) (mkAt (Nt t) k) ≤ 64
  unfold wdI
  have hkd' : (fc (Nt t) k).kd = 1 ∨ (fc (Nt t) k).kd = 2 ∨ (fc (Nt t) k).kd = 3 := hkd
  rw [if_pos hkd',ht,Int.add_zero]
  exact bw_rng (fc (Nt t) k).b hf.s.1 hf.s.2
 ·show kindI (bt t (st t k)) ∈ [1,2,3]
  rcases hkd with e | e | e <;> rw [e] <;> decide
theorem nm_thin {t : ByteArray} (h : noteB t = true) : Thin t (nm t) := by
 have hn : (nm t).length = num t := nm_len t
 have hg : ∀ k (hk : k < (nm t).length),(nm t)[k] = msI (Nt t) k := fun k hk => mss_get _ hk
 have hup : ∀ i k,i ≤ k → st t i ≤ st t (k + 1) := fun i k hik => st_mono t (by omega)
 refine ⟨nm_few h,fun k hk => ?_,fun k hk => ?_,fun k hk => ?_,fun k hk => ?_,fun i k hik hk => ?_⟩
 ·rw [hg]; exact (nm_w h (by omega)).1
 ·rw [hg]; exact nm_q (by omega)
 ·rw [hg]; exact (nm_w h (by omega)).2
 ·rw [hg]
  show (0 : Int) ≤ (st t k : Nat) ∧ ((st t k : Nat) : Int) ≤ (st t (k + 1) : Nat)
  have := hup k k (Nat.le_refl _)
  omega
 ·rw [hg,hg]
  show ((st t i : Nat) : Int) ≤ (st t (k + 1) : Nat)
  have := hup i k hik
  omega
def noteIt (t : ByteArray) : List It := itsL t (nm t) (List.replicate (nm t).length false)
theorem note_items (t : ByteArray) (sv : Value) : itemsOf (notePa t sv) = noteIt t := by
 have hd : ¬ dropB (notePa t sv) := fun h => by
  have h1 : (2 : Int) ≤ (0 : Int) := h.1
  omega
 unfold itemsOf pdOf bodyL
 rw [if_neg hd]
 rfl
theorem sm_few (t : ByteArray) (l : List Ms) (pd : List Bool) (k : Nat) : (smL t l pd k).length ≤ (if k = 0 then 1 else 2) := by
 have hb : (bxL l (frN t l pd k) k).length ≤ (if k = 0 then 0 else 1) := by
  unfold bxL
  by_cases h0 : k = 0
  ·subst h0
   rw [if_neg (by omega)]; simp
  ·rw [if_neg h0]
   split <;> simp
 unfold smL
 split
 ·rw [List.length_append]
  split <;> simp_all
 ·split
  ·rw [List.length_append]
   split <;> simp_all
  ·simp
theorem ou_few (t : ByteArray) (l : List Ms) (pd : List Bool) : ∀ k,(ouL t l pd (k + 1)).length ≤ 2 * k + 1
 | 0 => by
  have := sm_few t l pd 0
  show (ouL t l pd 0 ++ smL t l pd 0).length ≤ _
  rw [List.length_append]
  simp [ouL] at this ⊢
  omega
 | k + 1 => by
  have ih := ou_few t l pd k
  have := sm_few t l pd (k + 1)
  rw [if_neg (by omega)] at this
  show (ouL t l pd (k + 1) ++ smL t l pd (k + 1)).length ≤ _
  rw [List.length_append]
  omega
theorem its_few2 (t : ByteArray) (l : List Ms) (pd : List Bool) : (itsL t l pd).length ≤ 2 * l.length := by
 unfold itsL
 cases h : l.length with
 | zero =>
  rw [List.length_append]
  unfold bxL
  rw [if_neg (by omega)]
  simp [ouL]
 | succ k =>
  have h1 := ou_few t l pd k
  have h2 : (bxL l (frN t l pd (k + 1)) (k + 1)).length ≤ 1 := by
   unfold bxL
   split <;> simp
  rw [List.length_append]
  omega
theorem note_few {t : ByteArray} (h : noteB t = true) : (noteIt t).length ≤ 8192 := by
 have := its_few2 t (nm t) (List.replicate (nm t).length false)
 have := nm_few h
 unfold noteIt
 omega
theorem note_okP {t : ByteArray} (h : noteB t = true) : ∀ x ∈ noteIt t,okP x := fun x hx => by
 unfold noteIt itsL at hx
 rw [List.mem_append] at hx
 rcases hx with hx | hx
 ·exact ou_ok (nm_thin h) (pd_none _) _ (Nat.le_refl _) x hx
 ·exact box_ok (nm_thin h) (Nat.le_refl _) x hx
theorem note_ck {t : ByteArray} (h : noteB t = true) : ckL (noteIt t) = 0 :=
 ck_good (note_few h) fun _k hk => decide_eq_true (note_okP h _ (List.getElem_mem hk))
def ntS (c : Int) : Sl := ⟨14,max (c - 14) 0⟩
theorem ntS_ok {c : Int} (h : 0 ≤ c ∧ c ≤ 4095) : okS (ntS c) = true := decide_eq_true (by
 show (0 ≤ (14 : Int) ∧ (14 : Int) ≤ 4095) ∧ 0 ≤ max (c - 14) 0 ∧ max (c - 14) 0 ≤ 4095
 omega)
theorem note_dr (t : ByteArray) (sv : Value) : drV (notePa t sv) = 0 := by
 have h : capB (notePa t sv) (num t) (msI (notePa t sv) 0).k = false := by
  unfold capB
  rw [decide_eq_false (show ¬ (2 : Int) ≤ (notePa t sv).p.p14 from by show ¬ (2 : Int) ≤ 0; omega)]; rfl
 have h' : capB (notePa t sv) (num (notePa t sv).t) (msI (notePa t sv) 0).k = false := h
 unfold drV
 rw [if_neg (by rw [h']; simp)]
theorem note_tk (t : ByteArray) (sv : Value) : tkP (notePa t sv) = ⟨14,0,0,0,0,0,9223372036854775807⟩ := by
 unfold tkP
 rw [note_dr]; rfl
theorem tk_in {c n : Int} (hc : 0 ≤ c ∧ c ≤ 4095) (hn : n < 9223372036854775807) : tkI ⟨14,0,0,0,0,0,9223372036854775807⟩ n ⟨0,c⟩ 5 = ntS c := by
 have h0 := tk_none (m := 9223372036854775807) (d := 0) (n := n) (ntS_ok hc)
 have e : tkL 14 9223372036854775807 n ⟨0,c⟩ = ntS c := by
  unfold tkL ntS
  rw [if_neg (by omega)]; rfl
 have e2 : tkL 0 9223372036854775807 n (ntS c) = ntS c := by
  unfold tkL
  rw [if_neg (by omega)]
  show (⟨min (14 + 0) 4095,max (max (c - 14) 0 - 0) 0⟩ : Sl) = ⟨14,max (c - 14) 0⟩
  rw [show min ((14 : Int) + 0) 4095 = 14 by omega,show max (max (c - 14) 0 - 0) 0 = max (c - 14) 0 by omega]
 have e3 : tkI ⟨0,0,0,0,0,0,9223372036854775807⟩ n (ntS c) 5 = tkR 0 (tkL 0 0 n (tkL 0 1 n (tkL 0 1 n (tkL 0 9223372036854775807 n (ntS c))))) := rfl
 show tkR 0 (tkL 0 0 n (tkL 0 1 n (tkL 0 1 n (tkL 14 9223372036854775807 n ⟨0,c⟩)))) = ntS c
 rw [e]
 rw [e3,e2] at h0
 exact h0
theorem note_in (t : ByteArray) (sv : Value) {c : Int} (h : 0 ≤ c ∧ c ≤ 4095) : inSs (notePa t sv) [] ⟨0,c⟩ = [ntS c] ∧ inR (notePa t sv) [] ⟨0,c⟩ = ntS c := by
 have hn : inN (notePa t sv) [] = 1 := rfl
 refine ⟨?_,?_⟩
 ·unfold inSs inL'
  rw [hn,note_tk]
  show [tkI ⟨14,0,0,0,0,0,9223372036854775807⟩ (0 : Nat) (slN [] ⟨0,c⟩ 0) 5] = [ntS c]
  rw [slN_out (Nat.zero_le _),tk_in h (by omega)]
 ·unfold inR
  rw [note_tk,hn,tk_in h (by omega)]
def notePl (t : ByteArray) (q : Sl) : List Pc := lsL (noteIt t) [q] q
def noteLs (t : ByteArray) (q : Sl) : List Lx := glL (lyY (Nt t) (noteIt t) [q] q (notePl t q) false) (notePl t q).length
theorem note_exm {t : ByteArray} (h : noteB t = true) {c : Int} (hc : 0 ≤ c ∧ c ≤ 4095) (sv : Value) : Exm (notePa t sv) ⟨0,c⟩ (noteIt t) (notePl t (ntS c)) false (noteLs t (ntS c)) where
 e := by
  unfold paE
  rw [if_neg (by rw [note_chk h]; simp)]
  unfold ckS
  rw [if_neg (by simp),if_pos ⟨decide_eq_true (by show (0 ≤ (0 : Int) ∧ (0 : Int) ≤ 4095) ∧ 0 ≤ c ∧ c ≤ 4095; omega),rfl⟩]
 h12 := by show (0 : Int) ≠ 1; decide
 h14 := by show ¬ (2 : Int) ≤ 0; decide
 it := note_items t sv
 wd := List.all_eq_true.2 fun x hx => decide_eq_true (by
  have := (note_okP h x hx).2.2.2.1
  omega)
 ck := note_ck h
 ps := by rw [(note_in t sv hc).1,(note_in t sv hc).2]; rfl
 few := by have := (lsL_ok (noteIt t) [ntS c] (ntS c)).few; have := note_few h; show (lsL (noteIt t) [ntS c] (ntS c)).length ≤ 9000; omega
 pc := (lsL_ok (noteIt t) [ntS c] (ntS c)).pcs
 ln := by rw [(note_in t sv hc).1,(note_in t sv hc).2]; rfl
end Go.Proofs.YtlgcnbomfhmjiaaGreatDoor

namespace Go.Proofs.YtlgcnbomfhmjiaaGreatDoor
open Go.RowKit Go.Shelf

theorem rec_turns {α : Type} {k : Nat} {f : α → List Value} {X : Nat → Prop} {W W' : World} {g o n c : Nat} {rs : List α} (h : RecAt k f W (.slice (some ⟨g,o,none⟩) n c) rs) (ht : Turns X W W') (hg : ¬ X g) : RecAt k f W' (.slice (some ⟨g,o,none⟩) n c) rs := by
 obtain ⟨⟨a,cap,e,h2⟩,hle⟩ := h
 cases e
 refine ⟨⟨_,_,rfl,?_⟩,hle⟩
 rcases h2 with h2 | ⟨b,o',e,hlt,hc⟩
 ·exact .inl h2
 ·cases e
  refine .inr ⟨g,o,rfl,Nat.lt_of_lt_of_le hlt ht.size,fun i hi j u hu => ?_⟩
  rw [← hc i hi j u hu]
  unfold World.cell?
  rw [ht.block g hlt hg]
theorem PB.set {w : World} {B : Nat} {a : Pa} (h : PB w B a) (b : Pa) : PB (w.setRow B (paC b)) B b := ⟨setRow_heap _ _ _ _ 36 _ h.row⟩
end Go.Proofs.YtlgcnbomfhmjiaaGreatDoor

namespace Go.Proofs.YtlgcnbomfhmjiaaGreatDoor
open Go.RowKit Go.Shelf
set_option maxRecDepth 100000
set_option maxHeartbeats 2000000

theorem ntE_no {t : ByteArray} (h4 : t.size ≤ 4096) {k : Nat} (hk : k < t.size) (h : ¬ (32 ≤ bt t k ∧ bt t k ≤ 126)) : ntE t = 4 := by
 unfold ntE
 have hn : ¬ visB' t = true := fun h' => h ((of_decide_eq_true (show decide (∀ k,k < t.size → 32 ≤ bt t k ∧ bt t k ≤ 126) = true from h')) k hk)
 rw [if_neg (by omega),if_neg hn]
theorem ntE_yes {t : ByteArray} (h4 : t.size ≤ 4096) (h : ∀ k,k < t.size → 32 ≤ bt t k ∧ bt t k ≤ 126) : ntE t = 0 := by
 unfold ntE
 have hn : visB' t = true := decide_eq_true h
 rw [if_neg (by omega),if_pos hn]
theorem nrefuse_any (t : ByteArray) (hsz : t.size ≤ 9223372036854775807) (w : World) : Calls Tryz.prog 24 #[.string t] w fun e w' => e = .returned (.int .i64 (ntE t)) ∧ w' = w := by
 by_cases h200 : t.size ≤ 4096
 ·have hN : Hid (∀ k,k < t.size → ¬ (32 ≤ bt t k ∧ bt t k ≤ 126) → ntE t = 4) := fun k hk h => ntE_no h200 hk h
  have hY : Hid ((∀ k,k < t.size → 32 ≤ bt t k ∧ bt t k ≤ 126) → ntE t = 0) := fun h => ntE_yes h200 h
  have h200' : ¬ (4096 : Int) < t.size := by omega
  generalize ntE t = r at *
  go_enter Tryz.func24,Tryz.ntmps24
  go_wp2_with fail
  go_loopw [9] (fun i wr => ∃ k : Nat,k ≤ t.size ∧ i = .int .i64 k ∧ wr = w ∧ Hid (∀ j,j < k → 32 ≤ bt t j ∧ bt t j ≤ 126)) (fun i _ => t.size - (intOf i).toNat)
  case atStart => exact ⟨0,by omega,rfl,rfl,fun j hj => by omega⟩
  case round =>
   obtain ⟨k,hk,rfl,rfl,hall⟩ := hrel
   by_cases hlt : k < t.size
   ·have hb0 : Hid (bt t k = ((t[k]'hlt).toNat : Int)) := bt_eq hlt
    have hlt' : (k : Int) < t.size := by omega
    by_cases d0 : ((t[k]'hlt).toNat : Int) < 32
    ·have hr : 4 = r := ((hN.out k hlt (by rw [hb0.out]; omega)).symm)
     subst hr
     clear hN hY hb0 hall
     go_wp2_with fail
     go_ret
     exact ⟨rfl,rfl⟩
    ·by_cases d1 : 126 < ((t[k]'hlt).toNat : Int)
     ·have hr : 4 = r := ((hN.out k hlt (by rw [hb0.out]; omega)).symm)
      subst hr
      clear hN hY hb0 hall
      go_wp2_with fail
      go_ret
      exact ⟨rfl,rfl⟩
     ·have hn : Hid (∀ j,j < k + 1 → 32 ≤ bt t j ∧ bt t j ≤ 126) := fun j hj => by
       by_cases e : j = k
       ·subst e; rw [hb0.out]; omega
       ·exact hall.out j (by omega)
      clear hb0 hall
      go_wp2_with fail
      go_roundw
      case rel => exact ⟨k + 1,by omega,by simp,by first | rfl | trivial,hn⟩
      case measure => simp [intOf]; omega
   ·obtain rfl : k = t.size := by omega
    have hr : 0 = r := (hY.out hall.out).symm
    subst hr
    clear hN hY hall
    go_wp2_with fail
    go_ret
    exact ⟨rfl,rfl⟩
 ·have e : ntE t = 3 := if_pos (by omega)
  have h200' : (4096 : Int) < t.size := by omega
  rw [e]
  clear e
  go_enter Tryz.func24,Tryz.ntmps24
  go_wp2_with fail
  go_ret
  exact ⟨rfl,rfl⟩

def prC : Array Value := #[.int .i64 8,.int .i64 10,.int .i64 0,.int .i64 0,.int .i64 14,.int .i64 0,.int .i64 0,.int .i64 0,.int .i64 0,.int .i64 0,.int .i64 1,.int .i64 1,.int .i64 0,.int .i64 0,.int .i64 0,.int .i64 0,.int .i64 0]
def prZ : Array Value := #[.int .i64 0,.int .i64 0,.int .i64 0,.int .i64 0,.int .i64 0,.int .i64 0,.int .i64 0,.int .i64 0,.int .i64 0,.int .i64 0,.int .i64 0,.int .i64 0,.int .i64 0,.int .i64 0,.int .i64 0,.int .i64 0,.int .i64 0]
theorem infoPr : (Tryz.prog.info? 33).map (·.size) = some prC.size := by kernel_rfl
theorem prC_one : prC.all (·.oneCell') = true := by simp [prC,Value.oneCell']
theorem nprops_any (w : World) : Calls Tryz.prog 31 #[] w fun e w' => e = .returned (.agg prC) ∧ Below w.heap.size w w' := by
 have hB0 := (Below.refl w.heap.size w).alloc (Nat.le_refl _) (.cells prZ 33)
 have k0 : (w.alloc (.cells prZ 33)).heap[w.heap.size]? = some (.cells prZ 33 (0,0)) := World.alloc_heap_new w _
 have hT := Turns.setRow (X := fun j => j = w.heap.size) (w.alloc (.cells prZ 33)) (r := w.heap.size) rfl prC
 have hB := hB0.trans (hT.below hB0.size (fun j hj => by omega))
 have jn := setRow_heap (w.alloc (.cells prZ 33)) w.heap.size _ prC _ _ k0
 clear hT hB0
 go_enter Tryz.func31,Tryz.ntmps31
 go_wp2_with (refine wpList_store_row rfl 33 _ _ rfl w.heap.size prC rfl rfl 33 _ k0 infoPr rfl prC_one ?_)
 exact bodyPost_ret (results_cell_row rfl _ _ w.heap.size 33 prC (0,0) _ rfl jn Tryz.underlying33 rfl infoPr) rfl ⟨rfl,hB⟩

end Go.Proofs.YtlgcnbomfhmjiaaGreatDoor

namespace Go.Proofs.YtlgcnbomfhmjiaaGreatDoor
open Go.RowKit Go.Shelf
set_option maxRecDepth 100000
set_option maxHeartbeats 4000000

theorem npaC_any (a : Pa) (h1 : a.sv.oneCell' = true) (h2 : a.mv.oneCell' = true) : (paC a).all (·.oneCell') = true := by simp [paC,Value.oneCell']; exact ⟨h1,h2⟩
def npZ : Pa := { t := { data := #[] },sv := .slice none 0 0,p := ⟨0,0,0,0,0,0,0,0,0,0,0,0,0,0,0,0,0⟩,lb := { data := #[] },mv := .slice none 0 0,sp := [],ms := [] }
theorem nempty (s : ByteArray) : s.toList.isEmpty = decide (s.size = 0) := by
 rw [ByteArray.toList_eq]
 show s.data.toList.isEmpty = decide (s.data.size = 0)
 rcases h : s.data.toList with _ | ⟨x,r⟩
 ·have : s.data.size = 0 := by rw [← Array.length_toList,h]; rfl
  rw [this]; rfl
 ·have : s.data.size ≠ 0 := by rw [← Array.length_toList,h]; simp
  rw [decide_eq_false this]; rfl
theorem nspL_len (r : Sp) : (spL r).length = 4 := rfl
theorem npaC_one (t : ByteArray) (sv : Value) (h : sv.oneCell' = true) : (paC (notePa t sv)).all (·.oneCell') = true := npaC_any _ h rfl
theorem PB.setN {w : World} {B : Nat} {t : ByteArray} {sv : Value} (h : PB w B (notePa t sv)) (u : Value) : PB (w.setCell ⟨B,1,none⟩ u) B (notePa t u) := ⟨heap_setCell_same w B 1 _ 36 _ h.row⟩
def NpEnd (t : ByteArray) (w : World) (e : Ending) (w' : World) : Prop := ∃ sv,e = .returned (paV (notePa t sv)) ∧ PaAt w' (notePa t sv) ∧ Below w.heap.size w w'
theorem npara_any (t : ByteArray) (_hsz : t.size ≤ 9223372036854775807) (w : World) : Calls Tryz.prog 14 #[.string t] w (NpEnd t w) := by
 have hE : Hid (∀ sv W,PaAt W (notePa t sv) → Below w.heap.size w W → NpEnd t w (.returned (paV (notePa t sv))) W) := fun sv W h1 h2 => ⟨sv,rfl,h1,h2⟩
 have hfirst : Hid (∀ w1,Below (w.alloc (.cells (paC npZ) 36)).heap.size (w.alloc (.cells (paC npZ) 36)) w1 → ∃ w2,w.heap.size < w1.heap.size ∧ PB (w1.alloc (.cells (paC npZ) 36)) w1.heap.size npZ ∧ (w1.alloc (.cells (paC npZ) 36)).setRow w1.heap.size (paC (notePa t (.slice none 0 0))) = w2 ∧ w2.heap.size = w1.heap.size + 1 ∧ PB w2 w1.heap.size (notePa t (.slice none 0 0)) ∧ PB w2 w.heap.size npZ ∧ Below w.heap.size w w2) := fun w1 hb1 => by
  have hs0 : (w.alloc (.cells (paC npZ) 36)).heap.size = w.heap.size + 1 := World.size_alloc _ _
  have hB0 := (Below.refl w.heap.size w).alloc (Nat.le_refl _) (.cells (paC npZ) 36)
  have hP0 := PB.new w npZ
  have hz := hb1.size
  have hP1 : PB w1 w.heap.size npZ := ⟨(hb1.block _ (by omega)).trans hP0.row⟩
  have hB1 := hB0.trans (hb1.mono (by omega))
  have hP2 := PB.new w1 npZ
  have hP12 := hP1.turns (Turns.alloc Noth _ (.cells (paC npZ) 36)) (fun h => h)
  have hB2 := hB1.alloc hB1.size (.cells (paC npZ) 36)
  have hT := Turns.setRow (X := fun b => b = w1.heap.size) (w1.alloc (.cells (paC npZ) 36)) (r := w1.heap.size) rfl (paC (notePa t (.slice none 0 0)))
  exact ⟨_,by omega,hP2,rfl,by simp,hP2.set (notePa t (.slice none 0 0)),hP12.turns hT (by omega),hB2.trans (hT.below hB2.size (fun b hb => by omega))⟩
 by_cases h0 : t.size = 0
 ·have hsp : noteSp t = [] := if_pos h0
  have hq : t.toList.isEmpty = true := by rw [nempty]; exact decide_eq_true h0
  have hA : Hid (∀ W,PaAt W (notePa t (.slice none 0 0))) := fun W =>
   ⟨⟨⟨none,0,by show _ = Value.slice none (noteSp t).length 0; rw [hsp]; rfl,.inl hsp⟩,fun a n c e => by cases e; exact Nat.le_refl _⟩,⟨⟨none,0,rfl,.inl rfl⟩,fun a n c e => by cases e; exact Nat.le_refl _⟩,by show (noteSp t).length ≤ _ ∧ 0 ≤ _; rw [hsp]; exact ⟨by show 0 ≤ _; omega,by omega⟩⟩
  clear h0 hsp
  go_enter Tryz.func14,Tryz.ntmps14
  go_wp2_with (first | (go_at_call 31; refine (nprops_any _).mono ?_; rintro e w1 ⟨rfl,hb1⟩; unfold prC; obtain ⟨w2,hlt,hP1,hw2,hs2,hP2,hP02,hB2⟩ := hfirst.out w1 hb1; clear hfirst hb1) | (refine wpList_store_row rfl 36 _ _ rfl w1.heap.size (paC (notePa t (.slice none 0 0))) rfl rfl 36 _ hP1.row (info34 _) rfl (npaC_one t _ rfl) ?_; refine Eq.mp (congrArg (wpList Tryz.prog _ _ _ _) hw2.symm) ?_) | (refine wpList_load_row rfl 36 _ rfl w1.heap.size rfl 36 _ (0,0) _ hP2.row Tryz.underlying36 rfl (info34 (notePa t (.slice none 0 0))) ?_) | (refine wpList_store_row rfl 36 _ _ rfl w.heap.size (paC (notePa t (.slice none 0 0))) rfl rfl 36 _ hP02.row (info34 _) rfl (npaC_one t _ rfl) ?_))
  have hT5 := Turns.setRow (X := fun b => b = w.heap.size) w2 (r := w.heap.size) rfl (paC (notePa t (.slice none 0 0)))
  exact bodyPost_ret (results_cell_row rfl _ _ w.heap.size 36 (paC (notePa t (.slice none 0 0))) (0,0) _ rfl (hP02.set (notePa t (.slice none 0 0))).row Tryz.underlying36 rfl (info34 _)) rfl (hE.out _ _ (hA.out _) (hB2.trans (hT5.below hB2.size (fun b hb => by omega))))
 ·have hq : t.toList.isEmpty = false := by rw [nempty]; exact decide_eq_false h0
  have hsp : noteSp t = [⟨t.size,0,0,0⟩] := if_neg h0
  have hA : Hid (∀ W g,RecAt 4 spL W (.slice (some ⟨g,0,none⟩) 1 1) [⟨t.size,0,0,0⟩] → PaAt W (notePa t (.slice (some ⟨g,0,none⟩) 1 1))) := fun W g h =>
   ⟨by show RecAt 4 spL W _ (noteSp t); rw [hsp]; exact h,⟨⟨none,0,rfl,.inl rfl⟩,fun a n c e => by cases e; exact Nat.le_refl _⟩,by show (noteSp t).length ≤ _ ∧ 0 ≤ _; rw [hsp]; exact ⟨by show 1 ≤ _; omega,by omega⟩⟩
  have hsec : Hid (∀ w1 w2 : World,w.heap.size < w1.heap.size → w2.heap.size = w1.heap.size + 1 → PB w2 w1.heap.size (notePa t (.slice none 0 0)) → PB w2 w.heap.size npZ → Below w.heap.size w w2 → PB ((w2.setCell ⟨w1.heap.size,1,none⟩ (.slice (some ⟨w1.heap.size + 1,0,none⟩) 1 1)).alloc (.cells #[.int .i64 (t.size : Nat),.int .i64 0,.int .i64 0,.int .i64 0] 61)) w1.heap.size (notePa t (.slice (some ⟨w1.heap.size + 1,0,none⟩) 1 1)) ∧ PB ((w2.setCell ⟨w1.heap.size,1,none⟩ (.slice (some ⟨w1.heap.size + 1,0,none⟩) 1 1)).alloc (.cells #[.int .i64 (t.size : Nat),.int .i64 0,.int .i64 0,.int .i64 0] 61)) w.heap.size npZ ∧ PB (((w2.setCell ⟨w1.heap.size,1,none⟩ (.slice (some ⟨w1.heap.size + 1,0,none⟩) 1 1)).alloc (.cells #[.int .i64 (t.size : Nat),.int .i64 0,.int .i64 0,.int .i64 0] 61)).setRow w.heap.size (paC (notePa t (.slice (some ⟨w1.heap.size + 1,0,none⟩) 1 1)))) w.heap.size (notePa t (.slice (some ⟨w1.heap.size + 1,0,none⟩) 1 1)) ∧ PaAt (((w2.setCell ⟨w1.heap.size,1,none⟩ (.slice (some ⟨w1.heap.size + 1,0,none⟩) 1 1)).alloc (.cells #[.int .i64 (t.size : Nat),.int .i64 0,.int .i64 0,.int .i64 0] 61)).setRow w.heap.size (paC (notePa t (.slice (some ⟨w1.heap.size + 1,0,none⟩) 1 1)))) (notePa t (.slice (some ⟨w1.heap.size + 1,0,none⟩) 1 1)) ∧ Below w.heap.size w (((w2.setCell ⟨w1.heap.size,1,none⟩ (.slice (some ⟨w1.heap.size + 1,0,none⟩) 1 1)).alloc (.cells #[.int .i64 (t.size : Nat),.int .i64 0,.int .i64 0,.int .i64 0] 61)).setRow w.heap.size (paC (notePa t (.slice (some ⟨w1.heap.size + 1,0,none⟩) 1 1))))) := fun w1 w2 hlt hs2 hP2 hP02 hB2 => by
   have hT3 := Turns.setCell (X := fun b => b = w1.heap.size) w2 (p := ⟨w1.heap.size,1,none⟩) rfl (.slice (some ⟨w1.heap.size + 1,0,none⟩) 1 1)
   have hP3 := hP2.setN (.slice (some ⟨w1.heap.size + 1,0,none⟩) 1 1)
   have hP03 := hP02.turns hT3 (by omega)
   have hB3 := hB2.trans (hT3.below hB2.size (fun b hb => by omega))
   have hs3 : (w2.setCell ⟨w1.heap.size,1,none⟩ (.slice (some ⟨w1.heap.size + 1,0,none⟩) 1 1)).heap.size = w1.heap.size + 1 := by simp; exact hs2
   have hR4 := rec_new (k := 4) nspL_len (w2.setCell ⟨w1.heap.size,1,none⟩ (.slice (some ⟨w1.heap.size + 1,0,none⟩) 1 1)) 61 [⟨(t.size : Nat),0,0,0⟩]
   rw [hs3] at hR4
   have hP4 := hP3.turns (Turns.alloc Noth _ (.cells #[.int .i64 (t.size : Nat),.int .i64 0,.int .i64 0,.int .i64 0] 61)) (fun h => h)
   have hP04 := hP03.turns (Turns.alloc Noth _ (.cells #[.int .i64 (t.size : Nat),.int .i64 0,.int .i64 0,.int .i64 0] 61)) (fun h => h)
   have hB4 := hB3.alloc hB3.size (.cells #[.int .i64 (t.size : Nat),.int .i64 0,.int .i64 0,.int .i64 0] 61)
   have hT5 := Turns.setRow (X := fun b => b = w.heap.size) ((w2.setCell ⟨w1.heap.size,1,none⟩ (.slice (some ⟨w1.heap.size + 1,0,none⟩) 1 1)).alloc (.cells #[.int .i64 (t.size : Nat),.int .i64 0,.int .i64 0,.int .i64 0] 61)) (r := w.heap.size) rfl (paC (notePa t (.slice (some ⟨w1.heap.size + 1,0,none⟩) 1 1)))
   exact ⟨hP4,hP04,hP04.set _,hA.out _ _ (rec_turns hR4 hT5 (by omega)),hB4.trans (hT5.below hB4.size (fun b hb => by omega))⟩
  clear hsp h0 hA
  go_enter Tryz.func14,Tryz.ntmps14
  go_wp2_with (first | (go_at_call 31; refine (nprops_any _).mono ?_; rintro e w1 ⟨rfl,hb1⟩; unfold prC; obtain ⟨w2,hlt,hP1,hw2,hs2,hP2,hP02,hB2⟩ := hfirst.out w1 hb1; clear hfirst hb1; have c1 := hP2.c1; have z1 : w2.frozen? ⟨w1.heap.size,1,none⟩ = false := Lib.frozen_of_heap hP2.row _; obtain ⟨hP4,hP04,hP05,hA5,hB5⟩ := hsec.out w1 w2 hlt hs2 hP2 hP02 hB2; clear hsec hP2 hP02 hB2) | (refine wpList_store_row rfl 36 _ _ rfl w1.heap.size (paC (notePa t (.slice none 0 0))) rfl rfl 36 _ hP1.row (info34 _) rfl (npaC_one t _ rfl) ?_; refine Eq.mp (congrArg (wpList Tryz.prog _ _ _ _) hw2.symm) ?_) | (refine wpList_load_row rfl 36 _ rfl w1.heap.size rfl 36 _ (0,0) _ hP4.row Tryz.underlying36 rfl (info34 (notePa t (.slice (some ⟨w1.heap.size + 1,0,none⟩) 1 1))) ?_) | (refine wpList_store_row rfl 36 _ _ rfl w.heap.size (paC (notePa t (.slice (some ⟨w1.heap.size + 1,0,none⟩) 1 1))) rfl rfl 36 _ hP04.row (info34 _) rfl (npaC_any _ rfl rfl) ?_))
  exact bodyPost_ret (results_cell_row rfl _ _ w.heap.size 36 (paC (notePa t (.slice (some ⟨w1.heap.size + 1,0,none⟩) 1 1))) (0,0) _ rfl hP05.row Tryz.underlying36 rfl (info34 _)) rfl (hE.out _ _ hA5 hB5)
end Go.Proofs.YtlgcnbomfhmjiaaGreatDoor

namespace Go.Proofs.YtlgcnbomfhmjiaaGreatDoor
open Go.RowKit Go.Shelf
set_option maxRecDepth 100000
set_option maxHeartbeats 4000000

def NlEnd (t : ByteArray) (c : Int) (w : World) (e : Ending) (w' : World) : Prop := ((ntE t ≠ 0 ∧ e = .returned (.tuple #[.slice none 0 0,.int .i64 (ntE t)])) ∨ (ntE t = 0 ∧ ¬ (0 ≤ c ∧ c ≤ 4095) ∧ e = .returned (.tuple #[.slice none 0 0,.int .i64 5])) ∨ (ntE t = 0 ∧ (0 ≤ c ∧ c ≤ 4095) ∧ ∃ g,w.heap.size ≤ g ∧ e = .returned (.tuple #[.slice (some ⟨g,0,none⟩) (noteLs t (ntS c)).length (noteLs t (ntS c)).length,.int .i64 0]) ∧ LxsAt w' (.slice (some ⟨g,0,none⟩) (noteLs t (ntS c)).length (noteLs t (ntS c)).length) (noteLs t (ntS c)))) ∧ Below w.heap.size w w'
theorem nlay_any (t : ByteArray) (hsz : t.size ≤ 9223372036854775807) (c : Int) (w : World) : Calls Tryz.prog 8 #[.string t,.int .i64 c] w (NlEnd t c w) := by
 by_cases hE : ntE t = 0
 ·by_cases h0 : c < 0
  ·have hend : Hid (NlEnd t c w (.returned (.tuple #[.slice none 0 0,.int .i64 5])) w) := ⟨.inr (.inl ⟨hE,by omega,rfl⟩),Below.refl _ _⟩
   generalize NlEnd t c w = E at *
   go_enter Tryz.func8,Tryz.ntmps8
   go_wp2_with (go_at_call 24; refine (nrefuse_any t hsz _).mono ?_; rw [hE]; rintro e w1 ⟨rfl,rfl⟩)
   exact hend.out
  ·by_cases h1 : 4095 < c
   ·have hend : Hid (NlEnd t c w (.returned (.tuple #[.slice none 0 0,.int .i64 5])) w) := ⟨.inr (.inl ⟨hE,by omega,rfl⟩),Below.refl _ _⟩
    generalize NlEnd t c w = E at *
    go_enter Tryz.func8,Tryz.ntmps8
    go_wp2_with (go_at_call 24; refine (nrefuse_any t hsz _).mono ?_; rw [hE]; rintro e w1 ⟨rfl,rfl⟩)
    exact hend.out
   ·have hc : 0 ≤ c ∧ c ≤ 4095 := by omega
    have hend : Hid (∀ g W,w.heap.size ≤ g → LxsAt W (.slice (some ⟨g,0,none⟩) (noteLs t (ntS c)).length (noteLs t (ntS c)).length) (noteLs t (ntS c)) → Below w.heap.size w W → NlEnd t c w (.returned (.tuple #[.slice (some ⟨g,0,none⟩) (noteLs t (ntS c)).length (noteLs t (ntS c)).length,.int .i64 0])) W) := fun g W hg hu hb => ⟨.inr (.inr ⟨hE,hc,g,hg,rfl,hu⟩),hb⟩
    have hl : Hid (∀ sv W,PaAt W (notePa t sv) → Calls Tryz.prog 25 #[paV (notePa t sv),.slice none 0 0,.agg #[.int .i64 0,.int .i64 c]] W fun e w' => (∃ g,W.heap.size ≤ g ∧ e = .returned (.tuple #[.slice (some ⟨g,0,none⟩) (noteLs t (ntS c)).length (noteLs t (ntS c)).length,.int .i64 0]) ∧ LxsAt w' (.slice (some ⟨g,0,none⟩) (noteLs t (ntS c)).length (noteLs t (ntS c)).length) (noteLs t (ntS c))) ∧ Below W.heap.size W w') := fun sv W hA => by
     refine (lay_fit (note_exm (ntE_ok hE) hc sv) (by show ¬ (0 : Int) = 1; omega) W hA).mono ?_
     rintro e w' ⟨⟨g,hg,rfl,hu⟩,hb⟩
     have e1 : (notePl t (ntS c)).length = (noteLs t (ntS c)).length := glL_len.symm
     rw [e1] at hu ⊢
     exact ⟨⟨g,hg,rfl,hu⟩,hb⟩
    clear hc
    generalize NlEnd t c w = E at *
    generalize noteLs t (ntS c) = ls at *
    go_enter Tryz.func8,Tryz.ntmps8
    go_wp2_with (first | (go_at_call 24; refine (nrefuse_any t hsz _).mono ?_; rw [hE]; rintro e w1 ⟨rfl,rfl⟩) | (go_at_call 14; refine (npara_any t hsz _).mono ?_; rintro e w1 ⟨sv,rfl,hA,hb1⟩) | (go_at_call 25; refine (hl.out sv w1 hA).mono ?_; rintro e w2 ⟨⟨g,hg,rfl,hu⟩,hb2⟩))
    exact hend.out g w2 (Nat.le_trans hb1.size hg) hu (hb1.trans (hb2.mono hb1.size))
 ·have hend : Hid (NlEnd t c w (.returned (.tuple #[.slice none 0 0,.int .i64 (ntE t)])) w) := ⟨.inl ⟨hE,rfl⟩,Below.refl _ _⟩
  have hr := nrefuse_any t hsz w
  generalize NlEnd t c w = E at *
  generalize ntE t = x at *
  go_enter Tryz.func8,Tryz.ntmps8
  go_wp2_with (go_at_call 24; refine hr.mono ?_; rintro e w1 ⟨rfl,rfl⟩)
  exact hend.out
end Go.Proofs.YtlgcnbomfhmjiaaGreatDoor

namespace Go.Proofs.YtlgcnbomfhmjiaaGreatDoor
open Go.RowKit Go.Shelf
attribute [local go_sem] Oper.semAt_some wide_fn wide_depth

theorem rec_any {α : Type} {k : Nat} {f : α → List Value} {X : Nat → Prop} {W W' : World} {v : Value} {rs : List α} (h : RecAt k f W v rs) (ht : Turns X W W') (hg : ∀ g,v.ownBlock = some g → ¬ X g) : RecAt k f W' v rs := by
 obtain ⟨⟨a,cap,rfl,h2⟩,hle⟩ := h
 refine ⟨⟨_,_,rfl,?_⟩,hle⟩
 rcases h2 with h2 | ⟨b,o',rfl,hlt,hc⟩
 ·exact .inl h2
 ·refine .inr ⟨b,o',rfl,Nat.lt_of_lt_of_le hlt ht.size,fun i hi j u hu => ?_⟩
  rw [← hc i hi j u hu]
  unfold World.cell?
  rw [ht.block b hlt (hg b rfl)]

end Go.Proofs.YtlgcnbomfhmjiaaGreatDoor

namespace Go.Proofs.YtlgcnbomfhmjiaaGreatDoor
open Go.RowKit Go.Shelf

theorem owns_slice {W : World} {base : Nat} {e : TypeId} {size : Nat} {v : Value} {n : Nat} {xs : List Value} (h : W.ownsRow base e size v n xs) : ∃ a c,v = .slice a n c := by
 rcases h.2 with ⟨rfl,rfl⟩ | ⟨g,cap,cur,rfl,-⟩
 ·exact ⟨none,0,rfl⟩
 ·exact ⟨_,cap,rfl⟩

end Go.Proofs.YtlgcnbomfhmjiaaGreatDoor

namespace Go.Proofs.YtlgcnbomfhmjiaaGreatDoor
open Go.RowKit Go.Shelf
set_option maxRecDepth 100000
set_option maxHeartbeats 4000000

theorem sameLines_yes (v u : Value) (qs : List Lx) (w : World) (hl : qs.length ≤ 9223372036854775807) (hS : LxsAt w v qs) (hR : LxsAt w u qs) :
  Calls Tryz.prog 12 #[v,u] w fun e w' => e = .returned (.bool true) ∧ Below w.heap.size w w' := by
 obtain ⟨a,cap,rfl,h2⟩ := hS.ex
 obtain ⟨a',cap',rfl,h3⟩ := hR.ex
 clear hS hR
 go_enter Tryz.func12,Tryz.ntmps12
 go_wp2_with fail
 go_loopw [5] (fun i wr => ∃ k : Nat,k ≤ qs.length ∧ i = .int .i64 k ∧ Below w.heap.size w wr) (fun i _ => qs.length - (intOf i).toNat)
 case atStart => exact ⟨0,by omega,rfl,Below.refl _ _⟩
 case round =>
  obtain ⟨k,hk,rfl,hb⟩ := hrel
  by_cases hlt : k < qs.length
  ·rcases h2 with h2 | ⟨b,o,rfl,hbl,hc⟩
   ·rw [h2] at hlt; simp at hlt
   ·rcases h3 with h3 | ⟨b',o',rfl,hbl',hc'⟩
    ·rw [h3] at hlt; simp at hlt
    ·have hlt' : (k : Int) < qs.length := by omega
     have c0 : wr.cell? ⟨b,o + k * 7,none⟩ = some (.int .i64 (qs[k]).f) := (hb.cell hbl).trans (hc k hlt 0 _ rfl)
     have c1 : wr.cell? ⟨b,o + k * 7 + 1,none⟩ = some (.int .i64 (qs[k]).t) := (hb.cell hbl).trans (hc k hlt 1 _ rfl)
     have c2 : wr.cell? ⟨b,o + k * 7 + 2,none⟩ = some (.int .i64 (qs[k]).x) := (hb.cell hbl).trans (hc k hlt 2 _ rfl)
     have c3 : wr.cell? ⟨b,o + k * 7 + 3,none⟩ = some (.int .i64 (qs[k]).w) := (hb.cell hbl).trans (hc k hlt 3 _ rfl)
     have c4 : wr.cell? ⟨b,o + k * 7 + 4,none⟩ = some (.int .i64 (qs[k]).nt) := (hb.cell hbl).trans (hc k hlt 4 _ rfl)
     have c5 : wr.cell? ⟨b,o + k * 7 + 5,none⟩ = some (.bool (qs[k]).hy) := (hb.cell hbl).trans (hc k hlt 5 _ rfl)
     have c6 : wr.cell? ⟨b,o + k * 7 + 6,none⟩ = some (.int .i64 (qs[k]).fl) := (hb.cell hbl).trans (hc k hlt 6 _ rfl)
     have d0 : wr.cell? ⟨b',o' + k * 7,none⟩ = some (.int .i64 (qs[k]).f) := (hb.cell hbl').trans (hc' k hlt 0 _ rfl)
     have d1 : wr.cell? ⟨b',o' + k * 7 + 1,none⟩ = some (.int .i64 (qs[k]).t) := (hb.cell hbl').trans (hc' k hlt 1 _ rfl)
     have d2 : wr.cell? ⟨b',o' + k * 7 + 2,none⟩ = some (.int .i64 (qs[k]).x) := (hb.cell hbl').trans (hc' k hlt 2 _ rfl)
     have d3 : wr.cell? ⟨b',o' + k * 7 + 3,none⟩ = some (.int .i64 (qs[k]).w) := (hb.cell hbl').trans (hc' k hlt 3 _ rfl)
     have d4 : wr.cell? ⟨b',o' + k * 7 + 4,none⟩ = some (.int .i64 (qs[k]).nt) := (hb.cell hbl').trans (hc' k hlt 4 _ rfl)
     have d5 : wr.cell? ⟨b',o' + k * 7 + 5,none⟩ = some (.bool (qs[k]).hy) := (hb.cell hbl').trans (hc' k hlt 5 _ rfl)
     have d6 : wr.cell? ⟨b',o' + k * 7 + 6,none⟩ = some (.int .i64 (qs[k]).fl) := (hb.cell hbl').trans (hc' k hlt 6 _ rfl)
     clear hc hc'
     generalize qs[k].f = x0 at *
     generalize qs[k].t = x1 at *
     generalize qs[k].x = x2 at *
     generalize qs[k].w = x3 at *
     generalize qs[k].nt = x4 at *
     generalize qs[k].hy = x5 at *
     generalize qs[k].fl = x6 at *
     go_wp2_with fail
     go_quiet (fail)
     go_wp2_with fail
     go_roundw
     case rel => exact ⟨k + 1,by omega,by simp,below_drewN hb _⟩
     case measure => simp [intOf]; omega
  ·have hge : ¬ (k : Int) < qs.length := by omega
   go_wp2_with fail
   go_ret
   exact ⟨rfl,hb⟩

end Go.Proofs.YtlgcnbomfhmjiaaGreatDoor

namespace Go.Proofs.YtlgcnbomfhmjiaaGreatDoor
open Go.RowKit Go.Shelf

theorem fm_one {α : Type} {f : α → List Value} (h1 : ∀ a,∀ u ∈ f a,u.oneCell' = true) (ps : List α) : ∀ u ∈ ps.flatMap f,u.oneCell' = true := by
 intro u hu
 obtain ⟨p,_,hp⟩ := List.mem_flatMap.1 hu
 exact h1 p u hp

theorem rec_srcs {α : Type} {k : Nat} {f : α → List Value} (hf : ∀ a,(f a).length = k) (h1 : ∀ a,∀ u ∈ f a,u.oneCell' = true) (hk : 0 < k) {W : World} {v : Value} {rs : List α} (h : RecAt k f W v rs) : Srcs W k v rs.length (rs.flatMap f) := by
 refine ⟨fm_len hf rs,fm_one h1 rs,?_⟩
 obtain ⟨a,cap,rfl,h2⟩ := h.ex
 rcases h2 with rfl | ⟨b,o,rfl,hlt,hc⟩
 ·cases a with
  | none => exact .inl ⟨rfl,cap,rfl⟩
  | some a => exact .inr ⟨a,cap,rfl,fun j u hu => by simp at hu⟩
 ·refine .inr ⟨_,cap,rfl,fun j u hu => ?_⟩
  have hj : j < rs.length * k := by rw [← fm_len hf]; exact (List.getElem?_eq_some_iff.1 hu).1
  have hi : j / k < rs.length := by rw [Nat.div_lt_iff_lt_mul hk]; omega
  have hm : j % k < k := Nat.mod_lt _ hk
  have hg := fm_get hf rs hi (j % k) hm
  have hjj : j / k * k + j % k = j := by have := Nat.div_add_mod j k; rw [Nat.mul_comm] at this; exact this
  rw [hjj,hu] at hg
  have := hc (j / k) hi (j % k) u hg.symm
  rw [addr_add]
  rw [← this]
  congr 2
  omega
end Go.Proofs.YtlgcnbomfhmjiaaGreatDoor
