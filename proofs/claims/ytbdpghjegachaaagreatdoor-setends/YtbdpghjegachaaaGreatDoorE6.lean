/-
  What is proved here: how wide a cluster is, and how much nearer it stands, as wide, isKerned and meet tell it.
  What is proved here: the masses of a paragraph (no program is named): what they are, how many marks are used.
  What is proved here: regions of Masses whose operations come up in any order.
-/
import Derived.Test.YtbdpghjegachaaaGreatDoorE5
import Derived.Test.YtbdpghjegachaaaGreatDoorE2
import Derived.Test.YtbdpghjegachaaaGreatDoorE1
namespace Go.Proofs.YtbdpghjegachaaaGreatDoor
open Go.RowKit Go.Shelf
set_option maxRecDepth 100000
set_option maxHeartbeats 1000000

structure Fc where
 kd : Int
 b : Int
 s : Int
 t : Int
 k : Int
def fcC (f : Fc) : Array Value := #[.int .i64 f.kd,.int .u8 f.b,.int .i64 f.s,.int .i64 f.t,.int .i64 f.k]
def fcV (f : Fc) : Value := .agg (fcC f)
structure Fok (f : Fc) : Prop where
 s : 0 ≤ f.s ∧ f.s ≤ 64
 t : 0 ≤ f.t ∧ f.t ≤ 15
 b : 0 ≤ f.b ∧ f.b < 256
def wdI (f : Fc) (m : ByteArray) : Int := if f.kd = 1 ∨ f.kd = 2 ∨ f.kd = 3 then bw f.b f.s + f.t else if f.kd = 7 then widthI m f.s else 0
def kerB (f : Fc) : Bool := decide (f.k = 1 ∧ (f.kd = 1 ∨ f.kd = 2))
def meetI (a f : Fc) : Int := if kerB a = true ∧ kerB f = true ∧ a.s = f.s then kernI a.b f.b f.s else 0

theorem wide_any (f : Fc) (hf : Fok f) (m : ByteArray) (hm : m.size ≤ 4096) (w : World) : Calls Tryz.prog 47 #[fcV f,.string m] w fun e w' => e = .returned (.int .i64 (wdI f m)) ∧ Below w.heap.size w w' := by
 obtain ⟨kd,b,s,t,k⟩ := f
 obtain ⟨⟨s0,s1⟩,⟨t0,t1⟩,hb⟩ := hf
 simp only at s0 s1 t0 t1 hb
 have hB := (Below.refl w.heap.size w).alloc (Nat.le_refl _) (Obj.cells #[.int .i64 kd,.int .u8 b,.int .i64 s,.int .i64 t,.int .i64 k] 98)
 have hE := em_any b
 obtain ⟨hm0,hm1⟩ := bw_mul b s0 s1
 have hd : (emI b * s).tdiv 8 = emI b * s / 8 := Int.tdiv_eq_ediv_of_nonneg hm0
 have hW := width_any m s s0 s1 hm
 have hvis : Hid ((kd = 1 ∨ kd = 2 ∨ kd = 3) → wdI ⟨kd,b,s,t,k⟩ m = emI b * s / 8 + t) := fun h => if_pos h
 have href : Hid (kd = 7 → wdI ⟨kd,b,s,t,k⟩ m = widthI m s) := fun h => by unfold wdI; simp only; rw [if_neg (by omega),if_pos h]
 have hno : Hid (¬ (kd = 1 ∨ kd = 2 ∨ kd = 3) → kd ≠ 7 → wdI ⟨kd,b,s,t,k⟩ m = 0) := fun h h7 => by unfold wdI; simp only; rw [if_neg h,if_neg h7]
 generalize wdI ⟨kd,b,s,t,k⟩ m = r at *
 show Calls Tryz.prog 47 #[.agg #[.int .i64 kd,.int .u8 b,.int .i64 s,.int .i64 t,.int .i64 k],.string m] w _
 generalize emI b = e0 at *
 by_cases hv : kd = 1 ∨ kd = 2 ∨ kd = 3
 ·have hr := hvis.out hv
  subst hr
  clear hvis href hno hW
  rcases hv with rfl | rfl | rfl
  all_goals
   go_enter Tryz.func47,Tryz.ntmps47
   go_wp2_with fail
   go_quiet (first | (go_at_call 89; refine Calls.quiet_of_same (hE _)))
   go_wp2_with fail
   go_ret
   exact ⟨rfl,below_drewN hB _⟩
 ·by_cases h7 : kd = 7
  ·have hr := href.out h7
   subst hr
   subst h7
   clear hvis href hno hE
   go_enter Tryz.func47,Tryz.ntmps47
   go_wp2_with (go_at_call 90; refine (hW _).mono ?_; rintro e w' ⟨rfl,hww⟩; subst w')
   go_ret
   exact ⟨rfl,hB⟩
  ·have hr := hno.out hv h7
   subst hr
   have f1 : (kd == 1) = false := by simp; omega
   have f2 : (kd == 2) = false := by simp; omega
   have f3 : (kd == 3) = false := by simp; omega
   have f7 : (kd == 7) = false := by simp; omega
   clear hvis href hno hE hW hv h7
   go_enter Tryz.func47,Tryz.ntmps47
   go_wp2_with fail
   go_ret
   exact ⟨rfl,hB⟩

theorem isKerned_any (f : Fc) (w : World) : Calls Tryz.prog 91 #[fcV f] w fun e w' => e = .returned (.bool (kerB f)) ∧ Below w.heap.size w w' := by
 obtain ⟨kd,b,s,t,k⟩ := f
 have hB := (Below.refl w.heap.size w).alloc (Nat.le_refl _) (Obj.cells #[.int .i64 kd,.int .u8 b,.int .i64 s,.int .i64 t,.int .i64 k] 98)
 have hk : kerB ⟨kd,b,s,t,k⟩ = decide (k = 1 ∧ (kd = 1 ∨ kd = 2)) := rfl
 rw [hk]
 show Calls Tryz.prog 91 #[.agg #[.int .i64 kd,.int .u8 b,.int .i64 s,.int .i64 t,.int .i64 k]] w _
 clear hk
 by_cases h1 : k = 1
 ·by_cases h2 : kd = 1
  ·rw [decide_eq_true ⟨h1,.inl h2⟩]
   subst h1 h2
   go_enter Tryz.func91,Tryz.ntmps91
   go_wp2_with fail
   go_ret
   exact ⟨rfl,hB⟩
  ·have f1 : (kd == 1) = false := by simpa using h2
   by_cases h3 : kd = 2
   ·rw [decide_eq_true ⟨h1,.inr h3⟩]
    subst h1 h3
    go_enter Tryz.func91,Tryz.ntmps91
    go_wp2_with fail
    go_ret
    exact ⟨rfl,hB⟩
   ·have f2 : (kd == 2) = false := by simpa using h3
    rw [decide_eq_false (by omega)]
    subst h1
    clear h2 h3
    go_enter Tryz.func91,Tryz.ntmps91
    go_wp2_with fail
    go_ret
    exact ⟨by first | rfl | (congr 2),hB⟩
 ·have f1 : (k == 1) = false := by simpa using h1
  rw [decide_eq_false (by omega)]
  clear h1
  go_enter Tryz.func91,Tryz.ntmps91
  go_wp2_with fail
  go_ret
  exact ⟨rfl,hB⟩

structure FB (w : World) (B : Nat) (f : Fc) : Prop where
 row : w.heap[B]? = some (.cells (fcC f) 98 (0,0))
theorem FB.lt {w : World} {B : Nat} {f : Fc} (h : FB w B f) : B < w.heap.size := (Array.getElem?_eq_some_iff.1 h.row).1
theorem FB.below {w w' : World} {n B : Nat} {f : Fc} (h : FB w B f) (hb : Below n w w') (hn : B < n) : FB w' B f := ⟨(hb.block B hn).trans h.row⟩
theorem FB.turns {X : Nat → Prop} {w w' : World} {B : Nat} {f : Fc} (h : FB w B f) (hb : Turns X w w') (hn : ¬ X B) : FB w' B f := ⟨(hb.block B h.lt hn).trans h.row⟩
theorem FB.new (w : World) (f : Fc) : FB (w.alloc (.cells (fcC f) 98)) w.heap.size f := ⟨World.alloc_heap_new w _⟩
theorem FB.cell {w : World} {B : Nat} {f : Fc} (h : FB w B f) {k : Nat} {v : Value} (hk : (fcC f)[k]? = some v) : w.cell? ⟨B,k,none⟩ = some v := by
 rw [Lib.cell_of_heap h.row,hk]
theorem FB.c1 {w : World} {B : Nat} {f : Fc} (h : FB w B f) : w.cell? ⟨B,1,none⟩ = some (.int .u8 f.b) := h.cell rfl
theorem FB.c2 {w : World} {B : Nat} {f : Fc} (h : FB w B f) : w.cell? ⟨B,2,none⟩ = some (.int .i64 f.s) := h.cell rfl
theorem info68 (f : Fc) : (Tryz.prog.info? 98).map (·.size) = some (fcC f).size := by show _ = some 5; kernel_rfl

theorem meet_any (f g : Fc) (hg : Fok g) (w : World) : Calls Tryz.prog 48 #[fcV f,fcV g] w fun e w' => e = .returned (.int .i64 (meetI f g)) ∧ Below w.heap.size w w' := by
 have hB0 := (Below.refl w.heap.size w).alloc (Nat.le_refl _) (Obj.cells (fcC f) 98)
 have hB := hB0.alloc hB0.size (Obj.cells (fcC g) 98)
 have hF0 := FB.new w f
 have hF : FB ((w.alloc (.cells (fcC f) 98)).alloc (.cells (fcC g) 98)) w.heap.size f := ⟨(Below.heap_alloc _ _ _ (by simp)).trans hF0.row⟩
 have hG : FB ((w.alloc (.cells (fcC f) 98)).alloc (.cells (fcC g) 98)) (w.heap.size + 1) g := by have := FB.new (w.alloc (.cells (fcC f) 98)) g; rwa [World.size_alloc] at this
 have hi := isKerned_any f
 have hj := isKerned_any g
 have hsz : ((w.alloc (.cells (fcC f) 98)).alloc (.cells (fcC g) 98)).heap.size = w.heap.size + 2 := by simp
 unfold fcV at *
 clear hF0 hB0
 generalize hw1 : (w.alloc (.cells (fcC f) 98)).alloc (.cells (fcC g) 98) = w1 at *
 cases h1 : kerB f
 ·have hr : meetI f g = 0 := if_neg (by simp [h1])
  rw [hr]
  rw [h1] at hi
  clear hj hr h1
  go_enter Tryz.func48,Tryz.ntmps48
  go_wp2_with (refine wpList_load_row rfl 98 _ rfl w.heap.size rfl 98 _ (0,0) _ hF.row Tryz.underlying98 rfl (info68 f) ?_)
  refine (hi _).mono ?_
  rintro e w2 ⟨rfl,hb2⟩
  have hB2 := hB.trans (hb2.mono hB.size)
  go_wp2_with fail
  go_ret
  exact ⟨rfl,hB2⟩
 ·cases h2 : kerB g
  ·have hr : meetI f g = 0 := if_neg (by simp [h2])
   rw [hr]
   rw [h1] at hi
   rw [h2] at hj
   clear hr h1 h2
   go_enter Tryz.func48,Tryz.ntmps48
   go_wp2_with (refine wpList_load_row rfl 98 _ rfl w.heap.size rfl 98 _ (0,0) _ hF.row Tryz.underlying98 rfl (info68 f) ?_)
   refine (hi _).mono ?_
   rintro e w2 ⟨rfl,hb2⟩
   have hB2 := hB.trans (hb2.mono hB.size)
   have hG2 := hG.below hb2 hG.lt
   go_wp2_with (refine wpList_load_want 98 _ rfl (by rfl) (w.heap.size + 1) rfl 98 _ (0,0) _ hG2.row Tryz.underlying98 rfl (info68 g) ?_)
   refine (hj _).mono ?_
   rintro e w3 ⟨rfl,hb3⟩
   have hB3 := hB2.trans (hb3.mono hB2.size)
   go_wp2_with fail
   go_ret
   exact ⟨rfl,hB3⟩
  ·rw [h1] at hi
   rw [h2] at hj
   by_cases h3 : f.s = g.s
   ·have hr : meetI f g = kernI f.b g.b g.s := if_pos ⟨h1,h2,h3⟩
    rw [hr]
    have hK := kern_any f.b g.b g.s hg.s.1 hg.s.2
    have q0 : (f.s != g.s) = false := by simp [h3]
    clear hr h1 h2 h3
    go_enter Tryz.func48,Tryz.ntmps48
    go_wp2_with (refine wpList_load_row rfl 98 _ rfl w.heap.size rfl 98 _ (0,0) _ hF.row Tryz.underlying98 rfl (info68 f) ?_)
    refine (hi _).mono ?_
    rintro e w2 ⟨rfl,hb2⟩
    have hB2 := hB.trans (hb2.mono hB.size)
    have hG2 := hG.below hb2 hG.lt
    have hF2 := hF.below hb2 hF.lt
    go_wp2_with (refine wpList_load_want 98 _ rfl (by rfl) (w.heap.size + 1) rfl 98 _ (0,0) _ hG2.row Tryz.underlying98 rfl (info68 g) ?_)
    refine (hj _).mono ?_
    rintro e w3 ⟨rfl,hb3⟩
    have hB3 := hB2.trans (hb3.mono hB2.size)
    have hG3 := hG2.below hb3 hG2.lt
    have hF3 := hF2.below hb3 hF2.lt
    have c1 := hF3.c1; have c2 := hF3.c2; have d1 := hG3.c1; have d2 := hG3.c2
    clear hG hF hG2 hF2 hG3 hF3
    go_wp2_with (go_at_call 92; refine (hK _).mono ?_; rintro e w' ⟨rfl,hww⟩; subst w')
    go_ret
    exact ⟨rfl,hB3⟩
   ·have hr : meetI f g = 0 := if_neg (by simp [h3])
    rw [hr]
    have q0 : (f.s != g.s) = true := by simp [h3]
    clear hr h1 h2 h3
    go_enter Tryz.func48,Tryz.ntmps48
    go_wp2_with (refine wpList_load_row rfl 98 _ rfl w.heap.size rfl 98 _ (0,0) _ hF.row Tryz.underlying98 rfl (info68 f) ?_)
    refine (hi _).mono ?_
    rintro e w2 ⟨rfl,hb2⟩
    have hB2 := hB.trans (hb2.mono hB.size)
    have hG2 := hG.below hb2 hG.lt
    have hF2 := hF.below hb2 hF.lt
    go_wp2_with (refine wpList_load_want 98 _ rfl (by rfl) (w.heap.size + 1) rfl 98 _ (0,0) _ hG2.row Tryz.underlying98 rfl (info68 g) ?_)
    refine (hj _).mono ?_
    rintro e w3 ⟨rfl,hb3⟩
    have hB3 := hB2.trans (hb3.mono hB2.size)
    have hG3 := hG2.below hb3 hG2.lt
    have hF3 := hF2.below hb3 hF2.lt
    have c1 := hF3.c1; have c2 := hF3.c2; have d1 := hG3.c1; have d2 := hG3.c2
    clear hG hF hG2 hF2 hG3 hF3
    go_wp2_with fail
    go_ret
    exact ⟨rfl,hB3⟩

end Go.Proofs.YtbdpghjegachaaaGreatDoor

namespace Go.Proofs.YtbdpghjegachaaaGreatDoor
open Go.RowKit Go.Shelf

theorem kind7 {x : Int} : kindI x = 7 ↔ x = 2 := by
 unfold kindI
 constructor
 ·intro h
  repeat (split at h <;> try omega)
 ·rintro rfl; decide
theorem acc_ne2 {x : Int} (h : accB x = true) : x ≠ 2 := by
 rintro rfl; revert h; decide
def rI (t : ByteArray) : Nat → Nat
 | 0 => 0
 | i + 1 => rI t i + (if kindI (bt t (st t i)) = 7 then 1 else 0)
theorem refN_succ (t : ByteArray) (k : Nat) : refN t (k + 1) = refN t k + (if bt t k = 2 then 1 else 0) := rfl
theorem refN_end {t : ByteArray} (p : Nat) : refN t (endN t p) = refN t p + (if kindI (bt t p) = 7 then 1 else 0) := by
 have e : (if kindI (bt t p) = 7 then 1 else 0) = (if bt t p = 2 then 1 else 0) := by
  by_cases h : bt t p = 2
  ·rw [if_pos h,if_pos (kind7.2 h)]
  ·rw [if_neg h,if_neg (fun h' => h (kind7.1 h'))]
 rw [e]
 unfold endN
 split
 ·split
  ·rename_i h1
   split
   ·rename_i h2
    rw [refN_succ,refN_succ,refN_succ,if_neg (acc_ne2 h1),if_neg (acc_ne2 h2)]; omega
   ·rw [refN_succ,refN_succ,if_neg (acc_ne2 h1)]; omega
  ·rw [refN_succ]
 ·rw [refN_succ]
theorem rI_ref (t : ByteArray) : ∀ i,i ≤ num t → rI t i = refN t (st t i)
 | 0,_ => rfl
 | i + 1,h => by
  have hl := num_lt (show i < num t by omega)
  rw [st_succ hl,refN_end,← rI_ref t i (by omega)]
  rfl
theorem refN_mono (t : ByteArray) {i j : Nat} (h : i ≤ j) : refN t i ≤ refN t j := by
 induction j with
 | zero => obtain rfl : i = 0 := by omega
           exact Nat.le_refl _
 | succ j ih =>
  by_cases e : i = j + 1
  ·rw [e]; exact Nat.le_refl _
  ·have := ih (by omega)
   rw [refN_succ]; omega
theorem rI_lt {t : ByteArray} {i : Nat} (h : i < num t) (h7 : kindI (bt t (st t i)) = 7) : rI t i < refN t t.size := by
 have h1 := rI_ref t (i + 1) h
 have h2 := refN_mono t (st_le t (i + 1))
 have h3 : rI t (i + 1) = rI t i + 1 := by show rI t i + _ = _; rw [if_pos h7]
 omega

theorem rowC_get (t : ByteArray) : ∀ (n i : Nat),i < n → ∀ j u,(clC t i)[j]? = some u → (rowC t n)[i * 3 + j]? = some u
 | 0,i,h,_,_,_ => by omega
 | n + 1, i, h, j, u, hu => by
  have hj : j < 3 := (List.getElem?_eq_some_iff.1 hu).1
  show (rowC t n ++ clC t n)[i * 3 + j]? = some u
  by_cases hi : i < n
  ·rw [List.getElem?_append_left (by rw [rowC_len]; omega)]
   exact rowC_get t n i hi j u hu
  ·obtain rfl : i = n := by omega
   rw [List.getElem?_append_right (by rw [rowC_len]; omega),rowC_len]
   rw [show i * 3 + j - i * 3 = j by omega]
   exact hu

structure Ms where
 f : Int
 t : Int
 k : Int
 s : Int
 w : Int
 q : Int
def msL (m : Ms) : List Value := [.int .i64 m.f,.int .i64 m.t,.int .i64 m.k,.int .i64 m.s,.int .i64 m.w,.int .i64 m.q]
theorem msL_len (m : Ms) : (msL m).length = 6 := rfl
def fc0 : Fc := ⟨0,0,0,0,0⟩
def fc (a : Pa) (i : Nat) : Fc := ⟨kindI (bt a.t (st a.t i)),bt a.t (st a.t i),szAt a (st a.t i : Nat),(spAt a.sp (st a.t i : Nat)).t,(spAt a.sp (st a.t i : Nat)).k⟩
def pf (a : Pa) : Nat → Fc
 | 0 => fc0
 | i + 1 => fc a i
def mkAt (a : Pa) (i : Nat) : ByteArray := if kindI (bt a.t (st a.t i)) = 7 then a.ms.getD (rI a.t i) ByteArray.empty else ByteArray.empty
def msI (a : Pa) (i : Nat) : Ms := ⟨st a.t i,st a.t (i + 1),(fc a i).kd,(fc a i).s,wdI (fc a i) (mkAt a i),meetI (pf a i) (fc a i)⟩
def mss (a : Pa) : List Ms := (List.range (num a.t)).map (msI a)
theorem mss_len (a : Pa) : (mss a).length = num a.t := by simp [mss]
theorem mss_get (a : Pa) {i : Nat} (h : i < (mss a).length) : (mss a)[i] = msI a i := by simp [mss]

structure GoodP (a : Pa) : Prop where
 wr : wrongI a.t = 0
 fd : fieldB a.t = false
 sp : spB a.sp a.t.size = true
 pr : keepB (prB a.p) = true
 lb : standB a.lb 0 16 = true
 mrk : markB a.t a.ms = true
theorem good_of {a : Pa} (h : chkI a = 0) : GoodP a := by
 rcases chk_cases a with ⟨e1,e2⟩ | ⟨e1,_⟩ | ⟨e1,_⟩ | ⟨e1,e2,e3,e4⟩
 ·rw [e1] at h; exact absurd h e2
 ·rw [e1] at h; cases h
 ·rw [e1] at h; cases h
 ·obtain ⟨f1,f2,f3,f4⟩ := rest_yes a e4
  exact ⟨e2,e3,f1,f2,f3,f4⟩
theorem GoodP.size {a : Pa} (h : GoodP a) : a.t.size ≤ 4096 := ok_size h.wr
theorem GoodP.p0 {a : Pa} (h : GoodP a) : 1 ≤ a.p.p0 ∧ a.p.p0 ≤ 64 := by
 have := List.all_eq_true.1 h.pr (a.p.p0,1,64) (by simp [prB])
 simpa [bdB] using this
theorem GoodP.ms {a : Pa} (h : GoodP a) : a.ms.length = refN a.t a.t.size ∧ ∀ m ∈ a.ms,standB m 1 8 = true := by
 have := h.mrk
 unfold markB at this
 rw [Bool.and_eq_true,decide_eq_true_eq,List.all_eq_true] at this
 exact this
theorem GoodP.span {a : Pa} (h : GoodP a) {k : Nat} (hk : k < a.t.size) : chB (spAt a.sp k) = true := by
 obtain ⟨h1,_,_⟩ := lk_spec h.sp (k := k) (by omega) (by omega)
 unfold spAt
 rw [List.getD_eq_getElem?_getD,List.getElem?_eq_getElem h1]
 exact (spB_all h.sp _ h1).2.1
theorem GoodP.fok {a : Pa} (h : GoodP a) {i : Nat} (hi : i < num a.t) : Fok (fc a i) := by
 have hk := num_lt hi
 have hs := h.span hk
 unfold chB at hs
 rw [decide_eq_true_eq] at hs
 refine ⟨?_,hs.2.1,bt_rng _ _⟩
 show 0 ≤ szAt a _ ∧ szAt a _ ≤ 64
 unfold szAt
 have := h.p0
 split
 ·omega
 ·exact hs.1
theorem stand_size {m : ByteArray} {x y : Int} (h : standB m x y = true) : x ≤ m.size ∧ (m.size : Int) ≤ y := by
 unfold standB at h
 rw [Bool.and_eq_true,decide_eq_true_eq] at h
 exact h.1
theorem GoodP.mark {a : Pa} (h : GoodP a) {i : Nat} (hi : i < num a.t) (h7 : kindI (bt a.t (st a.t i)) = 7) : ∃ hr : rI a.t i < a.ms.length,mkAt a i = a.ms[rI a.t i] ∧ a.ms[rI a.t i].size ≤ 8 := by
 have hr : rI a.t i < a.ms.length := by rw [h.ms.1]; exact rI_lt hi h7
 refine ⟨hr,?_,?_⟩
 ·unfold mkAt
  rw [if_pos h7,List.getD_eq_getElem?_getD,List.getElem?_eq_getElem hr]; rfl
 ·have := stand_size (h.ms.2 _ (List.getElem_mem hr)); omega
theorem mark_no {a : Pa} {i : Nat} (h7 : kindI (bt a.t (st a.t i)) ≠ 7) : mkAt a i = ByteArray.empty := if_neg h7
theorem rI_yes {t : ByteArray} {i : Nat} (h : kindI (bt t (st t i)) = 7) : rI t (i + 1) = rI t i + 1 := by show rI t i + _ = _; rw [if_pos h]
theorem rI_no {t : ByteArray} {i : Nat} (h : kindI (bt t (st t i)) ≠ 7) : rI t (i + 1) = rI t i := by show rI t i + _ = _; rw [if_neg h]; rfl

def Laid (a : Pa) (k : Nat) (cs : Array Value) : Prop := cs.size = num a.t * 6 ∧ ∀ j,j < k → ∀ q u,(msL (msI a j))[q]? = some u → cs[j * 6 + q]? = some u
theorem laid_all {a : Pa} {cs : Array Value} (h : Laid a (num a.t) cs) : cs.toList = (mss a).flatMap msL := by
 apply List.ext_getElem?
 intro j
 by_cases hj : j < num a.t * 6
 ·have hi : j / 6 < num a.t := by omega
  have hi' : j / 6 < (mss a).length := by rw [mss_len]; exact hi
  have hg := fm_get msL_len (mss a) hi' (j % 6) (by omega)
  rw [show j / 6 * 6 + j % 6 = j by omega,mss_get] at hg
  rw [hg]
  have hl : j % 6 < (msL (msI a (j / 6))).length := by rw [msL_len]; omega
  have := h.2 (j / 6) hi (j % 6) _ (List.getElem?_eq_getElem hl)
  rw [show j / 6 * 6 + j % 6 = j by omega] at this
  rw [List.getElem?_eq_getElem hl,← this]
  simp
 ·rw [List.getElem?_eq_none (by simp [h.1]; omega),List.getElem?_eq_none (by rw [fm_len msL_len,mss_len]; omega)]

end Go.Proofs.YtbdpghjegachaaaGreatDoor

namespace Go.Proofs.YtbdpghjegachaaaGreatDoor
open Go.RowKit Go.Shelf
set_option maxRecDepth 100000
set_option maxHeartbeats 1000000

theorem below_drew (w : World) : Below w.heap.size w w.drew := (Below.refl _ _).drew
theorem load_pa {a : Act} {w : World} {B : Nat} {s : Pa} {o : Oper} {x : Operand} (h : PB w B s) (ho : o.op = .load 27 x) (hx : a.eval x = .pointer (some ⟨B,0,none⟩)) : (execOp a.eval o).run Tryz.prog w = .ok (.value (.agg (paC s))) w := by
 have hl := run_loadVar_row (P := Tryz.prog) w B 27 27 (paC s) (0,0) _ h.row Tryz.underlying27 rfl (info34 s)
 simp [execOp,ho,hx,Instr.loadAt,Instr.sureAddr,hl]
theorem load_fc {a : Act} {w : World} {B : Nat} {s : Fc} {o : Oper} {x : Operand} (h : FB w B s) (ho : o.op = .load 98 x) (hx : a.eval x = .pointer (some ⟨B,0,none⟩)) : (execOp a.eval o).run Tryz.prog w = .ok (.value (.agg (fcC s))) w := by
 have hl := run_loadVar_row (P := Tryz.prog) w B 98 98 (fcC s) (0,0) _ h.row Tryz.underlying98 rfl (info68 s)
 simp [execOp,ho,hx,Instr.loadAt,Instr.sureAddr,hl]
structure CB (W : World) (B : Nat) (a b c : Int) : Prop where
 row : W.heap[B]? = some (.cells #[.int .i64 a,.int .i64 b,.int .i64 c] 100 (0,0))
theorem CB.lt {w : World} {B : Nat} {a b c : Int} (h : CB w B a b c) : B < w.heap.size := (Array.getElem?_eq_some_iff.1 h.row).1
theorem CB.turns {X : Nat → Prop} {w w' : World} {B : Nat} {a b c : Int} (h : CB w B a b c) (hb : Turns X w w') (hn : ¬ X B) : CB w' B a b c := ⟨(hb.block B h.lt hn).trans h.row⟩
theorem CB.below {n : Nat} {w w' : World} {B : Nat} {a b c : Int} (h : CB w B a b c) (hb : Below n w w') (hn : B < n) : CB w' B a b c := ⟨(hb.block B hn).trans h.row⟩
theorem CB.c0 {W : World} {B : Nat} {a b c : Int} (h : CB W B a b c) : W.cell? ⟨B,0,none⟩ = some (.int .i64 a) := by rw [Lib.cell_of_heap h.row]; rfl
theorem CB.c1 {W : World} {B : Nat} {a b c : Int} (h : CB W B a b c) : W.cell? ⟨B,1,none⟩ = some (.int .i64 b) := by rw [Lib.cell_of_heap h.row]; rfl
theorem CB.c2 {W : World} {B : Nat} {a b c : Int} (h : CB W B a b c) : W.cell? ⟨B,2,none⟩ = some (.int .i64 c) := by rw [Lib.cell_of_heap h.row]; rfl
theorem PB.turns {X : Nat → Prop} {w w' : World} {B : Nat} {a : Pa} (h : PB w B a) (hb : Turns X w w') (hn : ¬ X B) : PB w' B a := ⟨(hb.block B h.lt hn).trans h.row⟩
theorem Turns.setRow {X : Nat → Prop} (W : World) {r : Nat} (hp : X r) (cs : Array Value) : Turns X W (W.setRow r cs) :=
 ⟨rfl,rfl,rfl,by simp,fun k _ hk => setRow_other W r k cs (fun e => hk (e ▸ hp))⟩
def fr17 (v0 v1 v2 v3 v4 v5 v6 v7 v8 v9 xa xb xc xd xe xf xg xh xi xj xk xl xm xn xo xp xq xr xt xu xv xw xx xy xz xA xB xC xD xE xF xG xH xI xJ xK xL xM xN xO xP xQ xR xS xT xU xV xW xX xY xZ ya yb yc yd ye yf yg yh yi yj yk yl ym yn yo yp yq : Value) : Act := { tmps := #[v0,v1,v2,v3,v4,v5,v6,v7,v8,v9,xa,xb,xc,xd,xe,xf,xg,xh,xi,xj,xk,xl,xm,xn,xo,xp,xq,xr,xt,xu,xv,xw,xx,xy,xz,xA,xB,xC,xD,xE,xF,xG,xH,xI,xJ,xK,xL,xM,xN,xO,xP,xQ,xR,xS,xT,xU,xV,xW,xX,xY,xZ,ya,yb,yc,yd,ye,yf,yg,yh,yi,yj,yk,yl,ym,yn,yo,yp,yq],defers := [] }
def ops17_4 (ps : String) : Array Oper := #[⟨some 22,.load 27 (.tmp 1),27,ps,#[],none⟩,⟨some 23,.call ⟨.value (.func 46),#[.tmp 22],#[27]⟩,95,ps,#[⟨0,.data⟩],none⟩,⟨some 24,.fieldAddr 27 (.tmp 1) 4,0,ps,#[⟨4,.gcOnly .lateStores⟩],none⟩,⟨some 25,.load 25 (.tmp 24),25,ps,#[⟨2,.data⟩,⟨4,.gcOnly .lateStores⟩],none⟩,⟨some 6,.assign (.tmp 23),95,ps,#[⟨1,.data⟩,⟨1,.chain⟩,⟨0,.phase⟩,⟨1,.phase⟩,⟨2,.textOnly .lateStores⟩,⟨3,.textOnly .lateStores⟩],none⟩,⟨some 7,.assign (.tmp 25),25,ps,#[⟨3,.data⟩,⟨4,.chain⟩,⟨0,.phase⟩,⟨1,.phase⟩,⟨2,.phase⟩,⟨3,.phase⟩,⟨4,.phase⟩],none⟩]

theorem mass_r4 (Q : Exit → Act → World → Prop) (hQ : ∀ c x (n : Nat) v w,Q (.panic c) (x.put (some n) v) w → Q (.panic c) x w) (id : Nat) (ps : String) {v0 v2 v3 v4 v5 v6 v7 v8 v9 xa xb xc xd xe xf xg xh xi xj xk xl xm xn xo xp xq xr xt xu xv xw xx xy xz xA xB xC xD xE xF xG xH xI xJ xK xL xM xN xO xP xQ xR xS xT xU xV xW xX xY xZ ya yb yc yd ye yf yg yh yi yj yk yl ym yn yo yp yq : Value}
  (B : Nat) (a : Pa) (w0 : World) (hP : PB w0 B a) (hA : PaAt w0 a)
  (hq : ∀ F S Bq w',(w0.heap.size ≤ F ∧ w0.heap.size ≤ S ∧ w0.heap.size ≤ Bq ∧ F < w'.heap.size ∧ S < w'.heap.size ∧ Bq < w'.heap.size) → (a.sp ≠ [] → LkAt a F S Bq 0 w') → Below w0.heap.size w0 w' → Q .normal (fr17 v0 (.pointer (some ⟨B,0,none⟩)) v2 v3 v4 v5 (.func (.func 88) #[] #[.pointer (some ⟨F,0,none⟩),.pointer (some ⟨S,0,none⟩),.pointer (some ⟨Bq,0,none⟩)]) a.mv v8 v9 xa xb xc xd xe xf xg xh xi xj xk xl (.agg (paC a)) (.func (.func 88) #[] #[.pointer (some ⟨F,0,none⟩),.pointer (some ⟨S,0,none⟩),.pointer (some ⟨Bq,0,none⟩)]) (.pointer (some ⟨B,20,none⟩)) a.mv xq xr xt xu xv xw xx xy xz xA xB xC xD xE xF xG xH xI xJ xK xL xM xN xO xP xQ xR xS xT xU xV xW xX xY xZ ya yb yc yd ye yf yg yh yi yj yk yl ym yn yo yp yq) w') :
  (Code.region id (ops17_4 ps) true).wp Tryz.prog Q (fr17 v0 (.pointer (some ⟨B,0,none⟩)) v2 v3 v4 v5 v6 v7 v8 v9 xa xb xc xd xe xf xg xh xi xj xk xl xm xn xo xp xq xr xt xu xv xw xx xy xz xA xB xC xD xE xF xG xH xI xJ xK xL xM xN xO xP xQ xR xS xT xU xV xW xX xY xZ ya yb yc yd ye yf yg yh yi yj yk yl ym yn yo yp yq) w0 := by
 refine wp_region_held (S := fun w => PB w B a ∧ PaAt w a) (by kernel_rfl) ?_
 change wpAnyH _ _ _ _ _ 6 _ _ (World.drew w0)
 have C0 : PB w0.drew B a ∧ PaAt w0.drew a := ⟨hP.below (below_drew w0) hP.lt,hA.below (below_drew w0) (Nat.le_refl _)⟩
 refine take_r 0 ⟨some 22,.load 27 (.tmp 1),27,ps,#[],none⟩ (.agg (paC a)) hQ (fun w hS => load_pa (x := (Operand.tmp 1)) hS.1 (by kernel_rfl) (by kernel_rfl)) C0 ?_
 refine take_r 2 ⟨some 24,.fieldAddr 27 (.tmp 1) 4,0,ps,#[⟨4,.gcOnly .lateStores⟩],none⟩ (.pointer (some ⟨B,20,none⟩)) hQ (fun w hS => by unfold fr17; go_simp) C0 ?_
 refine take_r 3 ⟨some 25,.load 25 (.tmp 24),25,ps,#[⟨2,.data⟩,⟨4,.gcOnly .lateStores⟩],none⟩ (a.mv) hQ (fun w hS => by have e := hS.1.c20; unfold fr17; go_simp) C0 ?_
 refine want_k 1 ⟨some 23,.call ⟨.value (.func 46),#[.tmp 22],#[27]⟩,95,ps,#[⟨0,.data⟩],none⟩ fun K hK => ?_
 unfold fr17
 go_simp
 refine (looks_any a _ C0.2).mono ?_
 rintro e w1 ⟨F,S,Bq,rfl,hbd,hL,B1⟩
 have C1 : PB w1 B a ∧ PaAt w1 a := ⟨C0.1.below B1 C0.1.lt,C0.2.below B1 (Nat.le_refl _)⟩
 refine hK _ _ C1 (cast_h (fr17 v0 (.pointer (some ⟨B,0,none⟩)) v2 v3 v4 v5 v6 v7 v8 v9 xa xb xc xd xe xf xg xh xi xj xk xl (.agg (paC a)) (.func (.func 88) #[] #[.pointer (some ⟨F,0,none⟩),.pointer (some ⟨S,0,none⟩),.pointer (some ⟨Bq,0,none⟩)]) (.pointer (some ⟨B,20,none⟩)) a.mv xq xr xt xu xv xw xx xy xz xA xB xC xD xE xF xG xH xI xJ xK xL xM xN xO xP xQ xR xS xT xU xV xW xX xY xZ ya yb yc yd ye yf yg yh yi yj yk yl ym yn yo yp yq) (by kernel_rfl) ?_)
 clear hK K
 refine take_r 4 ⟨some 6,.assign (.tmp 23),95,ps,#[⟨1,.data⟩,⟨1,.chain⟩,⟨0,.phase⟩,⟨1,.phase⟩,⟨2,.textOnly .lateStores⟩,⟨3,.textOnly .lateStores⟩],none⟩ (.func (.func 88) #[] #[.pointer (some ⟨F,0,none⟩),.pointer (some ⟨S,0,none⟩),.pointer (some ⟨Bq,0,none⟩)]) hQ (fun w _ => by kernel_rfl) C1 ?_
 refine take_r 5 ⟨some 7,.assign (.tmp 25),25,ps,#[⟨3,.data⟩,⟨4,.chain⟩,⟨0,.phase⟩,⟨1,.phase⟩,⟨2,.phase⟩,⟨3,.phase⟩,⟨4,.phase⟩],none⟩ (a.mv) hQ (fun w _ => by kernel_rfl) C1 ?_
 exact wpAnyH_done (by kernel_rfl) (hq _ _ _ _ hbd hL ((below_drew w0).trans B1)) _
end Go.Proofs.YtbdpghjegachaaaGreatDoor
