/-
  What is proved here: what isException answers.
  What is proved here: the two boxes of except: a word that grows, and places.
  What is proved here: hyphs in memory: a trie, and exceptions.
-/
import Derived.Test.YtbdpghjegachaaaGreatDoorE16
import Derived.Laws.IdiomStrings
namespace Go.Proofs.YtbdpghjegachaaaGreatDoor.Hy
open Go.RowKit Go.Shelf
set_option maxRecDepth 100000
set_option maxHeartbeats 1000000
attribute [local go_sem] Oper.semAt_some wide_fn wide_depth

def partB (p : Bs) : Bool := !p.isEmpty && p.all sml
def excB (l : Bs) : Bool := decide (2 ≤ l.length - l.count 45) && (decide (l.length - l.count 45 ≤ 64) && (parts l).all partB)
theorem count_le (l : Bs) : l.count 45 ≤ l.length := List.count_le_length
theorem Steady.pure (p : Nat → Prop) : Steady (fun i _ _ => p i) := fun _ _ _ _ _ hs _ _ => hs
theorem allocs3 (w : World) (a b c : Obj) : (((w.alloc a).alloc b).alloc c).heap[w.heap.size]? = some a ∧ (((w.alloc a).alloc b).alloc c).heap[w.heap.size + 1]? = some b ∧ (((w.alloc a).alloc b).alloc c).heap[w.heap.size + 2]? = some c := by
 refine ⟨?_,?_,?_⟩ <;> (show (((w.heap.push a).push b).push c)[_]? = _; simp only [Array.getElem?_push,Array.size_push]; repeat (first | rw [if_pos trivial] | rw [if_pos (by omega)] | rw [if_neg (by omega)]))
theorem splitW_read (x : ByteArray) (w : World) : ∀ W,Turns Noth (splitW x w) W → Read3 w.heap.size x W := fun W ht => by
 obtain ⟨h0,h1,h2⟩ := allocs3 w (.cells #[.string x] 9) (.cells #[.string ⟨#[45]⟩] 9) (.cells #[.int .i64 0] 3)
 have b0 : Blk (splitW x w) w.heap.size #[.string x] 9 := h0
 have b1 : Blk (splitW x w) (w.heap.size + 1) #[.string ⟨#[45]⟩] 9 := h1
 have b2 : Blk (splitW x w) (w.heap.size + 2) #[.int .i64 0] 3 := h2
 exact ⟨b0.turns ht (fun h => h),b1.turns ht (fun h => h),b2.turns ht (fun h => h)⟩
theorem splitW_turns (x : ByteArray) (w : World) (X : Nat → Prop) : Turns X w (splitW x w) := ((Turns.alloc _ _ _).trans (Turns.alloc _ _ _)).trans (Turns.alloc _ _ _)
theorem splitW_size (x : ByteArray) (w : World) : (splitW x w).heap.size = w.heap.size + 3 := by simp [splitW]
theorem splitW_base (x : ByteArray) (w : World) (own : Nat → Prop) : Base w own (X3 w.heap.size) (splitW x w) :=
 ⟨splitW_turns x w own,fun k hk => by rw [splitW_size]; rcases hk with rfl | rfl | rfl <;> omega⟩
theorem partN_is {x : ByteArray} {j : Nat} (h : j < (parts x.data.toList).length) : (partN x j).data.toList = (parts x.data.toList)[j]'h := by
 unfold partN
 rw [List.getD_eq_getElem?_getD,List.getElem?_eq_getElem h]; rfl
theorem partAt {x : ByteArray} {j : Nat} (h : j < (parts x.data.toList).length) : (partN x j).data.toList ∈ parts x.data.toList := by
 rw [partN_is h]
 exact List.getElem_mem h
theorem parts_len : ∀ (l p : Bs),p ∈ parts l → p.length ≤ l.length
 | [],p,h => by simp [parts] at h; subst h; simp
 | c :: l, p, h => by
  rw [parts] at h
  split at h
  ·rcases List.mem_cons.1 h with rfl | h
   ·simp
   ·have := parts_len l p h; simp; omega
  ·have hp := parts_ne l
   split at h
   ·rename_i a b e
    rcases List.mem_cons.1 h with rfl | h
    ·have := parts_len l a (by rw [e]; simp); simp; omega
    ·have := parts_len l p (by rw [e]; simp [h]); simp; omega
   ·rename_i e; exact absurd e hp

theorem run_loadVar_one {P : Program} (w : World) (ty : TypeId) (v : Value) (g : Nat) (hA : (isAgg ty).run P w = .ok false w) (hc : w.cell? ⟨g,0,none⟩ = some v) : (loadVar ty ⟨g,0,none⟩).run P w = .ok v w := by
 simp [loadVar,Sem.run_bind,hA,hc,go_sem]
theorem results_cells1 {P : Program} {fn : Func} {p : Tmp} {t : TypeId} (h : fn.results = #[.cell p t]) (tmps : Array Value) (w : World) (g : Nat) (x : Value)
  (hp : tmps.getD p undef = .pointer (some ⟨g,0,none⟩)) (hA : (isAgg t).run P w = .ok false w)
  (hx : w.cell? ⟨g,0,none⟩ = some x) : (results fn tmps).run P w = .ok x w := by
 have hp' : tmps[p]?.getD undef = .pointer (some ⟨g,0,none⟩) := by simpa using hp
 simp [results,h,hp',asAddr,run_loadVar_one w t x g hA hx]
theorem agg_no {P : Program} {t : TypeId} {d : TypeDesc} (hu : P.underlying t = some d) (hd : (match d with | .struct _ | .array _ _ => true | _ => false) = false) (w : World) : (isAgg t).run P w = .ok false w := by
 unfold isAgg
 rw [Sem.run_bind,run_underlying hu w]
 cases d <;> simp_all
theorem heap_put {W : World} {D k : Nat} (h : k ≠ D) (o : Obj) : (W.putObj D o).heap[k]? = W.heap[k]? := World.putObj_heap_other h
theorem parts_all_no {x : ByteArray} {j : Nat} (h : j < (parts x.data.toList).length) (hb : partB (partN x j).data.toList = false) : (parts x.data.toList).all partB = false := by
 rw [List.all_eq_false]
 exact ⟨_,partAt h,by rw [hb]; simp⟩
theorem parts_all_yes {x : ByteArray} (h : ∀ j,j < (parts x.data.toList).length → partB (partN x j).data.toList = true) : (parts x.data.toList).all partB = true := by
 rw [List.all_eq_true]
 intro p hp
 obtain ⟨j,hj,rfl⟩ := List.getElem_of_mem hp
 have := h j hj
 rwa [partN_is hj] at this

theorem isException_any (x : ByteArray) (hx : x.size ≤ 1000000) (w : World) : Calls Tryz.prog 178 #[.string x] w fun e w' => e = .returned (.bool (excB x.data.toList)) ∧ Below w.heap.size w w' := by
 have hC : ∀ w,Calls Tryz.prog 125 #[.string x,.string ⟨#[45]⟩] w fun e w' => e = .returned (.int .i64 ((x.data.toList.count 45 : Nat) : Int)) ∧ w' = w := fun w => Tryz.strings_Count_one x 45 w
 have hcl := count_le x.data.toList
 rw [size_ba] at hcl
 by_cases hb : 2 ≤ x.size - x.data.toList.count 45 ∧ x.size - x.data.toList.count 45 ≤ 64
 ·have hE : excB x.data.toList = (parts x.data.toList).all partB := by unfold excB; rw [size_ba,decide_eq_true hb.1,decide_eq_true hb.2]; rfl
  rw [hE]
  generalize x.data.toList.count 45 = m at *
  obtain ⟨hb1,hb2⟩ := hb
  have f1 : ¬ (x.size : Int) - m < 2 := by omega
  have f2 : ¬ 64 < (x.size : Int) - m := by omega
  clear hE
  refine callsIn_wide (n := 0).1 ?_
  refine callsIn_of_wp_marks Tryz.func178 rfl trivial ?_ rfl
  simp only [Tryz.ntmps178,List.size_toArray,List.length_cons,List.length_nil,Nat.reduceAdd,Nat.reduceSub,Array.replicate_succ,Array.replicate_zero,List.push_toArray,List.append_toArray,List.nil_append,List.cons_append]
  gi_wp2_with (first | (gi_at_call 125; refine (callsIn_wide.2 (hC _)).mono ?_; rintro e w' ⟨rfl,hww⟩; subst w') | (gi_at_call 200; refine (callsIn_wide.2 (split_any _ _)).mono ?_; rintro e w' ⟨rfl,rfl⟩))
  obtain ⟨w1,hw1⟩ : ∃ w1,w.alloc (.cells #[.bool false] 4) = w1 := ⟨_,rfl⟩
  have hs1 : w1.heap.size = w.heap.size + 1 := by rw [← hw1]; simp
  have hB0 : w1.heap[w.heap.size]? = some (.cells #[.bool false] 4 (0,0)) := by rw [← hw1]; exact World.alloc_heap_new w _
  have hT1 : Turns Noth w w1 := by rw [← hw1]; exact Turns.alloc _ _ _
  rw [hw1,← hs1]
  have hpl : ∀ j,j < (parts x.data.toList).length → (partN x j).data.toList.length ≤ x.size := fun j hj => by rw [← size_ba]; exact parts_len _ _ (partAt hj)
  have hno : ∀ j,j < (parts x.data.toList).length → partB (partN x j).data.toList = false → (parts x.data.toList).all partB = false := fun j hj hb => parts_all_no hj hb
  have hyes : (∀ j,j < (parts x.data.toList).length → partB (partN x j).data.toList = true) → (parts x.data.toList).all partB = true := parts_all_yes
  refine wp_rangeX (gf := 223) (lb := splitV w1.heap.size) rfl (enters_of Tryz.func223 (by kernel_rfl) rfl) (split1_gives w1.heap.size x hx) (fun _ => rfl)
   (fun j X W => (Base w1 (fun k => k = w.heap.size) X W ∧ W.heap[w.heap.size]? = some (.cells #[.bool false] 4 (0,0))) ∧ ∀ i,i < j → partB (partN x i).data.toList = true)
   (fun c j X W => (Base w1 (fun k => k = w.heap.size) X W ∧ W.heap[w.heap.size]? = some (.cells #[.bool false] 4 (0,0))) ∧ (parts x.data.toList).all partB = false ∧ c = .ret)
   (fun a' j X W => ((Base w1 (fun k => k = w.heap.size) X W ∧ W.heap[w.heap.size]? = some (.cells #[.bool false] 4 (0,0))) ∧ ∀ i,i < j → partB (partN x i).data.toList = true) ∧
    a' = { tmps := #[.string x,undef,.pointer (some ⟨w.heap.size,0,none⟩),.int .i64 ((x.size : Int) - m),.string (partN x j),.string x,.int .i64 x.size,.string x,.int .i64 m,.int .i64 ((x.size : Int) - m),.int .i64 ((x.size : Int) - m),.bool (decide ((x.size : Int) - m < 2)),.bool (decide ((x.size : Int) - m < 2)),.int .i64 ((x.size : Int) - m),.bool (decide (64 < (x.size : Int) - m)),.bool (decide ((x.size : Int) - m < 2) || decide (64 < (x.size : Int) - m)),.string x,.func (.func 223) #[] (splitV w1.heap.size),.string (partN x j),undef,undef,undef,undef,undef,undef,undef],defers := [] })
   ((steady_box (by omega) (fun _ => _)).and (Steady.pure _)) (fun c => (steady_box (by omega) (fun _ => _)).and (Steady.pure (fun _ => _))) (fun a' => ((steady_box (by omega) (fun _ => _)).and (Steady.pure _)).and (Steady.pure _)) (splitW_read x w1) ?hX ⟨⟨splitW_base x w1 _,?h0⟩,fun i hi => by omega⟩ ?assign ?body ?done ?stop
  case hX => intro k hk; rw [splitW_size]; rcases hk with rfl | rfl | rfl <;> omega
  case h0 => exact ((splitW_turns x w1 Noth).block _ (by omega) (fun h => h)).trans hB0
  case assign =>
   rintro l j X W K hj ⟨⟨hb,hv⟩,hji⟩ hK
   unfold encP
   gi_wp2
   exact hK _ _ (Keeps.refl _ _) ⟨⟨⟨hb,hv⟩,hji⟩,by rw [hs1]⟩
  case body =>
   rintro l j X a' W hj ⟨⟨⟨hb,hv⟩,hji⟩,rfl⟩
   have hpl' := hpl j hj
   have hno' := hno j hj
   have hji2 : partB (partN x j).data.toList = true → ∀ i,i < j + 1 → partB (partN x i).data.toList = true := fun hp i hi => by
    by_cases h : i < j
    ·exact hji i h
    ·obtain rfl : i = j := by omega
     exact hp
   generalize partN x j = q at *
   have hqe := isEmpty_ba q
   have hA := allSmall_any q (by rw [← size_ba]; omega) W
   have hf0 : W.frozen? ⟨w.heap.size,0,none⟩ = false := Lib.frozen_of_heap hv 0
   have hc0 : W.cell? ⟨w.heap.size,0,none⟩ = some (.bool false) := by rw [Lib.cell_of_heap hv]; rfl
   have hv' : (W.setCell ⟨w.heap.size,0,none⟩ (.bool false)).heap[w.heap.size]? = some (.cells #[.bool false] 4 (0,0)) := Blk.set (show Blk W w.heap.size #[.bool false] 4 from hv) 0 _
   have hkp : Keeps X W (W.setCell ⟨w.heap.size,0,none⟩ (.bool false)) := Keeps.set W (fun h => by have := (hb.young _ h).1; simp at this; omega) _
   have hb' : Base w1 (fun k => k = w.heap.size) X (W.setCell ⟨w.heap.size,0,none⟩ (.bool false)) := hb.set rfl _
   by_cases hq0 : q.size = 0
   ·have hr : Hid ((parts x.data.toList).all partB = false) := hno' (by
     obtain rfl := size_zero hq0
     rfl)
    have hE : (ByteArray.toList q).isEmpty = true := by rw [hqe]; simpa using hq0
    have hqh : Hid (q.size = 0) := hq0
    clear hno hno' hyes hji2 hji hqe hq0 hA hpl hpl'
    gi_wp2_with fail
    exact ⟨hkp,⟨hb',hv'⟩,hr.out,rfl⟩
   ·have hE : (ByteArray.toList q).isEmpty = false := by rw [hqe]; simpa using hq0
    have hpe : partB q.data.toList = q.data.toList.all sml := by
     unfold partB
     have : q.data.toList.isEmpty = false := by rw [← ByteArray.toList_eq]; exact hE
     rw [this]; rfl
    cases hs : q.data.toList.all sml with
    | true =>
     rw [hs] at hA
     have hnx : Hid (∀ i,i < j + 1 → partB (partN x i).data.toList = true) := hji2 (by rw [hpe,hs])
     have hqh : Hid (¬ q.size = 0) := hq0
     clear hno hno' hyes hji2 hji hqe hq0 hpl hpl' hpe hs
     gi_wp2_with (gi_at_call 183; refine (callsIn_wide.2 hA).mono ?_; rintro e w' ⟨rfl,hww⟩; subst w')
     exact ⟨Keeps.refl _ _,⟨hb,hv⟩,hnx.out⟩
    | false =>
     rw [hs] at hA
     have hr : Hid ((parts x.data.toList).all partB = false) := hno' (by rw [hpe,hs])
     have hqh : Hid (¬ q.size = 0) := hq0
     clear hno hno' hyes hji2 hji hqe hq0 hpl hpl' hpe hs
     gi_wp2_with (gi_at_call 183; refine (callsIn_wide.2 hA).mono ?_; rintro e w' ⟨rfl,hww⟩; subst w')
     exact ⟨hkp,⟨hb',hv'⟩,hr.out,rfl⟩
  case done =>
   rintro D W hD ⟨⟨hb,hv⟩,hji⟩ hK
   rw [splitW_size] at hD
   have hr : Hid ((parts x.data.toList).all partB = true) := hyes hji
   have hf0 : W.frozen? ⟨w.heap.size,0,none⟩ = false := Lib.frozen_of_heap hv 0
   have hc0 : W.cell? ⟨w.heap.size,0,none⟩ = some (.bool false) := by rw [Lib.cell_of_heap hv]; rfl
   have hv' : (W.setCell ⟨w.heap.size,0,none⟩ (.bool true)).heap[w.heap.size]? = some (.cells #[.bool true] 4 (0,0)) := Blk.set (show Blk W w.heap.size #[.bool false] 4 from hv) 0 _
   clear hji hno hyes hpl
   gi_wp2
   have hK' := (Below.heap_setCell W ⟨w.heap.size,0,none⟩ (.bool true) D (show D ≠ w.heap.size by omega)).trans hK
   refine ⟨by simp,.inl ⟨_,_,rfl,run_takeDeferred hK',?_⟩⟩
   refine ⟨_,results_cells1 rfl _ _ w.heap.size (.bool true) rfl (agg_no Tryz.underlying4 rfl _) (by rw [Lib.cell_of_heap ((heap_put (by omega) _).trans hv')]; rfl),by rw [hr.out],below_end hT1 (hb.set rfl _) (fun k h => by omega) _⟩
  case stop =>
   rintro D c j W hD hj ⟨⟨hb,hv⟩,hr,rfl⟩ hK
   rw [splitW_size] at hD
   gi_wp2
   refine ⟨by simp,.inl ⟨_,_,rfl,run_takeDeferred hK,?_⟩⟩
   refine ⟨_,results_cells1 rfl _ _ w.heap.size (.bool false) rfl (agg_no Tryz.underlying4 rfl _) (by rw [Lib.cell_of_heap ((heap_put (by omega) _).trans hv)]; rfl),by rw [hr],below_end hT1 hb (fun k h => by omega) _⟩
 ·have hE : excB x.data.toList = false := by
   unfold excB; rw [size_ba]
   by_cases h2 : 2 ≤ x.size - x.data.toList.count 45
   ·rw [decide_eq_false (show ¬ x.size - x.data.toList.count 45 ≤ 64 from fun h => hb ⟨h2,h⟩)]; simp
   ·rw [decide_eq_false h2]; rfl
  rw [hE]
  clear hE
  generalize x.data.toList.count 45 = m at *
  have hB : Below w.heap.size w (w.alloc (.cells #[.bool false] 4)) := (Below.refl _ w).alloc (Nat.le_refl _) _
  have hbk : Blk (w.alloc (.cells #[.bool false] 4)) w.heap.size #[.bool false] 4 := World.alloc_heap_new w _
  have hcb : (w.alloc (.cells #[.bool false] 4)).cell? ⟨w.heap.size,0,none⟩ = some (.bool false) := by rw [hbk.cell]; rfl
  by_cases h2 : (x.size : Int) - m < 2
  ·clear hb
   go_enter Tryz.func178,Tryz.ntmps178
   go_wp2_with (go_at_call 125; refine (hC _).mono ?_; rintro e w' ⟨rfl,hww⟩; subst w')
   refine bodyPost_ret (results_cells1 rfl _ _ w.heap.size _ rfl (agg_no Tryz.underlying4 rfl _) hcb) rfl ?_
   exact ⟨rfl,hB⟩
  ·have h3 : 64 < (x.size : Int) - m := by omega
   clear hb
   go_enter Tryz.func178,Tryz.ntmps178
   go_wp2_with (go_at_call 125; refine (hC _).mono ?_; rintro e w' ⟨rfl,hww⟩; subst w')
   refine bodyPost_ret (results_cells1 rfl _ _ w.heap.size _ rfl (agg_no Tryz.underlying4 rfl _) hcb) rfl ?_
   exact ⟨rfl,hB⟩
end Go.Proofs.YtbdpghjegachaaaGreatDoor.Hy

namespace Go.Proofs.YtbdpghjegachaaaGreatDoor.Hy
open Go.RowKit Go.Shelf

def wordTo (ps : List Bs) (j : Nat) : Bs := (ps.take j).flatten
def plTo (ps : List Bs) : Nat → List Int
 | 0 => []
 | j + 1 => if 0 < (wordTo ps j).length then plTo ps j ++ [((wordTo ps j).length : Int)] else plTo ps j
theorem wordTo_succ {ps : List Bs} {j : Nat} (h : j < ps.length) : wordTo ps (j + 1) = wordTo ps j ++ ps[j]'h := by
 unfold wordTo
 rw [List.take_succ_eq_append_getElem h,List.flatten_append]; simp
theorem plTo_len (ps : List Bs) : ∀ j,(plTo ps j).length ≤ j
 | 0 => by simp [plTo]
 | j + 1 => by
  have := plTo_len ps j
  rw [plTo]
  split <;> simp <;> omega
theorem strCells_eq (s : ByteArray) : Lib.strCells s = Lib.byteCells s.data.toList := by
 first | rfl | simp [Lib.strCells,Lib.byteCells]
theorem byteCells_append (a b : Bs) : Lib.byteCells (a ++ b) = Lib.byteCells a ++ Lib.byteCells b := by simp [Lib.byteCells]

structure S2 (w1 : World) (b0 b1 : Nat) (wv pv : Value) (wd : Bs) (pl : List Int) (X : Nat → Prop) (W : World) : Prop where
 base : Base w1 (fun k => k = b0 ∨ k = b1) X W
 bw : Blk W b0 #[wv] 176
 bp : Blk W b1 #[pv] 44
 rw : W.ownsRow w1.heap.size 5 1 wv wd.length (Lib.byteCells wd)
 rp : W.ownsRow w1.heap.size 3 1 pv pl.length (ints pl)
 xw : ∀ g,wv.ownBlock = some g → ¬ X g
 xp : ∀ g,pv.ownBlock = some g → ¬ X g
theorem rows_ne {W : World} {e e' : TypeId} {base base' n n' s s' g : Nat} {v v' : Value} {xs xs' : List Value} (h : W.ownsRow base e s v n xs) (h' : W.ownsRow base' e' s' v' n' xs') (he : e ≠ e') (hg : v.ownBlock = some g) : v'.ownBlock ≠ some g := fun hg' => by
 rcases h.2 with ⟨rfl,_⟩ | ⟨a,cap,cur,rfl,_,ha,_⟩
 ·cases hg
 ·cases hg
  rcases h'.2 with ⟨rfl,_⟩ | ⟨a',cap',cur',rfl,_,ha',_⟩
  ·cases hg'
  ·cases hg'
   rw [ha] at ha'
   injection ha' with e1
   injection e1 with e2 e3
   exact he e3
section
variable {w1 W W' : World} {b0 b1 : Nat} {wv pv : Value} {wd : Bs} {pl : List Int} {X : Nat → Prop}
theorem base_turn {own : Nat → Prop} (h : Base w1 own X W) {Y : Nat → Prop} (ht : Turns Y W W') (hY : ∀ k,Y k → own k ∨ w1.heap.size ≤ k) : Base w1 own X W' :=
 ⟨h.turns.trans' ht hY,fun k hk => by have := h.young k hk; have := ht.size; omega⟩
theorem S2.places (h : S2 w1 b0 b1 wv pv wd pl X W) (hne : b0 ≠ b1) (hb1 : b1 < w1.heap.size) {pv' : Value} {pl' : List Int} (ht : Turns (fun k => k = b1 ∨ pv.ownBlock = some k) W W') (hb : Blk W' b1 #[pv'] 44)
  (hr : W'.ownsRow w1.heap.size 3 1 pv' pl'.length (ints pl')) (hw : pv'.ownBlock = pv.ownBlock ∨ ∀ g,pv'.ownBlock = some g → W.heap.size ≤ g) : S2 w1 b0 b1 wv pv' wd pl' X W' ∧ Keeps X W W' := by
 refine ⟨⟨base_turn h.base ht ?_,h.bw.turns ht ?_,hb,ownsRow_turns h.rw ht ?_,hr,h.xw,?_⟩,Keeps.of_turns ht ?_⟩
 ·rintro k (rfl | hk)
  ·exact .inl (.inr rfl)
  ·exact .inr (h.rp.lt k hk).1
 ·rintro (rfl | hk)
  ·exact hne rfl
  ·exact row_ne h.rp h.bw (by decide) hk
 ·rintro g hg (rfl | hk)
  ·exact row_ne h.rw h.bp (by decide) hg
  ·exact rows_ne h.rw h.rp (by decide) hg hk
 ·intro g hg hx
  rcases hw with hw | hw
  ·exact h.xp g (hw ▸ hg) hx
  ·have := hw g hg; have := (h.base.young g hx).2; omega
 ·rintro k hk (rfl | hk')
  ·have := (h.base.young k hk).1; omega
  ·exact h.xp k hk' hk
theorem S2.word (h : S2 w1 b0 b1 wv pv wd pl X W) (hne : b0 ≠ b1) (hb0 : b0 < w1.heap.size) {wv' : Value} {wd' : Bs} (ht : Turns (fun k => k = b0 ∨ wv.ownBlock = some k) W W') (hb : Blk W' b0 #[wv'] 176)
  (hr : W'.ownsRow w1.heap.size 5 1 wv' wd'.length (Lib.byteCells wd')) (hw : wv'.ownBlock = wv.ownBlock ∨ ∀ g,wv'.ownBlock = some g → W.heap.size ≤ g) : S2 w1 b0 b1 wv' pv wd' pl X W' ∧ Keeps X W W' := by
 refine ⟨⟨base_turn h.base ht ?_,hb,h.bp.turns ht ?_,hr,ownsRow_turns h.rp ht ?_,?_,h.xp⟩,Keeps.of_turns ht ?_⟩
 ·rintro k (rfl | hk)
  ·exact .inl (.inl rfl)
  ·exact .inr (h.rw.lt k hk).1
 ·rintro (rfl | hk)
  ·exact hne rfl
  ·exact row_ne h.rw h.bp (by decide) hk
 ·rintro g hg (rfl | hk)
  ·exact row_ne h.rp h.bw (by decide) hg
  ·exact rows_ne h.rp h.rw (by decide) hg hk
 ·intro g hg hx
  rcases hw with hw | hw
  ·exact h.xw g (hw ▸ hg) hx
  ·have := hw g hg; have := (h.base.young g hx).2; omega
 ·rintro k hk (rfl | hk')
  ·have := (h.base.young k hk).1; omega
  ·exact h.xw k hk' hk
theorem S2.steady (w1 : World) (b0 b1 : Nat) (hb0 : b0 < w1.heap.size) (hb1 : b1 < w1.heap.size) (wd : Nat → Bs) (pl : Nat → List Int) : Steady (fun j X W => ∃ wv pv,S2 w1 b0 b1 wv pv (wd j) (pl j) X W) :=
 fun j X X' W W' hs ht hx => by
  obtain ⟨wv,pv,h⟩ := hs
  refine ⟨wv,pv,h.base.step ht hx,(h.base.keep ht hb0).trans h.bw,(h.base.keep ht hb1).trans h.bp,ownsRow_turns h.rw ht h.xw,ownsRow_turns h.rp ht h.xp,fun g hg hX => ?_,fun g hg hX => ?_⟩
  ·have := (h.rw.lt g hg).2
   exact (hx g hX).elim (h.xw g hg) (fun h => by omega)
  ·have := (h.rp.lt g hg).2
   exact (hx g hX).elim (h.xp g hg) (fun h => by omega)
end
theorem wpListIn_append_where_string {F : Fence} {n : Nat} {P : Program} (w : World) {ops : Array Oper} {rest : List Oper} {o : Oper} {a : Act} {Q : Exit → Act → World → Prop} (hgd : o.guard = none) (sl x : Operand) (t u : TypeId)
  (hop : o.op = .call { callee := .builtin .append,args := #[sl,x],argTypes := #[t,u] })
  (base : Nat) (e : TypeId) (i : TypeInfo) (ht : P.underlying t = some (.slice e)) (hu : P.underlying u = some .string) (hi : P.info? e = some i) (hz : i.zero = some (.int .u8 0))
  (hsize : i.size = 1) (hby : i.bytes = 1) (v : Value) (m : Nat) (xs : List Value) (hs : a.eval sl = v) (hown : w.ownsRow base e 1 v m xs) (s : ByteArray) (hx : a.eval x = .string s)
  (h63 : m + s.size ≤ maxLen) (hbytes : m + s.size ≤ 140737488355328) (hbase : base ≤ w.heap.size)
  (hK : ∀ v' w',w'.ownsRow base e 1 v' (m + s.size) (xs ++ Lib.strCells s) → w.grownBy w' v.ownBlock → (v'.ownBlock = v.ownBlock ∨ ∀ g,v'.ownBlock = some g → w.heap.size ≤ g) → wpListIn F n P ops Q rest (a.put o.dst v') w') : wpListIn F n P ops Q (o :: rest) a w := by
 refine wpListIn_plain hgd fun K hK' => ?_
 obtain ⟨v',w',hrun,r1,r2,r3⟩ := run_append_where_string (P := P) w base t u o.type e i ht hu hi hz hsize hby v m xs hown s h63 hbytes hbase
 unfold Oper.wpIn
 refine ⟨?_,?_⟩
 ·simp [Oper.about,hop,resolve,Target.leads,Sem.run_pure]
 ·rw [Oper.semAt_plain F _ _ (by rw [hop]; intro c hc'; cases hc')]
  simp [execOp,hop,resolve,invoke,builtin,hs,hx,hrun,Result.andThen]
  exact hK' _ _ (hK v' w' r1 r2 r3)
end Go.Proofs.YtbdpghjegachaaaGreatDoor.Hy

namespace Go.Proofs.YtbdpghjegachaaaGreatDoor.Hy
open Go.RowKit Go.Shelf

abbrev Ex := Bs → Option (List Int)
abbrev Vs := Bs → Option Value
def HOwn (N : Ns) (em : Nat) (V : Vs) (k : Nat) : Prop := NOwn N k ∨ k = em ∨ ∃ l v,V l = some v ∧ v.ownBlock = some k
structure HyphAt (w : World) (base hb : Nat) (T : Tr) (E : Ex) (N : Ns) (em M : Nat) (V : Vs) : Prop where
 trie : TrieAt w hb (.pointer (some ⟨hb,0,none⟩)) (.map (some em)) T N M
 emap : MapAt 9 encS w em (fun s => V s.data.toList) M
 rows : ∀ l v,V l = some v → ∃ d,E l = some d ∧ d.length ≤ 1000 ∧ w.ownsRow 0 3 1 v d.length (ints d)
 dom : ∀ l,V l = none → E l = none
 ape : ¬ NOwn N em
 apr : ∀ l v g,V l = some v → v.ownBlock = some g → ¬ NOwn N g
 young : ∀ k,HOwn N em V k → base ≤ k
section
variable {w w' : World} {base hb : Nat} {T : Tr} {E : Ex} {N : Ns} {em M : Nat} {V : Vs}
theorem HyphAt.lt (h : HyphAt w base hb T E N em M V) {k : Nat} (hk : HOwn N em V k) : k < w.heap.size := by
 rcases hk with hk | rfl | ⟨l,v,h1,h2⟩
 ·exact h.trie.lt hk
 ·exact h.emap.lt
 ·obtain ⟨d,_,_,hr⟩ := h.rows l v h1
  exact row_lt hr h2
theorem HyphAt.turns (h : HyphAt w base hb T E N em M V) {X : Nat → Prop} (ht : Turns X w w') (hx : ∀ k,X k → ¬ HOwn N em V k) : HyphAt w' base hb T E N em M V :=
 ⟨h.trie.turns ht (fun k hX hk => hx k hX (.inl hk)),h.emap.turns ht (fun hX => hx em hX (.inr (.inl rfl))),fun l v hv => by
  obtain ⟨d,h1,h2,h3⟩ := h.rows l v hv
  exact ⟨d,h1,h2,ownsRow_turns h3 ht (fun g hg hX => hx g hX (.inr (.inr ⟨l,v,hv,hg⟩)))⟩,h.dom,h.ape,h.apr,h.young⟩
theorem HyphAt.below (h : HyphAt w base hb T E N em M V) (hbl : Below w.heap.size w w') : HyphAt w' base hb T E N em M V := h.turns (Turns.of_below hbl) (fun _ h => h.elim)
theorem HyphAt.some_iff (h : HyphAt w base hb T E N em M V) (l : Bs) : (V l).isSome = (E l).isSome := by
 cases hv : V l with
 | none => rw [h.dom l hv]; rfl
 | some v => obtain ⟨d,hd,_⟩ := h.rows l v hv; rw [hd]; rfl
theorem HyphAt.cells (h : HyphAt w base hb T E N em M V) : w.cell? ⟨hb,0,none⟩ = some (.pointer (some ⟨hb,0,none⟩)) ∧ w.cell? ⟨hb,3,none⟩ = some (.map (some em)) := by
 obtain ⟨x,h1,h2,h3,h4,h5⟩ := h.trie.root
 obtain ⟨d,hd⟩ := h.trie.get h1
 have hl := h.trie.loc [] x d h1 hd
 have hbk := hl.blk
 rw [h5,h2] at hbk
 exact ⟨by rw [hbk.cell]; rfl,by rw [hbk.cell]; rfl⟩
theorem HyphAt.trie_step (h : HyphAt w base hb T E N em M V) {T' : Tr} {N' : Ns} {M' : Nat} (hb0 : base ≤ w.heap.size) (ht : TrieAt w' hb (.pointer (some ⟨hb,0,none⟩)) (.map (some em)) T' N' M') (hx : Ext N w N' w') (hM : M ≤ M') : HyphAt w' base hb T' E N' em M' V := by
 have hem := h.emap.lt
 refine ⟨ht,(h.emap.turns hx.1 h.ape).mono hM,fun l v hv => ?_,h.dom,fun hk => ?_,fun l v g hv hg hk => ?_,fun k hk => ?_⟩
 ·obtain ⟨d,h1,h2,h3⟩ := h.rows l v hv
  exact ⟨d,h1,h2,ownsRow_turns h3 hx.1 (fun g hg => h.apr l v g hv hg)⟩
 ·rcases hx.2 em hk with h1 | h1
  ·exact h.ape h1
  ·omega
 ·rcases hx.2 g hk with h1 | h1
  ·exact h.apr l v g hv hg h1
  ·obtain ⟨d,_,_,h3⟩ := h.rows l v hv
   have := row_lt h3 hg; omega
 ·rcases hk with hk | hk
  ·rcases hx.2 k hk with h1 | h1
   ·exact h.young k (.inl h1)
   ·omega
  ·exact h.young k (.inr hk)
def setV {α : Type} (V : Bs → Option α) (l : Bs) (v : α) : Bs → Option α := fun u => if u = l then some v else V u
theorem HyphAt.exc (h : HyphAt w base hb T E N em M V) (_hb0 : base ≤ w.heap.size) {v : Value} {d : List Int} (hd : d.length ≤ 1000) (hr : w.ownsRow base 3 1 v d.length (ints d)) (hv : ∀ g,v.ownBlock = some g → ¬ NOwn N g) (s : ByteArray) (hs : s.size ≤ 1000000) (hM : M < 1000000) :
  ∃ w',(Instr.mapUpdate 206 (.map (some em)) (.string s) v).run Tryz.prog w = .ok () w' ∧ HyphAt w' base hb T (setV E s.data.toList d) N em (M + 1) (setV V s.data.toList v) ∧ Turns (fun k => k = em) w w' := by
 obtain ⟨w',h1,h2,h3⟩ := h.emap.put law9 Tryz.underlying206 (by unfold maxLen; omega) s (keyOf9 (by unfold maxLen; omega)) v encS_inj (fun _ => trivial)
 obtain ⟨es,cl,hm⟩ := h.emap.isMap
 have hrow : ∀ {b n : Nat} {u : Value} {xs : List Value},w.ownsRow b 3 1 u n xs → w'.ownsRow b 3 1 u n xs := fun hu => ownsRow_turns hu h3 (fun g hg (e : g = em) => by
  subst e
  rcases hu.2 with ⟨h1,_⟩ | ⟨a,cap,cur,h1,_,ha,_⟩
  ·rw [h1] at hg; cases hg
  ·rw [h1] at hg; cases hg; rw [hm] at ha; cases ha)
 refine ⟨w',h1,⟨(h.trie.turns h3 (fun k hk hN => h.ape (by subst hk; exact hN))).mono (by omega),?_,fun l u hu => ?_,fun l hl => ?_,h.ape,fun l u g hu hg => ?_,fun k hk => ?_⟩,h3⟩
 ·have e : (fun a : ByteArray => setV V s.data.toList v a.data.toList) = fun a => if a = s then some v else V a.data.toList := by
   funext a
   unfold setV
   by_cases ha : a = s
   ·rw [if_pos ha,if_pos (by rw [ha])]
   ·rw [if_neg ha,if_neg (fun e => ha (by rw [ba_eq (a := a) rfl,e,← ba_eq (a := s) rfl]))]
  rw [e]; exact h2
 ·unfold setV at hu ⊢
  by_cases hl : l = s.data.toList
  ·rw [if_pos hl] at hu ⊢
   cases hu
   exact ⟨d,rfl,hd,hrow (ownsRow_base hr (Nat.zero_le _))⟩
  ·rw [if_neg hl] at hu ⊢
   obtain ⟨d',q1,q2,q3⟩ := h.rows l u hu
   exact ⟨d',q1,q2,hrow q3⟩
 ·unfold setV at hl ⊢
  by_cases e : l = s.data.toList
  ·rw [if_pos e] at hl; cases hl
  ·rw [if_neg e] at hl ⊢; exact h.dom l hl
 ·unfold setV at hu
  by_cases e : l = s.data.toList
  ·rw [if_pos e] at hu; cases hu; exact hv g hg
  ·rw [if_neg e] at hu; exact h.apr l u g hu hg
 ·rcases hk with hk | rfl | ⟨l,u,hu,hg⟩
  ·exact h.young k (.inl hk)
  ·exact h.young k (.inr (.inl rfl))
  ·unfold setV at hu
   by_cases e : l = s.data.toList
   ·rw [if_pos e] at hu; cases hu; exact (hr.lt k hg).1
   ·rw [if_neg e] at hu; exact h.young k (.inr (.inr ⟨l,u,hu,hg⟩))
end
theorem conv_bytes {W : World} {base : Nat} {v : Value} {l : Bs} (h : W.ownsRow base 5 1 v l.length (Lib.byteCells l)) : (convert 176 9 v).run Tryz.prog W = .ok (.string ⟨l.toArray⟩) W := by
 rcases h.2 with ⟨rfl,h0⟩ | ⟨g,cap,cur,rfl,_,hg,hcap,_,_,htk⟩
 ·have : l = [] := List.eq_nil_of_length_eq_zero h0
  subst this
  show (convert 176 9 (.slice none 0 0)).run Tryz.prog W = _
  rw [run_convert_bytes_string W 176 9 5 none 0 0 Tryz.underlying176 Tryz.underlying5 Tryz.underlying9]
  rfl
 ·exact run_convert_bytes_back (P := Tryz.prog) W 176 9 5 ⟨g,0,none⟩ cap l Tryz.underlying176 Tryz.underlying5 Tryz.underlying9 (fun j hj => h.cells (g := g) rfl j _ (by simp [Lib.byteCells,hj]))
end Go.Proofs.YtbdpghjegachaaaGreatDoor.Hy
