/-
  What is proved here: what CopyRow answers: the row once more, in blocks of its own.
  What is proved here: an append of a line to a row of lines leaves in the row's block, to the last of its capacity, records whose first cell is a number.
  What is proved here: what within answers, with what its block holds.
  What is proved here: what OverLines and OverCells do.
-/
import Derived.Test.YtaphggjakaghjaaGreatDoorG36
import Derived.Test.YtaphggjakaghjaaGreatDoorG34
namespace Go.Proofs.YtaphggjakaghjaaGreatDoor
open Go.RowKit Go.Shelf
set_option maxRecDepth 100000
set_option maxHeartbeats 4000000

theorem build36 (W : World) : (Instr.buildSlice 36 0 #[]).run Tryz.prog W = .ok (.slice (some ⟨W.heap.size,0,none⟩) 0 0) (W.alloc (.cells #[] 3)) := by kernel_rfl
def CrEnd (h : Int) (ss : List Int) (cs : List Cel) (w : World) (e : Ending) (w' : World) : Prop := (∃ (sa : Option Addr) (sc : Nat) (ca : Option Addr) (cc : Nat) (d : List Cel),e = .returned (.agg #[.int .i64 h,.slice sa ss.length sc,.slice ca cs.length cc]) ∧ d.length = cs.length ∧ w'.ownsRow w.heap.size 3 1 (.slice sa ss.length sc) ss.length (ss.flatMap inL) ∧ w'.ownsRow w.heap.size 46 3 (.slice ca cs.length cc) d.length (d.flatMap ceL) ∧ ∀ i (h : i < d.length),JnIs (cs.getD i ce0) ((([] : List Cel)).getD i ce0) d[i] ∧ w'.ownsRow w.heap.size 55 7 d[i].v d[i].ls.length (d[i].ls.flatMap lxL)) ∧ Below w.heap.size w w'
theorem copyRow_any (h : Int) (sv cv : Value) (ss : List Int) (cs : List Cel) (w : World) (hs4 : ss.length * 8 ≤ 140737488355328) (h4 : cs.length ≤ 400) (hS : RecAt 1 inL w sv ss) (hC : RecAt 3 ceL w cv cs) (hla : ∀ c ∈ cs,LxsAt w c.v c.ls ∧ c.ls.length ≤ 20000) :
  Calls Tryz.prog 20 #[.agg #[.int .i64 h,sv,cv]] w (CrEnd h ss cs w) := by
 obtain ⟨sa,sc,rfl⟩ : ∃ a c,sv = .slice a ss.length c := by obtain ⟨a,c,h,_⟩ := hS.ex; exact ⟨a,c,h⟩
 obtain ⟨ca,cc,rfl⟩ : ∃ a c,cv = .slice a cs.length c := by obtain ⟨a,c,h,_⟩ := hC.ex; exact ⟨a,c,h⟩
 have hB1 := (Below.refl w.heap.size w).alloc (Nat.le_refl _) (.cells #[.int .i64 h,.slice sa ss.length sc,.slice ca cs.length cc] 39)
 have s1 : (w.alloc (.cells #[.int .i64 h,.slice sa ss.length sc,.slice ca cs.length cc] 39)).heap.size = w.heap.size + 1 := World.size_alloc _ _
 have y1 : (w.alloc (.cells #[.int .i64 h,.slice sa ss.length sc,.slice ca cs.length cc] 39)).heap[w.heap.size]? = some (.cells #[.int .i64 h,.slice sa ss.length sc,.slice ca cs.length cc] 39 (0,0)) := World.alloc_heap_new w _
 generalize e1 : w.alloc (.cells #[.int .i64 h,.slice sa ss.length sc,.slice ca cs.length cc] 39) = w1 at *
 have e1h : Hid (w.alloc (.cells #[.int .i64 h,.slice sa ss.length sc,.slice ca cs.length cc] 39) = w1) := e1
 have hB2 := hB1.alloc hB1.size (.cells #[.int .i64 0,.slice none 0 0,.slice none 0 0] 39)
 have s2 : (w1.alloc (.cells #[.int .i64 0,.slice none 0 0,.slice none 0 0] 39)).heap.size = w.heap.size + 2 := by rw [World.size_alloc,s1]
 have y2 : (w1.alloc (.cells #[.int .i64 0,.slice none 0 0,.slice none 0 0] 39)).heap[w.heap.size]? = some (.cells #[.int .i64 h,.slice sa ss.length sc,.slice ca cs.length cc] 39 (0,0)) := (Below.heap_alloc _ _ _ (by omega)).trans y1
 have z2 : (w1.alloc (.cells #[.int .i64 0,.slice none 0 0,.slice none 0 0] 39)).heap[w.heap.size + 1]? = some (.cells #[.int .i64 0,.slice none 0 0,.slice none 0 0] 39 (0,0)) := by rw [← s1]; exact World.alloc_heap_new w1 _
 generalize e2 : w1.alloc (.cells #[.int .i64 0,.slice none 0 0,.slice none 0 0] 39) = w2 at *
 have e2h : Hid (w1.alloc (.cells #[.int .i64 0,.slice none 0 0,.slice none 0 0] 39) = w2) := e2
 have x2 : (w2.alloc (.cells #[.int .i64 0,.slice none 0 0,.slice none 0 0] 39)).heap[w.heap.size + 2]? = some (.cells #[.int .i64 0,.slice none 0 0,.slice none 0 0] 39 (0,0)) := by rw [← s2]; exact World.alloc_heap_new w2 _
 have hbx := below_box w2 (.cells #[.int .i64 0,.slice none 0 0,.slice none 0 0] 39) #[.int .i64 h,.slice sa ss.length sc,.slice ca cs.length cc]
 rw [s2] at hbx
 have s4 : ((w2.alloc (.cells #[.int .i64 0,.slice none 0 0,.slice none 0 0] 39)).setRow (w.heap.size + 2) #[.int .i64 h,.slice sa ss.length sc,.slice ca cs.length cc]).heap.size = w.heap.size + 3 := by simp [s2]
 have x4 := setRow_heap _ _ _ (#[.int .i64 h,.slice sa ss.length sc,.slice ca cs.length cc] : Array Value) _ _ x2
 generalize e4 : (w2.alloc (.cells #[.int .i64 0,.slice none 0 0,.slice none 0 0] 39)).setRow (w.heap.size + 2) #[.int .i64 h,.slice sa ss.length sc,.slice ca cs.length cc] = w4 at *
 have e4h : Hid ((w2.alloc (.cells #[.int .i64 0,.slice none 0 0,.slice none 0 0] 39)).setRow (w.heap.size + 2) #[.int .i64 h,.slice sa ss.length sc,.slice ca cs.length cc] = w4) := e4
 have hB4 : Below w.heap.size w w4 := hB2.trans (hbx.mono (by omega))
 have y4 := (hbx.block w.heap.size (by omega)).trans y2
 have z4 := (hbx.block (w.heap.size + 1) (by omega)).trans z2
 obtain ⟨sb,sd,w5,hrun,hu5,hb5⟩ := cp_run el3 (by decide) (by decide) inL_len inL_one hS hs4 (by omega) w4 hB4
 rw [s4] at hu5 hb5
 have hBa : Below w4.heap.size w4 (w4.alloc (.cells #[] 3)) := (Below.refl _ _).alloc (Nat.le_refl _) _
 have kA : (w4.alloc (.cells #[] 3)).cell? ⟨w.heap.size,1,none⟩ = some (.slice sa ss.length sc) := (Lib.cell_of_heap ((hBa.block w.heap.size (by omega)).trans y4) _).trans rfl
 have y5 := (hb5.block w.heap.size (by omega)).trans y4
 have z5 := (hb5.block (w.heap.size + 1) (by omega)).trans z4
 have x5 := (hb5.block (w.heap.size + 2) (by omega)).trans x4
 have k5 : w5.cell? ⟨w.heap.size + 2,1,none⟩ = some (.slice sa ss.length sc) := (Lib.cell_of_heap x5 _).trans rfl
 have f5 : w5.frozen? ⟨w.heap.size + 2,1,none⟩ = false := Lib.frozen_of_heap x5 _
 have x6 := heap_setCell_same w5 (w.heap.size + 2) 1 _ 39 (.slice sb ss.length sd) x5
 have hT6 := Turns.setCell (X := fun j => j = w.heap.size + 2) w5 (p := ⟨w.heap.size + 2,1,none⟩) rfl (.slice sb ss.length sd)
 have hu6 := ownsRow_turns hu5 hT6 (fun g hg e => by have := (hu5.lt g hg).1; omega)
 have hB6 : Below (w.heap.size + 2) w2 (w5.setCell ⟨w.heap.size + 2,1,none⟩ (.slice sb ss.length sd)) := by
  have hm := hbx.trans (hb5.mono (show w.heap.size + 2 ≤ _ by omega))
  exact hm.trans (hT6.below (by have := hm.size; omega) (fun j hj => by omega))
 have s6 : w.heap.size + 3 ≤ (w5.setCell ⟨w.heap.size + 2,1,none⟩ (.slice sb ss.length sd)).heap.size := by have := hb5.size; have := hT6.size; omega
 have y6 := (hT6.block w.heap.size (by have := hb5.size; omega) (by omega)).trans y5
 have z6 := (hT6.block (w.heap.size + 1) (by have := hb5.size; omega) (by omega)).trans z5
 generalize e6 : w5.setCell ⟨w.heap.size + 2,1,none⟩ (.slice sb ss.length sd) = w6 at *
 have e6h : Hid (w5.setCell ⟨w.heap.size + 2,1,none⟩ (.slice sb ss.length sd) = w6) := e6
 have hBw6 : Below w.heap.size w w6 := hB2.trans (hB6.mono (by omega))
 have k6 : w6.cell? ⟨w.heap.size,2,none⟩ = some (.slice ca cs.length cc) := (Lib.cell_of_heap y6 _).trans rfl
 have hcp : Hid (Calls Tryz.prog 37 #[.slice ca cs.length cc] w6 fun e w7 => ∃ (cb : Option Addr) (cd : Nat) (w9 : World),e = .returned (.slice cb cs.length cd) ∧ w7.cell? ⟨w.heap.size + 2,2,none⟩ = some (.slice ca cs.length cc) ∧ w7.frozen? ⟨w.heap.size + 2,2,none⟩ = false ∧ (w7.setCell ⟨w.heap.size + 2,2,none⟩ (.slice cb cs.length cd)).heap[w.heap.size + 2]? = some (.cells #[.int .i64 h,.slice sb ss.length sd,.slice cb cs.length cd] 39 (0,0)) ∧ (w7.setCell ⟨w.heap.size + 2,2,none⟩ (.slice cb cs.length cd)).heap[w.heap.size + 1]? = some (.cells #[.int .i64 0,.slice none 0 0,.slice none 0 0] 39 (0,0)) ∧ (w7.setCell ⟨w.heap.size + 2,2,none⟩ (.slice cb cs.length cd)).setRow (w.heap.size + 1) #[.int .i64 h,.slice sb ss.length sd,.slice cb cs.length cd] = w9 ∧ w9.heap[w.heap.size + 1]? = some (.cells #[.int .i64 h,.slice sb ss.length sd,.slice cb cs.length cd] 39 (0,0)) ∧ CrEnd h ss cs w (.returned (.agg #[.int .i64 h,.slice sb ss.length sd,.slice cb cs.length cd])) w9) := by
  refine (copyCells_any (.slice ca cs.length cc) cs w6 h4 (hC.below hBw6 (Nat.le_refl _)) (fun c hc => ⟨(hla c hc).1.below hBw6 (Nat.le_refl _),(hla c hc).2⟩)).mono ?_
  rintro e w7 ⟨⟨v,d,rfl,hd,hr,hq⟩,hb7⟩
  obtain ⟨cb,cd,rfl⟩ := owns_slice hr
  have z7 := (hb7.block (w.heap.size + 1) (by omega)).trans z6
  have x7 := (hb7.block (w.heap.size + 2) (by omega)).trans x6
  have hT8 := Turns.setCell (X := fun j => j = w.heap.size + 2) w7 (p := ⟨w.heap.size + 2,2,none⟩) rfl (.slice cb d.length cd)
  have x8 := heap_setCell_same w7 (w.heap.size + 2) 2 _ 39 (.slice cb d.length cd) x7
  have z8 := (hT8.block (w.heap.size + 1) (by have := hb7.size; omega) (by omega)).trans z7
  have hT9 := Turns.setRow (X := fun j => j = w.heap.size + 1) (w7.setCell ⟨w.heap.size + 2,2,none⟩ (.slice cb d.length cd)) (r := w.heap.size + 1) rfl #[.int .i64 h,.slice sb ss.length sd,.slice cb d.length cd]
  have z9 := setRow_heap _ _ _ (#[.int .i64 h,.slice sb ss.length sd,.slice cb d.length cd] : Array Value) _ _ z8
  have k7 : w7.cell? ⟨w.heap.size + 2,2,none⟩ = some (.slice ca cs.length cc) := (Lib.cell_of_heap x7 _).trans rfl
  have hBw7 := hBw6.trans (hb7.mono (by omega))
  have hBw8 := hBw7.trans (hT8.below hBw7.size (fun j hj => by omega))
  have hBw9 := hBw8.trans (hT9.below hBw8.size (fun j hj => by omega))
  have hle := hBw6.size
  have back : ∀ {e : TypeId} {size : Nat} {v : Value} {n : Nat} {xs : List Value},w7.ownsRow (w.heap.size + 3) e size v n xs → World.ownsRow ((w7.setCell ⟨w.heap.size + 2,2,none⟩ (.slice cb d.length cd)).setRow (w.heap.size + 1) #[.int .i64 h,.slice sb ss.length sd,.slice cb d.length cd]) w.heap.size e size v n xs := fun ho =>
   have h8 := ownsRow_turns ho hT8 (fun g hg e => by have := (ho.lt g hg).1; omega)
   ownsRow_base (ownsRow_turns h8 hT9 (fun g hg e => by have := (h8.lt g hg).1; omega)) (by omega)
  have hu7 := ownsRow_below hu6 hb7
  refine ⟨cb,cd,_,by rw [hd],k7,Lib.frozen_of_heap x7 _,by rw [← hd]; exact x8,by rw [← hd]; exact z8,rfl,by rw [← hd]; exact z9,?_⟩
  rw [← hd]
  exact ⟨⟨sb,sd,cb,cd,d,by rw [hd],hd,back hu7,by rw [← hd]; exact back (ownsRow_base hr s6),fun i hi => ⟨(hq i hi).1,back (ownsRow_base (hq i hi).2 s6)⟩⟩,hBw9⟩
 rw [s4] at hrun
 have k5c : w5.cell? ⟨w.heap.size,2,none⟩ = some (.slice ca cs.length cc) := (Lib.cell_of_heap y5 _).trans rfl
 replace hrun : Hid _ := hrun
 generalize CrEnd h ss cs w = E at *
 clear hB1 hB2 hbx hB4 hu5 hb5 hBa hT6 hu6 hB6 s6 y6 z6 hBw6 x6 z5 y5 x5 e1 e2 e4 e6 hS hC hla
 go_enter Tryz.func20,Tryz.ntmps20
 go_wp2_with (first
  | (rw [e1h.out,e2h.out]; refine wpList_load_row rfl 39 _ rfl w.heap.size rfl 39 _ (0,0) _ y2 Tryz.underlying39 rfl (info39w _ _ _) ?_)
  | (refine wpList_store_row rfl 39 _ _ rfl (w.heap.size + 2) #[.int .i64 h,.slice sa ss.length sc,.slice ca cs.length cc] rfl rfl 39 _ x2 (info39w _ _ _) rfl (one39 _ _ _ _ _ rfl) ?_; rw [e4h.out])
  | (refine wpList_build0 rfl 36 3 rfl build36 ?_)
  | (refine wpList_app_run rfl _ _ 36 rfl (.slice (some ⟨w.heap.size + 3,0,none⟩) 0 0) (.slice sa ss.length sc) (.slice sb ss.length sd) w5 rfl rfl hrun.out ?_)
  | (rw [e6h.out]; go_at_call 37; refine hcp.out.mono ?_; rintro e w7 ⟨cb,cd,w9,rfl,k7,f7,x8,z8,e9,z9,hE⟩; have hEh : Hid _ := hE; have e9h : Hid _ := e9; clear hE e9)
  | (refine wpList_load_row rfl 39 _ rfl (w.heap.size + 2) rfl 39 _ (0,0) _ x8 Tryz.underlying39 rfl (info39w _ _ _) ?_)
  | (refine wpList_store_row rfl 39 _ _ rfl (w.heap.size + 1) #[.int .i64 h,.slice sb ss.length sd,.slice cb cs.length cd] rfl rfl 39 _ z8 (info39w _ _ _) rfl (one39 _ _ _ _ _ rfl) ?_; rw [e9h.out]))
 exact bodyPost_ret (results_cell_row rfl _ _ (w.heap.size + 1) 39 _ (0,0) _ rfl z9 Tryz.underlying39 rfl (info39w _ _ _)) rfl hEh.out
end Go.Proofs.YtaphggjakaghjaaGreatDoor

namespace Go.Proofs.YtaphggjakaghjaaGreatDoor
open Go.RowKit Go.Shelf
set_option maxHeartbeats 1000000

def Kf (j : Nat) (u : Value) : Prop := j % 7 = 0 → ∃ i,u = .int .i64 i
theorem Kf.shift {j : Nat} {u : Value} (m : Nat) : Kf (j + m * 7) u ↔ Kf j u := by unfold Kf; rw [Nat.add_mul_mod_self_right]
def K7 (xs : List Value) : Prop := ∀ j u,xs[j]? = some u → Kf j u
theorem k7_line (x : Lx) : K7 (lxL x) := fun j u hu h0 => by
 have hj : j < 7 := (List.getElem?_eq_some_iff.1 hu).1
 have h1 : j = 0 := by omega
 subst h1
 simp [lxL] at hu
 exact ⟨_,hu.symm⟩
theorem k7_app {xs ys : List Value} {n : Nat} (hl : xs.length = n * 7) (h : K7 xs) (h' : K7 ys) : K7 (xs ++ ys) := fun j u hu => by
 by_cases hj : j < xs.length
 ·rw [List.getElem?_append_left hj] at hu; exact h j u hu
 ·rw [List.getElem?_append_right (by omega)] at hu
  have := (Kf.shift n).2 (h' _ _ hu)
  rwa [hl,show j - n * 7 + n * 7 = j by omega] at this
theorem k7_lines : ∀ l : List Lx,K7 (l.flatMap lxL)
 | [] => fun j u hu => by simp at hu
 | x :: l => by
  rw [List.flatMap_cons]
  exact k7_app (n := 1) (lxL_len x) (k7_line x) (k7_lines l)
def z7 : Value := .agg (lxL lx0).toArray
theorem k7_zero (m : Nat) : K7 (Builtin.zeroCells z7.cells m).toList := fun j u hu => by
 have hz : z7.cells = (lxL lx0).toArray := rfl
 rw [hz] at hu
 unfold Builtin.zeroCells at hu
 rw [Array.toList_map,List.getElem?_map] at hu
 obtain ⟨k,hk,rfl⟩ := Option.map_eq_some_iff.1 hu
 have hk' : k = j := by
  rw [Array.getElem?_toList] at hk
  have := Array.getElem?_eq_some_iff.1 hk
  obtain ⟨h1,h2⟩ := this
  simpa using h2.symm
 subst hk'
 have e : (lxL lx0).toArray.size = 7 := rfl
 rw [e]
 have h8 : k % 7 < 7 := Nat.mod_lt _ (by omega)
 have := k7_line lx0 (k % 7) ((lxL lx0).toArray[k % 7]!) (by
  have h' : k % 7 < (lxL lx0).length := h8
  rw [List.getElem?_eq_getElem h']
  simp [h'])
 have h3 := (Kf.shift (k / 7)).2 this
 rwa [show k % 7 + k / 7 * 7 = k by omega] at h3
def FiL (W : World) (v : Value) : Prop := ∀ g n cap cur,v = .slice (some ⟨g,0,none⟩) n cap → W.heap[g]? = some (.cells cur 55 (0,0)) → K7 cur.toList
theorem FiL.nil (W : World) : FiL W (.slice none 0 0) := fun _ _ _ _ e => by cases e
theorem FiL.turns {X : Nat → Prop} {W W' : World} {v : Value} (h : FiL W v) (ht : Turns X W W') (hx : ∀ g,v.ownBlock = some g → g < W.heap.size ∧ ¬ X g) : FiL W' v := fun g n cap cur e hg => by
 obtain ⟨h1,h2⟩ := hx g (by rw [e]; rfl)
 rw [ht.block g h1 h2] at hg
 exact h g n cap cur e hg
theorem FiL.below {base : Nat} {W W' : World} {v : Value} {n : Nat} {xs : List Value} (h : FiL W v) (ho : W.ownsRow base 55 7 v n xs) (hb : Below W.heap.size W W') : FiL W' v := fun g n cap cur e hg => by
 rw [hb.block g (ho.lt g (by rw [e]; rfl)).2] at hg
 exact h g n cap cur e hg

theorem run_append_k7 {P : Program} (w : World) (base : Nat) (t ty : TypeId) (i : TypeInfo) (ht : P.underlying t = some (.slice 55)) (hi : P.info? 55 = some i) (hz : i.zero = some z7) (hsize : i.size = 7) (hby : i.bytes = 56)
  (v : Value) (n : Nat) (xs : List Value) (hown : w.ownsRow base 55 7 v n xs) (hk : K7 xs) (hfill : FiL w v) (a : Addr) (c : Nat) (news : List Value) (hl : news.length = 7) (hnews : ∀ j u,news[j]? = some u → w.cell? (a.add j) = some u) (h1 : ∀ u ∈ news,u.oneCell' = true) (hkn : K7 news)
  (h63 : n + 1 ≤ maxLen) (hbytes : (n + 1) * 56 ≤ 140737488355328) (hbase : base ≤ w.heap.size) :
  ∃ v' w',(Builtin.append_ #[t,t] ty #[v,.slice (some a) 1 c]).run P w = .ok v' w' ∧ w'.ownsRow base 55 7 v' (n + 1) (xs ++ news) ∧ w.grownBy w' v.ownBlock ∧ (v'.ownBlock = v.ownBlock ∨ ∀ g,v'.ownBlock = some g → w.heap.size ≤ g) ∧ FiL w' v' := by
 obtain ⟨v',w',hrun,r1,r2,r3⟩ := run_append_where (P := P) w base t ty 55 i z7 7 56 ht hi hz hsize hby rfl (by decide) v n xs hown a 1 c news (by omega) hnews h1 h63 hbytes hbase
 refine ⟨v',w',hrun,r1,r2,r3,?_⟩
 have hsmall : n + 1 ≤ 9223372036854775807 := by simp only [maxLen] at h63; omega
 have hxl : xs.length = n * 7 := hown.1
 have hfresh : ∀ (cs : Array Value) (m k : Nat),v' = .slice (some ⟨w.heap.size,0,none⟩) m k → w' = w.drew.alloc (.cells cs 55) → K7 cs.toList → FiL w' v' := by
  intro cs m k hv hw hx g n' cap' cur e hg
  rw [hv] at e
  cases e
  rw [hw] at hg
  have := World.alloc_heap_new w.drew (.cells cs 55)
  rw [show w.drew.heap.size = w.heap.size from rfl] at this
  rw [this] at hg
  cases hg
  exact hx
 rcases hown.2 with ⟨rfl,rfl⟩ | ⟨g,cap,cur,rfl,hbg,hg,hnc,hcm,hcs,htake⟩
 ·have hr := run_append_nil (P := P) w t ty 55 i z7 ht hi hz a 1 c news (by rw [hsize]; omega) hnews (by omega) (by omega) (by rw [hby]; omega)
  rw [hrun] at hr
  injection hr with e1 e2
  refine hfresh _ _ _ e1 e2 ?_
  rw [Array.toList_append]
  exact k7_app (n := 1) (by simpa using hl) hkn (k7_zero _)
 ·by_cases hroom : n + 1 ≤ cap
  ·have hfit : n * i.size + news.length ≤ cur.size := by rw [hsize,hcs,hl]; omega
   have hr := run_append_room (P := P) w t ty 55 i ht hi g n cap cur hg a 1 c news (by rw [hsize]; omega) hnews h1 hroom hfit
   rw [hrun] at hr
   injection hr with e1 e2
   intro g' n' cap' cur' e hg'
   rw [e1] at e
   cases e
   rw [e2,setRow_heap w g cur _ 55 _ hg] at hg'
   cases hg'
   have hold := hfill g n cap cur rfl hg
   rw [hsize] at hfit ⊢
   have hcl : cur.toList.length = cap * 7 := by simpa using hcs
   have ht7 : (cur.toList.take (n * 7)).length = n * 7 := by rw [List.length_take]; omega
   refine k7_app (n := n + 1) (by rw [List.length_append,ht7]; omega) (k7_app (n := n) ht7 (fun j u hu => ?_) hkn) (fun j u hu => ?_)
   ·have : cur.toList[j]? = some u := by
     have hj : j < n * 7 := by rw [← ht7]; exact (List.getElem?_eq_some_iff.1 hu).1
     rwa [List.getElem?_take_of_lt hj] at hu
    exact hold j u this
   ·rw [List.getElem?_drop,hl] at hu
    have := hold _ u hu
    rw [show n * 7 + 7 + j = j + (n + 1) * 7 by omega] at this
    exact (Kf.shift (n + 1)).1 this
  ·have holds : ∀ j u,xs[j]? = some u → w.cell? ((⟨g,0,none⟩ : Addr).add j) = some u := hown.cells (g := g) rfl
   have hr := run_append_grow (P := P) w t ty 55 i z7 ht hi hz ⟨g,0,none⟩ n cap xs (by rw [hsize]; exact hown.1) holds a 1 c news (by rw [hsize]; omega) hnews (by omega) (by omega) (by rw [hby]; exact growslice_fits (by omega) hbytes)
   rw [hrun] at hr
   injection hr with e1 e2
   refine hfresh _ _ _ e1 e2 ?_
   rw [Array.toList_append,Array.toList_append]
   exact k7_app (n := n + 1) (by simp; omega) (k7_app (n := n) (by simpa using hxl) hk hkn) (k7_zero _)


theorem el55z : ∃ i,Tryz.prog.info? 55 = some i ∧ i.zero = some z7 ∧ i.size = 7 ∧ i.bytes = 56 := by
 have h : (Tryz.prog.info? 55).map (fun i => (i.zero,i.size,i.bytes)) = some (some z7,7,56) := by kernel_rfl
 obtain ⟨i,hi,e⟩ := Option.map_eq_some_iff.1 h
 injection e with e1 e2
 injection e2 with e2 e3
 exact ⟨i,hi,e1,e2,e3⟩
structure FilL (w0 : World) (v : Value) (qs : List Lx) (W : World) : Prop where
 low : Below w0.heap.size w0 W
 row : W.ownsRow w0.heap.size 55 7 v qs.length (qs.flatMap lxL)
 kin : FiL W v
theorem FilL.start (w : World) : FilL w (.slice none 0 0) [] w := ⟨Below.refl _ _,World.ownsRow_nil _ _ _ _,FiL.nil _⟩
theorem FilL.box {w0 : World} {v : Value} {qs : List Lx} {W : World} {t : TypeId} {c0 cs : Array Value} (h : FilL w0 v qs W) : FilL w0 v qs ((W.alloc (.cells c0 t)).setRow W.heap.size cs) := by
 have hF : Fill 7 lxL 55 w0 v qs W := ⟨h.low,h.row⟩
 have hF' := hF.box (t := t) (c0 := c0) (cs := cs)
 exact ⟨hF'.low,hF'.row,h.kin.below h.row (below_box W (.cells c0 t) cs)⟩
end Go.Proofs.YtaphggjakaghjaaGreatDoor

namespace Go.Proofs.YtaphggjakaghjaaGreatDoor
open Go.RowKit Go.Shelf
set_option maxRecDepth 100000
set_option maxHeartbeats 4000000

theorem wpList_app7 {ops : Array Oper} {rest : List Oper} {oi : Oper} {a : Act} {w : World} {Q : Exit → Act → World → Prop} (hgd : oi.guard = none) (x y : Operand) (ho : oi.op = Op.call { callee := Callee.builtin Builtin.append,args := #[x,y],argTypes := #[44,44] })
  (b0 W : World) (v : Value) (qs : List Lx) (p : Lx) (hx : a.eval x = v) (hF : FilL b0 v qs W) (hn : qs.length ≤ 9000) (hy : a.eval y = .slice (some ⟨W.heap.size,0,none⟩) 1 1) (hw : w = W.alloc (.cells (lxL p).toArray 55))
  (h : ∀ v' w',FilL b0 v' (qs ++ [p]) w' → wpList Tryz.prog ops Q rest (a.put oi.dst v') w') : wpList Tryz.prog ops Q (oi :: rest) a w := by
 subst hw
 obtain ⟨i,hi,hz,h7,h56⟩ := el55z
 have hut : Tryz.prog.underlying 44 = some (.slice 55) := Tryz.underlying44
 have hla := hF.low.size
 have hal : Below W.heap.size W (W.alloc (.cells (lxL p).toArray 55)) := (Below.refl _ _).alloc (Nat.le_refl _) _
 obtain ⟨v',w',hrun,r1,r2,r3,r4⟩ := run_append_k7 (P := Tryz.prog) (W.alloc (.cells (lxL p).toArray 55)) b0.heap.size 44 oi.type i hut hi hz h7 h56 v qs.length (qs.flatMap lxL) (hF.row.alloc _) (k7_lines qs) (hF.kin.below hF.row hal) ⟨W.heap.size,0,none⟩ 1 (lxL p) rfl (rec_cells lxL_len W 55 _) (lxL_one p) (k7_line p) (by unfold maxLen; omega) (by omega) (by have := hal.size; omega)
 have hB : Below b0.heap.size b0 w' := below_grown (hF.low.trans (hal.mono hla)) (hF.row.alloc _) (Nat.le_refl _) (Nat.le_refl _) r2
 have e1 : qs.flatMap lxL ++ lxL p = (qs ++ [p]).flatMap lxL := by rw [List.flatMap_append]; simp
 rw [e1] at r1
 have e2 : qs.length + 1 = (qs ++ [p]).length := by simp
 rw [e2] at r1
 refine wpList_plain hgd fun _ hK => ?_
 have hK' := hK _ _ (h v' w' ⟨hB,r1,r4⟩)
 unfold Oper.wp
 simp [execOp,ho,resolve,invoke,builtin,hx,hy,hrun,Result.andThen]
 exact hK'
def WkEnd (ls : List Lx) (f t : Int) (w : World) (e : Ending) (w' : World) : Prop := (∃ v,e = .returned v ∧ w'.ownsRow w.heap.size 55 7 v (wiL ls f t).length ((wiL ls f t).flatMap lxL) ∧ FiL w' v) ∧ Below w.heap.size w w'
theorem within_k (v : Value) (ls : List Lx) (f t : Int) (hl : ls.length ≤ 8000) (w : World) (hS : LxsAt w v ls) : Calls Tryz.prog 38 #[v,.int .i64 f,.int .i64 t] w (WkEnd ls f t w) := by
 obtain ⟨a0,c0,rfl,-⟩ := hS.ex
 have hSh : Hid (LxsAt w (.slice a0 ls.length c0) ls) := hS
 have hend : Hid (∀ W v,FilL w v (wiN ls f t ls.length) W → WkEnd ls f t w (.returned v) W) := fun W v h => ⟨⟨v,rfl,h.row,h.kin⟩,h.low⟩
 have hI0 : Hid (FilL w (.slice none 0 0) (wiN ls f t 0) w) := FilL.start w
 generalize WkEnd ls f t w = E at *
 clear hS
 go_enter Tryz.func38,Tryz.ntmps38
 go_wp2_with fail
 go_loopw [7,13] (fun v7 v13 wr => ∃ (k : Nat) (va : Option Addr) (vc : Nat),k ≤ ls.length ∧ v13 = .int .i64 (k : Int) ∧ v7 = .slice va (wiN ls f t k).length vc ∧ Hid (FilL w (.slice va (wiN ls f t k).length vc) (wiN ls f t k) wr)) (fun _ v13 _ => ls.length - (intOf v13).toNat)
 case atStart => exact ⟨0,none,0,by omega,rfl,rfl,hI0⟩
 case round =>
  obtain ⟨k,va,vc,hk,rfl,rfl,hI⟩ := hrel
  clear hI0
  by_cases hlt : k < ls.length
  ·have hlt' : (k : Int) < (ls.length : Int) := by omega
   have hlo : Hid (w.heap.size ≤ wr.heap.size) := hI.out.low.size
   obtain ⟨b,o,rfl,hbl,hrg⟩ := RecAt.range (hSh.out.below hI.out.low (Nat.le_refl _)) hlt
   have hqn : Hid ((wiN ls f t k).length ≤ 9000) := by have := wiN_le ls f t k; show _ ≤ _; omega
   have hgd : ls.getD k lx0 = ls[k] := by rw [List.getD_eq_getElem?_getD,List.getElem?_eq_getElem hlt]; rfl
   obtain ⟨M,hM0⟩ : ∃ M,Hid (wiN ls f t (k + 1) = M) := ⟨_,rfl⟩
   have hyes : Hid (wiB f t k → M = wiN ls f t k ++ [ls[k]]) := fun h => by
    rw [← hM0.out]
    show wiN ls f t k ++ (if wiB f t k then [ls.getD k lx0] else []) = _
    rw [if_pos h,hgd]
   have hno : Hid (¬ wiB f t k → M = wiN ls f t k) := fun h => by
    rw [← hM0.out]
    show wiN ls f t k ++ (if wiB f t k then [ls.getD k lx0] else []) = _
    rw [if_neg h,List.append_nil]
   have hup' := upper_any (k : Int) ⟨by omega,by omega⟩
   generalize wiN ls f t k = N at *
   generalize hx : ls[k] = x at *
   have hz : (wr.alloc (.cells (lxL lx0).toArray 55)).heap[wr.heap.size]? = some (.cells (lxL lx0).toArray 55 (0,0)) := World.alloc_heap_new wr _
   have hz0 : (wr.alloc (.cells #[.int .i64 0,.int .i64 0,.int .i64 0,.int .i64 0,.int .i64 0,.bool false,.int .i64 0] 55)).heap[wr.heap.size]? = some (.cells #[.int .i64 0,.int .i64 0,.int .i64 0,.int .i64 0,.int .i64 0,.bool false,.int .i64 0] 55 (0,0)) := hz
   have hb : Hid (wiB f t k ↔ (f ≤ 2 + 10 * (k : Int) ∧ 2 + 10 * (k : Int) < t)) := Iff.rfl
   have hstep : Hid ((k : Int) + 1 = ((k + 1 : Nat) : Int) ∧ IntKind.i64.wrap ((k : Int) + 1) = ((k + 1 : Nat) : Int)) := ⟨by omega,by rw [IntKind.wrap_i64]; omega⟩
   clear hSh hz hend hgd
   generalize hy : 2 + 10 * (k : Int) = y at *
   by_cases h1 : f ≤ y
   ·by_cases h2 : y < t
    ·have hM := hyes.out (hb.out.2 ⟨h1,h2⟩)
     subst hM
     clear hyes hno hb
     go_wp2_with (first | (refine wpList_load_mid rfl 55 _ rfl b (o + k * 7) rfl (lxL x) _ hrg Tryz.underlying55 rfl (info55n x) ?_) | (refine wpList_store_row rfl 55 _ _ rfl wr.heap.size (lxL x).toArray rfl rfl 55 _ hz0 (infoL51 x) rfl (lxL_all x) ?_; have hz1 : ((wr.alloc (.cells #[.int .i64 0,.int .i64 0,.int .i64 0,.int .i64 0,.int .i64 0,.bool false,.int .i64 0] 55)).setRow wr.heap.size (lxL x).toArray).heap[wr.heap.size]? = some (.cells (lxL x).toArray 55 (0,0)) := setRow_heap _ _ _ _ _ _ hz0; have hIs : Hid (FilL w (.slice va N.length vc) N ((wr.alloc (.cells #[.int .i64 0,.int .i64 0,.int .i64 0,.int .i64 0,.int .i64 0,.bool false,.int .i64 0] 55)).setRow wr.heap.size (lxL x).toArray)) := hI.out.box; clear hz0 hI hrg; generalize (wr.alloc (.cells #[.int .i64 0,.int .i64 0,.int .i64 0,.int .i64 0,.int .i64 0,.bool false,.int .i64 0] 55)).setRow wr.heap.size (lxL x).toArray = w5 at *; generalize wr.heap.size = g7 at *; have hle5 : w.heap.size ≤ w5.heap.size := hIs.out.low.size) | (go_at_call 53; refine (hup' _).mono ?_; rintro e w2 ⟨rfl,hww⟩; subst hww) | (refine wpList_load_row rfl 55 _ rfl g7 rfl 55 _ (0,0) _ hz1 Tryz.underlying55 rfl (infoL51 x) ?_) | (refine wpList_build55 rfl _ rfl x rfl ?_) | (refine wpList_app7 rfl _ _ rfl w w2 (.slice va N.length vc) N x rfl hIs.out hqn.out rfl rfl ?_; intro v' w6 hf6; obtain ⟨g6,cap6,rfl,-,-,-⟩ := row_rb lxL_len hf6.row (by simp); have hI6 : Hid (FilL w (.slice (some ⟨g6,0,none⟩) (N ++ [x]).length cap6) (N ++ [x]) w6) := hf6; clear hf6 hIs hle5))
     refine ⟨⟨k + 1,some ⟨g6,0,none⟩,cap6,by omega,rfl,by rw [hM0.out,List.length_append]; rfl,by rw [hM0.out]; exact hI6.out⟩,by simp [intOf]; omega⟩
    ·have hM := hno.out (fun h => h2 (hb.out.1 h).2)
     subst hM
     clear hyes hno hb
     go_wp2_with (first | (refine wpList_load_mid rfl 55 _ rfl b (o + k * 7) rfl (lxL x) _ hrg Tryz.underlying55 rfl (info55n x) ?_) | (refine wpList_store_row rfl 55 _ _ rfl wr.heap.size (lxL x).toArray rfl rfl 55 _ hz0 (infoL51 x) rfl (lxL_all x) ?_; have hIs : Hid (FilL w (.slice va M.length vc) M ((wr.alloc (.cells #[.int .i64 0,.int .i64 0,.int .i64 0,.int .i64 0,.int .i64 0,.bool false,.int .i64 0] 55)).setRow wr.heap.size (lxL x).toArray)) := hI.out.box; clear hz0 hI hrg; generalize (wr.alloc (.cells #[.int .i64 0,.int .i64 0,.int .i64 0,.int .i64 0,.int .i64 0,.bool false,.int .i64 0] 55)).setRow wr.heap.size (lxL x).toArray = w5 at *; generalize wr.heap.size = g7 at *) | (go_at_call 53; refine (hup' _).mono ?_; rintro e w2 ⟨rfl,hww⟩; subst hww))
     refine ⟨⟨k + 1,va,vc,by omega,rfl,by rw [hM0.out],by rw [hM0.out]; exact hIs.out⟩,by simp [intOf]; omega⟩
   ·have hM := hno.out (fun h => h1 (hb.out.1 h).1)
    subst hM
    clear hyes hno hb
    go_wp2_with (first | (refine wpList_load_mid rfl 55 _ rfl b (o + k * 7) rfl (lxL x) _ hrg Tryz.underlying55 rfl (info55n x) ?_) | (refine wpList_store_row rfl 55 _ _ rfl wr.heap.size (lxL x).toArray rfl rfl 55 _ hz0 (infoL51 x) rfl (lxL_all x) ?_; have hIs : Hid (FilL w (.slice va M.length vc) M ((wr.alloc (.cells #[.int .i64 0,.int .i64 0,.int .i64 0,.int .i64 0,.int .i64 0,.bool false,.int .i64 0] 55)).setRow wr.heap.size (lxL x).toArray)) := hI.out.box; clear hz0 hI hrg; generalize (wr.alloc (.cells #[.int .i64 0,.int .i64 0,.int .i64 0,.int .i64 0,.int .i64 0,.bool false,.int .i64 0] 55)).setRow wr.heap.size (lxL x).toArray = w5 at *; generalize wr.heap.size = g7 at *) | (go_at_call 53; refine (hup' _).mono ?_; rintro e w2 ⟨rfl,hww⟩; subst hww))
    refine ⟨⟨k + 1,va,vc,by omega,rfl,by rw [hM0.out],by rw [hM0.out]; exact hIs.out⟩,by simp [intOf]; omega⟩
  ·have hkm : k = ls.length := by omega
   subst hkm
   have hge : ¬ ((ls.length : Nat) : Int) < (ls.length : Int) := by omega
   go_wp2_with fail
   exact hend.out _ _ hI.out
end Go.Proofs.YtaphggjakaghjaaGreatDoor

namespace Go.Proofs.YtaphggjakaghjaaGreatDoor
open Go.RowKit Go.Shelf
set_option maxRecDepth 100000
set_option maxHeartbeats 1000000

def OL (W : World) (g cap : Nat) : Prop := ∃ cur,W.heap[g]? = some (.cells cur 55 (0,0)) ∧ cur.size = cap * 7 ∧ K7 cur.toList
theorem OL.cell {W : World} {g cap : Nat} (h : OL W g cap) {i : Nat} (hi : i < cap) : ∃ x,W.cell? ⟨g,i * 7,none⟩ = some (.int .i64 x) ∧ W.frozen? ⟨g,i * 7,none⟩ = false := by
 obtain ⟨cur,h1,h2,h3⟩ := h
 have hlt : i * 7 < cur.size := by omega
 have hk := h3 (i * 7) cur[i * 7] (by simp [hlt])
 obtain ⟨x,hx⟩ := hk (by omega)
 refine ⟨x,?_,Lib.frozen_of_heap h1 _⟩
 rw [Lib.cell_of_heap h1,Array.getElem?_eq_getElem hlt,hx]
theorem OL.set {W : World} {g cap : Nat} (h : OL W g cap) (i : Nat) (y : Int) : OL (W.setCell ⟨g,i * 7,none⟩ (.int .i64 y)) g cap := by
 obtain ⟨cur,h1,h2,h3⟩ := h
 refine ⟨cur.setIfInBounds (i * 7) (.int .i64 y),heap_setCell_same _ _ _ _ 55 _ h1,by simpa using h2,fun j u hu => ?_⟩
 rw [Array.toList_setIfInBounds] at hu
 by_cases e : i * 7 = j
 ·subst e
  have hlt := (List.getElem?_eq_some_iff.1 hu).1
  rw [List.getElem?_set_self (by simpa using hlt)] at hu
  cases hu
  exact fun _ => ⟨y,rfl⟩
 ·rw [List.getElem?_set_ne e] at hu
  exact h3 j u hu
theorem OL.turns {X : Nat → Prop} {W W' : World} {g cap : Nat} (h : OL W g cap) (ht : Turns X W W') (hx : ¬ X g) : OL W' g cap := by
 obtain ⟨cur,h1,h2⟩ := h
 exact ⟨cur,(ht.block g (Array.getElem?_eq_some_iff.1 h1).1 hx).trans h1,h2⟩
theorem OL.any {W : World} {g g' cap cap' : Nat} (h : OL W g cap) (h' : OL W g' cap') (i : Nat) (y : Int) : OL (W.setCell ⟨g,i * 7,none⟩ (.int .i64 y)) g' cap' := by
 by_cases e : g' = g
 ·subst e; exact h'.set i y
 ·exact h'.turns (Turns.setCell (X := fun k => k = g) W (p := ⟨g,i * 7,none⟩) rfl _) e
def OLv (lo : Nat) (W : World) (v : Value) : Prop := v = .slice none 0 0 ∨ ∃ g m cap,v = .slice (some ⟨g,0,none⟩) m cap ∧ lo ≤ g ∧ m ≤ cap ∧ cap ≤ maxLen ∧ OL W g cap
theorem OLv.of {lo : Nat} {W : World} {v : Value} {n : Nat} {xs : List Value} (ho : W.ownsRow lo 55 7 v n xs) (hk : FiL W v) : OLv lo W v := by
 rcases ho.2 with ⟨rfl,rfl⟩ | ⟨g,cap,cur,rfl,hbg,hg,hnc,hcm,hcs,_⟩
 ·exact .inl rfl
 ·exact .inr ⟨g,n,cap,rfl,hbg,hnc,hcm,cur,hg,hcs,hk g n cap cur rfl hg⟩
theorem OLv.turns {lo : Nat} {X : Nat → Prop} {W W' : World} {v : Value} (h : OLv lo W v) (ht : Turns X W W') (hx : ∀ k,lo ≤ k → ¬ X k) : OLv lo W' v := by
 rcases h with h | ⟨g,m,cap,e,h1,h2,h3,h4⟩
 ·exact .inl h
 ·exact .inr ⟨g,m,cap,e,h1,h2,h3,h4.turns ht (hx g h1)⟩
def OeEnd (lo : Nat) (w : World) (e : Ending) (w' : World) : Prop := e = .returned (.tuple #[]) ∧ Turns (fun k => lo ≤ k) w w' ∧ ∀ u,OLv lo w u → OLv lo w' u
theorem lover_row (lo g n cap : Nat) (hlo : lo ≤ g) (_hn : n ≤ cap) (hc : cap ≤ maxLen) (w : World) (h : OL w g cap) :
  Calls Tryz.prog 35 #[.slice (some ⟨g,0,none⟩) n cap] w (OeEnd lo w) := by
 have hc' : cap ≤ 9223372036854775807 := by unfold maxLen at hc; exact hc
 have hc2 : (cap : Int) ≤ 9223372036854775807 := by omega
 have hh : Hid (OL w g cap) := h
 have hend : Hid (∀ W,Turns (fun k => lo ≤ k) w W → (∀ u,OLv lo w u → OLv lo W u) → OeEnd lo w (.returned (.tuple #[])) W) := fun W h1 h2 => ⟨rfl,h1,h2⟩
 generalize OeEnd lo w = E at *
 have hlo' : Hid (lo ≤ g) := hlo
 clear h hc hlo
 go_enter Tryz.func35,Tryz.ntmps35
 go_wp2_with fail
 go_loopw [3] (fun i wr => ∃ (k : Nat),k ≤ cap ∧ i = .int .i64 k ∧ Hid (Turns (fun k => lo ≤ k) w wr ∧ OL wr g cap ∧ ∀ u,OLv lo w u → OLv lo wr u)) (fun i _ => cap - (intOf i).toNat)
 case atStart => exact ⟨0,by omega,rfl,Turns.refl _ _,hh.out,fun _ h => h⟩
 case round =>
  obtain ⟨k,hk,rfl,hH⟩ := hrel
  obtain ⟨hT,hO,hA⟩ := hH.out
  by_cases hlt : k < cap
  ·have hkl : (k : Int) < cap := by omega
   obtain ⟨x,c0,f0⟩ := hO.cell hlt
   have hnx : Hid (∀ y : Int,Turns (fun k => lo ≤ k) w (wr.setCell ⟨g,k * 7,none⟩ (.int .i64 y)) ∧ OL (wr.setCell ⟨g,k * 7,none⟩ (.int .i64 y)) g cap ∧ ∀ u,OLv lo w u → OLv lo (wr.setCell ⟨g,k * 7,none⟩ (.int .i64 y)) u) := fun y => ⟨hT.trans (Turns.setCell (X := fun k => lo ≤ k) wr (p := ⟨g,k * 7,none⟩) hlo'.out _),hO.set k y,fun u hu => by
    rcases hA u hu with h1 | ⟨g',m,cap',e,h1,h2,h3,h4⟩
    ·exact .inl h1
    ·exact .inr ⟨g',m,cap',e,h1,h2,h3,hO.any h4 k y⟩⟩
   clear hH hT hO hh hA hend hlo'
   go_wp2_with fail
   go_roundw
   case rel => exact ⟨k + 1,by omega,by simp,hnx.out _⟩
   case measure => simp [intOf]; omega
  ·have hkl : ¬ (k : Int) < cap := by omega
   clear hh hO
   go_wp2_with fail
   first
    | exact hend.out _ hT hA
    | (go_returns; exact hend.out _ hT hA)
theorem lover_nil (lo : Nat) (w : World) : Calls Tryz.prog 35 #[.slice none 0 0] w (OeEnd lo w) := by
 have hend : Hid (∀ W,Turns (fun k => lo ≤ k) w W → (∀ u,OLv lo w u → OLv lo W u) → OeEnd lo w (.returned (.tuple #[])) W) := fun W h1 h2 => ⟨rfl,h1,h2⟩
 generalize OeEnd lo w = E at *
 go_enter Tryz.func35,Tryz.ntmps35
 go_wp2_with fail
 go_loopw [3] (fun i wr => i = .int .i64 0 ∧ Hid (wr = w)) (fun i _ => 0)
 case atStart => exact ⟨rfl,rfl⟩
 case round =>
  obtain ⟨rfl,hw⟩ := hrel
  obtain rfl := hw.out
  go_wp2_with fail
  first
   | exact hend.out _ (Turns.refl _ _) (fun _ h => h)
   | (go_returns; exact hend.out _ (Turns.refl _ _) (fun _ h => h))
theorem lover_any (lo : Nat) (v : Value) (w : World) (h : OLv lo w v) : Calls Tryz.prog 35 #[v] w (OeEnd lo w) := by
 rcases h with rfl | ⟨g,m,cap,rfl,h1,h2,h3,h4⟩
 ·exact lover_nil lo w
 ·exact lover_row lo g m cap h1 h2 h3 w h4
theorem RB.setx {W : World} {g : Nat} {L : List Cel} (h : RB 3 ceL W g L) {p : Nat} (hp : p < L.length) (y : Int) : RB 3 ceL (W.setCell ⟨g,p * 3,none⟩ (.int .i64 y)) g (L.set p { L[p] with x := y }) := by
 have hth : W.there g (p * 3) 1 := fun j hj => (h.there ceL_len hp) j (by omega)
 have hsc : W.setCell ⟨g,p * 3,none⟩ (.int .i64 y) = W.setCells g (p * 3) [.int .i64 y] := rfl
 refine ⟨Nat.lt_of_lt_of_le h.lt (Turns.setCell (X := fun _ => True) W (p := ⟨g,p * 3,none⟩) trivial _).size,fun i hi j v hv => ?_⟩
 have hi' : i < L.length := by simpa using hi
 have hj : j < 3 := by have := (List.getElem?_eq_some_iff.1 hv).1; rw [ceL_len] at this; exact this
 rw [hsc,World.frozen?_setCells]
 have hout : ∀ q,q ≠ p * 3 → World.cell? (W.setCells g (p * 3) [.int .i64 y]) ⟨g,q,none⟩ = W.cell? ⟨g,q,none⟩ := fun q hq => World.cell?_setCells_out g [.int .i64 y] (p * 3) W ⟨g,q,none⟩ (fun _ _ => by show q < p * 3 ∨ p * 3 + 1 ≤ q; omega)
 by_cases e : p = i
 ·subst e
  rw [List.getElem_set_self] at hv
  by_cases h0 : j = 0
  ·subst h0
   have hv' : v = .int .i64 y := by simp [ceL] at hv; exact hv.symm
   subst hv'
   refine ⟨World.rangeAt_setCells_same W g (p * 3) [.int .i64 y] hth 0 _ rfl,((h.there ceL_len hp) 0 (by omega)).2⟩
  ·have hv2 : (ceL L[p])[j]? = some v := by
    have : j = 1 ∨ j = 2 := by omega
    rcases this with rfl | rfl <;> exact hv
   have := h.all p hi' j v hv2
   rw [hout _ (by omega)]
   exact this
 ·rw [List.getElem_set_ne e] at hv
  have := h.all i hi' j v hv
  rw [hout _ (by have := apart_mul (k := 3) hj e; omega)]
  exact this
def OcEnd (lo : Nat) (w : World) (e : Ending) (w' : World) : Prop := e = .returned (.tuple #[]) ∧ Turns (fun k => lo ≤ k) w w'
theorem cover_any (base lo T n cap : Nat) (hbT : base ≤ T) (hT : T < lo) (L0 : List Cel) (hn : L0.length = n) (h4 : n ≤ 400) (w : World) (hR : RB 3 ceL w T L0) (hv : ∀ c ∈ L0,OLv lo w c.v) :
  Calls Tryz.prog 16 #[.slice (some ⟨T,0,none⟩) n cap] w (OcEnd base w) := by
 have hI0 : Hid (Turns (fun k => base ≤ k) w w ∧ ∃ L,L.length = n ∧ RB 3 ceL w T L ∧ ∀ c ∈ L,OLv lo w c.v) := ⟨Turns.refl _ _,L0,hn,hR,hv⟩
 have hend : Hid (∀ W,Turns (fun k => base ≤ k) w W → OcEnd base w (.returned (.tuple #[])) W) := fun W h1 => ⟨rfl,h1⟩
 have hbT' : Hid (base ≤ T ∧ T < lo) := ⟨hbT,hT⟩
 generalize OcEnd base w = E at *
 clear hR hv hn hbT hT
 go_enter Tryz.func16,Tryz.ntmps16
 go_wp2_with fail
 go_loopw [2] (fun i wr => ∃ (k : Nat),k ≤ n ∧ i = .int .i64 k ∧ Hid (Turns (fun k => base ≤ k) w wr ∧ ∃ L,L.length = n ∧ RB 3 ceL wr T L ∧ ∀ c ∈ L,OLv lo wr c.v)) (fun i _ => n - (intOf i).toNat)
 case atStart => exact ⟨0,by omega,rfl,hI0.out⟩
 case round =>
  obtain ⟨k,hk,rfl,hH⟩ := hrel
  obtain ⟨hTu,L,rfl,hR,hA⟩ := hH.out
  clear hI0 hH
  by_cases hlt : k < L.length
  ·have hkl : (k : Int) < L.length := by omega
   have hm := List.getElem_mem hlt
   have c2 : wr.cell? ⟨T,k * 3 + 2,none⟩ = some (L[k]).v := (hR.all k hlt 2 _ rfl).1
   have hcall := lover_any lo (L[k]).v wr (hA _ hm)
   have hnx : Hid (∀ w1,Turns (fun k => lo ≤ k) wr w1 → (∀ u,OLv lo wr u → OLv lo w1 u) → w1.cell? ⟨T,k * 3,none⟩ = some (.int .i64 (L[k]).x) ∧ w1.frozen? ⟨T,k * 3,none⟩ = false ∧ ∀ y : Int,Turns (fun k => base ≤ k) w (w1.setCell ⟨T,k * 3,none⟩ (.int .i64 y)) ∧ ∃ L',L'.length = L.length ∧ RB 3 ceL (w1.setCell ⟨T,k * 3,none⟩ (.int .i64 y)) T L' ∧ ∀ c ∈ L',OLv lo (w1.setCell ⟨T,k * 3,none⟩ (.int .i64 y)) c.v) := fun w1 ht hall => by
    obtain ⟨b1,b2⟩ := hbT'.out
    have hR1 := hR.turns ht (by omega)
    have hc := hR1.all k hlt 0 _ rfl
    refine ⟨hc.1,hc.2,fun y => ?_⟩
    have hTs := Turns.setCell (X := fun k => k = T) w1 (p := ⟨T,k * 3,none⟩) rfl (.int .i64 y)
    refine ⟨hTu.trans ((ht.mono (fun k hk => by omega)).trans (hTs.mono (fun k hk => by omega))),_,by simp,hR1.setx hlt y,fun c hc => ?_⟩
    have hold : ∃ c0 ∈ L,c0.v = c.v := by
     rcases List.mem_or_eq_of_mem_set hc with h | h
     ·exact ⟨c,h,rfl⟩
     ·exact ⟨L[k],hm,by rw [h]⟩
    obtain ⟨c0,hc0,ev⟩ := hold
    rw [← ev]
    exact (hall _ (hA _ hc0)).turns hTs (fun j hj e => by omega)
   clear hR hA hbT' hm hend hTu
   generalize (L[k]).v = cv at *
   generalize (L[k]).x = x at *
   go_wp2_with (first | (go_at_call 35; refine hcall.mono ?_; rintro e w1 ⟨rfl,ht,hall⟩; obtain ⟨k1,k2,hnx1⟩ := hnx.out w1 ht hall; have hnxh : Hid _ := hnx1; clear hnx hnx1 hall ht c2))
   exact ⟨⟨k + 1,by omega,by simp,hnxh.out _⟩,by simp [intOf]; omega⟩
  ·have hkl : ¬ (k : Int) < L.length := by omega
   clear hR hA
   go_wp2_with fail
   first
    | exact hend.out _ hTu
    | (go_returns; exact hend.out _ hTu)
end Go.Proofs.YtaphggjakaghjaaGreatDoor
