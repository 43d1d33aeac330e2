/-
  What is proved here: a round of joined: the lines of two parts, one behind the other.
  What is proved here: what joined answers: the lines of both parts.
  What is proved here: what CopyCells answers: the cells once more, their lines in rows of their own.
  What is proved here: what Clone of lines and cut answer.
  What is proved here: what Split of note answers; what OverLines leaves as it is.
  What is proved here: the chapter's examples, as values.
  What is proved here: marks of two numbers; the height of lines; awake.
  What is proved here: what OverLines does to a part of a row of its own, and what it leaves.
  What is proved here: Pick of a hundred thousand; two lists of lines, one behind the other, as a new list.
-/
import Derived.Test.YtlgcnbomfhmjiaaGreatDoorS30
import Derived.Deep.AppendSrc
import Derived.Lib.SliceRun
import Derived.Test.YtlgcnbomfhmjiaaGreatDoorS14
import Derived.Test.YtlgcnbomfhmjiaaGreatDoorS20
import Derived.BigRegion
import Derived.BigQuiet
import Derived.Test.YtlgcnbomfhmjiaaGreatDoorS1
namespace Go.Proofs.YtlgcnbomfhmjiaaGreatDoor
open Go.RowKit Go.Shelf

theorem run_append_any {P : Program} (w : World) (base : Nat) (t ty e : TypeId) (i : TypeInfo) (z : Value) (size bytes : Nat) (ht : P.underlying t = some (.slice e)) (hi : P.info? e = some i) (hz : i.zero = some z)
  (hsize : i.size = size) (hby : i.bytes = bytes) (hzs : z.cells.size = size) (hsz : 0 < size)
  (v : Value) (n : Nat) (xs : List Value) (hown : w.ownsRow base e size v n xs) (x : Value) (m : Nat) (news : List Value) (hx : Srcs w size x m news)
  (h63 : n + m ≤ maxLen) (hbytes : (n + m) * bytes ≤ 140737488355328) (hbase : base ≤ w.heap.size) :
  ∃ v' w',(Builtin.append_ #[t,t] ty #[v,x]).run P w = .ok v' w' ∧ w'.ownsRow base e size v' (n + m) (xs ++ news) ∧ w.grownBy w' v.ownBlock := by
 obtain ⟨hl,h1,hx⟩ := hx
 rcases hx with ⟨rfl,c,rfl⟩ | ⟨a,c,rfl,hc⟩
 ·have hn : news = [] := List.eq_nil_of_length_eq_zero (by simpa using hl)
  subst hn
  refine ⟨v,w,?_,by simpa using hown,World.grownBy.refl _ _⟩
  rcases hown.2 with ⟨rfl,rfl⟩ | ⟨g,cap,cur,rfl,hbg,hg,hnc,hcm,hcs,htake⟩
  ·simp [Builtin.append_,run_underlying ht,sizeOf,typeInfo,hi,Builtin.lenOf,run_firstCells_none]
  ·have := run_append_room_src (P := P) w t t ty e i ht hi g 0 n cap (.slice none 0 c) 0 [] (Src.ofNil w ht c) (by omega) (by simp) (by simp)
   rw [this]
   simp [World.setCells]
 ·obtain ⟨v',w',r0,r1,r2,_⟩ := run_append_own (P := P) w base t ty e i z size bytes ht hi hz hsize hby hzs hsz v n xs hown a m c news hl hc h1 h63 hbytes hbase
  exact ⟨v',w',r0,r1,r2⟩
theorem below_grown {B base : Nat} {w w1 w2 : World} {e : TypeId} {size n : Nat} {v : Value} {xs : List Value} (h : Below B w w1) (hrow : w1.ownsRow base e size v n xs) (hBw : B ≤ w.heap.size) (hB : B ≤ base) (hg : w1.grownBy w2 v.ownBlock) : Below B w w2 := by
 refine ⟨hg.os.trans h.1,hg.tape.trans h.2,hg.output.trans h.3,Nat.le_trans h.size hg.size,fun k hk => ?_⟩
 exact (hg.block k (by have := h.size; omega) (fun he => by have := (hrow.lt k he.symm).1; omega)).trans (h.block k hk)
theorem ownsRow_lit (w : World) (e : TypeId) (size : Nat) (base : Nat) (hb : base ≤ w.heap.size) : (w.alloc (.cells #[] e)).ownsRow base e size (.slice (some ⟨w.heap.size,0,none⟩) 0 0) 0 [] :=
 ⟨by simp,.inr ⟨w.heap.size,0,#[],rfl,hb,World.alloc_heap_new w _,by omega,by unfold maxLen; omega,by simp,by simp⟩⟩
theorem build0 (W : World) : (Instr.buildSlice 23 0 #[]).run Tryz.prog W = .ok (.slice (some ⟨W.heap.size,0,none⟩) 0 0) (W.alloc (.cells #[] 47)) := by kernel_rfl
end Go.Proofs.YtlgcnbomfhmjiaaGreatDoor

namespace Go.Proofs.YtlgcnbomfhmjiaaGreatDoor
open Go.RowKit Go.Shelf

theorem wpList_app_run {ops : Array Oper} {rest : List Oper} {oi : Oper} {a : Act} {w : World} {Q : Exit → Act → World → Prop} (hgd : oi.guard = none) (s x : Operand) (t : TypeId) (hop : oi.op = Op.call { callee := Callee.builtin Builtin.append,args := #[s,x],argTypes := #[t,t] })
  (v u v' : Value) (w' : World) (hs : a.eval s = v) (hx : a.eval x = u) (hrun : (Builtin.append_ #[t,t] oi.type #[v,u]).run Tryz.prog w = .ok v' w') (h : wpList Tryz.prog ops Q rest (a.put oi.dst v') w') : wpList Tryz.prog ops Q (oi :: rest) a w :=
 wpList_plain hgd fun _ hK => by
  unfold Oper.wp
  simp [execOp,hop,resolve,invoke,builtin,hs,hx,hrun,Result.andThen]
  exact hK _ _ h
end Go.Proofs.YtlgcnbomfhmjiaaGreatDoor

namespace Go.Proofs.YtlgcnbomfhmjiaaGreatDoor
open Go.RowKit Go.Shelf

theorem wpList_build0 {ops : Array Oper} {rest : List Oper} {oi : Oper} {a : Act} {w : World} {Q : Exit → Act → World → Prop} (hgd : oi.guard = none) (t e : TypeId) (ho : oi.op = .buildSlice t 0 #[]) (hr : ∀ W : World,(Instr.buildSlice t 0 #[]).run Tryz.prog W = .ok (.slice (some ⟨W.heap.size,0,none⟩) 0 0) (W.alloc (.cells #[] e)))
  (h : wpList Tryz.prog ops Q rest (a.put oi.dst (.slice (some ⟨w.heap.size,0,none⟩) 0 0)) (w.alloc (.cells #[] e))) : wpList Tryz.prog ops Q (oi :: rest) a w :=
 wpList_plain hgd fun _ hK => by
  have hr := hr w
  unfold Oper.wp execOp
  simp only [ho,List.map_toArray,List.map_nil,Sem.run_bind,Sem.run_pure,Result.andThen_ok,hr]
  exact hK _ _ h
theorem cp_run {α : Type} {f : α → List Value} {t e : TypeId} {k bytes : Nat} (hE : ElOk t e k bytes) (hk : 0 < k) (_hby : bytes ≤ 1000) (hf : ∀ a,(f a).length = k) (h1 : ∀ a,∀ u ∈ f a,u.oneCell' = true) {w : World} {v : Value} {l : List α} (h : RecAt k f w v l) (hl : l.length * bytes ≤ 140737488355328) (hl2 : l.length ≤ 9223372036854775807) (W : World) (hb : Below w.heap.size w W) :
  ∃ (a' : Option Addr) (c' : Nat) (W' : World),(Builtin.append_ #[t,t] t #[.slice (some ⟨W.heap.size,0,none⟩) 0 0,v]).run Tryz.prog (W.alloc (.cells #[] e)) = .ok (.slice a' l.length c') W' ∧ W'.ownsRow W.heap.size e k (.slice a' l.length c') l.length (l.flatMap f) ∧ Below W.heap.size W W' := by
 obtain ⟨hut,i,z,hi,hz0,hz1,hz2,hz3⟩ := hE
 have hB1 : Below W.heap.size W (W.alloc (.cells #[] e)) := (Below.refl _ _).alloc (Nat.le_refl _) _
 have hs := rec_srcs hf h1 hk ((h.below hb (Nat.le_refl _)).below hB1 (Nat.le_refl _))
 have hlit := ownsRow_lit W e k W.heap.size (Nat.le_refl _)
 have hbb : (0 + l.length) * bytes ≤ 140737488355328 := by rw [Nat.zero_add]; exact hl
 obtain ⟨v',w',hrun,r1,r2⟩ := run_append_any (P := Tryz.prog) _ W.heap.size t t e i z k bytes hut hi hz0 hz1 hz2 hz3 hk _ 0 [] hlit v l.length (l.flatMap f) hs (by unfold maxLen; omega) hbb hB1.size
 have hB := below_grown hB1 hlit (Nat.le_refl _) (Nat.le_refl _) r2
 obtain ⟨a',c',rfl⟩ := owns_slice r1
 rw [Nat.zero_add,List.nil_append] at r1
 rw [Nat.zero_add] at hrun
 refine ⟨a',c',w',hrun,?_,hB⟩
 first | exact r1 | simpa using r1

end Go.Proofs.YtlgcnbomfhmjiaaGreatDoor

namespace Go.Proofs.YtlgcnbomfhmjiaaGreatDoor
open Go.RowKit Go.Shelf
set_option maxRecDepth 100000
set_option maxHeartbeats 2000000

theorem el47 : ElOk 23 47 7 56 := ElOk.of Tryz.underlying23 (by kernel_rfl)
def ClEnd (qs : List Lx) (w : World) (e : Ending) (w' : World) : Prop := (∃ v,e = .returned v ∧ w'.ownsRow w.heap.size 47 7 v qs.length (qs.flatMap lxL)) ∧ Below w.heap.size w w'
theorem nclone_any (v : Value) (qs : List Lx) (w : World) (hl : qs.length ≤ 100000) (h : LxsAt w v qs) : Calls Tryz.prog 33 #[v] w (ClEnd qs w) := by
 have hh := h
 obtain ⟨a,cap,rfl,h2⟩ := h.ex
 cases a with
 | none =>
  have hq : qs = [] := by
   rcases h2 with h2 | ⟨b,o,h3,_⟩
   ·exact h2
   ·cases h3
  subst hq
  have hend : Hid (ClEnd [] w (.returned (.slice none 0 0)) w) := ⟨⟨.slice none 0 0,rfl,World.ownsRow_nil _ _ _ _⟩,Below.refl _ _⟩
  generalize ClEnd [] w = E at *
  have qT : ∀ (w : World) (a : Option Addr) (n c n' c' : Nat),(binOp .eql 23 (.slice a n c) (.slice none n' c')).run Tryz.prog w = .ok (.bool a.isNone) w := fun w a n c n' c' => Lib.run_eql_slice_nil w _ _ a n c n' c' Tryz.underlying23
  clear h h2 hh
  go_enter Tryz.func33,Tryz.ntmps33
  go_wp2_with fail
  exact hend.out
 | some ad =>
  obtain ⟨a',c',W',hrun,hr,hb⟩ := cp_run el47 (by decide) (by decide) lxL_len lxL_one hh (by omega) (by omega) w (Below.refl _ _)
  have hend : Hid (ClEnd qs w (.returned (.slice a' qs.length c')) W') := ⟨⟨_,rfl,hr⟩,hb⟩
  generalize ClEnd qs w = E at *
  have qT : ∀ (w : World) (a : Option Addr) (n c n' c' : Nat),(binOp .eql 23 (.slice a n c) (.slice none n' c')).run Tryz.prog w = .ok (.bool a.isNone) w := fun w a n c n' c' => Lib.run_eql_slice_nil w _ _ a n c n' c' Tryz.underlying23
  clear h h2 hh hr hb hl
  generalize qs.length = n at *
  go_enter Tryz.func33,Tryz.ntmps33
  go_wp2_with (first | (refine wpList_build0 rfl 23 47 rfl build0 ?_) | (refine wpList_app_run rfl _ _ 23 rfl (.slice (some ⟨w.heap.size,0,none⟩) 0 0) (.slice (some ad) n cap) (.slice a' n c') W' rfl rfl hrun ?_))
  exact hend.out
def cutV (g n m : Nat) : Value := if n = m then .slice (some ⟨g,0,none⟩) 0 0 else .slice (some ⟨g,m * 7,none⟩) (n - m) (n - m)
theorem ncut_any (g n c m : Nat) (hm : m ≤ n) (hn : n ≤ c) (_hc : c ≤ 9223372036854775807) (w : World) : Calls Tryz.prog 32 #[.slice (some ⟨g,0,none⟩) n c,.int .i64 m] w fun e w' => e = .returned (.tuple #[.slice (some ⟨g,0,none⟩) m m,cutV g n m]) ∧ Below w.heap.size w w' := by
 have h1 : ¬ (c : Int) < m := by omega
 have h2 : ¬ (n : Int) < m := by omega
 have h3 : ¬ (c : Int) < n := by omega
 have h4 : ¬ (m : Int) < 0 := by omega
 have h5 : ¬ (n : Int) < 0 := by omega
 have hend : Hid (∀ v W,v = cutV g n m → Below w.heap.size w W → (Ending.returned (.tuple #[.slice (some ⟨g,0,none⟩) m m,v]) = .returned (.tuple #[.slice (some ⟨g,0,none⟩) m m,cutV g n m]) ∧ Below w.heap.size w W)) := fun v W h hb => ⟨by rw [h],hb⟩
 by_cases e0 : m = 0
 ·subst e0
  by_cases e1 : n = 0
  ·subst e1
   go_enter Tryz.func32,Tryz.ntmps32
   go_wp2_with fail
   go_quiet (fail)
   go_wp2_with fail
   go_ret2
   exact hend.out _ _ (by unfold cutV; rw [if_pos rfl]; rfl) (below_drewN (Below.refl _ _) _)
  ·go_enter Tryz.func32,Tryz.ntmps32
   go_wp2_with fail
   go_quiet (fail)
   go_wp2_with fail
   go_ret2
   exact hend.out _ _ (by unfold cutV; rw [if_neg e1]; rfl) (below_drewN (Below.refl _ _) _)
 ·by_cases e1 : n = m
  ·subst e1
   go_enter Tryz.func32,Tryz.ntmps32
   go_wp2_with fail
   go_quiet (fail)
   go_wp2_with fail
   go_ret2
   exact hend.out _ _ (by unfold cutV; rw [if_pos rfl]; rfl) (below_drewN (Below.refl _ _) _)
  ·go_enter Tryz.func32,Tryz.ntmps32
   go_wp2_with fail
   go_quiet (fail)
   go_wp2_with fail
   go_ret2
   exact hend.out _ _ (by unfold cutV; rw [if_neg e1]; rfl) (below_drewN (Below.refl _ _) _)
theorem ncut_nil (w : World) : Calls Tryz.prog 32 #[.slice none 0 0,.int .i64 0] w fun e w' => e = .returned (.tuple #[.slice none 0 0,.slice none 0 0]) ∧ Below w.heap.size w w' := by
 go_enter Tryz.func32,Tryz.ntmps32
 go_wp2_with fail
 go_quiet (fail)
 go_wp2_with fail
 go_ret2
 exact ⟨rfl,below_drewN (Below.refl _ _) _⟩
end Go.Proofs.YtlgcnbomfhmjiaaGreatDoor

namespace Go.Proofs.YtlgcnbomfhmjiaaGreatDoor
open Go.RowKit Go.Shelf
set_option maxRecDepth 100000
set_option maxHeartbeats 4000000

def spN (h : Int) (n : Nat) : Nat := min (h / 10).toNat n
theorem spN_le (h : Int) (n : Nat) : spN h n ≤ n := Nat.min_le_right _ _
def SpIs (qs : List Lx) (m base : Nat) (W : World) (a b : Value) : Prop := ∃ v,W.ownsRow base 47 7 v qs.length (qs.flatMap lxL) ∧ ((v = .slice none 0 0 ∧ a = .slice none 0 0 ∧ b = .slice none 0 0) ∨ ∃ g c,v = .slice (some ⟨g,0,none⟩) qs.length c ∧ a = .slice (some ⟨g,0,none⟩) m m ∧ b = cutV g qs.length m)
theorem rec_take {α : Type} {k : Nat} {f : α → List Value} {W : World} {g o n c : Nat} {l : List α} (h : RecAt k f W (.slice (some ⟨g,o,none⟩) n c) l) {m : Nat} (hm : m ≤ n) (c' : Nat) (hc : m ≤ c') : RecAt k f W (.slice (some ⟨g,o,none⟩) m c') (l.take m) := by
 obtain ⟨a,cp,e,h2⟩ := h.ex
 have hn : l.length = n := by cases e; rfl
 have hl : (l.take m).length = m := by rw [List.length_take]; omega
 refine ⟨⟨some ⟨g,o,none⟩,c',by rw [hl],?_⟩,fun a n c e => by cases e; exact hc⟩
 rcases h2 with h2 | ⟨b,o',e',hb,hc2⟩
 ·left; rw [h2]; simp
 ·cases e
  cases e'
  refine .inr ⟨g,o,rfl,hb,fun i hi j u hu => hc2 i (by omega) j u ?_⟩
  rwa [List.getElem_take] at hu
theorem rec_drop {α : Type} {k : Nat} {f : α → List Value} {W : World} {g o n c : Nat} {l : List α} (h : RecAt k f W (.slice (some ⟨g,o,none⟩) n c) l) {m : Nat} (hm : m ≤ n) (c' : Nat) (hc : n - m ≤ c') : RecAt k f W (.slice (some ⟨g,o + m * k,none⟩) (n - m) c') (l.drop m) := by
 obtain ⟨a,cp,e,h2⟩ := h.ex
 have hn : l.length = n := by cases e; rfl
 have hl : (l.drop m).length = n - m := by rw [List.length_drop]; omega
 refine ⟨⟨some ⟨g,o + m * k,none⟩,c',by rw [hl],?_⟩,fun a n c e => by cases e; exact hc⟩
 rcases h2 with h2 | ⟨b,o',e',hb,hc2⟩
 ·left; rw [h2]; simp
 ·cases e
  cases e'
  refine .inr ⟨g,o + m * k,rfl,hb,fun i hi j u hu => ?_⟩
  have := hc2 (m + i) (by omega) j u (by rwa [List.getElem_drop] at hu)
  rwa [show o + (m + i) * k + j = o + m * k + i * k + j by rw [Nat.add_mul]; omega] at this
theorem rec_empty {α : Type} {k : Nat} {f : α → List Value} {W : World} {a : Option Addr} {c : Nat} {l : List α} (h : l = []) : RecAt k f W (.slice a 0 c) l := by
 subst h
 exact ⟨⟨a,c,rfl,.inl rfl⟩,fun a n c e => by cases e; exact Nat.zero_le _⟩
theorem SpIs.first {qs : List Lx} {m base : Nat} {W : World} {a b : Value} (h : SpIs qs m base W a b) (hm : m ≤ qs.length) : LxsAt W a (qs.take m) := by
 obtain ⟨v,ho,⟨rfl,rfl,rfl⟩ | ⟨g,c,rfl,rfl,rfl⟩⟩ := h
 ·have hn : qs.length = 0 := by
   rcases ho.2 with ⟨_,h⟩ | ⟨g,cap,cur,h,_⟩
   ·exact h
   ·cases h
  refine rec_empty ?_
  rw [List.eq_nil_of_length_eq_zero hn]; simp
 ·exact rec_take (rec_of_row lxL_len rfl ho) hm m (Nat.le_refl _)
theorem SpIs.second {qs : List Lx} {m base : Nat} {W : World} {a b : Value} (h : SpIs qs m base W a b) (hm : m ≤ qs.length) : LxsAt W b (qs.drop m) := by
 obtain ⟨v,ho,⟨rfl,rfl,rfl⟩ | ⟨g,c,rfl,rfl,rfl⟩⟩ := h
 ·have hn : qs.length = 0 := by
   rcases ho.2 with ⟨_,h⟩ | ⟨g,cap,cur,h,_⟩
   ·exact h
   ·cases h
  refine rec_empty ?_
  rw [List.eq_nil_of_length_eq_zero hn]; simp
 ·unfold cutV
  split
  ·rename_i e
   exact rec_empty (List.drop_eq_nil_iff.2 (by omega))
  ·have := rec_drop (rec_of_row lxL_len rfl ho) hm (qs.length - m) (Nat.le_refl _)
   rwa [Nat.zero_add] at this
def SpEnd (qs : List Lx) (h : Int) (w : World) (e : Ending) (w' : World) : Prop := ((h < 0 ∧ e = .returned (.tuple #[.slice none 0 0,.slice none 0 0,.int .i64 5])) ∨ (0 ≤ h ∧ ∃ a b,e = .returned (.tuple #[a,b,.int .i64 0]) ∧ SpIs qs (spN h qs.length) w.heap.size w' a b)) ∧ Below w.heap.size w w'
theorem spN_q {H n : Nat} : spN (H : Int) n = min (H / 10) n := by
 unfold spN
 rw [show ((H : Int) / 10).toNat = H / 10 by omega]
theorem quo10 {H : Nat} (hH : (H : Int) ≤ 9223372036854775807) : wrap64 ((H : Int).tdiv 10) = ((H / 10 : Nat) : Int) := by
 rw [Int.tdiv_eq_ediv_of_nonneg (by omega)]
 unfold wrap64
 omega
theorem nsplit_any (v : Value) (qs : List Lx) (h : Int) (hh : -9223372036854775808 ≤ h ∧ h ≤ 9223372036854775807) (w : World) (hl : qs.length ≤ 100000) (hA : LxsAt w v qs) : Calls Tryz.prog 18 #[v,.int .i64 h] w (SpEnd qs h w) := by
 have hcl := nclone_any v qs w hl hA
 obtain ⟨a,cap,rfl,h2⟩ := hA.ex
 by_cases h0 : h < 0
 ·have hend : Hid (SpEnd qs h w (.returned (.tuple #[.slice none 0 0,.slice none 0 0,.int .i64 5])) w) := ⟨.inl ⟨h0,rfl⟩,Below.refl _ _⟩
  generalize SpEnd qs h w = E at *
  clear hcl h2 hA hh
  go_enter Tryz.func18,Tryz.ntmps18
  go_wp2_with fail
  exact hend.out
 ·obtain ⟨H,rfl⟩ : ∃ H : Nat,h = H := ⟨h.toNat,by omega⟩
  have hend : Hid (∀ W v a b,W.ownsRow w.heap.size 47 7 v qs.length (qs.flatMap lxL) → ((v = .slice none 0 0 ∧ a = .slice none 0 0 ∧ b = .slice none 0 0) ∨ ∃ g c,v = .slice (some ⟨g,0,none⟩) qs.length c ∧ a = .slice (some ⟨g,0,none⟩) (min (H / 10) qs.length) (min (H / 10) qs.length) ∧ b = cutV g qs.length (min (H / 10) qs.length)) → Below w.heap.size w W → SpEnd qs H w (.returned (.tuple #[a,b,.int .i64 0])) W) := fun W v a b h1 h2 h3 => ⟨.inr ⟨by omega,a,b,rfl,v,h1,by rw [spN_q]; exact h2⟩,h3⟩
  have hq : Hid (wrap64 ((H : Int).tdiv 10) = ((H / 10 : Nat) : Int)) := quo10 hh.2
  have hend2 : Hid (∀ W v (m : Nat),m = min (H / 10) qs.length → W.ownsRow w.heap.size 47 7 v qs.length (qs.flatMap lxL) → Below w.heap.size w W → Calls Tryz.prog 32 #[v,.int .i64 m] W fun e W' => ∃ a b,e = .returned (.tuple #[a,b]) ∧ SpEnd qs H w (.returned (.tuple #[a,b,.int .i64 0])) W') := fun W v m hm ho hb => by
   have ho' := ho
   rcases ho.2 with ⟨rfl,hn⟩ | ⟨g,c,cur,rfl,hg0,hg,hnc,hcm,_⟩
   ·obtain rfl : m = 0 := by omega
    refine (ncut_nil W).mono ?_
    rintro e W' ⟨rfl,hb'⟩
    exact ⟨_,_,rfl,hend.out _ _ _ _ (ownsRow_below ho' hb') (.inl ⟨rfl,rfl,rfl⟩) (hb.trans (hb'.mono hb.size))⟩
   ·refine (ncut_any g qs.length c m (by omega) hnc (by unfold maxLen at hcm; omega) W).mono ?_
    rintro e W' ⟨rfl,hb'⟩
    subst hm
    exact ⟨_,_,rfl,hend.out _ _ _ _ (ownsRow_below ho' hb') (.inr ⟨g,c,rfl,rfl,rfl⟩) (hb.trans (hb'.mono hb.size))⟩
  have hcl' : Hid (Calls Tryz.prog 33 #[.slice a qs.length cap] w (ClEnd qs w)) := hcl
  have hdv : Hid ((H : Int) / 10 = ((H / 10 : Nat) : Int)) := (by omega : (H : Int) / 10 = ((H / 10 : Nat) : Int))
  clear hend hcl h2 hA hh
  generalize SpEnd qs H w = E at *
  by_cases hle : H / 10 ≤ qs.length
  ·have hle' : wrap64 ((H : Int).tdiv 10) ≤ (qs.length : Int) := by rw [hq.out]; omega
   go_enter Tryz.func18,Tryz.ntmps18
   go_wp2_with (go_at_call 33; refine hcl'.out.mono ?_; rintro e w1 ⟨⟨v,rfl,ho⟩,hb1⟩)
   rw [hdv.out]
   have hc := hend2.out w1 v (H / 10) (by omega) ho hb1
   clear hend2 ho hb1 hcl'
   refine hc.mono ?_
   rintro e w2 ⟨a2,b2,rfl,hE⟩
   clear hc
   generalize ((H / 10 : Nat) : Int) = q at *
   go_wp2_with fail
   exact hE
  ·have hle' : ¬ wrap64 ((H : Int).tdiv 10) ≤ (qs.length : Int) := by rw [hq.out]; omega
   go_enter Tryz.func18,Tryz.ntmps18
   go_wp2_with (go_at_call 33; refine hcl'.out.mono ?_; rintro e w1 ⟨⟨v,rfl,ho⟩,hb1⟩)
   have hc := hend2.out w1 v qs.length (by omega) ho hb1
   clear hend2 ho hb1 hcl'
   refine hc.mono ?_
   rintro e w2 ⟨a2,b2,rfl,hE⟩
   clear hc
   go_wp2_with fail
   exact hE
end Go.Proofs.YtlgcnbomfhmjiaaGreatDoor

namespace Go.Proofs.YtlgcnbomfhmjiaaGreatDoor
open Go.RowKit Go.Shelf

def xT : ByteArray := { data := #[97,98,32,99,100] }
theorem x_nt : ntE xT = 0 := by kernel_rfl
theorem x_ls : noteLs xT (ntS 27) = [⟨0,3,14,13,10,false,0⟩,⟨3,5,14,13,10,false,0⟩] := by kernel_rfl
end Go.Proofs.YtlgcnbomfhmjiaaGreatDoor

namespace Go.Proofs.YtlgcnbomfhmjiaaGreatDoor
open Go.RowKit Go.Shelf
set_option maxRecDepth 100000
set_option maxHeartbeats 2000000

theorem nheight_any (a : Option Addr) (n c : Nat) (hn : n ≤ 100000) (w : World) : Calls Tryz.prog 20 #[.slice a n c] w fun e w' => e = .returned (.int .i64 (10 * (n : Int))) ∧ w' = w := by
 have h1 : ¬ 9223372036854775807 < n := by omega
 go_enter Tryz.func20,Tryz.ntmps20
 go_wp2_with fail
 go_ret
 refine ⟨?_,rfl⟩
 have e : (n : Int) * 10 = 10 * n := by omega
 simp [e]
def xL2 : List Lx := [⟨0,3,14,13,10,false,0⟩,⟨3,5,14,13,10,false,0⟩]
theorem x_lay (w : World) : Calls Tryz.prog 8 #[.string xT,.int .i64 27] w fun e w' => ∃ g,w.heap.size ≤ g ∧ e = .returned (.tuple #[.slice (some ⟨g,0,none⟩) 2 2,.int .i64 0]) ∧ LxsAt w' (.slice (some ⟨g,0,none⟩) 2 2) [⟨0,3,14,13,10,false,0⟩,⟨3,5,14,13,10,false,0⟩] ∧ Below w.heap.size w w' := by
 refine (nlay_any xT (by decide) 27 w).mono ?_
 rintro e w' ⟨⟨h,_⟩ | ⟨_,h,_⟩ | ⟨_,_,g,hg,rfl,hu⟩,hb⟩
 ·exact absurd x_nt h
 ·exact absurd (by omega) h
 ·rw [x_ls] at hu ⊢
  exact ⟨g,hg,rfl,hu,hb⟩
theorem awake17 (w : World) : Calls Tryz.prog 17 #[] w fun e w' => e = .returned (.bool true) ∧ Below w.heap.size w w' := by
 have hx := x_lay w
 go_enter Tryz.func17,Tryz.ntmps17
 go_wp2_with (go_at_call 8; refine hx.mono ?_; rintro e w1 ⟨g,hg,rfl,hu,hb⟩)
 have hB := (Below.refl w1.heap.size w1).alloc (Nat.le_refl _) (.cells (xL2.flatMap lxL).toArray 47)
 have hr := rec_new (k := 7) lxL_len w1 47 xL2
 have hu2 : LxsAt _ _ xL2 := hu.below hB (Nat.le_refl _)
 refine (sameLines_yes _ _ xL2 _ (by decide) hu2 hr).mono ?_
 rintro e w2 ⟨rfl,hb2⟩
 have hfin := hb.trans ((hB.trans (hb2.mono hB.size)).mono hb.size)
 clear hu hu2 hr hB hb2 hb hx
 go_wp2_with fail
 go_ret
 exact ⟨rfl,hfin⟩
end Go.Proofs.YtlgcnbomfhmjiaaGreatDoor

namespace Go.Proofs.YtlgcnbomfhmjiaaGreatDoor
open Go.RowKit Go.Shelf
set_option maxRecDepth 100000
set_option maxHeartbeats 1000000

structure CutB (W : World) (g o n : Nat) (cur0 : Array Value) : Prop where
 ex : ∃ cur : Array Value,W.heap[g]? = some (.cells cur 47 (0,0)) ∧ cur.size = cur0.size ∧ (∀ j,(j < o ∨ o + n * 7 ≤ j) → cur[j]? = cur0[j]?) ∧ ∀ i,i < n → ∃ x : Int,cur[o + i * 7]? = some (.int .i64 x)
theorem CutB.cell {W : World} {g o n : Nat} {cur0 : Array Value} (h : CutB W g o n cur0) {i : Nat} (hi : i < n) : ∃ x,W.cell? ⟨g,o + i * 7,none⟩ = some (.int .i64 x) ∧ W.frozen? ⟨g,o + i * 7,none⟩ = false := by
 obtain ⟨cur,h1,_,_,h4⟩ := h.ex
 obtain ⟨x,hx⟩ := h4 i hi
 exact ⟨x,by rw [Lib.cell_of_heap h1,hx],Lib.frozen_of_heap h1 _⟩
theorem CutB.set {W : World} {g o n : Nat} {cur0 : Array Value} (h : CutB W g o n cur0) {i : Nat} (hi : i < n) (y : Int) : CutB (W.setCell ⟨g,o + i * 7,none⟩ (.int .i64 y)) g o n cur0 := by
 obtain ⟨cur,h1,h2,h3,h4⟩ := h.ex
 refine ⟨cur.setIfInBounds (o + i * 7) (.int .i64 y),heap_setCell_same _ _ _ _ 47 _ h1,by simpa using h2,fun j hj => ?_,fun k hk => ?_⟩
 ·rw [Array.getElem?_setIfInBounds,if_neg (by omega)]
  exact h3 j hj
 ·by_cases e : k = i
  ·subst e
   obtain ⟨x,hx⟩ := h4 k hk
   have hlt := (Array.getElem?_eq_some_iff.1 hx).1
   refine ⟨y,?_⟩
   rw [Array.getElem?_setIfInBounds,if_pos rfl,if_pos hlt]
  ·rw [Array.getElem?_setIfInBounds,if_neg (by omega)]
   exact h4 k hk
theorem CutB.start {W : World} {g o n c : Nat} {ls : List Lx} {cur : Array Value} (h : LxsAt W (.slice (some ⟨g,o,none⟩) n c) ls) (hg : W.heap[g]? = some (.cells cur 47 (0,0))) : CutB W g o n cur := by
 refine ⟨cur,hg,rfl,fun j _ => rfl,fun i hi => ?_⟩
 obtain ⟨a,cp,e,h2⟩ := h.ex
 have hn : ls.length = n := by cases e; rfl
 rcases h2 with h2 | ⟨b,o',e',hb,hc⟩
 ·rw [h2] at hn; simp at hn; omega
 ·cases e
  cases e'
  have := hc i (by omega) 0 (.int .i64 (ls[i]'(by omega)).f) rfl
  rw [Lib.cell_of_heap hg] at this
  exact ⟨_,this⟩
theorem CutB.keep {W W' : World} {g o n p m c : Nat} {ls : List Lx} {cur : Array Value} (h : CutB W' g o n cur) (hg : W.heap[g]? = some (.cells cur 47 (0,0))) (hL : LxsAt W (.slice (some ⟨g,p,none⟩) m c) ls) (hd : p + m * 7 ≤ o ∨ o + n * 7 ≤ p) : LxsAt W' (.slice (some ⟨g,p,none⟩) m c) ls := by
 obtain ⟨cur',h1,h2,h3,_⟩ := h.ex
 have hle := hL.le
 obtain ⟨a,cp,e,hx⟩ := hL.ex
 have hn : ls.length = m := by cases e; rfl
 refine ⟨⟨a,cp,e,?_⟩,hle⟩
 rcases hx with hx | ⟨b,o',e',hb,hc⟩
 ·exact .inl hx
 ·cases e
  cases e'
  refine .inr ⟨g,p,rfl,(Array.getElem?_eq_some_iff.1 h1).1,fun i hi j u hu => ?_⟩
  have hj : j < 7 := by have := (List.getElem?_eq_some_iff.1 hu).1; rwa [lxL_len] at this
  rw [← hc i hi j u hu,Lib.cell_of_heap h1,Lib.cell_of_heap hg]
  exact h3 _ (by omega)
def OpEnd (g o n : Nat) (cur : Array Value) (w : World) (e : Ending) (w' : World) : Prop := e = .returned (.tuple #[]) ∧ Turns (fun k => k = g) w w' ∧ CutB w' g o n cur
theorem over_part (g o n : Nat) (cur : Array Value) (hn : n ≤ 100000) (w : World) (h : CutB w g o n cur) : Calls Tryz.prog 16 #[.slice (some ⟨g,o,none⟩) n n] w (OpEnd g o n cur w) := by
 have hc2 : (n : Int) ≤ 9223372036854775807 := by omega
 have hh : Hid (CutB w g o n cur) := h
 have hend : Hid (∀ W,Turns (fun k => k = g) w W → CutB W g o n cur → OpEnd g o n cur w (.returned (.tuple #[])) W) := fun W h1 h2 => ⟨rfl,h1,h2⟩
 generalize OpEnd g o n cur w = E at *
 clear h
 go_enter Tryz.func16,Tryz.ntmps16
 go_wp2_with fail
 go_loopw [3] (fun i wr => ∃ (k : Nat),k ≤ n ∧ i = .int .i64 k ∧ Hid (Turns (fun k => k = g) w wr ∧ CutB wr g o n cur)) (fun i _ => n - (intOf i).toNat)
 case atStart => exact ⟨0,by omega,rfl,Turns.refl _ _,hh.out⟩
 case round =>
  obtain ⟨k,hk,rfl,hH⟩ := hrel
  obtain ⟨hT,hO⟩ := hH.out
  by_cases hlt : k < n
  ·have hkl : (k : Int) < n := by omega
   obtain ⟨x,c0,f0⟩ := hO.cell hlt
   have hnx : Hid (∀ y : Int,Turns (fun k => k = g) w (wr.setCell ⟨g,o + k * 7,none⟩ (.int .i64 y)) ∧ CutB (wr.setCell ⟨g,o + k * 7,none⟩ (.int .i64 y)) g o n cur) := fun y => ⟨hT.trans (Turns.setCell (X := fun k => k = g) wr (p := ⟨g,o + k * 7,none⟩) rfl _),hO.set hlt y⟩
   clear hH hT hO hh hend
   go_wp2_with fail
   go_roundw
   case rel => exact ⟨k + 1,by omega,by simp,hnx.out _⟩
   case measure => simp [intOf]; omega
  ·have hkl : ¬ (k : Int) < n := by omega
   clear hh hH
   go_wp2_with fail
   first
    | exact hend.out _ hT hO
    | (go_returns; exact hend.out _ hT hO)
theorem over_nil (w : World) : Calls Tryz.prog 16 #[.slice none 0 0] w fun e w' => e = .returned (.tuple #[]) ∧ w' = w := by
 go_enter Tryz.func16,Tryz.ntmps16
 go_wp2_with fail
 go_loopw [3] (fun i wr => i = .int .i64 0 ∧ Hid (wr = w)) (fun i _ => 0)
 case atStart => exact ⟨rfl,rfl⟩
 case round =>
  obtain ⟨rfl,hw⟩ := hrel
  obtain rfl := hw.out
  go_wp2_with fail
  first
   | exact ⟨rfl,rfl⟩
   | (go_returns; exact ⟨rfl,rfl⟩)
def Ov2 (w : World) (b d iv lv : Value) (L2 ls : List Lx) (W : World) : Prop := LxsAt W b L2 ∧ LxsAt W d L2 ∧ Below w.heap.size w W ∧ ∀ W',Below W.heap.size W W' → Calls Tryz.prog 16 #[b] W' fun e W2 => e = .returned (.tuple #[]) ∧ LxsAt W2 iv ls ∧ LxsAt W2 lv ls ∧ Below w.heap.size w W2
def Ov1 (w : World) (a b d iv lv : Value) (L2 ls : List Lx) (W : World) : Prop := ∀ W',Below W.heap.size W W' → Calls Tryz.prog 16 #[a] W' fun e W2 => e = .returned (.tuple #[]) ∧ Ov2 w b d iv lv L2 ls W2
theorem ov_nil {w W : World} {d iv lv : Value} {ls : List Lx} (hd : LxsAt W d []) (hi : LxsAt W iv ls) (hl : LxsAt W lv ls) (hB : Below w.heap.size w W) : Ov1 w (.slice none 0 0) (.slice none 0 0) d iv lv [] ls W := fun W' hb => by
 refine (over_nil W').mono ?_
 rintro e W2 ⟨rfl,rfl⟩
 refine ⟨rfl,rec_empty rfl,hd.below hb (Nat.le_refl _),hB.trans (hb.mono hB.size),fun W3 hb3 => ?_⟩
 refine (over_nil W3).mono ?_
 rintro e W4 ⟨rfl,rfl⟩
 have hb4 := hb.trans (hb3.mono hb.size)
 exact ⟨rfl,hi.below hb4 (Nat.le_refl _),hl.below hb4 (Nat.le_refl _),hB.trans (hb4.mono hB.size)⟩
theorem own_turns {W W' : World} {g : Nat} {v : Value} {ls : List Lx} (h : LxsAt W v ls) (ht : Turns (fun k => k = g) W W') (hne : v.ownBlock ≠ some g) : LxsAt W' v ls := rec_any h ht (fun k hk e => hne (by rw [hk,e]))
theorem ov_split {w V W1 W : World} {qs : List Lx} {m : Nat} {a b d iv lv : Value} {ls : List Lx} (hS : SpIs qs m V.heap.size W1 a b) (hm : m ≤ qs.length) (h5 : qs.length ≤ 100000) (hV : Below V.heap.size V W) (hwV : w.heap.size ≤ V.heap.size) (h1W : Below W1.heap.size W1 W) (hB : Below w.heap.size w W)
  (hd : LxsAt W d (qs.drop m)) (hdn : ∀ g,d.ownBlock = some g → W1.heap.size ≤ g) (hi : LxsAt V iv ls) (hl : LxsAt w lv ls) : Ov1 w a b d iv lv (qs.drop m) ls W := by
 have hb2 := hS.second hm
 have ha2 := hS.first hm
 obtain ⟨v,ho,⟨rfl,rfl,rfl⟩ | ⟨g,c,rfl,rfl,rfl⟩⟩ := hS
 ·have hn : qs.length = 0 := by
   rcases ho.2 with ⟨_,h⟩ | ⟨g,cap,cur,h,_⟩
   ·exact h
   ·cases h
  have e : qs.drop m = [] := List.drop_eq_nil_iff.2 (by omega)
  rw [e] at hd ⊢
  exact ov_nil hd (hi.below hV (Nat.le_refl _)) (hl.below hB (Nat.le_refl _)) hB
 ·rcases ho.2 with ⟨h,_⟩ | ⟨g',cap,cur,he,hbg,hg1,_⟩
  ·cases h
  cases he
  have hlt : g < W1.heap.size := (Array.getElem?_eq_some_iff.1 hg1).1
  intro W' hb
  have h1W' := h1W.trans (hb.mono h1W.size)
  have hV' := hV.trans (hb.mono hV.size)
  have hB' := hB.trans (hb.mono hB.size)
  have hg' := (h1W'.block g hlt).trans hg1
  have ha' := ha2.below h1W' (Nat.le_refl _)
  have hb' := hb2.below h1W' (Nat.le_refl _)
  have hd' := hd.below hb (Nat.le_refl _)
  refine (over_part g 0 m cur (by omega) W' (.start ha' hg')).mono ?_
  rintro e W2 ⟨rfl,hT,hC⟩
  have hV2 := hV'.trans (hT.below hV'.size (fun k hk => by omega))
  have hB2 := hB'.trans (hT.below hB'.size (fun k hk => by omega))
  have hb2' : LxsAt W2 (cutV g qs.length m) (qs.drop m) := by
   unfold cutV at hb' ⊢
   split
   ·rename_i e
    exact rec_empty (List.drop_eq_nil_iff.2 (by omega))
   ·rename_i e
    rw [if_neg e] at hb'
    exact hC.keep hg' hb' (.inr (by omega))
  refine ⟨rfl,hb2',own_turns hd' hT (fun e => by have := hdn g e; omega),hB2,fun W3 hb3 => ?_⟩
  obtain ⟨cur2,hg2,_⟩ := hC.ex
  have hlt2 := (Array.getElem?_eq_some_iff.1 hg2).1
  have hg3 := (hb3.block g hlt2).trans hg2
  have hb3' := hb2'.below hb3 (Nat.le_refl _)
  have hV3 := hV2.trans (hb3.mono hV2.size)
  have hB3 := hB2.trans (hb3.mono hB2.size)
  have hfin : ∀ W4,Turns (fun k => k = g) W3 W4 → LxsAt W4 iv ls ∧ LxsAt W4 lv ls ∧ Below w.heap.size w W4 := fun W4 hT4 => by
   have hV4 := hV3.trans (hT4.below hV3.size (fun k hk => by omega))
   have hB4 := hB3.trans (hT4.below hB3.size (fun k hk => by omega))
   exact ⟨hi.below hV4 (Nat.le_refl _),hl.below hB4 (Nat.le_refl _),hB4⟩
  unfold cutV at hb3' ⊢
  split
  ·refine (over_part g 0 0 cur2 (by omega) W3 (.start (c := 0) (ls := []) (rec_empty rfl) hg3)).mono ?_
   rintro e W4 ⟨rfl,hT4,_⟩
   exact ⟨rfl,hfin W4 hT4⟩
  ·rename_i e
   rw [if_neg e] at hb3'
   refine (over_part g (m * 7) (qs.length - m) cur2 (by omega) W3 (.start hb3' hg3)).mono ?_
   rintro e W4 ⟨rfl,hT4,_⟩
   exact ⟨rfl,hfin W4 hT4⟩
end Go.Proofs.YtlgcnbomfhmjiaaGreatDoor

namespace Go.Proofs.YtlgcnbomfhmjiaaGreatDoor
open Go.RowKit Go.Shelf

theorem wp_app_runO {oi : Oper} {a : Act} {w : World} {K : Act → World → Prop} {Q : Exit → Act → World → Prop} (s x : Operand) (t : TypeId) (hop : oi.op = Op.call { callee := Callee.builtin Builtin.append,args := #[s,x],argTypes := #[t,t] })
  (v u v' : Value) (w' : World) (hs : a.eval s = v) (hx : a.eval x = u) (hrun : (Builtin.append_ #[t,t] oi.type #[v,u]).run Tryz.prog w = .ok v' w') (h : K (a.put oi.dst v') w') : oi.wp Tryz.prog a w K Q := by
 unfold Oper.wp
 simp [execOp,hop,resolve,invoke,builtin,hs,hx,hrun,Result.andThen]
 exact h
end Go.Proofs.YtlgcnbomfhmjiaaGreatDoor
