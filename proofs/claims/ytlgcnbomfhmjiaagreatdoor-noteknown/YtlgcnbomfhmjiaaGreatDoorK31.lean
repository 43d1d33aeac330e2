/-
  What is proved here: what joined answers: the lines of both parts.
  What is proved here: what CopyCells answers: the cells once more, their lines in rows of their own.
  What is proved here: what Clone of lines and cut answer.
  What is proved here: what Split of note answers; what OverLines leaves as it is.
  What is proved here: the chapter's examples, as values.
  What is proved here: marks of two numbers; the height of lines; awake.
-/
import Derived.Test.YtlgcnbomfhmjiaaGreatDoorK30
import Derived.Lib.SliceRun
import Derived.Test.YtlgcnbomfhmjiaaGreatDoorK14
import Derived.Test.YtlgcnbomfhmjiaaGreatDoorK20
import Derived.Test.YtlgcnbomfhmjiaaGreatDoorK6
import Derived.Sort.BigQuietIn
import Derived.RangeFuncNested
import Derived.BigRegion
import Derived.BigQuiet
import Derived.Test.YtlgcnbomfhmjiaaGreatDoorK1
namespace Go.Proofs.YtlgcnbomfhmjiaaGreatDoor
open Go.RowKit Go.Shelf

theorem wpList_app_run {ops : Array Oper} {rest : List Oper} {oi : Oper} {a : Act} {w : World} {Q : Exit → Act → World → Prop} (hgd : oi.guard = none) (s x : Operand) (t : TypeId) (hop : oi.op = Op.call { callee := Callee.builtin Builtin.append,args := #[s,x],argTypes := #[t,t] })
  (v u v' : Value) (w' : World) (hs : a.eval s = v) (hx : a.eval x = u) (hrun : (Builtin.append_ #[t,t] oi.type #[v,u]).run Tryz.prog w = .ok v' w') (h : wpList Tryz.prog ops Q rest (a.put oi.dst v') w') : wpList Tryz.prog ops Q (oi :: rest) a w :=
 wpList_plain hgd fun _ hK => by
  unfold Oper.wp
  simp [execOp,hop,resolve,invoke,builtin,hs,hx,hrun,Result.andThen]
  exact hK _ _ h
end Go.Proofs.YtlgcnbomfhmjiaaGreatDoor

namespace Go.Proofs.YtlgcnbomfhmjiaaGreatDoor
open Go.RowKit Go.Shelf

theorem wpList_build0 {ops : Array Oper} {rest : List Oper} {oi : Oper} {a : Act} {w : World} {Q : Exit → Act → World → Prop} (hgd : oi.guard = none) (t e : TypeId) (ho : oi.op = .buildSlice t 0 #[]) (hr : ∀ W : World,(Instr.buildSlice t 0 #[]).run Tryz.prog W = .ok (.slice (some ⟨W.heap.size,0,none⟩) 0 0) (W.alloc (.cells #[] e)))
  (h : wpList Tryz.prog ops Q rest (a.put oi.dst (.slice (some ⟨w.heap.size,0,none⟩) 0 0)) (w.alloc (.cells #[] e))) : wpList Tryz.prog ops Q (oi :: rest) a w :=
 wpList_plain hgd fun _ hK => by
  have hr := hr w
  unfold Oper.wp execOp
  simp only [ho,List.map_toArray,List.map_nil,Sem.run_bind,Sem.run_pure,Result.andThen_ok,hr]
  exact hK _ _ h
theorem cp_run {α : Type} {f : α → List Value} {t e : TypeId} {k bytes : Nat} (hE : ElOk t e k bytes) (hk : 0 < k) (_hby : bytes ≤ 1000) (hf : ∀ a,(f a).length = k) (h1 : ∀ a,∀ u ∈ f a,u.oneCell' = true) {w : World} {v : Value} {l : List α} (h : RecAt k f w v l) (hl : l.length * bytes ≤ 140737488355328) (hl2 : l.length ≤ 9223372036854775807) (W : World) (hb : Below w.heap.size w W) :
  ∃ (a' : Option Addr) (c' : Nat) (W' : World),(Builtin.append_ #[t,t] t #[.slice (some ⟨W.heap.size,0,none⟩) 0 0,v]).run Tryz.prog (W.alloc (.cells #[] e)) = .ok (.slice a' l.length c') W' ∧ W'.ownsRow W.heap.size e k (.slice a' l.length c') l.length (l.flatMap f) ∧ Below W.heap.size W W' := by
 obtain ⟨hut,i,z,hi,hz0,hz1,hz2,hz3⟩ := hE
 have hB1 : Below W.heap.size W (W.alloc (.cells #[] e)) := (Below.refl _ _).alloc (Nat.le_refl _) _
 have hs := rec_srcs hf h1 hk ((h.below hb (Nat.le_refl _)).below hB1 (Nat.le_refl _))
 have hlit := ownsRow_lit W e k W.heap.size (Nat.le_refl _)
 have hbb : (0 + l.length) * bytes ≤ 140737488355328 := by rw [Nat.zero_add]; exact hl
 obtain ⟨v',w',hrun,r1,r2⟩ := run_append_any (P := Tryz.prog) _ W.heap.size t t e i z k bytes hut hi hz0 hz1 hz2 hz3 hk _ 0 [] hlit v l.length (l.flatMap f) hs (by unfold maxLen; omega) hbb hB1.size
 have hB := below_grown hB1 hlit (Nat.le_refl _) (Nat.le_refl _) r2
 obtain ⟨a',c',rfl⟩ := owns_slice r1
 rw [Nat.zero_add,List.nil_append] at r1
 rw [Nat.zero_add] at hrun
 refine ⟨a',c',w',hrun,?_,hB⟩
 first | exact r1 | simpa using r1

end Go.Proofs.YtlgcnbomfhmjiaaGreatDoor

namespace Go.Proofs.YtlgcnbomfhmjiaaGreatDoor
open Go.RowKit Go.Shelf
set_option maxRecDepth 100000
set_option maxHeartbeats 2000000

theorem el47 : ElOk 23 47 7 56 := ElOk.of Tryz.underlying23 (by kernel_rfl)
def ClEnd (qs : List Lx) (w : World) (e : Ending) (w' : World) : Prop := (∃ v,e = .returned v ∧ w'.ownsRow w.heap.size 47 7 v qs.length (qs.flatMap lxL)) ∧ Below w.heap.size w w'
theorem nclone_any (v : Value) (qs : List Lx) (w : World) (hl : qs.length ≤ 100000) (h : LxsAt w v qs) : Calls Tryz.prog 33 #[v] w (ClEnd qs w) := by
 have hh := h
 obtain ⟨a,cap,rfl,h2⟩ := h.ex
 cases a with
 | none =>
  have hq : qs = [] := by
   rcases h2 with h2 | ⟨b,o,h3,_⟩
   ·exact h2
   ·cases h3
  subst hq
  have hend : Hid (ClEnd [] w (.returned (.slice none 0 0)) w) := ⟨⟨.slice none 0 0,rfl,World.ownsRow_nil _ _ _ _⟩,Below.refl _ _⟩
  generalize ClEnd [] w = E at *
  have qT : ∀ (w : World) (a : Option Addr) (n c n' c' : Nat),(binOp .eql 23 (.slice a n c) (.slice none n' c')).run Tryz.prog w = .ok (.bool a.isNone) w := fun w a n c n' c' => Lib.run_eql_slice_nil w _ _ a n c n' c' Tryz.underlying23
  clear h h2 hh
  go_enter Tryz.func33,Tryz.ntmps33
  go_wp2_with fail
  exact hend.out
 | some ad =>
  obtain ⟨a',c',W',hrun,hr,hb⟩ := cp_run el47 (by decide) (by decide) lxL_len lxL_one hh (by omega) (by omega) w (Below.refl _ _)
  have hend : Hid (ClEnd qs w (.returned (.slice a' qs.length c')) W') := ⟨⟨_,rfl,hr⟩,hb⟩
  generalize ClEnd qs w = E at *
  have qT : ∀ (w : World) (a : Option Addr) (n c n' c' : Nat),(binOp .eql 23 (.slice a n c) (.slice none n' c')).run Tryz.prog w = .ok (.bool a.isNone) w := fun w a n c n' c' => Lib.run_eql_slice_nil w _ _ a n c n' c' Tryz.underlying23
  clear h h2 hh hr hb hl
  generalize qs.length = n at *
  go_enter Tryz.func33,Tryz.ntmps33
  go_wp2_with (first | (refine wpList_build0 rfl 23 47 rfl build0 ?_) | (refine wpList_app_run rfl _ _ 23 rfl (.slice (some ⟨w.heap.size,0,none⟩) 0 0) (.slice (some ad) n cap) (.slice a' n c') W' rfl rfl hrun ?_))
  exact hend.out
def cutV (g n m : Nat) : Value := if n = m then .slice (some ⟨g,0,none⟩) 0 0 else .slice (some ⟨g,m * 7,none⟩) (n - m) (n - m)
theorem ncut_any (g n c m : Nat) (hm : m ≤ n) (hn : n ≤ c) (_hc : c ≤ 9223372036854775807) (w : World) : Calls Tryz.prog 32 #[.slice (some ⟨g,0,none⟩) n c,.int .i64 m] w fun e w' => e = .returned (.tuple #[.slice (some ⟨g,0,none⟩) m m,cutV g n m]) ∧ Below w.heap.size w w' := by
 have h1 : ¬ (c : Int) < m := by omega
 have h2 : ¬ (n : Int) < m := by omega
 have h3 : ¬ (c : Int) < n := by omega
 have h4 : ¬ (m : Int) < 0 := by omega
 have h5 : ¬ (n : Int) < 0 := by omega
 have hend : Hid (∀ v W,v = cutV g n m → Below w.heap.size w W → (Ending.returned (.tuple #[.slice (some ⟨g,0,none⟩) m m,v]) = .returned (.tuple #[.slice (some ⟨g,0,none⟩) m m,cutV g n m]) ∧ Below w.heap.size w W)) := fun v W h hb => ⟨by rw [h],hb⟩
 by_cases e0 : m = 0
 ·subst e0
  by_cases e1 : n = 0
  ·subst e1
   go_enter Tryz.func32,Tryz.ntmps32
   go_wp2_with fail
   go_quiet (fail)
   go_wp2_with fail
   go_ret2
   exact hend.out _ _ (by unfold cutV; rw [if_pos rfl]; rfl) (below_drewN (Below.refl _ _) _)
  ·go_enter Tryz.func32,Tryz.ntmps32
   go_wp2_with fail
   go_quiet (fail)
   go_wp2_with fail
   go_ret2
   exact hend.out _ _ (by unfold cutV; rw [if_neg e1]; rfl) (below_drewN (Below.refl _ _) _)
 ·by_cases e1 : n = m
  ·subst e1
   go_enter Tryz.func32,Tryz.ntmps32
   go_wp2_with fail
   go_quiet (fail)
   go_wp2_with fail
   go_ret2
   exact hend.out _ _ (by unfold cutV; rw [if_pos rfl]; rfl) (below_drewN (Below.refl _ _) _)
  ·go_enter Tryz.func32,Tryz.ntmps32
   go_wp2_with fail
   go_quiet (fail)
   go_wp2_with fail
   go_ret2
   exact hend.out _ _ (by unfold cutV; rw [if_neg e1]; rfl) (below_drewN (Below.refl _ _) _)
theorem ncut_nil (w : World) : Calls Tryz.prog 32 #[.slice none 0 0,.int .i64 0] w fun e w' => e = .returned (.tuple #[.slice none 0 0,.slice none 0 0]) ∧ Below w.heap.size w w' := by
 go_enter Tryz.func32,Tryz.ntmps32
 go_wp2_with fail
 go_quiet (fail)
 go_wp2_with fail
 go_ret2
 exact ⟨rfl,below_drewN (Below.refl _ _) _⟩
end Go.Proofs.YtlgcnbomfhmjiaaGreatDoor

namespace Go.Proofs.YtlgcnbomfhmjiaaGreatDoor
open Go.RowKit Go.Shelf
set_option maxRecDepth 100000
set_option maxHeartbeats 4000000

def spN (h : Int) (n : Nat) : Nat := min (h / 10).toNat n
theorem spN_le (h : Int) (n : Nat) : spN h n ≤ n := Nat.min_le_right _ _
def SpIs (qs : List Lx) (m base : Nat) (W : World) (a b : Value) : Prop := ∃ v,W.ownsRow base 47 7 v qs.length (qs.flatMap lxL) ∧ ((v = .slice none 0 0 ∧ a = .slice none 0 0 ∧ b = .slice none 0 0) ∨ ∃ g c,v = .slice (some ⟨g,0,none⟩) qs.length c ∧ a = .slice (some ⟨g,0,none⟩) m m ∧ b = cutV g qs.length m)
theorem rec_take {α : Type} {k : Nat} {f : α → List Value} {W : World} {g o n c : Nat} {l : List α} (h : RecAt k f W (.slice (some ⟨g,o,none⟩) n c) l) {m : Nat} (hm : m ≤ n) (c' : Nat) (hc : m ≤ c') : RecAt k f W (.slice (some ⟨g,o,none⟩) m c') (l.take m) := by
 obtain ⟨a,cp,e,h2⟩ := h.ex
 have hn : l.length = n := by cases e; rfl
 have hl : (l.take m).length = m := by rw [List.length_take]; omega
 refine ⟨⟨some ⟨g,o,none⟩,c',by rw [hl],?_⟩,fun a n c e => by cases e; exact hc⟩
 rcases h2 with h2 | ⟨b,o',e',hb,hc2⟩
 ·left; rw [h2]; simp
 ·cases e
  cases e'
  refine .inr ⟨g,o,rfl,hb,fun i hi j u hu => hc2 i (by omega) j u ?_⟩
  rwa [List.getElem_take] at hu
theorem rec_drop {α : Type} {k : Nat} {f : α → List Value} {W : World} {g o n c : Nat} {l : List α} (h : RecAt k f W (.slice (some ⟨g,o,none⟩) n c) l) {m : Nat} (hm : m ≤ n) (c' : Nat) (hc : n - m ≤ c') : RecAt k f W (.slice (some ⟨g,o + m * k,none⟩) (n - m) c') (l.drop m) := by
 obtain ⟨a,cp,e,h2⟩ := h.ex
 have hn : l.length = n := by cases e; rfl
 have hl : (l.drop m).length = n - m := by rw [List.length_drop]; omega
 refine ⟨⟨some ⟨g,o + m * k,none⟩,c',by rw [hl],?_⟩,fun a n c e => by cases e; exact hc⟩
 rcases h2 with h2 | ⟨b,o',e',hb,hc2⟩
 ·left; rw [h2]; simp
 ·cases e
  cases e'
  refine .inr ⟨g,o + m * k,rfl,hb,fun i hi j u hu => ?_⟩
  have := hc2 (m + i) (by omega) j u (by rwa [List.getElem_drop] at hu)
  rwa [show o + (m + i) * k + j = o + m * k + i * k + j by rw [Nat.add_mul]; omega] at this
theorem rec_empty {α : Type} {k : Nat} {f : α → List Value} {W : World} {a : Option Addr} {c : Nat} {l : List α} (h : l = []) : RecAt k f W (.slice a 0 c) l := by
 subst h
 exact ⟨⟨a,c,rfl,.inl rfl⟩,fun a n c e => by cases e; exact Nat.zero_le _⟩
theorem SpIs.first {qs : List Lx} {m base : Nat} {W : World} {a b : Value} (h : SpIs qs m base W a b) (hm : m ≤ qs.length) : LxsAt W a (qs.take m) := by
 obtain ⟨v,ho,⟨rfl,rfl,rfl⟩ | ⟨g,c,rfl,rfl,rfl⟩⟩ := h
 ·have hn : qs.length = 0 := by
   rcases ho.2 with ⟨_,h⟩ | ⟨g,cap,cur,h,_⟩
   ·exact h
   ·cases h
  refine rec_empty ?_
  rw [List.eq_nil_of_length_eq_zero hn]; simp
 ·exact rec_take (rec_of_row lxL_len rfl ho) hm m (Nat.le_refl _)
theorem SpIs.second {qs : List Lx} {m base : Nat} {W : World} {a b : Value} (h : SpIs qs m base W a b) (hm : m ≤ qs.length) : LxsAt W b (qs.drop m) := by
 obtain ⟨v,ho,⟨rfl,rfl,rfl⟩ | ⟨g,c,rfl,rfl,rfl⟩⟩ := h
 ·have hn : qs.length = 0 := by
   rcases ho.2 with ⟨_,h⟩ | ⟨g,cap,cur,h,_⟩
   ·exact h
   ·cases h
  refine rec_empty ?_
  rw [List.eq_nil_of_length_eq_zero hn]; simp
 ·unfold cutV
  split
  ·rename_i e
   exact rec_empty (List.drop_eq_nil_iff.2 (by omega))
  ·have := rec_drop (rec_of_row lxL_len rfl ho) hm (qs.length - m) (Nat.le_refl _)
   rwa [Nat.zero_add] at this
def SpEnd (qs : List Lx) (h : Int) (w : World) (e : Ending) (w' : World) : Prop := ((h < 0 ∧ e = .returned (.tuple #[.slice none 0 0,.slice none 0 0,.int .i64 5])) ∨ (0 ≤ h ∧ ∃ a b,e = .returned (.tuple #[a,b,.int .i64 0]) ∧ SpIs qs (spN h qs.length) w.heap.size w' a b)) ∧ Below w.heap.size w w'
theorem spN_q {H n : Nat} : spN (H : Int) n = min (H / 10) n := by
 unfold spN
 rw [show ((H : Int) / 10).toNat = H / 10 by omega]
theorem quo10 {H : Nat} (hH : (H : Int) ≤ 9223372036854775807) : wrap64 ((H : Int).tdiv 10) = ((H / 10 : Nat) : Int) := by
 rw [Int.tdiv_eq_ediv_of_nonneg (by omega)]
 unfold wrap64
 omega
theorem nsplit_any (v : Value) (qs : List Lx) (h : Int) (hh : -9223372036854775808 ≤ h ∧ h ≤ 9223372036854775807) (w : World) (hl : qs.length ≤ 100000) (hA : LxsAt w v qs) : Calls Tryz.prog 18 #[v,.int .i64 h] w (SpEnd qs h w) := by
 have hcl := nclone_any v qs w hl hA
 obtain ⟨a,cap,rfl,h2⟩ := hA.ex
 by_cases h0 : h < 0
 ·have hend : Hid (SpEnd qs h w (.returned (.tuple #[.slice none 0 0,.slice none 0 0,.int .i64 5])) w) := ⟨.inl ⟨h0,rfl⟩,Below.refl _ _⟩
  generalize SpEnd qs h w = E at *
  clear hcl h2 hA hh
  go_enter Tryz.func18,Tryz.ntmps18
  go_wp2_with fail
  exact hend.out
 ·obtain ⟨H,rfl⟩ : ∃ H : Nat,h = H := ⟨h.toNat,by omega⟩
  have hend : Hid (∀ W v a b,W.ownsRow w.heap.size 47 7 v qs.length (qs.flatMap lxL) → ((v = .slice none 0 0 ∧ a = .slice none 0 0 ∧ b = .slice none 0 0) ∨ ∃ g c,v = .slice (some ⟨g,0,none⟩) qs.length c ∧ a = .slice (some ⟨g,0,none⟩) (min (H / 10) qs.length) (min (H / 10) qs.length) ∧ b = cutV g qs.length (min (H / 10) qs.length)) → Below w.heap.size w W → SpEnd qs H w (.returned (.tuple #[a,b,.int .i64 0])) W) := fun W v a b h1 h2 h3 => ⟨.inr ⟨by omega,a,b,rfl,v,h1,by rw [spN_q]; exact h2⟩,h3⟩
  have hq : Hid (wrap64 ((H : Int).tdiv 10) = ((H / 10 : Nat) : Int)) := quo10 hh.2
  have hend2 : Hid (∀ W v (m : Nat),m = min (H / 10) qs.length → W.ownsRow w.heap.size 47 7 v qs.length (qs.flatMap lxL) → Below w.heap.size w W → Calls Tryz.prog 32 #[v,.int .i64 m] W fun e W' => ∃ a b,e = .returned (.tuple #[a,b]) ∧ SpEnd qs H w (.returned (.tuple #[a,b,.int .i64 0])) W') := fun W v m hm ho hb => by
   have ho' := ho
   rcases ho.2 with ⟨rfl,hn⟩ | ⟨g,c,cur,rfl,hg0,hg,hnc,hcm,_⟩
   ·obtain rfl : m = 0 := by omega
    refine (ncut_nil W).mono ?_
    rintro e W' ⟨rfl,hb'⟩
    exact ⟨_,_,rfl,hend.out _ _ _ _ (ownsRow_below ho' hb') (.inl ⟨rfl,rfl,rfl⟩) (hb.trans (hb'.mono hb.size))⟩
   ·refine (ncut_any g qs.length c m (by omega) hnc (by unfold maxLen at hcm; omega) W).mono ?_
    rintro e W' ⟨rfl,hb'⟩
    subst hm
    exact ⟨_,_,rfl,hend.out _ _ _ _ (ownsRow_below ho' hb') (.inr ⟨g,c,rfl,rfl,rfl⟩) (hb.trans (hb'.mono hb.size))⟩
  have hcl' : Hid (Calls Tryz.prog 33 #[.slice a qs.length cap] w (ClEnd qs w)) := hcl
  have hdv : Hid ((H : Int) / 10 = ((H / 10 : Nat) : Int)) := (by omega : (H : Int) / 10 = ((H / 10 : Nat) : Int))
  clear hend hcl h2 hA hh
  generalize SpEnd qs H w = E at *
  by_cases hle : H / 10 ≤ qs.length
  ·have hle' : wrap64 ((H : Int).tdiv 10) ≤ (qs.length : Int) := by rw [hq.out]; omega
   go_enter Tryz.func18,Tryz.ntmps18
   go_wp2_with (go_at_call 33; refine hcl'.out.mono ?_; rintro e w1 ⟨⟨v,rfl,ho⟩,hb1⟩)
   rw [hdv.out]
   have hc := hend2.out w1 v (H / 10) (by omega) ho hb1
   clear hend2 ho hb1 hcl'
   refine hc.mono ?_
   rintro e w2 ⟨a2,b2,rfl,hE⟩
   clear hc
   generalize ((H / 10 : Nat) : Int) = q at *
   go_wp2_with fail
   exact hE
  ·have hle' : ¬ wrap64 ((H : Int).tdiv 10) ≤ (qs.length : Int) := by rw [hq.out]; omega
   go_enter Tryz.func18,Tryz.ntmps18
   go_wp2_with (go_at_call 33; refine hcl'.out.mono ?_; rintro e w1 ⟨⟨v,rfl,ho⟩,hb1⟩)
   have hc := hend2.out w1 v qs.length (by omega) ho hb1
   clear hend2 ho hb1 hcl'
   refine hc.mono ?_
   rintro e w2 ⟨a2,b2,rfl,hE⟩
   clear hc
   go_wp2_with fail
   exact hE
end Go.Proofs.YtlgcnbomfhmjiaaGreatDoor

namespace Go.Proofs.YtlgcnbomfhmjiaaGreatDoor
open Go.RowKit Go.Shelf

def xT : ByteArray := { data := #[97,98,32,99,100] }
theorem x_nt : ntE xT = 0 := by kernel_rfl
theorem x_ls : noteLs xT (ntS 27) = [⟨0,3,14,13,10,false,0⟩,⟨3,5,14,13,10,false,0⟩] := by kernel_rfl
def yT : ByteArray := { data := #[] }
theorem y_nt : ntE yT = 0 := by kernel_rfl
theorem y_ls : noteLs yT (ntS 20) = [⟨0,0,14,6,0,false,0⟩] := by kernel_rfl
def zT : ByteArray := { data := #[9] }
theorem z_nt : ntE zT = 4 := by kernel_rfl
end Go.Proofs.YtlgcnbomfhmjiaaGreatDoor

namespace Go.Proofs.YtlgcnbomfhmjiaaGreatDoor
open Go.RowKit Go.Shelf
set_option maxRecDepth 100000
set_option maxHeartbeats 4000000

theorem small12 (w : World) : Calls Tryz.prog 111 #[.int .i64 12] w fun e w' => e = .returned (.string { data := #[49,50] }) ∧ w' = w := by
 go_enter Tryz.func111,Tryz.ntmps111
 go_wp2_with fail
 go_ret
 exact ⟨rfl,rfl⟩
theorem fmt12 (w : World) : Calls Tryz.prog 76 #[.int .i64 12,.int .i64 10] w fun e w' => e = .returned (.string { data := #[49,50] }) ∧ w' = w := by
 have hend : Hid (∀ e,e = Ending.returned (.string { data := #[49,50] }) → (e = Ending.returned (.string { data := #[49,50] }) ∧ w = w)) := fun e h => ⟨h,rfl⟩
 go_enter Tryz.func76,Tryz.ntmps76
 go_wp2_with (go_at_call 111; refine (small12 w).mono ?_; rintro e w1 ⟨rfl,rfl⟩)
 go_ret
 exact ⟨rfl,rfl⟩
theorem ito12 (w : World) : Calls Tryz.prog 49 #[.int .i64 12] w fun e w' => e = .returned (.string { data := #[49,50] }) ∧ w' = w := by
 have hend : Hid (∀ e,e = Ending.returned (.string { data := #[49,50] }) → (e = Ending.returned (.string { data := #[49,50] }) ∧ w = w)) := fun e h => ⟨h,rfl⟩
 go_enter Tryz.func49,Tryz.ntmps49
 go_wp2_with (go_at_call 76; refine (fmt12 w).mono ?_; rintro e w1 ⟨rfl,rfl⟩)
 go_ret
 exact ⟨rfl,rfl⟩
theorem itoa12 (w : World) : Calls Tryz.prog 27 #[.int .i64 12] w fun e w' => e = .returned (.string { data := #[49,50] }) ∧ w' = w := by
 have hend : Hid (∀ e,e = Ending.returned (.string { data := #[49,50] }) → (e = Ending.returned (.string { data := #[49,50] }) ∧ w = w)) := fun e h => ⟨h,rfl⟩
 go_enter Tryz.func27,Tryz.ntmps27
 go_wp2_with (go_at_call 49; refine (ito12 w).mono ?_; rintro e w1 ⟨rfl,rfl⟩)
 go_ret
 exact ⟨rfl,rfl⟩
theorem mark12 (w : World) : Calls Tryz.prog 10 #[.int .i64 12] w fun e w' => e = .returned (.tuple #[(.string { data := #[49,50] }),.int .i64 0]) ∧ w' = w := by
 go_enter Tryz.func10,Tryz.ntmps10
 go_wp2_with (go_at_call 27; refine (itoa12 w).mono ?_; rintro e w1 ⟨rfl,rfl⟩)
 go_ret2
 exact ⟨rfl,rfl⟩
theorem mark0 (w : World) : Calls Tryz.prog 10 #[.int .i64 0] w fun e w' => e = .returned (.tuple #[.string { data := #[] },.int .i64 5]) ∧ w' = w := by
 go_enter Tryz.func10,Tryz.ntmps10
 go_wp2_with fail
 go_ret2
 exact ⟨rfl,rfl⟩
theorem nheight_any (a : Option Addr) (n c : Nat) (hn : n ≤ 100000) (w : World) : Calls Tryz.prog 20 #[.slice a n c] w fun e w' => e = .returned (.int .i64 (10 * (n : Int))) ∧ w' = w := by
 have h1 : ¬ 9223372036854775807 < n := by omega
 go_enter Tryz.func20,Tryz.ntmps20
 go_wp2_with fail
 go_ret
 refine ⟨?_,rfl⟩
 have e : (n : Int) * 10 = 10 * n := by omega
 simp [e]
theorem nparts_any (v : Value) (qs : List Lx) (h : Int) (hh : 0 ≤ h ∧ h ≤ 9223372036854775807) (x y : Nat) (w : World) (hl : qs.length ≤ 100000) (hA : LxsAt w v qs) (hx : spN h qs.length = x) (hy : qs.length - x = y) : Calls Tryz.prog 22 #[v,.int .i64 h,.int .i64 x,.int .i64 y] w fun e w' => e = .returned (.bool true) ∧ Below w.heap.size w w' := by
 have hs : Hid (Calls Tryz.prog 18 #[v,.int .i64 h] w fun e w' => ∃ a b c d,e = .returned (.tuple #[.slice a x c,.slice b y d,.int .i64 0]) ∧ Below w.heap.size w w') := by
  refine (nsplit_any v qs h (by omega) w hl hA).mono ?_
  rintro e w' ⟨⟨h0,_⟩ | ⟨_,a,b,rfl,hS⟩,hb⟩
  ·omega
  ·have h1 := hS.first (spN_le _ _)
   have h2 := hS.second (spN_le _ _)
   obtain ⟨a1,c1,rfl,-⟩ := h1.ex
   obtain ⟨a2,c2,rfl,-⟩ := h2.ex
   refine ⟨a1,a2,c1,c2,?_,hb⟩
   have e1 : (qs.take (spN h qs.length)).length = x := by rw [List.length_take]; have := spN_le h qs.length; omega
   have e2 : (qs.drop (spN h qs.length)).length = y := by rw [List.length_drop]; omega
   rw [e1,e2]
 clear hA hx hy hl
 go_enter Tryz.func22,Tryz.ntmps22
 go_wp2_with (go_at_call 18; refine hs.out.mono ?_; rintro e w1 ⟨a,b,c,d,rfl,hb⟩)
 go_ret
 exact ⟨rfl,hb⟩
def xL2 : List Lx := [⟨0,3,14,13,10,false,0⟩,⟨3,5,14,13,10,false,0⟩]
theorem x_lay (w : World) : Calls Tryz.prog 8 #[.string xT,.int .i64 27] w fun e w' => ∃ g,w.heap.size ≤ g ∧ e = .returned (.tuple #[.slice (some ⟨g,0,none⟩) 2 2,.int .i64 0]) ∧ LxsAt w' (.slice (some ⟨g,0,none⟩) 2 2) [⟨0,3,14,13,10,false,0⟩,⟨3,5,14,13,10,false,0⟩] ∧ Below w.heap.size w w' := by
 refine (nlay_any xT (by decide) 27 w).mono ?_
 rintro e w' ⟨⟨h,_⟩ | ⟨_,h,_⟩ | ⟨_,_,g,hg,rfl,hu⟩,hb⟩
 ·exact absurd x_nt h
 ·exact absurd (by omega) h
 ·rw [x_ls] at hu ⊢
  exact ⟨g,hg,rfl,hu,hb⟩
theorem y_lay (w : World) : Calls Tryz.prog 8 #[.string yT,.int .i64 20] w fun e w' => ∃ g,w.heap.size ≤ g ∧ e = .returned (.tuple #[.slice (some ⟨g,0,none⟩) 1 1,.int .i64 0]) ∧ LxsAt w' (.slice (some ⟨g,0,none⟩) 1 1) [⟨0,0,14,6,0,false,0⟩] ∧ Below w.heap.size w w' := by
 refine (nlay_any yT (by decide) 20 w).mono ?_
 rintro e w' ⟨⟨h,_⟩ | ⟨_,h,_⟩ | ⟨_,_,g,hg,rfl,hu⟩,hb⟩
 ·exact absurd y_nt h
 ·exact absurd (by omega) h
 ·rw [y_ls] at hu ⊢
  exact ⟨g,hg,rfl,hu,hb⟩
theorem z_lay (w : World) : Calls Tryz.prog 8 #[.string zT,.int .i64 20] w fun e w' => e = .returned (.tuple #[.slice none 0 0,.int .i64 4]) ∧ Below w.heap.size w w' := by
 refine (nlay_any zT (by decide) 20 w).mono ?_
 rintro e w' ⟨⟨_,rfl⟩ | ⟨h,_⟩ | ⟨h,_⟩,hb⟩
 ·rw [z_nt]; exact ⟨rfl,hb⟩
 ·rw [z_nt] at h; cases h
 ·rw [z_nt] at h; cases h
theorem awake17 (w : World) : Calls Tryz.prog 17 #[] w fun e w' => e = .returned (.bool true) ∧ Below w.heap.size w w' := by
 have hx := x_lay w
 go_enter Tryz.func17,Tryz.ntmps17
 go_wp2_with (go_at_call 8; refine hx.mono ?_; rintro e w1 ⟨g,hg,rfl,hu,hb⟩)
 have hB := (Below.refl w1.heap.size w1).alloc (Nat.le_refl _) (.cells (xL2.flatMap lxL).toArray 47)
 have hr := rec_new (k := 7) lxL_len w1 47 xL2
 have hu2 : LxsAt _ _ xL2 := hu.below hB (Nat.le_refl _)
 refine (sameLines_yes _ _ xL2 _ (by decide) hu2 hr).mono ?_
 rintro e w2 ⟨rfl,hb2⟩
 have hfin := hb.trans ((hB.trans (hb2.mono hB.size)).mono hb.size)
 clear hu hu2 hr hB hb2 hb hx
 go_wp2_with fail
 go_ret
 exact ⟨rfl,hfin⟩
def yL1 : List Lx := [⟨0,0,14,6,0,false,0⟩]
theorem known5 (w : World) : Calls Tryz.prog 5 #[] w fun e w' => e = .returned (.bool true) ∧ Below w.heap.size w w' := by
 have hx := x_lay w
 go_enter Tryz.func5,Tryz.ntmps5
 go_wp2_with fail
 refine hx.mono ?_
 rintro e w1 ⟨g,hg,rfl,hu,hb⟩
 clear hx
 go_wp2_with fail
 refine (mark12 _).mono ?_
 rintro e w2 ⟨rfl,rfl⟩
 go_wp2_with fail
 refine (mark0 _).mono ?_
 rintro e w3 ⟨rfl,rfl⟩
 go_wp2_with fail
 refine (z_lay _).mono ?_
 rintro e w4 ⟨rfl,hb4⟩
 go_wp2_with fail
 refine (y_lay w4).mono ?_
 rintro e w5 ⟨g2,hg2,rfl,hu5,hb5⟩
 have hB4 := hb.trans (hb4.mono hb.size)
 have hB5 := hB4.trans (hb5.mono hB4.size)
 have hu5' := (hu.below hb4 (Nat.le_refl _)).below hb5 (Nat.le_refl _)
 clear hb hb4 hb5 hB4 hu
 go_wp2_with fail
 refine (awake17 w5).mono ?_
 rintro e w6 ⟨rfl,hb6⟩
 have hB6 := hB5.trans (hb6.mono hB5.size)
 have hu6 := hu5'.below hb6 (Nat.le_refl _)
 have hv6 := hu5.below hb6 (Nat.le_refl _)
 clear hb6 hB5 hu5 hu5'
 go_wp2_with fail
 refine (nheight_any _ _ _ (by decide) _).mono ?_
 rintro e w7 ⟨rfl,rfl⟩
 go_wp2_with fail
 refine (nparts_any _ xL2 10 (by omega) 1 1 w7 (by decide) hu6 rfl rfl).mono ?_
 rintro e u7 ⟨rfl,hb7⟩
 have hB7 := hB6.trans (hb7.mono hB6.size)
 have hu7 := hu6.below hb7 (Nat.le_refl _)
 have hv7 := hv6.below hb7 (Nat.le_refl _)
 clear hb7 hB6 hu6 hv6
 go_wp2_with fail
 refine (nparts_any _ xL2 19 (by omega) 1 1 u7 (by decide) hu7 rfl rfl).mono ?_
 rintro e u8 ⟨rfl,hb8⟩
 have hB8 := hB7.trans (hb8.mono hB7.size)
 have hu8 := hu7.below hb8 (Nat.le_refl _)
 have hv8 := hv7.below hb8 (Nat.le_refl _)
 clear hb8 hB7 hu7 hv7
 go_wp2_with fail
 refine (nparts_any _ xL2 20 (by omega) 2 0 u8 (by decide) hu8 rfl rfl).mono ?_
 rintro e u9 ⟨rfl,hb9⟩
 have hB9 := hB8.trans (hb9.mono hB8.size)
 have hu9 := hu8.below hb9 (Nat.le_refl _)
 have hv9 := hv8.below hb9 (Nat.le_refl _)
 clear hb9 hB8 hu8 hv8
 go_wp2_with fail
 have hB := (Below.refl u9.heap.size u9).alloc (Nat.le_refl _) (.cells (yL1.flatMap lxL).toArray 47)
 have hr := rec_new (k := 7) lxL_len u9 47 yL1
 have hv10 : LxsAt _ _ yL1 := hv9.below hB (Nat.le_refl _)
 refine (sameLines_yes _ _ yL1 _ (by decide) hv10 hr).mono ?_
 rintro e w10 ⟨rfl,hb10⟩
 have hfin := hB9.trans ((hB.trans (hb10.mono hB.size)).mono hB9.size)
 clear hu9 hv9 hr hB hb10 hB9 hv10
 go_wp2_with fail
 go_ret
 exact ⟨rfl,hfin⟩
end Go.Proofs.YtlgcnbomfhmjiaaGreatDoor
