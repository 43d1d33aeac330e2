/-
  What is proved here: what stands while rows are gathered: each row's data lies apart.
  What is proved here: the rooms of a table's columns are slots that may be; what Rows answers, as values.
  What is proved here: what Rows answers of any table.
  What is proved here: which lines of a cell stand between two heights.
  What is proved here: a round of Between: what stands of a cell.
  What is proved here: what Between answers of any row.
-/
import Derived.Test.YtaphggjakaghjaaGreatDoorG33
import Derived.Test.YtaphggjakaghjaaGreatDoorG28
namespace Go.Proofs.YtaphggjakaghjaaGreatDoor
open Go.RowKit Go.Shelf

structure CeIn (S : Nat → Prop) (W : World) (c : Cel) : Prop where
 ex : ∃ g,S g ∧ c.v = .slice (some ⟨g,0,none⟩) c.ls.length c.ls.length ∧ LxsAt W (.slice (some ⟨g,0,none⟩) c.ls.length c.ls.length) c.ls
structure RwIn (S : Nat → Prop) (W : World) (r : Rw) : Prop where
 sp : ∃ base,W.ownsRow base 3 1 r.sv r.sp.length (r.sp.flatMap inL) ∧ ∀ g,r.sv.ownBlock = some g → S g
 cv : ∃ T,S T ∧ r.cv = .slice (some ⟨T,0,none⟩) r.cs.length r.cs.length ∧ RB 3 ceL W T r.cs
 cs : ∀ c ∈ r.cs,CeIn S W c
theorem RwIn.turns {S X : Nat → Prop} {W W' : World} {r : Rw} (h : RwIn S W r) (ht : Turns X W W') (hX : ∀ g,S g → ¬ X g) : RwIn S W' r := by
 obtain ⟨base,hs,hS⟩ := h.sp
 obtain ⟨T,hT,hv,hr⟩ := h.cv
 refine ⟨⟨base,ownsRow_turns hs ht (fun g hg => hX g (hS g hg)),hS⟩,⟨T,hT,hv,hr.turns ht (hX T hT)⟩,fun c hc => ?_⟩
 obtain ⟨g,hg,hv,hl⟩ := (h.cs c hc).ex
 exact ⟨g,hg,hv,rec_turns hl ht (hX g hg)⟩
theorem RwIn.mono {S S' : Nat → Prop} {W : World} {r : Rw} (h : RwIn S W r) (hS : ∀ g,S g → S' g) : RwIn S' W r := by
 obtain ⟨base,hs,h1⟩ := h.sp
 obtain ⟨T,hT,hv,hr⟩ := h.cv
 refine ⟨⟨base,hs,fun g hg => hS g (h1 g hg)⟩,⟨T,hS T hT,hv,hr⟩,fun c hc => ?_⟩
 obtain ⟨g,hg,hv,hl⟩ := (h.cs c hc).ex
 exact ⟨g,hS g hg,hv,hl⟩
theorem owns_lo {W : World} {base lo : Nat} {e : TypeId} {size : Nat} {v : Value} {n : Nat} {xs : List Value} (h : W.ownsRow base e size v n xs) (hl : ∀ g,v.ownBlock = some g → lo ≤ g) : W.ownsRow lo e size v n xs := by
 refine ⟨h.1,?_⟩
 rcases h.2 with hn | ⟨g,cap,cur,rfl,hb',r⟩
 ·exact .inl hn
 ·exact .inr ⟨g,cap,cur,rfl,hl g rfl,r⟩
theorem RwIn.at {lo : Nat} {W : World} {r : Rw} (h : RwIn (fun g => lo ≤ g) W r) : RwAt lo W r := by
 obtain ⟨base,hs,h1⟩ := h.sp
 obtain ⟨T,hT,hv,hr⟩ := h.cv
 refine ⟨owns_lo hs h1,⟨T,hT,hv,hr⟩,fun c hc => ?_⟩
 obtain ⟨g,hg,hv,hl⟩ := (h.cs c hc).ex
 exact ⟨g,hg,hv,hl⟩
theorem RwAt.in {lo : Nat} {W : World} {r : Rw} (h : RwAt lo W r) (hp : ∀ c ∈ r.cs,0 < c.ls.length) : RwIn (fun g => lo ≤ g ∧ g < W.heap.size) W r := by
 obtain ⟨T,hT,hv,hr⟩ := h.cv
 refine ⟨⟨lo,h.sp,fun g hg => h.sp.lt g hg⟩,⟨T,⟨hT,hr.lt⟩,hv,hr⟩,fun c hc => ?_⟩
 obtain ⟨g,hg,hv,hl⟩ := (h.cs c hc).ex
 obtain ⟨b,o,e,hb,_⟩ := RecAt.range hl (hp c hc)
 cases e
 exact ⟨g,⟨hg,hb⟩,hv,hl⟩
theorem rwL_one {lo : Nat} {W : World} {r : Rw} (h : RwAt lo W r) : ∀ u ∈ rwL r,u.oneCell' = true := by
 intro u hu
 obtain ⟨T,_,hv,_⟩ := h.cv
 obtain ⟨a,c,hs⟩ := owns_slice h.sp
 simp only [rwL,List.mem_cons,List.not_mem_nil,or_false] at hu
 rcases hu with rfl | rfl | rfl
 ·rfl
 ·rw [hs]; rfl
 ·rw [hv]; rfl
theorem el39 : ElOk 27 39 3 56 := ElOk.of Tryz.underlying27 (by kernel_rfl)

structure RI (w4 : World) (U : Nat) (ws : List Int) (l : List ByteArray) (c j : Nat) (X : Nat → Prop) (W : World) : Prop where
 base : Base w4 (fun k => k = U) X W
 ex : ∃ (u : Value) (rs : List Rw),W.heap[U]? = some (.cells #[u] 27) ∧ W.ownsRow w4.heap.size 39 3 u rs.length (rs.flatMap rwL) ∧ (∀ g,u.ownBlock = some g → ¬ X g) ∧ rs.length = j ∧
  (∀ i (h : i < rs.length),RwIs ws (ckT l c i) rs[i]) ∧ ∀ r ∈ rs,RwIn (fun g => (w4.heap.size ≤ g ∧ g < W.heap.size) ∧ ¬ X g ∧ u.ownBlock ≠ some g) W r
theorem steady_RI {w4 : World} {U : Nat} (hU : U < w4.heap.size) (ws : List Int) (l : List ByteArray) (c : Nat) : Steady (RI w4 U ws l c) := fun j X X' W W' hs ht hx => by
 obtain ⟨hb,u,rs,hu,hr,hg,hj,hi,hn⟩ := hs
 refine ⟨hb.step ht hx,u,rs,(hb.keep ht hU).trans hu,ownsRow_turns hr ht hg,fun g h h' => ?_,hj,hi,fun r hr' => ?_⟩
 ·have := (hr.lt g h).2
  exact (hx g h').elim (hg g h) (fun h => by omega)
 ·refine ((hn r hr').turns ht (fun g h => h.2.1)).mono (fun g h => ⟨⟨h.1.1,Nat.lt_of_lt_of_le h.1.2 ht.size⟩,fun h' => ?_,h.2.2⟩)
  exact (hx g h').elim h.2.1 (fun h2 => by have := h.1.2; omega)
theorem RI.start (w4 : World) (U : Nat) (ws : List Int) (l : List ByteArray) (c : Nat) (hU : w4.heap[U]? = some (.cells #[.slice none 0 0] 27)) : RI w4 U ws l c 0 Noth w4 := by
 refine ⟨Base.start _ _,.slice none 0 0,[],hU,World.ownsRow_nil _ _ _ _,?_,rfl,?_,?_⟩
 ·intro g hg; cases hg
 ·intro i h; exact absurd h (Nat.not_lt_zero i)
 ·intro r hr; cases hr
theorem RI.step {w4 : World} {U : Nat} {ws : List Int} {l : List ByteArray} {c j : Nat} {X : Nat → Prop} {W : World} (hU : U < w4.heap.size) (hj : j ≤ 64) (hb : Base w4 (fun k => k = U) X W) {u : Value} {rs : List Rw} (hu : W.heap[U]? = some (.cells #[u] 27)) (hrow : W.ownsRow w4.heap.size 39 3 u rs.length (rs.flatMap rwL))
  (hg : ∀ g,u.ownBlock = some g → ¬ X g) (hl : rs.length = j) (hi : ∀ i (h : i < rs.length),RwIs ws (ckT l c i) rs[i]) (hn : ∀ r ∈ rs,RwIn (fun g => (w4.heap.size ≤ g ∧ g < W.heap.size) ∧ ¬ X g ∧ u.ownBlock ≠ some g) W r)
  {w1 : World} (b1 : Below W.heap.size W w1) {r : Rw} (hr : RwAt W.heap.size w1 r) (his : RwIs ws (ckT l c j) r) (hp : ∀ q ∈ r.cs,0 < q.ls.length) :
  ∃ (a' : Option Addr) (n' c' : Nat) (w2 : World),(Builtin.append_ #[27,27] 27 #[u,.slice (some ⟨w1.heap.size,0,none⟩) 1 1]).run Tryz.prog (w1.alloc (.cells (rwL r).toArray 39)) = .ok (.slice a' n' c') w2 ∧ w2.cell? ⟨U,0,none⟩ = some u ∧ w2.frozen? ⟨U,0,none⟩ = false ∧
   Keeps X W (w2.setCell ⟨U,0,none⟩ (.slice a' n' c')) ∧ RI w4 U ws l c (j + 1) X (w2.setCell ⟨U,0,none⟩ (.slice a' n' c')) := by
 obtain ⟨hut,i,z,hi0,hz0,hz1,hz2,hz3⟩ := el39
 have hs0 := hb.turns.size
 have hs1 := b1.size
 have hUW : U < W.heap.size := by omega
 have hb1 := hb.step ((Turns.of_below b1).mono (fun _ h => h.elim)) (fun _ h => .inl h)
 have hu1 := (b1.block U hUW).trans hu
 have hrow1 := ownsRow_below hrow b1
 obtain ⟨v',w2,hrun,r1,r2,r3⟩ := run_append_where (P := Tryz.prog) (w1.alloc (.cells (rwL r).toArray 39)) w4.heap.size 27 27 39 i z 3 56 hut hi0 hz0 hz1 hz2 hz3 (by omega) u rs.length (rs.flatMap rwL) (hrow1.alloc _) ⟨w1.heap.size,0,none⟩ 1 1 (rwL r) (by rw [rwL_len]) (rec_cells rwL_len w1 39 r) (rwL_one hr) (by unfold maxLen; omega) (by omega) (by simp; omega)
 obtain ⟨a',c',rfl⟩ := owns_slice r1
 obtain ⟨hv1,q1,q2,q3,q4,q5⟩ := append_step hb1 hU hu1 (by decide) hrow1 hg r1 r2 r3
 have hlu : ∀ g,u.ownBlock = some g → g < W.heap.size := fun g h => (hrow.lt g h).2
 have hT2 : Turns (fun k => k = U ∨ u.ownBlock = some k) w1 (w2.setCell ⟨U,0,none⟩ (.slice a' (rs.length + 1) c')) := by
  have t0 : Turns (fun k => k = U ∨ u.ownBlock = some k) w1 (w1.alloc (.cells (rwL r).toArray 39)) := Turns.alloc _ _ _
  have t1 : Turns (fun k => k = U ∨ u.ownBlock = some k) (w1.alloc (.cells (rwL r).toArray 39)) w2 := ⟨r2.os,r2.tape,r2.output,r2.size,fun k hk hX => r2.block k hk (fun e => hX (.inr e.symm))⟩
  exact (t0.trans t1).trans (Turns.setCell w2 (p := ⟨U,0,none⟩) (.inl rfl) _)
 have hsz := hT2.size
 have hse : (w2.setCell ⟨U,0,none⟩ (.slice a' (rs.length + 1) c')).heap.size = w2.heap.size := by simp
 have hsa : (w1.alloc (.cells (rwL r).toArray 39)).heap.size = w1.heap.size + 1 := World.size_alloc _ _
 have hnew : ∀ g,g < w1.heap.size → u.ownBlock ≠ some g → (Value.slice a' (rs.length + 1) c').ownBlock ≠ some g := fun g hlt hne e => by
  rcases r3 with h | h
  ·exact hne (h.symm.trans e)
  ·have := h g e; omega
 refine ⟨a',rs.length + 1,c',w2,hrun,hv1.cell,hv1.frozen,?_,q2,.slice a' (rs.length + 1) c',rs ++ [r],q3,?_,q5,by rw [List.length_append,hl]; rfl,fun k hk => ?_,fun q hq => ?_⟩
 ·exact (Keeps.of_turns (Turns.of_below b1) (fun _ _ h => h)).trans q1
 ·rw [List.length_append,List.flatMap_append]
  have e1 : [r].flatMap rwL = rwL r := by simp
  rw [e1]
  exact q4
 ·by_cases e : k = rs.length
  ·subst e
   have e2 : (rs ++ [r])[rs.length]'hk = r := by rw [List.getElem_append_right (Nat.le_refl _)]; simp
   rw [e2,hl]
   exact his
  ·have hlt : k < rs.length := by rw [List.length_append] at hk; simp at hk; omega
   have e2 : (rs ++ [r])[k]'hk = rs[k] := List.getElem_append_left hlt
   rw [e2]
   exact hi k hlt
 ·rw [List.mem_append] at hq
  rcases hq with hq | hq
  ·have h1 := ((hn q hq).turns ((Turns.of_below b1).mono (Y := Noth) (fun _ h => h)) (fun _ _ h => h)).turns hT2 (fun g h h' => by
    rcases h' with h' | h'
    ·have := h.1.1; omega
    ·exact h.2.2 h')
   exact h1.mono (fun g h => ⟨⟨h.1.1,by have := h.1.2; omega⟩,h.2.1,hnew g (by have := h.1.2; omega) h.2.2⟩)
  ·rw [List.mem_singleton] at hq
   subst hq
   have h1 := (hr.in hp).turns hT2 (fun g h h' => by
    rcases h' with h' | h'
    ·omega
    ·have := hlu g h'; omega)
   exact h1.mono (fun g h => ⟨⟨by omega,by omega⟩,fun hx => by have := (hb.young g hx).2; omega,hnew g h.2 (fun e => by have := hlu g e; omega)⟩)
end Go.Proofs.YtaphggjakaghjaaGreatDoor

namespace Go.Proofs.YtaphggjakaghjaaGreatDoor
open Go.RowKit Go.Shelf

theorem smI_mono {l : List Int} {n : Nat} (h : ∀ k,k < n → 0 ≤ l.getD k 0) : ∀ d k,k + d ≤ n → smI l k ≤ smI l (k + d)
 | 0,_,_ => Int.le_refl _
 | d + 1,k,hk => by
  have ih := smI_mono h d k (by omega)
  have e : smI l (k + (d + 1)) = smI l (k + d) + l.getD (k + d) 0 := smI_succ l (k + d)
  have := h (k + d) (by omega)
  omega
theorem room_ok {n : Nat} {l : List ByteArray} (hT : Tab n l) {q : Int} (hq : 0 ≤ q ∧ q ≤ 4095) {i : Nat} (hi : i < n) : okS (roS (smI (wdL n l q) i) ((wdL n l q).getD i 0)) = true := by
 have F := fit_of hT hq
 have hr := smI_rng F.lo i (by omega)
 have hl := F.lo i hi
 have hx : smI (wdL n l q) i + 2 ≤ 4095 := by
  by_cases ht : q < sumS n l
  ·have e : wdL n l q = evL n q := if_pos ht
   rw [e]
   unfold evL
   rw [smI_map _ _ _ (by omega)]
   have e2 : tot (evF n q) i = gv q n i - gv q n 0 := tot_tele (fun t : Nat => gv q n t) i
   rw [e2,gv_zero]
   obtain ⟨n1,n2⟩ := hT.hc
   unfold gv
   have hm : max (n : Int) 1 = (n : Int) := by omega
   rw [hm]
   have h1 : q * (i : Int) ≤ 4095 * ((n : Int) - 1) := Int.mul_le_mul hq.2 (by omega) (by omega) (by omega)
   have h2 : q * (i : Int) / (n : Int) < 4094 := Int.ediv_lt_of_lt_mul (by omega) (by omega)
   omega
  ·have h1 := (F.ins ht i hi).1
   have e1 : (leS n l n).getD i 0 = (colI n l i).s := getD_map hi
   have h2 := hT.ha.col n i
   have h3 : smI (wdL n l q) (i + 1) ≤ smI (wdL n l q) n := by
    have := smI_mono (l := wdL n l q) (n := n) (fun k hk => (F.lo k hk).1) (n - (i + 1)) (i + 1) (by omega)
    rwa [show i + 1 + (n - (i + 1)) = n by omega] at this
   have h4 := smI_succ (wdL n l q) i
   have h5 := F.le
   rw [e1] at h1
   omega
 refine decide_eq_true ?_
 show (0 ≤ smI (wdL n l q) i + 2 ∧ smI (wdL n l q) i + 2 ≤ 4095) ∧ 0 ≤ max ((wdL n l q).getD i 0 - 4) 0 ∧ max ((wdL n l q).getD i 0 - 4) 0 ≤ 4095
 omega
structure RwsAt (lo : Nat) (W : World) (u : Value) (rs : List Rw) : Prop where
 row : W.ownsRow lo 39 3 u rs.length (rs.flatMap rwL)
 rs : ∀ r ∈ rs,RwAt lo W r
structure RwsIs (n : Nat) (l : List ByteArray) (ws : List Int) (rs : List Rw) : Prop where
 num : rs.length * n = l.length
 rs : ∀ i (h : i < rs.length),RwIs ws (ckT l n i) rs[i]
def RowsEnd (c : Int) (l : List ByteArray) (q : Int) (w : World) (e : Ending) (w' : World) : Prop :=
 Below w.heap.size w w' ∧
 ((chkG c l ≠ 0 ∧ e = .returned (.tuple #[.slice none 0 0,.int .i64 (chkG c l)])) ∨
 (chkG c l = 0 ∧ ¬ (0 ≤ q ∧ q ≤ 4095) ∧ e = .returned (.tuple #[.slice none 0 0,.int .i64 5])) ∨
 (chkG c l = 0 ∧ (0 ≤ q ∧ q ≤ 4095) ∧ ∃ u rs,e = .returned (.tuple #[u,.int .i64 0]) ∧ RwsAt w.heap.size w' u rs ∧ RwsIs c.toNat l (wdL c.toNat l q) rs))
end Go.Proofs.YtaphggjakaghjaaGreatDoor

namespace Go.Proofs.YtaphggjakaghjaaGreatDoor
open Go.RowKit Go.Shelf
set_option maxRecDepth 100000
set_option maxHeartbeats 8000000
attribute [local go_sem] Oper.semAt_some wide_fn wide_depth

theorem steady_eq (a' : Act) (f : Nat → Act) : Steady (fun i _ _ => a' = f i) := fun _ _ _ _ _ hs _ _ => hs
theorem RwIs.pos {ws : List Int} {ts : List ByteArray} {r : Rw} (h : RwIs ws ts r) (ht : ∀ t ∈ ts,cellB t = true) : ∀ q ∈ r.cs,0 < q.ls.length := fun q hq => by
 obtain ⟨i,hi,rfl⟩ := List.getElem_of_mem hq
 rw [(h.cs i hi).ls]
 exact (ceI_len ht (by have := h.n; omega)).1
theorem ck_cells {l : List ByteArray} {c i : Nat} (h : ∀ t ∈ l,cellB t = true) : ∀ t ∈ ckT l c i,cellB t = true := fun t ht => h t (List.mem_of_mem_drop (List.mem_of_mem_take ht))
theorem chk_all {c : Int} {l : List ByteArray} (h : chkG c l = 0) : ∀ t ∈ l,cellB t = true := by
 unfold chkG at h
 split at h
 ·rename_i hc
  exact fun t ht => List.all_eq_true.1 hc.2.2.2 t ht
 ·cases h
theorem rows_yes (n : Nat) (v : Value) (l : List ByteArray) (q : Int) (hsz : ∀ t ∈ l,t.size ≤ 9223372036854775807) (w : World) (hS : StrsAt w v l) (hz : chkG n l = 0) (hq : 0 ≤ q ∧ q ≤ 4095) :
  Calls Tryz.prog 9 #[.agg #[.int .i64 n,v],.int .i64 q] w (RowsEnd n l q w) := by
 have hcb := chk_all hz
 obtain ⟨n',hn',hn1,hl1,hd1,hC1⟩ := chk_ok hz
 obtain rfl : n = n' := by omega
 have hT : Tab n l := ⟨hn1,hl1,hd1,hC1⟩
 have hfit := fit_of hT hq
 have hroom := fun i (hi : i < n) => room_ok hT hq hi
 obtain ⟨b,o,cap,rfl,hbl,hcap⟩ : ∃ b o cap,v = .slice (some ⟨b,o,none⟩) l.length cap ∧ b < w.heap.size ∧ l.length ≤ cap := by
  obtain ⟨a,cap,h1,h2⟩ := hS.ex
  have hle := hS.le _ _ _ h1
  rcases h2 with h2 | ⟨b,o,rfl,hlt,_⟩
  ·subst h2; simp at hl1
  ·exact ⟨b,o,cap,h1,hlt,hle⟩
 have hB0 := (Below.refl w.heap.size w).alloc (Nat.le_refl _) (.cells #[.int .i64 n,.slice (some ⟨b,o,none⟩) l.length cap] 24)
 have hS0 := hS.below hB0 (Nat.le_refl _)
 have hbx : (w.alloc (.cells #[.int .i64 n,.slice (some ⟨b,o,none⟩) l.length cap] 24)).heap[w.heap.size]? = some (.cells #[.int .i64 n,.slice (some ⟨b,o,none⟩) l.length cap] 24) := World.alloc_heap_new w _
 have c0 : (w.alloc (.cells #[.int .i64 n,.slice (some ⟨b,o,none⟩) l.length cap] 24)).cell? ⟨w.heap.size,0,none⟩ = some (.int .i64 n) := by rw [Lib.cell_of_heap hbx]; rfl
 have c1 : (w.alloc (.cells #[.int .i64 n,.slice (some ⟨b,o,none⟩) l.length cap] 24)).cell? ⟨w.heap.size,1,none⟩ = some (.slice (some ⟨b,o,none⟩) l.length cap) := by rw [Lib.cell_of_heap hbx]; rfl
 have hlt0 : w.heap.size < (w.alloc (.cells #[.int .i64 n,.slice (some ⟨b,o,none⟩) l.length cap] 24)).heap.size := by simp
 obtain ⟨ws,hws⟩ : ∃ ws,wdL n l q = ws := ⟨_,rfl⟩
 rw [hws] at hfit hroom
 have hwl : ws.length = n := hfit.hl
 have hwi : Hid (Calls Tryz.prog 26 #[.agg #[.int .i64 n,.slice (some ⟨b,o,none⟩) l.length cap],.int .i64 q] (w.alloc (.cells #[.int .i64 n,.slice (some ⟨b,o,none⟩) l.length cap] 24)) fun e w' => ∃ (gw : Nat) (tb : Bool),e = .returned (.tuple #[.slice (some ⟨gw,0,none⟩) n n,.bool tb,.int .i64 0]) ∧ IBk w' gw ws ∧ Below (w.alloc (.cells #[.int .i64 n,.slice (some ⟨b,o,none⟩) l.length cap] 24)).heap.size (w.alloc (.cells #[.int .i64 n,.slice (some ⟨b,o,none⟩) l.length cap] 24)) w') := by
  refine (widths_any n _ l q (by omega) hsz _ hS0).mono ?_
  rintro e w' ⟨hb,(⟨h1,_⟩ | ⟨_,h1,_⟩ | ⟨_,_,g,_,rfl,hI⟩)⟩
  ·exact absurd hz h1
  ·exact absurd hq h1
  ·rw [show (n : Int).toNat = n from rfl,hws] at hI
   exact ⟨g,_,rfl,hI,hb⟩
 have hfin : Hid (∀ e W u (rs : List Rw),e = .returned (.tuple #[u,.int .i64 0]) → Below w.heap.size w W → RwsAt w.heap.size W u rs → rs.length = l.length / n → (∀ i (h : i < rs.length),RwIs ws (ckT l n i) rs[i]) → RowsEnd n l q w e W) := fun e W u rs he h1 h2 h3 h4 =>
  ⟨h1,.inr (.inr ⟨hz,hq,u,rs,he,h2,by rw [show (n : Int).toNat = n from rfl,h3]; exact Nat.div_mul_cancel (Nat.dvd_of_mod_eq_zero hd1),by rw [show (n : Int).toNat = n from rfl,hws]; exact h4⟩)⟩
 have hpure : Hid ((∀ t ∈ l,cellB t = true) ∧ (∀ k,k < ws.length → 0 ≤ ws.getD k 0 ∧ ws.getD k 0 ≤ 4095) ∧ (∀ i,i < ws.length → okS (roS (smI ws i) (ws.getD i 0)) = true) ∧ l.length = (l.length / n) * n ∧ (1 ≤ n ∧ n ≤ 8) ∧ l.length ≤ 64 ∧ ws.length = n) :=
  ⟨hcb,fun k hk => hfit.lo k (by omega),fun i hi => hroom i (by omega),(Nat.div_mul_cancel (Nat.dvd_of_mod_eq_zero hd1)).symm,hn1,hl1.2,hwl⟩
 obtain ⟨n1,n2⟩ := hn1
 have hSh : Hid (StrsAt w (.slice (some ⟨b,o,none⟩) l.length cap) l) := hS
 have hwlh : Hid (ws.length = n) := hwl
 have hB0h : Hid (Below w.heap.size w (w.alloc (.cells #[.int .i64 n,.slice (some ⟨b,o,none⟩) l.length cap] 24))) := hB0
 have hbxh : Hid ((w.alloc (.cells #[.int .i64 n,.slice (some ⟨b,o,none⟩) l.length cap] 24)).heap[w.heap.size]? = some (.cells #[.int .i64 n,.slice (some ⟨b,o,none⟩) l.length cap] 24)) := hbx
 generalize RowsEnd n l q w = E at *
 clear hcb hn' hl1 hd1 hC1 hT hfit hroom hS hS0 hwl hws hz hsz hB0 hbx
 refine callsIn_wide (n := 0).1 ?_
 refine callsIn_of_wp_marks Tryz.func9 rfl trivial ?_ rfl
 simp only [Tryz.ntmps9,List.size_toArray,List.length_cons,List.length_nil,Nat.reduceAdd,Nat.reduceSub,Array.replicate_succ,Array.replicate_zero,List.push_toArray,List.append_toArray,List.nil_append,List.cons_append]
 gi_wp2_with (first
  | (gi_at_call 26; refine (callsIn_wide.2 hwi.out).mono ?_; rintro e w1 ⟨gw,tb,rfl,hI1,b1⟩; have hx1 : Hid (w1.heap[w.heap.size]? = some (.cells #[.int .i64 n,.slice (some ⟨b,o,none⟩) l.length cap] 24)) := (b1.block w.heap.size hlt0).trans hbxh.out; have hB1 : Hid (Below w.heap.size w w1) := hB0h.out.trans (b1.mono hB0h.out.size); have hsd : Hid (Calls Tryz.prog 27 #[.slice (some ⟨gw,0,none⟩) n n] w1 (SdEnd ws w1)) := (by have := side_any gw ws (by have := hpure.out.2.2.2.2.2.2; omega) hpure.out.2.1 w1 hI1; rw [hwlh.out] at this; exact this); clear hI1 b1 hwi c0 c1 hlt0 hB0h hbxh)
  | (gi_at_call 27; refine (callsIn_wide.2 hsd.out).mono ?_; rintro e w2 ⟨clo,gc,hgc,rfl,hSd⟩; rw [hwlh.out]; have hSdh : Hid (SdI clo w1 gc ws ws.length w2) := hSd; clear hSd hsd; have hB2 : Hid (Below w.heap.size w w2) := hB1.out.trans (hSdh.out.low.mono hB1.out.size); have hx2 : Hid (w2.heap[w.heap.size]? = some (.cells #[.int .i64 n,.slice (some ⟨b,o,none⟩) l.length cap] 24)) := (hSdh.out.low.block w.heap.size (Array.getElem?_eq_some_iff.1 hx1.out).1).trans hx1.out; (have hx3 : Hid (((w2.alloc (.cells #[.slice (some ⟨gc,0,none⟩) n n] 59)).alloc (.cells #[.slice none 0 0] 27)).heap[w.heap.size]? = some (.cells #[.int .i64 n,.slice (some ⟨b,o,none⟩) l.length cap] 24)) := (Below.heap_alloc _ _ _ (Nat.lt_of_lt_of_le (Array.getElem?_eq_some_iff.1 hx2.out).1 (by simp))).trans ((Below.heap_alloc _ _ _ (Array.getElem?_eq_some_iff.1 hx2.out).1).trans hx2.out)); (have c2 : ((w2.alloc (.cells #[.slice (some ⟨gc,0,none⟩) n n] 59)).alloc (.cells #[.slice none 0 0] 27)).cell? ⟨w.heap.size,0,none⟩ = some (.int .i64 n) := by rw [Lib.cell_of_heap hx3.out]; rfl); (have c3 : ((w2.alloc (.cells #[.slice (some ⟨gc,0,none⟩) n n] 59)).alloc (.cells #[.slice none 0 0] 27)).cell? ⟨w.heap.size,1,none⟩ = some (.slice (some ⟨b,o,none⟩) l.length cap) := by rw [Lib.cell_of_heap hx3.out]; rfl))
  | (gi_at_call 28; refine (callsIn_wide.2 (chunk_any n ⟨n1,n2⟩ _ _ _ _)).mono ?_; rintro e w3 ⟨rfl,rfl⟩))
 obtain ⟨w4,hw4⟩ : ∃ w4,(((w2.alloc (.cells #[.slice (some ⟨gc,0,none⟩) n n] 59)).alloc (.cells #[.slice none 0 0] 27)).alloc (.cells #[.slice (some ⟨b,o,none⟩) l.length cap] 22)).alloc (.cells #[.int .i64 n] 3) = w4 := ⟨_,rfl⟩
 have hs4 : w4.heap.size = w2.heap.size + 4 := by rw [← hw4]; simp
 have hB24 : Below w2.heap.size w2 w4 := by
  rw [← hw4]
  have h1 := (Below.refl w2.heap.size w2).alloc (Nat.le_refl _) (.cells #[.slice (some ⟨gc,0,none⟩) n n] 59)
  have h2 := h1.alloc h1.size (.cells #[.slice none 0 0] 27)
  have h3 := h2.alloc h2.size (.cells #[.slice (some ⟨b,o,none⟩) l.length cap] 22)
  exact h3.alloc h3.size _
 have hC4 : w4.heap[w2.heap.size]? = some (.cells #[.slice (some ⟨gc,0,none⟩) n n] 59) := by
  rw [← hw4]
  exact (Below.heap_alloc _ _ _ (by first | (simp; done) | (simp; omega))).trans ((Below.heap_alloc _ _ _ (by first | (simp; done) | (simp; omega))).trans ((Below.heap_alloc _ _ _ (by simp)).trans (World.alloc_heap_new w2 _)))
 have hU4 : w4.heap[w2.heap.size + 1]? = some (.cells #[.slice none 0 0] 27) := by
  rw [← hw4]
  exact (Below.heap_alloc _ _ _ (by first | (simp; done) | (simp; omega))).trans ((Below.heap_alloc _ _ _ (by simp)).trans (alloc2_heap w2 _ _))
 have hR4 : ReadK (w2.heap.size + 1 + 1) n b o cap l w4 := by
  have k := alloc2_heap (w2.alloc (.cells #[.slice (some ⟨gc,0,none⟩) n n] 59)) (.cells #[.slice none 0 0] 27) (.cells #[.slice (some ⟨b,o,none⟩) l.length cap] 22)
  have k2 := alloc2_heap ((w2.alloc (.cells #[.slice (some ⟨gc,0,none⟩) n n] 59)).alloc (.cells #[.slice none 0 0] 27)) (.cells #[.slice (some ⟨b,o,none⟩) l.length cap] 22) (.cells #[.int .i64 n] 3)
  rw [World.size_alloc] at k
  rw [World.size_alloc,World.size_alloc] at k2
  rw [← hw4]
  exact ⟨(Below.heap_alloc _ _ _ (by simp)).trans k,k2⟩
 have hB4 : Below w.heap.size w w4 := hB2.out.trans (hB24.mono hB2.out.size)
 have hsw2 : w.heap.size ≤ w2.heap.size := hB2.out.size
 obtain ⟨p1,p2,p3,p4,p5,p6,p7⟩ := hpure.out
 rw [hw4]
 clear hw4 c2 c3 hx1 hx2 hx3
 refine wp_range (gf := 46) (lb := #[.pointer (some ⟨w2.heap.size + 1 + 1,0,none⟩),.pointer (some ⟨w2.heap.size + 1 + 1 + 1,0,none⟩)]) rfl (enters_of Tryz.func46 (by kernel_rfl) rfl) (chunk1_gives (w2.heap.size + 1 + 1) n (l.length / n) b o cap l p5 p4 p6 hcap) (fun _ => rfl)
  (RI w4 (w2.heap.size + 1) ws l n)
  (fun _ _ _ _ => False)
  (fun a' j X W => RI w4 (w2.heap.size + 1) ws l n j X W ∧ a' = { tmps := #[.agg #[.int .i64 n,.slice (some ⟨b,o,none⟩) l.length cap],.int .i64 q,.pointer (some ⟨w.heap.size,0,none⟩),undef,.slice none 0 0,.int .i64 0,.slice (some ⟨gw,0,none⟩) n n,.bool tb,.int .i64 0,.pointer (some ⟨w2.heap.size,0,none⟩),.pointer (some ⟨w2.heap.size + 1,0,none⟩),chV b o n j,.tuple #[.slice (some ⟨gw,0,none⟩) n n,.bool tb,.int .i64 0],.agg #[.int .i64 n,.slice (some ⟨b,o,none⟩) l.length cap],.int .i64 q,.tuple #[.slice (some ⟨gw,0,none⟩) n n,.bool tb,.int .i64 0],.slice (some ⟨gw,0,none⟩) n n,.bool tb,.int .i64 0,.int .i64 0,.bool false,undef,.slice (some ⟨gw,0,none⟩) n n,.slice (some ⟨gc,0,none⟩) n n,.pointer (some ⟨w.heap.size,1,none⟩),.slice (some ⟨b,o,none⟩) l.length cap,.pointer (some ⟨w.heap.size,0,none⟩),.int .i64 n,.func (.func 46) #[] #[.pointer (some ⟨w2.heap.size + 1 + 1,0,none⟩),.pointer (some ⟨w2.heap.size + 1 + 1 + 1,0,none⟩)],chV b o n j,undef,undef,undef,undef,undef,undef,undef],defers := [] })
  (steady_RI (by omega) ws l n) (fun _ => steady_never) (fun a' => (steady_RI (by omega) ws l n).and (steady_eq a' _)) ?hR (RI.start w4 (w2.heap.size + 1) ws l n hU4) ?assign ?body ?done ?stop
 case hR =>
  intro i X W h
  have ht := h.base.turns
  exact ⟨(ht.block _ (by omega) (by omega)).trans hR4.b0,(ht.block _ (by omega) (by omega)).trans hR4.b1⟩
 case assign =>
  intro lo j X W K hj hRI hK
  clear p1 p2 p3 p4 p5 p6 p7 hpure hj
  unfold encK
  gi_wp2
  exact hK _ _ (Keeps.refl _ _) ⟨hRI,rfl⟩
 case body =>
  rintro lo j X a' W hj ⟨⟨hb,u,rs,hu,hrow,hg,hlr,hi,hn⟩,rfl⟩
  have hsW := hb.turns.size
  have hjn : (j + 1) * n ≤ l.length := by
   have := Nat.mul_le_mul_right n (show j + 1 ≤ l.length / n from hj)
   omega
  have b2W : Below w2.heap.size w2 W := hB24.trans (hb.turns.below (by omega) (fun k hk => by omega))
  have bwW : Below w.heap.size w W := hB2.out.trans (b2W.mono hsw2)
  have hstr := chk_strs (hSh.out.below bwW (Nat.le_refl _)) hjn (show 0 < n by omega)
  have hlen := chk_len hjn
  have hSdW : SdI clo w1 gc ws ws.length W.drew := by
   obtain ⟨d,hd,hv,hc⟩ := hSdh.out.ex
   have b3 : Below w2.heap.size w2 W.drew := b2W.drew
   exact ⟨hSdh.out.low.trans (b3.mono hSdh.out.low.size),d,hd,hv.below b3 hv.lt,fun i hi => (hc i hi).below b3 (Nat.le_refl _)⟩
  have hcall : Calls Tryz.prog 29 #[.slice (some ⟨gc,0,none⟩) n n,chV b o n j] W.drew fun e w' => ∃ r,e = .returned (.agg (rwL r).toArray) ∧ (RwAt W.heap.size w' r ∧ RwIs ws (ckT l n j) r) ∧ Below W.heap.size W.drew w' := by
   have := row_any clo gc w1 ws (ckT l n j) (chV b o n j) (by rw [hlen,p7]) (by omega) (ck_cells p1) p3 W.drew hSdW (hstr.below (below_drew W) (Nat.le_refl _))
   rw [p7] at this
   refine this.mono ?_
   rintro e w' ⟨⟨r,rfl,h1,h2⟩,h3⟩
   exact ⟨r,rfl,⟨h1,h2⟩,h3⟩
  have hCW : W.heap[w2.heap.size]? = some (.cells #[.slice (some ⟨gc,0,none⟩) n n] 59 (0,0)) := (hb.turns.block _ (by omega) (by omega)).trans hC4
  have hj64 : j ≤ 64 := by
   have : j * 1 ≤ j * n := Nat.mul_le_mul_left j p5.1
   have e : (j + 1) * n = j * n + n := Nat.succ_mul _ _
   omega
  have hUlt : w2.heap.size + 1 < w4.heap.size := by omega
  have hstep : Hid (∀ (r : Rw) (w5 : World),RwAt W.heap.size w5 r ∧ RwIs ws (ckT l n j) r → Below W.heap.size W.drew w5 → ∃ (a' : Option Addr) (n' c' : Nat) (w2' : World),(Builtin.append_ #[27,27] 27 #[u,.slice (some ⟨w5.heap.size,0,none⟩) 1 1]).run Tryz.prog (w5.alloc (.cells (rwL r).toArray 39)) = .ok (.slice a' n' c') w2' ∧ w2'.cell? ⟨w2.heap.size + 1,0,none⟩ = some u ∧ w2'.frozen? ⟨w2.heap.size + 1,0,none⟩ = false ∧
    Keeps X W (w2'.setCell ⟨w2.heap.size + 1,0,none⟩ (.slice a' n' c')) ∧ RI w4 (w2.heap.size + 1) ws l n (j + 1) X (w2'.setCell ⟨w2.heap.size + 1,0,none⟩ (.slice a' n' c'))) := fun r w5 hr hb5 =>
   RI.step hUlt hj64 hb hu hrow hg hlr hi hn ((below_drew W).trans hb5) hr.1 hr.2 (hr.2.pos (ck_cells p1))
  clear hn hi hlr hg hrow hstr hSdW b2W bwW hb p1 p2 p3 p4 p5 p6 p7 hpure hR4 hU4 hC4 hSdh
  gi_wp2_with fail
  refine rws_r8 _ (fun _ _ _ _ _ h => h) _ _ lo (w2.heap.size + 1) w2.heap.size u (.slice (some ⟨gc,0,none⟩) n n) (chV b o n j) (fun r w' => RwAt W.heap.size w' r ∧ RwIs ws (ckT l n j) r) _ _ _ _ _ _ _ _ _ _ _ _ _ _ _ _ _ _ _ _ _ _ _ _ _ _ _ _ W hu hCW hcall ?_
  intro r w5 hr hb5
  obtain ⟨a',n',c',w6,h1,h2,h3,h4,h5⟩ := hstep.out r w5 hr hb5
  exact ⟨a',n',c',w6,h1,h2,h3,h4,h5⟩
 case done =>
  rintro D W hD ⟨hb,u,rs,hu,hrow,hg,hlr,hi,hn⟩ hK
  have hc0 : W.cell? ⟨w2.heap.size + 1,0,none⟩ = some u := by rw [Lib.cell_of_heap hu]; rfl
  clear p1 p2 p3 p4 p5 p6 p7 hpure
  gi_wp2
  refine ⟨by simp,.inl ⟨_,_,rfl,run_takeDeferred hK,?_⟩⟩
  refine ⟨_,results_tmp2 rfl _ _ _,hfin.out _ _ u rs rfl (below_end (Turns.of_below hB4) hb (fun k h => by omega) _) ⟨ownsRow_turns (ownsRow_base hrow (by omega)) (Turns.putObj (X := fun k => k = D) W rfl _) hg,fun r hr => ?_⟩ hlr hi⟩
  exact ((((hn r hr).turns (Turns.putObj (X := fun k => k = D) W rfl _) (fun g h => h.2.1)).mono (fun g h => by have := h.1.1; omega)) : RwIn (fun g => w.heap.size ≤ g) _ r).at
 case stop =>
  rintro D c' i W _ _ h _
  exact h.elim
end Go.Proofs.YtaphggjakaghjaaGreatDoor

namespace Go.Proofs.YtaphggjakaghjaaGreatDoor
open Go.RowKit Go.Shelf

def wiB (f t : Int) (k : Nat) : Prop := f ≤ 2 + 10 * (k : Int) ∧ 2 + 10 * (k : Int) < t
instance (f t : Int) (k : Nat) : Decidable (wiB f t k) := by unfold wiB; infer_instance
def wiN (ls : List Lx) (f t : Int) : Nat → List Lx
 | 0 => []
 | k + 1 => wiN ls f t k ++ (if wiB f t k then [ls.getD k lx0] else [])
def wiL (ls : List Lx) (f t : Int) : List Lx := wiN ls f t ls.length
theorem wiN_le (ls : List Lx) (f t : Int) : ∀ k,(wiN ls f t k).length ≤ k
 | 0 => Nat.le_refl _
 | k + 1 => by
  have ih := wiN_le ls f t k
  unfold wiN
  rw [List.length_append]
  split <;> simp <;> omega
theorem el55 : ElOk 44 55 7 56 := ElOk.of Tryz.underlying44 (by kernel_rfl)
theorem build55 (x : Lx) (W : World) : (Instr.buildSlice 44 1 #[(0,.agg (lxL x).toArray)]).run Tryz.prog W = .ok (.slice (some ⟨W.heap.size,0,none⟩) 1 1) (W.alloc (.cells (lxL x).toArray 55)) := by
 obtain ⟨f,t,x,w,n,h,g⟩ := x
 kernel_rfl
theorem wpList_build55 {ops : Array Oper} {rest : List Oper} {oi : Oper} {a : Act} {w : World} {Q : Exit → Act → World → Prop} (hgd : oi.guard = none) (y : Operand) (ho : oi.op = .buildSlice 44 1 #[(0,y)]) (p : Lx) (hy : a.eval y = .agg (lxL p).toArray)
  (h : wpList Tryz.prog ops Q rest (a.put oi.dst (.slice (some ⟨w.heap.size,0,none⟩) 1 1)) (w.alloc (.cells (lxL p).toArray 55))) : wpList Tryz.prog ops Q (oi :: rest) a w :=
 wpList_plain hgd fun _ hK => by
  have hr := build55 p w
  unfold Oper.wp execOp
  simp only [ho,List.map_toArray,List.map_cons,List.map_nil,hy,Sem.run_bind,Sem.run_pure,Result.andThen_ok,hr]
  exact hK _ _ h
theorem info55n (x : Lx) : (Tryz.prog.info? 55).map (·.size) = some (lxL x).length := by show _ = some 7; kernel_rfl
end Go.Proofs.YtaphggjakaghjaaGreatDoor

namespace Go.Proofs.YtaphggjakaghjaaGreatDoor
open Go.RowKit Go.Shelf
set_option maxRecDepth 100000
set_option maxHeartbeats 2000000

def opB7 (ps : String) : Array Oper := #[⟨some 36,.move (.tmp 8),37,ps,#[],none⟩,⟨some 37,.move (.tmp 9),3,ps,#[],none⟩,⟨some 38,.fieldAddr 46 (.tmp 10) 0,0,ps,#[],none⟩,⟨some 39,.load 3 (.tmp 38),3,ps,#[⟨2,.data⟩],none⟩,⟨some 40,.fieldAddr 46 (.tmp 10) 1,0,ps,#[],none⟩,⟨some 41,.load 3 (.tmp 40),3,ps,#[⟨4,.data⟩],none⟩,⟨some 42,.fieldAddr 46 (.tmp 10) 2,0,ps,#[],none⟩,⟨some 43,.load 44 (.tmp 42),44,ps,#[⟨6,.data⟩],none⟩,⟨some 44,.move (.tmp 1),3,ps,#[],none⟩,⟨some 45,.move (.tmp 2),3,ps,#[],none⟩,⟨some 46,.call ⟨.value (.func 38),#[.tmp 43,.tmp 44,.tmp 45],#[44,3,3]⟩,44,ps,#[⟨7,.data⟩,⟨8,.data⟩,⟨9,.data⟩],none⟩,⟨some 47,.build 46 #[(0,.tmp 39),(1,.tmp 41),(2,.tmp 46)],46,ps,#[⟨3,.data⟩,⟨5,.data⟩,⟨10,.data⟩],none⟩,⟨some 48,.indexAddr 37 (.tmp 36) (.tmp 37),0,ps,#[⟨0,.data⟩,⟨1,.data⟩,⟨0,.phase⟩,⟨1,.phase⟩,⟨2,.phase⟩,⟨3,.phase⟩,⟨4,.phase⟩,⟨5,.phase⟩,⟨6,.phase⟩,⟨7,.phase⟩,⟨8,.phase⟩,⟨9,.phase⟩,⟨10,.phase⟩,⟨11,.phase⟩],none⟩,⟨none,.store 46 (.tmp 48) (.tmp 47),0,ps,#[⟨12,.data⟩,⟨11,.data⟩,⟨10,.chain⟩,⟨0,.phase⟩,⟨1,.phase⟩,⟨2,.phase⟩,⟨3,.phase⟩,⟨4,.phase⟩,⟨5,.phase⟩,⟨6,.phase⟩,⟨7,.phase⟩,⟨8,.phase⟩,⟨9,.phase⟩,⟨10,.phase⟩,⟨11,.phase⟩],none⟩]

theorem bt_r7 (Q : Exit → Act → World → Prop) (hQ : ∀ c x (n : Nat) v w,Q (.panic c) (x.put (some n) v) w → Q (.panic c) x w) (id : Nat) (ps : String) (g gb k N : Nat) (x y f t : Int) (a : Option Addr) (n c : Nat) (H : Option Addr → Nat → Nat → World → Prop) (v0 v3 v4 v5 v6 v7 xa xb xc xd xe xf xg xh xi xj xk xl xm xn xo xp xq xr xt xu xv xw xx xy xz xA xB xC xD xE xF xG xH xI xJ xK xL xM xN xO : Value) (W : World)
  (hb : W.heap[gb]? = some (.cells #[.int .i64 x,.int .i64 y,.slice a n c] 46 (0,0))) (hne : gb ≠ g) (hk : k < N)
  (hN : Calls Tryz.prog 38 #[.slice a n c,.int .i64 f,.int .i64 t] W.drew fun e w' => ∃ a' n' c',e = .returned (.slice a' n' c') ∧ H a' n' c' w' ∧ Below W.heap.size W.drew w')
  (hth : ∀ a' n' c' w',H a' n' c' w' → Below W.heap.size W.drew w' → w'.there g (k * 3) 3)
  (hK : ∀ a' n' c' w',H a' n' c' w' → Below W.heap.size W.drew w' → Q .normal { tmps := #[v0,.int .i64 f,.int .i64 t,v3,v4,v5,v6,v7,.slice (some ⟨g,0,none⟩) N N,.int .i64 (k : Nat),.pointer (some ⟨gb,0,none⟩),xa,xb,xc,xd,xe,xf,xg,xh,xi,xj,xk,xl,xm,xn,xo,xp,xq,xr,xt,xu,xv,xw,xx,xy,xz,.slice (some ⟨g,0,none⟩) N N,.int .i64 (k : Nat),.pointer (some ⟨gb,0,none⟩),.int .i64 x,.pointer (some ⟨gb,1,none⟩),.int .i64 y,.pointer (some ⟨gb,2,none⟩),.slice a n c,.int .i64 f,.int .i64 t,(.slice a' n' c'),(.agg (ceA x y (.slice a' n' c'))),.pointer (some ⟨g,k * 3,none⟩),xN,xO],defers := [] } (w'.setCells g (k * 3) (ceA x y (.slice a' n' c')).toList)) :
  (Code.region id (opB7 ps) true).wp Tryz.prog Q { tmps := #[v0,.int .i64 f,.int .i64 t,v3,v4,v5,v6,v7,.slice (some ⟨g,0,none⟩) N N,.int .i64 (k : Nat),.pointer (some ⟨gb,0,none⟩),xa,xb,xc,xd,xe,xf,xg,xh,xi,xj,xk,xl,xm,xn,xo,xp,xq,xr,xt,xu,xv,xw,xx,xy,xz,xA,xB,xC,xD,xE,xF,xG,xH,xI,xJ,xK,xL,xM,xN,xO],defers := [] } W := by
 have hS : (fun w : World => w.heap[gb]? = some (.cells #[.int .i64 x,.int .i64 y,.slice a n c] 46 (0,0))) W.drew := hb
 refine wp_region_held (S := fun w => w.heap[gb]? = some (.cells #[.int .i64 x,.int .i64 y,.slice a n c] 46 (0,0))) (by kernel_rfl) ?_
 change wpAnyH _ _ _ _ _ 14 _ _ (World.drew W)
 have hlb : gb < W.drew.heap.size := (Array.getElem?_eq_some_iff.1 hb).1
 have hkN : (k : Int) < (N : Int) := by omega
 rw [show W.heap.size = W.drew.heap.size from rfl] at hN hth hK
 generalize W.drew = V at *
 clear hb
 unfold opB7
 refine wpAnyH_take (i := 0) (v := .slice (some ⟨g,0,none⟩) N N) rfl (by kernel_rfl) (by kernel_rfl) (by kernel_rfl) (fun c x w => hQ c x _ _ w) (Or.inl ⟨by rfl,?y0⟩) hS ?_
 case y0 => (intro w' hw'; go_simp)
 go_simp
 refine wpAnyH_take (i := 1) (v := .int .i64 (k : Nat)) rfl (by kernel_rfl) (by kernel_rfl) (by kernel_rfl) (fun c x w => hQ c x _ _ w) (Or.inl ⟨by rfl,?y1⟩) hS ?_
 case y1 => (intro w' hw'; go_simp)
 go_simp
 refine wpAnyH_take (i := 2) (v := .pointer (some ⟨gb,0,none⟩)) rfl (by kernel_rfl) (by kernel_rfl) (by kernel_rfl) (fun c x w => hQ c x _ _ w) (Or.inl ⟨by rfl,?y2⟩) hS ?_
 case y2 => (intro w' hw'; go_simp)
 go_simp
 refine wpAnyH_take (i := 3) (v := .int .i64 x) rfl (by kernel_rfl) (by kernel_rfl) (by kernel_rfl) (fun c x w => hQ c x _ _ w) (Or.inl ⟨by rfl,?y3⟩) hS ?_
 case y3 => (intro w' hw'; have c0 : w'.cell? ⟨gb,0,none⟩ = some (.int .i64 x) := (Lib.cell_of_heap hw' _).trans rfl; go_simp)
 go_simp
 refine wpAnyH_take (i := 4) (v := .pointer (some ⟨gb,1,none⟩)) rfl (by kernel_rfl) (by kernel_rfl) (by kernel_rfl) (fun c x w => hQ c x _ _ w) (Or.inl ⟨by rfl,?y4⟩) hS ?_
 case y4 => (intro w' hw'; go_simp)
 go_simp
 refine wpAnyH_take (i := 5) (v := .int .i64 y) rfl (by kernel_rfl) (by kernel_rfl) (by kernel_rfl) (fun c x w => hQ c x _ _ w) (Or.inl ⟨by rfl,?y5⟩) hS ?_
 case y5 => (intro w' hw'; have c1 : w'.cell? ⟨gb,1,none⟩ = some (.int .i64 y) := (Lib.cell_of_heap hw' _).trans rfl; go_simp)
 go_simp
 refine wpAnyH_take (i := 6) (v := .pointer (some ⟨gb,2,none⟩)) rfl (by kernel_rfl) (by kernel_rfl) (by kernel_rfl) (fun c x w => hQ c x _ _ w) (Or.inl ⟨by rfl,?y6⟩) hS ?_
 case y6 => (intro w' hw'; go_simp)
 go_simp
 refine wpAnyH_take (i := 7) (v := .slice a n c) rfl (by kernel_rfl) (by kernel_rfl) (by kernel_rfl) (fun c x w => hQ c x _ _ w) (Or.inl ⟨by rfl,?y7⟩) hS ?_
 case y7 => (intro w' hw'; have c2 : w'.cell? ⟨gb,2,none⟩ = some (.slice a n c) := (Lib.cell_of_heap hw' _).trans rfl; go_simp)
 go_simp
 refine wpAnyH_take (i := 8) (v := .int .i64 f) rfl (by kernel_rfl) (by kernel_rfl) (by kernel_rfl) (fun c x w => hQ c x _ _ w) (Or.inl ⟨by rfl,?y8⟩) hS ?_
 case y8 => (intro w' hw'; go_simp)
 go_simp
 refine wpAnyH_take (i := 9) (v := .int .i64 t) rfl (by kernel_rfl) (by kernel_rfl) (by kernel_rfl) (fun c x w => hQ c x _ _ w) (Or.inl ⟨by rfl,?y9⟩) hS ?_
 case y9 => (intro w' hw'; go_simp)
 go_simp
 refine want_h (i := 10) (by kernel_rfl) rfl (by kernel_rfl) fun K hK' => ?_
 go_simp
 refine hN.mono ?_
 rintro e w1 ⟨a',n',c',rfl,hH,hb1⟩
 have hS1 : (fun w : World => w.heap[gb]? = some (.cells #[.int .i64 x,.int .i64 y,.slice a n c] 46 (0,0))) w1 := (hb1.block gb hlb).trans hS
 have ht1 := hth a' n' c' w1 hH hb1
 have hQ1 := hK a' n' c' w1 hH hb1
 refine hK' _ _ hS1 ?_
 clear hK' K hS hb1 hH hK hth hN
 go_simp
 refine wpAnyH_take (i := 11) (v := (.agg (ceA x y (.slice a' n' c')))) rfl (by kernel_rfl) (by kernel_rfl) (by kernel_rfl) (fun c x w => hQ c x _ _ w) (Or.inl ⟨by rfl,?y11⟩) hS1 ?_
 case y11 => (intro w' hw'; go_simp; rfl)
 go_simp
 refine wpAnyH_take (i := 12) (v := .pointer (some ⟨g,k * 3,none⟩)) rfl (by kernel_rfl) (by kernel_rfl) (by kernel_rfl) (fun c x w => hQ c x _ _ w) (Or.inl ⟨by rfl,?y12⟩) hS1 ?_
 case y12 => (intro w' hw'; go_simp)
 go_simp
 refine want_h (i := 13) (by kernel_rfl) rfl (by kernel_rfl) fun K hK' => ?_
 refine wp_store_mid 46 _ _ rfl g (k * 3) (ceA x y (.slice a' n' c')) rfl rfl ht1 (info46a _ _ _) (one46a _ _ _ _ _) ?_
 refine hK' _ _ ?_ (wpAnyH_done (by kernel_rfl) hQ1 _)
 have ht := turns_setCells (X := fun j => j = g) rfl (ceA x y (.slice a' n' c')).toList (k * 3) w1
 exact (ht.block gb (Array.getElem?_eq_some_iff.1 hS1).1 hne).trans hS1
end Go.Proofs.YtaphggjakaghjaaGreatDoor

namespace Go.Proofs.YtaphggjakaghjaaGreatDoor
open Go.RowKit Go.Shelf

theorem below_box (W : World) (o : Obj) (cs : Array Value) : Below W.heap.size W ((W.alloc o).setRow W.heap.size cs) := by
 have h1 := (Below.refl W.heap.size W).alloc (Nat.le_refl _) o
 exact h1.trans ((Turns.setRow (X := fun k => k = W.heap.size) (W.alloc o) rfl cs).below h1.size (fun k hk => by omega))
structure BtIs (f t : Int) (c d : Cel) : Prop where
 x : d.x = c.x
 w : d.w = c.w
 ls : d.ls = wiL c.ls f t
theorem info46m (x w : Int) (v : Value) : (Tryz.prog.info? 46).map (·.size) = some ([Value.int .i64 x,.int .i64 w,v] : List Value).length := by show _ = some 3; kernel_rfl
theorem between_no (h : Int) (sv cv : Value) (f t : Int) (hr : ¬ (0 ≤ f ∧ f ≤ t ∧ t ≤ h)) (w : World) : Calls Tryz.prog 21 #[.agg #[.int .i64 h,sv,cv],.int .i64 f,.int .i64 t] w fun e w' => e = .returned (.tuple #[.slice none 0 0,.int .i64 5]) ∧ Below w.heap.size w w' := by
 have hB := (Below.refl w.heap.size w).alloc (Nat.le_refl _) (.cells #[.int .i64 h,sv,cv] 39)
 have c0 : (w.alloc (.cells #[.int .i64 h,sv,cv] 39)).cell? ⟨w.heap.size,0,none⟩ = some (.int .i64 h) := by rw [Lib.cell_of_heap (World.alloc_heap_new w _)]; rfl
 by_cases h1 : f < 0
 ·go_enter Tryz.func21,Tryz.ntmps21
  go_wp2_with fail
  go_ret2
  exact ⟨rfl,hB⟩
 ·by_cases h2 : t < f
  ·go_enter Tryz.func21,Tryz.ntmps21
   go_wp2_with fail
   go_ret2
   exact ⟨rfl,hB⟩
  ·have h3 : h < t := by omega
   go_enter Tryz.func21,Tryz.ntmps21
   go_wp2_with fail
   go_ret2
   exact ⟨rfl,hB⟩
end Go.Proofs.YtaphggjakaghjaaGreatDoor
