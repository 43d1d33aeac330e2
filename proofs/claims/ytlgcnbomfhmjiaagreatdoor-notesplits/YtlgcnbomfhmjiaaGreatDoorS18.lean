/-
  What is proved here: what take, Break$1, eachLine and Break of first answer.
  What is proved here: what Break of first answers of any items and any profile.
  What is proved here: what Demerits of least answers.
-/
import Derived.Test.YtlgcnbomfhmjiaaGreatDoorS17
import Derived.Test.YtlgcnbomfhmjiaaGreatDoorS3
import Derived.Test.YtlgcnbomfhmjiaaGreatDoorS13
import Derived.Test.YtlgcnbomfhmjiaaGreatDoorRows
import Derived.Test.YtlgcnbomfhmjiaaGreatDoorS1
import Derived.BigQuiet
import Derived.Handy
import Derived.Test.YtlgcnbomfhmjiaaGreatDoorS8
import Derived.Deep.MidRow
import Derived.Test.YtlgcnbomfhmjiaaGreatDoorS4
import Derived.Test.YtlgcnbomfhmjiaaGreatDoorS6
namespace Go.Proofs.YtlgcnbomfhmjiaaGreatDoor
open Go.RowKit Go.Shelf
set_option maxRecDepth 100000
set_option maxHeartbeats 8000000

theorem info25s (q : Sl) : (Tryz.prog.info? 53).map (·.size) = some (slL q).toArray.size := by show _ = some 2; kernel_rfl
theorem slL_all (q : Sl) : (slL q).toArray.all (·.oneCell') = true := all_oneCell_toArray (fun u hu => by simp [slL] at hu; rcases hu with rfl | rfl <;> rfl)
structure GW (z : World) (qs : List Pc) (W : World) : Prop where
 low : Below z.heap.size z W
 ex : ∃ va vn vc,W.heap[z.heap.size]? = some (.cells #[.slice va vn vc] 210 (0,0)) ∧ W.ownsRow (z.heap.size + 1) 76 5 (.slice va vn vc) qs.length (qs.flatMap pcL)
theorem GW.lt {z : World} {qs : List Pc} {W : World} (h : GW z qs W) : z.heap.size < W.heap.size := by
 obtain ⟨_,_,_,h1,_⟩ := h.ex
 exact (Array.getElem?_eq_some_iff.1 h1).1
theorem GW.next {z : World} {qs : List Pc} {W W' : World} (h : GW z qs W) (hb : Below W.heap.size W W') : GW z qs W' := by
 obtain ⟨va,vn,vc,h1,h2⟩ := h.ex
 exact ⟨h.low.trans (hb.mono h.low.size),va,vn,vc,(hb.block _ h.lt).trans h1,ownsRow_below h2 hb⟩

theorem take_any (z : World) (qs : List Pc) (p : Pc) (hn : qs.length ≤ 9000) (W : World) (h : GW z qs W) (D : Nat) (hD : z.heap.size < D ∧ D < W.heap.size) (hDx : ∀ va vn vc,W.heap[z.heap.size]? = some (.cells #[.slice va vn vc] 210 (0,0)) → Value.ownBlock (.slice va vn vc) ≠ some D) :
  Calls Tryz.prog 147 #[.pointer (some ⟨z.heap.size,0,none⟩),.agg (pcL p).toArray] W fun e W' => (∃ v,e = .returned v) ∧ GW z (qs ++ [p]) W' ∧ W'.heap[D]? = W.heap[D]? := by
 obtain ⟨va,vn,vc,hG,hrow⟩ := h.ex
 have hDn := hDx va vn vc hG
 have hlt := h.lt
 have hlow := h.low
 clear h
 have hEnd : Hid (∀ va' vc' w2,World.ownsRow w2 (z.heap.size + 1) 76 5 (.slice va' (qs.length + 1) vc') (qs ++ [p]).length ((qs ++ [p]).flatMap pcL) → (((W.alloc (.cells (pcL p).toArray 76)).drew).alloc (.cells (pcL p).toArray 76)).grownBy w2 (Value.ownBlock (.slice va vn vc)) → w2.heap[z.heap.size]? = some (.cells #[.slice va vn vc] 210 (0,0)) → GW z (qs ++ [p]) (w2.setCell ⟨z.heap.size,0,none⟩ (.slice va' (qs.length + 1) vc')) ∧ (w2.setCell ⟨z.heap.size,0,none⟩ (.slice va' (qs.length + 1) vc')).heap[D]? = W.heap[D]?) := fun va' vc' w2 h1 h2 h3 => by
  have hbx : Boxed w2 z.heap.size 210 (.slice va vn vc) := h3
  have hb1 : Below z.heap.size z (((W.alloc (.cells (pcL p).toArray 76)).drew).alloc (.cells (pcL p).toArray 76)) := by
   have q1 := hlow.alloc hlow.size (.cells (pcL p).toArray 76)
   have q2 : Below z.heap.size z ((W.alloc (.cells (pcL p).toArray 76)).drew) := ⟨q1.1,q1.2,q1.3,q1.4,q1.5⟩
   exact q2.alloc q2.size _
  have hb2 : Below z.heap.size z w2 := hb1.grown h2 hb1.size (fun k hk => by have := (hrow.lt k hk).1; omega)
  refine ⟨⟨hb2.trans ?_,va',qs.length + 1,vc',Boxed.set _ hbx,h1.kept (grownBy_setCell' w2 _ _) (.inr (hbx.not_row (by decide) h1).symm)⟩,?_⟩
  ·exact ⟨rfl,rfl,rfl,by simp,fun k hk => Below.heap_setCell _ _ _ k (fun e => by have h7 : k = z.heap.size := e; omega)⟩
  ·rw [Below.heap_setCell _ _ _ D (fun e => by have h7 : D = z.heap.size := e; omega),h2.block D (by rw [World.size_alloc]; show D < (W.alloc (.cells (pcL p).toArray 76)).heap.size + 1; rw [World.size_alloc]; omega) (fun e => hDn e.symm),Below.heap_alloc _ _ _ (by show D < (W.alloc (.cells (pcL p).toArray 76)).heap.size; rw [World.size_alloc]; omega)]
   exact Below.heap_alloc W _ _ hD.2
 have hGa : (W.alloc (.cells (pcL p).toArray 76)).drew.heap[z.heap.size]? = some (.cells #[.slice va vn vc] 210 (0,0)) := (Below.heap_alloc W _ _ hlt).trans hG
 have hra : (W.alloc (.cells (pcL p).toArray 76)).drew.ownsRow (z.heap.size + 1) 76 5 (.slice va vn vc) qs.length (qs.flatMap pcL) := hrow.alloc _
 have hDa : DX W.heap.size p (W.alloc (.cells (pcL p).toArray 76)).drew := ⟨World.alloc_heap_new W _⟩
 have hGh : Hid ((W.alloc (.cells (pcL p).toArray 76)).drew.heap[z.heap.size]? = some (.cells #[.slice va vn vc] 210 (0,0))) := hGa
 have hrh : Hid ((W.alloc (.cells (pcL p).toArray 76)).drew.ownsRow (z.heap.size + 1) 76 5 (.slice va vn vc) qs.length (qs.flatMap pcL)) := hra
 have hDh : Hid (DX W.heap.size p (W.alloc (.cells (pcL p).toArray 76)).drew) := hDa
 have hDv : Hid (Value.ownBlock (.slice va vn vc) ≠ some W.heap.size) := fun e => by have := (hrow.lt _ e).2; omega
 have hbs : Hid (z.heap.size + 1 ≤ (W.alloc (.cells (pcL p).toArray 76)).drew.heap.size) := by show _ ≤ (W.alloc (.cells (pcL p).toArray 76)).heap.size; simp; omega
 clear hGa hra hDa hG hrow hlow
 obtain ⟨a,b,wd,hy,nt⟩ := p
 show Calls Tryz.prog 147 #[.pointer (some ⟨z.heap.size,0,none⟩),.agg #[.int .i64 (a : Nat),.int .i64 (b : Nat),.bool wd,.bool hy,.int .i64 nt]] W _
 go_enter Tryz.func147,Tryz.ntmps147
 go_wp2_with fail
 refine tk_r1 _ (fun _ _ _ _ _ h => h) _ _ z.heap.size W.heap.size (z.heap.size + 1) va vn vc qs ⟨a,b,wd,hy,nt⟩ (W.alloc (.cells (pcL ⟨a,b,wd,hy,nt⟩).toArray 76)) hDh.out hGh.out hrh.out hbs.out hn (by omega) hDv.out ?_
 intro va' vc' w2 h1 h2 h3 u4 u5 u6 u7 u8 u9 u10 u11 u12 u13
 have hfin := hEnd.out va' vc' w2 h1 h2 h3
 unfold fr25
 generalize w2.setCell ⟨z.heap.size,0,none⟩ (.slice va' (qs.length + 1) vc') = w3 at *
 clear h1 h2 h3 hEnd hGh hrh hDh hDv hbs
 go_wp2_with fail
 go_returns
 exact ⟨⟨_,rfl⟩,hfin⟩

theorem brk1_any (z : World) (vs : Value) (ss : List Sl) (r : Sl) (n : Int) (B4 B5 : Nat) (hl : ss.length ≤ 9223372036854775807) (h4 : z.heap[B4]? = some (.cells #[vs] 65 (0,0))) (h5 : z.heap[B5]? = some (.cells (slL r).toArray 53 (0,0))) (hS : SlsAt z vs ss) (W : World) (hW : Below z.heap.size z W) :
  Calls Tryz.prog 146 #[.int .i64 n,.pointer (some ⟨B4,0,none⟩),.pointer (some ⟨B5,0,none⟩)] W fun e w' => e = .returned (.agg (slL (slI ss r n)).toArray) ∧ Below W.heap.size W w' := by
 have k4 := (hW.block B4 (Array.getElem?_eq_some_iff.1 h4).1).trans h4
 have k5 := (hW.block B5 (Array.getElem?_eq_some_iff.1 h5).1).trans h5
 have l4 : B4 < W.heap.size := (Array.getElem?_eq_some_iff.1 k4).1
 have l5 : B5 < W.heap.size := (Array.getElem?_eq_some_iff.1 k5).1
 have hB := (Below.refl W.heap.size W).alloc (Nat.le_refl _) (.cells #[.int .i64 0,.int .i64 0] 53)
 have c4 : (W.alloc (.cells #[.int .i64 0,.int .i64 0] 53)).cell? ⟨B4,0,none⟩ = some vs := by rw [hB.cell l4,Lib.cell_of_heap k4]; rfl
 have c5 : (W.alloc (.cells #[.int .i64 0,.int .i64 0] 53)).cell? ⟨B5,0,none⟩ = some (.int .i64 r.x) := by rw [hB.cell l5,Lib.cell_of_heap k5]; rfl
 have c6 : (W.alloc (.cells #[.int .i64 0,.int .i64 0] 53)).cell? ⟨B5,1,none⟩ = some (.int .i64 r.w) := by rw [hB.cell l5,Lib.cell_of_heap k5]; rfl
 have hc : Hid (Calls Tryz.prog 37 #[vs,.agg #[.int .i64 r.x,.int .i64 r.w],.int .i64 n] (W.alloc (.cells #[.int .i64 0,.int .i64 0] 53)) fun e w' => e = .returned (.agg (slL (slI ss r n)).toArray) ∧ Below (W.alloc (.cells #[.int .i64 0,.int .i64 0] 53)).heap.size (W.alloc (.cells #[.int .i64 0,.int .i64 0] 53)) w') := fslot_any vs ss r n hl _ ((hS.below hW (Nat.le_refl _)).below hB (Nat.le_refl _))
 have hz0 : (W.alloc (.cells #[.int .i64 0,.int .i64 0] 53)).heap[W.heap.size]? = some (.cells #[.int .i64 0,.int .i64 0] 53) := World.alloc_heap_new W _
 have hsz : W.heap.size < (W.alloc (.cells #[.int .i64 0,.int .i64 0] 53)).heap.size := by simp
 obtain ⟨a,cap,rfl,-⟩ := hS.ex
 clear hS k4 k5 hW h4 h5
 generalize slI ss r n = q at *
 go_enter Tryz.func146,Tryz.ntmps146
 have hBh : Hid (Below W.heap.size W (W.alloc (.cells #[.int .i64 0,.int .i64 0] 53))) := hB
 have hzh : Hid ((W.alloc (.cells #[.int .i64 0,.int .i64 0] 53)).heap[W.heap.size]? = some (.cells #[.int .i64 0,.int .i64 0] 53)) := hz0
 have hszh : Hid (W.heap.size < (W.alloc (.cells #[.int .i64 0,.int .i64 0] 53)).heap.size) := hsz
 clear hB hz0 hsz
 generalize hw1 : W.alloc (.cells #[.int .i64 0,.int .i64 0] 53) = w1 at *
 go_wp2_with (first | (go_at_call 37; refine hc.out.mono ?_; rintro e w' ⟨rfl,hb2⟩; have hz2 : w'.heap[W.heap.size]? = some (.cells #[.int .i64 0,.int .i64 0] 53 (0,0)) := (hb2.block _ hszh.out).trans hzh.out) | (refine wpList_store_row rfl 53 _ _ rfl W.heap.size (slL q).toArray rfl rfl 53 _ hz2 (info25s _) rfl (slL_all _) ?_))
 exact bodyPost_ret (results_cell_row rfl _ _ W.heap.size 53 (slL q).toArray (0,0) _ rfl (setRow_heap _ _ _ _ _ _ hz2) Tryz.underlying53 rfl (info25s _)) rfl ⟨rfl,(hBh.out.trans (hb2.mono (by have := hBh.out.size; omega))).trans ((Turns.setRow (X := fun k => k = W.heap.size) _ rfl _).below (by have := hBh.out.size; have := hb2.size; omega) (fun k hk => by omega))⟩

def lsR (l : List It) (ss : List Sl) (r : Sl) (a n : Nat) : List Pc := if n = 0 ∨ a < l.length then lsA l ss r a n else []
theorem lsR_go {l : List It} {ss : List Sl} {r : Sl} {a n : Nat} (h : a ≤ l.length) (hc : n = 0 ∨ a < l.length) : lsR l ss r a n = lnP l a (slN ss r n) :: lsR l ss r (bgN l (lnP l a (slN ss r n)).b) (n + 1) := by
 unfold lsR
 rw [if_pos hc]
 by_cases hb : bgN l (lnP l a (slN ss r n)).b < l.length
 ·rw [if_pos (.inr hb),lsA_go h hb]
 ·rw [if_neg (by omega),lsA_end hb]
theorem lsR_no {l : List It} {ss : List Sl} {r : Sl} {a n : Nat} (hc : ¬ (n = 0 ∨ a < l.length)) : lsR l ss r a n = [] := if_neg hc

theorem eachLine_any (z : World) (v vs : Value) (l : List It) (ss : List Sl) (r : Sl) (B4 B5 : Nat) (hck : ckL l = 0) (hcs : ckS ss r = 0) (hS : ItsAt z v l) (h4 : z.heap[B4]? = some (.cells #[vs] 65 (0,0))) (h5 : z.heap[B5]? = some (.cells (slL r).toArray 53 (0,0))) (hV : SlsAt z vs ss) (W : World) (hG : GW z [] W) :
  Calls Tryz.prog 145 #[v,.func (.func 146) #[] #[.pointer (some ⟨B4,0,none⟩),.pointer (some ⟨B5,0,none⟩)],.func (.func 147) #[.pointer (some ⟨z.heap.size,0,none⟩)] #[]] W fun e W' => (∃ v,e = .returned v) ∧ GW z (lsL l ss r) W' := by
 have h8 := ck_len hck
 have hf := ckS_few hcs
 have hBg : Hid (Calls Tryz.prog 206 #[v] W fun e w' => e = .returned (.int .i64 (sk l 0 : Nat)) ∧ Below W.heap.size W w') := fbegin_any v l (by omega) W (hS.below hG.low (Nat.le_refl _))
 have hSl : Hid (∀ (n : Nat) W',Below z.heap.size z W' → Calls Tryz.prog 146 #[.int .i64 (n : Nat),.pointer (some ⟨B4,0,none⟩),.pointer (some ⟨B5,0,none⟩)] W' fun e w' => e = .returned (.agg (slL (slN ss r n)).toArray) ∧ Below W'.heap.size W' w') := fun n W' hW => by
  have := brk1_any z vs ss r n B4 B5 (by omega) h4 h5 hV W' hW
  rwa [slI_nat] at this
 have hLn : Hid (∀ (a n : Nat) W',a ≤ l.length → Below z.heap.size z W' → Calls Tryz.prog 207 #[v,.int .i64 (a : Nat),.agg (slL (slN ss r n)).toArray] W' fun e w' => e = .returned (.agg (pcL (lnP l a (slN ss r n))).toArray) ∧ Below W'.heap.size W' w') := fun a n W' ha hW => line_any v l a _ hck ha (slN_ok hcs n) W' (hS.below hW (Nat.le_refl _))
 have hNx : Hid (∀ (b : Nat) W',b ≤ l.length → Below z.heap.size z W' → Calls Tryz.prog 208 #[v,.int .i64 (b : Nat)] W' fun e w' => e = .returned (.int .i64 (bgN l b : Nat)) ∧ Below W'.heap.size W' w') := fun b W' hb hW => fnext_any v l b hck hb W' (hS.below hW (Nat.le_refl _))
 have hsk := sk_le (l := l) (l.length + 1) 0 (by omega)
 have hR : Hid (lsR l ss r (sk l 0) 0 = lsL l ss r) := by show lsR l ss r (sk l 0) 0 = _; unfold lsR; rw [if_pos (.inl rfl)]; rfl
 have hskl : sk l 0 ≤ l.length := hsk.2
 obtain ⟨a0,cap,rfl,-⟩ := hS.ex
 have hGh : Hid (GW z [] W) := hG
 have hl8 : (l.length : Int) ≤ 8192 := by omega
 clear hS h4 h5 hV hG hck hcs hsk h8
 generalize lsL l ss r = R at *
 go_enter Tryz.func145,Tryz.ntmps145
 go_wp2_with (go_at_call 206; refine hBg.out.mono ?_; rintro e w1 ⟨rfl,hb1⟩; have hG1 := hGh.out.next hb1)
 go_loopw [6,7] (fun i j wr => ∃ (a n : Nat) (qs : List Pc),(a ≤ l.length ∧ n = qs.length ∧ n ≤ a + 1) ∧ i = .int .i64 a ∧ j = .int .i64 n ∧ GW z qs wr ∧ Hid (qs ++ lsR l ss r a n = R)) (fun i j _ => (l.length + 1 - (intOf i).toNat) + (if (intOf j).toNat = 0 then 1 else 0))
 case atStart => exact ⟨sk l 0,0,[],by simp; omega,rfl,rfl,hG1,hR⟩
 case round =>
  obtain ⟨a,n,qs,⟨ha,hn,hna⟩,rfl,rfl,hGr,hr⟩ := hrel
  by_cases hc : n = 0 ∨ a < l.length
  ·have hln := hLn.out a n
   have hsl := hSl.out n
   have hp := lnP_le (s := slN ss r n) ha
   have hbg := bg_le hp.2
   have hlt : n ≠ 0 → a < bgN l (lnP l a (slN ss r n)).b := fun h => by
    have := lnP_b (s := slN ss r n) (show a < l.length by omega); omega
   have hlt2 : a < l.length → a < bgN l (lnP l a (slN ss r n)).b := fun h => by
    have := lnP_b (s := slN ss r n) h; omega
   have hnx : Hid (∀ W',Below z.heap.size z W' → Calls Tryz.prog 208 #[.slice a0 l.length cap,.int .i64 ((lnP l a (slN ss r n)).b : Nat)] W' fun e w' => e = .returned (.int .i64 (bgN l (lnP l a (slN ss r n)).b : Nat)) ∧ Below W'.heap.size W' w') := fun W' => hNx.out _ W' hp.2
   have hsl : Hid (Calls Tryz.prog 146 #[.int .i64 (n : Nat),.pointer (some ⟨B4,0,none⟩),.pointer (some ⟨B5,0,none⟩)] wr fun e w' => e = .returned (.agg (slL (slN ss r n)).toArray) ∧ Below wr.heap.size wr w') := hSl.out n wr hGr.low
   have hln : Hid (∀ W',Below z.heap.size z W' → Calls Tryz.prog 207 #[.slice a0 l.length cap,.int .i64 (a : Nat),.agg (slL (slN ss r n)).toArray] W' fun e w' => e = .returned (.agg (pcL (lnP l a (slN ss r n))).toArray) ∧ Below W'.heap.size W' w') := fun W' => hLn.out a n W' ha
   have hr2 : Hid ((qs ++ [lnP l a (slN ss r n)]) ++ lsR l ss r (bgN l (lnP l a (slN ss r n)).b) (n + 1) = R) := by
    show _ = R
    rw [List.append_assoc,List.singleton_append,← lsR_go ha hc]; exact hr.out
   have hput : Hid (∀ w3,Below wr.heap.size wr w3 → GW z qs ((w3.alloc (.cells #[.int .i64 0,.int .i64 0,.bool false,.bool false,.int .i64 0] 76)).setRow w3.heap.size (pcL (lnP l a (slN ss r n))).toArray) ∧ ((w3.alloc (.cells #[.int .i64 0,.int .i64 0,.bool false,.bool false,.int .i64 0] 76)).setRow w3.heap.size (pcL (lnP l a (slN ss r n))).toArray).heap[w3.heap.size]? = some (.cells (pcL (lnP l a (slN ss r n))).toArray 76 (0,0)) ∧ ∀ W,GW z qs W → W = ((w3.alloc (.cells #[.int .i64 0,.int .i64 0,.bool false,.bool false,.int .i64 0] 76)).setRow w3.heap.size (pcL (lnP l a (slN ss r n))).toArray) → Calls Tryz.prog 147 #[.pointer (some ⟨z.heap.size,0,none⟩),.agg (pcL (lnP l a (slN ss r n))).toArray] W fun e W' => (∃ v,e = .returned v) ∧ GW z (qs ++ [lnP l a (slN ss r n)]) W' ∧ W'.heap[w3.heap.size]? = some (.cells (pcL (lnP l a (slN ss r n))).toArray 76 (0,0))) := fun w3 h3 => by
    have hG3 := hGr.next h3
    have hbb : Below w3.heap.size w3 ((w3.alloc (.cells (pcL zpc).toArray 76)).setRow w3.heap.size (pcL (lnP l a (slN ss r n))).toArray) := ((Below.refl w3.heap.size w3).alloc (Nat.le_refl _) _).trans ((Turns.setRow (X := fun k => k = w3.heap.size) _ rfl _).below (by simp) (fun k hk => by omega))
    have hrow := setRow_heap (w3.alloc (.cells (pcL zpc).toArray 76)) w3.heap.size (pcL zpc).toArray (pcL (lnP l a (slN ss r n))).toArray 76 (0,0) (World.alloc_heap_new w3 _)
    refine ⟨hG3.next hbb,hrow,fun W hG4 e => ?_⟩
    subst e
    refine (take_any z qs _ (by omega) _ hG4 w3.heap.size ⟨hG3.lt,(Array.getElem?_eq_some_iff.1 hrow).1⟩ ?_).mono ?_
    ·intro va vn vc hx e
     obtain ⟨va',vn',vc',k1,k2⟩ := hGr.ex
     have k3 := ((h3.trans (hbb.mono h3.size)).block _ hGr.lt).trans k1
     have k5 := hx.symm.trans k3
     injection k5 with k5
     injection k5 with k5 _
     have k4 : Value.slice va vn vc = .slice va' vn' vc' := by simpa using k5
     rw [k4] at e
     have := (k2.lt _ e).2
     have := h3.size
     omega
    ·rintro e W' ⟨h1,h2,h3'⟩
     exact ⟨h1,h2,h3'.trans hrow⟩
   have hpa := lnP_a l a (slN ss r n)
   have hq0 : n + 1 ≤ bgN l (lnP l a (slN ss r n)).b + 1 := by
    rcases Nat.eq_zero_or_pos n with h | h
    ·omega
    ·have := hlt (by omega); omega
   have hms : (l.length + 1 - bgN l (lnP l a (slN ss r n)).b) < (l.length + 1 - a) + (if n = 0 then 1 else 0) := by
    rcases Nat.eq_zero_or_pos n with h | h
    ·rw [if_pos h]; omega
    ·have := hlt (by omega); omega
   have hmh : Hid ((l.length + 1 - bgN l (lnP l a (slN ss r n)).b) < (l.length + 1 - a) + (if n = 0 then 1 else 0)) := hms
   have hGrl : Hid (∀ w2,Below wr.heap.size wr w2 → Below z.heap.size z w2) := fun w2 h2 => hGr.low.trans (h2.mono hGr.low.size)
   have hb8 : ((lnP l a (slN ss r n)).b : Int) ≤ 8192 := by omega
   have hn8 : (n : Int) ≤ 8193 := by omega
   have hbg2 : bgN l (lnP l a (slN ss r n)).b ≤ l.length := hbg.2
   have hnq : n + 1 = (qs ++ [lnP l a (slN ss r n)]).length := by simp; omega
   clear hr hLn hSl hNx hbg hlt hlt2 hms hp hpa
   have hnqh : Hid (n + 1 = (qs ++ [lnP l a (slN ss r n)]).length) := hnq
   clear hnq hn
   generalize bgN l (lnP l a (slN ss r n)).b = a2 at *
   generalize lnP l a (slN ss r n) = p at *
   generalize slN ss r n = sv at *
   rcases Nat.eq_zero_or_pos n with h0 | h0
   ·have q0 : ((n : Int) == 0) = true := by rw [h0]; rfl
    have h0h : Hid (n = 0) := h0
    clear h0 hc
    go_wp2_with (first | (go_at_call 146; refine hsl.out.mono ?_; rintro e w2 ⟨rfl,hb2⟩) | (go_at_call 207; refine (hln.out w2 (hGrl.out w2 hb2)).mono ?_; rintro e w3 ⟨rfl,hb3⟩) | (refine wpList_store_row rfl 76 _ _ rfl w3.heap.size (pcL p).toArray rfl rfl 76 _ (World.alloc_heap_new _ _) (info41 _) rfl (pcL_all _) ?_; obtain ⟨hG4,hr4,htk⟩ := hput.out w3 (hb2.trans (hb3.mono hb2.size)); generalize (w3.alloc (.cells #[.int .i64 0,.int .i64 0,.bool false,.bool false,.int .i64 0] 76)).setRow w3.heap.size (pcL p).toArray = w4 at *) | (refine wpList_load_row rfl 76 _ rfl w3.heap.size rfl 76 _ (0,0) _ hr4 Tryz.underlying76 rfl (info41 _) ?_) | (go_at_call 147; refine (htk w4 hG4 rfl).mono ?_; rintro e w5 ⟨⟨ve,rfl⟩,hG5,hr5⟩; have cb5 : w5.cell? ⟨w3.heap.size,1,none⟩ = some (.int .i64 (p.b : Nat)) := (by rw [Lib.cell_of_heap hr5]; rfl)) | (go_at_call 208; refine (hnx.out w5 hG5.low).mono ?_; rintro e w6 ⟨rfl,hb6⟩; have hG6 := hG5.next hb6))
    go_roundw
    case rel => exact ⟨a2,n + 1,qs ++ [p],⟨hbg2,hnqh.out,hq0⟩,rfl,by simp,hG6,hr2⟩
    case measure =>
     have h1 := hmh.out
     by_cases hz : n = 0
     ·simp [intOf,hz] at h1 ⊢; omega
     ·simp [intOf,hz] at h1 ⊢; omega
   ·have q0 : ((n : Int) == 0) = false := by simp; omega
    have q1 : (a : Int) < l.length := by omega
    clear hc
    go_wp2_with (first | (go_at_call 146; refine hsl.out.mono ?_; rintro e w2 ⟨rfl,hb2⟩) | (go_at_call 207; refine (hln.out w2 (hGrl.out w2 hb2)).mono ?_; rintro e w3 ⟨rfl,hb3⟩) | (refine wpList_store_row rfl 76 _ _ rfl w3.heap.size (pcL p).toArray rfl rfl 76 _ (World.alloc_heap_new _ _) (info41 _) rfl (pcL_all _) ?_; obtain ⟨hG4,hr4,htk⟩ := hput.out w3 (hb2.trans (hb3.mono hb2.size)); generalize (w3.alloc (.cells #[.int .i64 0,.int .i64 0,.bool false,.bool false,.int .i64 0] 76)).setRow w3.heap.size (pcL p).toArray = w4 at *) | (refine wpList_load_row rfl 76 _ rfl w3.heap.size rfl 76 _ (0,0) _ hr4 Tryz.underlying76 rfl (info41 _) ?_) | (go_at_call 147; refine (htk w4 hG4 rfl).mono ?_; rintro e w5 ⟨⟨ve,rfl⟩,hG5,hr5⟩; have cb5 : w5.cell? ⟨w3.heap.size,1,none⟩ = some (.int .i64 (p.b : Nat)) := (by rw [Lib.cell_of_heap hr5]; rfl)) | (go_at_call 208; refine (hnx.out w5 hG5.low).mono ?_; rintro e w6 ⟨rfl,hb6⟩; have hG6 := hG5.next hb6))
    go_roundw
    case rel => exact ⟨a2,n + 1,qs ++ [p],⟨hbg2,hnqh.out,hq0⟩,rfl,by simp,hG6,hr2⟩
    case measure =>
     have h1 := hmh.out
     by_cases hz : n = 0
     ·simp [intOf,hz] at h1 ⊢; omega
     ·simp [intOf,hz] at h1 ⊢; omega
  ·have q0 : ((n : Int) == 0) = false := by simp; omega
   have q1 : ¬ (a : Int) < l.length := by omega
   have hfin : GW z R wr := by
    have := hr.out
    rw [lsR_no hc,List.append_nil] at this
    rw [← this]; exact hGr
   clear hr hLn hSl hNx hBg hc hn hna
   go_wp2_with fail
   go_returns
   exact ⟨⟨_,rfl⟩,hfin⟩
end Go.Proofs.YtlgcnbomfhmjiaaGreatDoor

namespace Go.Proofs.YtlgcnbomfhmjiaaGreatDoor
open Go.RowKit Go.Shelf
set_option maxRecDepth 100000
set_option maxHeartbeats 8000000

def fbrE (l : List It) (ss : List Sl) (r : Sl) : Int := if ckL l ≠ 0 then ckL l else ckS ss r
def fBrEnd (l : List It) (ss : List Sl) (r : Sl) (w : World) (e : Ending) (w' : World) : Prop :=
 (∃ v,e = .returned (.tuple #[v,.int .i64 (fbrE l ss r)]) ∧ ((fbrE l ss r ≠ 0 ∧ v = .slice none 0 0) ∨ (fbrE l ss r = 0 ∧ PcsAt w' v (lsL l ss r)))) ∧ Below w.heap.size w w'
theorem fbreak_any (v vs : Value) (l : List It) (ss : List Sl) (r : Sl) (hl : ss.length ≤ 9223372036854775807) (w : World) (hS : ItsAt w v l) (hV : SlsAt w vs ss) :
  Calls Tryz.prog 89 #[v,vs,.agg (slL r).toArray] w (fBrEnd l ss r w) := by
 obtain ⟨a,cap,rfl,-⟩ := hS.ex
 obtain ⟨a2,cap2,rfl,-⟩ := hV.ex
 have hB := below2 w (.cells #[.slice a2 ss.length cap2] 65) (.cells #[.int .i64 r.x,.int .i64 r.w] 53)
 have h4 : ((w.alloc (.cells #[.slice a2 ss.length cap2] 65)).alloc (.cells #[.int .i64 r.x,.int .i64 r.w] 53)).heap[w.heap.size]? = some (.cells #[.slice a2 ss.length cap2] 65) := (Below.heap_alloc _ _ _ (by simp)).trans (World.alloc_heap_new w _)
 have h5 := alloc2_heap w (.cells #[.slice a2 ss.length cap2] 65) (.cells #[.int .i64 r.x,.int .i64 r.w] 53)
 have hS1 := hS.below hB (Nat.le_refl _)
 have hV1 := hV.below hB (Nat.le_refl _)
 have hC : Hid (Calls Tryz.prog 144 #[.slice a l.length cap] ((w.alloc (.cells #[.slice a2 ss.length cap2] 65)).alloc (.cells #[.int .i64 r.x,.int .i64 r.w] 53)) fun e w' => e = .returned (.int .i64 (ckL l)) ∧ Below ((w.alloc (.cells #[.slice a2 ss.length cap2] 65)).alloc (.cells #[.int .i64 r.x,.int .i64 r.w] 53)).heap.size ((w.alloc (.cells #[.slice a2 ss.length cap2] 65)).alloc (.cells #[.int .i64 r.x,.int .i64 r.w] 53)) w') := icheck_any _ l _ hS1
 show Calls Tryz.prog 89 #[.slice a l.length cap,.slice a2 ss.length cap2,.agg #[.int .i64 r.x,.int .i64 r.w]] w _
 have hbr : Hid (fbrE l ss r = if ckL l ≠ 0 then ckL l else ckS ss r) := rfl
 have hEnd : Hid (∀ v W,(fbrE l ss r ≠ 0 ∧ v = .slice none 0 0) ∨ (fbrE l ss r = 0 ∧ PcsAt W v (lsL l ss r)) → Below w.heap.size w W → fBrEnd l ss r w (.returned (.tuple #[v,.int .i64 (fbrE l ss r)])) W) := fun v W h1 h2 => ⟨⟨v,rfl,h1⟩,h2⟩
 have hF : Hid (∀ W,Below ((w.alloc (.cells #[.slice a2 ss.length cap2] 65)).alloc (.cells #[.int .i64 r.x,.int .i64 r.w] 53)).heap.size ((w.alloc (.cells #[.slice a2 ss.length cap2] 65)).alloc (.cells #[.int .i64 r.x,.int .i64 r.w] 53)) W → Calls Tryz.prog 78 #[.slice a2 ss.length cap2,.agg #[.int .i64 r.x,.int .i64 r.w]] W fun e w' => e = .returned (.int .i64 (ckS ss r)) ∧ Below W.heap.size W w') := fun W hW => fcheck_any _ ss r hl W (hV1.below hW (Nat.le_refl _))
 have hE : Hid (ckL l = 0 → ckS ss r = 0 → ∀ W,Below ((w.alloc (.cells #[.slice a2 ss.length cap2] 65)).alloc (.cells #[.int .i64 r.x,.int .i64 r.w] 53)).heap.size ((w.alloc (.cells #[.slice a2 ss.length cap2] 65)).alloc (.cells #[.int .i64 r.x,.int .i64 r.w] 53)) W → Calls Tryz.prog 145 #[.slice a l.length cap,.func (.func 146) #[] #[.pointer (some ⟨w.heap.size,0,none⟩),.pointer (some ⟨w.heap.size + 1,0,none⟩)],.func (.func 147) #[.pointer (some ⟨W.heap.size,0,none⟩)] #[]] (W.alloc (.cells #[.slice none 0 0] 210)) fun e W' => (∃ v,e = .returned v) ∧ GW W (lsL l ss r) W') := fun h1 h2 W hW => by
  have k4 := (hW.block _ (by simp; omega)).trans h4
  have k5 := (hW.block _ (by simp)).trans h5
  exact eachLine_any W _ _ l ss r _ _ h1 h2 (hS1.below hW (Nat.le_refl _)) k4 k5 (hV1.below hW (Nat.le_refl _)) _ ⟨(Below.refl W.heap.size W).alloc (Nat.le_refl _) _,none,0,0,World.alloc_heap_new W _,World.ownsRow_nil _ _ _ _⟩
 have hx1 : ((w.alloc (.cells #[.slice a2 ss.length cap2] 65)).alloc (.cells #[.int .i64 r.x,.int .i64 r.w] 53)).cell? ⟨w.heap.size,0,none⟩ = some (.slice a2 ss.length cap2) := by rw [Lib.cell_of_heap h4]; rfl
 have hx2 : ((w.alloc (.cells #[.slice a2 ss.length cap2] 65)).alloc (.cells #[.int .i64 r.x,.int .i64 r.w] 53)).cell? ⟨w.heap.size + 1,0,none⟩ = some (.int .i64 r.x) := by rw [Lib.cell_of_heap h5]; rfl
 have hx3 : ((w.alloc (.cells #[.slice a2 ss.length cap2] 65)).alloc (.cells #[.int .i64 r.x,.int .i64 r.w] 53)).cell? ⟨w.heap.size + 1,1,none⟩ = some (.int .i64 r.w) := by rw [Lib.cell_of_heap h5]; rfl
 have hz : w.heap.size + 1 < ((w.alloc (.cells #[.slice a2 ss.length cap2] 65)).alloc (.cells #[.int .i64 r.x,.int .i64 r.w] 53)).heap.size := by simp
 have hBh : Hid (Below w.heap.size w ((w.alloc (.cells #[.slice a2 ss.length cap2] 65)).alloc (.cells #[.int .i64 r.x,.int .i64 r.w] 53))) := hB
 have hcl : Hid (∀ W,Below ((w.alloc (.cells #[.slice a2 ss.length cap2] 65)).alloc (.cells #[.int .i64 r.x,.int .i64 r.w] 53)).heap.size ((w.alloc (.cells #[.slice a2 ss.length cap2] 65)).alloc (.cells #[.int .i64 r.x,.int .i64 r.w] 53)) W → W.cell? ⟨w.heap.size,0,none⟩ = some (.slice a2 ss.length cap2) ∧ W.cell? ⟨w.heap.size + 1,0,none⟩ = some (.int .i64 r.x) ∧ W.cell? ⟨w.heap.size + 1,1,none⟩ = some (.int .i64 r.w)) := fun W hW => ⟨(hW.cell (Nat.lt_trans (Nat.lt_succ_self _) hz)).trans hx1,(hW.cell hz).trans hx2,(hW.cell hz).trans hx3⟩
 clear hS hV hS1 hV1 h4 h5 hB hx1 hx2 hx3 hz
 generalize lsL l ss r = R at *
 generalize fbrE l ss r = br at *
 generalize ckL l = c1 at *
 generalize ckS ss r = c2 at *
 by_cases h1 : c1 = 0
 ·have q1 : (c1 != 0) = false := by rw [h1]; rfl
  have hbr2 : br = c2 := by rw [hbr.out,if_neg (by simpa using h1)]
  subst hbr2
  by_cases h2 : br = 0
  ·have hE2 : Hid (∀ W,Below ((w.alloc (.cells #[.slice a2 ss.length cap2] 65)).alloc (.cells #[.int .i64 r.x,.int .i64 r.w] 53)).heap.size ((w.alloc (.cells #[.slice a2 ss.length cap2] 65)).alloc (.cells #[.int .i64 r.x,.int .i64 r.w] 53)) W → Calls Tryz.prog 145 #[.slice a l.length cap,.func (.func 146) #[] #[.pointer (some ⟨w.heap.size,0,none⟩),.pointer (some ⟨w.heap.size + 1,0,none⟩)],.func (.func 147) #[.pointer (some ⟨W.heap.size,0,none⟩)] #[]] (W.alloc (.cells #[.slice none 0 0] 210)) fun e W' => (∃ v,e = .returned v) ∧ GW W R W') := hE.out h1 h2
   have q2 : (br != 0) = false := by rw [h2]; rfl
   have hEnd2 : Hid (∀ v W,PcsAt W v R → Below w.heap.size w W → fBrEnd l ss r w (.returned (.tuple #[v,.int .i64 0])) W) := fun v W k1 k2 => by
    have := hEnd.out v W (.inr ⟨h2,k1⟩) k2
    rwa [h2] at this
   clear hE hbr hEnd h1 h2
   go_enter Tryz.func89,Tryz.ntmps89
   go_wp2_with fail
   generalize (w.alloc (.cells #[.slice a2 ss.length cap2] 65)).alloc (.cells #[.int .i64 r.x,.int .i64 r.w] 53) = wz at *
   go_wp2_with (first | (go_at_call 144; refine hC.out.mono ?_; rintro e w1 ⟨rfl,hb1⟩; obtain ⟨x1,x2,x3⟩ := hcl.out w1 hb1) | (go_at_call 78; refine (hF.out w1 hb1).mono ?_; rintro e w2 ⟨rfl,hb2⟩; have hb12 := hb1.trans (hb2.mono hb1.size)) | (go_at_call 145; refine (hE2.out w2 hb12).mono ?_; rintro e w3 ⟨⟨ve,rfl⟩,hG3⟩; obtain ⟨va,vn,vc,hbx,hrow⟩ := hG3.ex; have cg : w3.cell? ⟨w2.heap.size,0,none⟩ = some (.slice va vn vc) := (by rw [Lib.cell_of_heap hbx]; rfl)))
   go_ret2
   refine hEnd2.out _ _ (rec_of_row pcL_len rfl hrow) ?_
   have hb2z : Below w.heap.size w w2 := hBh.out.trans (hb12.mono hBh.out.size)
   exact hb2z.trans (hG3.low.mono hb2z.size)
  ·have q2 : (br != 0) = true := by simpa using h2
   have hEnd2 : Hid (∀ W,Below w.heap.size w W → fBrEnd l ss r w (.returned (.tuple #[.slice none 0 0,.int .i64 br])) W) := fun W k2 => hEnd.out _ W (.inl ⟨h2,rfl⟩) k2
   clear hE hbr hEnd h1 h2
   go_enter Tryz.func89,Tryz.ntmps89
   go_wp2_with fail
   generalize (w.alloc (.cells #[.slice a2 ss.length cap2] 65)).alloc (.cells #[.int .i64 r.x,.int .i64 r.w] 53) = wz at *
   go_wp2_with (first | (go_at_call 144; refine hC.out.mono ?_; rintro e w1 ⟨rfl,hb1⟩; obtain ⟨x1,x2,x3⟩ := hcl.out w1 hb1) | (go_at_call 78; refine (hF.out w1 hb1).mono ?_; rintro e w2 ⟨rfl,hb2⟩; have hb12 := hb1.trans (hb2.mono hb1.size)))
   go_ret2
   exact hEnd2.out _ (hBh.out.trans (hb12.mono hBh.out.size))
 ·have q1 : (c1 != 0) = true := by simpa using h1
  have hbr2 : br = c1 := by rw [hbr.out,if_pos h1]
  subst hbr2
  have hEnd2 : Hid (∀ W,Below w.heap.size w W → fBrEnd l ss r w (.returned (.tuple #[.slice none 0 0,.int .i64 br])) W) := fun W k2 => hEnd.out _ W (.inl ⟨h1,rfl⟩) k2
  clear hE hbr hEnd h1 hF
  go_enter Tryz.func89,Tryz.ntmps89
  go_wp2_with fail
  generalize (w.alloc (.cells #[.slice a2 ss.length cap2] 65)).alloc (.cells #[.int .i64 r.x,.int .i64 r.w] 53) = wz at *
  go_wp2_with (go_at_call 144; refine hC.out.mono ?_; rintro e w1 ⟨rfl,hb1⟩)
  go_ret2
  exact hEnd2.out _ (hBh.out.trans (hb1.mono hBh.out.size))
end Go.Proofs.YtlgcnbomfhmjiaaGreatDoor

namespace Go.Proofs.YtlgcnbomfhmjiaaGreatDoor
open Go.RowKit Go.Shelf

theorem sls_slot {W : World} {v : Value} {ss : List Sl} {r : Sl} {k : Nat} (hl : ss.length ≤ 9223372036854775807) (hS : SlsAt W v ss) : Calls Tryz.prog 37 #[v,.agg (slL r).toArray,.int .i64 (k : Nat)] W fun e w' => e = .returned (.agg (slL (slN ss r k)).toArray) ∧ Below W.heap.size W w' := by
 have := fslot_any v ss r k hl W hS
 rw [slI_nat] at this
 exact this
end Go.Proofs.YtlgcnbomfhmjiaaGreatDoor
