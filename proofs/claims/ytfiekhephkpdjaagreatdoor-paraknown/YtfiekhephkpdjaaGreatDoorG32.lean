/-
  What is proved here: the plan that Break of least makes, its last region.
  What is proved here: what Break of least answers.
  What is proved here: what search and Break of least do where no line leads to a break.
  What is proved here: what Inner of para answers.
  What is proved here: what end, choose, asFits and best of para answer.
-/
import Derived.Test.YtfiekhephkpdjaaGreatDoorG31
import Derived.Test.YtfiekhephkpdjaaGreatDoorG30
import Derived.Test.YtfiekhephkpdjaaGreatDoorG13
import Derived.Test.YtfiekhephkpdjaaGreatDoorG14
import Derived.Test.YtfiekhephkpdjaaGreatDoorG25
import Derived.Test.YtfiekhephkpdjaaGreatDoorG22
namespace Go.Proofs.YtfiekhephkpdjaaGreatDoor
open Go.RowKit Go.Shelf

theorem rec_cell {α : Type} {k : Nat} {f : α → List Value} {W : World} {b o n cap : Nat} {rs : List α} (h : RecAt k f W (.slice (some ⟨b,o,none⟩) n cap) rs) (hn : 0 < rs.length) : b < W.heap.size ∧ ∀ i (hi : i < rs.length) j u,(f rs[i])[j]? = some u → W.cell? ⟨b,o + i * k + j,none⟩ = some u := by
 obtain ⟨a,c,e,h2⟩ := h.ex
 rcases h2 with h2 | ⟨b',o',e',hb,hc⟩
 ·rw [h2] at hn; cases hn
 ·subst e'
  cases e
  exact ⟨hb,hc⟩
theorem MapW.nocell {w : World} {mb M : Nat} {f : Nat × Nat → Option Wy} (h : MapW w mb f M) (j : Nat) : w.cell? ⟨mb,j,none⟩ = none := by
 obtain ⟨D,⟨es,clock,hb2,_⟩,_⟩ := h
 unfold World.cell?
 simp [hb2]
def plB (l : List It) (ss : List Sl) (r : Sl) (B gs os cs gw ow cw mb : Nat) : Pl := ⟨B,gs,os,cs,gw,ow,cw,mb,stopsL l,wdsL ss r⟩
theorem stops_some (l : List It) : 0 < (stopsL l).length := by rw [stopsL_len]; unfold spA; simp
theorem wds_some (ss : List Sl) (r : Sl) : 0 < (wdsL ss r).length := by unfold wdsL; rw [wdL_len]; exact (kN_le _ _ _).2 (by omega)
theorem plB_ok {l : List It} {ss : List Sl} {r : Sl} (hck : ckL l = 0) (hcs : ckS ss r = 0) (B gs os cs gw ow cw mb : Nat) : PlOk l (plB l ss r B gs os cs gw ow cw mb) := by
 refine ⟨hck,fun x hx => ⟨stopsL_f hck x hx,stopsL_ok hck x hx⟩,fun x hx => ?_,⟨stops_some l,?_⟩,⟨wds_some ss r,?_⟩⟩
 ·have hx' : x ∈ wdsL ss r := hx
  unfold wdsL wdL at hx'
  obtain ⟨i,-,rfl⟩ := List.mem_map.1 hx'
  exact (okS_rng (slN_ok hcs i)).2
 ·show (stopsL l).length ≤ _
  rw [stopsL_len]
  have := spA_len l
  have := ck_len hck
  omega
 ·show (wdsL ss r).length ≤ _
  unfold wdsL
  rw [wdL_len]
  have := (kN_le (wdF ss r) r.w (ss.length + 1)).1
  have := ckS_few hcs
  omega
theorem plan_made {l : List It} {ss : List Sl} {r : Sl} {W : World} {gs os cs gw ow cw mb R : Nat} (hs : StsAt W (.slice (some ⟨gs,os,none⟩) (stopsL l).length cs) (stopsL l)) (hw : IntsAt W (.slice (some ⟨gw,ow,none⟩) (wdsL ss r).length cw) (wdsL ss r)) (hm : MapW W mb (fun _ => none) 0)
  (hR : W.heap[R]? = some (.cells #[.slice none 0 0,.slice none 0 0,.map none] 139 (0,0))) :
  PlM (plB l ss r R gs os cs gw ow cw mb) (fun _ => none) 0 (W.setRow R #[.slice (some ⟨gs,os,none⟩) (stopsL l).length cs,.slice (some ⟨gw,ow,none⟩) (wdsL ss r).length cw,.map (some mb)]) := by
 obtain ⟨s1,s2⟩ := rec_cell hs (stops_some l)
 obtain ⟨w1,w2⟩ := rec_cell hw (wds_some ss r)
 have ht := Turns.setRow (X := fun k => k = R) W rfl #[.slice (some ⟨gs,os,none⟩) (stopsL l).length cs,.slice (some ⟨gw,ow,none⟩) (wdsL ss r).length cw,.map (some mb)]
 have cs0 : ∀ j n,W.cell? ⟨R,j,none⟩ ≠ some (.int .i64 n) := fun j n e => by
  rw [Lib.cell_of_heap hR] at e
  match j,e with
  | 0,e => cases e
  | 1,e => cases e
  | 2,e => cases e
  | j + 3,e => simp at e
 have es := s2 0 (stops_some l) 0 _ rfl
 have ew := w2 0 (wds_some ss r) 0 _ rfl
 have nsR : gs ≠ R := fun e => by rw [e] at es; exact cs0 _ _ es
 have nwR : gw ≠ R := fun e => by rw [e] at ew; exact cs0 _ _ ew
 have nsm : gs ≠ mb := fun e => by rw [e,hm.nocell] at es; cases es
 have nwm : gw ≠ mb := fun e => by rw [e,hm.nocell] at ew; cases ew
 have nRm : R ≠ mb := fun e => by
  have h1 := hm.nocell 0
  rw [← e,Lib.cell_of_heap hR] at h1
  cases h1
 refine ⟨⟨setRow_heap _ _ _ _ _ _ hR,fun i hi => ?_,fun i hi => ?_,Nat.lt_of_lt_of_le w1 ht.size,Nat.lt_of_lt_of_le s1 ht.size,nRm,nsm,nwm⟩,hm.turns ht (fun e => nRm e.symm)⟩
 ·exact StAt.turns (W := W) ⟨s1,fun j u hu => s2 i hi j u hu⟩ ht nsR
 ·have := w2 i hi 0 _ rfl
  rw [Nat.mul_one,Nat.add_zero] at this
  exact cell_turns this w1 ht nwR
end Go.Proofs.YtfiekhephkpdjaaGreatDoor

namespace Go.Proofs.YtfiekhephkpdjaaGreatDoor
open Go.RowKit Go.Shelf

theorem rfE_ok {l : List It} {ss : List Sl} {r : Sl} (h : rfE l ss r = 0) : ckL l = 0 ∧ ckS ss r = 0 := by
 unfold rfE at h
 split at h
 ·contradiction
 ·rename_i h1
  split at h
  ·contradiction
  ·rename_i h2
   exact ⟨Decidable.not_not.1 h1,Decidable.not_not.1 h2⟩
end Go.Proofs.YtfiekhephkpdjaaGreatDoor

namespace Go.Proofs.YtfiekhephkpdjaaGreatDoor
open Go.RowKit Go.Shelf
set_option maxRecDepth 100000
set_option maxHeartbeats 4000000

theorem search_miss (l : List It) (P : Pl) (hO : PlOk l P) (f : Nat × Nat → Option Wy) (M : Nat) (hM : M < maxLen) (h0 : ∀ n,n < P.wds.length → updW f (0,0) wy0 (P.sts.length - 1,n) = none) (hnil : ∀ b,b < P.sts.length → dlL P b 0 (lmL (updW f (0,0) wy0) 0 b) = []) (w : World) (hP : PlM P f M w) :
  Calls Tryz.prog 66 #[.pointer (some ⟨P.B,0,none⟩)] w fun e w' => e = .returned (.tuple #[]) ∧ PlM P (updW f (0,0) wy0) (M + 1) w' ∧ Turns (fun k => k = P.mb) w w' := by
 have hw257 := hO.nw
 have c1 := hP.p.c1
 have c2 := hP.p.c2
 obtain ⟨w1,hrun0,hm1,ht1⟩ := hP.m.put (by omega) (0,0) ⟨by show 0 ≤ _; omega,by show 0 ≤ _; omega⟩ wy0
 have hrun : (Instr.mapUpdate 137 (.map (some P.mb)) (.agg #[.int .i64 0,.int .i64 0]) (.agg #[.int .i64 0,.int .i64 0,.int .i64 0])).run Tryz.prog w = .ok () w1 := hrun0
 have hP1 : Hid (PlM P (updW f (0,0) wy0) (M + 1) w1) := ⟨hP.p.map ht1,hm1⟩
 have c1' := hP1.out.p.c1
 have ht1h : Hid (Turns (fun k => k = P.mb) w w1) := ht1
 have hlv : Hid (Calls Tryz.prog 102 #[.pointer (some ⟨P.B,0,none⟩),.int .i64 0] w1 fun e w' => e = .returned (.bool false) ∧ PlM P (updW f (0,0) wy0) (M + 1) w' ∧ Turns (fun k => k = P.mb) w1 w') := level_miss l P hO _ (M + 1) 0 hw257.1 h0 hnil w1 hP1.out
 have hlt' : (0 : Int) < P.wds.length := by omega
 clear hP hO hrun0 hm1 ht1 hM h0 hnil
 generalize updW f (0,0) wy0 = f0 at *
 go_enter Tryz.func66,Tryz.ntmps66
 go_wp2_with fail
 clear c1 c2 c1' hrun
 go_loopw [14] (fun v14 wr => v14 = .int .i64 0 ∧ wr = w1) (fun _ _ => 0)
 case atStart => exact ⟨rfl,rfl⟩
 case round =>
  obtain ⟨rfl,hw⟩ := hrel
  subst hw
  go_wp2_with (go_at_call 102; refine hlv.out.mono ?_; rintro e w3 ⟨rfl,hp3,ht3⟩; have hp3h : Hid (PlM P f0 (M + 1) w3) := hp3; have ht3h : Hid (Turns (fun k => k = P.mb) w w3) := ht1h.out.trans ht3; clear hp3 ht3 hlv)
  exact bodyPost_ret (v := .tuple #[]) (by kernel_rfl) rfl ⟨rfl,hp3h.out,ht3h.out⟩
def MissP (P : Pl) : Prop := (∀ n,n < P.wds.length → updW (fun _ => none) (0,0) wy0 (P.sts.length - 1,n) = none) ∧ ∀ b,b < P.sts.length → dlL P b 0 (lmL (updW (fun _ => none) (0,0) wy0) 0 b) = []
theorem break_miss (v vs : Value) (l : List It) (ss : List Sl) (r : Sl) (hl : ss.length ≤ 9223372036854775807) (hll : l.length ≤ 9223372036854775807) (hz : rfE l ss r = 0) (he : ¬ sk l 0 = l.length) (hmi : ∀ B gs os cs gw ow cw mb,MissP (plB l ss r B gs os cs gw ow cw mb)) (w : World) (hS : ItsAt w v l) (hV : SlsAt w vs ss) :
  Calls Tryz.prog 36 #[v,vs,.agg (slL r).toArray] w fun e w' => e = .returned (.tuple #[.slice none 0 0,.int .i64 0,.int .i64 6]) ∧ Below w.heap.size w w' := by
 have hb0 := (Below.refl w.heap.size w).alloc (Nat.le_refl _) (.cells #[.int .i64 r.x,.int .i64 r.w] 32)
 have hbox : (w.alloc (.cells #[.int .i64 r.x,.int .i64 r.w] 32)).heap[w.heap.size]? = some (.cells #[.int .i64 r.x,.int .i64 r.w] 32 (0,0)) := World.alloc_heap_new w _
 have hS1 : Hid (BrS v l vs ss w.heap.size r (w.alloc (.cells #[.int .i64 r.x,.int .i64 r.w] 32))) := ⟨hS.below hb0 (Nat.le_refl _),hV.below hb0 (Nat.le_refl _),hbox⟩
 have hrf : Hid (Calls Tryz.prog 61 #[v,vs,.agg #[.int .i64 r.x,.int .i64 r.w]] (w.alloc (.cells #[.int .i64 r.x,.int .i64 r.w] 32)) fun e w' => e = .returned (.int .i64 (rfE l ss r)) ∧ Below (w.alloc (.cells #[.int .i64 r.x,.int .i64 r.w] 32)).heap.size (w.alloc (.cells #[.int .i64 r.x,.int .i64 r.w] 32)) w') := lrefuse_any v vs l ss r hl _ hS1.out.i hS1.out.s
 have hbg : Hid (∀ W,ItsAt W v l → Calls Tryz.prog 62 #[v] W fun e w' => e = .returned (.int .i64 (sk l 0 : Nat)) ∧ Below W.heap.size W w') := fun W hW => begin_any v l hll W hW
 have hb0h : Hid (Below w.heap.size w (w.alloc (.cells #[.int .i64 r.x,.int .i64 r.w] 32))) := hb0
 obtain ⟨a,cap,rfl,-⟩ := hS.ex
 have hbx2 : ∀ W : World,W.heap[w.heap.size]? = some (.cells #[.int .i64 r.x,.int .i64 r.w] 32 (0,0)) → W.cell? ⟨w.heap.size,0,none⟩ = some (.int .i64 r.x) := fun W h => by rw [Lib.cell_of_heap h]; rfl
 have hend : Hid (∀ W,Below w.heap.size w W → (fun (e : Ending) (w' : World) => e = .returned (.tuple #[.slice none 0 0,.int .i64 0,.int .i64 6]) ∧ Below w.heap.size w w') (.returned (.tuple #[.slice none 0 0,.int .i64 0,.int .i64 6])) W) := fun W h1 => ⟨rfl,h1⟩
 clear hS hV hb0 hbx2
 generalize (fun (e : Ending) (w' : World) => e = .returned (.tuple #[.slice none 0 0,.int .i64 0,.int .i64 6]) ∧ Below w.heap.size w w') = E at *
 show Calls Tryz.prog 36 #[.slice a l.length cap,vs,.agg #[.int .i64 r.x,.int .i64 r.w]] w E
 obtain ⟨hck,hcs⟩ := rfE_ok hz
 rw [hz] at hrf
 have hckh : Hid (ckL l = 0) := hck
 have hcsh : Hid (ckS ss r = 0) := hcs
 have hl8 := ck_len hck
 have hskl := sk_len (l := l)
 have hne : ((sk l 0 : Int) == (l.length : Int)) = false := by rw [beq_eq_false_iff_ne]; omega
 have hbgh : Hid (∀ W,ItsAt W (.slice a l.length cap) l → Calls Tryz.prog 62 #[.slice a l.length cap] W fun e w' => e = .returned (.int .i64 (sk l 0 : Nat)) ∧ Below W.heap.size W w') := hbg
 clear hck hcs hbg he hskl hz
 go_enter Tryz.func36,Tryz.ntmps36
 go_wp2_with (first | (go_at_call 61; refine hrf.out.mono ?_; rintro e w2 ⟨rfl,hb2⟩; have hS2 : Hid (BrS (.slice a l.length cap) l vs ss w.heap.size r w2) := hS1.out.below hb2; have hB2 : Hid (Below w.heap.size w w2) := hb0h.out.trans (hb2.mono hb0h.out.size); clear hb2 hS1 hb0h hrf hbox) | (go_at_call 62; refine (hbgh.out w2 hS2.out.i).mono ?_; rintro e w3 ⟨rfl,hb3⟩; have hS3 : Hid (BrS (.slice a l.length cap) l vs ss w.heap.size r w3) := hS2.out.below hb3; have hB3 : Hid (Below w.heap.size w w3) := hB2.out.trans (hb3.mono hB2.out.size); clear hb3 hS2 hB2 hbgh))
 refine br_r6 _ (fun _ _ _ _ _ h => h) _ _ (.slice a l.length cap) vs l ss w.heap.size r w3 w3 (below_drew w3) (hS3.out.below (below_drew w3)) hckh.out hcsh.out ⟨stops_some l,wds_some ss r⟩ hS3.out (fun va vb gs os cs gw ow cw mb R w4 hb4 hS4 f1 f2 f5 f6 f8 => ?_)
 have hP4 : Hid (PlM (plB l ss r R gs os cs gw ow cw mb) (fun _ => none) 0 (w4.setRow R #[.slice (some ⟨gs,os,none⟩) (stopsL l).length cs,.slice (some ⟨gw,ow,none⟩) (wdsL ss r).length cw,.map (some mb)])) := plan_made f2 f5 f6.2 f8.2
 have hB4 : Hid (Below w.heap.size w (w4.setRow R #[.slice (some ⟨gs,os,none⟩) (stopsL l).length cs,.slice (some ⟨gw,ow,none⟩) (wdsL ss r).length cw,.map (some mb)])) := by
  have h1 := hB3.out.trans (hb4.mono hB3.out.size)
  have h2 := hB3.out.size
  exact h1.trans ((Turns.setRow (X := fun k => k = R) _ rfl _).below h1.size (fun k hk => by have := f8.1; omega))
 have hmbw : Hid (w.heap.size ≤ mb) := by have := hB3.out.size; have := f6.1; show _ ≤ _; omega
 have hMi := hmi R gs os cs gw ow cw mb
 have hO := plB_ok hckh.out hcsh.out R gs os cs gw ow cw mb
 have hPB : (plB l ss r R gs os cs gw ow cw mb).B = R := rfl
 have hPm : Hid ((plB l ss r R gs os cs gw ow cw mb).mb = mb) := rfl
 clear hb4 hS4 f1 f2 f5 f6 f8 hS3 hB3 hmi
 generalize w4.setRow R #[.slice (some ⟨gs,os,none⟩) (stopsL l).length cs,.slice (some ⟨gw,ow,none⟩) (wdsL ss r).length cw,.map (some mb)] = w5 at *
 generalize plB l ss r R gs os cs gw ow cw mb = P at *
 obtain rfl : R = P.B := hPB.symm
 have hsr : Hid (Calls Tryz.prog 66 #[.pointer (some ⟨P.B,0,none⟩)] w5 fun e w' => e = .returned (.tuple #[]) ∧ PlM P (updW (fun _ => none) (0,0) wy0) 1 w' ∧ Turns (fun k => k = P.mb) w5 w') := search_miss l P hO (fun _ => none) 0 (by unfold maxLen; omega) hMi.1 hMi.2 w5 hP4.out
 have hMh : Hid (MissP P) := hMi
 have hOh : Hid (PlOk l P) := hO
 clear hO hPB hP4 hMi
 unfold fb4
 go_wp2_with (go_at_call 66; refine hsr.out.mono ?_; rintro e w6 ⟨rfl,hP6,ht6⟩; have hP6h : Hid (PlM P (updW (fun _ => none) (0,0) wy0) 1 w6) := hP6; have hB6 : Hid (Below w.heap.size w w6) := hB4.out.trans (ht6.below hB4.out.size (fun k hk => by rw [hk,hPm.out]; exact hmbw.out)); clear hP6 ht6 hsr hB4)
 have hs8 := hOh.out.ns
 have hpe2 : Hid (Calls Tryz.prog 67 #[.pointer (some ⟨P.B,0,none⟩)] w6 fun e w' => e = .returned (.tuple #[.agg #[.int .i64 0,.int .i64 0,.int .i64 0],.bool false]) ∧ Below w6.heap.size w6 w') := pend_none P _ 1 hs8 hOh.out.nw hMh.out.1 w6 hP6h.out
 clear hOh hMh
 go_wp2_with (go_at_call 67; refine hpe2.out.mono ?_; rintro e w7 ⟨rfl,hb7⟩; have hB7 : Hid (Below w.heap.size w w7) := hB6.out.trans (hb7.mono hB6.out.size); clear hb7 hpe2 hB6 hP6h)
 exact hend.out _ (hB7.out.alloc hB7.out.size _)
end Go.Proofs.YtfiekhephkpdjaaGreatDoor

namespace Go.Proofs.YtfiekhephkpdjaaGreatDoor
open Go.RowKit Go.Shelf
set_option maxRecDepth 100000
set_option maxHeartbeats 4000000

def inN (a : Pa) (ss : List Sl) : Nat := max (max ss.length 1) a.p.p14.toNat
def inS (q : Tk) (ss : List Sl) (r : Sl) (n : Nat) : Sl := tkI q n (slN ss r n) 5
def inK (f : Nat → Sl) (N k : Nat) : List Sl := (List.range N).map fun i => if i < k then f i else sl0
def inL' (f : Nat → Sl) (N : Nat) : List Sl := (List.range N).map f
def inSs (a : Pa) (ss : List Sl) (r : Sl) : List Sl := inL' (inS (tkP a) ss r) (inN a ss)
def inR (a : Pa) (ss : List Sl) (r : Sl) : Sl := tkI (tkP a) (inN a ss : Nat) r 5
theorem inK_len (f : Nat → Sl) (N k : Nat) : (inK f N k).length = N := by simp [inK]
theorem inK_zero (f : Nat → Sl) (N : Nat) : inK f N 0 = List.replicate N sl0 := by
 apply List.ext_getElem
 ·simp [inK]
 ·intro i h1 h2; simp [inK]
theorem inK_all (f : Nat → Sl) (N : Nat) : inK f N N = inL' f N := by
 apply List.ext_getElem
 ·simp [inK,inL']
 ·intro i h1 h2
  have : i < N := by simpa [inK] using h1
  simp [inK,inL',this]
theorem inK_set {f : Nat → Sl} {N k : Nat} (_hk : k < N) : (inK f N k).set k (f k) = inK f N (k + 1) := by
 apply List.ext_getElem
 ·simp [inK]
 ·intro i h1 h2
  have hi : i < N := by simpa [inK] using h1
  rw [List.getElem_set]
  simp only [inK,List.getElem_map,List.getElem_range]
  split
  ·rename_i e; subst e; rw [if_pos (by omega)]
  ·split
   ·rw [if_pos (by omega)]
   ·rw [if_neg (by omega)]
theorem slL_len (s : Sl) : (slL s).length = 2 := rfl
theorem infoP30z : ∃ i z,Tryz.prog.info? 32 = some i ∧ i.zero = some z ∧ i.size = 2 ∧ i.bytes = 16 ∧ z = .agg (slL sl0).toArray := by
 have h : (Tryz.prog.info? 32).map (fun i => (i.zero,i.size,i.bytes)) = some (some (.agg (slL sl0).toArray),2,16) := by kernel_rfl
 cases hi : Tryz.prog.info? 32 with
 | none => rw [hi] at h; cases h
 | some i =>
  rw [hi] at h
  simp only [Option.map_some,Option.some.injEq,Prod.mk.injEq] at h
  obtain ⟨h1,h2,h3⟩ := h
  exact ⟨i,_,rfl,h1,h2,h3,rfl⟩
theorem make28 {n : Nat} (h : n ≤ 9100) (W : World) : (Instr.makeSlice 45 (.int .i64 (n : Int)) (.int .i64 (n : Int))).run Tryz.prog W = .ok (.slice (some ⟨W.heap.size,0,none⟩) n n) (W.alloc (.cells ((List.replicate n sl0).flatMap slL).toArray 32)) := by
 obtain ⟨i9,z,hi,hz0,hz1,hz2,rfl⟩ := infoP30z
 have := run_makeSlice (P := Tryz.prog) (w := W) 45 32 i9 _ Tryz.underlying45 hi hz0 .i64 .i64 n n (by omega) (by omega) (by rw [hz1]; omega) (by rw [hz2]; omega) (by omega)
 rw [hz1,Int.toNat_natCast] at this
 rw [← made_rec slL_len (by omega)]
 exact this
theorem made28 (W : World) (n : Nat) : RB 2 slL (W.alloc (.cells ((List.replicate n sl0).flatMap slL).toArray 32)) W.heap.size (List.replicate n sl0) :=
 RB.of_row (World.alloc_heap_new W _) fun i hi j v hv => by
  have hj : j < 2 := by have := (List.getElem?_eq_some_iff.1 hv).1; rw [slL_len] at this; exact this
  have := fm_get slL_len (List.replicate n sl0) hi j hj
  rw [hv] at this
  simpa using this
def rest13 : Code := (((Code.region 6 #[⟨some 30,.move (.tmp 11),45,"para.go:31",#[],none⟩,⟨some 31,.call ⟨.builtin .len,#[.tmp 30],#[45]⟩,3,"para.go:31",#[⟨0,.data⟩],none⟩,⟨some 32,.move (.const (.int .i64 0)),3,"para.go:31",#[],none⟩] false).seq (Code.block 0 ((Code.region 7 #[⟨some 33,.binOp .lss 3 (.tmp 32) (.tmp 31) 3,0,"para.go:31",#[],none⟩] false).seq ((Code.cond (Operand.tmp 33) Code.skip (Code.exit 0)).seq ((Code.block 1 ((Code.region 8 #[⟨some 34,.move (.tmp 32),3,"para.go:31",#[],none⟩,⟨some 12,.assign (.tmp 34),3,"para.go:31",#[⟨0,.data⟩,⟨0,.phase⟩],none⟩] false).seq (Code.region 9 #[⟨some 35,.move (.tmp 11),45,"para.go:32",#[],none⟩,⟨some 36,.move (.tmp 12),3,"para.go:32",#[],none⟩,⟨some 37,.move (.tmp 10),62,"para.go:32",#[],none⟩,⟨some 38,.move (.tmp 12),3,"para.go:32",#[],none⟩,⟨some 39,.move (.tmp 1),45,"para.go:32",#[],none⟩,⟨some 40,.load 32 (.tmp 5),32,"para.go:32",#[],none⟩,⟨some 41,.move (.tmp 12),3,"para.go:32",#[],none⟩,⟨some 42,.call ⟨.value (.func 13),#[.tmp 39,.tmp 40,.tmp 41],#[45,32,3]⟩,32,"para.go:32",#[⟨4,.data⟩,⟨5,.data⟩,⟨6,.data⟩],none⟩,⟨some 43,.call ⟨.value (.func 19),#[.tmp 37,.tmp 38,.tmp 42],#[62,3,32]⟩,32,"para.go:32",#[⟨2,.data⟩,⟨3,.data⟩,⟨7,.data⟩,⟨7,.chain⟩],none⟩,⟨some 44,.indexAddr 45 (.tmp 35) (.tmp 36),0,"para.go:32",#[⟨0,.data⟩,⟨1,.data⟩,⟨0,.phase⟩,⟨1,.phase⟩,⟨2,.phase⟩,⟨3,.phase⟩,⟨4,.phase⟩,⟨5,.phase⟩,⟨6,.phase⟩,⟨7,.phase⟩,⟨8,.phase⟩],none⟩,⟨none,.store 32 (.tmp 44) (.tmp 43),0,"para.go:32",#[⟨9,.data⟩,⟨8,.data⟩,⟨8,.chain⟩,⟨0,.phase⟩,⟨1,.phase⟩,⟨2,.phase⟩,⟨3,.phase⟩,⟨4,.phase⟩,⟨5,.phase⟩,⟨6,.phase⟩,⟨7,.phase⟩,⟨8,.phase⟩],none⟩] false))).seq (Code.region 10 #[⟨some 45,.binOp .add 3 (.tmp 32) (.const (.int .i64 1)) 3,3,"para.go:31",#[],none⟩,⟨some 32,.move (.tmp 45),3,"para.go:31",#[⟨0,.data⟩],none⟩] false)))).loop)).seq ((Code.region 11 #[⟨some 46,.move (.tmp 11),45,"para.go:34",#[],none⟩,⟨some 47,.move (.tmp 10),62,"para.go:34",#[],none⟩,⟨some 48,.move (.tmp 11),45,"para.go:34",#[],none⟩,⟨some 49,.call ⟨.builtin .len,#[.tmp 48],#[45]⟩,3,"para.go:34",#[⟨2,.data⟩],none⟩,⟨some 50,.load 32 (.tmp 5),32,"para.go:34",#[],none⟩,⟨some 51,.call ⟨.value (.func 19),#[.tmp 47,.tmp 49,.tmp 50],#[62,3,32]⟩,32,"para.go:34",#[⟨1,.data⟩,⟨3,.data⟩,⟨4,.data⟩],none⟩,⟨some 6,.assign (.tmp 46),45,"para.go:34",#[⟨0,.data⟩,⟨5,.chain⟩,⟨0,.phase⟩,⟨1,.textOnly .lateStores⟩,⟨2,.textOnly .lateStores⟩,⟨3,.textOnly .lateStoresUnsure⟩,⟨4,.textOnly .lateStores⟩,⟨5,.textOnly .lateStoresUnsure⟩],none⟩,⟨none,.store 32 (.tmp 7) (.tmp 51),0,"para.go:34",#[⟨5,.data⟩,⟨6,.chain⟩,⟨0,.phase⟩,⟨1,.phase⟩,⟨2,.phase⟩,⟨3,.phase⟩,⟨4,.phase⟩,⟨5,.phase⟩,⟨6,.phase⟩],none⟩,⟨some 8,.assign (.const (.int .i64 0)),36,"para.go:34",#[⟨7,.chain⟩,⟨0,.phase⟩,⟨1,.phase⟩,⟨2,.phase⟩,⟨3,.phase⟩,⟨4,.phase⟩,⟨5,.phase⟩,⟨6,.phase⟩,⟨7,.phase⟩],none⟩] false).seq Code.ret))
theorem in_rest (RR : Ending → World → Prop) (q : Tk) (hq : q.ok) (z w0 w : World) (X N : Nat) (r : Sl) (ss : List Sl) (vs tv : Value) (hck : ckS ss r = 0) (hN : N ≤ 9100) (hz : Below z.heap.size z w0) (hzx : z.heap.size ≤ X) (h5 : w0.heap[X]? = some (.cells (slL r).toArray 32 (0,0))) (h7 : w0.heap[X + 1]? = some (.cells #[.int .i64 0,.int .i64 0] 32 (0,0))) (hV : SlsAt w0 vs ss) (hT : TkAt w0 tv q)
  (hw : Below w0.heap.size w0 w) (hr : RB 2 slL w w0.heap.size (inK (inS q ss r) N 0)) {v0 v2 v3 v4 v6 v8 v9 xa xb xc xd xe xf xg xh xi xj xk xl xm xn xo xp xq xr xt xu xv xw xx xy xz xA xB xC xD xE xF xG xH xI xJ xK xL xM xN xO : Value}
  (hR : Hid (∀ W,Below z.heap.size z W → SlsAt W (.slice (some ⟨w0.heap.size,0,none⟩) N N) (inL' (inS q ss r) N) → RR (.returned (.tuple #[.slice (some ⟨w0.heap.size,0,none⟩) N N,.agg (slL (tkI q (N : Nat) r 5)).toArray,.int .i64 0])) W)) :
  rest13.wp Tryz.prog (bodyPost Tryz.prog Tryz.f10 RR) { tmps := #[v0,vs,v2,v3,v4,.pointer (some ⟨X,0,none⟩),v6,.pointer (some ⟨X + 1,0,none⟩),v8,v9,tv,.slice (some ⟨w0.heap.size,0,none⟩) N N,xa,xb,xc,xd,xe,xf,xg,xh,xi,xj,xk,xl,xm,xn,xo,xp,xq,xr,xt,xu,xv,xw,xx,xy,xz,xA,xB,xC,xD,xE,xF,xG,xH,xI,xJ,xK,xL,xM,xN,xO],defers := [] } w := by
 have hX1 := (Array.getElem?_eq_some_iff.1 h7).1
 have hI0 : Hid (Below w0.heap.size w0 w ∧ RB 2 slL w w0.heap.size (inK (inS q ss r) N 0)) := ⟨hw,hr⟩
 have hfew := ckS_few hck
 have hsl : Hid (∀ k W,Below w0.heap.size w0 W → Calls Tryz.prog 13 #[vs,.agg #[.int .i64 r.x,.int .i64 r.w],.int .i64 (k : Nat)] W fun e w' => e = .returned (.agg #[.int .i64 (slN ss r k).x,.int .i64 (slN ss r k).w]) ∧ Below W.heap.size W w') := fun k W hW => sls_slot (by omega) (hV.below hW (Nat.le_refl _))
 have hna : Hid (∀ (k : Nat) W,Below w0.heap.size w0 W → Calls Tryz.prog 19 #[tv,.int .i64 (k : Nat),.agg #[.int .i64 (slN ss r k).x,.int .i64 (slN ss r k).w]] W fun e w' => e = .returned (.agg (slL (inS q ss r k)).toArray) ∧ Below W.heap.size W w') := fun k W hW => narrow_any tv q hq k _ (slN_ok hck k) W (hT.below hW (Nat.le_refl _))
 have hok : okS r = true := by
  have := slN_ok hck ss.length
  rw [slN_out (Nat.le_refl _)] at this
  exact this
 have hnr : Hid (∀ W,Below w0.heap.size w0 W → Calls Tryz.prog 19 #[tv,.int .i64 (N : Nat),.agg #[.int .i64 r.x,.int .i64 r.w]] W fun e w' => e = .returned (.agg (slL (tkI q (N : Nat) r 5)).toArray) ∧ Below W.heap.size W w') := fun W hW => narrow_any tv q hq N _ hok W (hT.below hW (Nat.le_refl _))
 obtain ⟨av,cv,rfl,-⟩ := hV.ex
 obtain ⟨gt,c0,c1,c2,c3,c4,rfl,-⟩ := hT.ex
 have hrow : Hid (∀ W,Below w0.heap.size w0 W → W.heap[X]? = some (.cells #[.int .i64 r.x,.int .i64 r.w] 32 (0,0)) ∧ W.heap[X + 1]? = some (.cells #[.int .i64 0,.int .i64 0] 32 (0,0))) := fun W hW => ⟨(hW.block _ (by omega)).trans h5,(hW.block _ hX1).trans h7⟩
 have hzh : Hid (Below z.heap.size z w0) := hz
 have hXh : Hid (z.heap.size ≤ X ∧ X + 1 < w0.heap.size) := ⟨hzx,hX1⟩
 clear hV hT hok hck hq h5 h7 hw hr hz hzx hX1
 unfold rest13
 go_wp2_with fail
 go_loopw [32] (fun xv wr => ∃ k : Nat,k ≤ N ∧ xv = .int .i64 k ∧ Hid (Below w0.heap.size w0 wr ∧ RB 2 slL wr w0.heap.size (inK (inS q ss r) N k))) (fun xv _ => N - (intOf xv).toNat)
 case atStart => exact ⟨0,by omega,rfl,hI0⟩
 case round =>
  obtain ⟨k,hk,rfl,hI⟩ := hrel
  clear hI0
  obtain ⟨x5,x7⟩ := hrow.out wr hI.out.1
  by_cases hlt : k < N
  ·have hlt' : (k : Int) < (N : Int) := by omega
   have hs1 : Hid (Calls Tryz.prog 13 #[.slice av ss.length cv,.agg #[.int .i64 r.x,.int .i64 r.w],.int .i64 (k : Nat)] wr fun e w' => e = .returned (.agg #[.int .i64 (slN ss r k).x,.int .i64 (slN ss r k).w]) ∧ Below wr.heap.size wr w') := hsl.out k wr hI.out.1
   have hn1 : Hid (∀ W,Below w0.heap.size w0 W → Calls Tryz.prog 19 #[.slice (some ⟨gt,0,none⟩) 5 5,.int .i64 (k : Nat),.agg #[.int .i64 (slN ss r k).x,.int .i64 (slN ss r k).w]] W fun e w' => e = .returned (.agg (slL (inS q ss r k)).toArray) ∧ Below W.heap.size W w') := fun W hW => hna.out k W hW
   have hst : Hid (∀ W,RB 2 slL W w0.heap.size (inK (inS q ss r) N k) → RB 2 slL (W.setCells w0.heap.size (k * 2) (slL (inS q ss r k))) w0.heap.size (inK (inS q ss r) N (k + 1))) := fun W h => by
    have := h.set slL_len (p := k) (by rw [inK_len]; exact hlt) (inS q ss r k)
    rwa [inK_set hlt] at this
   have hth : Hid (∀ W,RB 2 slL W w0.heap.size (inK (inS q ss r) N k) → W.there w0.heap.size (k * 2) (slL (inS q ss r k)).toArray.size) := fun W h => h.there slL_len (by rw [inK_len]; exact hlt)
   clear hsl hna hnr hrow
   generalize (slN ss r k).x = sx at *
   generalize (slN ss r k).w = sw at *
   generalize inS q ss r k = y at *
   go_wp2_with (first | (refine wpList_load_row rfl 32 _ rfl X rfl 32 _ (0,0) _ x5 Tryz.underlying32 rfl (info25 _ _) ?_) | (go_at_call 13; refine hs1.out.mono ?_; rintro e w4 ⟨rfl,hb4⟩; have hI4 : Hid (Below w0.heap.size w0 w4 ∧ RB 2 slL w4 w0.heap.size (inK (inS q ss r) N k)) := ⟨hI.out.1.trans (hb4.mono hI.out.1.size),hI.out.2.below hb4 hI.out.2.lt⟩; clear hb4 hI hs1 x5 x7) | (go_at_call 19; refine (hn1.out w4 hI4.out.1).mono ?_; rintro e w5 ⟨rfl,hb5⟩; have hI5 : Hid (Below w0.heap.size w0 w5 ∧ RB 2 slL w5 w0.heap.size (inK (inS q ss r) N k)) := ⟨hI4.out.1.trans (hb5.mono hI4.out.1.size),hI4.out.2.below hb5 hI4.out.2.lt⟩; clear hb5 hI4 hn1) | (refine wpList_store_mid rfl 32 _ _ rfl w0.heap.size (k * 2) (slL y).toArray rfl rfl (hth.out w5 hI5.out.2) (info25t _) (slt_all _) ?_))
   refine ⟨⟨k + 1,by omega,rfl,?_,hst.out _ hI5.out.2⟩,by simp [intOf]; omega⟩
   exact hI5.out.1.trans ((turns_setCells (X := fun j => j = w0.heap.size) rfl _ _ _).below hI5.out.1.size (fun j hj => by omega))
  ·have hkn : k = N := by omega
   subst hkn
   have hge : ¬ (k : Int) < (k : Int) := by omega
   have hn1 : Hid (Calls Tryz.prog 19 #[.slice (some ⟨gt,0,none⟩) 5 5,.int .i64 (k : Nat),.agg #[.int .i64 r.x,.int .i64 r.w]] wr fun e w' => e = .returned (.agg (slL (tkI q (k : Nat) r 5)).toArray) ∧ Below wr.heap.size wr w') := hnr.out wr hI.out.1
   clear hsl hna hnr hrow
   go_wp2_with (first | (refine wpList_load_row rfl 32 _ rfl X rfl 32 _ (0,0) _ x5 Tryz.underlying32 rfl (info25 _ _) ?_) | (go_at_call 19; refine hn1.out.mono ?_; rintro e w5 ⟨rfl,hb5⟩; have y7 : w5.heap[X + 1]? = some (.cells #[.int .i64 0,.int .i64 0] 32 (0,0)) := (hb5.block _ (Array.getElem?_eq_some_iff.1 x7).1).trans x7; have hI5 : Hid (Below w0.heap.size w0 w5 ∧ RB 2 slL w5 w0.heap.size (inK (inS q ss r) k k)) := ⟨hI.out.1.trans (hb5.mono hI.out.1.size),hI.out.2.below hb5 hI.out.2.lt⟩; clear hb5 hI hn1 x7) | (refine wpList_store_row rfl 32 _ _ rfl (X + 1) (slL (tkI q (k : Nat) r 5)).toArray rfl rfl 32 _ y7 (info25t _) rfl (slt_all _) ?_))
   refine bodyPost_ret (results_tct rfl _ _ (X + 1) 32 (slL (tkI q (k : Nat) r 5)).toArray (0,0) _ rfl (setRow_heap _ _ _ _ _ _ y7) Tryz.underlying32 rfl (info25t _)) rfl ?_
   have hTn := Turns.setRow (X := fun j => j = X + 1) w5 rfl (slL (tkI q (k : Nat) r 5)).toArray
   obtain ⟨hx1,hx2⟩ := hXh.out
   obtain ⟨hI1,hI2⟩ := hI5.out
   refine hR.out _ ((hzh.out.trans (hI1.mono hzh.out.size)).trans (hTn.below (Nat.le_trans hzh.out.size hI1.size) (fun j hj => by omega))) ?_
   have h2 := (hI2.turns hTn (by omega)).recs (n := k) (cap := k) (by rw [inK_len]; exact Nat.le_refl _) (Nat.le_refl _)
   rw [inK_all,List.take_of_length_le (by simp [inL'])] at h2
   exact h2
end Go.Proofs.YtfiekhephkpdjaaGreatDoor

namespace Go.Proofs.YtfiekhephkpdjaaGreatDoor
open Go.RowKit Go.Shelf
set_option maxRecDepth 100000
set_option maxHeartbeats 2000000

def edI (a : Pa) (L : List It) (ps : List Pc) : Int := match ps with
 | [] => a.t.size
 | p :: _ => (itAt L p.a).f
theorem pcs_first {W : World} {a : Option Addr} {n cap : Nat} {p : Pc} {ps : List Pc} (h : PcsAt W (.slice a n cap) (p :: ps)) : n = ps.length + 1 ∧ ∃ b o,a = some ⟨b,o,none⟩ ∧ b < W.heap.size ∧ W.cell? ⟨b,o,none⟩ = some (.int .i64 (p.a : Nat)) := by
 obtain ⟨a',cap',h1,h2⟩ := h.ex
 cases h1
 refine ⟨by simp,?_⟩
 rcases h2 with h2 | ⟨b,o,rfl,hb,hc⟩
 ·cases h2
 ·refine ⟨b,o,rfl,hb,?_⟩
  have := hc 0 (by simp) 0 (.int .i64 (p.a : Nat)) rfl
  simpa using this
theorem end33 (a : Pa) (v vp : Value) (L : List It) (ps : List Pc) (hp : ∀ p ∈ ps.head?,p.a < L.length) (w : World) (hS : ItsAt w v L) (hV : PcsAt w vp ps) : Calls Tryz.prog 14 #[paV a,v,vp] w fun e w' => e = .returned (.int .i64 (edI a L ps)) ∧ Below w.heap.size w w' := by
 have hB := (Below.refl w.heap.size w).alloc (Nat.le_refl _) (Obj.cells (paC a) 27)
 have hP := PB.new w a
 have c0 := hP.c0
 have hBh : Hid (Below w.heap.size w (w.alloc (.cells (paC a) 27))) := hB
 cases ps with
 | nil =>
  obtain ⟨va,vc,rfl,-⟩ := hV.ex
  obtain ⟨sa,sc,rfl,-⟩ := hS.ex
  clear hV hS hB hP
  unfold paV
  show Calls Tryz.prog 14 #[.agg (paC a),.slice sa L.length sc,.slice va 0 vc] w _
  generalize hw1 : w.alloc (.cells (paC a) 27) = w1 at *
  go_enter Tryz.func14,Tryz.ntmps14
  go_wp2_with fail
  go_ret
  exact ⟨rfl,hBh.out⟩
 | cons p qs =>
  have hpl : p.a < L.length := hp p (by simp)
  obtain ⟨sa,sc,rfl,-⟩ := hS.ex
  obtain ⟨va,vc,rfl,-⟩ := hV.ex
  obtain ⟨-,b,o,rfl,hb,hc0⟩ := pcs_first hV
  obtain ⟨b2,o2,rfl,hb2,hrg⟩ := its_range hS hpl
  have hc1 : (w.alloc (.cells (paC a) 27)).cell? ⟨b,o,none⟩ = some (.int .i64 (p.a : Nat)) := (hB.cell hb).trans hc0
  have hc2 : (w.alloc (.cells (paC a) 27)).cell? ⟨b2,o2 + p.a * 8 + 1,none⟩ = some (.int .i64 (L[p.a]).f) := (hB.cell hb2).trans (hrg 1 _ rfl)
  have e : edI a L (p :: qs) = (L[p.a]).f := by show (itAt L p.a).f = _; rw [itAt_is hpl]
  have hpl' : (p.a : Int) < (L.length : Int) := by omega
  rw [e]
  have hne : (((p :: qs).length : Int) == 0) = false := by rw [beq_eq_false_iff_ne]; simp; omega
  have h0l : 0 < (p :: qs).length := by simp
  have h0l' : (0 : Int) < ((p :: qs).length : Nat) := by omega
  clear hV hS hB hP hrg hc0 e hp hb hb2
  generalize L[p.a].f = y at *
  generalize p.a = pa at *
  generalize (p :: qs).length = n at *
  unfold paV
  generalize hw1 : w.alloc (.cells (paC a) 27) = w1 at *
  go_enter Tryz.func14,Tryz.ntmps14
  go_wp2_with fail
  go_ret
  exact ⟨rfl,hBh.out⟩
def chN (a : Pa) (L : List It) : Nat := if a.p.p13 = 1 ∧ lpB L = false then 22 else 23
theorem choose31 (a : Pa) (v : Value) (L : List It) (hl : L.length ≤ 9223372036854775807) (w : World) (hS : ItsAt w v L) : Calls Tryz.prog 12 #[paV a,v] w fun e w' => e = .returned (.func (.func (chN a L)) #[] #[]) ∧ Below w.heap.size w w' := by
 have hB := (Below.refl w.heap.size w).alloc (Nat.le_refl _) (Obj.cells (paC a) 27)
 have hP := PB.new w a
 have c15 : (w.alloc (.cells (paC a) 27)).cell? ⟨w.heap.size,15,none⟩ = some (.int .i64 a.p.p13) := hP.cell (k := 15) rfl
 have hlp : Hid (Calls Tryz.prog 21 #[v] (w.alloc (.cells (paC a) 27)) fun e w' => e = .returned (.bool (lpB L)) ∧ Below (w.alloc (.cells (paC a) 27)).heap.size (w.alloc (.cells (paC a) 27)) w') := leaps_any v L hl _ (hS.below hB (Nat.le_refl _))
 have hBh : Hid (Below w.heap.size w (w.alloc (.cells (paC a) 27))) := hB
 clear hB hP hS
 unfold paV chN
 generalize hw1 : w.alloc (.cells (paC a) 27) = w1 at *
 generalize lpB L = lp at *
 by_cases h : a.p.p13 = 1
 ·rw [h] at c15
  cases lp
  ·rw [if_pos ⟨h,rfl⟩]
   go_enter Tryz.func12,Tryz.ntmps12
   go_wp2_with (go_at_call 21; refine hlp.out.mono ?_; rintro e w2 ⟨rfl,hb2⟩)
   go_ret
   exact ⟨rfl,hBh.out.trans (hb2.mono hBh.out.size)⟩
  ·rw [if_neg (by simp)]
   go_enter Tryz.func12,Tryz.ntmps12
   go_wp2_with (go_at_call 21; refine hlp.out.mono ?_; rintro e w2 ⟨rfl,hb2⟩)
   go_ret
   exact ⟨rfl,hBh.out.trans (hb2.mono hBh.out.size)⟩
 ·rw [if_neg (fun h' => h h'.1)]
  have h' : (a.p.p13 == 1) = false := by simpa using h
  clear h hlp
  go_enter Tryz.func12,Tryz.ntmps12
  go_wp2_with fail
  go_ret
  exact ⟨rfl,hBh.out⟩
def BkEnd (ps : List Pc) (b : Bool) (w : World) (e : Ending) (w' : World) : Prop := (∃ v,e = .returned (.tuple #[v,.bool b]) ∧ PcsAt w' v ps) ∧ Below w.heap.size w w'
theorem fits67 (v vs : Value) (l : List It) (ss : List Sl) (r : Sl) (hck : ckL l = 0) (hcs : ckS ss r = 0) (w : World) (hS : ItsAt w v l) (hV : SlsAt w vs ss) : Calls Tryz.prog 23 #[v,vs,.agg (slL r).toArray] w (BkEnd (lsL l ss r) false w) := by
 have hB := (Below.refl w.heap.size w).alloc (Nat.le_refl _) (Obj.cells (slL r).toArray 32)
 have hx : (w.alloc (.cells (slL r).toArray 32)).heap[w.heap.size]? = some (.cells (slL r).toArray 32 (0,0)) := World.alloc_heap_new w _
 have e0 : fbrE l ss r = 0 := by unfold fbrE; rw [if_neg (by rw [hck]; exact fun h => h rfl)]; exact hcs
 have hb : Hid (Calls Tryz.prog 37 #[v,vs,.agg (slL r).toArray] (w.alloc (.cells (slL r).toArray 32)) fun e w' => (∃ u,e = .returned (.tuple #[u,.int .i64 0]) ∧ PcsAt w' u (lsL l ss r)) ∧ Below (w.alloc (.cells (slL r).toArray 32)).heap.size (w.alloc (.cells (slL r).toArray 32)) w') := by
  refine (fbreak_any v vs l ss r (by have := ckS_few hcs; omega) _ (hS.below hB (Nat.le_refl _)) (hV.below hB (Nat.le_refl _))).mono ?_
  rintro e w' ⟨⟨u,rfl,hu⟩,h2⟩
  rw [e0] at hu ⊢
  rcases hu with ⟨h,_⟩ | ⟨_,h⟩
  ·exact absurd rfl h
  ·exact ⟨⟨u,rfl,h⟩,h2⟩
 have hBh : Hid (Below w.heap.size w (w.alloc (.cells (slL r).toArray 32))) := hB
 have hend : Hid (∀ W u,Below w.heap.size w W → PcsAt W u (lsL l ss r) → BkEnd (lsL l ss r) false w (.returned (.tuple #[u,.bool false])) W) := fun W u h1 h2 => ⟨⟨u,rfl,h2⟩,h1⟩
 obtain ⟨a1,c1,rfl,-⟩ := hS.ex
 obtain ⟨a2,c2,rfl,-⟩ := hV.ex
 clear hB hS hV e0 hck hcs
 generalize BkEnd (lsL l ss r) false w = E at *
 generalize hw1 : w.alloc (.cells (slL r).toArray 32) = w1 at *
 go_enter Tryz.func23,Tryz.ntmps23
 go_wp2_with (first | (refine wpList_load_row rfl 32 _ rfl w.heap.size rfl 32 _ (0,0) _ hx Tryz.underlying32 rfl (info25t _) ?_) | (go_at_call 37; refine hb.out.mono ?_; rintro e w2 ⟨⟨u,rfl,hu⟩,hb2⟩; have huh : Hid (PcsAt w2 u (lsL l ss r)) := hu; obtain ⟨a3,c3,rfl,-⟩ := hu.ex; clear hu))
 exact hend.out _ _ (hBh.out.trans (hb2.mono hBh.out.size)) huh.out
theorem best66 (v vs : Value) (l : List It) (ss : List Sl) (r : Sl) (hck : ckL l = 0) (hcs : ckS ss r = 0) (hz : rfE l ss r = 0) (he : ¬ sk l 0 = l.length) (hmi : ∀ B gs os cs gw ow cw mb,MissP (plB l ss r B gs os cs gw ow cw mb)) (w : World) (hS : ItsAt w v l) (hV : SlsAt w vs ss) : Calls Tryz.prog 22 #[v,vs,.agg (slL r).toArray] w (BkEnd (lsL l ss r) true w) := by
 have hB := (Below.refl w.heap.size w).alloc (Nat.le_refl _) (Obj.cells (slL r).toArray 32)
 have hx : (w.alloc (.cells (slL r).toArray 32)).heap[w.heap.size]? = some (.cells (slL r).toArray 32 (0,0)) := World.alloc_heap_new w _
 have hb : Hid (Calls Tryz.prog 36 #[v,vs,.agg (slL r).toArray] (w.alloc (.cells (slL r).toArray 32)) fun e w' => (∃ u,e = .returned (.tuple #[u,.int .i64 0,.int .i64 6]) ∧ PcsAt w' u []) ∧ Below (w.alloc (.cells (slL r).toArray 32)).heap.size (w.alloc (.cells (slL r).toArray 32)) w') := by
  refine (break_miss v vs l ss r (by have := ckS_few hcs; omega) (by have := ck_len hck; omega) hz he hmi _ (hS.below hB (Nat.le_refl _)) (hV.below hB (Nat.le_refl _))).mono ?_
  rintro e w' ⟨rfl,h2⟩
  exact ⟨⟨_,rfl,RecAt.nil _ _⟩,h2⟩
 have hf : Hid (∀ W,Below (w.alloc (.cells (slL r).toArray 32)).heap.size (w.alloc (.cells (slL r).toArray 32)) W → Calls Tryz.prog 23 #[v,vs,.agg (slL r).toArray] W (BkEnd (lsL l ss r) false W)) := fun W hW => fits67 v vs l ss r hck hcs W ((hS.below hB (Nat.le_refl _)).below hW (Nat.le_refl _)) ((hV.below hB (Nat.le_refl _)).below hW (Nat.le_refl _))
 have hBh : Hid (Below w.heap.size w (w.alloc (.cells (slL r).toArray 32))) := hB
 have hend : Hid (∀ W u,Below w.heap.size w W → PcsAt W u (lsL l ss r) → BkEnd (lsL l ss r) true w (.returned (.tuple #[u,.bool true])) W) := fun W u h1 h2 => ⟨⟨u,rfl,h2⟩,h1⟩
 obtain ⟨a1,c1,rfl,-⟩ := hS.ex
 obtain ⟨a2,c2,rfl,-⟩ := hV.ex
 clear hB hS hV hck hcs hz he hmi
 generalize BkEnd (lsL l ss r) true w = E at *
 generalize hw1 : w.alloc (.cells (slL r).toArray 32) = w1 at *
 go_enter Tryz.func22,Tryz.ntmps22
 go_wp2_with (first | (refine wpList_load_row rfl 32 _ rfl w.heap.size rfl 32 _ (0,0) _ hx Tryz.underlying32 rfl (info25t _) ?_) | (go_at_call 36; refine hb.out.mono ?_; rintro e w2 ⟨⟨u,rfl,hu⟩,hb2⟩; obtain ⟨a3,c3,rfl,-⟩ := hu.ex; have hx2 : w2.heap[w.heap.size]? = some (.cells (slL r).toArray 32 (0,0)) := (hb2.block _ (Array.getElem?_eq_some_iff.1 hx).1).trans hx; have hb2h : Hid (Below w1.heap.size w1 w2) := hb2; clear hu hb2 hx) | (refine wpList_load_row rfl 32 _ rfl w.heap.size rfl 32 _ (0,0) _ hx2 Tryz.underlying32 rfl (info25t _) ?_) | (go_at_call 23; refine (hf.out w2 hb2h.out).mono ?_; rintro e w3 ⟨⟨u3,rfl,hu3⟩,hb3⟩; have huh : Hid (PcsAt w3 u3 (lsL l ss r)) := hu3; obtain ⟨a4,c4,rfl,-⟩ := hu3.ex; clear hu3))
 exact hend.out _ _ ((hBh.out.trans (hb2h.out.mono hBh.out.size)).trans (hb3.mono (Nat.le_trans hBh.out.size hb2h.out.size))) huh.out
end Go.Proofs.YtfiekhephkpdjaaGreatDoor
