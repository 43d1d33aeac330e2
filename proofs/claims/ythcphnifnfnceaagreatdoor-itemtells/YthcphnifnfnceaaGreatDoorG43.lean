/-
  What is proved here: what the document's parted answers.
-/
import Derived.Test.YthcphnifnfnceaaGreatDoorG26
import Derived.Test.YthcphnifnfnceaaGreatDoorG23
import Derived.Test.YthcphnifnfnceaaGreatDoorG42
namespace Go.Proofs.YthcphnifnfnceaaGreatDoor
open Go.RowKit Go.Shelf
set_option maxRecDepth 100000
set_option maxHeartbeats 1500000

theorem make61b {n : Nat} (h : n ≤ 5000) (W : World) : (Instr.makeSlice 61 (.int .i64 (n : Int)) (.int .i64 (n : Int))).run Tryz.prog W = .ok (.slice (some ⟨W.heap.size,0,none⟩) n n) (W.alloc (.cells (bcells (List.replicate n false)) 4)) := by
 obtain ⟨i0,hi0,hz0,hz1,hz2⟩ := info_parts info4
 have := run_makeSlice (P := Tryz.prog) (w := W) 61 4 i0 _ Tryz.underlying61 hi0 hz0 .i64 .i64 n n (by omega) (by omega) (by rw [hz1]; omega) (by rw [hz2]; omega) (by omega)
 rw [this]
 have e : madeCells (Value.bool false).cells ((n : Int).toNat * i0.size) = bcells (List.replicate n false) := by
  rw [hz1]; unfold madeCells bcells
  apply Array.ext
  ·simp
  ·intro i h1 h2; simp [Nat.mod_one,Value.cells]
 rw [e]; simp
structure RSt (w1 : World) (P : Nat) (pd : List Bool) (W : World) : Prop where
 tu : Turns (fun k => k = P) w1 W
 bl : Hy.Blk W P (bcells pd) 4
theorem RSt.step {w1 : World} {P : Nat} {pd : List Bool} {W W' : World} (h : RSt w1 P pd W) (hW : Below W.heap.size W W') : RSt w1 P pd W' := ⟨h.tu.trans (turns_all hW),h.bl.turns (Turns.of_below hW) (fun h => h)⟩
theorem RSt.set {w1 : World} {P : Nat} {pd : List Bool} {W : World} (h : RSt w1 P pd W) (i : Nat) : RSt w1 P (pd.set i true) (W.setCell ⟨P,i,none⟩ (.bool true)) := by
 refine ⟨h.tu.trans (Turns.setCell (X := fun k => k = P) W (p := ⟨P,i,none⟩) rfl _),?_⟩
 have := h.bl.set i (.bool true)
 rwa [bcells_set] at this
theorem byte_one {t : ByteArray} {F : Nat} (h : F < t.size) : t.extract F (F + 1) = ⟨#[byAt t (F : Int)]⟩ := by
 rw [Hy.extract_one h]
 unfold byAt
 congr 2
 rw [Int.toNat_natCast]
 simp [Array.getD,h]
 rfl

theorem parted_any (a : Pa) (v : Value) (l : List Ms) (hfit : ∀ m ∈ l,MFit a.t m) (hl : l.length ≤ 4096) (hts : a.t.size ≤ 4096) (w : World) (hS : RecAt 6 msL w v l) :
  Calls Tryz.prog 40 #[.agg (paC a),v] w fun e w' => (∃ P,e = .returned (.slice (some ⟨P,0,none⟩) (l.length + 1) (l.length + 1)) ∧ Hy.Blk w' P (bcells (parR a.t l a.p.p12 l.length)) 4) ∧ Below w.heap.size w w' := by
 have hB0 := (Below.refl w.heap.size w).alloc (Nat.le_refl _) (Obj.cells (paC a) 27)
 have hPB := PB.new w a
 have hs0 : (w.alloc (.cells (paC a) 27)).heap.size = w.heap.size + 1 := World.size_alloc _ _
 have hmk : (Instr.makeSlice 61 (.int .i64 ((l.length : Int) + 1)) (.int .i64 ((l.length : Int) + 1))).run Tryz.prog (w.alloc (.cells (paC a) 27)) = .ok (.slice (some ⟨w.heap.size + 1,0,none⟩) (l.length + 1) (l.length + 1)) ((w.alloc (.cells (paC a) 27)).alloc (.cells (bcells (List.replicate (l.length + 1) false)) 4)) := by
  have := make61b (n := l.length + 1) (by omega) (w.alloc (.cells (paC a) 27))
  rw [hs0] at this
  rwa [show (((l.length + 1 : Nat)) : Int) = (l.length : Int) + 1 by omega] at this
 obtain ⟨w1,hw1⟩ : ∃ w1,(w.alloc (.cells (paC a) 27)).alloc (.cells (bcells (List.replicate (l.length + 1) false)) 4) = w1 := ⟨_,rfl⟩
 have hB1 : Below w.heap.size w w1 := by rw [← hw1]; exact hB0.alloc hB0.size _
 have hS1 : RecAt 6 msL w1 v l := hS.below hB1 (Nat.le_refl _)
 have hP1 : PB w1 w.heap.size a := by rw [← hw1]; exact ⟨(Below.heap_alloc _ _ _ (by simp)).trans hPB.row⟩
 have hbl : Hy.Blk w1 (w.heap.size + 1) (bcells (List.replicate (l.length + 1) false)) 4 := by
  have := heap_new (w.alloc (.cells (paC a) 27)) (.cells (bcells (List.replicate (l.length + 1) false)) 4)
  rw [hw1,hs0] at this
  exact this
 obtain ⟨am,cm,rfl,hex⟩ := hS.ex
 have hvb : ∀ g o,am = some ⟨g,o,none⟩ → 0 < l.length → g < w.heap.size := fun g o e h => by
  rcases hex with hex | ⟨b,o',e',hb,-⟩
  ·rw [hex] at h; simp at h
  ·rw [e] at e'; cases e'; exact hb
 obtain ⟨P,hPd⟩ : ∃ P,w.heap.size + 1 = P := ⟨_,rfl⟩
 rw [hPd] at hmk hbl
 rw [hw1] at hmk
 have hr0 : Hid (RSt w1 P (parR a.t l a.p.p12 0) w1) := ⟨Turns.refl _ _,hbl⟩
 have hms : Hid (∀ pd W,0 < l.length → RSt w1 P pd W → RecAt 6 msL W (.slice am l.length cm) l) := fun pd W h0 h => rec_turns hS1 h.tu (fun b o n c e => by
  cases e
  have := hvb b o rfl h0
  omega)
 have hpb : Hid (∀ pd W,RSt w1 P pd W → PB W w.heap.size a) := fun pd W h => ⟨(h.tu.block _ hP1.lt (by omega)).trans hP1.row⟩
 have hjo : Hid (∀ k pd W,k < l.length → RSt w1 P pd W → Calls Tryz.prog 80 #[.slice am l.length cm,.int .i64 (k : Nat)] W fun e w' => e = .returned (.bool (joB l k)) ∧ RSt w1 P pd w') := fun k pd W hk h =>
  (joined_any _ l k hk hl W (hms.out pd W (by omega) h)).mono fun e w' ⟨he,hb⟩ => ⟨he,h.step hb⟩
 have hpt : Hid (∀ pd W (q : ByteArray) (ps : List Int),RSt w1 P pd W → q.size ≤ 4096 → Hy.ptV Hy.PP Hy.PX (Hy.bs q) = ps → Calls Tryz.prog 81 #[] W fun e w' => ∃ m,e = .returned (.pointer (some ⟨m,0,none⟩)) ∧ RSt w1 P pd w' ∧ ∀ W2,Below w'.heap.size w' W2 → Calls Tryz.prog 82 #[.pointer (some ⟨m,0,none⟩),.string q] W2 fun e w3 => ∃ u er,e = .returned (.tuple #[u,.int .i64 er]) ∧ RSt w1 P pd w3 ∧ Hy.IntsAt w3 u ps ∧ ∀ g o n c,u = .slice (some ⟨g,o,none⟩) n c → w1.heap.size ≤ g) := fun pd W q ps h hq hps => by
  refine (Hy.rplain_any W).mono ?_
  rintro e w' ⟨m,rfl,hb,base,hR⟩
  have h1 := h.step hb
  refine ⟨m,rfl,h1,fun W2 hb2 => ?_⟩
  refine (Hy.rpoints_any (hR.below hb2) (by decide +kernel) (by decide +kernel) (by rw [Hy.tx_bs]; exact Hy.good_P) (by rw [Hy.tx_bs]; exact Hy.good_X) (by rw [Hy.tx_bs]; exact Hy.fresh_X) q (by unfold maxLen; omega)).mono ?_
  rintro e w3 ⟨u,rfl,hb3,hr⟩
  rw [Hy.tx_bs,Hy.tx_bs,hps] at hr
  refine ⟨u,_,rfl,(h1.step hb2).step hb3,Hy.ints_of_row hr,fun g o n c hv => ?_⟩
  have x1 := (hr.lt g (by rw [hv]; rfl)).1
  have x2 := (h1.step hb2).tu.size
  omega
 have hcell : Hid (∀ k,k < l.length → ∃ g o,am = some ⟨g,o,none⟩ ∧ ∀ pd W,RSt w1 P pd W → W.cell? ⟨g,o + k * 6,none⟩ = some (.int .i64 (mAt l k).f) ∧ W.cell? ⟨g,o + k * 6 + 2,none⟩ = some (.int .i64 (mAt l k).k)) := fun k hk => by
  obtain ⟨g,o,e,-,-⟩ := ms_at hS1 hk
  refine ⟨g,o,e,fun pd W h => ?_⟩
  obtain ⟨g',o',e',-,hc⟩ := ms_at (hms.out pd W (by omega) h) hk
  rw [e] at e'
  cases e'
  have c0 := hc 0 _ rfl
  have c2 := hc 2 _ rfl
  rw [Nat.add_zero] at c0
  exact ⟨c0,c2⟩
 have hfa : Hid (∀ k,k < l.length → ∃ F : Nat,(mAt l k).f = F ∧ F < a.t.size) := fun k hk => by
  have hm := hfit (mAt l k) (by rw [mAt_is hk]; exact List.getElem_mem hk)
  have h0 := hm.f0
  have h1 := hm.ft
  have h2 := hm.ts
  exact ⟨(mAt l k).f.toNat,by omega,by omega⟩
 have hpin : Hid (∀ i x,x ∈ pts a.t l i → 0 ≤ x ∧ x < wn l i) := fun i x h => by
  have := Hy.pt_in h
  rwa [wdB_len] at this
 have hpfew : Hid (∀ i,(pts a.t l i).length ≤ 64) := fun i => Hy.pt_few _
 have hwn : Hid (∀ i,i ≤ l.length → i + wn l i ≤ l.length) := fun i h => wn_le h
 have hstep : Hid (∀ k,parR a.t l a.p.p12 (k + 1) = if stB l k = true ∧ a.p.p12 ≠ 0 then mkA a.t l (parR a.t l a.p.p12 k) k else parR a.t l a.p.p12 k) := fun k => rfl
 have hplen : Hid (∀ k,(parR a.t l a.p.p12 k).length = l.length + 1) := parR_len _ _ _
 have hBw : Hid (∀ pd W,RSt w1 P pd W → Below w.heap.size w W) := fun pd W h => hB1.trans (h.tu.below hB1.size (fun k hk => by omega))
 have hl' : (l.length : Int) ≤ 4096 := by omega
 have hP1s : Hid (P < w1.heap.size) := hbl.lt
 have hPB' : Hid (PB (w.alloc (.cells (paC a) 27)) w.heap.size a) := hPB
 clear hB0 hPB hs0 hS hS1 hP1 hbl hex hvb hfit hB1 hms
 generalize hw0 : w.alloc (.cells (paC a) 27) = w0 at *
 go_enter Tryz.func40,Tryz.ntmps40
 go_wp2_with fail
 go_loopw [6] (fun i wr => ∃ k : Nat,k ≤ l.length ∧ i = .int .i64 k ∧ Hid (RSt w1 P (parR a.t l a.p.p12 k) wr)) (fun i _ => l.length - (intOf i).toNat)
 case atStart => exact ⟨0,by omega,rfl,hr0⟩
 case round =>
  obtain ⟨k,hk,rfl,hR⟩ := hrel
  by_cases hlt : k < l.length
  ·have hlt' : (k : Int) < l.length := by omega
   obtain ⟨g,o,hame,hc⟩ := hcell.out k hlt
   subst hame
   obtain ⟨c0,c2⟩ := hc _ _ hR.out
   have c14 : wr.cell? ⟨w.heap.size,14,none⟩ = some (.int .i64 a.p.p12) := (hpb.out _ _ hR.out).cell rfl
   have hst := hstep.out k
   by_cases h1 : (mAt l k).k = 1
   ·have hj := hjo.out k _ wr hlt hR.out
    have hjc : Hid (∀ W,RSt w1 P (parR a.t l a.p.p12 k) W → W.cell? ⟨w.heap.size,14,none⟩ = some (.int .i64 a.p.p12)) := fun W h => (hpb.out _ _ h).cell rfl
    rw [h1] at c2
    cases hjb : joB l k
    ·rw [hjb] at hj
     by_cases h2 : a.p.p12 = 0
     ·have hnx : Hid (∀ W,RSt w1 P (parR a.t l a.p.p12 k) W → RSt w1 P (parR a.t l a.p.p12 (k + 1)) W) := fun W h => by
       rw [hst,if_neg (fun h => h.2 h2)]
       exact h
      have hjc0 : Hid (∀ W,RSt w1 P (parR a.t l a.p.p12 k) W → W.cell? ⟨w.heap.size,14,none⟩ = some (.int .i64 0)) := fun W h => by
       have := hjc.out W h
       rw [h2] at this
       exact this
      have hj' : Hid (Calls Tryz.prog 80 #[.slice (some ⟨g,o,none⟩) l.length cm,.int .i64 k] wr fun e w' => e = .returned (.bool false) ∧ RSt w1 P (parR a.t l a.p.p12 k) w') := hj
      clear hr0 hpb hjo hpt hcell hfa hpin hpfew hwn hstep hplen hPB' hst hBw hc hj c14 hjc
      go_wp2_with (go_at_call 80; refine hj'.out.mono ?_; rintro e w2 ⟨rfl,hR2⟩; have d14 := hjc0.out _ hR2)
      go_roundw
      case rel => exact ⟨k + 1,by omega,by simp,hnx.out _ hR2⟩
      case measure => simp [intOf]; omega
     ·have hnx : Hid (parR a.t l a.p.p12 (k + 1) = mkA a.t l (parR a.t l a.p.p12 k) k) := by
       show _ = _
       rw [hst,if_pos ⟨by unfold stB; rw [decide_eq_true h1,hjb]; rfl,h2⟩]
      have q2 : (a.p.p12 == 0) = false := by simpa using h2
      have hj' : Hid (Calls Tryz.prog 80 #[.slice (some ⟨g,o,none⟩) l.length cm,.int .i64 k] wr fun e w' => e = .returned (.bool false) ∧ RSt w1 P (parR a.t l a.p.p12 k) w') := hj
      obtain ⟨pd,hpd⟩ : ∃ pd,parR a.t l a.p.p12 k = pd := ⟨_,rfl⟩
      have hpl : Hid (pd.length = l.length + 1) := by show _ = _; rw [← hpd]; exact hplen.out k
      have htx : Hid (∀ W,RSt w1 P pd W → W.cell? ⟨w.heap.size,0,none⟩ = some (.string a.t)) := fun W h => (hpb.out _ _ h).c0
      have hcl : Hid (∀ j,j < l.length → ∀ W,RSt w1 P pd W → W.cell? ⟨g,o + j * 6,none⟩ = some (.int .i64 (mAt l j).f)) := fun j hj W h => by
       obtain ⟨g',o',e',hc'⟩ := hcell.out j hj
       cases e'
       exact (hc' _ _ h).1
      rw [hpd] at hj' hjc hnx hR
      clear hpd hst hj c0 c14
      have hjo2 : Hid (∀ j W,j < l.length → RSt w1 P pd W → Calls Tryz.prog 80 #[.slice (some ⟨g,o,none⟩) l.length cm,.int .i64 (j : Nat)] W fun e w' => e = .returned (.bool (joB l j)) ∧ RSt w1 P pd w') := fun j W hj h => hjo.out j pd W hj h
      have hpt2 : Hid (∀ W (q : ByteArray) (ps : List Int),RSt w1 P pd W → q.size ≤ 4096 → Hy.ptV Hy.PP Hy.PX (Hy.bs q) = ps → Calls Tryz.prog 81 #[] W fun e w' => ∃ m,e = .returned (.pointer (some ⟨m,0,none⟩)) ∧ RSt w1 P pd w' ∧ ∀ W2,Below w'.heap.size w' W2 → Calls Tryz.prog 82 #[.pointer (some ⟨m,0,none⟩),.string q] W2 fun e w3 => ∃ u er,e = .returned (.tuple #[u,.int .i64 er]) ∧ RSt w1 P pd w3 ∧ Hy.IntsAt w3 u ps ∧ ∀ g o n c,u = .slice (some ⟨g,o,none⟩) n c → w1.heap.size ≤ g) := fun W q ps h1 h2 h3 => hpt.out pd W q ps h1 h2 h3
      obtain ⟨F,hF,hFt⟩ := hfa.out k hlt
      have hcF : Hid (∀ W,RSt w1 P pd W → W.cell? ⟨g,o + k * 6,none⟩ = some (.int .i64 (F : Int))) := fun W h => by have := hcl.out k hlt W h; rw [hF] at this; exact this
      have hby := byte_one hFt
      have hw1 : Hid ((⟨#[byAt a.t (F : Int)]⟩ : ByteArray) = ⟨(wdB a.t l k 1).toArray⟩) := by
       show _ = (⟨([] ++ [byAt a.t (mAt l (k + 0)).f]).toArray⟩ : ByteArray)
       rw [Nat.add_zero,hF]
       rfl
      have hFi : (F : Int) < a.t.size := by omega
      have hF4 : (F : Int) ≤ 4096 := by omega
      clear hr0 hpb hjo hpt hcell hstep hplen hPB' hc
      go_wp2_with (go_at_call 80; refine hj'.out.mono ?_; rintro e w2 ⟨rfl,hR2⟩; have d14 := hjc.out _ hR2)
      have e0 := htx.out _ hR2
      have e1 := hcF.out _ hR2
      go_quiet (fail)
      have hRd : RSt w1 P pd (w2.drewN nq) := hR2.step (below_drewN (Below.refl _ _) nq)
      generalize w2.drewN nq = wd at *
      replace hRd : Hid _ := hRd
      have hj0 : Hid (∀ m,1 ≤ m → (∀ i,i < m → inW l k (k + i)) → joB l (k + m) = decide (inW l k (k + m))) := fun m hm hall => by
       have hp := hall (m - 1) (by omega)
       rw [show k + (m - 1) = k + m - 1 by omega] at hp
       unfold joB
       rw [Bool.eq_iff_iff,decide_eq_true_iff,decide_eq_true_iff]
       unfold inW at hp ⊢
       constructor
       ·rintro ⟨-,e1,e2,e3⟩
        exact ⟨e1,e3.trans hp.2⟩
       ·rintro ⟨e1,e2⟩
        exact ⟨by omega,e1,hp.1,e2.trans hp.2.symm⟩
      have hin0 : Hid (∀ i,i < 1 → inW l k (k + i)) := fun i hi => by
       obtain rfl : i = 0 := by omega
       exact ⟨h1,rfl⟩
      have hE : Hid (∀ m,(∀ i,i < m → inW l k (k + i)) → k + m ≤ l.length → (k + m = l.length ∨ ¬ inW l k (k + m)) → wn l k = m) := fun m h1 h2 h3 => wn_is h1 h2 h3
      have hwx : Hid (∀ m F',(mAt l (k + m)).f = (F' : Nat) → (⟨(wdB a.t l k m).toArray⟩ : ByteArray) ++ ⟨#[byAt a.t (F' : Int)]⟩ = ⟨(wdB a.t l k (m + 1)).toArray⟩) := fun m F' h => by
       rw [Hy.ba_append]
       show _ = (⟨(wdB a.t l k m ++ [byAt a.t (mAt l (k + m)).f]).toArray⟩ : ByteArray)
       rw [h]
      have hwz : Hid (∀ m,(⟨(wdB a.t l k m).toArray⟩ : ByteArray).size = m) := fun m => by
       show (wdB a.t l k m).toArray.size = m
       rw [List.size_toArray,wdB_len]
      clear hR2 d14 hj' hjc hcF hby c2 e0 e1
      clear hR
      go_wp2_with fail
      go_loopw [7,8] (fun x b wq => ∃ (m : Nat) (q : ByteArray),1 ≤ m ∧ k + m ≤ l.length ∧ x = .string q ∧ b = .int .i64 ((k + m : Nat) : Int) ∧ Hid (q = ⟨(wdB a.t l k m).toArray⟩ ∧ RSt w1 P pd wq ∧ ∀ i,i < m → inW l k (k + i))) (fun _ b _ => l.length - (intOf b).toNat)
      case atStart => exact ⟨1,_,by omega,by omega,rfl,rfl,hw1.out,hRd.out,hin0.out⟩
      case round =>
       obtain ⟨m,q,hm1,hm2,rfl,rfl,hH⟩ := hrel
       obtain ⟨hqe,hRm,hall⟩ := hH.out
       have hqs : q.size = m := by rw [hqe]; exact hwz.out m
       obtain ⟨B,hB⟩ : ∃ B,k + m = B := ⟨_,rfl⟩
       rw [hB] at hm2 ⊢
       have fin : Hid ((k + m = l.length ∨ ¬ inW l k (k + m)) → Hy.ptV Hy.PP Hy.PX (Hy.bs q) = pts a.t l k ∧ wn l k = m) := fun h => by
        have e := hE.out m hall (by omega) h
        refine ⟨?_,e⟩
        unfold pts
        rw [e,hqe]
       by_cases hBl : B < l.length
       ·have hBl' : (B : Int) < l.length := by omega
        have hjj0 := hjo2.out B wr hBl hRm
        have hjv := hj0.out m hm1 hall
        rw [hB] at hjv
        by_cases hiw : inW l k (k + m)
        ·rw [hB] at hiw
         rw [hjv,decide_eq_true hiw] at hjj0
         have hjj : Hid (Calls Tryz.prog 80 #[.slice (some ⟨g,o,none⟩) l.length cm,.int .i64 (B : Nat)] wr fun e w' => e = .returned (.bool true) ∧ RSt w1 P pd w') := hjj0
         obtain ⟨F',hF',hFt'⟩ := hfa.out B hBl
         have hcF' : Hid (∀ W,RSt w1 P pd W → W.cell? ⟨g,o + B * 6,none⟩ = some (.int .i64 (F' : Int))) := fun W h => by have := hcl.out B hBl W h; rw [hF'] at this; exact this
         have hby' := byte_one hFt'
         have hFi' : (F' : Int) < a.t.size := by omega
         have hF4' : (F' : Int) ≤ 4096 := by omega
         have hqx : ¬ 9223372036854775807 < q.size + 1 := by omega
         have hq2 : Hid (q ++ ⟨#[byAt a.t (F' : Int)]⟩ = ⟨(wdB a.t l k (m + 1)).toArray⟩) := by
          show _ = _
          rw [hqe]
          exact hwx.out m F' (by rw [hB]; exact hF')
         have hall2 : Hid (∀ i,i < m + 1 → inW l k (k + i)) := fun i hi => by
          by_cases e : i = m
          ·subst e; rw [hB]; exact hiw
          ·exact hall i (by omega)
         have hB4 : (B : Int) ≤ 4096 := by omega
         have hBk : Hid (((B : Nat) : Int) + 1 = ((k + (m + 1) : Nat) : Int)) := by show _ = _; omega
         clear hH hqe hall fin hjj0 hjv hiw hpin hpfew hwn hpt2 hjo2 hcl hfa hE hj0 hwx hwz hin0 hRd hw1 hnx hRm hqs
         go_wp2_with (go_at_call 80; refine hjj.out.mono ?_; rintro e w5 ⟨rfl,hR5⟩)
         have e0 := htx.out _ hR5
         have e1 := hcF'.out _ hR5
         go_quiet (fail)
         have hR6 : Hid (RSt w1 P pd (w5.drewN nq)) := hR5.step (below_drewN (Below.refl _ _) nq)
         generalize w5.drewN nq = w6 at *
         clear hR5 e0 e1
         go_wp2_with fail
         go_roundw
         case rel => exact ⟨m + 1,_,by omega,by omega,rfl,by rw [← hBk.out],hq2.out,hR6.out,hall2.out⟩
         case measure => simp [intOf]; omega
        ·rw [hB] at hiw
         rw [hjv,decide_eq_false hiw] at hjj0
         have hjj : Hid (Calls Tryz.prog 80 #[.slice (some ⟨g,o,none⟩) l.length cm,.int .i64 (B : Nat)] wr fun e w' => e = .returned (.bool false) ∧ RSt w1 P pd w') := hjj0
         clear hjj0 hjv
         obtain ⟨hpv,hwm⟩ := fin.out (.inr (by rw [hB]; exact hiw))
         obtain ⟨ps,hpse⟩ : ∃ ps,pts a.t l k = ps := ⟨_,rfl⟩
         rw [hpse] at hpv
         have hq4 : q.size ≤ 4096 := by omega
         have hin : Hid (∀ x,x ∈ ps → 0 ≤ x ∧ x < wn l k) := fun x h => hpin.out k x (by rw [hpse]; exact h)
         have hfw : Hid (ps.length ≤ 64) := by show _ ≤ 64; rw [← hpse]; exact hpfew.out k
         have hmk : Hid (parR a.t l a.p.p12 (k + 1) = mkN pd k ps ps.length) := by show _ = _; rw [hnx.out]; unfold mkA; rw [hpse]
         have hpt3 : Hid (∀ W,RSt w1 P pd W → Calls Tryz.prog 81 #[] W fun e w' => ∃ m,e = .returned (.pointer (some ⟨m,0,none⟩)) ∧ RSt w1 P pd w' ∧ ∀ W2,Below w'.heap.size w' W2 → Calls Tryz.prog 82 #[.pointer (some ⟨m,0,none⟩),.string q] W2 fun e w3 => ∃ u er,e = .returned (.tuple #[u,.int .i64 er]) ∧ RSt w1 P pd w3 ∧ Hy.IntsAt w3 u ps ∧ ∀ g o n c,u = .slice (some ⟨g,o,none⟩) n c → w1.heap.size ≤ g) := fun W h => hpt2.out W q ps h hq4 hpv
         have hwl : k + wn l k ≤ l.length := hwn.out k hk
         have hpl2 := hpl.out
         have hP1 : P < w1.heap.size := by
          have := hP1s.out
          omega
         clear hH hqe hall fin hpv hpse hpin hpfew hwn hpt2 hjo2 htx hcl hfa hE hj0 hwx hwz hin0 hRd hw1 hnx hwm hqs hpl
         clear hiw hRm
         go_wp2_with (first | (go_at_call 80; refine hjj.out.mono ?_; rintro e w5 ⟨rfl,hR5⟩) | (go_at_call 81; refine (hpt3.out _ hR5).mono ?_; rintro e w3 ⟨mm,rfl,hR3,hpo⟩) | (go_at_call 82; refine (hpo _ (Below.refl _ _)).mono ?_; rintro e w4 ⟨u,er,rfl,hR4,hi4,hg4⟩; obtain ⟨av,cv,rfl,-⟩ := hi4.ex))
         have hs5 : Hid (RSt w1 P pd w4 ∧ Hy.IntsAt w4 (.slice av ps.length cv) ps) := ⟨hR4,hi4⟩
         have hg5 : Hid (∀ g o,av = some ⟨g,o,none⟩ → w1.heap.size ≤ g) := fun g o e => hg4 g o _ _ (by rw [e])
         have hfw' : (ps.length : Int) ≤ 64 := by have := hfw.out; omega
         clear hR4 hi4 hg4 hpt3
         go_loopw [11] (fun j wq => ∃ n : Nat,n ≤ ps.length ∧ j = .int .i64 n ∧ Hid (RSt w1 P (mkN pd k ps n) wq ∧ Hy.IntsAt wq (.slice av ps.length cv) ps)) (fun j _ => ps.length - (intOf j).toNat)
         case atStart => exact ⟨0,by omega,rfl,hs5.out⟩
         case round =>
          obtain ⟨n,hn,rfl,hK⟩ := hrel
          obtain ⟨hk1,hk2⟩ := hK.out
          by_cases hnl : n < ps.length
          ·have hnl' : (n : Int) < ps.length := by omega
           obtain ⟨gb,go,hav,ci⟩ := Hy.int_cell hk2 hnl
           subst hav
           have hx := hin.out (ps[n]'hnl) (List.getElem_mem hnl)
           obtain ⟨x,hxe⟩ : ∃ x : Nat,ps[n]'hnl = (x : Int) := ⟨(ps[n]'hnl).toNat,by omega⟩
           have hgt : ps.getD n 0 = (x : Int) := by rw [List.getD_eq_getElem?_getD,List.getElem?_eq_getElem hnl]; exact hxe
           rw [hxe] at ci hx
           have hax : k + x < l.length + 1 := by omega
           have hax' : (k : Int) + x < (l.length : Int) + 1 := by omega
           have hml : (mkN pd k ps n).length = l.length + 1 := by rw [mkN_len]; exact hpl2
           have cb : ∃ y,wr.cell? ⟨P,k + x,none⟩ = some (.bool y) := ⟨_,by rw [hk1.bl.cell]; exact bcells_at (by omega)⟩
           obtain ⟨y,cb⟩ := cb
           have fb := hk1.bl.free (k + x)
           have hnx2 : Hid (RSt w1 P (mkN pd k ps (n + 1)) (wr.setCell ⟨P,k + x,none⟩ (.bool true)) ∧ Hy.IntsAt (wr.setCell ⟨P,k + x,none⟩ (.bool true)) (.slice (some ⟨gb,go,none⟩) ps.length cv) ps) := by
            refine ⟨?_,rec_turns hk2 (Turns.setCell (X := fun k => k = P) wr (p := ⟨P,k + x,none⟩) rfl _) (fun g o n c e => ?_)⟩
            ·show RSt w1 P ((mkN pd k ps n).set (k + (ps.getD n 0).toNat) true) _
             rw [hgt,Int.toNat_natCast]
             exact hk1.set (k + x)
            ·cases e
             have := hg5.out gb go rfl
             omega
           have hax2 : (k : Int) + x ≤ 5000 := by omega
           clear hK hk1 hk2 hml hgt hxe hin hmk hs5 hfw hg5 hx
           go_wp2_with fail
           go_roundw
           case rel => exact ⟨n + 1,by omega,by simp,hnx2⟩
           case measure => simp [intOf]; omega
          ·obtain rfl : n = ps.length := by omega
           have hge : ¬ (ps.length : Int) < ps.length := by omega
           have hk3 : Hid (RSt w1 P (parR a.t l a.p.p12 (k + 1)) wr) := by show RSt _ _ _ _; rw [hmk.out]; exact hk1
           clear hK hk1 hk2 hin hmk hs5 hfw hg5
           go_wp2_with fail
           go_roundw
           case rel => exact ⟨k + 1,by omega,by simp,hk3⟩
           case measure => simp [intOf]; omega
       ·have hBl' : ¬ (B : Int) < l.length := by omega
        obtain ⟨hpv,hwm⟩ := fin.out (.inl (by omega))
        obtain ⟨ps,hpse⟩ : ∃ ps,pts a.t l k = ps := ⟨_,rfl⟩
        rw [hpse] at hpv
        have hq4 : q.size ≤ 4096 := by omega
        have hin : Hid (∀ x,x ∈ ps → 0 ≤ x ∧ x < wn l k) := fun x h => hpin.out k x (by rw [hpse]; exact h)
        have hfw : Hid (ps.length ≤ 64) := by show _ ≤ 64; rw [← hpse]; exact hpfew.out k
        have hmk : Hid (parR a.t l a.p.p12 (k + 1) = mkN pd k ps ps.length) := by show _ = _; rw [hnx.out]; unfold mkA; rw [hpse]
        have hpt3 : Hid (∀ W,RSt w1 P pd W → Calls Tryz.prog 81 #[] W fun e w' => ∃ m,e = .returned (.pointer (some ⟨m,0,none⟩)) ∧ RSt w1 P pd w' ∧ ∀ W2,Below w'.heap.size w' W2 → Calls Tryz.prog 82 #[.pointer (some ⟨m,0,none⟩),.string q] W2 fun e w3 => ∃ u er,e = .returned (.tuple #[u,.int .i64 er]) ∧ RSt w1 P pd w3 ∧ Hy.IntsAt w3 u ps ∧ ∀ g o n c,u = .slice (some ⟨g,o,none⟩) n c → w1.heap.size ≤ g) := fun W h => hpt2.out W q ps h hq4 hpv
        have hwl : k + wn l k ≤ l.length := hwn.out k hk
        have hpl2 := hpl.out
        have hP1 : P < w1.heap.size := by
         have := hP1s.out
         omega
        clear hH hqe hall fin hpv hpse hpin hpfew hwn hpt2 hjo2 htx hcl hfa hE hj0 hwx hwz hin0 hRd hw1 hnx hwm hqs hpl
        go_wp2_with (first | (go_at_call 81; refine (hpt3.out _ hRm).mono ?_; rintro e w3 ⟨mm,rfl,hR3,hpo⟩) | (go_at_call 82; refine (hpo _ (Below.refl _ _)).mono ?_; rintro e w4 ⟨u,er,rfl,hR4,hi4,hg4⟩; obtain ⟨av,cv,rfl,-⟩ := hi4.ex))
        have hs5 : Hid (RSt w1 P pd w4 ∧ Hy.IntsAt w4 (.slice av ps.length cv) ps) := ⟨hR4,hi4⟩
        have hg5 : Hid (∀ g o,av = some ⟨g,o,none⟩ → w1.heap.size ≤ g) := fun g o e => hg4 g o _ _ (by rw [e])
        have hfw' : (ps.length : Int) ≤ 64 := by have := hfw.out; omega
        clear hR4 hi4 hg4 hpt3
        go_loopw [11] (fun j wq => ∃ n : Nat,n ≤ ps.length ∧ j = .int .i64 n ∧ Hid (RSt w1 P (mkN pd k ps n) wq ∧ Hy.IntsAt wq (.slice av ps.length cv) ps)) (fun j _ => ps.length - (intOf j).toNat)
        case atStart => exact ⟨0,by omega,rfl,hs5.out⟩
        case round =>
         obtain ⟨n,hn,rfl,hK⟩ := hrel
         obtain ⟨hk1,hk2⟩ := hK.out
         by_cases hnl : n < ps.length
         ·have hnl' : (n : Int) < ps.length := by omega
          obtain ⟨gb,go,hav,ci⟩ := Hy.int_cell hk2 hnl
          subst hav
          have hx := hin.out (ps[n]'hnl) (List.getElem_mem hnl)
          obtain ⟨x,hxe⟩ : ∃ x : Nat,ps[n]'hnl = (x : Int) := ⟨(ps[n]'hnl).toNat,by omega⟩
          have hgt : ps.getD n 0 = (x : Int) := by rw [List.getD_eq_getElem?_getD,List.getElem?_eq_getElem hnl]; exact hxe
          rw [hxe] at ci hx
          have hax : k + x < l.length + 1 := by omega
          have hax' : (k : Int) + x < (l.length : Int) + 1 := by omega
          have hml : (mkN pd k ps n).length = l.length + 1 := by rw [mkN_len]; exact hpl2
          have cb : ∃ y,wr.cell? ⟨P,k + x,none⟩ = some (.bool y) := ⟨_,by rw [hk1.bl.cell]; exact bcells_at (by omega)⟩
          obtain ⟨y,cb⟩ := cb
          have fb := hk1.bl.free (k + x)
          have hnx2 : Hid (RSt w1 P (mkN pd k ps (n + 1)) (wr.setCell ⟨P,k + x,none⟩ (.bool true)) ∧ Hy.IntsAt (wr.setCell ⟨P,k + x,none⟩ (.bool true)) (.slice (some ⟨gb,go,none⟩) ps.length cv) ps) := by
           refine ⟨?_,rec_turns hk2 (Turns.setCell (X := fun k => k = P) wr (p := ⟨P,k + x,none⟩) rfl _) (fun g o n c e => ?_)⟩
           ·show RSt w1 P ((mkN pd k ps n).set (k + (ps.getD n 0).toNat) true) _
            rw [hgt,Int.toNat_natCast]
            exact hk1.set (k + x)
           ·cases e
            have := hg5.out gb go rfl
            omega
          have hax2 : (k : Int) + x ≤ 5000 := by omega
          clear hK hk1 hk2 hml hgt hxe hin hmk hs5 hfw hg5 hx
          go_wp2_with fail
          go_roundw
          case rel => exact ⟨n + 1,by omega,by simp,hnx2⟩
          case measure => simp [intOf]; omega
         ·obtain rfl : n = ps.length := by omega
          have hge : ¬ (ps.length : Int) < ps.length := by omega
          have hk3 : Hid (RSt w1 P (parR a.t l a.p.p12 (k + 1)) wr) := by show RSt _ _ _ _; rw [hmk.out]; exact hk1
          clear hK hk1 hk2 hin hmk hs5 hfw hg5
          go_wp2_with fail
          go_roundw
          case rel => exact ⟨k + 1,by omega,by simp,hk3⟩
          case measure => simp [intOf]; omega
    ·have hnx : Hid (∀ W,RSt w1 P (parR a.t l a.p.p12 k) W → RSt w1 P (parR a.t l a.p.p12 (k + 1)) W) := fun W h => by
      rw [hst,if_neg (fun h => by have := h.1; unfold stB at this; rw [hjb] at this; simp at this)]
      exact h
     rw [hjb] at hj
     have hj' : Hid (Calls Tryz.prog 80 #[.slice (some ⟨g,o,none⟩) l.length cm,.int .i64 k] wr fun e w' => e = .returned (.bool true) ∧ RSt w1 P (parR a.t l a.p.p12 k) w') := hj
     clear hr0 hpb hjo hpt hcell hfa hpin hpfew hwn hstep hplen hPB' hst hBw hc hj hjc
     go_wp2_with (go_at_call 80; refine hj'.out.mono ?_; rintro e w2 ⟨rfl,hR2⟩)
     go_roundw
     case rel => exact ⟨k + 1,by omega,by simp,hnx.out _ hR2⟩
     case measure => simp [intOf]; omega
   ·have q1 : ((mAt l k).k != 1) = true := by simpa using h1
    have hnx : Hid (RSt w1 P (parR a.t l a.p.p12 (k + 1)) wr) := by
     show RSt _ _ _ _
     rw [hst,if_neg (fun h => by have := h.1; unfold stB at this; rw [decide_eq_false h1] at this; simp at this)]
     exact hR.out
    clear hr0 hpb hjo hpt hcell hfa hpin hpfew hwn hstep hplen hPB' hst hBw hc h1
    generalize (mAt l k).k = k1 at *
    go_wp2_with fail
    go_roundw
    case rel => exact ⟨k + 1,by omega,by simp,hnx⟩
    case measure => simp [intOf]; omega
  ·obtain rfl : k = l.length := by omega
   have hge : ¬ (l.length : Int) < l.length := by omega
   clear hr0 hpb hjo hpt hcell hfa hpin hpfew hwn hstep hplen hPB'
   go_wp2_with fail
   go_ret
   exact ⟨⟨P,rfl,hR.out.bl⟩,hBw.out _ _ hR.out⟩
end Go.Proofs.YthcphnifnfnceaaGreatDoor
