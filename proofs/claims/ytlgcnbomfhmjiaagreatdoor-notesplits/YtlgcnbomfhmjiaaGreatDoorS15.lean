/-
  What is proved here: what begin, upTo, legal, width, next of first answer.
-/
import Derived.Test.YtlgcnbomfhmjiaaGreatDoorS4
import Derived.Test.YtlgcnbomfhmjiaaGreatDoorS13
import Derived.Test.YtlgcnbomfhmjiaaGreatDoorS3
namespace Go.Proofs.YtlgcnbomfhmjiaaGreatDoor
open Go.RowKit Go.Shelf
set_option maxRecDepth 100000
set_option maxHeartbeats 2000000

theorem fbegin1_any (x : It) (w : World) : Calls Tryz.prog 255 #[.agg (itL x).toArray] w fun e w' => e = .returned (.bool (!(x.k == 2))) ∧ Below w.heap.size w w' := by
 obtain ⟨k0,f0,t0,w0,s0,h0,q0,y0⟩ := x
 have hB := (Below.refl w.heap.size w).alloc (Nat.le_refl _) (.cells #[.int .i64 k0,.int .i64 f0,.int .i64 t0,.int .i64 w0,.int .i64 s0,.int .i64 h0,.int .i64 q0,.bool y0] 91)
 show Calls Tryz.prog 255 #[.agg #[.int .i64 k0,.int .i64 f0,.int .i64 t0,.int .i64 w0,.int .i64 s0,.int .i64 h0,.int .i64 q0,.bool y0]] w _
 go_enter Tryz.func255,Tryz.ntmps255
 go_wp2_with fail
 go_ret
 exact ⟨rfl,hB⟩
theorem fbindex_any (v : Value) (l : List It) (hl : l.length ≤ 9223372036854775807) (w : World) (hS : ItsAt w v l) :
  Calls Tryz.prog 135 #[v,.func (.func 255) #[] #[]] w fun e w' => (∃ n : Int,e = .returned (.int .i64 n) ∧ (if n < 0 then (l.length : Int) else n) = (sk l 0 : Nat)) ∧ Below w.heap.size w w' := by
 obtain ⟨a,cap,rfl,-⟩ := hS.ex
 have hY : Hid (∀ k (hk : k < l.length),(∀ j,j < k → (itAt l j).k = 2) → (l[k].k == 2) = false → (if ((k : Nat) : Int) < 0 then (l.length : Int) else (k : Nat)) = (sk l 0 : Nat)) := fun k hk h1 e => by
  rw [if_neg (by omega)]
  congr 1
  exact (sk_at _ 0 k (by omega) hk (by omega) (fun j _ h => h1 j h) (by rw [itAt_is hk]; simpa using e)).symm
 have hN : Hid ((∀ j,j < l.length → (itAt l j).k = 2) → (if (-1 : Int) < 0 then (l.length : Int) else -1) = (sk l 0 : Nat)) := fun h => by
  rw [if_pos (by decide)]
  congr 1
  exact (sk_all _ 0 (by omega) (by omega) (fun j _ hj => h j hj)).symm
 have hSh : Hid (ItsAt w (.slice a l.length cap) l) := hS
 clear hS
 generalize sk l 0 = r at hY hN ⊢
 go_enter Tryz.func135,Tryz.ntmps135
 go_wp2_with fail
 go_loopw [8] (fun i wr => ∃ (k : Nat),k ≤ l.length ∧ i = .int .i64 k ∧ Below w.heap.size w wr ∧ Hid (∀ j,j < k → (itAt l j).k = 2)) (fun i _ => l.length - (intOf i).toNat)
 case atStart => exact ⟨0,by omega,rfl,Below.refl _ _,fun j hj => by omega⟩
 case round =>
  obtain ⟨k,hk,rfl,hb,hall⟩ := hrel
  by_cases hlt : k < l.length
  ·obtain ⟨b,o,rfl,hbl,hit⟩ := its_at hSh.out hlt
   have hi := hit wr hb
   have c0 := hi.c0
   have c1 := hi.c1
   have c2 := hi.c2
   have c3 := hi.c3
   have c4 := hi.c4
   have c5 := hi.c5
   have c6 := hi.c6
   have c7 := hi.c7
   have hlt' : (k : Int) < l.length := by omega
   have hm := fbegin1_any l[k] wr
   have hyes : Hid ((l[k].k == 2) = false → (if ((k : Nat) : Int) < 0 then (l.length : Int) else (k : Nat)) = (r : Nat)) := hY.out k hlt hall.out
   have hno : Hid ((l[k].k == 2) = true → ∀ j,j < k + 1 → (itAt l j).k = 2) := fun hv j hjk => by
    by_cases h : j < k
    ·exact hall.out j h
    ·obtain rfl : j = k := by omega
     rw [itAt_is hlt]; simpa using hv
   clear hY hN hall hit hSh hi
   generalize l[k] = it at *
   obtain ⟨k0,f0,t0,w0,s0,h0,q0,y0⟩ := it
   simp only at c0 c1 c2 c3 c4 c5 c6 c7 hm hyes hno
   have hm' : Hid (Calls Tryz.prog 255 #[.agg #[.int .i64 k0,.int .i64 f0,.int .i64 t0,.int .i64 w0,.int .i64 s0,.int .i64 h0,.int .i64 q0,.bool y0]] wr fun e w' => e = .returned (.bool (!(k0 == 2))) ∧ Below wr.heap.size wr w') := hm
   clear hm
   cases hv : (k0 == 2) with
   | false =>
    have hn' : Hid ((if ((k : Nat) : Int) < 0 then (l.length : Int) else (k : Nat)) = (r : Nat)) := hyes.out hv
    rw [hv] at hm'
    clear hyes hno hv
    go_wp2_with (go_at_call 255; refine hm'.out.mono ?_; rintro e w' ⟨rfl,hb2⟩)
    go_ret
    exact ⟨⟨_,rfl,hn'.out⟩,hb.trans (hb2.mono hb.size)⟩
   | true =>
    have hn : Hid (∀ j,j < k + 1 → (itAt l j).k = 2) := hno.out hv
    rw [hv] at hm'
    clear hyes hno hv
    go_wp2_with (go_at_call 255; refine hm'.out.mono ?_; rintro e w' ⟨rfl,hb2⟩)
    go_roundw
    case rel => exact ⟨k + 1,by omega,by simp,hb.trans (hb2.mono hb.size),hn⟩
    case measure => simp [intOf]; omega
  ·have hn' : Hid ((if (-1 : Int) < 0 then (l.length : Int) else -1) = (r : Nat)) := hN.out (fun j hj => hall.out j (by omega))
   have hge : ¬ (k : Int) < l.length := by omega
   clear hY hN hall hSh
   go_wp2_with fail
   go_ret
   exact ⟨⟨_,rfl,hn'.out⟩,hb⟩

theorem fbegin_any (v : Value) (l : List It) (hl : l.length ≤ 9223372036854775807) (w : World) (hS : ItsAt w v l) :
  Calls Tryz.prog 206 #[v] w fun e w' => e = .returned (.int .i64 (sk l 0 : Nat)) ∧ Below w.heap.size w w' := by
 have hi : Hid (Calls Tryz.prog 135 #[v,.func (.func 255) #[] #[]] w fun e w' => (∃ n : Int,e = .returned (.int .i64 n) ∧ (if n < 0 then (l.length : Int) else n) = (sk l 0 : Nat)) ∧ Below w.heap.size w w') := fbindex_any v l hl w hS
 obtain ⟨a,cap,rfl,-⟩ := hS.ex
 clear hS
 generalize sk l 0 = r at *
 go_enter Tryz.func206,Tryz.ntmps206
 go_wp2_with (go_at_call 135; refine hi.out.mono ?_; rintro e w' ⟨⟨n,rfl,hn⟩,hb2⟩)
 all_goals (go_ret; first | (rw [if_pos (by omega)] at hn; exact ⟨by rw [← hn]; rfl,hb2⟩) | (rw [if_neg (by omega)] at hn; exact ⟨by rw [← hn]; rfl,hb2⟩))

theorem low22 (a : Option Addr) (n cap f : Nat) (h1 : f ≤ n) (h2 : n ≤ cap) : ∃ a',(∀ W : World,(Instr.slice 68 (.slice a n cap) (some (.int .i64 (f : Int))) none none).run Tryz.prog W = .ok (.slice a' (n - f) (cap - f)) W) ∧ ∀ b o,a = some ⟨b,o,none⟩ → f < n → a' = some ⟨b,o + f * 8,none⟩ := by
 have he : Tryz.prog.elem 68 = 91 := by kernel_rfl
 have hu : Tryz.prog.underlying 68 = some (.slice (Tryz.prog.elem 68)) := by rw [he]; exact Tryz.underlying68
 have hr := fun W => run_slice_l (P := Tryz.prog) (w := W) 68 a n cap hu .i64 f (by omega) (by omega)
 have hs : ∀ W,(sizeOf (Tryz.prog.elem 68)).run Tryz.prog W = .ok 8 W := fun W => by kernel_rfl
 simp only [hs,Result.andThen,sliced,Int.toNat_natCast] at hr
 refine ⟨_,hr,fun b o e hlt => ?_⟩
 rw [if_neg (by omega),e]
 simp [addr_add]
theorem upTo_any (a : Option Addr) (n cap b : Nat) (hb : b ≤ n) (hn : n ≤ 8192) (hc : n ≤ cap) (w : World) :
  Calls Tryz.prog 284 #[.slice a n cap,.int .i64 b] w fun e w' => e = .returned (.slice a (min (b + 1) n) cap) ∧ w' = w := by
 have h1 : (b : Int) ≤ n := by omega
 have h2 : (n : Int) ≤ 8192 := by omega
 have h3 : (n : Int) ≤ cap := by omega
 by_cases h : b < n
 ·rw [Nat.min_eq_left (by omega)]
  have h' : (b : Int) + 1 ≤ n := by omega
  have h'' : (b : Int) + 1 ≤ cap := by omega
  go_enter Tryz.func284,Tryz.ntmps284
  go_wp2_with fail
  all_goals (first | (exfalso; omega) | (go_ret; exact ⟨rfl,rfl⟩))
 ·obtain rfl : b = n := by omega
  rw [Nat.min_eq_right (by omega)]
  go_enter Tryz.func284,Tryz.ntmps284
  go_wp2_with fail
  all_goals (first | (exfalso; omega) | (go_ret; exact ⟨rfl,rfl⟩))
theorem flegal_any (v : Value) (l : List It) (b : Nat) (h : ckL l = 0) (h0 : 0 < b) (hb : b ≤ l.length) (w : World) (hS : ItsAt w v l) :
  Calls Tryz.prog 256 #[v,.int .i64 b] w fun e w' => e = .returned (.bool (enB l b)) ∧ Below w.heap.size w w' := by
 obtain ⟨a,cap,rfl,-⟩ := hS.ex
 have hle := hS.le _ _ _ rfl
 have h8 := ck_len h
 have hm : min (b + 1) l.length ≤ l.length := Nat.min_le_right _ _
 have hmb : b - 1 ≤ min (b + 1) l.length := by omega
 obtain ⟨a',hr,ha'⟩ := low22 a (min (b + 1) l.length) cap (b - 1) hmb (by omega)
 have hI := sub_its hS hmb hm (fun g o e h => ha' g o e h)
 have hu : Hid (Calls Tryz.prog 284 #[.slice a l.length cap,.int .i64 b] w fun e w' => e = .returned (.slice a (min (b + 1) l.length) cap) ∧ w' = w) := upTo_any a l.length cap b hb h8 hle w
 have hL : Hid (Calls Tryz.prog 243 #[.slice a' (min (b + 1) l.length - (b - 1)) (cap - (b - 1)),.int .i64 1] w fun e w' => e = .returned (.bool (enB l b)) ∧ Below w.heap.size w w') := by
  have := legal_any _ _ 1 w hI
  rw [sub_legal h h0 hb] at this
  exact this
 have hr1 : (Instr.slice 68 (.slice a (min (b + 1) l.length) cap) (some (.int .i64 ((b : Int) - 1))) none none).run Tryz.prog w = .ok (.slice a' (min (b + 1) l.length - (b - 1)) (cap - (b - 1))) w := by
  have := hr w
  rwa [show ((b - 1 : Nat) : Int) = (b : Int) - 1 by omega] at this
 have h1' : (1 : Int) ≤ b := by omega
 have hb' : (b : Int) ≤ 8192 := by omega
 clear hI hS hr ha' hmb hm h h8 hle
 generalize min (b + 1) l.length = m at *
 generalize enB l b = q at *
 go_enter Tryz.func256,Tryz.ntmps256
 go_wp2_with (first | (go_at_call 284; refine hu.out.mono ?_; rintro e w' ⟨rfl,rfl⟩) | (go_at_call 243; refine hL.out.mono ?_; rintro e w' ⟨rfl,hb2⟩))
 go_ret
 exact ⟨rfl,hb2⟩
theorem fwidth_any (v : Value) (l : List It) (A b : Nat) (x : Int) (h : ckL l = 0) (h0 : A ≤ b) (hb : b ≤ l.length) (hx : 0 ≤ x ∧ x ≤ 4095) (w : World) (hS : ItsAt w v l) :
  Calls Tryz.prog 257 #[v,.int .i64 A,.int .i64 b,.int .i64 x] w fun e w' => e = .returned (.int .i64 (ntV l A b x)) ∧ Below w.heap.size w w' := by
 obtain ⟨a,cap,rfl,-⟩ := hS.ex
 have hle := hS.le _ _ _ rfl
 have h8 := ck_len h
 have hm : min (b + 1) l.length ≤ l.length := Nat.min_le_right _ _
 have hmb : A ≤ min (b + 1) l.length := by omega
 obtain ⟨a',hr,ha'⟩ := low22 a (min (b + 1) l.length) cap A hmb (by omega)
 have hI := sub_its hS hmb hm (fun g o e h => ha' g o e h)
 have hu : Hid (Calls Tryz.prog 284 #[.slice a l.length cap,.int .i64 b] w fun e w' => e = .returned (.slice a (min (b + 1) l.length) cap) ∧ w' = w) := upTo_any a l.length cap b hb h8 hle w
 have hL : Hid (Calls Tryz.prog 285 #[.slice a' (min (b + 1) l.length - A) (cap - A),.int .i64 0,.int .i64 ((b : Int) - A),.int .i64 x] w fun e w' => (∃ er,e = .returned (.tuple #[.int .i64 (ntV l A b x),.int .i64 er])) ∧ Below w.heap.size w w') := by
  have := iwidth_any _ _ 0 ((b - A : Nat) : Int) x w hI
  rw [sub_width h hx h0 hb] at this
  rw [show ((b - A : Nat) : Int) = (b : Int) - A by omega] at this
  exact this.mono fun e w' h => ⟨⟨_,h.1⟩,h.2⟩
 have hr1 : (Instr.slice 68 (.slice a (min (b + 1) l.length) cap) (some (.int .i64 (A : Int))) none none).run Tryz.prog w = .ok (.slice a' (min (b + 1) l.length - A) (cap - A)) w := hr w
 have h1' : (A : Int) ≤ b := by omega
 have hb' : (b : Int) ≤ 8192 := by omega
 clear hI hS hr ha' hmb hm h h8 hle
 generalize min (b + 1) l.length = m at *
 generalize ntV l A b x = q at *
 go_enter Tryz.func257,Tryz.ntmps257
 go_wp2_with (first | (go_at_call 284; refine hu.out.mono ?_; rintro e w' ⟨rfl,rfl⟩) | (go_at_call 285; refine hL.out.mono ?_; rintro e w' ⟨⟨er,rfl⟩,hb2⟩))
 go_ret
 exact ⟨rfl,hb2⟩
theorem fnext_any (v : Value) (l : List It) (b : Nat) (h : ckL l = 0) (hb : b ≤ l.length) (w : World) (hS : ItsAt w v l) :
  Calls Tryz.prog 208 #[v,.int .i64 b] w fun e w' => e = .returned (.int .i64 (bgN l b : Nat)) ∧ Below w.heap.size w w' := by
 obtain ⟨a,cap,rfl,-⟩ := hS.ex
 have hle := hS.le _ _ _ rfl
 have h8 := ck_len h
 obtain ⟨a',hr,ha'⟩ := low22 a l.length cap b hb (by omega)
 have hI := sub_its hS hb (Nat.le_refl _) (fun g o e h => ha' g o e h)
 have hst := sub_start h hb
 have hbg := bg_le hb
 have hL : Hid (Calls Tryz.prog 258 #[.slice a' (l.length - b) (cap - b),.int .i64 0] w fun e w' => (∃ er s,e = .returned (.tuple #[.int .i64 s,.int .i64 er]) ∧ (b : Int) + s = (bgN l b : Nat)) ∧ Below w.heap.size w w') := by
  have := start_any _ _ 0 w hI
  exact this.mono fun e w' h => ⟨⟨_,_,h.1,hst⟩,h.2⟩
 have hr1 : (Instr.slice 68 (.slice a l.length cap) (some (.int .i64 (b : Int))) none none).run Tryz.prog w = .ok (.slice a' (l.length - b) (cap - b)) w := hr w
 have hq : (bgN l b : Int) ≤ 8192 := by omega
 have hq0 : (b : Int) ≤ 8192 := by omega
 clear hI hS hr ha' h h8 hle hst hbg
 generalize bgN l b = q at *
 go_enter Tryz.func208,Tryz.ntmps208
 go_wp2_with (go_at_call 258; refine hL.out.mono ?_; rintro e w' ⟨⟨er,s,rfl,hs⟩,hb2⟩; have hs1 : Hid ((b : Int) + s = q) := hs; have hs2 : (b : Int) + s ≤ 8192 := (by omega); have hs3 : 0 ≤ (b : Int) + s := (by omega); clear hs)
 go_ret
 exact ⟨by rw [← hs1.out]; rfl,hb2⟩
end Go.Proofs.YtlgcnbomfhmjiaaGreatDoor
