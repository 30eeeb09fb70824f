/- The program's iterators: reaches, those, upTo. The program's upTo: the acts of a set that a clock knows. The program's iterator over the acts that a clock knows. A function whose loop ranges over iterators round by round: the marks among its deferred calls. -/
import Derived.Test.YtghgiefciijoeaaGreatDoorMB
import Derived.Test.YtghgiefciijoeaaGreatDoorMN
import Derived.BigQuiet
import Derived.Deep.QuietTactic
import Derived.Deep.DeepCutAuto
import Derived.StillTailTactics
import Derived.RangeFuncKeeps
import Derived.RangeFuncLeaves
import Derived.RangeFuncBound
import Derived.Shelf.Abstract
import Derived.WalkKit
import Derived.OwnWalkIn
import Derived.TacticsInMore
import Derived.LoopNIn
import Derived.LoopIn
import Derived.BigFrameIn
import Derived.RangeFuncNested

namespace Go.Proofs.YtghgiefciijoeaaGreatDoor
open Go.RowKit
set_option linter.unusedVariables false
set_option maxRecDepth 100000 in
set_option maxHeartbeats 1600000 in
theorem reaches_any (pl x0 x1 x2 x3 x : Int) (t : ActT) (q : Nat) (w : World) (h : t.Reads w) (hr : t.a.r = (q : Int)) (hq : q < 4) (hx : [x0, x1, x2, x3].getD q 0 = x) :
  Calls Tryz.prog 155 #[.agg #[.int .i64 pl, .int .i64 x0, .int .i64 x1, .int .i64 x2, .int .i64 x3], t.val] w fun e w' => e = .returned (.bool (decide (t.a.n ≤ x))) ∧ Below w.heap.size w w' := by
 obtain ⟨⟨r, n, dep, actor, kind, dst, bucket, mask, gr, gn, ups⟩, vd, vs⟩ := t
 have hsd := ints_len h.1
 have hsu := ups_len h.2
 simp only at hsd hsu hr
 obtain ⟨da, dc, rfl⟩ := hsd
 obtain ⟨ua, uc, rfl⟩ := hsu
 clear h
 subst hr
 obtain ⟨W0, hW0⟩ : ∃ W0, W0 = (w.alloc (.cells #[.int .i64 pl, .int .i64 x0, .int .i64 x1, .int .i64 x2, .int .i64 x3] 71)).alloc (.cells #[.int .i64 q, .int .i64 n, .slice da dep.length dc, .int .i64 actor, .int .i64 kind, .int .i64 dst, .int .i64 bucket, .int .i64 mask, .int .i64 gr, .int .i64 gn, .slice ua ups.length uc] 32) := ⟨_, rfl⟩
 have k0 : Blk ((w.alloc (.cells #[.int .i64 pl, .int .i64 x0, .int .i64 x1, .int .i64 x2, .int .i64 x3] 71)).alloc (.cells #[.int .i64 q, .int .i64 n, .slice da dep.length dc, .int .i64 actor, .int .i64 kind, .int .i64 dst, .int .i64 bucket, .int .i64 mask, .int .i64 gr, .int .i64 gn, .slice ua ups.length uc] 32)) w.heap.size [.int .i64 pl, .int .i64 x0, .int .i64 x1, .int .i64 x2, .int .i64 x3] := (Blk.new w _ _).alloc _
 have b0 := ((Below.refl w.heap.size w).alloc (Nat.le_refl _) (.cells #[.int .i64 pl, .int .i64 x0, .int .i64 x1, .int .i64 x2, .int .i64 x3] 71)).alloc (by simp) (.cells #[.int .i64 q, .int .i64 n, .slice da dep.length dc, .int .i64 actor, .int .i64 kind, .int .i64 dst, .int .i64 bucket, .int .i64 mask, .int .i64 gr, .int .i64 gn, .slice ua ups.length uc] 32)
 have cx : W0.cell? ⟨w.heap.size, 1 + q, none⟩ = some (.int .i64 x) := by
  rw [hW0, k0.cell (1 + q), ← hx]
  match q, hq with
  | 0, _ => rfl
  | 1, _ => rfl
  | 2, _ => rfl
  | 3, _ => rfl
 have kA : Blk W0 (w.heap.size + 1) [.int .i64 q, .int .i64 n, .slice da dep.length dc, .int .i64 actor, .int .i64 kind, .int .i64 dst, .int .i64 bucket, .int .i64 mask, .int .i64 gr, .int .i64 gn, .slice ua ups.length uc] := by
  rw [hW0]
  have := Blk.new (w.alloc (.cells #[.int .i64 pl, .int .i64 x0, .int .i64 x1, .int .i64 x2, .int .i64 x3] 71)) #[.int .i64 q, .int .i64 n, .slice da dep.length dc, .int .i64 actor, .int .i64 kind, .int .i64 dst, .int .i64 bucket, .int .i64 mask, .int .i64 gr, .int .i64 gn, .slice ua ups.length uc] 32
  rw [World.size_alloc] at this
  exact this
 rw [← hW0] at b0
 have B0 := Lib.hid b0
 have ca := kA.cell 0
 have cb := kA.cell 1
 simp only [List.getElem?_cons_zero, List.getElem?_cons_succ] at ca cb
 have i0 : (0 : Int) ≤ (q : Int) := by omega
 have i1 : (q : Int) < 4 := by omega
 clear k0 b0 kA hx
 show Calls _ _ #[_, Value.agg #[.int .i64 q, .int .i64 n, .slice da dep.length dc, .int .i64 actor, .int .i64 kind, .int .i64 dst, .int .i64 bucket, .int .i64 mask, .int .i64 gr, .int .i64 gn, .slice ua ups.length uc]] w _
 go_enter Tryz.func155, Tryz.ntmps155
 go_upto_region 1 with (fail)
 rw [← hW0]
 clear hW0
 go_quiet (fail)
 go_wp2
 go_ret
 exact ⟨rfl, below_drewN B0.out _⟩
def Those (w : World) (cs : List Value) (wf : Value) (e : Ending) (w' : World) : Prop := ∃ S F, e = .returned (.func (.func 166) #[] #[.pointer (some ⟨S, 0, none⟩), .pointer (some ⟨F, 0, none⟩)]) ∧ w.heap.size ≤ S ∧ w.heap.size ≤ F ∧ Blk w' S cs ∧ Blk w' F [wf] ∧ Below w.heap.size w w'
set_option maxRecDepth 100000 in
set_option maxHeartbeats 1600000 in
theorem those_any (a : Option Addr) (l c b : Nat) (p x0 x1 x2 x3 : Int) (fn : Fn) (fa fb : Array Value) (w : World) :
  Calls Tryz.prog 154 #[.agg #[.slice a l c, .map (some b), .int .i64 p, .int .i64 x0, .int .i64 x1, .int .i64 x2, .int .i64 x3], .func fn fa fb] w (Those w [.slice a l c, .map (some b), .int .i64 p, .int .i64 x0, .int .i64 x1, .int .i64 x2, .int .i64 x3] (.func fn fa fb)) := by
 go_enter Tryz.func154, Tryz.ntmps154
 go_wp2
 go_ret
 refine ⟨w.heap.size, w.heap.size + 1, rfl, Nat.le_refl _, by omega, (Blk.new w _ _).alloc _, ?_, ((Below.refl w.heap.size w).alloc (Nat.le_refl _) _).alloc (by simp) _⟩
 have := Blk.new (w.alloc (.cells #[.slice a l c, .map (some b), .int .i64 p, .int .i64 x0, .int .i64 x1, .int .i64 x2, .int .i64 x3] 73)) #[.func fn fa fb] 117
 rw [World.size_alloc] at this
 exact this
end Go.Proofs.YtghgiefciijoeaaGreatDoor
namespace Go.Proofs.YtghgiefciijoeaaGreatDoor
open Go.RowKit
set_option linter.unusedVariables false
def UpTo (w : World) (cs ks : List Value) (e : Ending) (w' : World) : Prop := ∃ S F, e = .returned (.func (.func 166) #[] #[.pointer (some ⟨S, 0, none⟩), .pointer (some ⟨F, 0, none⟩)]) ∧ w.heap.size ≤ S ∧ w.heap.size ≤ F ∧ Blk w' S cs ∧ Blk w' F [.func (.func 155) #[.agg ks.toArray] #[]] ∧ Below w.heap.size w w'
set_option maxRecDepth 100000 in
set_option maxHeartbeats 1600000 in
theorem upTo_any (a : Option Addr) (l c b : Nat) (p x0 x1 x2 x3 q y0 y1 y2 y3 : Int) (w : World) :
  Calls Tryz.prog 132 #[.agg #[.slice a l c, .map (some b), .int .i64 p, .int .i64 x0, .int .i64 x1, .int .i64 x2, .int .i64 x3], .agg #[.int .i64 q, .int .i64 y0, .int .i64 y1, .int .i64 y2, .int .i64 y3]] w (UpTo w [.slice a l c, .map (some b), .int .i64 p, .int .i64 x0, .int .i64 x1, .int .i64 x2, .int .i64 x3] [.int .i64 q, .int .i64 y0, .int .i64 y1, .int .i64 y2, .int .i64 y3]) := by
 go_enter Tryz.func132, Tryz.ntmps132
 obtain ⟨W0, hW0⟩ : ∃ W0, W0 = (w.alloc (.cells #[.slice a l c, .map (some b), .int .i64 p, .int .i64 x0, .int .i64 x1, .int .i64 x2, .int .i64 x3] 73)).alloc (.cells #[.int .i64 q, .int .i64 y0, .int .i64 y1, .int .i64 y2, .int .i64 y3] 71) := ⟨_, rfl⟩
 have kS : Blk W0 w.heap.size [.slice a l c, .map (some b), .int .i64 p, .int .i64 x0, .int .i64 x1, .int .i64 x2, .int .i64 x3] := by
  rw [hW0]
  exact (Blk.new w _ _).alloc _
 have kC : Blk W0 (w.heap.size + 1) [.int .i64 q, .int .i64 y0, .int .i64 y1, .int .i64 y2, .int .i64 y3] := by
  rw [hW0]
  have := Blk.new (w.alloc (.cells #[.slice a l c, .map (some b), .int .i64 p, .int .i64 x0, .int .i64 x1, .int .i64 x2, .int .i64 x3] 73)) #[.int .i64 q, .int .i64 y0, .int .i64 y1, .int .i64 y2, .int .i64 y3] 71
  rw [World.size_alloc] at this
  exact this
 have B0 := Lib.hid (((Below.refl w.heap.size w).alloc (Nat.le_refl _) (.cells #[.slice a l c, .map (some b), .int .i64 p, .int .i64 x0, .int .i64 x1, .int .i64 x2, .int .i64 x3] 73)).alloc (by simp) (.cells #[.int .i64 q, .int .i64 y0, .int .i64 y1, .int .i64 y2, .int .i64 y3] 71))
 rw [← hW0] at B0
 have s0 := kS.cell 0
 have s1 := kS.cell 1
 have s2 := kS.cell 2
 have s3 := kS.cell 3
 have s4 := kS.cell 4
 have s5 := kS.cell 5
 have s6 := kS.cell 6
 have c0 := kC.cell 0
 have c1 := kC.cell 1
 have c2 := kC.cell 2
 have c3 := kC.cell 3
 have c4 := kC.cell 4
 simp only [List.getElem?_cons_zero, List.getElem?_cons_succ] at s0 s1 s2 s3 s4 s5 s6 c0 c1 c2 c3 c4
 clear kS kC
 go_upto_region 1 with (fail)
 rw [← hW0]
 clear hW0
 go_wp2_with fail
 refine (those_any _ _ _ _ _ _ _ _ _ _ _ _ _).mono ?_
 rintro e w6 ⟨S, F, rfl, hS, hF, kS, kF, b6⟩
 have h0 := B0.out.size
 go_wp2
 go_ret
 exact ⟨S, F, rfl, by omega, by omega, kS, kF, B0.out.trans (b6.mono h0)⟩
end Go.Proofs.YtghgiefciijoeaaGreatDoor
namespace Go.Proofs.YtghgiefciijoeaaGreatDoor
open Go.RowKit Go.Shelf
set_option linter.unusedVariables false
attribute [local go_sem] Oper.semAt_some
def knowsT (ys : List Int) (t : ActT) : Bool := decide (t.a.n ≤ ys.getD t.a.r.toNat 0)
theorem filt_succ (P : ActT → Bool) (ts : List ActT) (k : Nat) (h : k < ts.length) : (ts.take (k + 1)).filter P = (ts.take k).filter P ++ (if P (ts.getD k t0) then [ts.getD k t0] else []) := by
 rw [List.take_add_one, List.filter_append]
 simp only [List.getD_eq_getElem?_getD, List.getElem?_eq_getElem h, Option.toList_some, Option.getD_some]
 by_cases hp : P ts[k] = true <;> simp [hp]
theorem filt_len (P : ActT → Bool) (ts : List ActT) (k : Nat) (h : k < ts.length) : ((ts.take k).filter P).length < ts.length := by
 have h1 := List.length_filter_le P (ts.take k)
 have h2 := List.length_take_le k ts
 omega
theorem filt_pre (P : ActT → Bool) (ts : List ActT) (k : Nat) : (ts.take k).filter P <+: ts.filter P := by
 have := List.take_append_drop k ts
 exact ⟨(ts.drop k).filter P, by rw [← List.filter_append, this]⟩
set_option maxRecDepth 100000 in
set_option maxHeartbeats 3200000 in
theorem those1_in (n : Nat) (hn : 1 ≤ n) (l Sb G b off cap len : Nat) (mp : Value) (p x0 x1 x2 x3 pl y0 y1 y2 y3 : Int) (ts : List ActT) (K : ActT → Prop) (J Jx : List ActT → World → Prop) (w0 W : World)
  (hK : ∀ t ∈ ts, K t)
  (hJ : ∀ pre A B, J pre A → Below A.heap.size A B → J pre B)
  (hY : ∀ pre x W, K x → J pre W → pre.length < ts.length → YieldAt Fence.wide (n - 1) Tryz.prog l #[x.val] W fun e W' =>
   (e = .returned (.bool true) ∧ J (pre ++ [x]) W' ∧ Below w0.heap.size W W') ∨ (e = .returned (.bool false) ∧ Jx (pre ++ [x]) W'))
  (h1 : ts.length = len) (hl : len ≤ 9223372036854775807) (hb : b < w0.heap.size) (hS : Sb < w0.heap.size) (hG : G < w0.heap.size) (hW : Below w0.heap.size w0 W)
  (hr : ∀ t ∈ ts, t.Reads w0 ∧ 0 ≤ t.a.r ∧ t.a.r < 4) (hc : ∀ i, i < len → ActAt w0 b (off + i * 11) (ts.getD i t0))
  (kS : Blk w0 Sb [.slice (some ⟨b, off, none⟩) len cap, mp, .int .i64 p, .int .i64 x0, .int .i64 x1, .int .i64 x2, .int .i64 x3])
  (kG : Blk w0 G [.func (.func 155) #[.agg #[.int .i64 pl, .int .i64 y0, .int .i64 y1, .int .i64 y2, .int .i64 y3]] #[]]) (h0 : J [] W) :
  CallsIn Fence.wide n Tryz.prog 166 #[.func (.yield l) #[] #[], .pointer (some ⟨Sb, 0, none⟩), .pointer (some ⟨G, 0, none⟩)] W fun e W' => (∃ v, e = .returned v) ∧
   ((∃ zs, zs = ts.filter (knowsT [y0, y1, y2, y3]) ∧ J zs W') ∨ (∃ pre, pre <+: ts.filter (knowsT [y0, y1, y2, y3]) ∧ Jx pre W')) := by
 have s0 := (kS.below hW hS).cell 0
 simp only [List.getElem?_cons_zero] at s0
 refine callsIn_of_wp Tryz.func166 rfl trivial ?_ rfl
 simp only [Tryz.ntmps166, List.size_toArray, List.length_cons, List.length_nil, Nat.reduceAdd, Nat.reduceSub, Array.replicate_succ, Array.replicate_zero, List.push_toArray, List.append_toArray, List.nil_append, List.cons_append]
 have HC := Lib.hid hc
 have HR := Lib.hid hr
 have N1 := Lib.hid h1
 have HJ := Lib.hid hJ
 have HY := Lib.hid hY
 have HKK := Lib.hid hK
 have KG := Lib.hid kG
 clear kS kG hc hr h1 hJ hY hK
 gi_wp2
 gi_loopw [9] (fun i wr => ∃ k : Nat, k ≤ len ∧ i = .int .i64 k ∧ Hid (J ((ts.take k).filter (knowsT [y0, y1, y2, y3])) wr) ∧ Hid (Below w0.heap.size w0 wr)) (fun i _ => len - (intOf i).toNat)
 case atStart => exact ⟨0, Nat.zero_le _, rfl, h0, hW⟩
 case round =>
  obtain ⟨k, hk, rfl, hj, hbel⟩ := hrel
  by_cases hlt : k < len
  ·have hlt2 : k < ts.length := by rw [N1.out]; exact hlt
   have hm := getD_mem (ts := ts) (i := k) hlt2
   obtain ⟨hq0, hq1, hq2⟩ := HR.out _ hm
   have HKT := Lib.hid (HKK.out _ hm)
   have AT := Lib.hid ((HC.out k hlt).below hbel.out hb)
   have HT := Lib.hid (hq0.below hbel.out)
   have FS := Lib.hid (filt_succ (knowsT [y0, y1, y2, y3]) ts k hlt2)
   have FL := Lib.hid (filt_len (knowsT [y0, y1, y2, y3]) ts k hlt2)
   have FP := Lib.hid (filt_pre (knowsT [y0, y1, y2, y3]) ts (k + 1))
   have g0 := (KG.out.below hbel.out hG).cell 0
   simp only [List.getElem?_cons_zero] at g0
   have hGw : G < wr.heap.size := Nat.lt_of_lt_of_le hG hbel.out.size
   obtain ⟨t, htt⟩ : ∃ t, t = ts.getD k t0 := ⟨_, rfl⟩
   rw [← htt] at AT HT hq1 hq2 FS HKT
   clear hm htt hq0
   obtain ⟨⟨r, nn, dep, actor, kind, dst, bucket, mask, gr, gn, ups⟩, vd, vs⟩ := t
   have hsd := ints_len HT.out.1
   have hsu := ups_len HT.out.2
   simp only at hsd hsu hq1 hq2
   obtain ⟨q, rfl⟩ : ∃ q : Nat, r = (q : Int) := ⟨r.toNat, by omega⟩
   obtain ⟨da, dc, rfl⟩ := hsd
   obtain ⟨ua, uc, rfl⟩ := hsu
   have c0 := AT.out.c0
   have c1 := AT.out.c1
   have c2 := AT.out.c2
   have c3 := AT.out.c3
   have c4 := AT.out.c4
   have c5 := AT.out.c5
   have c6 := AT.out.c6
   have c7 := AT.out.c7
   have c8 := AT.out.c8
   have c9 := AT.out.c9
   have c10 := AT.out.c10
   simp only at c0 c1 c2 c3 c4 c5 c6 c7 c8 c9 c10
   clear AT
   gi_wp2_with fail
   refine ⟨trivial, ?_⟩
   have kq : Blk (wr.alloc (.cells #[.int .i64 (q : Int), .int .i64 nn, .slice da dep.length dc, .int .i64 actor, .int .i64 kind, .int .i64 dst, .int .i64 bucket, .int .i64 mask, .int .i64 gr, .int .i64 gn, .slice ua ups.length uc] 32)) wr.heap.size [.int .i64 (q : Int), .int .i64 nn, .slice da dep.length dc, .int .i64 actor, .int .i64 kind, .int .i64 dst, .int .i64 bucket, .int .i64 mask, .int .i64 gr, .int .i64 gn, .slice ua ups.length uc] := Blk.new wr _ _
   have bq := (Below.refl wr.heap.size wr).alloc (Nat.le_refl _) (.cells #[.int .i64 (q : Int), .int .i64 nn, .slice da dep.length dc, .int .i64 actor, .int .i64 kind, .int .i64 dst, .int .i64 bucket, .int .i64 mask, .int .i64 gr, .int .i64 gn, .slice ua ups.length uc] 32)
   obtain ⟨Q, hQ⟩ : ∃ Q, Q = wr.heap.size := ⟨_, rfl⟩
   generalize wr.alloc (.cells #[.int .i64 (q : Int), .int .i64 nn, .slice da dep.length dc, .int .i64 actor, .int .i64 kind, .int .i64 dst, .int .i64 bucket, .int .i64 mask, .int .i64 gr, .int .i64 gn, .slice ua ups.length uc] 32) = wb at kq bq ⊢
   have HT2 := HT.out.below bq
   have hjb := HJ.out _ _ _ hj.out bq
   have hbb := hbel.out.trans (bq.mono hbel.out.size)
   obtain ⟨X, hX⟩ : ∃ X, X = decide (nn ≤ [y0, y1, y2, y3].getD q 0) := ⟨_, rfl⟩
   have FX : Hid ((ts.take (k + 1)).filter (knowsT [y0, y1, y2, y3]) = (ts.take k).filter (knowsT [y0, y1, y2, y3]) ++ (if X = true then [(⟨⟨(q : Int), nn, dep, actor, kind, dst, bucket, mask, gr, gn, ups⟩, .slice da dep.length dc, .slice ua ups.length uc⟩ : ActT)] else [])) := by
    rw [hX]; exact FS.out
   have RC : CallsIn Fence.wide (n - 1) Tryz.prog 155 #[.agg #[.int .i64 pl, .int .i64 y0, .int .i64 y1, .int .i64 y2, .int .i64 y3], .agg #[.int .i64 (q : Int), .int .i64 nn, .slice da dep.length dc, .int .i64 actor, .int .i64 kind, .int .i64 dst, .int .i64 bucket, .int .i64 mask, .int .i64 gr, .int .i64 gn, .slice ua ups.length uc]] wb fun e w' => e = .returned (.bool X) ∧ Below wb.heap.size wb w' := by
    rw [hX]; exact callsIn_wide.2 (reaches_any pl y0 y1 y2 y3 _ (⟨⟨(q : Int), nn, dep, actor, kind, dst, bucket, mask, gr, gn, ups⟩, .slice da dep.length dc, .slice ua ups.length uc⟩ : ActT) q wb HT2 rfl (by omega) rfl)
   refine RC.mono ?_
   clear RC hX FS
   rintro e w2 ⟨rfl, b2⟩
   have kq2 := kq.below b2 kq.lt
   have hj2 := Lib.hid (HJ.out _ _ _ hjb b2)
   have hb2 := Lib.hid (hbb.trans (b2.mono hbb.size))
   clear hjb hbb HT2 bq kq b2
   have e0 := kq2.cell 0
   have e1 := kq2.cell 1
   have e2 := kq2.cell 2
   have e3 := kq2.cell 3
   have e4 := kq2.cell 4
   have e5 := kq2.cell 5
   have e6 := kq2.cell 6
   have e7 := kq2.cell 7
   have e8 := kq2.cell 8
   have e9 := kq2.cell 9
   have e10 := kq2.cell 10
   simp only [List.getElem?_cons_zero, List.getElem?_cons_succ] at e0 e1 e2 e3 e4 e5 e6 e7 e8 e9 e10
   clear kq2 c0 c1 c2 c3 c4 c5 c6 c7 c8 c9 c10 g0
   cases X
   ·gi_wp2
    refine ⟨fun f hf => (nomatch hf), ?_⟩
    gi_wp2
    go_roundw
    case rel =>
     refine ⟨k + 1, by omega, by first | rfl | simp, ?_, hb2⟩
     have := FX.out
     simp only [Bool.false_eq_true, if_false, List.append_nil] at this
     exact Lib.hid (by rw [this]; exact hj2.out)
    case measure => simp [intOf]; omega
   ·have hy2 := HY.out _ (⟨⟨(q : Int), nn, dep, actor, kind, dst, bucket, mask, gr, gn, ups⟩, .slice da dep.length dc, .slice ua ups.length uc⟩ : ActT) w2 HKT.out hj2.out FL.out
    simp only [ActT.val] at hy2
    obtain ⟨fn, tmps, assign, body, hy, hR⟩ := hy2
    gi_wp2
    refine hR.mono ?_
    clear e0 e1 e2 e3 e4 e5 e6 e7 e8 e9 e10
    rintro e W3 (⟨rfl, hJ3, hk3⟩ | ⟨rfl, hJx3⟩)
    ·gi_wp2
     go_roundw
     case rel =>
      refine ⟨k + 1, by omega, by first | rfl | simp, ?_, Lib.hid (hb2.out.trans hk3)⟩
      have := FX.out
      simp only [if_true] at this
      exact Lib.hid (by rw [this]; exact hJ3)
     case measure => simp [intOf]; omega
    ·gi_wp2
     refine bodyPost_ret (results_none rfl _ _ _) rfl ?_
     refine ⟨⟨_, rfl⟩, .inr ⟨_, ?_, hJx3⟩⟩
     have h8 := FX.out
     simp only [if_true] at h8
     have h9 := FP.out
     rw [h8] at h9
     exact h9
  ·obtain rfl : k = len := by omega
   gi_wp2
   go_end0
   refine ⟨⟨_, rfl⟩, .inl ⟨_, rfl, ?_⟩⟩
   have := hj.out
   rw [← N1.out, List.take_length] at this
   exact this
theorem map_sub {K : ActT → Prop} : ∀ (zs : List ActT), (∀ z ∈ zs, K z) → ∃ ys : List {t : ActT // K t}, ys.map Subtype.val = zs
 | [], _ => ⟨[], rfl⟩
 | z :: zs, h => by
  obtain ⟨ys, hy⟩ := map_sub zs (fun x hx => h x (List.mem_cons_of_mem _ hx))
  exact ⟨⟨z, h z (by simp)⟩ :: ys, by simp [hy]⟩
theorem map_sub_inj {K : ActT → Prop} : ∀ (xs ys : List {t : ActT // K t}), xs.map Subtype.val = ys.map Subtype.val → xs = ys
 | [], [], _ => rfl
 | [], y :: ys, h => by simp at h
 | x :: xs, [], h => by simp at h
 | x :: xs, y :: ys, h => by
  simp only [List.map_cons, List.cons.injEq] at h
  rw [Subtype.ext h.1, map_sub_inj xs ys h.2]
theorem those1_stops (n : Nat) (hn : 1 ≤ n) (Sb G b off cap len : Nat) (mp : Value) (p x0 x1 x2 x3 pl y0 y1 y2 y3 : Int) (ts : List ActT) (K : ActT → Prop) (hK : ∀ t ∈ ts, K t) (w0 : World)
  (h1 : ts.length = len) (hl : len ≤ 9223372036854775807) (hb : b < w0.heap.size) (hS : Sb < w0.heap.size) (hG : G < w0.heap.size)
  (hr : ∀ t ∈ ts, t.Reads w0 ∧ 0 ≤ t.a.r ∧ t.a.r < 4) (hc : ∀ i, i < len → ActAt w0 b (off + i * 11) (ts.getD i t0))
  (kS : Blk w0 Sb [.slice (some ⟨b, off, none⟩) len cap, mp, .int .i64 p, .int .i64 x0, .int .i64 x1, .int .i64 x2, .int .i64 x3])
  (kG : Blk w0 G [.func (.func 155) #[.agg #[.int .i64 pl, .int .i64 y0, .int .i64 y1, .int .i64 y2, .int .i64 y3]] #[]]) :
  SeqStopsK Fence.wide n Tryz.prog 166 #[.pointer (some ⟨Sb, 0, none⟩), .pointer (some ⟨G, 0, none⟩)] (fun t : {t : ActT // K t} => #[t.1.val]) (Below w0.heap.size)
   (fun zs => zs.map Subtype.val = ts.filter (knowsT [y0, y1, y2, y3])) (fun pre => pre.map Subtype.val <+: ts.filter (knowsT [y0, y1, y2, y3])) ts.length w0 := fun l J Jx W hW hA _ hY h0 => by
 refine (those1_in n hn l Sb G b off cap len mp p x0 x1 x2 x3 pl y0 y1 y2 y3 ts K (fun zs A => ∃ ys : List {t : ActT // K t}, ys.map Subtype.val = zs ∧ J ys A) (fun zs A => ∃ ys : List {t : ActT // K t}, ys.map Subtype.val = zs ∧ Jx ys A) w0 W hK
  (fun pre A B hj hab => ?_) (fun pre x V hx hj hlt => ?_) h1 hl hb hS hG hW hr hc kS kG ⟨[], rfl, h0⟩).mono ?_
 ·obtain ⟨ys, hy, hj⟩ := hj
  exact ⟨ys, hy, hA ys A B none hj ⟨hab.os, hab.tape, hab.output, hab.size, fun k hk _ => hab.block k hk⟩ (fun _ h => nomatch h)⟩
 ·obtain ⟨ys, hy, hj⟩ := hj
  have hlen : ys.length < ts.length := by rw [← hy] at hlt; simpa using hlt
  refine YieldAt.mono (hY ys ⟨x, hx⟩ V hj hlen) ?_
  rintro e V' (⟨rfl, hj', hk⟩ | ⟨rfl, hj'⟩)
  ·exact .inl ⟨rfl, ⟨_, by simp [hy], hj'⟩, hk⟩
  ·exact .inr ⟨rfl, ⟨_, by simp [hy], hj'⟩⟩
 ·rintro e V ⟨hv, h⟩
  refine ⟨hv, ?_⟩
  rcases h with ⟨zs, rfl, ys, hy, hj⟩ | ⟨pre, hp, ys, hy, hj⟩
  ·exact .inl ⟨ys, hy, hj⟩
  ·exact .inr ⟨ys, by rw [← hy] at hp; exact hp, hj⟩
end Go.Proofs.YtghgiefciijoeaaGreatDoor
namespace Go.Proofs.YtghgiefciijoeaaGreatDoor
open Go.RowKit Go.Shelf
set_option linter.unusedVariables false
def markOf (D : Nat) : Deferred := { target := .collected D, args := #[] }
structure Shut (Ds : List Nat) (W W' : World) : Prop where
 os : W'.os = W.os
 tape : W'.tape = W.tape
 output : W'.output = W.output
 size : W'.heap.size = W.heap.size
 same : ∀ k, k ∉ Ds → W'.heap[k]? = W.heap[k]?
theorem Shut.below {Ds : List Nat} {W W' : World} {B : Nat} (h : Shut Ds W W') (hB : ∀ D ∈ Ds, B ≤ D) : Below B W W' :=
 ⟨h.os, h.tape, h.output, Nat.le_of_eq h.size.symm, fun k hk => h.same k (fun hm => by have := hB k hm; omega)⟩
theorem Shut.cell {Ds : List Nat} {W W' : World} {a : Addr} {v : Value} (h : Shut Ds W W') (hD : ∀ D ∈ Ds, W.heap[D]? = some (.deferred (some []))) (hc : W.cell? a = some v) : W'.cell? a = some v := by
 obtain ⟨o, ho, hcl⟩ := cells_of_cell hc
 refine (World.cell?_of_block (h.same _ (fun hm => ?_))).trans hc
 have := hD _ hm
 rw [ho] at this
 cases this
 cases hcl
theorem leaves_marks {F : Fence} {n : Nat} {P : Program} {fn : Func} {tmps : Array Value} {R : Ending → World → Prop} : ∀ (Ds : List Nat) (W : World), Ds.Nodup → (∀ D ∈ Ds, W.heap[D]? = some (.deferred (some []))) →
  (∀ W', Shut Ds W W' → ∃ v, (results fn tmps).run P W' = .ok v W' ∧ R (.returned v) W') → LeavesInM F n P fn tmps R (Ds.map markOf) .returning W
 | [], W, _, _, h => h W ⟨rfl, rfl, rfl, rfl, fun _ _ => rfl⟩
 | D :: Ds, W, hn, hD, h => by
  have hk := hD D (by simp)
  obtain ⟨hnd, hn2⟩ := List.nodup_cons.1 hn
  refine ⟨by simp, .inl ⟨D, _, rfl, run_takeDeferred hk, ?_⟩⟩
  refine leaves_marks Ds _ hn2 (fun E hE => ?_) (fun W' hW' => h W' ?_)
  ·have hne : E ≠ D := fun e => hnd (e ▸ hE)
   exact (World.putObj_heap_other hne).trans (hD E (List.mem_cons_of_mem _ hE))
  ·have hg := grownBy_putObj' W D (.deferred none)
   refine ⟨hW'.os, hW'.tape, hW'.output, by rw [hW'.size]; simp, fun k hk2 => ?_⟩
   simp only [List.mem_cons, not_or] at hk2
   rw [hW'.same k hk2.2]
   exact World.putObj_heap_other hk2.1
structure Marks (B : Nat) (Ds : List Nat) (W : World) : Prop where
 nodup : Ds.Nodup
 beyond : ∀ D ∈ Ds, B ≤ D
 blk : ∀ D ∈ Ds, W.heap[D]? = some (.deferred (some []))
theorem Marks.none (B : Nat) (W : World) : Marks B [] W := ⟨List.nodup_nil, fun _ h => (nomatch h), fun _ h => (nomatch h)⟩
theorem Marks.lt {B : Nat} {Ds : List Nat} {W : World} (h : Marks B Ds W) : ∀ D ∈ Ds, D < W.heap.size := fun D hD => (Array.getElem?_eq_some_iff.1 (h.blk D hD)).1
theorem Marks.below {B : Nat} {Ds : List Nat} {W W' : World} (h : Marks B Ds W) (hb : Below W.heap.size W W') : Marks B Ds W' :=
 ⟨h.nodup, h.beyond, fun D hD => (hb.block D (h.lt D hD)).trans (h.blk D hD)⟩
theorem Marks.push {B : Nat} {Ds : List Nat} {W W' : World} (h : Marks B Ds W) (hb : Below W.heap.size W W') {D : Nat} (hD : W.heap.size ≤ D) (hB : B ≤ D) (hk : W'.heap[D]? = some (.deferred (some []))) : Marks B (D :: Ds) W' :=
 ⟨List.nodup_cons.2 ⟨fun hm => by have := h.lt D hm; omega, h.nodup⟩, fun E hE => (List.mem_cons.1 hE).elim (fun e => e ▸ hB) (h.beyond E), fun E hE => (List.mem_cons.1 hE).elim (fun e => e ▸ hk) ((h.below hb).blk E)⟩
theorem below_keeps {K : Nat} {W W' : World} (h : Below W.heap.size W W') : KeepsFrom K W W' :=
 ⟨h.size, fun k o _ hk _ => (h.block k (Array.getElem?_eq_some_iff.1 hk).1).trans hk⟩
theorem Blk.ownFrom {β : Type} {K B : Nat} {l : List Value} (hB : B < K) : OwnFrom K (fun (_ : β) W => Blk W B l) := fun _ W W' row hs hg hr =>
 hs.same hg.size (hg.block B hs.lt (fun e => by have := (hr _ e.symm).1; omega))
theorem Blk.cellsOwn {β : Type} {K B : Nat} {v : Value} {l : List Value} : OwnFrom K (fun (_ : β) W => Blk W B (v :: l)) := fun _ W W' row hs hg hr =>
 hs.same hg.size (hg.block B hs.lt (fun e => by
  obtain ⟨_, o, ho, hc⟩ := hr _ e.symm
  obtain ⟨o', ho', hc'⟩ := cells_of_cell (hs.cell 0)
  simp only at ho'
  rw [ho] at ho'
  cases ho'
  rw [hc] at hc'
  cases hc'))
theorem Marks.ownFrom {β : Type} {K B : Nat} {Ds : List Nat} (h : ∀ D ∈ Ds, D < K) : OwnFrom K (fun (_ : β) W => Marks B Ds W) := fun _ W W' row hs hg hr =>
 ⟨hs.nodup, hs.beyond, fun D hD => (hg.block D (hs.lt D hD) (fun e => by have := (hr _ e.symm).1; have := h D hD; omega)).trans (hs.blk D hD)⟩
end Go.Proofs.YtghgiefciijoeaaGreatDoor
