/- KA, TA, TE. -/
import Derived.Test.YtghgiefciijoeaaGreatDoorHF
import Derived.Test.YtghgiefciijoeaaGreatDoorHC
import Derived.Test.YtghgiefciijoeaaGreatDoorJB
import Derived.Test.YtghgiefciijoeaaGreatDoorND
import Derived.Test.YtghgiefciijoeaaGreatDoorNE
import Derived.Test.YtghgiefciijoeaaGreatDoorCI
import Derived.Test.YtghgiefciijoeaaGreatDoorMN
import Derived.Test.YtghgiefciijoeaaGreatDoorBG
import Derived.Deep.DeepCutAuto

namespace Go.Proofs.YtghgiefciijoeaaGreatDoor
open Go.RowKit
set_option linter.unusedVariables false
theorem own_apart {w : World} {ds us : List Nat} {v u : Value} {xs : List Int} {ups : List UpM} (h : OwnI w ds v xs) (k : OwnP w us u ups) : ∀ b ∈ ds, b ∉ us := by
 rcases h with ⟨_, rfl, _⟩ | ⟨d, rfl, hp, h⟩
 ·intro b hb; cases hb
 ·rcases k with ⟨_, rfl, _⟩ | ⟨d', rfl, hp', k⟩
  ·intro b _ hb; cases hb
  ·intro b hb hc
   rw [List.mem_singleton] at hb hc
   exact type_ne (own_type h hp) (ownU_type k hp') (by decide) (hb.symm.trans hc)
theorem OwnI.nodup {w : World} {ds : List Nat} {v : Value} {xs : List Int} (h : OwnI w ds v xs) : ds.Nodup := by
 rcases h with ⟨_, rfl, _⟩ | ⟨d, rfl, _⟩ <;> simp
theorem OwnP.nodup {w : World} {ds : List Nat} {v : Value} {us : List UpM} (h : OwnP w ds v us) : ds.Nodup := by
 rcases h with ⟨_, rfl, _⟩ | ⟨d, rfl, _⟩ <;> simp
theorem own_nodup {w : World} {ds us : List Nat} {v u : Value} {xs : List Int} {ups : List UpM} (h : OwnI w ds v xs) (k : OwnP w us u ups) : (ds ++ us).Nodup := by
 rw [List.nodup_append]
 exact ⟨h.nodup, k.nodup, fun a ha b hb e => own_apart h k a ha (e ▸ hb)⟩
def OwnAct (w : World) (v : Value) (a : ActM) (bs : List Nat) : Prop := ∃ (t : ActT) (ds us : List Nat), v = t.val ∧ t.a = a ∧ bs = ds ++ us ∧ OwnI w ds t.vd t.a.dep ∧ OwnP w us t.vs t.a.ups
theorem OwnAct.lt {w : World} {v : Value} {a : ActM} {bs : List Nat} (h : OwnAct w v a bs) : ∀ b ∈ bs, b < w.heap.size := by
 obtain ⟨t, ds, us, _, _, rfl, h1, h2⟩ := h
 intro b hb
 rcases List.mem_append.1 hb with hb | hb
 ·exact h1.lt b hb
 ·exact h2.lt b hb
theorem OwnAct.keep {w w' : World} {v : Value} {a : ActM} {bs : List Nat} (h : OwnAct w v a bs) (hk : ∀ b ∈ bs, w'.heap[b]? = w.heap[b]?) : OwnAct w' v a bs := by
 obtain ⟨t, ds, us, h1, h2, rfl, h3, h4⟩ := h
 exact ⟨t, ds, us, h1, h2, rfl, h3.keep fun b hb => hk b (List.mem_append.2 (.inl hb)), h4.keep fun b hb => hk b (List.mem_append.2 (.inr hb))⟩
theorem OwnAct.below {w w' : World} {v : Value} {a : ActM} {bs : List Nat} (h : OwnAct w v a bs) (hb : Below w.heap.size w w') : OwnAct w' v a bs := h.keep fun b hm => hb.block b (h.lt b hm)
theorem OwnAct.other {w w' : World} {v : Value} {a : ActM} {bs cs : List Nat} (h : OwnAct w v a bs) (hg : GrOn cs w w') (hd : ∀ b ∈ bs, b ∉ cs) : OwnAct w' v a bs := h.keep fun b hm => hg.same b (h.lt b hm) (hd b hm)
theorem OwnAct.act {w : World} {v : Value} {a : ActM} {bs : List Nat} (h : OwnAct w v a bs) : ActIs w v a := by
 obtain ⟨t, ds, us, rfl, rfl, _, h1, h2⟩ := h
 exact ⟨t.vd, t.vs, rfl, h1.ints, h2.ups⟩
def RetA (w : World) (a : ActM) (e : Ending) (w' : World) : Prop := ∃ v bs, e = .returned v ∧ OwnAct w' v a bs ∧ (∀ b ∈ bs, w.heap.size ≤ b) ∧ Below w.heap.size w w'
theorem Copied.ret {w w' : World} {a : ActM} {e : Ending} (h : Copied w a e w') : RetA w a e w' := by
 obtain ⟨t, ds, us, h1, h2, h3, h4, h5, h6, h7⟩ := h
 subst h1
 exact ⟨_, ds ++ us, h2, ⟨t, ds, us, rfl, rfl, rfl, h3, h4⟩, h6, h7⟩
theorem toA_any (v : Value) (a : ActM) (w : World) (h : ActIs w v a) (hl : a.dep.length ≤ 1048576) (hu : a.ups.length ≤ 1048576) : Calls Tryz.prog 34 #[v] w (RetA w a) :=
 (toAct_any v a w h hl hu).mono fun e w' h => by
  obtain ⟨v, g, k, rfl, ⟨vd, vs, rfl, o1, o2⟩, h1, h2, h3, hb⟩ := h
  obtain ⟨ds, p1, _, p2⟩ := own_I o1 w.heap.size h1
  obtain ⟨us, q1, _, q2⟩ := own_P o2 w.heap.size (by omega)
  refine ⟨_, ds ++ us, rfl, ⟨⟨a, vd, vs⟩, ds, us, rfl, rfl, rfl, p1, q1⟩, fun b hb => ?_, hb⟩
  rcases List.mem_append.1 hb with hb | hb
  ·exact p2 b hb
  ·exact q2 b hb
theorem eqA_any (v v' : Value) (a : ActM) (w : World) (h : ActIs w v a) (h' : ActIs w v' a) : Calls Tryz.prog 35 #[v, v'] w fun e w' => e = .returned (.bool true) ∧ Below w.heap.size w w' := eqAct_same v v' a w h h'
theorem Blk.on {w w' : World} {B : Nat} {bs : List Nat} {l : List Value} (h : Blk w B l) (hg : GrOn bs w w') (hn : B ∉ bs) : Blk w' B l :=
 ⟨Nat.lt_of_lt_of_le h.lt hg.size, fun j => (World.cell?_of_block (w := w) (hg.same B h.lt hn)).trans (h.cell j), fun j => (World.frozen?_of_block (w := w) (hg.same B h.lt hn)).trans (h.free j)⟩
def szD (a : ActM) : Nat := a.dep.length + 4 * a.ups.length
set_option maxRecDepth 100000 in
set_option maxHeartbeats 800000 in
theorem markAZ {w : World} {v : Value} {a : ActM} {bs : List Nat} {Z : Nat} (h : OwnAct w v a bs) (hz : szD a = Z) (k : Int) (hk : 0 ≤ k) (hs : k + Z ≤ 4000000000) :
  Calls Tryz.prog 36 #[v, .int .i64 k] w fun e w' => e = .returned (.int .i64 (k + Z)) ∧ GrOn bs w w' := by
 obtain ⟨⟨⟨r, n, dep, actor, kind, dst, bucket, mask, gr, gn, ups⟩, vd, vs⟩, ds, us, rfl, rfl, rfl, hd, hu⟩ := h
 simp only [szD] at hz hd hu
 simp only [ActT.val]
 have hap := own_apart hd hu
 have HAP := Lib.hid hap
 have B0 := Lib.hid ((Below.refl w.heap.size w).alloc (Nat.le_refl _) (.cells #[.int .i64 r, .int .i64 n, vd, .int .i64 actor, .int .i64 kind, .int .i64 dst, .int .i64 bucket, .int .i64 mask, .int .i64 gr, .int .i64 gn, vs] 32))
 have K0 := Lib.hid (Blk.new w #[.int .i64 r, .int .i64 n, vd, .int .i64 actor, .int .i64 kind, .int .i64 dst, .int .i64 bucket, .int .i64 mask, .int .i64 gr, .int .i64 gn, vs] 32)
 have HD := Lib.hid hd
 have HU := Lib.hid hu
 obtain ⟨D, hD⟩ : ∃ D, D = dep.length := ⟨_, rfl⟩
 obtain ⟨U, hU⟩ : ∃ U, U = ups.length := ⟨_, rfl⟩
 have MD := Lib.hid (fun W (h : OwnI W ds vd dep) => markI h k hk (by rw [← hD]; omega))
 have MU := Lib.hid (fun W (h : OwnP W us vs ups) => markP h (k + D) (by omega) (by rw [← hU]; omega))
 rw [← hD] at MD hz
 rw [← hU] at MU hz
 clear hD hU hd hu hap
 go_enter Tryz.func36, Tryz.ntmps36
 go_wp2_with fail
 refine (MD.out _ (HD.out.below B0.out)).mono ?_
 rintro e w1 ⟨rfl, o1, g1⟩
 have G1 := Lib.hid ((GrOn.of_below B0.out (ds ++ us)).trans (g1.sub fun x hx => List.mem_append.2 (.inl hx)))
 have U1 := Lib.hid (((HU.out.keep (w' := w.alloc (.cells #[.int .i64 r, .int .i64 n, vd, .int .i64 actor, .int .i64 kind, .int .i64 dst, .int .i64 bucket, .int .i64 mask, .int .i64 gr, .int .i64 gn, vs] 32)) fun b hb => B0.out.block b (HU.out.lt b hb)).keep (w' := w1) fun b hb => g1.same b (by have := HU.out.lt b hb; simp; omega) (fun hc => HAP.out b hc hb)))
 have c10 := (K0.out.on g1 (fun h => Nat.lt_irrefl _ (HD.out.lt _ h))).cell 10
 simp only [List.getElem?_cons_zero, List.getElem?_cons_succ] at c10
 clear o1 g1
 go_wp2_with fail
 refine (MU.out _ U1.out).mono ?_
 rintro e w2 ⟨rfl, o2, g2⟩
 have G2 := Lib.hid (G1.out.trans (g2.sub fun x hx => List.mem_append.2 (.inr hx)))
 clear o2 g2 c10
 go_wp2
 go_ret
 exact ⟨ret_int (show k + (D : Int) + 4 * (U : Int) = k + (Z : Int) by omega), G2.out⟩
def RetE (r n : Int) (w : World) (xs : List Int) (e : Ending) (w' : World) : Prop := ∃ v bs, e = .returned (.agg #[.int .i64 r, .int .i64 n, v]) ∧ OwnI w' bs v xs ∧ (∀ b ∈ bs, w.heap.size ≤ b) ∧ Below w.heap.size w w'
def SeesE (r n : Int) (w : World) (xs : List Int) (e : Ending) (w' : World) : Prop := ∃ v, e = .returned (.agg #[.int .i64 r, .int .i64 n, v]) ∧ Ints w' v xs ∧ Below w.heap.size w w'
theorem RetE.sees {r n : Int} {w w' : World} {xs : List Int} {e : Ending} (h : RetE r n w xs e w') : SeesE r n w xs e w' := by
 obtain ⟨v, bs, rfl, ho, hg, hb⟩ := h
 exact ⟨v, rfl, ho.ints, hb⟩
end Go.Proofs.YtghgiefciijoeaaGreatDoor
namespace Go.Proofs.YtghgiefciijoeaaGreatDoor
open Go.RowKit
set_option linter.unusedVariables false
def touchM (a : ActM) : List ActM → Nat → List Int
 | [], _ => []
 | b :: l, i => (if (!knowsM a b && !knowsM b a) = true then [(i : Int)] else []) ++ touchM a l (i + 1)
theorem touchM_snoc (a b : ActM) : ∀ (l : List ActM) (i : Nat), touchM a (l ++ [b]) i = touchM a l i ++ (if (!knowsM a b && !knowsM b a) = true then [((i + l.length : Nat) : Int)] else [])
 | [], i => by simp [touchM]
 | c :: l, i => by
  rw [List.cons_append, touchM, touchM_snoc a b l (i + 1), touchM, List.append_assoc, List.length_cons]
  congr 3
  rw [show i + 1 + l.length = i + (l.length + 1) by omega]
theorem touchM_len (a : ActM) : ∀ (l : List ActM) (i : Nat), (touchM a l i).length ≤ l.length
 | [], _ => Nat.le_refl _
 | b :: l, i => by
  have := touchM_len a l (i + 1)
  rw [touchM, List.length_append, List.length_cons]
  split
  ·simp; omega
  ·simp; omega
def touchedM (l : List ActM) (n : Int) (a : ActM) : List Int := if setOkM l n = true then touchM a l 0 else []
theorem touchedM_len (l : List ActM) (n : Int) (a : ActM) : (touchedM l n a).length ≤ 60 := by
 unfold touchedM
 split
 ·rename_i h
  have := (setOk_all h).2.2.1
  have := touchM_len a l 0
  omega
 ·simp
theorem src_int {w : World} (k : Int) (e : TypeId) : Src (w.alloc (.cells #[.int .i64 k] e)) 1 (.slice (some ⟨w.heap.size, 0, none⟩) 1 1) 1 [.int .i64 k] :=
 .inr ⟨_, _, rfl, rfl, fun j u hu => by
  rw [add_flat, Nat.zero_add, (Blk.new w _ e).cell j]
  exact hu⟩
theorem act_shape {w : World} {v : Value} {a : ActM} (h : ActIs w v a) : ∃ da dc ua uc, v = .agg #[.int .i64 a.r, .int .i64 a.n, .slice da a.dep.length dc, .int .i64 a.actor, .int .i64 a.kind, .int .i64 a.to, .int .i64 a.bucket, .int .i64 a.mask, .int .i64 a.gr, .int .i64 a.gn, .slice ua a.ups.length uc] := by
 obtain ⟨vd, vs, rfl, hd, hu⟩ := h
 obtain ⟨da, dc, rfl⟩ := ints_len hd
 obtain ⟨ua, uc, rfl⟩ := ups_len hu
 exact ⟨_, _, _, _, rfl⟩
theorem OwnAct.shape {w : World} {v : Value} {a : ActM} {bs : List Nat} (h : OwnAct w v a bs) : ∃ da dc ua uc, v = .agg #[.int .i64 a.r, .int .i64 a.n, .slice da a.dep.length dc, .int .i64 a.actor, .int .i64 a.kind, .int .i64 a.to, .int .i64 a.bucket, .int .i64 a.mask, .int .i64 a.gr, .int .i64 a.gn, .slice ua a.ups.length uc] := act_shape h.act
set_option maxRecDepth 100000 in
set_option maxHeartbeats 6400000 in
theorem touched_some (b off cap len : Nat) (mp : Value) (q x0 x1 x2 x3 : Int) (ts : List ActT) (pv : Value) (p : ActM) (w : World) (h1 : ts.length = len) (hl : len ≤ 60) (hb : b < w.heap.size) (hr : ∀ t ∈ ts, t.Reads w)
  (hc : ∀ i, i < len → ActAt w b (off + i * 11) (ts.getD i t0)) (hp : ActIs w pv p) :
  Calls Tryz.prog 56 #[.agg #[.slice (some ⟨b, off, none⟩) len cap, mp, .int .i64 q, .int .i64 x0, .int .i64 x1, .int .i64 x2, .int .i64 x3], pv] w (RetI w (touchM p (ts.map ActT.a) 0)) := by
 obtain ⟨i2, hi, hz0, hz1, hz2⟩ := info_parts Tryz.info3
 have HP := Lib.hid hp
 obtain ⟨pa, pc, qa, qc, hpv⟩ := act_shape hp
 have N1 := Lib.hid h1
 have HC := Lib.hid hc
 have HRd := Lib.hid hr
 obtain ⟨⟨pr, pn, pdep, pactor, pkind, pdst, pbucket, pmask, pgr, pgn, pups⟩, hpp⟩ : ∃ x, p = x := ⟨_, rfl⟩
 simp only [hpp] at hpv
 obtain ⟨pl, hpl⟩ : ∃ x, x = pdep.length := ⟨_, rfl⟩
 obtain ⟨ql, hql⟩ : ∃ x, x = pups.length := ⟨_, rfl⟩
 rw [← hpl, ← hql] at hpv
 have HPV := Lib.hid hpv
 clear hp hc hr h1 hpp hpl hql
 rw [hpv]
 have kS : Blk ((w.alloc (.cells #[.slice (some ⟨b, off, none⟩) len cap, mp, .int .i64 q, .int .i64 x0, .int .i64 x1, .int .i64 x2, .int .i64 x3] 73)).alloc (.cells #[.int .i64 pr, .int .i64 pn, .slice pa pl pc, .int .i64 pactor, .int .i64 pkind, .int .i64 pdst, .int .i64 pbucket, .int .i64 pmask, .int .i64 pgr, .int .i64 pgn, .slice qa ql qc] 32)) w.heap.size [.slice (some ⟨b, off, none⟩) len cap, mp, .int .i64 q, .int .i64 x0, .int .i64 x1, .int .i64 x2, .int .i64 x3] := (Blk.new w _ _).alloc _
 have kP : Blk ((w.alloc (.cells #[.slice (some ⟨b, off, none⟩) len cap, mp, .int .i64 q, .int .i64 x0, .int .i64 x1, .int .i64 x2, .int .i64 x3] 73)).alloc (.cells #[.int .i64 pr, .int .i64 pn, .slice pa pl pc, .int .i64 pactor, .int .i64 pkind, .int .i64 pdst, .int .i64 pbucket, .int .i64 pmask, .int .i64 pgr, .int .i64 pgn, .slice qa ql qc] 32)) (w.heap.size + 1) [.int .i64 pr, .int .i64 pn, .slice pa pl pc, .int .i64 pactor, .int .i64 pkind, .int .i64 pdst, .int .i64 pbucket, .int .i64 pmask, .int .i64 pgr, .int .i64 pgn, .slice qa ql qc] := by
  have := Blk.new (w.alloc (.cells #[.slice (some ⟨b, off, none⟩) len cap, mp, .int .i64 q, .int .i64 x0, .int .i64 x1, .int .i64 x2, .int .i64 x3] 73)) #[.int .i64 pr, .int .i64 pn, .slice pa pl pc, .int .i64 pactor, .int .i64 pkind, .int .i64 pdst, .int .i64 pbucket, .int .i64 pmask, .int .i64 pgr, .int .i64 pgn, .slice qa ql qc] 32
  rw [World.size_alloc] at this
  exact this
 have b0 := ((Below.refl w.heap.size w).alloc (Nat.le_refl _) (.cells #[.slice (some ⟨b, off, none⟩) len cap, mp, .int .i64 q, .int .i64 x0, .int .i64 x1, .int .i64 x2, .int .i64 x3] 73)).alloc (by simp) (.cells #[.int .i64 pr, .int .i64 pn, .slice pa pl pc, .int .i64 pactor, .int .i64 pkind, .int .i64 pdst, .int .i64 pbucket, .int .i64 pmask, .int .i64 pgr, .int .i64 pgn, .slice qa ql qc] 32)
 obtain ⟨PB, hPB⟩ : ∃ PB, PB = w.heap.size + 1 := ⟨_, rfl⟩
 go_enter Tryz.func56, Tryz.ntmps56
 go_upto_region 1 with (fail)
 rw [← hPB] at kP ⊢
 generalize ((w.alloc (.cells #[.slice (some ⟨b, off, none⟩) len cap, mp, .int .i64 q, .int .i64 x0, .int .i64 x1, .int .i64 x2, .int .i64 x3] 73)).alloc (.cells #[.int .i64 pr, .int .i64 pn, .slice pa pl pc, .int .i64 pactor, .int .i64 pkind, .int .i64 pdst, .int .i64 pbucket, .int .i64 pmask, .int .i64 pgr, .int .i64 pgn, .slice qa ql qc] 32)) = W0 at kS kP b0 ⊢
 have KP := Lib.hid kP
 have B0 := Lib.hid b0
 have s0 := kS.cell 0
 simp only [List.getElem?_cons_zero] at s0
 have HPB := Lib.hid hPB
 clear kS kP b0 hPB hpv
 go_wp2_with fail
 clear s0
 go_loopw [5, 11] (fun sv i wr => ∃ (k : Nat) (xs : List Int) (v : Value), v = sv ∧ k ≤ len ∧ i = .int .i64 k ∧ Hid (xs.length ≤ k) ∧ Hid (xs = touchM p ((ts.map ActT.a).take k) 0) ∧ Hid (wr.ownsRow (PB + 1) 3 1 v xs.length (vi xs)) ∧ Hid (Blk wr PB [.int .i64 pr, .int .i64 pn, .slice pa pl pc, .int .i64 pactor, .int .i64 pkind, .int .i64 pdst, .int .i64 pbucket, .int .i64 pmask, .int .i64 pgr, .int .i64 pgn, .slice qa ql qc]) ∧ Hid (Below w.heap.size w wr)) (fun _ i _ => len - (intOf i).toNat)
 case atStart => exact ⟨0, [], _, rfl, Nat.zero_le _, rfl, Nat.le_refl _, rfl, World.ownsRow_nil _ _ _ _, KP.out, B0.out⟩
 case round =>
  obtain ⟨k, xs, v, hv, hk, rfl, hxl, hxs, ho, hkp, hbel⟩ := hrel
  subst hv
  clear KP B0
  have hBw := hbel.out
  have hPW : w.heap.size < PB + 1 := by have := HPB.out; omega
  by_cases hlt : k < len
  ·have hlt2 : k < ts.length := by rw [N1.out]; exact hlt
   have AT := (HC.out k hlt).below hBw hb
   have HT := Lib.hid ((HRd.out _ (getD_mem hlt2)).below hBw)
   have HTK := Lib.hid (take_step ts k hlt2)
   have hst := touchM_snoc p (ts.getD k t0).a ((ts.map ActT.a).take k) 0
   rw [← HTK.out] at hst
   have hkl : ((ts.map ActT.a).take k).length = k := by rw [List.length_take, List.length_map, N1.out]; omega
   rw [hkl, Nat.zero_add] at hst
   obtain ⟨X, hX⟩ : ∃ X, X = knowsM p (ts.getD k t0).a := ⟨_, rfl⟩
   obtain ⟨Y, hY⟩ : ∃ Y, Y = knowsM (ts.getD k t0).a p := ⟨_, rfl⟩
   rw [← hX, ← hY] at hst
   obtain ⟨t, htt⟩ : ∃ t, t = ts.getD k t0 := ⟨_, rfl⟩
   rw [← htt] at AT HT hX hY
   have K1 := Lib.hid (fun W (h : t.Reads W) (h2 : ActIs W pv p) => implKnows_any pv t.val p t.a W h2 h.is)
   have K2 := Lib.hid (fun W (h : t.Reads W) (h2 : ActIs W pv p) => implKnows_any t.val pv t.a p W h.is h2)
   simp only [← hX, ← hY] at K1 K2
   have HST := Lib.hid hst
   clear htt hst hX hY hkl
   obtain ⟨⟨r, nn, dep, actor, kind, dst, bucket, mask, gr, gn, ups⟩, vd, vs⟩ := t
   have hsd := ints_len HT.out.1
   have hsu := ups_len HT.out.2
   simp only at hsd hsu
   obtain ⟨da, dc, rfl⟩ := hsd
   obtain ⟨ua, uc, rfl⟩ := hsu
   simp only [ActT.val] at K1 K2
   have c0 := AT.c0
   have c1 := AT.c1
   have c2 := AT.c2
   have c3 := AT.c3
   have c4 := AT.c4
   have c5 := AT.c5
   have c6 := AT.c6
   have c7 := AT.c7
   have c8 := AT.c8
   have c9 := AT.c9
   have c10 := AT.c10
   simp only at c0 c1 c2 c3 c4 c5 c6 c7 c8 c9 c10
   clear AT
   obtain ⟨dl, hdl⟩ : ∃ dl, dl = dep.length := ⟨_, rfl⟩
   obtain ⟨ul, hul⟩ : ∃ ul, ul = ups.length := ⟨_, rfl⟩
   rw [← hdl] at HT c2 K1 K2
   rw [← hul] at HT c10 K1 K2
   clear hdl hul
   clear hBw
   go_upto_region 5 with (fail)
   have kA := Blk.new wr #[.int .i64 r, .int .i64 nn, .slice da dl dc, .int .i64 actor, .int .i64 kind, .int .i64 dst, .int .i64 bucket, .int .i64 mask, .int .i64 gr, .int .i64 gn, .slice ua ul uc] 32
   have b1 := (Below.refl wr.heap.size wr).alloc (Nat.le_refl _) (.cells #[.int .i64 r, .int .i64 nn, .slice da dl dc, .int .i64 actor, .int .i64 kind, .int .i64 dst, .int .i64 bucket, .int .i64 mask, .int .i64 gr, .int .i64 gn, .slice ua ul uc] 32)
   obtain ⟨Q, hQ⟩ : ∃ Q, Q = wr.heap.size := ⟨_, rfl⟩
   have O1 := Lib.hid (row_grown (r := none) ho.out (grown_alloc wr (.cells #[.int .i64 r, .int .i64 nn, .slice da dl dc, .int .i64 actor, .int .i64 kind, .int .i64 dst, .int .i64 bucket, .int .i64 mask, .int .i64 gr, .int .i64 gn, .slice ua ul uc] 32) none) (by simp))
   have kP1 := Lib.hid (hkp.out.below b1 hkp.out.lt)
   have B1 := Lib.hid (hbel.out.trans (b1.mono hbel.out.size))
   have HT1 := Lib.hid (HT.out.below b1)
   rw [← hQ] at kA ⊢
   generalize wr.alloc (.cells #[.int .i64 r, .int .i64 nn, .slice da dl dc, .int .i64 actor, .int .i64 kind, .int .i64 dst, .int .i64 bucket, .int .i64 mask, .int .i64 gr, .int .i64 gn, .slice ua ul uc] 32) = W1 at kA O1 kP1 B1 HT1 ⊢
   have kA1 := Lib.hid kA
   have HP1 := Lib.hid (HP.out.below B1.out)
   rw [HPV.out] at K1 K2
   clear c0 c1 c2 c3 c4 c5 c6 c7 c8 c9 c10 b1 kA hQ ho hkp hbel HT
   have a0 := kA1.out.cell 0
   have a1 := kA1.out.cell 1
   have a2 := kA1.out.cell 2
   have a3 := kA1.out.cell 3
   have a4 := kA1.out.cell 4
   have a5 := kA1.out.cell 5
   have a6 := kA1.out.cell 6
   have a7 := kA1.out.cell 7
   have a8 := kA1.out.cell 8
   have a9 := kA1.out.cell 9
   have a10 := kA1.out.cell 10
   simp only [List.getElem?_cons_zero, List.getElem?_cons_succ] at a0 a1 a2 a3 a4 a5 a6 a7 a8 a9 a10
   have e0 := kP1.out.cell 0
   have e1 := kP1.out.cell 1
   have e2 := kP1.out.cell 2
   have e3 := kP1.out.cell 3
   have e4 := kP1.out.cell 4
   have e5 := kP1.out.cell 5
   have e6 := kP1.out.cell 6
   have e7 := kP1.out.cell 7
   have e8 := kP1.out.cell 8
   have e9 := kP1.out.cell 9
   have e10 := kP1.out.cell 10
   simp only [List.getElem?_cons_zero, List.getElem?_cons_succ] at e0 e1 e2 e3 e4 e5 e6 e7 e8 e9 e10
   go_wp2_with fail
   refine (K1.out W1 HT1.out (by have := HP1.out; rw [HPV.out] at this; exact this)).mono ?_
   rintro e w3 ⟨rfl, b3⟩
   have kA3 := Lib.hid (kA1.out.below b3 kA1.out.lt)
   have kP3' := Lib.hid (kP1.out.below b3 kP1.out.lt)
   have O13 := Lib.hid (row_grown (r := none) O1.out (below_grown b3 none) (by simp))
   have B13 := Lib.hid (B1.out.trans (b3.mono B1.out.size))
   have HT3 := Lib.hid (HT1.out.below b3)
   have HP3 := Lib.hid (HP1.out.below b3)
   clear b3 a0 a1 a2 a3 a4 a5 a6 a7 a8 a9 a10 e0 e1 e2 e3 e4 e5 e6 e7 e8 e9 e10 kA1 kP1 O1 B1 HT1 HP1
   cases X
   rotate_left
   ·have HSS : Hid (touchM p ((ts.map ActT.a).take (k + 1)) 0 = xs) := by have h := HST.out; simp at h; show _ = _; rw [h, hxs.out]
    go_wp2_with fail
    go_roundw
    case rel => exact ⟨k + 1, xs, v, rfl, by omega, by go_num, Nat.le_succ_of_le hxl.out, HSS.out.symm, O13.out, kP3'.out, B13.out⟩
    case measure => simp [intOf]; omega
   ·have a0 := kA3.out.cell 0
    have a1 := kA3.out.cell 1
    have a2 := kA3.out.cell 2
    have a3 := kA3.out.cell 3
    have a4 := kA3.out.cell 4
    have a5 := kA3.out.cell 5
    have a6 := kA3.out.cell 6
    have a7 := kA3.out.cell 7
    have a8 := kA3.out.cell 8
    have a9 := kA3.out.cell 9
    have a10 := kA3.out.cell 10
    simp only [List.getElem?_cons_zero, List.getElem?_cons_succ] at a0 a1 a2 a3 a4 a5 a6 a7 a8 a9 a10
    have e0 := kP3'.out.cell 0
    have e1 := kP3'.out.cell 1
    have e2 := kP3'.out.cell 2
    have e3 := kP3'.out.cell 3
    have e4 := kP3'.out.cell 4
    have e5 := kP3'.out.cell 5
    have e6 := kP3'.out.cell 6
    have e7 := kP3'.out.cell 7
    have e8 := kP3'.out.cell 8
    have e9 := kP3'.out.cell 9
    have e10 := kP3'.out.cell 10
    simp only [List.getElem?_cons_zero, List.getElem?_cons_succ] at e0 e1 e2 e3 e4 e5 e6 e7 e8 e9 e10
    go_wp2_with fail
    refine (K2.out w3 HT3.out (by have := HP3.out; rw [HPV.out] at this; exact this)).mono ?_
    rintro e w4 ⟨rfl, b4⟩
    have kP2 := Lib.hid (kP3'.out.below b4 kP3'.out.lt)
    have O2 := Lib.hid (row_grown (r := none) O13.out (below_grown b4 none) (by simp))
    have B2 := Lib.hid (B13.out.trans (b4.mono B13.out.size))
    clear b4 a0 a1 a2 a3 a4 a5 a6 a7 a8 a9 a10 e0 e1 e2 e3 e4 e5 e6 e7 e8 e9 e10 kA3 kP3' O13 B13 HT3 HP3
    cases Y
    rotate_left
    ·have HSS : Hid (touchM p ((ts.map ActT.a).take (k + 1)) 0 = xs) := by have h := HST.out; simp at h; show _ = _; rw [h, hxs.out]
     go_wp2_with fail
     go_roundw
     case rel => exact ⟨k + 1, xs, v, rfl, by omega, by go_num, Nat.le_succ_of_le hxl.out, HSS.out.symm, O2.out, kP2.out, B2.out⟩
     case measure => simp [intOf]; omega
    ·have HSS : Hid (touchM p ((ts.map ActT.a).take (k + 1)) 0 = xs ++ [(k : Int)]) := by have h := HST.out; simp at h; show _ = _; rw [h, hxs.out]
     have O3 := Lib.hid (row_grown (r := none) O2.out (grown_alloc w4 (.cells #[.int .i64 (k : Int)] 3) none) (by simp))
     have B3 := Lib.hid (B2.out.alloc B2.out.size (.cells #[.int .i64 (k : Int)] 3))
     have kP3 := Lib.hid (kP2.out.alloc (.cells #[.int .i64 (k : Int)] 3))
     have SR := Lib.hid (src_int (w := w4) (k : Int) 3)
     have HM1 : Hid (xs.length + 1 ≤ maxLen) := by have := hxl.out; show _ ≤ _; unfold maxLen; omega
     have HM2 : Hid ((xs.length + 1) * 8 ≤ 140737488355328) := by have := hxl.out; show _ ≤ _; omega
     have hKB : Hid (PB + 1 ≤ (w4.alloc (.cells #[.int .i64 (k : Int)] 3)).heap.size) := by have := kP3.out.lt; show _ ≤ _; omega
     go_wp2_with (at_builtin; refine wpList_app rfl (.tmp 26) (.tmp 28) 29 rfl (PB + 1) 3 i2 _ 1 8 Tryz.underlying29 hi hz0 hz1 hz2 rfl (by decide) v (.slice (some ⟨w4.heap.size, 0, none⟩) 1 1) xs.length 1 (vi xs) [.int .i64 (k : Int)] rfl rfl O3.out SR.out (by simp [Value.oneCell']) HM1.out HM2.out hKB.out ?_)
     intro v2 w2 hown2 hgrow2 _
     have O4 : Hid (w2.ownsRow (PB + 1) 3 1 v2 (xs ++ [(k : Int)]).length (vi (xs ++ [(k : Int)]))) := by
      show World.ownsRow _ _ _ _ _ _ _
      rw [List.length_append, List.length_singleton, show vi (xs ++ [(k : Int)]) = vi xs ++ [.int .i64 (k : Int)] by simp [vi]]
      exact hown2
     have B4 := Lib.hid (owned_block B3.out O3.out hgrow2 B3.out.size (by omega))
     have kP4 := Lib.hid (kP3.out.same hgrow2.size (hgrow2.block PB kP3.out.lt (fun e => by have := own_block_ge O3.out _ e.symm; omega)))
     clear hown2 hgrow2
     go_wp2
     go_roundw
     case rel => exact ⟨k + 1, xs ++ [(k : Int)], _, rfl, by omega, by go_num, (by have := hxl.out; show _ ≤ _; simp; omega), HSS.out.symm, O4.out, kP4.out, B4.out⟩
     case measure => simp [intOf]; omega
  ·have HL : Hid (xs = touchM p (ts.map ActT.a) 0) := by
    show _ = _
    rw [hxs.out, List.take_of_length_le (by rw [List.length_map, N1.out]; omega)]
   go_wp2
   go_ret
   obtain ⟨g, hg, hown⟩ := own_of_row rfl ho.out
   obtain ⟨bs, hI, _, hbs⟩ := own_I hown (PB + 1) hg
   refine ⟨v, bs, rfl, by rw [← HL.out]; exact hI, fun b hb => by have := hbs b hb; omega, hbel.out⟩
end Go.Proofs.YtghgiefciijoeaaGreatDoor
namespace Go.Proofs.YtghgiefciijoeaaGreatDoor
open Go.RowKit
set_option linter.unusedVariables false
theorem OwnI.setCell {w : World} {ds : List Nat} {v : Value} {xs : List Int} (h : OwnI w ds v xs) {R : Nat} (hn : ∀ b ∈ ds, R < b) (o : Nat) (u : Value) : OwnI (w.setCell ⟨R, o, none⟩ u) ds v xs :=
 h.keep fun b hm => (grown_set (w := w) R o u).block b (h.lt b hm) (fun e => by cases e; exact Nat.lt_irrefl _ (hn _ hm))
end Go.Proofs.YtghgiefciijoeaaGreatDoor
