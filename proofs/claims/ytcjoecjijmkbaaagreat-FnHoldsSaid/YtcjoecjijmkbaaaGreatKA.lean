/- KA, TA, TE. -/
import Derived.Test.YtcjoecjijmkbaaaGreatHF
import Derived.Test.YtcjoecjijmkbaaaGreatML
import Derived.Test.YtcjoecjijmkbaaaGreatJB
import Derived.Test.YtcjoecjijmkbaaaGreatND
import Derived.Test.YtcjoecjijmkbaaaGreatCI
import Derived.Test.YtcjoecjijmkbaaaGreatMN
import Derived.Test.YtcjoecjijmkbaaaGreatBG
import Derived.Deep.DeepCutAuto

namespace Go.Proofs.YtcjoecjijmkbaaaGreat
open Go.RowKit
set_option linter.unusedVariables false
theorem OwnI.nodup {w : World} {ds : List Nat} {v : Value} {xs : List Int} (h : OwnI w ds v xs) : ds.Nodup := by
 rcases h with ⟨_, rfl, _⟩ | ⟨d, rfl, _⟩ <;> simp
theorem OwnP.nodup {w : World} {ds : List Nat} {v : Value} {us : List UpM} (h : OwnP w ds v us) : ds.Nodup := by
 rcases h with ⟨_, rfl, _⟩ | ⟨d, rfl, _⟩ <;> simp
def OwnAct (w : World) (v : Value) (a : ActM) (bs : List Nat) : Prop := ∃ (t : ActT) (ds us : List Nat), v = t.val ∧ t.a = a ∧ bs = ds ++ us ∧ OwnI w ds t.vd t.a.dep ∧ OwnP w us t.vs t.a.ups
theorem OwnAct.lt {w : World} {v : Value} {a : ActM} {bs : List Nat} (h : OwnAct w v a bs) : ∀ b ∈ bs, b < w.heap.size := by
 obtain ⟨t, ds, us, _, _, rfl, h1, h2⟩ := h
 intro b hb
 rcases List.mem_append.1 hb with hb | hb
 ·exact h1.lt b hb
 ·exact h2.lt b hb
theorem OwnAct.keep {w w' : World} {v : Value} {a : ActM} {bs : List Nat} (h : OwnAct w v a bs) (hk : ∀ b ∈ bs, w'.heap[b]? = w.heap[b]?) : OwnAct w' v a bs := by
 obtain ⟨t, ds, us, h1, h2, rfl, h3, h4⟩ := h
 exact ⟨t, ds, us, h1, h2, rfl, h3.keep fun b hb => hk b (List.mem_append.2 (.inl hb)), h4.keep fun b hb => hk b (List.mem_append.2 (.inr hb))⟩
theorem OwnAct.below {w w' : World} {v : Value} {a : ActM} {bs : List Nat} (h : OwnAct w v a bs) (hb : Below w.heap.size w w') : OwnAct w' v a bs := h.keep fun b hm => hb.block b (h.lt b hm)
theorem OwnAct.other {w w' : World} {v : Value} {a : ActM} {bs cs : List Nat} (h : OwnAct w v a bs) (hg : GrOn cs w w') (hd : ∀ b ∈ bs, b ∉ cs) : OwnAct w' v a bs := h.keep fun b hm => hg.same b (h.lt b hm) (hd b hm)
theorem OwnAct.act {w : World} {v : Value} {a : ActM} {bs : List Nat} (h : OwnAct w v a bs) : ActIs w v a := by
 obtain ⟨t, ds, us, rfl, rfl, _, h1, h2⟩ := h
 exact ⟨t.vd, t.vs, rfl, h1.ints, h2.ups⟩
def RetA (w : World) (a : ActM) (e : Ending) (w' : World) : Prop := ∃ v bs, e = .returned v ∧ OwnAct w' v a bs ∧ (∀ b ∈ bs, w.heap.size ≤ b) ∧ Below w.heap.size w w'
theorem Copied.ret {w w' : World} {a : ActM} {e : Ending} (h : Copied w a e w') : RetA w a e w' := by
 obtain ⟨t, ds, us, h1, h2, h3, h4, h5, h6, h7⟩ := h
 subst h1
 exact ⟨_, ds ++ us, h2, ⟨t, ds, us, rfl, rfl, rfl, h3, h4⟩, h6, h7⟩
theorem Blk.on {w w' : World} {B : Nat} {bs : List Nat} {l : List Value} (h : Blk w B l) (hg : GrOn bs w w') (hn : B ∉ bs) : Blk w' B l :=
 ⟨Nat.lt_of_lt_of_le h.lt hg.size, fun j => (World.cell?_of_block (w := w) (hg.same B h.lt hn)).trans (h.cell j), fun j => (World.frozen?_of_block (w := w) (hg.same B h.lt hn)).trans (h.free j)⟩
def RetE (r n : Int) (w : World) (xs : List Int) (e : Ending) (w' : World) : Prop := ∃ v bs, e = .returned (.agg #[.int .i64 r, .int .i64 n, v]) ∧ OwnI w' bs v xs ∧ (∀ b ∈ bs, w.heap.size ≤ b) ∧ Below w.heap.size w w'
def SeesE (r n : Int) (w : World) (xs : List Int) (e : Ending) (w' : World) : Prop := ∃ v, e = .returned (.agg #[.int .i64 r, .int .i64 n, v]) ∧ Ints w' v xs ∧ Below w.heap.size w w'
theorem RetE.sees {r n : Int} {w w' : World} {xs : List Int} {e : Ending} (h : RetE r n w xs e w') : SeesE r n w xs e w' := by
 obtain ⟨v, bs, rfl, ho, hg, hb⟩ := h
 exact ⟨v, rfl, ho.ints, hb⟩
end Go.Proofs.YtcjoecjijmkbaaaGreat
namespace Go.Proofs.YtcjoecjijmkbaaaGreat
open Go.RowKit
set_option linter.unusedVariables false
theorem act_shape {w : World} {v : Value} {a : ActM} (h : ActIs w v a) : ∃ da dc ua uc, v = .agg #[.int .i64 a.r, .int .i64 a.n, .slice da a.dep.length dc, .int .i64 a.actor, .int .i64 a.kind, .int .i64 a.to, .int .i64 a.bucket, .int .i64 a.mask, .int .i64 a.gr, .int .i64 a.gn, .slice ua a.ups.length uc] := by
 obtain ⟨vd, vs, rfl, hd, hu⟩ := h
 obtain ⟨da, dc, rfl⟩ := ints_len hd
 obtain ⟨ua, uc, rfl⟩ := ups_len hu
 exact ⟨_, _, _, _, rfl⟩
theorem OwnAct.shape {w : World} {v : Value} {a : ActM} {bs : List Nat} (h : OwnAct w v a bs) : ∃ da dc ua uc, v = .agg #[.int .i64 a.r, .int .i64 a.n, .slice da a.dep.length dc, .int .i64 a.actor, .int .i64 a.kind, .int .i64 a.to, .int .i64 a.bucket, .int .i64 a.mask, .int .i64 a.gr, .int .i64 a.gn, .slice ua a.ups.length uc] := act_shape h.act
end Go.Proofs.YtcjoecjijmkbaaaGreat
namespace Go.Proofs.YtcjoecjijmkbaaaGreat
open Go.RowKit
set_option linter.unusedVariables false
theorem OwnI.setCell {w : World} {ds : List Nat} {v : Value} {xs : List Int} (h : OwnI w ds v xs) {R : Nat} (hn : ∀ b ∈ ds, R < b) (o : Nat) (u : Value) : OwnI (w.setCell ⟨R, o, none⟩ u) ds v xs :=
 h.keep fun b hm => (grown_set (w := w) R o u).block b (h.lt b hm) (fun e => by cases e; exact Nat.lt_irrefl _ (hn _ hm))
set_option maxHeartbeats 1600000 in
theorem specEyeNow2 (v : Value) (l : List ActM) (n : Int) (w : World) (h : Acts w v l) (hn : I64 n) :
  Calls Tryz.prog 53 #[v, .int .i64 n] w (RetE (-1) 0 w (clockOfM l n)) := by
 have CS := Lib.hid (fun W (hW : Below w.heap.size w W) => (specClockOf_any v l n W (h.below hW) hn).mono (R' := RetI W (clockOfM l n)) fun e w' h => MadeI.ret h)
 clear h
 have b0 := (Below.refl w.heap.size w).alloc (Nat.le_refl _) (.cells #[.int .i64 0, .int .i64 0, .slice none 0 0] 26)
 have kR := Blk.new w #[.int .i64 0, .int .i64 0, .slice none 0 0] 26
 obtain ⟨RB, hRB⟩ : ∃ R, R = w.heap.size := ⟨_, rfl⟩
 generalize clockOfM l n = M at *
 go_enter Tryz.func53, Tryz.ntmps53
 go_upto_region 1 with (fail)
 rw [← hRB] at kR ⊢
 generalize w.alloc (.cells #[.int .i64 0, .int .i64 0, .slice none 0 0] 26) = W0 at kR b0 ⊢
 have HRB := Lib.hid hRB
 clear hRB
 go_wp2_with fail
 refine (CS.out _ b0).mono ?_
 rintro e w1 ⟨u, bs, rfl, o1, g1, b1⟩
 obtain ⟨ua, uc, rfl⟩ := ints_len o1.ints
 obtain ⟨K, hK⟩ : ∃ K, K = M.length := ⟨_, rfl⟩
 rw [← hK] at o1 ⊢
 have O1 := Lib.hid o1
 have G1 := Lib.hid (show ∀ b ∈ bs, RB < b from fun b hb => Nat.lt_of_lt_of_le kR.lt (g1 b hb))
 have B1 := Lib.hid (b0.trans (b1.mono b0.size))
 have kR1 := kR.below b1 kR.lt
 have r0 := kR1.cell 0
 have r1 := kR1.cell 1
 have r2 := kR1.cell 2
 have f0 := kR1.free
 simp only [List.getElem?_cons_zero, List.getElem?_cons_succ] at r0 r1 r2
 clear o1 g1 b1 b0 kR kR1 hK
 go_wp2
 refine bodyPost_ret (v := .agg #[.int .i64 (-1), .int .i64 0, .slice ua K uc]) (by simp [results, Tryz.results53, go_sem, r0, r1, r2]) rfl ⟨_, bs, rfl, ?_, fun b hb => by have := G1.out b hb; have := HRB.out; omega, ?_⟩
 ·exact ((O1.out.setCell G1.out 0 _).setCell G1.out 1 _).setCell G1.out 2 _
 ·exact ((B1.out.setCell (by simp; have := HRB.out; omega) _).setCell (by simp; have := HRB.out; omega) _).setCell (by simp; have := HRB.out; omega) _
set_option maxHeartbeats 1600000 in
theorem implEyeNow2 (v : Value) (l : List ActM) (n : Int) (w : World) (h : Acts w v l) (hn : I64 n) :
  Calls Tryz.prog 22 #[v, .int .i64 n] w (RetE (-1) 0 w (clockOfM l n)) := by
 have CS := Lib.hid (fun W (hW : Below w.heap.size w W) => (implClockOf_any v l n W (h.below hW) hn).mono (R' := RetI W (clockOfM l n)) fun e w' h => MadeI.ret h)
 clear h
 have b0 := (Below.refl w.heap.size w).alloc (Nat.le_refl _) (.cells #[.int .i64 0, .int .i64 0, .slice none 0 0] 26)
 have kR := Blk.new w #[.int .i64 0, .int .i64 0, .slice none 0 0] 26
 obtain ⟨RB, hRB⟩ : ∃ R, R = w.heap.size := ⟨_, rfl⟩
 generalize clockOfM l n = M at *
 go_enter Tryz.func22, Tryz.ntmps22
 go_upto_region 1 with (fail)
 rw [← hRB] at kR ⊢
 generalize w.alloc (.cells #[.int .i64 0, .int .i64 0, .slice none 0 0] 26) = W0 at kR b0 ⊢
 have HRB := Lib.hid hRB
 clear hRB
 go_wp2_with fail
 refine (CS.out _ b0).mono ?_
 rintro e w1 ⟨u, bs, rfl, o1, g1, b1⟩
 obtain ⟨ua, uc, rfl⟩ := ints_len o1.ints
 obtain ⟨K, hK⟩ : ∃ K, K = M.length := ⟨_, rfl⟩
 rw [← hK] at o1 ⊢
 have O1 := Lib.hid o1
 have G1 := Lib.hid (show ∀ b ∈ bs, RB < b from fun b hb => Nat.lt_of_lt_of_le kR.lt (g1 b hb))
 have B1 := Lib.hid (b0.trans (b1.mono b0.size))
 have kR1 := kR.below b1 kR.lt
 have r0 := kR1.cell 0
 have r1 := kR1.cell 1
 have r2 := kR1.cell 2
 have f0 := kR1.free
 simp only [List.getElem?_cons_zero, List.getElem?_cons_succ] at r0 r1 r2
 clear o1 g1 b1 b0 kR kR1 hK
 go_wp2
 refine bodyPost_ret (v := .agg #[.int .i64 (-1), .int .i64 0, .slice ua K uc]) (by simp [results, Tryz.results22, go_sem, r0, r1, r2]) rfl ⟨_, bs, rfl, ?_, fun b hb => by have := G1.out b hb; have := HRB.out; omega, ?_⟩
 ·exact ((O1.out.setCell G1.out 0 _).setCell G1.out 1 _).setCell G1.out 2 _
 ·exact ((B1.out.setCell (by simp; have := HRB.out; omega) _).setCell (by simp; have := HRB.out; omega) _).setCell (by simp; have := HRB.out; omega) _
end Go.Proofs.YtcjoecjijmkbaaaGreat
