/- An act of one's own, an eye: what the exact laws do with them. -/
import Derived.Test.YtjjgigoehgabkaaHG
import Derived.Test.YtjjgigoehgabkaaHC
import Derived.Test.YtjjgigoehgabkaaJB
namespace Go.Proofs.Ytjjgigoehgabkaa
open Go.RowKit
set_option linter.unusedVariables false

theorem own_apart {w : World} {ds us : List Nat} {v u : Value} {xs : List Int} {ups : List UpM} (h : OwnI w ds v xs) (k : OwnP w us u ups) : ∀ b ∈ ds, b ∉ us := by
  rcases h with ⟨_, rfl, _⟩ | ⟨d, rfl, hp, h⟩
  · intro b hb; cases hb
  · rcases k with ⟨_, rfl, _⟩ | ⟨d', rfl, hp', k⟩
    · intro b _ hb; cases hb
    · intro b hb hc
      rw [List.mem_singleton] at hb hc
      exact type_ne (own_type h hp) (ownU_type k hp') (by decide) (hb.symm.trans hc)
theorem OwnI.nodup {w : World} {ds : List Nat} {v : Value} {xs : List Int} (h : OwnI w ds v xs) : ds.Nodup := by
  rcases h with ⟨_, rfl, _⟩ | ⟨d, rfl, _⟩ <;> simp
theorem OwnP.nodup {w : World} {ds : List Nat} {v : Value} {us : List UpM} (h : OwnP w ds v us) : ds.Nodup := by
  rcases h with ⟨_, rfl, _⟩ | ⟨d, rfl, _⟩ <;> simp
theorem own_nodup {w : World} {ds us : List Nat} {v u : Value} {xs : List Int} {ups : List UpM} (h : OwnI w ds v xs) (k : OwnP w us u ups) : (ds ++ us).Nodup := by
  rw [List.nodup_append]
  exact ⟨h.nodup, k.nodup, fun a ha b hb e => own_apart h k a ha (e ▸ hb)⟩

/-- v is the act a, its lists in the blocks bs -/
def OwnAct (w : World) (v : Value) (a : ActM) (bs : List Nat) : Prop := ∃ (t : ActT) (ds us : List Nat), v = t.val ∧ t.a = a ∧ bs = ds ++ us ∧ OwnI w ds t.vd t.a.dep ∧ OwnP w us t.vs t.a.ups
theorem OwnAct.lt {w : World} {v : Value} {a : ActM} {bs : List Nat} (h : OwnAct w v a bs) : ∀ b ∈ bs, b < w.heap.size := by
  obtain ⟨t, ds, us, _, _, rfl, h1, h2⟩ := h
  intro b hb
  rcases List.mem_append.1 hb with hb | hb
  · exact h1.lt b hb
  · exact h2.lt b hb
theorem OwnAct.keep {w w' : World} {v : Value} {a : ActM} {bs : List Nat} (h : OwnAct w v a bs) (hk : ∀ b ∈ bs, w'.heap[b]? = w.heap[b]?) : OwnAct w' v a bs := by
  obtain ⟨t, ds, us, h1, h2, rfl, h3, h4⟩ := h
  exact ⟨t, ds, us, h1, h2, rfl, h3.keep fun b hb => hk b (List.mem_append.2 (.inl hb)), h4.keep fun b hb => hk b (List.mem_append.2 (.inr hb))⟩
theorem OwnAct.below {w w' : World} {v : Value} {a : ActM} {bs : List Nat} (h : OwnAct w v a bs) (hb : Below w.heap.size w w') : OwnAct w' v a bs := h.keep fun b hm => hb.block b (h.lt b hm)
theorem OwnAct.other {w w' : World} {v : Value} {a : ActM} {bs cs : List Nat} (h : OwnAct w v a bs) (hg : GrOn cs w w') (hd : ∀ b ∈ bs, b ∉ cs) : OwnAct w' v a bs := h.keep fun b hm => hg.same b (h.lt b hm) (hd b hm)
theorem OwnAct.act {w : World} {v : Value} {a : ActM} {bs : List Nat} (h : OwnAct w v a bs) : ActIs w v a := by
  obtain ⟨t, ds, us, rfl, rfl, _, h1, h2⟩ := h
  exact ⟨t.vd, t.vs, rfl, h1.ints, h2.ups⟩
def RetA (w : World) (a : ActM) (e : Ending) (w' : World) : Prop := ∃ v bs, e = .returned v ∧ OwnAct w' v a bs ∧ (∀ b ∈ bs, w.heap.size ≤ b) ∧ Below w.heap.size w w'
theorem Copied.ret {w w' : World} {a : ActM} {e : Ending} (h : Copied w a e w') : RetA w a e w' := by
  obtain ⟨t, ds, us, h1, h2, h3, h4, h5, h6, h7⟩ := h
  subst h1
  exact ⟨_, ds ++ us, h2, ⟨t, ds, us, rfl, rfl, rfl, h3, h4⟩, h6, h7⟩
theorem toA_any (v : Value) (a : ActM) (w : World) (h : ActIs w v a) (hl : a.dep.length ≤ 1048576) (hu : a.ups.length ≤ 1048576) : Calls Try.prog 33 #[v] w (RetA w a) :=
  (toAct_any v a w h hl hu).mono fun e w' h => by
    obtain ⟨v, g, k, rfl, ⟨vd, vs, rfl, o1, o2⟩, h1, h2, h3, hb⟩ := h
    obtain ⟨ds, p1, _, p2⟩ := own_I o1 w.heap.size h1
    obtain ⟨us, q1, _, q2⟩ := own_P o2 w.heap.size (by omega)
    refine ⟨_, ds ++ us, rfl, ⟨⟨a, vd, vs⟩, ds, us, rfl, rfl, rfl, p1, q1⟩, fun b hb => ?_, hb⟩
    rcases List.mem_append.1 hb with hb | hb
    · exact p2 b hb
    · exact q2 b hb
theorem eqA_any (v v' : Value) (a : ActM) (w : World) (h : ActIs w v a) (h' : ActIs w v' a) : Calls Try.prog 35 #[v, v'] w fun e w' => e = .returned (.bool true) ∧ Below w.heap.size w w' := eqAct_same v v' a w h h'
theorem Blk.on {w w' : World} {B : Nat} {bs : List Nat} {l : List Value} (h : Blk w B l) (hg : GrOn bs w w') (hn : B ∉ bs) : Blk w' B l :=
  ⟨Nat.lt_of_lt_of_le h.lt hg.size, fun j => (World.cell?_of_block (w := w) (hg.same B h.lt hn)).trans (h.cell j), fun j => (World.frozen?_of_block (w := w) (hg.same B h.lt hn)).trans (h.free j)⟩

def szD (a : ActM) : Nat := a.dep.length + 4 * a.ups.length
set_option maxRecDepth 100000 in
set_option maxHeartbeats 800000 in
theorem markAZ {w : World} {v : Value} {a : ActM} {bs : List Nat} {Z : Nat} (h : OwnAct w v a bs) (hz : szD a = Z) (k : Int) (hk : 0 ≤ k) (hs : k + Z ≤ 4000000000) :
    Calls Try.prog 36 #[v, .int .i64 k] w fun e w' => e = .returned (.int .i64 (k + Z)) ∧ GrOn bs w w' := by
  obtain ⟨⟨⟨r, n, dep, actor, kind, dst, bucket, mask, gr, gn, ups⟩, vd, vs⟩, ds, us, rfl, rfl, rfl, hd, hu⟩ := h
  simp only [szD] at hz hd hu
  simp only [ActT.val]
  have hap := own_apart hd hu
  have HAP := Lib.hid hap
  have B0 := Lib.hid ((Below.refl w.heap.size w).alloc (Nat.le_refl _) (.cells #[.int .i64 r, .int .i64 n, vd, .int .i64 actor, .int .i64 kind, .int .i64 dst, .int .i64 bucket, .int .i64 mask, .int .i64 gr, .int .i64 gn, vs] 42))
  have K0 := Lib.hid (Blk.new w #[.int .i64 r, .int .i64 n, vd, .int .i64 actor, .int .i64 kind, .int .i64 dst, .int .i64 bucket, .int .i64 mask, .int .i64 gr, .int .i64 gn, vs] 42)
  have HD := Lib.hid hd
  have HU := Lib.hid hu
  obtain ⟨D, hD⟩ : ∃ D, D = dep.length := ⟨_, rfl⟩
  obtain ⟨U, hU⟩ : ∃ U, U = ups.length := ⟨_, rfl⟩
  have MD := Lib.hid (fun W (h : OwnI W ds vd dep) => markI h k hk (by rw [← hD]; omega))
  have MU := Lib.hid (fun W (h : OwnP W us vs ups) => markP h (k + D) (by omega) (by rw [← hU]; omega))
  rw [← hD] at MD hz
  rw [← hU] at MU hz
  clear hD hU hd hu hap
  go_enter Try.func36, Try.ntmps36
  go_wp2_with fail
  refine (MD.out _ (HD.out.below B0.out)).mono ?_
  rintro e w1 ⟨rfl, o1, g1⟩
  have G1 := Lib.hid ((GrOn.of_below B0.out (ds ++ us)).trans (g1.sub fun x hx => List.mem_append.2 (.inl hx)))
  have U1 := Lib.hid (((HU.out.keep (w' := w.alloc (.cells #[.int .i64 r, .int .i64 n, vd, .int .i64 actor, .int .i64 kind, .int .i64 dst, .int .i64 bucket, .int .i64 mask, .int .i64 gr, .int .i64 gn, vs] 42)) fun b hb => B0.out.block b (HU.out.lt b hb)).keep (w' := w1) fun b hb => g1.same b (by have := HU.out.lt b hb; simp; omega) (fun hc => HAP.out b hc hb)))
  have c10 := (K0.out.on g1 (fun h => Nat.lt_irrefl _ (HD.out.lt _ h))).cell 10
  simp only [List.getElem?_cons_zero, List.getElem?_cons_succ] at c10
  clear o1 g1
  go_wp2_with fail
  refine (MU.out _ U1.out).mono ?_
  rintro e w2 ⟨rfl, o2, g2⟩
  have G2 := Lib.hid (G1.out.trans (g2.sub fun x hx => List.mem_append.2 (.inr hx)))
  clear o2 g2 c10
  go_wp2
  go_ret
  exact ⟨ret_int (show k + (D : Int) + 4 * (U : Int) = k + (Z : Int) by omega), G2.out⟩

/-- eyes -/
def RetE (r n : Int) (w : World) (xs : List Int) (e : Ending) (w' : World) : Prop := ∃ v bs, e = .returned (.agg #[.int .i64 r, .int .i64 n, v]) ∧ OwnI w' bs v xs ∧ (∀ b ∈ bs, w.heap.size ≤ b) ∧ Below w.heap.size w w'
def SeesE (r n : Int) (w : World) (xs : List Int) (e : Ending) (w' : World) : Prop := ∃ v, e = .returned (.agg #[.int .i64 r, .int .i64 n, v]) ∧ Ints w' v xs ∧ Below w.heap.size w w'
theorem RetE.sees {r n : Int} {w w' : World} {xs : List Int} {e : Ending} (h : RetE r n w xs e w') : SeesE r n w xs e w' := by
  obtain ⟨v, bs, rfl, ho, hg, hb⟩ := h
  exact ⟨v, rfl, ho.ints, hb⟩
set_option maxHeartbeats 800000 in
theorem eqE_any (r n : Int) (v v' : Value) (xs : List Int) (w : World) (h : Ints w v xs) (h' : Ints w v' xs) :
    Calls Try.prog 47 #[.agg #[.int .i64 r, .int .i64 n, v], .agg #[.int .i64 r, .int .i64 n, v']] w fun e w' => e = .returned (.bool true) ∧ Below w.heap.size w w' := by
  have H := Lib.hid h
  have H' := Lib.hid h'
  clear h h'
  have B0 := Lib.hid (((Below.refl w.heap.size w).alloc (Nat.le_refl _) (.cells #[.int .i64 r, .int .i64 n, v] 53)).alloc (by simp) (.cells #[.int .i64 r, .int .i64 n, v'] 53))
  go_enter Try.func47, Try.ntmps47
  go_wp2_with fail
  refine (eqI_any _ _ xs _ (H.out.below (B := 0) B0.out) (H'.out.below (B := 0) B0.out)).mono ?_
  rintro e w1 ⟨rfl, b1⟩
  have B1 := Lib.hid (B0.out.trans (b1.mono B0.out.size))
  clear b1
  go_wp2
  go_ret
  exact ⟨rfl, B1.out⟩
set_option maxHeartbeats 800000 in
theorem markEZ (r n : Int) {w : World} {v : Value} {xs : List Int} {bs : List Nat} {Z : Nat} (h : OwnI w bs v xs) (hz : xs.length = Z) (k : Int) (hk : 0 ≤ k) (hs : k + Z ≤ 4000000000) :
    Calls Try.prog 48 #[.agg #[.int .i64 r, .int .i64 n, v], .int .i64 k] w fun e w' => e = .returned (.int .i64 (k + Z)) ∧ OwnI w' bs v (iota k Z) ∧ GrOn bs w w' := by
  have H := Lib.hid h
  clear h
  have B0 := Lib.hid ((Below.refl w.heap.size w).alloc (Nat.le_refl _) (.cells #[.int .i64 r, .int .i64 n, v] 53))
  go_enter Try.func48, Try.ntmps48
  go_wp2_with fail
  refine (markIZ (H.out.below B0.out) hz k hk hs).mono ?_
  rintro e w1 ⟨rfl, o1, g1⟩
  have O1 := Lib.hid o1
  have G1 := Lib.hid ((GrOn.of_below B0.out bs).trans g1)
  clear o1 g1
  go_wp2
  go_ret
  exact ⟨rfl, O1.out, G1.out⟩
set_option maxHeartbeats 800000 in
theorem heldEZ (r n : Int) {w : World} {v : Value} {bs : List Nat} {Z : Nat} {k : Int} (h : OwnI w bs v (iota k Z)) (hk : 0 ≤ k) (hs : k + Z ≤ 4000000000) :
    Calls Try.prog 49 #[.agg #[.int .i64 r, .int .i64 n, v], .int .i64 k] w fun e w' => e = .returned (.int .i64 (k + Z)) ∧ Below w.heap.size w w' := by
  have H := Lib.hid h
  clear h
  have B0 := Lib.hid ((Below.refl w.heap.size w).alloc (Nat.le_refl _) (.cells #[.int .i64 r, .int .i64 n, v] 53))
  have kk : decide (k + (Z : Int) < 0) = false := by simp; omega
  go_enter Try.func49, Try.ntmps49
  go_wp2_with fail
  refine (heldIZ (H.out.below B0.out) hk hs).mono ?_
  rintro e w1 ⟨rfl, rfl⟩
  go_wp2
  go_ret
  exact ⟨rfl, B0.out⟩
end Go.Proofs.Ytjjgigoehgabkaa
