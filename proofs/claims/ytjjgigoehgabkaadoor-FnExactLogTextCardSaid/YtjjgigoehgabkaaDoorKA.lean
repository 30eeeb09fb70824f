/- An act of one's own, an eye: what the exact laws do with them. -/
import Derived.Test.YtjjgigoehgabkaaDoorHG
import Derived.Test.YtjjgigoehgabkaaDoorHC
import Derived.Test.YtjjgigoehgabkaaDoorJB



namespace Go.Proofs.YtjjgigoehgabkaaDoor
open Go.RowKit
set_option linter.unusedVariables false

theorem own_apart {w : World} {ds us : List Nat} {v u : Value} {xs : List Int} {ups : List UpM} (h : OwnI w ds v xs) (k : OwnP w us u ups) : ∀ b ∈ ds, b ∉ us := by
  rcases h with ⟨_, rfl, _⟩ | ⟨d, rfl, hp, h⟩
  · intro b hb; cases hb
  · rcases k with ⟨_, rfl, _⟩ | ⟨d', rfl, hp', k⟩
    · intro b _ hb; cases hb
    · intro b hb hc
      rw [List.mem_singleton] at hb hc
      exact type_ne (own_type h hp) (ownU_type k hp') (by decide) (hb.symm.trans hc)
theorem OwnI.nodup {w : World} {ds : List Nat} {v : Value} {xs : List Int} (h : OwnI w ds v xs) : ds.Nodup := by
  rcases h with ⟨_, rfl, _⟩ | ⟨d, rfl, _⟩ <;> simp
theorem OwnP.nodup {w : World} {ds : List Nat} {v : Value} {us : List UpM} (h : OwnP w ds v us) : ds.Nodup := by
  rcases h with ⟨_, rfl, _⟩ | ⟨d, rfl, _⟩ <;> simp
theorem own_nodup {w : World} {ds us : List Nat} {v u : Value} {xs : List Int} {ups : List UpM} (h : OwnI w ds v xs) (k : OwnP w us u ups) : (ds ++ us).Nodup := by
  rw [List.nodup_append]
  exact ⟨h.nodup, k.nodup, fun a ha b hb e => own_apart h k a ha (e ▸ hb)⟩

/-- v is the act a, its lists in the blocks bs -/
def OwnAct (w : World) (v : Value) (a : ActM) (bs : List Nat) : Prop := ∃ (t : ActT) (ds us : List Nat), v = t.val ∧ t.a = a ∧ bs = ds ++ us ∧ OwnI w ds t.vd t.a.dep ∧ OwnP w us t.vs t.a.ups
theorem OwnAct.lt {w : World} {v : Value} {a : ActM} {bs : List Nat} (h : OwnAct w v a bs) : ∀ b ∈ bs, b < w.heap.size := by
  obtain ⟨t, ds, us, _, _, rfl, h1, h2⟩ := h
  intro b hb
  rcases List.mem_append.1 hb with hb | hb
  · exact h1.lt b hb
  · exact h2.lt b hb
theorem OwnAct.keep {w w' : World} {v : Value} {a : ActM} {bs : List Nat} (h : OwnAct w v a bs) (hk : ∀ b ∈ bs, w'.heap[b]? = w.heap[b]?) : OwnAct w' v a bs := by
  obtain ⟨t, ds, us, h1, h2, rfl, h3, h4⟩ := h
  exact ⟨t, ds, us, h1, h2, rfl, h3.keep fun b hb => hk b (List.mem_append.2 (.inl hb)), h4.keep fun b hb => hk b (List.mem_append.2 (.inr hb))⟩
theorem OwnAct.below {w w' : World} {v : Value} {a : ActM} {bs : List Nat} (h : OwnAct w v a bs) (hb : Below w.heap.size w w') : OwnAct w' v a bs := h.keep fun b hm => hb.block b (h.lt b hm)
theorem OwnAct.other {w w' : World} {v : Value} {a : ActM} {bs cs : List Nat} (h : OwnAct w v a bs) (hg : GrOn cs w w') (hd : ∀ b ∈ bs, b ∉ cs) : OwnAct w' v a bs := h.keep fun b hm => hg.same b (h.lt b hm) (hd b hm)
theorem OwnAct.act {w : World} {v : Value} {a : ActM} {bs : List Nat} (h : OwnAct w v a bs) : ActIs w v a := by
  obtain ⟨t, ds, us, rfl, rfl, _, h1, h2⟩ := h
  exact ⟨t.vd, t.vs, rfl, h1.ints, h2.ups⟩
def RetA (w : World) (a : ActM) (e : Ending) (w' : World) : Prop := ∃ v bs, e = .returned v ∧ OwnAct w' v a bs ∧ (∀ b ∈ bs, w.heap.size ≤ b) ∧ Below w.heap.size w w'
theorem Copied.ret {w w' : World} {a : ActM} {e : Ending} (h : Copied w a e w') : RetA w a e w' := by
  obtain ⟨t, ds, us, h1, h2, h3, h4, h5, h6, h7⟩ := h
  subst h1
  exact ⟨_, ds ++ us, h2, ⟨t, ds, us, rfl, rfl, rfl, h3, h4⟩, h6, h7⟩
theorem toA_any (v : Value) (a : ActM) (w : World) (h : ActIs w v a) (hl : a.dep.length ≤ 1048576) (hu : a.ups.length ≤ 1048576) : Calls Tryd.prog 8 #[v] w (RetA w a) :=
  (toAct_any v a w h hl hu).mono fun e w' h => by
    obtain ⟨v, g, k, rfl, ⟨vd, vs, rfl, o1, o2⟩, h1, h2, h3, hb⟩ := h
    obtain ⟨ds, p1, _, p2⟩ := own_I o1 w.heap.size h1
    obtain ⟨us, q1, _, q2⟩ := own_P o2 w.heap.size (by omega)
    refine ⟨_, ds ++ us, rfl, ⟨⟨a, vd, vs⟩, ds, us, rfl, rfl, rfl, p1, q1⟩, fun b hb => ?_, hb⟩
    rcases List.mem_append.1 hb with hb | hb
    · exact p2 b hb
    · exact q2 b hb
theorem eqA_any (v v' : Value) (a : ActM) (w : World) (h : ActIs w v a) (h' : ActIs w v' a) : Calls Tryd.prog 10 #[v, v'] w fun e w' => e = .returned (.bool true) ∧ Below w.heap.size w w' := eqAct_same v v' a w h h'
theorem Blk.on {w w' : World} {B : Nat} {bs : List Nat} {l : List Value} (h : Blk w B l) (hg : GrOn bs w w') (hn : B ∉ bs) : Blk w' B l :=
  ⟨Nat.lt_of_lt_of_le h.lt hg.size, fun j => (World.cell?_of_block (w := w) (hg.same B h.lt hn)).trans (h.cell j), fun j => (World.frozen?_of_block (w := w) (hg.same B h.lt hn)).trans (h.free j)⟩

def szD (a : ActM) : Nat := a.dep.length + 4 * a.ups.length
/-- eyes -/
def RetE (r n : Int) (w : World) (xs : List Int) (e : Ending) (w' : World) : Prop := ∃ v bs, e = .returned (.agg #[.int .i64 r, .int .i64 n, v]) ∧ OwnI w' bs v xs ∧ (∀ b ∈ bs, w.heap.size ≤ b) ∧ Below w.heap.size w w'
def SeesE (r n : Int) (w : World) (xs : List Int) (e : Ending) (w' : World) : Prop := ∃ v, e = .returned (.agg #[.int .i64 r, .int .i64 n, v]) ∧ Ints w' v xs ∧ Below w.heap.size w w'
theorem RetE.sees {r n : Int} {w w' : World} {xs : List Int} {e : Ending} (h : RetE r n w xs e w') : SeesE r n w xs e w' := by
  obtain ⟨v, bs, rfl, ho, hg, hb⟩ := h
  exact ⟨v, rfl, ho.ints, hb⟩
end Go.Proofs.YtjjgigoehgabkaaDoor
