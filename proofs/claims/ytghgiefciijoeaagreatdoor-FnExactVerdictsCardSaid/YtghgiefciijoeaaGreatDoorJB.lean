/- The program's copyActs. -/
import Derived.Test.YtghgiefciijoeaaGreatDoorML
import Derived.Test.YtghgiefciijoeaaGreatDoorMG
import Derived.RangeFuncBox
import Derived.RangeFuncNested
import Derived.Shelf.RegionOpen
import Derived.Deep.AppendLies

namespace Go.Proofs.YtghgiefciijoeaaGreatDoor
open Go.RowKit Go.Shelf
set_option linter.unusedVariables false
attribute [local go_sem] Oper.semAt_some
theorem own_type {w : World} {g : Nat} {v : Value} {xs : List Int} (h : Own w g v xs) (hp : 0 < xs.length) : OfType w g 3 := by
 rcases h with ⟨a, cap, rfl, rfl⟩ | ⟨_, cap, rfl, ho⟩
 ·simp at hp
 ·exact row_type ho
theorem ownU_type {w : World} {g : Nat} {v : Value} {us : List UpM} (h : OwnU w g v us) (hp : 0 < us.length) : OfType w g 116 := by
 rcases h with ⟨a, cap, rfl, rfl⟩ | ⟨_, cap, rfl, ho⟩
 ·simp at hp
 ·exact row_type ho
def NoRow (w : World) (b : Nat) : Prop := OfType w b 3 ∨ OfType w b 116
theorem OwnI.type {w : World} {ds : List Nat} {v : Value} {xs : List Int} (h : OwnI w ds v xs) : ∀ b ∈ ds, NoRow w b := by
 rcases h with ⟨_, rfl, _⟩ | ⟨d, rfl, hp, h⟩
 ·intro b hb; cases hb
 ·intro b hb; rw [List.mem_singleton.1 hb]; exact .inl (own_type h hp)
theorem OwnP.type {w : World} {ds : List Nat} {v : Value} {us : List UpM} (h : OwnP w ds v us) : ∀ b ∈ ds, NoRow w b := by
 rcases h with ⟨_, rfl, _⟩ | ⟨d, rfl, hp, h⟩
 ·intro b hb; cases hb
 ·intro b hb; rw [List.mem_singleton.1 hb]; exact .inr (ownU_type h hp)
theorem Lists.type {w : World} : ∀ {ts : List ActT} {bs : List Nat}, Lists w ts bs → ∀ b ∈ bs, NoRow w b
 | [], bs, h, b, hb => by rw [h] at hb; cases hb
 | t :: ts, bs, ⟨ds, us, rest, e, h1, h2, h3⟩, b, hb => by
  subst e
  simp only [List.mem_append] at hb
  rcases hb with (hb | hb) | hb
  ·exact h1.type b hb
  ·exact h2.type b hb
  ·exact h3.type b hb
theorem NoRow.ne {w : World} {b g : Nat} {e : TypeId} (h : NoRow w b) (hg : OfType w g e) (h1 : 3 ≠ e) (h2 : 116 ≠ e) : b ≠ g := by
 rcases h with h | h
 ·exact type_ne h hg h1
 ·exact type_ne h hg h2
theorem NoRow.cells {w : World} {b : Nat} (h : NoRow w b) : ∃ o, w.heap[b]? = some o ∧ o.isCells = true := by
 rcases h with ⟨cs, cur, h⟩ | ⟨cs, cur, h⟩
 ·exact ⟨_, h, rfl⟩
 ·exact ⟨_, h, rfl⟩
def Row (w : World) (lo : Nat) (v : Value) (l : List ActM) : Prop := ∃ (ts : List ActT) (cs : List Nat), ts.map ActT.a = l ∧ w.ownsRow lo 32 11 v ts.length (va ts) ∧ Lists w ts cs ∧ cs.Nodup ∧ ∀ b ∈ cs, lo ≤ b
theorem row_own {w : World} {lo : Nat} {v : Value} {n : Nat} {xs : List Value} (h : w.ownsRow lo 32 11 v n xs) : (v = .slice none 0 0 ∧ n = 0) ∨ ∃ g cap, v = .slice (some ⟨g, 0, none⟩) n cap ∧ lo ≤ g ∧ g < w.heap.size ∧ OfType w g 32 ∧ w.ownsRow g 32 11 v n xs := by
 rcases h.2 with h0 | ⟨g, cap, cur, rfl, hl, hg, r⟩
 ·exact .inl h0
 ·exact .inr ⟨g, cap, rfl, hl, (Array.getElem?_eq_some_iff.1 hg).1, ⟨cur, _, hg⟩, h.1, .inr ⟨g, cap, cur, rfl, Nat.le_refl _, hg, r⟩⟩
theorem rowA_keep {w w' : World} {lo : Nat} {v : Value} {n : Nat} {xs : List Value} (h : w.ownsRow lo 32 11 v n xs) (hk : ∀ b, OfType w b 32 → w'.heap[b]? = w.heap[b]?) : w'.ownsRow lo 32 11 v n xs := by
 refine ⟨h.1, ?_⟩
 rcases h.2 with h0 | ⟨g, cap, cur, rfl, hl, hg, r⟩
 ·exact .inl h0
 ·exact .inr ⟨g, cap, cur, rfl, hl, (hk g ⟨cur, _, hg⟩).trans hg, r⟩
theorem row_past {w w' : World} {lo : Nat} {v : Value} {n : Nat} {xs : List Value} (h : w.ownsRow lo 32 11 v n xs) (hb : Below w.heap.size w w') : w'.ownsRow lo 32 11 v n xs :=
 rowA_keep h fun b ⟨cs, cur, hg⟩ => hb.block b (Array.getElem?_eq_some_iff.1 hg).1
theorem Row.keep {w w' : World} {lo : Nat} {v : Value} {l : List ActM} (h : Row w lo v l) (hk : ∀ b, OfType w b 32 ∨ NoRow w b → w'.heap[b]? = w.heap[b]?) : Row w' lo v l := by
 obtain ⟨ts, cs, h1, h2, h3, h4, h5⟩ := h
 exact ⟨ts, cs, h1, rowA_keep h2 fun b hb => hk b (.inl hb), h3.keep fun b hb => hk b (.inr (h3.type b hb)), h4, h5⟩
theorem Row.nil (w : World) (lo : Nat) : Row w lo (.slice none 0 0) [] := ⟨[], [], rfl, World.ownsRow_nil _ _ _ _, rfl, List.nodup_nil, fun b hb => by cases hb⟩
theorem Row.own {w : World} {lo : Nat} {v : Value} {l : List ActM} (h : Row w lo v l) : ∃ bs, OwnL w v l bs ∧ ∀ b ∈ bs, lo ≤ b := by
 obtain ⟨ts, cs, h1, h2, h3, h4, h5⟩ := h
 rcases row_own h2 with ⟨rfl, h0⟩ | ⟨g, cap, rfl, hl, hlt, ht, ho⟩
 ·have : ts = [] := List.eq_nil_of_length_eq_zero h0
  subst this
  exact ⟨[], .inl ⟨h1.symm, rfl, _, _, rfl⟩, fun b hb => by cases hb⟩
 ·refine ⟨g :: cs, .inr ⟨ts, g, _, cap, cs, h1, rfl, rfl, List.nodup_cons.2 ⟨fun hm => (h3.type g hm).ne ht (by decide) (by decide) rfl, h4⟩, rfl, ho, h3⟩, fun b hb => ?_⟩
  rcases List.mem_cons.1 hb with rfl | hb
  ·exact hl
  ·exact h5 b hb
theorem va_snoc (ts : List ActT) (t : ActT) : va (ts ++ [t]) = va ts ++ t.cells := by simp [va]
theorem Row.push {V w1 : World} {lo B F : Nat} {T : TypeId} {v v1 : Value} {ts : List ActT} {cs ds us : List Nat} {t : ActT} {u : Value}
  (hrow : V.ownsRow lo 32 11 v ts.length (va ts)) (hli : Lists V ts cs) (hnd : cs.Nodup) (hlo : ∀ b ∈ cs, lo ≤ b) (hF : ∀ b ∈ cs, b < F) (hlF : lo ≤ F)
  (oI : OwnI V ds t.vd t.a.dep) (oP : OwnP V us t.vs t.a.ups) (nd : (ds ++ us).Nodup) (ge : ∀ b ∈ ds ++ us, F ≤ b) (tmp : Obj)
  (hg : (V.alloc tmp).grownBy w1 v.ownBlock) (hbx : Boxed V B T u) (hT : T ≠ 32) (hT1 : 3 ≠ T) (hT2 : 116 ≠ T)
  (hr2 : (w1.setCell ⟨B, 0, none⟩ v1).ownsRow lo 32 11 v1 (ts.length + 1) (va ts ++ t.cells)) :
  Row (w1.setCell ⟨B, 0, none⟩ v1) lo v1 (ts.map ActT.a ++ [t.a]) := by
 have hkeep : ∀ b, NoRow V b → (w1.setCell ⟨B, 0, none⟩ v1).heap[b]? = V.heap[b]? := fun b hb => by
  have hlt : b < V.heap.size := by obtain ⟨o, ho, _⟩ := hb.cells; exact (Array.getElem?_eq_some_iff.1 ho).1
  have hB : b ≠ B := hb.ne ⟨_, _, hbx⟩ hT1 hT2
  rw [Below.heap_setCell _ _ _ _ (by simpa using hB)]
  have h1 : w1.heap[b]? = (V.alloc tmp).heap[b]? := hg.block b (by simp; omega) (fun e => by
   rcases row_own hrow with ⟨rfl, _⟩ | ⟨g, cap, rfl, _, _, ht, _⟩
   ·simp [Value.ownBlock] at e
   ·have : b = g := by simpa [Value.ownBlock] using e
    exact hb.ne ht (by decide) (by decide) this)
  exact h1.trans (Below.heap_alloc _ _ _ hlt)
 refine ⟨ts ++ [t], cs ++ (ds ++ us), by simp, by rw [va_snoc]; simpa using hr2, (hli.keep fun b hb => hkeep b (hli.type b hb)).snoc (oI.keep fun b hb => hkeep b (oI.type b hb)) (oP.keep fun b hb => hkeep b (oP.type b hb)), nodup_app hnd nd hF ge, fun b hb => ?_⟩
 rcases List.mem_append.1 hb with hb | hb
 ·exact hlo b hb
 ·have := ge b hb; omega
theorem stepIn_append {F : Fence} {n : Nat} {P : Program} {ops : Array Oper} {o : Oper} {a : Act} {K : Act → World → Prop} {Q : Exit → Act → World → Prop} {E : Prop} (w : World)
  (hg : o.guard = none) (s x : Operand) (t : TypeId) (hop : o.op = Op.call { callee := Callee.builtin Builtin.append, args := #[s, x], argTypes := #[t, t] })
  (base : Nat) (e : TypeId) (i : TypeInfo) (z : Value) (size bytes : Nat) (h1 : P.underlying t = some (.slice e)) (h2 : P.info? e = some i) (h3 : i.zero = some z) (h4 : i.size = size) (h5 : i.bytes = bytes) (h6 : z.cells.size = size) (h7 : 0 < size)
  (v : Value) (k : Nat) (xs : List Value) (hs : a.eval s = v) (hown : w.ownsRow base e size v k xs) (ad : Addr) (m c : Nat) (news : List Value) (hx : a.eval x = .slice (some ad) m c) (hn : news.length = m * size)
  (hc : ∀ j u, news[j]? = some u → w.cell? (ad.add j) = some u) (h1c : ∀ u ∈ news, u.oneCell' = true) (b1 : k + m ≤ maxLen) (b2 : (k + m) * bytes ≤ 140737488355328) (b3 : base ≤ w.heap.size)
  (hK : ∀ v' w', w'.ownsRow base e size v' (k + m) (xs ++ news) → w.grownBy w' v.ownBlock → K (a.put o.dst v') w') :
  if Region.wanted o (yielded ops a.tmps) = true then Oper.wpIn F n P o a w K Q else E := by
 have hw : Region.wanted o (yielded ops a.tmps) = true := by simp [Region.wanted, hg]
 rw [if_pos hw]
 obtain ⟨v', w', hrun, r1, r2, r3⟩ := run_append_own (P := P) w base t o.type e i z size bytes h1 h2 h3 h4 h5 h6 h7 v k xs hown ad m c news hn hc h1c b1 b2 b3
 unfold Oper.wpIn
 refine ⟨?_, ?_⟩
 ·simp [Oper.about, hop, resolve, Target.leads, Sem.run_pure]
 ·rw [Oper.semAt_plain F _ _ (by rw [hop]; intro c hc'; cases hc')]
  simp [execOp, hop, resolve, invoke, builtin, hs, hx, hrun, Result.andThen]
  exact hK _ _ r1 r2
set_option maxRecDepth 100000 in
set_option maxHeartbeats 6400000 in
theorem copyActs_row (gf : Nat) (lb : Array Value) (K : ActT → Prop) (zs : List ActT) (N : Nat) (w : World) (eg : ∀ args w, (callFunc gf args).run Tryz.prog w = .ok (.enter gf args) w)
  (hs : SeqStopsK Fence.wide 5 Tryz.prog gf lb (fun t : {t : ActT // K t} => #[t.1.val]) (Below w.heap.size) (fun ys => ys.map Subtype.val = zs) (fun pre => pre.map Subtype.val <+: zs) N w)
  (hK : ∀ t, K t → t.Reads w ∧ t.a.Small) (hN : N ≤ 1048576) :
  Calls Tryz.prog 118 #[.func (.func gf) #[] lb] w fun e w' => ∃ v, e = .returned v ∧ Row w' w.heap.size v (zs.map ActT.a) ∧ Below w.heap.size w w' := by
 obtain ⟨i2, hi, hz0, hz1, hz2⟩ := info_parts Tryz.infoAct
 refine (callsIn_wide (n := 6)).1 ?_
 refine callsIn_of_wp_marks Tryz.func118 rfl trivial ?_ rfl
 simp only [Tryz.ntmps118, List.size_toArray, List.length_cons, List.length_nil, Nat.reduceAdd, Nat.reduceSub, Array.replicate_succ, Array.replicate_zero, List.push_toArray, List.append_toArray, List.nil_append, List.cons_append]
 gi_wp2_with fail
 have hbx := Boxed.new w 23 (.slice none 0 0)
 have hB0 : Below w.heap.size w (w.alloc (.cells #[.slice none 0 0] 23)) := (Below.refl _ w).alloc (Nat.le_refl _) _
 have hz : (w.alloc (.cells #[.slice none 0 0] 23)).heap.size = w.heap.size + 1 := by simp
 generalize w.alloc (.cells #[.slice none 0 0] 23) = w1 at hbx hB0 hz ⊢
 have belK : ∀ {A B C : World}, Below w.heap.size A B → Below w.heap.size B C → Below w.heap.size A C := fun h k => h.trans k
 refine wpIn_rangeFunc_ownH rfl (by omega) (gf := gf) (lb := lb) rfl trivial eg hs belK (belowK_b (by omega)) hB0 (fun _ => rfl)
  (fun pre W => (∃ v, Boxed W w.heap.size 23 v ∧ Row W w.heap.size v (pre.map fun t => t.1.a)) ∧ Below w.heap.size w W)
  (fun _ _ _ => False)
  ?hI (fun _ _ _ _ _ hs _ _ => hs) ⟨⟨_, hbx, Row.nil _ _⟩, hB0⟩
  (fun x a' W => ∃ Bx, w1.heap.size ≤ Bx ∧ Blk W Bx (.int .i64 x.1.a.r :: [.int .i64 x.1.a.n, x.1.vd, .int .i64 x.1.a.actor, .int .i64 x.1.a.kind, .int .i64 x.1.a.to, .int .i64 x.1.a.bucket, .int .i64 x.1.a.mask, .int .i64 x.1.a.gr, .int .i64 x.1.a.gn, x.1.vs]) ∧
   a' = { tmps := #[.func (.func gf) #[] lb, undef, .slice none 0 0, .pointer (some ⟨w.heap.size, 0, none⟩), .pointer (some ⟨Bx, 0, none⟩), .func (.func gf) #[] lb, x.1.val, undef, undef, undef, undef, undef, undef], defers := [] })
  ?hAx ?assign ?body ?done ?stop
 case hI =>
  rintro pre A B row ⟨⟨v, hv, hr⟩, hb⟩ hg hrow
  have hne : ∀ (b : Nat) (o : Obj), A.heap[b]? = some o → o.isCells = true → B.heap[b]? = A.heap[b]? := fun b o ho hc => hg.block b (Array.getElem?_eq_some_iff.1 ho).1 (fun e => by
   obtain ⟨_, o', ho', hc'⟩ := hrow b e.symm
   rw [ho] at ho'; cases ho'
   rw [hc] at hc'; cases hc')
  refine ⟨⟨v, (hne _ _ hv rfl).trans hv, hr.keep fun b hb => ?_⟩, hb.grown hg hb.size (fun k hk => by have := (hrow k hk).1; omega)⟩
  rcases hb with ⟨cs, cur, h⟩ | h
  ·exact hne _ _ h rfl
  ·obtain ⟨o, ho, hc⟩ := h.cells
   exact hne _ _ ho hc
 case hAx =>
  rintro x a' u A B row ⟨Bx, h1, h2, rfl⟩ hg hrow
  exact ⟨Bx, h1, Blk.cellsOwn () A B row h2 hg hrow, rfl⟩
 case assign =>
  rintro l pre ⟨⟨⟨r, n, dep, actor, kind, dst, bucket, mask, gr, gn, ups⟩, vd, vs⟩, hx⟩ W K2 ⟨⟨v, hv, hr⟩, hb⟩ hK2
  have hlt := hv.lt
  have hsd := ints_len (hK _ hx).1.1
  have hsu := ups_len (hK _ hx).1.2
  simp only at hsd hsu
  obtain ⟨da, dc, rfl⟩ := hsd
  obtain ⟨ua, uc, rfl⟩ := hsu
  have ha := (Below.refl W.heap.size W).alloc (Nat.le_refl _) (.cells #[.int .i64 r, .int .i64 n, .slice da dep.length dc, .int .i64 actor, .int .i64 kind, .int .i64 dst, .int .i64 bucket, .int .i64 mask, .int .i64 gr, .int .i64 gn, .slice ua ups.length uc] 32)
  simp only [ActT.val]
  gi_wp2
  refine hK2 _ _ (below_keeps ha) (ha.mono hb.size) ⟨⟨v, hv.alloc _, hr.keep fun b hb => ?_⟩, hb.alloc hb.size _⟩ ⟨W.heap.size, by omega, Blk.new W _ _, rfl⟩
  refine Below.heap_alloc _ _ _ ?_
  rcases hb with ⟨cs, cur, h⟩ | h
  ·exact (Array.getElem?_eq_some_iff.1 h).1
  ·obtain ⟨o, ho, hc⟩ := h.cells
   exact (Array.getElem?_eq_some_iff.1 ho).1
 case body =>
  rintro l pre ⟨t, hx⟩ a' W hl0 hloop ⟨⟨v, hv, ts, cs, hl, hrow, hli, hnd, hlo⟩, hB⟩ ⟨Bx, hBx, hblk, rfl⟩ hlen
  have hc := hv.cell
  have fc := hv.frozen
  have e0 := hblk.cell 0
  have e1 := hblk.cell 1
  have e2 := hblk.cell 2
  have e3 := hblk.cell 3
  have e4 := hblk.cell 4
  have e5 := hblk.cell 5
  have e6 := hblk.cell 6
  have e7 := hblk.cell 7
  have e8 := hblk.cell 8
  have e9 := hblk.cell 9
  have e10 := hblk.cell 10
  simp only [List.getElem?_cons_zero, List.getElem?_cons_succ] at e0 e1 e2 e3 e4 e5 e6 e7 e8 e9 e10
  have hmx : Tryz.prog.follows .mixedOrders = true := by kernel_rfl
  have q1 : Below W.heap.size W W.drew := (Below.refl W.heap.size W).drew
  have CC := Lib.hid (fun V (h : Below W.heap.size W V) => copyAct_any t V ((hK t hx).1.below (hB.trans (h.mono hB.size))) (hK t hx).2)
  have hpl : ts.length < N := by
   have := congrArg List.length hl
   simp at this
   omega
  simp only [ActT.val] at CC ⊢
  gi_wp2
  --REGION
  refine wpIn_region_any hmx ?_
  change wpAnyIn _ _ _ _ _ _ _ _ _ (World.drew _)
  refine wpAnyIn_ready (rs := [0, 1]) (by kernel_rfl) (by simp) ?_
  refine (AllReadyIn.cons rfl (fun K hK => ?_) (AllReadyIn.cons rfl (fun K hK => ?_) AllReadyIn.nil))
  ·go_simp
   refine hK _ _ ?_
   clear hK K
   refine wpAnyIn_ready (rs := [1]) (by kernel_rfl) (by simp) ?_
   refine (AllReadyIn.cons rfl (fun K hK => ?_) AllReadyIn.nil)
   ·go_simp
    refine hK _ _ ?_
    clear hK K
    refine wpAnyIn_ready (rs := [2]) (by kernel_rfl) (by simp) ?_
    refine (AllReadyIn.cons rfl (fun K hK => ?_) AllReadyIn.nil)
    ·go_simp
     refine ⟨trivial, ?_⟩
     refine (CallsIn.inRound l (callsIn_wide.2 (CC.out _ q1))).mono ?_
     rintro e V2 ⟨t', ds, us, hta', rfl, oI, oP, ndd, gee, b2⟩
     have HTA := Lib.hid hta'
     clear hta'
     simp only [ActT.val]
     have hv2 : Boxed V2 w.heap.size 23 v := (b2.block w.heap.size hv.lt).trans hv
     have hc2 := hv2.cell
     have fc2 := hv2.frozen
     have hc3 := (hv2.alloc (.cells #[.int .i64 t'.a.r, .int .i64 t'.a.n, t'.vd, .int .i64 t'.a.actor, .int .i64 t'.a.kind, .int .i64 t'.a.to, .int .i64 t'.a.bucket, .int .i64 t'.a.mask, .int .i64 t'.a.gr, .int .i64 t'.a.gn, t'.vs] 32)).cell
     have hrow2 := row_past (w := W.drew) hrow b2
     have hli2 := hli.keep fun b hb => b2.block b (hli.lt b hb)
     have hbV2 := q1.trans (b2.mono q1.size)
     refine hK _ _ ?_
     clear hK K
     refine wpAnyIn_ready (rs := [3]) (by kernel_rfl) (by simp) ?_
     refine (AllReadyIn.cons rfl (fun K hK => ?_) AllReadyIn.nil)
     ·go_simp
      refine hK _ _ ?_
      clear hK K
      have CO := cells_one (t := t') (w := V2) ⟨oI.ints, oP.ups⟩
      refine wpAnyIn_ready (rs := [4]) (by kernel_rfl) (by simp) ?_
      refine AllReadyIn.cons rfl (fun K hK => ?_) AllReadyIn.nil
      refine stepIn_append _ rfl (.tmp 7) (.tmp 10) 23 rfl w.heap.size 32 i2 _ 11 120 Tryz.underlying23 hi hz0 hz1 hz2 rfl (by decide) v ts.length (va ts) rfl (hrow2.alloc _) ⟨V2.heap.size, 0, none⟩ 1 1 t'.cells rfl rfl (World.news_of_block (World.alloc_heap_new V2 _)) CO (by unfold maxLen; omega) (by omega) (by have := hB.size; have := hbV2.size; simp; omega) ?_
      intro v' w' hown' hgrow
      obtain ⟨g', cap', rfl⟩ := ownsRow_succ hown'
      obtain ⟨hv1, hv3, hr3, hk3, hb3⟩ := hv2.appended (n₀ := w.heap.size) (by decide) hrow2 (by have := hB.size; have := hbV2.size; omega) (Nat.le_refl _) hown' hgrow
      have hrowN := Row.push (F := W.heap.size) hrow2 hli2 hnd hlo (fun b hb => hli.lt b hb) hB.size oI oP ndd gee _ hgrow hv2 (by decide) (by decide) (by decide) hr3
      have hc4 := hv1.cell
      have fc4 := hv1.frozen
      refine hK _ _ ?_
      clear hK K
      refine wpAnyIn_ready (rs := [5]) (by kernel_rfl) (by simp) ?_
      refine AllReadyIn.cons rfl (fun K hK => ?_) AllReadyIn.nil
      go_simp
      refine hK _ _ ?_
      clear hK K
      refine wpAnyIn_done (by kernel_rfl) ?_ _
      gi_wp2
      refine ⟨(below_keeps hbV2).trans (hk3.from _), (hbV2.mono hB.size).trans hb3, ⟨_, hv3, ?_⟩, hB.trans ((hbV2.mono hB.size).trans hb3)⟩
      rw [List.map_append, ← hl, List.map_cons, List.map_nil, ← HTA.out]
      exact hrowN
  ·go_simp
   refine hK _ _ ?_
   clear hK K
   refine wpAnyIn_ready (rs := [0, 2]) (by kernel_rfl) (by simp) ?_
   refine (AllReadyIn.cons rfl (fun K hK => ?_) (AllReadyIn.cons rfl (fun K hK => ?_) AllReadyIn.nil))
   ·go_simp
    refine hK _ _ ?_
    clear hK K
    refine wpAnyIn_ready (rs := [2]) (by kernel_rfl) (by simp) ?_
    refine (AllReadyIn.cons rfl (fun K hK => ?_) AllReadyIn.nil)
    ·go_simp
     refine ⟨trivial, ?_⟩
     refine (CallsIn.inRound l (callsIn_wide.2 (CC.out _ q1))).mono ?_
     rintro e V2 ⟨t', ds, us, hta', rfl, oI, oP, ndd, gee, b2⟩
     have HTA := Lib.hid hta'
     clear hta'
     simp only [ActT.val]
     have hv2 : Boxed V2 w.heap.size 23 v := (b2.block w.heap.size hv.lt).trans hv
     have hc2 := hv2.cell
     have fc2 := hv2.frozen
     have hc3 := (hv2.alloc (.cells #[.int .i64 t'.a.r, .int .i64 t'.a.n, t'.vd, .int .i64 t'.a.actor, .int .i64 t'.a.kind, .int .i64 t'.a.to, .int .i64 t'.a.bucket, .int .i64 t'.a.mask, .int .i64 t'.a.gr, .int .i64 t'.a.gn, t'.vs] 32)).cell
     have hrow2 := row_past (w := W.drew) hrow b2
     have hli2 := hli.keep fun b hb => b2.block b (hli.lt b hb)
     have hbV2 := q1.trans (b2.mono q1.size)
     refine hK _ _ ?_
     clear hK K
     refine wpAnyIn_ready (rs := [3]) (by kernel_rfl) (by simp) ?_
     refine (AllReadyIn.cons rfl (fun K hK => ?_) AllReadyIn.nil)
     ·go_simp
      refine hK _ _ ?_
      clear hK K
      have CO := cells_one (t := t') (w := V2) ⟨oI.ints, oP.ups⟩
      refine wpAnyIn_ready (rs := [4]) (by kernel_rfl) (by simp) ?_
      refine AllReadyIn.cons rfl (fun K hK => ?_) AllReadyIn.nil
      refine stepIn_append _ rfl (.tmp 7) (.tmp 10) 23 rfl w.heap.size 32 i2 _ 11 120 Tryz.underlying23 hi hz0 hz1 hz2 rfl (by decide) v ts.length (va ts) rfl (hrow2.alloc _) ⟨V2.heap.size, 0, none⟩ 1 1 t'.cells rfl rfl (World.news_of_block (World.alloc_heap_new V2 _)) CO (by unfold maxLen; omega) (by omega) (by have := hB.size; have := hbV2.size; simp; omega) ?_
      intro v' w' hown' hgrow
      obtain ⟨g', cap', rfl⟩ := ownsRow_succ hown'
      obtain ⟨hv1, hv3, hr3, hk3, hb3⟩ := hv2.appended (n₀ := w.heap.size) (by decide) hrow2 (by have := hB.size; have := hbV2.size; omega) (Nat.le_refl _) hown' hgrow
      have hrowN := Row.push (F := W.heap.size) hrow2 hli2 hnd hlo (fun b hb => hli.lt b hb) hB.size oI oP ndd gee _ hgrow hv2 (by decide) (by decide) (by decide) hr3
      have hc4 := hv1.cell
      have fc4 := hv1.frozen
      refine hK _ _ ?_
      clear hK K
      refine wpAnyIn_ready (rs := [5]) (by kernel_rfl) (by simp) ?_
      refine AllReadyIn.cons rfl (fun K hK => ?_) AllReadyIn.nil
      go_simp
      refine hK _ _ ?_
      clear hK K
      refine wpAnyIn_done (by kernel_rfl) ?_ _
      gi_wp2
      refine ⟨(below_keeps hbV2).trans (hk3.from _), (hbV2.mono hB.size).trans hb3, ⟨_, hv3, ?_⟩, hB.trans ((hbV2.mono hB.size).trans hb3)⟩
      rw [List.map_append, ← hl, List.map_cons, List.map_nil, ← HTA.out]
      exact hrowN
   ·go_simp
    refine ⟨trivial, ?_⟩
    refine (CallsIn.inRound l (callsIn_wide.2 (CC.out _ q1))).mono ?_
    rintro e V2 ⟨t', ds, us, hta', rfl, oI, oP, ndd, gee, b2⟩
    have HTA := Lib.hid hta'
    clear hta'
    simp only [ActT.val]
    have hv2 : Boxed V2 w.heap.size 23 v := (b2.block w.heap.size hv.lt).trans hv
    have hc2 := hv2.cell
    have fc2 := hv2.frozen
    have hc3 := (hv2.alloc (.cells #[.int .i64 t'.a.r, .int .i64 t'.a.n, t'.vd, .int .i64 t'.a.actor, .int .i64 t'.a.kind, .int .i64 t'.a.to, .int .i64 t'.a.bucket, .int .i64 t'.a.mask, .int .i64 t'.a.gr, .int .i64 t'.a.gn, t'.vs] 32)).cell
    have hrow2 := row_past (w := W.drew) hrow b2
    have hli2 := hli.keep fun b hb => b2.block b (hli.lt b hb)
    have hbV2 := q1.trans (b2.mono q1.size)
    refine hK _ _ ?_
    clear hK K
    refine wpAnyIn_ready (rs := [0, 3]) (by kernel_rfl) (by simp) ?_
    refine (AllReadyIn.cons rfl (fun K hK => ?_) (AllReadyIn.cons rfl (fun K hK => ?_) AllReadyIn.nil))
    ·go_simp
     refine hK _ _ ?_
     clear hK K
     refine wpAnyIn_ready (rs := [3]) (by kernel_rfl) (by simp) ?_
     refine (AllReadyIn.cons rfl (fun K hK => ?_) AllReadyIn.nil)
     ·go_simp
      refine hK _ _ ?_
      clear hK K
      have CO := cells_one (t := t') (w := V2) ⟨oI.ints, oP.ups⟩
      refine wpAnyIn_ready (rs := [4]) (by kernel_rfl) (by simp) ?_
      refine AllReadyIn.cons rfl (fun K hK => ?_) AllReadyIn.nil
      refine stepIn_append _ rfl (.tmp 7) (.tmp 10) 23 rfl w.heap.size 32 i2 _ 11 120 Tryz.underlying23 hi hz0 hz1 hz2 rfl (by decide) v ts.length (va ts) rfl (hrow2.alloc _) ⟨V2.heap.size, 0, none⟩ 1 1 t'.cells rfl rfl (World.news_of_block (World.alloc_heap_new V2 _)) CO (by unfold maxLen; omega) (by omega) (by have := hB.size; have := hbV2.size; simp; omega) ?_
      intro v' w' hown' hgrow
      obtain ⟨g', cap', rfl⟩ := ownsRow_succ hown'
      obtain ⟨hv1, hv3, hr3, hk3, hb3⟩ := hv2.appended (n₀ := w.heap.size) (by decide) hrow2 (by have := hB.size; have := hbV2.size; omega) (Nat.le_refl _) hown' hgrow
      have hrowN := Row.push (F := W.heap.size) hrow2 hli2 hnd hlo (fun b hb => hli.lt b hb) hB.size oI oP ndd gee _ hgrow hv2 (by decide) (by decide) (by decide) hr3
      have hc4 := hv1.cell
      have fc4 := hv1.frozen
      refine hK _ _ ?_
      clear hK K
      refine wpAnyIn_ready (rs := [5]) (by kernel_rfl) (by simp) ?_
      refine AllReadyIn.cons rfl (fun K hK => ?_) AllReadyIn.nil
      go_simp
      refine hK _ _ ?_
      clear hK K
      refine wpAnyIn_done (by kernel_rfl) ?_ _
      gi_wp2
      refine ⟨(below_keeps hbV2).trans (hk3.from _), (hbV2.mono hB.size).trans hb3, ⟨_, hv3, ?_⟩, hB.trans ((hbV2.mono hB.size).trans hb3)⟩
      rw [List.map_append, ← hl, List.map_cons, List.map_nil, ← HTA.out]
      exact hrowN
    ·go_simp
     refine hK _ _ ?_
     clear hK K
     refine wpAnyIn_ready (rs := [0]) (by kernel_rfl) (by simp) ?_
     refine (AllReadyIn.cons rfl (fun K hK => ?_) AllReadyIn.nil)
     ·go_simp
      refine hK _ _ ?_
      clear hK K
      have CO := cells_one (t := t') (w := V2) ⟨oI.ints, oP.ups⟩
      refine wpAnyIn_ready (rs := [4]) (by kernel_rfl) (by simp) ?_
      refine AllReadyIn.cons rfl (fun K hK => ?_) AllReadyIn.nil
      refine stepIn_append _ rfl (.tmp 7) (.tmp 10) 23 rfl w.heap.size 32 i2 _ 11 120 Tryz.underlying23 hi hz0 hz1 hz2 rfl (by decide) v ts.length (va ts) rfl (hrow2.alloc _) ⟨V2.heap.size, 0, none⟩ 1 1 t'.cells rfl rfl (World.news_of_block (World.alloc_heap_new V2 _)) CO (by unfold maxLen; omega) (by omega) (by have := hB.size; have := hbV2.size; simp; omega) ?_
      intro v' w' hown' hgrow
      obtain ⟨g', cap', rfl⟩ := ownsRow_succ hown'
      obtain ⟨hv1, hv3, hr3, hk3, hb3⟩ := hv2.appended (n₀ := w.heap.size) (by decide) hrow2 (by have := hB.size; have := hbV2.size; omega) (Nat.le_refl _) hown' hgrow
      have hrowN := Row.push (F := W.heap.size) hrow2 hli2 hnd hlo (fun b hb => hli.lt b hb) hB.size oI oP ndd gee _ hgrow hv2 (by decide) (by decide) (by decide) hr3
      have hc4 := hv1.cell
      have fc4 := hv1.frozen
      refine hK _ _ ?_
      clear hK K
      refine wpAnyIn_ready (rs := [5]) (by kernel_rfl) (by simp) ?_
      refine AllReadyIn.cons rfl (fun K hK => ?_) AllReadyIn.nil
      go_simp
      refine hK _ _ ?_
      clear hK K
      refine wpAnyIn_done (by kernel_rfl) ?_ _
      gi_wp2
      refine ⟨(below_keeps hbV2).trans (hk3.from _), (hbV2.mono hB.size).trans hb3, ⟨_, hv3, ?_⟩, hB.trans ((hbV2.mono hB.size).trans hb3)⟩
      rw [List.map_append, ← hl, List.map_cons, List.map_nil, ← HTA.out]
      exact hrowN
 case done =>
  rintro D ys W hD hys ⟨⟨v, hv, hr⟩, hb⟩ hk
  have hc := hv.cell
  gi_wp2
  refine ⟨by simp, .inl ⟨_, _, rfl, run_takeDeferred hk, ?_⟩⟩
  have hne : ∀ (o' : Obj) (b : Nat) (o : Obj), W.heap[b]? = some o → o.isCells = true → (W.putObj D o').heap[b]? = W.heap[b]? := fun o' b o ho hc => (grownBy_putObj' W D o').block b (Array.getElem?_eq_some_iff.1 ho).1 (fun e => by
   cases e
   rw [hk] at ho; cases ho; cases hc)
  have hr2 := fun (o' : Obj) => hr.keep (w' := W.putObj D o') fun b hb => by
   rcases hb with ⟨cs, cur, h⟩ | h
   ·exact hne _ _ _ h rfl
   ·obtain ⟨o, ho, hc⟩ := h.cells
    exact hne _ _ _ ho hc
  refine ⟨_, results_tmp rfl _ _ _, v, rfl, ?_, hb.trans (belowK_b (w := w) (Nat.le_refl _) W D _ _ (by omega) hk rfl rfl)⟩
  have e : (ys.map fun t => t.1.a) = zs.map ActT.a := by rw [← hys, List.map_map]; rfl
  rw [← e]
  exact hr2 (.deferred none)
 case stop =>
  rintro D c pre W _ _ h _
  exact h.elim
theorem copyActs_any (gf : Nat) (lb : Array Value) (K : ActT → Prop) (zs : List ActT) (N : Nat) (w : World) (eg : ∀ args w, (callFunc gf args).run Tryz.prog w = .ok (.enter gf args) w)
  (hs : SeqStopsK Fence.wide 5 Tryz.prog gf lb (fun t : {t : ActT // K t} => #[t.1.val]) (Below w.heap.size) (fun ys => ys.map Subtype.val = zs) (fun pre => pre.map Subtype.val <+: zs) N w)
  (hK : ∀ t, K t → t.Reads w ∧ t.a.Small) (hN : N ≤ 1048576) :
  Calls Tryz.prog 118 #[.func (.func gf) #[] lb] w fun e w' => ∃ v bs, e = .returned v ∧ OwnL w' v (zs.map ActT.a) bs ∧ (∀ b ∈ bs, w.heap.size ≤ b) ∧ Below w.heap.size w w' := by
 exact (copyActs_row gf lb K zs N w eg hs hK hN).mono fun e w' ⟨v, he, hr, hb⟩ => by
  obtain ⟨bs, ho, hge⟩ := hr.own
  exact ⟨v, bs, he, ho, hge, hb⟩
end Go.Proofs.YtghgiefciijoeaaGreatDoor
