/- The reference's l3own. -/
import Derived.Test.YtcgncaiehdcooaaCD
namespace Go.Proofs.Ytcgncaiehdcooaa
open Go.RowKit
set_option linter.unusedVariables false

theorem own_else {w : World} {K lo size n : Nat} {v : Value} {xs : List Value} (h : w.ownsRow K 26 size v n xs) : Elsewhere w lo v.ownBlock := by
  intro g e
  refine .inr ?_
  obtain ⟨a, c, rfl⟩ := row_shape h
  rcases h.2 with ⟨h', _⟩ | ⟨g', cap, cur, h', hbg, hg, r⟩
  · simp only [Value.slice.injEq] at h'
    obtain ⟨rfl, _⟩ := h'
    simp [Value.ownBlock] at e
  · simp only [Value.slice.injEq] at h'
    obtain ⟨rfl, _⟩ := h'
    simp only [Value.ownBlock, Option.some.injEq] at e
    subst e
    exact ⟨cur, _, hg⟩
theorem OwnT.snoc {W w2 : World} {lo : Nat} {v v2 : Value} {ts : List ActT} {t : ActT} (h : OwnT W lo v ts) (ht : t.Owns W lo) (ho : w2.ownsRow lo 26 11 v2 (ts.length + 1) (va ts ++ t.cells)) (hg : W.grownBy w2 v.ownBlock) : OwnT w2 lo v2 (ts ++ [t]) := by
  have he := own_else (lo := lo) h.1
  refine ⟨?_, fun x hx => ?_⟩
  · have e : va (ts ++ [t]) = va ts ++ t.cells := by simp [va]
    rw [e]
    simpa using ho
  · rcases List.mem_append.1 hx with hx | hx
    · exact (h.2 x hx).else_ hg he
    · simp only [List.mem_singleton] at hx
      subst hx
      exact ht.else_ hg he
theorem src_new {w : World} (t : ActT) (e : TypeId) : Src (w.alloc (.cells #[.int .i64 t.a.r, .int .i64 t.a.n, t.vd, .int .i64 t.a.actor, .int .i64 t.a.kind, .int .i64 t.a.to, .int .i64 t.a.bucket, .int .i64 t.a.mask, .int .i64 t.a.gr, .int .i64 t.a.gn, t.vs] e)) 11 (.slice (some ⟨w.heap.size, 0, none⟩) 1 1) 1 t.cells :=
  .inr ⟨_, _, rfl, rfl, fun j u hu => by
    rw [add_flat, Nat.zero_add, (Blk.new w _ e).cell j]
    exact hu⟩
theorem OwnT.alloc {w : World} {lo : Nat} {v : Value} {ts : List ActT} (h : OwnT w lo v ts) (o : Obj) : OwnT (w.alloc o) lo v ts := h.below ((Below.refl _ _).alloc (Nat.le_refl _) _)
theorem ActT.Owns.alloc {w : World} {lo : Nat} {t : ActT} (h : t.Owns w lo) (o : Obj) : t.Owns (w.alloc o) lo := h.below ((Below.refl _ _).alloc (Nat.le_refl _) _)
theorem cells_one {w : World} {t : ActT} (h : t.Reads w) : ∀ u ∈ t.cells, u.oneCell' = true := by
  have := va_one (ts := [t]) (fun x hx => by simp only [List.mem_singleton] at hx; subst hx; exact ⟨ints_one h.1, ups_one h.2⟩)
  simpa [va] using this

/-- a list of acts with rows of its own -/
def OwnedL (w : World) (l : List ActM) (e : Ending) (w' : World) : Prop := ∃ v, e = .returned v ∧ OwnActs w' w.heap.size v l ∧ Below w.heap.size w w'
theorem owned_block {w w2 W : World} {lo K size n : Nat} {v : Value} {xs : List Value} {e : TypeId} (hb : Below lo w W) (h : W.ownsRow K e size v n xs) (hg : W.grownBy w2 v.ownBlock) (hl : lo ≤ W.heap.size) (hk : lo ≤ K) : Below lo w w2 :=
  hb.grown hg hl fun g e' => by have := own_block_ge h g e'; omega

set_option maxRecDepth 100000 in
set_option maxHeartbeats 1600000 in
theorem l3own_some (b off cap len : Nat) (ts : List ActT) (w : World) (h1 : ts.length = len) (hl : len ≤ 1048576) (hb : b < w.heap.size) (hs : ∀ t ∈ ts, t.a.Small) (hr : ∀ t ∈ ts, t.Reads w)
    (hc : ∀ i, i < len → ActAt w b (off + i * 11) (ts.getD i t0)) :
    Calls Try.prog 80 #[.slice (some ⟨b, off, none⟩) len cap] w (OwnedL w (ts.map ActT.a)) := by
  obtain ⟨i2, hi, hz0, hz1, hz2⟩ := info_parts Try.infoAct
  have N1 := Lib.hid h1
  have HC := Lib.hid hc
  have HS := Lib.hid hs
  have HRd := Lib.hid hr
  clear h1 hc hs hr
  go_enter Try.func80, Try.ntmps80
  go_wp2
  go_loopw [3, 4] (fun sv i wr => ∃ (k : Nat) (us : List ActT) (v : Value), v = sv ∧ k ≤ len ∧ i = .int .i64 k ∧ Hid (us.length = k) ∧ Hid (us.map ActT.a = (ts.take k).map ActT.a) ∧ Hid (OwnT wr w.heap.size v us) ∧ Hid (Below w.heap.size w wr)) (fun _ i _ => len - (intOf i).toNat)
  case atStart => exact ⟨0, [], _, rfl, Nat.zero_le _, rfl, rfl, rfl, ⟨⟨rfl, .inl ⟨rfl, rfl⟩⟩, (by intro t ht; cases ht)⟩, Below.refl _ _⟩
  case round =>
    obtain ⟨k, us, v, hv, hk, rfl, hul, hua, ho, hbel⟩ := hrel
    subst hv
    by_cases hlt : k < len
    · have hm := getD_mem (ts := ts) (i := k) (by rw [N1.out]; exact hlt)
      have at_ := (HC.out k hlt).below hbel.out hb
      have HT := Lib.hid ((HRd.out _ hm).below hbel.out)
      have HSm := Lib.hid (HS.out _ hm)
      have htk := Lib.hid (show ts.take (k + 1) = ts.take k ++ [ts.getD k t0] by rw [List.take_succ_eq_append_getElem (by rw [N1.out]; exact hlt)]; simp [List.getD, N1.out, hlt])
      obtain ⟨t, ht⟩ : ∃ t, t = ts.getD k t0 := ⟨_, rfl⟩
      rw [← ht] at at_ HT HSm htk
      clear ht hm
      have CL := Lib.hid (l2own_any t wr HT.out HSm.out)
      have c0 := at_.c0
      have c1 := at_.c1
      have c2 := at_.c2
      have c3 := at_.c3
      have c4 := at_.c4
      have c5 := at_.c5
      have c6 := at_.c6
      have c7 := at_.c7
      have c8 := at_.c8
      have c9 := at_.c9
      have c10 := at_.c10
      clear at_
      go_wp2_with fail
      refine CL.out.mono ?_
      rintro e w1 ⟨t', hta, rfl, hown, b1⟩
      simp only [ActT.val]
      have O1 := Lib.hid (ho.out.below b1)
      have B1 := Lib.hid (hbel.out.trans (b1.mono hbel.out.size))
      have T1 := Lib.hid (hown.less hbel.out.size)
      have TA := Lib.hid hta
      clear b1 hown hta c0 c1 c2 c3 c4 c5 c6 c7 c8 c9 c10
      have O2 := Lib.hid (O1.out.alloc (.cells #[.int .i64 t'.a.r, .int .i64 t'.a.n, t'.vd, .int .i64 t'.a.actor, .int .i64 t'.a.kind, .int .i64 t'.a.to, .int .i64 t'.a.bucket, .int .i64 t'.a.mask, .int .i64 t'.a.gr, .int .i64 t'.a.gn, t'.vs] 26))
      have T2 := Lib.hid (T1.out.alloc (.cells #[.int .i64 t'.a.r, .int .i64 t'.a.n, t'.vd, .int .i64 t'.a.actor, .int .i64 t'.a.kind, .int .i64 t'.a.to, .int .i64 t'.a.bucket, .int .i64 t'.a.mask, .int .i64 t'.a.gr, .int .i64 t'.a.gn, t'.vs] 26))
      have B2 := Lib.hid (B1.out.alloc B1.out.size (.cells #[.int .i64 t'.a.r, .int .i64 t'.a.n, t'.vd, .int .i64 t'.a.actor, .int .i64 t'.a.kind, .int .i64 t'.a.to, .int .i64 t'.a.bucket, .int .i64 t'.a.mask, .int .i64 t'.a.gr, .int .i64 t'.a.gn, t'.vs] 26))
      have SR := Lib.hid (src_new (w := w1) t' 26)
      have CO := Lib.hid (cells_one T1.out.reads)
      have HM1 : Hid (us.length + 1 ≤ maxLen) := by have := hul.out; show _ ≤ _; unfold maxLen; omega
      have HM2 : Hid ((us.length + 1) * 120 ≤ 140737488355328) := by have := hul.out; show _ ≤ _; omega
      go_wp2_with (at_builtin; refine wpList_app rfl (.tmp 11) (.tmp 17) 45 rfl w.heap.size 26 i2 _ 11 120 Try.underlying45 hi hz0 hz1 hz2 rfl (by decide) v (.slice (some ⟨w1.heap.size, 0, none⟩) 1 1) us.length 1 (va us) t'.cells rfl rfl O2.out.1 SR.out CO.out HM1.out HM2.out B2.out.size ?_)
      intro v2 w2 hown2 hgrow2 _
      have O3 := Lib.hid (O2.out.snoc T2.out hown2 hgrow2)
      have B3 := Lib.hid (owned_block B2.out O2.out.1 hgrow2 B2.out.size (Nat.le_refl _))
      clear hown2 hgrow2
      go_wp2
      go_roundw
      case rel => exact ⟨k + 1, us ++ [t'], _, rfl, by omega, by go_num, (by show _ = _; simp [hul.out]), (by show _ = _; rw [htk.out]; simp only [List.map_append, List.map_cons, List.map_nil, hua.out, TA.out]), O3.out, B3.out⟩
      case measure => simp [intOf]; omega
    · have HL : Hid (us.map ActT.a = ts.map ActT.a) := by
        show _ = _
        rw [hua.out, List.take_of_length_le (by rw [N1.out]; omega)]
      go_wp2
      go_ret
      exact ⟨v, rfl, ⟨us, HL.out.symm, ho.out⟩, hbel.out⟩
theorem l3own_nil (a : Option Addr) (cap : Nat) (w : World) : Calls Try.prog 80 #[.slice a 0 cap] w (OwnedL w []) := by
  go_enter Try.func80, Try.ntmps80
  go_wp2
  go_loop [3, 4] (fun v i => v = .slice none 0 0 ∧ i = .int .i64 0) (fun _ _ => 0)
  case atStart => exact ⟨rfl, rfl⟩
  case round =>
    obtain ⟨rfl, rfl⟩ := hrel
    go_wp2
    go_ret
    exact ⟨_, rfl, ownActs_nil w _, Below.refl _ _⟩
def SmallL (l : List ActM) : Prop := l.length ≤ 1048576 ∧ ∀ a ∈ l, a.Small
theorem l3own_any (v : Value) (l : List ActM) (w : World) (h : Acts w v l) (hs : SmallL l) : Calls Try.prog 80 #[v] w (OwnedL w l) := by
  obtain ⟨ts, rfl, ht⟩ := h
  obtain ⟨s1, s2⟩ := hs
  rcases ht.2 with ⟨a, cap, rfl, rfl⟩ | ⟨b, off, cap, rfl, h1, h2, h3, h4⟩
  · exact l3own_nil _ _ w
  · exact l3own_some b off cap _ ts w rfl (by simpa using s1) h1 (fun t hh => s2 _ (List.mem_map_of_mem hh)) ht.1 h4
end Go.Proofs.Ytcgncaiehdcooaa
