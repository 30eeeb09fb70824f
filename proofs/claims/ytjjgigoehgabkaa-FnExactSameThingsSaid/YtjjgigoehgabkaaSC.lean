/- A list of things copied; like lists are told alike. -/
import Derived.Test.YtjjgigoehgabkaaSB
import Derived.Deep.DeepCutAuto
namespace Go.Proofs.Ytjjgigoehgabkaa
open Go.RowKit
set_option linter.unusedVariables false
set_option linter.unusedSimpArgs false

theorem Try.infoThing : (Try.prog.info? 130).map (fun i => (i.zero, i.size, i.bytes)) = some (some (.agg #[.int .i64 0, .int .i64 0, .bool false, .int .i64 0, .int .i64 0, .slice none 0 0]), 6, 64) := by kernel_rfl
def mt (l : List ThingT) : List Value := l.flatMap ThingT.cells
theorem mt_cons (x : ThingT) (l : List ThingT) : mt (x :: l) = .int .i64 x.a.bucket :: .int .i64 x.a.key :: .bool x.a.has :: .int .i64 x.a.reg :: .int .i64 x.a.count :: x.v :: mt l := rfl
theorem mt_length (l : List ThingT) : (mt l).length = l.length * 6 := by
  induction l with
  | nil => rfl
  | cons u l ih => rw [mt_cons]; simp only [List.length_cons]; omega
theorem mt_at (l : List ThingT) (i j : Nat) (h : i < l.length) (hj : j < 6) : (mt l)[i * 6 + j]? = (l.getD i tt0).cells[j]? := by
  induction l generalizing i with
  | nil => simp at h
  | cons u l ih =>
    cases i with
    | zero =>
      have e : (mt (u :: l)) = u.cells ++ mt l := rfl
      rw [e, Nat.zero_mul, Nat.zero_add, List.getElem?_append_left (by simpa [ThingT.cells] using hj)]
      rfl
    | succ i =>
      have := ih i (by simpa using h)
      simp only [List.getD_cons_succ]
      have e : (mt (u :: l)) = u.cells ++ mt l := rfl
      rw [e, List.getElem?_append_right (by simp [ThingT.cells]; omega), ← this]
      congr 1
      simp [ThingT.cells]; omega
theorem mt_zero (n : Nat) : madeCells (Value.agg #[.int .i64 0, .int .i64 0, .bool false, .int .i64 0, .int .i64 0, .slice none 0 0]).cells (n * 6) = (mt (List.replicate n tt0)).toArray := by
  have e : ∀ i, i < n * 6 → (mt (List.replicate n tt0))[i]? = tt0.cells[i % 6]? := by
    intro i hi
    obtain ⟨q, r, rfl, hr⟩ : ∃ q r, i = q * 6 + r ∧ r < 6 := ⟨i / 6, i % 6, by omega, by omega⟩
    rw [mt_at _ q r (by simp; omega) hr]
    have hg : (List.replicate n tt0).getD q tt0 = tt0 := by simp [List.getD]; grind
    rw [hg, show (q * 6 + r) % 6 = r by omega]
  apply Array.ext
  · simp [size_madeCells, mt_length]
  · intro i h1 h2
    have hi : i < n * 6 := by simpa [size_madeCells] using h1
    have h3 := e i hi
    simp only [List.getElem_toArray]
    have h4 : i < (mt (List.replicate n tt0)).length := by simpa using h2
    rw [List.getElem?_eq_getElem h4] at h3
    have : i % 6 < 6 := Nat.mod_lt _ (by omega)
    have h5 : tt0.cells[i % 6]? = some (tt0.cells[i % 6]'(by simpa [ThingT.cells] using this)) := List.getElem?_eq_getElem _
    rw [h5] at h3
    have h6 := Option.some.inj h3
    rw [h6]
    simp [madeCells, Value.cells]
    match h : i % 6, this with
    | 0, _ => rfl
    | 1, _ => rfl
    | 2, _ => rfl
    | 3, _ => rfl
    | 4, _ => rfl
    | 5, _ => rfl
    | k + 6, h => omega
theorem mt_set (l : List ThingT) (k : Nat) (u : ThingT) (h : k < l.length) :
    ((((((mt l).set (k * 6) (.int .i64 u.a.bucket)).set (k * 6 + 1) (.int .i64 u.a.key)).set (k * 6 + 2) (.bool u.a.has)).set (k * 6 + 3) (.int .i64 u.a.reg)).set (k * 6 + 4) (.int .i64 u.a.count)).set (k * 6 + 5) (u.v) = mt (l.set k u) := by
  induction l generalizing k with
  | nil => simp at h
  | cons x l ih =>
    cases k with
    | zero => rfl
    | succ k =>
      rw [List.set_cons_succ, mt_cons, mt_cons, ← ih k (by simpa using h), show (k + 1) * 6 = k * 6 + 6 from by omega]
      rfl
theorem thing_step (us : List ThingT) (k n : Nat) (t : ThingT) (hn : us.length = k) (hk : k < n) : (us ++ List.replicate (n - k) tt0).set k t = (us ++ [t]) ++ List.replicate (n - (k + 1)) tt0 := by
  obtain ⟨m, hm⟩ : ∃ m, n - k = m + 1 := ⟨n - k - 1, by omega⟩
  rw [hm, show n - (k + 1) = m by omega, List.replicate_succ, List.set_append, if_neg (by omega), hn, Nat.sub_self, List.set_cons_zero, List.append_assoc]
  rfl
/-- a copy's items lie in blocks of their own behind Q -/
def Behind (w : World) (Q : Nat) (u : ThingT) : Prop := ∃ bs, OwnI w bs u.v u.a.items ∧ ∀ b ∈ bs, Q < b
theorem Behind.below {w w' : World} {Q : Nat} {u : ThingT} (h : Behind w Q u) (hb : Below w.heap.size w w') : Behind w' Q u := by
  obtain ⟨bs, h1, h2⟩ := h
  exact ⟨bs, h1.below hb, h2⟩
theorem Behind.set {w : World} {Q : Nat} {u : ThingT} (h : Behind w Q u) (o : Nat) (v : Value) : Behind (w.setCell ⟨Q, o, none⟩ v) Q u := by
  obtain ⟨bs, h1, h2⟩ := h
  exact ⟨bs, h1.setCell h2 o v, h2⟩
theorem things_blk {w : World} {Q n : Nat} {us : List ThingT} (hn : us.length = n) (hm : n ≤ 1048576) (hQ : Blk w Q (mt us)) (hb : ∀ u ∈ us, Behind w Q u) : ThingsT w (.slice (some ⟨Q, 0, none⟩) n n) us := by
  refine ⟨fun u hu => by obtain ⟨bs, h1, _⟩ := hb u hu; exact h1.ints, .inr ⟨Q, 0, n, by rw [hn], hQ.lt, by omega, by unfold maxLen; omega, fun i hi => ?_⟩⟩
  have key : ∀ j, j < 6 → w.cell? ⟨Q, 0 + i * 6 + j, none⟩ = (us.getD i tt0).cells[j]? := fun j hj => by
    rw [Nat.zero_add, hQ.cell (i * 6 + j)]
    exact mt_at us i j hi hj
  exact ⟨key 0 (by omega), key 1 (by omega), key 2 (by omega), key 3 (by omega), key 4 (by omega), key 5 (by omega)⟩
def MadeT (w : World) (l : List ThingM) (e : Ending) (w' : World) : Prop := ∃ v, e = .returned v ∧ Things w' v l ∧ Below w.heap.size w w'
set_option maxRecDepth 100000 in
set_option maxHeartbeats 12800000 in
theorem toTS_some (b off cap len : Nat) (ts : List ThingT) (w : World) (h1 : ts.length = len) (hs : SmallT ts) (hb : b < w.heap.size) (hr : ∀ t ∈ ts, Ints w t.v t.a.items) (hc : ∀ i, i < len → ThingAt w b (off + i * 6) (ts.getD i tt0)) :
    Calls Try.prog 56 #[.slice (some ⟨b, off, none⟩) len cap] w (MadeT w (ts.map ThingT.a)) := by
  have hl : len ≤ 1048576 := by rw [← h1]; exact hs.1
  have N1 := Lib.hid h1
  have HC := Lib.hid hc
  have HRd := Lib.hid hr
  have HS := Lib.hid hs
  have b00 := Lib.hid hb
  have hmk : ∀ W, (Instr.makeSlice 63 (.int .i64 (len : Int)) (.int .i64 (len : Int))).run Try.prog W = .ok (.slice (some ⟨W.heap.size, 0, none⟩) len len) (W.alloc (.cells (mt (List.replicate len tt0)).toArray 130)) := by
    intro W
    obtain ⟨i0, hi, hz0, hz1, hz2⟩ := info_parts Try.infoThing
    have h := run_make (P := Try.prog) W 63 130 i0 (.agg #[.int .i64 0, .int .i64 0, .bool false, .int .i64 0, .int .i64 0, .slice none 0 0]) Try.underlying63 hi hz0 .i64 .i64 len len (by omega) (by omega) (by rw [hz2]; omega) (by omega)
    rw [hz1] at h
    simp only [Int.toNat_natCast] at h
    rw [mt_zero] at h
    exact h
  obtain ⟨ZZ, hZZ⟩ : ∃ x, x = (mt (List.replicate len tt0)).toArray := ⟨_, rfl⟩
  rw [← hZZ] at hmk
  have ba := (Below.refl w.heap.size w).alloc (Nat.le_refl _) (.cells ZZ 130)
  have kq := Blk.new w ZZ 130
  have hzl : ZZ.toList = mt ([] ++ List.replicate (len - 0) tt0) := by rw [hZZ]; simp
  rw [hzl] at kq
  obtain ⟨Q, hQ⟩ : ∃ Q, Q = w.heap.size := ⟨_, rfl⟩
  rw [← hQ] at kq
  clear h1 hc hr hs hb hZZ hzl
  go_enter Try.func56, Try.ntmps56
  go_upto_region 2 with (fail)
  rw [← hQ]
  obtain ⟨w1, hw1⟩ : ∃ W, W = w.alloc (.cells ZZ 130) := ⟨_, rfl⟩
  rw [← hw1] at ba kq ⊢
  have KQ := Lib.hid kq
  have BW := Lib.hid ba
  have GQ := Lib.hid (show w.heap.size ≤ Q by omega)
  clear ba kq hw1 hQ hmk
  go_wp2_with fail
  go_loopw [4] (fun i wr => ∃ (k : Nat) (us : List ThingT), k ≤ len ∧ i = .int .i64 k ∧ us.length = k ∧ Hid (us.map ThingT.a = (ts.map ThingT.a).take k) ∧ Hid (∀ u ∈ us, Behind wr Q u) ∧ Hid (Blk wr Q (mt (us ++ List.replicate (len - k) tt0))) ∧ Hid (Below w.heap.size w wr)) (fun i _ => len - (intOf i).toNat)
  case atStart => exact ⟨0, [], Nat.zero_le _, rfl, rfl, rfl, (fun u hu => by cases hu), KQ.out, BW.out⟩
  case round =>
    obtain ⟨k, us, hk, rfl, hul, hus, hbe, hkq, hbel⟩ := hrel
    clear BW KQ
    have BW := hbel
    have KQ := hkq
    have HBE := hbe
    clear hbel hkq hbe
    by_cases hlt : k < len
    · have hlt2 : k < ts.length := by rw [N1.out]; exact hlt
      have hm := tgetD_mem hlt2
      have AT := Lib.hid ((HC.out k hlt).below BW.out b00.out)
      have HI := Lib.hid ((HRd.out _ hm).below (B := 0) BW.out)
      have HTK : Hid ((ts.map ThingT.a).take (k + 1) = (ts.map ThingT.a).take k ++ [(ts.getD k tt0).a]) := by
        show _ = _
        rw [List.take_succ_eq_append_getElem (by simpa using hlt2)]
        simp [List.getD, hlt2]
      have SM := Lib.hid (HS.out.2 _ hm)
      obtain ⟨t, htt⟩ : ∃ t, t = ts.getD k tt0 := ⟨_, rfl⟩
      rw [← htt] at AT HI HTK SM
      have TC := Lib.hid (fun W (h : Ints W t.v t.a.items) => toT_any t.a.bucket t.a.key t.a.reg t.a.count t.a.has t.v t.a.items W h SM.out)
      clear htt hm SM
      obtain ⟨⟨bu, ke, ha, re, co, items⟩, tv⟩ := t
      have hsi := ints_len HI.out
      simp only at hsi
      obtain ⟨ia, ic, rfl⟩ := hsi
      try simp only [ThingT.val] at TC
      obtain ⟨il, hil⟩ : ∃ x, x = items.length := ⟨_, rfl⟩
      try rw [← hil] at HI
      try rw [← hil] at AT
      try rw [← hil] at HTK
      try rw [← hil] at TC
      have HIL := Lib.hid hil
      clear hil
      try simp only at TC HTK
      have c0 := AT.out.c0
      have c1 := AT.out.c1
      have c2 := AT.out.c2
      have c3 := AT.out.c3
      have c4 := AT.out.c4
      have c5 := AT.out.c5
      simp only at c0 c1 c2 c3 c4 c5
      have i0 : (0 : Int) ≤ (k : Int) := by omega
      have i1 : (k : Int) < (len : Int) := by omega
      clear AT
      go_wp2_with fail
      refine (TC.out _ HI.out).mono ?_
      rintro e w2 ⟨u, bs, rfl, o2, g2, b2⟩
      clear c0 c1 c2 c3 c4 c5
      obtain ⟨ua, uc, hu⟩ := ints_len o2.ints
      subst hu
      have LQ := Lib.hid KQ.out.lt
      have fq := KQ.out.free
      have kq2 := KQ.out.below b2 KQ.out.lt
      have fq2 := kq2.free
      have hlen2 : (us ++ List.replicate (len - k) tt0).length = len := by rw [List.length_append, List.length_replicate]; omega
      have hmt : (mt (us ++ List.replicate (len - k) tt0)).length = len * 6 := by rw [mt_length, hlen2]
      obtain ⟨u, hu⟩ : ∃ x : ThingT, x = ⟨⟨bu, ke, ha, re, co, items⟩, .slice ua items.length uc⟩ := ⟨_, rfl⟩
      have B2 := Lib.hid (BW.out.trans (b2.mono BW.out.size))
      have BE2 := Lib.hid (fun x (hx : x ∈ us) => (HBE.out x hx).below b2)
      have BU2 : Hid (Behind w2 Q u) := Lib.hid ⟨bs, by rw [hu]; exact o2, fun b hb => Nat.lt_of_lt_of_le LQ.out (g2 b hb)⟩
      have ks := (((((kq2.set (j := k * 6) (by rw [hmt]; omega) (.int .i64 u.a.bucket)).set (j := k * 6 + 1) (by simp only [List.length_set]; rw [hmt]; omega) (.int .i64 u.a.key)).set (j := k * 6 + 2) (by simp only [List.length_set]; rw [hmt]; omega) (.bool u.a.has)).set (j := k * 6 + 3) (by simp only [List.length_set]; rw [hmt]; omega) (.int .i64 u.a.reg)).set (j := k * 6 + 4) (by simp only [List.length_set]; rw [hmt]; omega) (.int .i64 u.a.count)).set (j := k * 6 + 5) (by simp only [List.length_set]; rw [hmt]; omega) u.v
      rw [mt_set _ _ _ (by omega), thing_step us k len u hul hlt] at ks
      have KS := Lib.hid ks
      have HU := Lib.hid hu
      simp only [hu] at KS
      have cs : ∀ j, j < 6 → ∃ x, w2.cell? ⟨Q, k * 6 + j, none⟩ = some x := fun j hj => ⟨_, by rw [kq2.cell (k * 6 + j), List.getElem?_eq_getElem (by rw [hmt]; omega)]⟩
      obtain ⟨x0, cx0⟩ := cs 0 (by omega)
      obtain ⟨x1, cx1⟩ := cs 1 (by omega)
      obtain ⟨x2, cx2⟩ := cs 2 (by omega)
      obtain ⟨x3, cx3⟩ := cs 3 (by omega)
      obtain ⟨x4, cx4⟩ := cs 4 (by omega)
      obtain ⟨x5, cx5⟩ := cs 5 (by omega)
      rw [Nat.add_zero] at cx0
      have HUS : Hid ((us ++ [u]).map ThingT.a = (ts.map ThingT.a).take (k + 1)) := by
        show _ = _
        rw [HTK.out, List.map_append, hus.out, hu]
        rfl
      clear ks cs kq2 fq hu hlen2 hmt o2 g2 b2 HBE KQ BW TC HI
      go_wp2_with fail
      have hu2 := HU.out
      subst hu2
      go_roundw
      case rel =>
        refine ⟨k + 1, us ++ [_], by omega, by go_num, by simp; omega, HUS.out, fun x hx => ?_, KS.out, ?_⟩
        · rcases List.mem_append.1 hx with h | h
          · exact ((((((BE2.out x h).set _ _).set _ _).set _ _).set _ _).set _ _).set _ _
          · rw [List.mem_singleton.1 h]
            exact (((((BU2.out.set _ _).set _ _).set _ _).set _ _).set _ _).set _ _
        · exact (((((B2.out.setCell GQ.out _).setCell GQ.out _).setCell GQ.out _).setCell GQ.out _).setCell GQ.out _).setCell GQ.out _
      case measure => simp [intOf]; omega
    · have hkl : k = len := by omega
      have hl2 : us.length = len := by omega
      have hmu : us.map ThingT.a = ts.map ThingT.a := by
        rw [hus.out, List.take_of_length_le (by rw [List.length_map, N1.out]; omega)]
      have hq2 := KQ.out
      rw [hkl, Nat.sub_self, List.replicate_zero, List.append_nil] at hq2
      have TH := Lib.hid (things_blk hl2 hl hq2 HBE.out)
      have HMU := Lib.hid hmu
      clear hmu hq2 hl2 hkl
      go_wp2_with fail
      go_ret
      exact ⟨_, rfl, ⟨us, HMU.out.symm, TH.out⟩, BW.out⟩
theorem toTS_any (v : Value) (ts : List ThingT) (w : World) (h : ThingsT w v ts) (hs : SmallT ts) : Calls Try.prog 56 #[v] w (MadeT w (ts.map ThingT.a)) := by
  rcases h.2 with ⟨a, cap, rfl, rfl⟩ | ⟨b, off, cap, rfl, q1, q2, q3, q4⟩
  · have hmk : ∀ W, (Instr.makeSlice 63 (.int .i64 0) (.int .i64 0)).run Try.prog W = .ok (.slice (some ⟨W.heap.size, 0, none⟩) 0 0) (W.alloc (.cells #[] 130)) := by
      intro W
      obtain ⟨i0, hi, hz0, hz1, hz2⟩ := info_parts Try.infoThing
      have h := run_make (P := Try.prog) W 63 130 i0 (.agg #[.int .i64 0, .int .i64 0, .bool false, .int .i64 0, .int .i64 0, .slice none 0 0]) Try.underlying63 hi hz0 .i64 .i64 0 0 (by omega) (by omega) (by rw [hz2]; omega) (by omega)
      rw [hz1] at h
      simp only [Int.toNat_zero] at h
      rw [mt_zero] at h
      exact h
    have BA := Lib.hid ((Below.refl w.heap.size w).alloc (Nat.le_refl _) (.cells #[] 130))
    go_enter Try.func56, Try.ntmps56
    go_wp2_with fail
    go_loop [4] (fun i => i = .int .i64 0) (fun _ => 0)
    case atStart => exact rfl
    case round =>
      obtain rfl := hrel
      go_wp2
      go_ret
      exact ⟨_, rfl, ⟨[], rfl, ⟨(fun t ht => by cases ht), .inl ⟨_, _, rfl, rfl⟩⟩⟩, BA.out⟩
  · exact toTS_some b off cap _ ts w rfl hs q1 h.1 q4
end Go.Proofs.Ytjjgigoehgabkaa
