/- The reference's Union: the model. The reference's Union: the walk. The reference's Union, at all lists. -/
import Derived.Test.YtjjgigoehgabkaaMN
import Derived.Test.YtjjgigoehgabkaaAJ
namespace Go.Proofs.Ytjjgigoehgabkaa
open Go.RowKit
set_option linter.unusedVariables false

def unionFrom (out : List ActM) : List ActM → Option (List ActM)
  | [] => some out
  | a :: rest =>
    if 0 ≤ findM out a.r a.n then (if sameM (out.getD (findM out a.r a.n).toNat act0) a = true then unionFrom out rest else none) else unionFrom (putM out a) rest
/-- the model of Union -/
def unionM (l m : List ActM) (n : Int) : Option (List ActM) :=
  if setOkM l n = true ∧ setOkM m n = true then (match unionFrom l m with | some out => if setOkM out n = true then some out else none | none => none) else none
theorem putJ_le (l : List ActM) (a : ActM) (j : Nat) : putJ l a j ≤ j := by
  induction j with
  | zero => simp [putJ]
  | succ j ih => rw [putJ]; split <;> omega
theorem putM_length (l : List ActM) (a : ActM) : (putM l a).length = l.length + 1 := by
  have := putJ_le l a l.length
  simp only [putM, List.length_append, List.length_take, List.length_cons, List.length_drop]
  omega
theorem findFrom_range (r n : Int) (l : List ActM) (i : Nat) (h : 0 ≤ findFrom r n l i) : i ≤ (findFrom r n l i).toNat ∧ (findFrom r n l i).toNat < i + l.length := by
  induction l generalizing i with
  | nil => simp [findFrom] at h
  | cons a l ih =>
    rw [findFrom] at h ⊢
    split at h
    · rename_i hx; rw [if_pos hx]; simp
    · rename_i hx; rw [if_neg hx]
      have := ih (i + 1) h
      simp only [List.length_cons]
      omega
theorem find_range (l : List ActM) (r n : Int) (h : 0 ≤ findM l r n) : (findM l r n).toNat < l.length := by
  have := findFrom_range r n l 0 h
  unfold findM
  omega
end Go.Proofs.Ytjjgigoehgabkaa
namespace Go.Proofs.Ytjjgigoehgabkaa
open Go.RowKit
set_option linter.unusedVariables false

/-- the acts of a slice, where there are any -/
theorem actsT_at {w : World} {a : Option Addr} {len cap : Nat} {ts : List ActT} (h : ActsT w (.slice a len cap) ts) (hp : 0 < len) : len = ts.length ∧ ∃ b off, a = some ⟨b, off, none⟩ ∧ b < w.heap.size ∧ ∀ i, i < len → ActAt w b (off + i * 11) (ts.getD i t0) := by
  rcases h.2 with ⟨a', cap', h', rfl⟩ | ⟨b, off, cap', h', h1, h2, h3, h4⟩
  · simp only [Value.slice.injEq] at h'; omega
  · simp only [Value.slice.injEq] at h'
    obtain ⟨rfl, rfl, rfl⟩ := h'
    exact ⟨rfl, b, off, rfl, h1, h4⟩

def doneM (n : Int) (o : Option (List ActM)) : Option (List ActM) := match o with | some out => if setOkM out n = true then some out else none | none => none
theorem union_eq {l m : List ActM} {n : Int} (h1 : setOkM l n = true) (h2 : setOkM m n = true) : unionM l m n = doneM n (unionFrom l m) := by rw [unionM, if_pos ⟨h1, h2⟩]; rfl

set_option maxRecDepth 100000 in
set_option maxHeartbeats 6400000 in
theorem union_walk (v : Value) (l : List ActM) (x : Option Addr) (len cap : Nat) (ts : List ActT) (n : Int) (w : World) (h : Acts w v l) (hm : ActsT w (.slice x len cap) ts) (hl : ts.length = len) (hn : -9223372036854775808 ≤ n ∧ n ≤ 9223372036854775807)
    (h1 : setOkM l n = true) (h2 : setOkM (ts.map ActT.a) n = true) :
    Calls Try.prog 38 #[v, .slice x len cap, .int .i64 n] w (Added w (unionM l (ts.map ActT.a) n)) := by
  have HA := Lib.hid h
  have HM := Lib.hid hm
  have N1 := Lib.hid hl
  have H1 := Lib.hid h1
  have H2 := Lib.hid h2
  have SM := Lib.hid (setOk_small h1)
  have L1 : l.length ≤ 60 := (setOk_all h1).2.2.1
  have L2 : len ≤ 60 := by have := (setOk_all h2).2.2.1; rw [List.length_map] at this; omega
  have SA := Lib.hid (fun t (ht : t ∈ ts) => ok_small ((setOk_all h2).2.2.2 t.a (List.mem_map_of_mem ht)))
  obtain ⟨O, hO⟩ : ∃ O, O = unionFrom l (ts.map ActT.a) := ⟨_, rfl⟩
  have hU : unionM l (ts.map ActT.a) n = doneM n O := by rw [union_eq h1 h2, hO]
  obtain ⟨U, hUU⟩ : ∃ U, U = unionM l (ts.map ActT.a) n := ⟨_, rfl⟩
  rw [← hUU] at hU ⊢
  have HU := Lib.hid hU
  have HO := Lib.hid hO
  clear h hm hl h1 h2 hO hU hUU
  have SO := Lib.hid (fun W v l h => setOk_any v l n W h hn)
  go_enter Try.func38, Try.ntmps38
  go_wp2_with fail
  refine (SO.out _ v l HA.out).mono ?_
  rintro e w1 ⟨rfl, b1⟩
  rw [H1.out]
  have B1 := Lib.hid b1
  clear b1
  go_wp2_with fail
  refine (SO.out _ _ _ ⟨ts, rfl, HM.out.below B1.out⟩).mono ?_
  rintro e w2 ⟨rfl, b2⟩
  rw [H2.out]
  have B2 := Lib.hid (B1.out.trans (b2.mono B1.out.size))
  clear b2
  go_wp2_with fail
  refine (l3own_any v l _ (HA.out.below B2.out) SM.out).mono ?_
  rintro e w3 ⟨v3, rfl, o3, b3⟩
  have B3 := Lib.hid (B2.out.trans (b3.mono B2.out.size))
  have O3 := Lib.hid (o3.less B2.out.size)
  clear b3 o3
  go_wp2_with fail
  go_loopw [8, 9] (fun sv i wr => ∃ (k : Nat) (us : List ActM) (u : Value), u = sv ∧ k ≤ len ∧ i = .int .i64 k ∧ us.length ≤ 60 + k ∧ Hid (O = unionFrom us ((ts.map ActT.a).drop k)) ∧ Hid (OwnActs wr w.heap.size u us) ∧ Hid (Below w.heap.size w wr)) (fun _ i _ => len - (intOf i).toNat)
  case atStart => exact ⟨0, l, _, rfl, Nat.zero_le _, rfl, L1, HO.out, O3.out, B3.out⟩
  case round =>
    obtain ⟨k, us, u, hu, hk, rfl, hul, hg, ho, hbel⟩ := hrel
    subst hu
    clear O3 B3 B2 B1
    obtain ⟨ua, uc, rfl⟩ := acts_len (ownActs_acts ho.out)
    by_cases hlt : k < len
    · obtain ⟨hz, b, off, rfl, hb, hc⟩ := actsT_at HM.out (by omega)
      clear hz
      have hm := getD_mem (ts := ts) (i := k) (by rw [N1.out]; exact hlt)
      have AT := Lib.hid ((hc k hlt).below hbel.out hb)
      have HT := Lib.hid ((HM.out.1 _ hm).below hbel.out)
      have SMt := Lib.hid (SA.out _ hm)
      have hst := hg.out
      rw [drop_ts (by rw [N1.out]; exact hlt), unionFrom] at hst
      obtain ⟨t, htt⟩ : ∃ t, t = ts.getD k t0 := ⟨_, rfl⟩
      rw [← htt] at AT HT SMt hst
      clear hc hm hg htt
      have FI := Lib.hid (fun q => find_any (.slice ua us.length uc) us t.a.r t.a.n (wr.drewN q) (acts_drewN (ownActs_acts ho.out) q))
      obtain ⟨f, hf⟩ : ∃ f, f = findM us t.a.r t.a.n := ⟨_, rfl⟩
      rw [← hf] at FI hst
      have HF := Lib.hid hf
      clear hf
      have i0 : (0 : Int) ≤ (k : Int) := by omega
      have i1 : (k : Int) < (len : Int) := by omega
      have c0 := AT.out.c0
      have c1 := AT.out.c1
      have c2 := AT.out.c2
      have c3 := AT.out.c3
      have c4 := AT.out.c4
      have c5 := AT.out.c5
      have c6 := AT.out.c6
      have c7 := AT.out.c7
      have c8 := AT.out.c8
      have c9 := AT.out.c9
      have c10 := AT.out.c10
      by_cases hf0 : 0 ≤ f
      · rw [if_pos hf0] at hst
        have hfr := find_range us t.a.r t.a.n (by rw [← HF.out]; exact hf0)
        rw [← HF.out] at hfr
        obtain ⟨fk, rfl⟩ := Int.eq_ofNat_of_zero_le hf0
        simp only [Int.toNat_natCast] at hfr hst
        obtain ⟨us', hus, hot⟩ := ho.out
        have hat := ownT_acts hot
        obtain ⟨hul2, b2, off2, rfl, hb2, hc2⟩ := actsT_at hat (by omega)
        have hm2 := getD_mem (ts := us') (i := fk) (by omega)
        have AT2 := Lib.hid (hc2 fk hfr)
        have HT2 := Lib.hid (hat.1 _ hm2)
        have hga : us.getD fk act0 = (us'.getD fk t0).a := by rw [hus, getD_map (by omega)]
        simp only [hga] at hst
        obtain ⟨t2, htt⟩ : ∃ t2, t2 = us'.getD fk t0 := ⟨_, rfl⟩
        rw [← htt] at AT2 HT2 hst
        clear hm2 htt hc2 hat hot hga hus
        have SM2 := Lib.hid (fun W (h1 : t2.Reads W) (h2 : t.Reads W) => specSame_any t2.val t.val t2.a t.a W h1.is h2.is)
        simp only [ActT.val] at SM2
        have e1 : decide (0 ≤ (fk : Int)) = true := by simp
        have e2 : decide ((fk : Int) < 0) = false := by simp
        have i2 : (0 : Int) ≤ (fk : Int) := by omega
        have i3 : (fk : Int) < (us.length : Int) := by omega
        have d0 := AT2.out.c0
        have d1 := AT2.out.c1
        have d2 := AT2.out.c2
        have d3 := AT2.out.c3
        have d4 := AT2.out.c4
        have d5 := AT2.out.c5
        have d6 := AT2.out.c6
        have d7 := AT2.out.c7
        have d8 := AT2.out.c8
        have d9 := AT2.out.c9
        have d10 := AT2.out.c10
        clear hul2
        cases hS : sameM t2.a t.a
        · have HN := Lib.hid (show U = none by rw [HU.out, hst, hS]; rfl)
          have HSm := Lib.hid hS
          clear hst hS
          go_wp2_with fail
          go_quiet ((go_at_call 91; exact Calls.quiet_of_same (FI.out _)))
          go_wp2_with fail
          refine wp_region_still_tail 11 (by kernel_rfl) (by kernel_rfl) ?_
          simp only [List.take_succ_cons, List.take_zero, List.drop_succ_cons, List.drop_zero]
          change wpStill _ _ (wr.drewN nq).drew _ _ _
          repeat still_step
          refine wpStill_nil ?_
          change wpList _ _ _ _ _ (wr.drewN nq).drew
          have D5 : Hid (Below wr.heap.size wr (wr.drewN nq).drew) := (below_drewN (Below.refl _ _) nq).drew
          generalize (wr.drewN nq).drew = W5 at D5 ⊢
          go_wp2_with fail
          refine (SM2.out _ (HT2.out.below D5.out) (HT.out.below D5.out)).mono ?_
          rintro e w6 ⟨rfl, b6⟩
          rw [HSm.out]
          have D6 := Lib.hid (D5.out.trans (b6.mono D5.out.size))
          have O6 := Lib.hid (ho.out.below D6.out)
          clear b6
          go_wp2_with fail
          go_ret2
          exact .inl ⟨HN.out, rfl, hbel.out.trans (D6.out.mono hbel.out.size)⟩
        · have HST := Lib.hid (show O = unionFrom us ((ts.map ActT.a).drop (k + 1)) by rw [hst, hS]; rfl)
          have HSm := Lib.hid hS
          clear hst hS
          go_wp2_with fail
          go_quiet ((go_at_call 91; exact Calls.quiet_of_same (FI.out _)))
          go_wp2_with fail
          refine wp_region_still_tail 11 (by kernel_rfl) (by kernel_rfl) ?_
          simp only [List.take_succ_cons, List.take_zero, List.drop_succ_cons, List.drop_zero]
          change wpStill _ _ (wr.drewN nq).drew _ _ _
          repeat still_step
          refine wpStill_nil ?_
          change wpList _ _ _ _ _ (wr.drewN nq).drew
          have D5 : Hid (Below wr.heap.size wr (wr.drewN nq).drew) := (below_drewN (Below.refl _ _) nq).drew
          generalize (wr.drewN nq).drew = W5 at D5 ⊢
          go_wp2_with fail
          refine (SM2.out _ (HT2.out.below D5.out) (HT.out.below D5.out)).mono ?_
          rintro e w6 ⟨rfl, b6⟩
          rw [HSm.out]
          have D6 := Lib.hid (D5.out.trans (b6.mono D5.out.size))
          have O6 := Lib.hid (ho.out.below D6.out)
          clear b6
          go_wp2_with fail
          go_roundw
          case rel =>
            exact ⟨k + 1, us, _, rfl, by omega, by go_num, by omega, HST.out, O6.out, hbel.out.trans (D6.out.mono hbel.out.size)⟩
          case measure => simp [intOf]; omega
      · rw [if_neg hf0] at hst
        have HST := Lib.hid hst
        have e1 : decide (0 ≤ f) = false := by simp; omega
        have e2 : decide (f < 0) = true := by simp; omega
        clear hst
        go_wp2_with fail
        go_quiet ((go_at_call 91; exact Calls.quiet_of_same (FI.out _)))
        go_wp2_with fail
        go_quiet (fail)
        obtain ⟨us', hus, hot⟩ := ho.out
        have PU := Lib.hid (fun W (hB : Below wr.heap.size wr W) => l3put_any w.heap.size (.slice ua us.length uc) us' t W (hot.below hB) (Nat.le_trans hbel.out.size hB.size) (HT.out.below hB) SMt.out (by have := congrArg List.length hus; simp at this; omega))
        rw [← hus] at PU
        clear hus hot
        go_wp2_with fail
        simp only [ActT.val] at PU
        refine (PU.out _ (below_drewN (Below.refl _ _) _)).mono ?_
        rintro e w4 ⟨v4, rfl, o4, b4⟩
        have O4 := Lib.hid o4
        have B4 := Lib.hid ((below_drewN hbel.out _).trans (b4.mono hbel.out.size))
        clear b4 o4
        go_wp2_with fail
        go_roundw
        case rel =>
          exact ⟨k + 1, _, _, rfl, by omega, by go_num, by rw [putM_length]; omega, HST.out, O4.out, B4.out⟩
        case measure => simp [intOf]; omega
    · have HO2 := Lib.hid (show O = some us by rw [hg.out, drop_end (by simp; rw [N1.out]; omega)]; rfl)
      have SE := Lib.hid (fun W h => SO.out W (.slice ua us.length uc) us h)
      cases hS : setOkM us n
      · have HN := Lib.hid (show U = none by rw [HU.out, HO2.out, doneM]; simp [hS])
        have HSm := Lib.hid hS
        clear hS hg
        go_wp2_with fail
        refine (SE.out _ (ownActs_acts ho.out)).mono ?_
        rintro e w6 ⟨rfl, b6⟩
        rw [HSm.out]
        have D6 := Lib.hid (hbel.out.trans (b6.mono hbel.out.size))
        clear b6
        go_wp2_with fail
        go_ret2
        exact .inl ⟨HN.out, rfl, D6.out⟩
      · have HN := Lib.hid (show U = some us by rw [HU.out, HO2.out, doneM]; simp [hS])
        have HSm := Lib.hid hS
        clear hS hg
        go_wp2_with fail
        refine (SE.out _ (ownActs_acts ho.out)).mono ?_
        rintro e w6 ⟨rfl, b6⟩
        rw [HSm.out]
        have D6 := Lib.hid (hbel.out.trans (b6.mono hbel.out.size))
        have O6 := Lib.hid (ho.out.below b6)
        clear b6
        go_wp2_with fail
        go_ret2
        exact .inr ⟨_, HN.out, _, rfl, O6.out, D6.out⟩
end Go.Proofs.Ytjjgigoehgabkaa
namespace Go.Proofs.Ytjjgigoehgabkaa
open Go.RowKit
set_option linter.unusedVariables false

set_option maxRecDepth 100000 in
set_option maxHeartbeats 1600000 in
theorem union_any (v v' : Value) (l m : List ActM) (n : Int) (w : World) (h : Acts w v l) (h' : Acts w v' m) (hn : -9223372036854775808 ≤ n ∧ n ≤ 9223372036854775807) :
    Calls Try.prog 38 #[v, v', .int .i64 n] w (Added w (unionM l m n)) := by
  cases h1 : setOkM l n
  · have HN := Lib.hid (show unionM l m n = none by rw [unionM, h1]; simp)
    have SO := Lib.hid (setOk_any v l n w h hn)
    rw [h1] at SO
    clear h1 h h'
    go_enter Try.func38, Try.ntmps38
    go_wp2_with fail
    refine SO.out.mono ?_
    rintro e w1 ⟨rfl, b1⟩
    have B1 := Lib.hid b1
    clear b1
    go_wp2_with fail
    go_ret2
    exact .inl ⟨HN.out, rfl, B1.out⟩
  · cases h2 : setOkM m n
    · have HN := Lib.hid (show unionM l m n = none by rw [unionM, h2]; simp)
      have SO := Lib.hid (setOk_any v l n w h hn)
      have SO2 := Lib.hid (fun W (hb : Below w.heap.size w W) => setOk_any v' m n W (h'.below hb) hn)
      rw [h1] at SO
      rw [h2] at SO2
      clear h1 h2 h h'
      go_enter Try.func38, Try.ntmps38
      go_wp2_with fail
      refine SO.out.mono ?_
      rintro e w1 ⟨rfl, b1⟩
      have B1 := Lib.hid b1
      clear b1
      go_wp2_with fail
      refine (SO2.out _ B1.out).mono ?_
      rintro e w2 ⟨rfl, b2⟩
      have B2 := Lib.hid (B1.out.trans (b2.mono B1.out.size))
      clear b2
      go_wp2_with fail
      go_ret2
      exact .inl ⟨HN.out, rfl, B2.out⟩
    · obtain ⟨ts, rfl, ht⟩ := h'
      obtain ⟨x, cap, rfl⟩ := actsT_len ht
      exact union_walk v l x _ cap ts n w h ht rfl hn h1 h2
end Go.Proofs.Ytjjgigoehgabkaa
