/- The reference's l3part, Part, Lacks. -/
import Derived.Test.YtjmefifdofgncaaKD
import Derived.Test.YtjmefifdofgncaaMN
import Derived.Test.YtjmefifdofgncaaMF
import Derived.BigQuiet
import Derived.Deep.QuietTactic
namespace Go.Proofs.Ytjmefifdofgncaa
open Go.RowKit
set_option linter.unusedVariables false

set_option maxRecDepth 100000 in
set_option maxHeartbeats 3200000 in
theorem l3part_some (b off cap len vb vo vc m : Nat) (ts : List ActT) (xs : List Int) (bb : Bool) (w : World) (h1 : ts.length = len) (hl : len ≤ 1048576) (hb : b < w.heap.size) (hs : ∀ t ∈ ts, t.a.Small)
    (hr : ∀ t ∈ ts, t.Reads w ∧ 0 ≤ t.a.r ∧ t.a.r < m) (hc : ∀ i, i < len → ActAt w b (off + i * 11) (ts.getD i t0)) (hm4 : m ≤ 4) (hvb : vb < w.heap.size) (hvc : ∀ i, i < m → w.cell? ⟨vb, vo + i, none⟩ = some (.int .i64 (xs.getD i 0))) :
    Calls Try.prog 95 #[.slice (some ⟨b, off, none⟩) len cap, .slice (some ⟨vb, vo, none⟩) m vc, .bool bb] w (OwnedL w (partM (ts.map ActT.a) xs bb)) := by
  obtain ⟨i2, hi, hz0, hz1, hz2⟩ := info_parts Try.infoAct
  have N1 := Lib.hid h1
  have HC := Lib.hid hc
  have HS := Lib.hid hs
  have HRd := Lib.hid hr
  have HV := Lib.hid hvc
  clear h1 hc hs hr hvc
  go_enter Try.func95, Try.ntmps95
  go_wp2
  go_loopw [7, 8] (fun sv i wr => ∃ (k : Nat) (us : List ActT) (v : Value), v = sv ∧ k ≤ len ∧ i = .int .i64 k ∧ Hid (us.length ≤ k) ∧ Hid (us.map ActT.a = partM ((ts.take k).map ActT.a) xs bb) ∧ Hid (OwnT wr w.heap.size v us) ∧ Hid (Below w.heap.size w wr)) (fun _ i _ => len - (intOf i).toNat)
  case atStart => exact ⟨0, [], _, rfl, Nat.zero_le _, rfl, Nat.le_refl _, rfl, ⟨⟨rfl, .inl ⟨rfl, rfl⟩⟩, (by intro t ht; cases ht)⟩, Below.refl _ _⟩
  case round =>
    obtain ⟨k, us, v, hv, hk, rfl, hul, hua, ho, hbel⟩ := hrel
    subst hv
    by_cases hlt : k < len
    · have hm := getD_mem (ts := ts) (i := k) (by rw [N1.out]; exact hlt)
      have at_ := (HC.out k hlt).below hbel.out hb
      obtain ⟨hr0, hr1, hr2⟩ := HRd.out _ hm
      have HT := Lib.hid (hr0.below hbel.out)
      have HSm := Lib.hid (HS.out _ hm)
      have htk := Lib.hid (show (ts.take (k + 1)).map ActT.a = (ts.take k).map ActT.a ++ [(ts.getD k t0).a] by rw [show ts.take (k + 1) = ts.take k ++ [ts.getD k t0] by rw [List.take_succ_eq_append_getElem (by rw [N1.out]; exact hlt)]; simp [List.getD, N1.out, hlt], List.map_append]; rfl)
      obtain ⟨t, ht⟩ : ∃ t, t = ts.getD k t0 := ⟨_, rfl⟩
      rw [← ht] at at_ HT HSm htk hr1 hr2
      clear ht hm hr0
      have CL := Lib.hid (fun W (h : t.Reads W) => l2own_any t W h HSm.out)
      obtain ⟨⟨r, nn, dep, actor, kind, dst, bucket, mask, gr, gn, ups⟩, vd, vs⟩ := t
      simp only [ActT.val] at CL
      simp only at hr1 hr2
      obtain ⟨q, rfl⟩ : ∃ q : Nat, r = (q : Int) := ⟨r.toNat, by omega⟩
      have hq : q < m := by omega
      have hv0 := (hbel.out.cell (p := ⟨vb, vo + q, none⟩) hvb).trans (HV.out q hq)
      obtain ⟨y, hy⟩ : ∃ y, y = xs.getD q 0 := ⟨_, rfl⟩
      rw [← hy] at hv0
      have HST := Lib.hid (show partM ((ts.take (k + 1)).map ActT.a) xs bb = partM ((ts.take k).map ActT.a) xs bb ++ (if (decide (nn ≤ y) == bb) = true then [(⟨(q : Int), nn, dep, actor, kind, dst, bucket, mask, gr, gn, ups⟩ : ActM)] else []) by rw [htk.out, partM_snoc, hy]; rfl)
      clear hy
      have c0 := at_.c0
      have c1 := at_.c1
      have c2 := at_.c2
      have c3 := at_.c3
      have c4 := at_.c4
      have c5 := at_.c5
      have c6 := at_.c6
      have c7 := at_.c7
      have c8 := at_.c8
      have c9 := at_.c9
      have c10 := at_.c10
      simp only at c0 c1 c2 c3 c4 c5 c6 c7 c8 c9 c10
      clear at_
      have j0 : (0 : Int) ≤ k := by omega
      have j1 : (k : Int) < len := by omega
      have j2 : (0 : Int) ≤ q := by omega
      have j3 : (q : Int) < m := by omega
      obtain ⟨X, hX⟩ : ∃ X, decide (nn ≤ y) = X := ⟨_, rfl⟩
      rw [hX] at HST
      by_cases hXb : X = bb
      · subst hXb
        cases X
        all_goals
          go_wp2
          go_quiet (fail)
          have bq := below_drewN (Below.refl wr.heap.size wr) nq
          have HT1 := Lib.hid (HT.out.below bq)
          have B1 := Lib.hid (hbel.out.trans (bq.mono hbel.out.size))
          have O1 := Lib.hid (ho.out.below bq)
          clear bq
          go_wp2_with fail
          refine (CL.out _ HT1.out).mono ?_
          rintro e w1 ⟨t', hta, rfl, hown, b1⟩
          simp only [ActT.val]
          have O2 := Lib.hid (O1.out.below b1)
          have B2 := Lib.hid (B1.out.trans (b1.mono B1.out.size))
          have T2 := Lib.hid (hown.less B1.out.size)
          have TA := Lib.hid hta
          clear b1 hown hta c0 c1 c2 c3 c4 c5 c6 c7 c8 c9 c10 hv0
          have O3 := Lib.hid (O2.out.alloc (.cells #[.int .i64 t'.a.r, .int .i64 t'.a.n, t'.vd, .int .i64 t'.a.actor, .int .i64 t'.a.kind, .int .i64 t'.a.to, .int .i64 t'.a.bucket, .int .i64 t'.a.mask, .int .i64 t'.a.gr, .int .i64 t'.a.gn, t'.vs] 42))
          have T3 := Lib.hid (T2.out.alloc (.cells #[.int .i64 t'.a.r, .int .i64 t'.a.n, t'.vd, .int .i64 t'.a.actor, .int .i64 t'.a.kind, .int .i64 t'.a.to, .int .i64 t'.a.bucket, .int .i64 t'.a.mask, .int .i64 t'.a.gr, .int .i64 t'.a.gn, t'.vs] 42))
          have B3 := Lib.hid (B2.out.alloc B2.out.size (.cells #[.int .i64 t'.a.r, .int .i64 t'.a.n, t'.vd, .int .i64 t'.a.actor, .int .i64 t'.a.kind, .int .i64 t'.a.to, .int .i64 t'.a.bucket, .int .i64 t'.a.mask, .int .i64 t'.a.gr, .int .i64 t'.a.gn, t'.vs] 42))
          have SR := Lib.hid (src_new (w := w1) t' 42)
          have CO := Lib.hid (cells_one T2.out.reads)
          have HM1 : Hid (us.length + 1 ≤ maxLen) := by have := hul.out; show _ ≤ _; unfold maxLen; omega
          have HM2 : Hid ((us.length + 1) * 120 ≤ 140737488355328) := by have := hul.out; show _ ≤ _; omega
          go_wp2_with (at_builtin; refine wpList_app rfl (.tmp 31) (.tmp 37) 25 rfl w.heap.size 42 i2 _ 11 120 Try.underlying25 hi hz0 hz1 hz2 rfl (by decide) v (.slice (some ⟨w1.heap.size, 0, none⟩) 1 1) us.length 1 (va us) t'.cells rfl rfl O3.out.1 SR.out CO.out HM1.out HM2.out B3.out.size ?_)
          intro v2 w2 hown2 hgrow2 _
          have O4 := Lib.hid (O3.out.snoc T3.out hown2 hgrow2)
          have B4 := Lib.hid (owned_block B3.out O3.out.1 hgrow2 B3.out.size (Nat.le_refl _))
          clear hown2 hgrow2
          go_wp2
          go_roundw
          case rel => exact ⟨k + 1, us ++ [t'], _, rfl, by omega, by go_num, (by have := hul.out; show _ ≤ _; simp; omega), (by show _ = _; rw [HST.out]; simp [hua.out, TA.out]), O4.out, B4.out⟩
          case measure => simp [intOf]; omega
      · cases X <;> cases bb <;> first | exact absurd rfl hXb | skip
        all_goals
          go_wp2
          go_quiet (fail)
          have bq := below_drewN (Below.refl wr.heap.size wr) nq
          have B1 := Lib.hid (hbel.out.trans (bq.mono hbel.out.size))
          have O1 := Lib.hid (ho.out.below bq)
          clear bq c0 c1 c2 c3 c4 c5 c6 c7 c8 c9 c10 hv0
          go_wp2
          go_roundw
          case rel => exact ⟨k + 1, us, _, rfl, by omega, by go_num, (by have := hul.out; show _ ≤ _; omega), (by show _ = _; rw [HST.out]; simp [hua.out]), O1.out, B1.out⟩
          case measure => simp [intOf]; omega
    · have HL : Hid (us.map ActT.a = partM (ts.map ActT.a) xs bb) := by
        show _ = _
        rw [hua.out, List.take_of_length_le (by rw [N1.out]; omega)]
      go_wp2
      go_ret
      exact ⟨v, rfl, ⟨us, HL.out.symm, ho.out⟩, hbel.out⟩
end Go.Proofs.Ytjmefifdofgncaa
