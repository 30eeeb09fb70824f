/- put: where an act is to stand; the program's closure, slices.IndexFunc. -/
import Derived.Test.YtjmefifdofgncaaUC
import Derived.Test.YtjmefifdofgncaaUD
import Derived.Test.YtjmefifdofgncaaLA
namespace Go.Proofs.Ytjmefifdofgncaa
open Go.RowKit
set_option linter.unusedVariables false
set_option linter.unusedSimpArgs false

set_option maxHeartbeats 1600000 in
theorem put1_any (C : Nat) (pr pn pactor pkind pdst pbucket pmask pgr pgn : Int) (pa qa : Option Addr) (pl pc ql qc : Nat) (p : ActM) (t : ActT) (w : World) (kC : Blk w C [.int .i64 pr, .int .i64 pn, .slice pa pl pc, .int .i64 pactor, .int .i64 pkind, .int .i64 pdst, .int .i64 pbucket, .int .i64 pmask, .int .i64 pgr, .int .i64 pgn, .slice qa ql qc]) (hp : ActIs w (.agg #[.int .i64 pr, .int .i64 pn, .slice pa pl pc, .int .i64 pactor, .int .i64 pkind, .int .i64 pdst, .int .i64 pbucket, .int .i64 pmask, .int .i64 pgr, .int .i64 pgn, .slice qa ql qc]) p) (ht : t.Reads w) :
    Calls Try.prog 131 #[t.val, .pointer (some ⟨C, 0, none⟩)] w fun e w' => e = .returned (.bool (aheadM p t.a)) ∧ Below w.heap.size w w' := by
  obtain ⟨X, hX⟩ : ∃ X, X = aheadM p t.a := ⟨_, rfl⟩
  have AH := Lib.hid (fun W (hW : Below w.heap.size w W) => implAhead_any (.agg #[.int .i64 pr, .int .i64 pn, .slice pa pl pc, .int .i64 pactor, .int .i64 pkind, .int .i64 pdst, .int .i64 pbucket, .int .i64 pmask, .int .i64 pgr, .int .i64 pgn, .slice qa ql qc]) t.val p t.a W (hp.below hW) (ht.below hW).is)
  rw [← hX] at AH ⊢
  obtain ⟨⟨r, nn, dep, actor, kind, dst, bucket, mask, gr, gn, ups⟩, vd, vs⟩ := t
  have hsd := ints_len ht.1
  have hsu := ups_len ht.2
  simp only at hsd hsu
  obtain ⟨da, dc, rfl⟩ := hsd
  obtain ⟨ua, uc, rfl⟩ := hsu
  simp only [ActT.val] at AH ⊢
  have b0 := (Below.refl w.heap.size w).alloc (Nat.le_refl _) (.cells #[.int .i64 r, .int .i64 nn, .slice da dep.length dc, .int .i64 actor, .int .i64 kind, .int .i64 dst, .int .i64 bucket, .int .i64 mask, .int .i64 gr, .int .i64 gn, .slice ua ups.length uc] 42)
  have kT := Blk.new w #[.int .i64 r, .int .i64 nn, .slice da dep.length dc, .int .i64 actor, .int .i64 kind, .int .i64 dst, .int .i64 bucket, .int .i64 mask, .int .i64 gr, .int .i64 gn, .slice ua ups.length uc] 42
  have kC1 := kC.below b0 kC.lt
  obtain ⟨Q, hQ⟩ : ∃ Q, Q = w.heap.size := ⟨_, rfl⟩
  clear hp ht hX kC
  go_enter Try.func131, Try.ntmps131
  go_upto_region 1 with (fail)
  rw [← hQ] at kT ⊢
  generalize w.alloc (.cells #[.int .i64 r, .int .i64 nn, .slice da dep.length dc, .int .i64 actor, .int .i64 kind, .int .i64 dst, .int .i64 bucket, .int .i64 mask, .int .i64 gr, .int .i64 gn, .slice ua ups.length uc] 42) = W0 at b0 kT kC1 ⊢
  clear hQ
  have a0 := kC1.cell 0
  have a1 := kC1.cell 1
  have a2 := kC1.cell 2
  have a3 := kC1.cell 3
  have a4 := kC1.cell 4
  have a5 := kC1.cell 5
  have a6 := kC1.cell 6
  have a7 := kC1.cell 7
  have a8 := kC1.cell 8
  have a9 := kC1.cell 9
  have a10 := kC1.cell 10
  simp only [List.getElem?_cons_zero, List.getElem?_cons_succ] at a0 a1 a2 a3 a4 a5 a6 a7 a8 a9 a10
  have c0 := kT.cell 0
  have c1 := kT.cell 1
  have c2 := kT.cell 2
  have c3 := kT.cell 3
  have c4 := kT.cell 4
  have c5 := kT.cell 5
  have c6 := kT.cell 6
  have c7 := kT.cell 7
  have c8 := kT.cell 8
  have c9 := kT.cell 9
  have c10 := kT.cell 10
  simp only [List.getElem?_cons_zero, List.getElem?_cons_succ] at c0 c1 c2 c3 c4 c5 c6 c7 c8 c9 c10
  clear kT kC1
  go_wp2_with fail
  refine (AH.out W0 b0).mono ?_
  rintro e w2 ⟨rfl, b2⟩
  go_wp2_with fail
  go_ret
  exact ⟨rfl, b0.trans (b2.mono b0.size)⟩

/-- the first place, from number i on, at which an act stands that p is ahead of; -1: there is none -/
def idxF (p : ActM) : List ActM → Nat → Int
  | [], _ => -1
  | b :: l, i => if aheadM p b = true then i else idxF p l (i + 1)
theorem idxF_find (p : ActM) : ∀ (l : List ActM) (i : Nat), idxF p l i = if l.findIdx (fun b => aheadM p b) < l.length then ((i + l.findIdx (fun b => aheadM p b) : Nat) : Int) else -1
  | [], i => by simp [idxF]
  | b :: l, i => by
    rw [idxF, List.findIdx_cons]
    cases h : aheadM p b
    · simp only [cond_false, List.length_cons, Nat.add_lt_add_iff_right, Bool.false_eq_true, if_false]
      rw [idxF_find p l (i + 1)]
      split
      · congr 1; omega
      · rfl
    · simp

set_option maxRecDepth 100000 in
set_option maxHeartbeats 3200000 in
theorem idxFunc_some (b off cap len C : Nat) (pr pn pactor pkind pdst pbucket pmask pgr pgn : Int) (pa qa : Option Addr) (pl pc ql qc : Nat) (p : ActM) (ts : List ActT) (w : World) (h1 : ts.length = len) (hl : len ≤ 1048576) (hb : b < w.heap.size) (hr : ∀ t ∈ ts, t.Reads w) (hc : ∀ i, i < len → ActAt w b (off + i * 11) (ts.getD i t0))
    (kC : Blk w C [.int .i64 pr, .int .i64 pn, .slice pa pl pc, .int .i64 pactor, .int .i64 pkind, .int .i64 pdst, .int .i64 pbucket, .int .i64 pmask, .int .i64 pgr, .int .i64 pgn, .slice qa ql qc]) (hp : ActIs w (.agg #[.int .i64 pr, .int .i64 pn, .slice pa pl pc, .int .i64 pactor, .int .i64 pkind, .int .i64 pdst, .int .i64 pbucket, .int .i64 pmask, .int .i64 pgr, .int .i64 pgn, .slice qa ql qc]) p) :
    Calls Try.prog 130 #[.slice (some ⟨b, off, none⟩) len cap, .func (.func 131) #[] #[.pointer (some ⟨C, 0, none⟩)]] w fun e w' => e = .returned (.int .i64 (idxF p (ts.map ActT.a) 0)) ∧ Below w.heap.size w w' := by
  obtain ⟨R, hR⟩ : ∃ R, R = idxF p (ts.map ActT.a) 0 := ⟨_, rfl⟩
  rw [← hR]
  have HR := Lib.hid hR
  have N1 := Lib.hid h1
  have HC := Lib.hid hc
  have HRd := Lib.hid hr
  have KC := Lib.hid kC
  have PU := Lib.hid (fun (t : ActT) (W : World) (hW : Below w.heap.size w W) (h : t.Reads W) => put1_any C pr pn pactor pkind pdst pbucket pmask pgr pgn pa qa pl pc ql qc p t W (kC.below hW kC.lt) (hp.below hW) h)
  clear hR h1 hc hr kC hp
  go_enter Try.func130, Try.ntmps130
  go_wp2
  go_loopw [8] (fun i wr => ∃ k : Nat, k ≤ len ∧ i = .int .i64 k ∧ Hid (R = idxF p ((ts.map ActT.a).drop k) k) ∧ Hid (Below w.heap.size w wr)) (fun i _ => len - (intOf i).toNat)
  case atStart => exact ⟨0, Nat.zero_le _, rfl, HR.out, Below.refl _ _⟩
  case round =>
    obtain ⟨k, hk, rfl, hg, hbel⟩ := hrel
    by_cases hlt : k < len
    · have hlt2 : k < ts.length := by rw [N1.out]; exact hlt
      have AT := (HC.out k hlt).below hbel.out hb
      have HT := Lib.hid ((HRd.out _ (getD_mem hlt2)).below hbel.out)
      have hst := hg.out
      rw [drop_ts hlt2, idxF] at hst
      obtain ⟨t, htt⟩ : ∃ t, t = ts.getD k t0 := ⟨_, rfl⟩
      rw [← htt] at AT HT hst
      have PT := Lib.hid (PU.out t wr hbel.out HT.out)
      obtain ⟨X, hX⟩ : ∃ X, X = aheadM p t.a := ⟨_, rfl⟩
      rw [← hX] at PT hst
      have HST := Lib.hid hst
      clear htt hst hX hg
      obtain ⟨⟨r, nn, dep, actor, kind, dst, bucket, mask, gr, gn, ups⟩, vd, vs⟩ := t
      have hsd := ints_len HT.out.1
      have hsu := ups_len HT.out.2
      simp only at hsd hsu
      obtain ⟨da, dc, rfl⟩ := hsd
      obtain ⟨ua, uc, rfl⟩ := hsu
      simp only [ActT.val] at PT
      have c0 := AT.c0
      have c1 := AT.c1
      have c2 := AT.c2
      have c3 := AT.c3
      have c4 := AT.c4
      have c5 := AT.c5
      have c6 := AT.c6
      have c7 := AT.c7
      have c8 := AT.c8
      have c9 := AT.c9
      have c10 := AT.c10
      simp only at c0 c1 c2 c3 c4 c5 c6 c7 c8 c9 c10
      clear AT
      go_wp2_with fail
      refine PT.out.mono ?_
      rintro e w2 ⟨rfl, b2⟩
      have B2 := Lib.hid (hbel.out.trans (b2.mono hbel.out.size))
      clear b2 c0 c1 c2 c3 c4 c5 c6 c7 c8 c9 c10
      cases X
      · have HRT := Lib.hid (show R = idxF p ((ts.map ActT.a).drop (k + 1)) (k + 1) by rw [HST.out]; rfl)
        go_wp2_with fail
        go_roundw
        case rel => exact ⟨k + 1, by omega, by go_num, HRT.out, B2.out⟩
        case measure => simp [intOf]; omega
      · have HRT := Lib.hid (show R = (k : Int) by rw [HST.out]; rfl)
        go_wp2_with fail
        go_ret
        exact ⟨ret_int HRT.out.symm, B2.out⟩
    · have HRT := Lib.hid (show R = -1 by rw [hg.out, drop_end (by rw [List.length_map, N1.out]; omega)]; rfl)
      go_wp2_with fail
      go_ret
      exact ⟨ret_int HRT.out.symm, hbel.out⟩
theorem idxFunc_any (v : Value) (C : Nat) (pr pn pactor pkind pdst pbucket pmask pgr pgn : Int) (pa qa : Option Addr) (pl pc ql qc : Nat) (p : ActM) (ts : List ActT) (w : World) (h : ActsT w v ts) (hl : ts.length ≤ 1048576) (kC : Blk w C [.int .i64 pr, .int .i64 pn, .slice pa pl pc, .int .i64 pactor, .int .i64 pkind, .int .i64 pdst, .int .i64 pbucket, .int .i64 pmask, .int .i64 pgr, .int .i64 pgn, .slice qa ql qc]) (hp : ActIs w (.agg #[.int .i64 pr, .int .i64 pn, .slice pa pl pc, .int .i64 pactor, .int .i64 pkind, .int .i64 pdst, .int .i64 pbucket, .int .i64 pmask, .int .i64 pgr, .int .i64 pgn, .slice qa ql qc]) p) :
    Calls Try.prog 130 #[v, .func (.func 131) #[] #[.pointer (some ⟨C, 0, none⟩)]] w fun e w' => e = .returned (.int .i64 (idxF p (ts.map ActT.a) 0)) ∧ Below w.heap.size w w' := by
  rcases h.2 with ⟨a, cap, rfl, rfl⟩ | ⟨b, off, cap, rfl, q1, q2, q3, q4⟩
  · go_enter Try.func130, Try.ntmps130
    go_wp2
    go_loop [8] (fun i => i = .int .i64 0) (fun _ => 0)
    case atStart => exact rfl
    case round =>
      obtain rfl := hrel
      go_wp2
      go_ret
      exact ⟨rfl, Below.refl _ _⟩
  · exact idxFunc_some b off cap _ C pr pn pactor pkind pdst pbucket pmask pgr pgn pa qa pl pc ql qc p ts w rfl hl q1 h.1 q4 kC hp

/-- slices.Insert of one act into a row of one's own -/
theorem insert_any (lo B n i : Nat) (v : Value) (ts : List ActT) (t : ActT) (w : World) (hn : ts.length = n) (hi : i ≤ n) (hmx : n ≤ 1048576) (hlo : lo ≤ w.heap.size) (ho : w.ownsRow lo 42 11 v n (va ts))
    (hB : w.heap[B]? = some (.cells t.cells.toArray 42 (0, 0))) (hBv : v.ownBlock ≠ some B) (h1 : ∀ u ∈ va ts, u.oneCell' = true) (h2 : ∀ u ∈ t.cells, u.oneCell' = true) :
    Calls Try.prog 133 #[v, .int .i64 i, .slice (some ⟨B, 0, none⟩) 1 1] w fun e w' =>
      ∃ v', e = .returned v' ∧ w'.ownsRow lo 42 11 v' (n + 1) (va (ts.take i ++ t :: ts.drop i)) ∧ w.grownBy w' v.ownBlock := by
  by_cases he : i = n
  · subst he
    rw [show ts.take i ++ t :: ts.drop i = ts ++ [t] by rw [← hn, List.take_length, List.drop_length]]
    exact insert_end lo B i v ts t w hn hmx hlo ho hB h2
  · obtain ⟨hl, hv⟩ := ho
    rcases hv with ⟨rfl, rfl⟩ | ⟨g, cap, cur, rfl, hg, hh, hnc, hcm, hcs, hct⟩
    · omega
    · have hBg : B ≠ g := fun e => hBv (by rw [e]; rfl)
      by_cases hr : n + 1 ≤ cap
      · exact (insert_room lo g B n cap i cur ts t w hn (by omega) hr hcm hg hh hcs hct hB hBg h1 h2).mono fun e w' ⟨v, he, _, h3, h4⟩ => ⟨v, he, h3, h4⟩
      · exact insert_grow lo g B n cap i cur ts t w hn (by omega) hnc (by omega) hmx hlo hh hcs hct hB h1 h2
theorem Lists.split {w : World} : ∀ {t1 t2 : List ActT} {bs : List Nat}, Lists w (t1 ++ t2) bs → ∃ b1 b2, bs = b1 ++ b2 ∧ Lists w t1 b1 ∧ Lists w t2 b2
  | [], t2, bs, h => ⟨[], bs, rfl, rfl, h⟩
  | t :: t1, t2, bs, ⟨ds, us, rest, e, h1, h2, h3⟩ => by
    obtain ⟨b1, b2, rfl, h4, h5⟩ := Lists.split h3
    exact ⟨ds ++ us ++ b1, b2, by rw [e]; simp, ⟨ds, us, b1, rfl, h1, h2, h4⟩, h5⟩
theorem Lists.join {w : World} : ∀ {t1 t2 : List ActT} {b1 b2 : List Nat}, Lists w t1 b1 → Lists w t2 b2 → Lists w (t1 ++ t2) (b1 ++ b2)
  | [], t2, b1, b2, h, k => by have : b1 = [] := h; subst this; exact k
  | t :: t1, t2, b1, b2, ⟨ds, us, rest, e, h1, h2, h3⟩, k => ⟨ds, us, rest ++ b2, by rw [e]; simp, h1, h2, Lists.join h3 k⟩
end Go.Proofs.Ytjmefifdofgncaa
