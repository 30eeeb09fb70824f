/- Touched at every list: the reference's, the program's. -/
import Derived.Test.YtjmefifdofgncaaTB
namespace Go.Proofs.Ytjmefifdofgncaa
open Go.RowKit
set_option linter.unusedVariables false

set_option maxRecDepth 100000 in
set_option maxHeartbeats 3200000 in
theorem touched_nil (a : Option Addr) (cap : Nat) (mp : Value) (q x0 x1 x2 x3 : Int) (pv : Value) (p : ActM) (w : World) (hp : ActIs w pv p) :
    Calls Try.prog 100 #[.agg #[.slice a 0 cap, mp, .int .i64 q, .int .i64 x0, .int .i64 x1, .int .i64 x2, .int .i64 x3], pv] w (RetI w []) := by
  obtain ⟨pa, pc, qa, qc, hpv⟩ := act_shape hp
  subst hpv
  have b0 := Lib.hid (((Below.refl w.heap.size w).alloc (Nat.le_refl _) (.cells #[.slice a 0 cap, mp, .int .i64 q, .int .i64 x0, .int .i64 x1, .int .i64 x2, .int .i64 x3] 93)).alloc (by simp) (.cells #[.int .i64 p.r, .int .i64 p.n, .slice pa p.dep.length pc, .int .i64 p.actor, .int .i64 p.kind, .int .i64 p.to, .int .i64 p.bucket, .int .i64 p.mask, .int .i64 p.gr, .int .i64 p.gn, .slice qa p.ups.length qc] 42))
  clear hp
  go_enter Try.func100, Try.ntmps100
  go_wp2
  go_loop [5, 11] (fun sv i => sv = .slice none 0 0 ∧ i = .int .i64 0) (fun _ _ => 0)
  case atStart => exact ⟨rfl, rfl⟩
  case round =>
    obtain ⟨rfl, rfl⟩ := hrel
    go_wp2
    go_ret
    exact ⟨_, [], rfl, .inl ⟨rfl, rfl, none, 0, rfl⟩, (fun b hb => nomatch hb), b0.out⟩

theorem touched_any (v : Value) (ts : List ActT) (mp : Value) (q x0 x1 x2 x3 : Int) (pv : Value) (p : ActM) (w : World) (h : ActsT w v ts) (hl : ts.length ≤ 60) (hp : ActIs w pv p) :
    Calls Try.prog 100 #[.agg #[v, mp, .int .i64 q, .int .i64 x0, .int .i64 x1, .int .i64 x2, .int .i64 x3], pv] w (RetI w (touchM p (ts.map ActT.a) 0)) := by
  rcases h.2 with ⟨a, cap, rfl, rfl⟩ | ⟨b, off, cap, rfl, q1, q2, q3, q4⟩
  · exact touched_nil a cap mp q x0 x1 x2 x3 pv p w hp
  · exact touched_some b off cap _ mp q x0 x1 x2 x3 ts pv p w rfl hl q1 h.1 q4 hp

set_option maxRecDepth 100000 in
set_option maxHeartbeats 3200000 in
theorem specTouched_any (v : Value) (l : List ActM) (n : Int) (pv : Value) (p : ActM) (w : World) (h : Acts w v l) (hp : ActIs w pv p) (hn : I64 n) :
    Calls Try.prog 49 #[v, .int .i64 n, pv] w (RetI w (touchedM l n p)) := by
  have hA := h
  obtain ⟨ts, rfl, ht⟩ := h
  have hm := actsT_max ht
  rcases ht.2 with ⟨a, cap, rfl, rfl⟩ | ⟨b, off, cap, rfl, q1, q2, q3, q4⟩
  · obtain ⟨pa, pc, qa, qc, hpv⟩ := act_shape hp
    subst hpv
    have b0 := (Below.refl w.heap.size w).alloc (Nat.le_refl _) (.cells #[.int .i64 p.r, .int .i64 p.n, .slice pa p.dep.length pc, .int .i64 p.actor, .int .i64 p.kind, .int .i64 p.to, .int .i64 p.bucket, .int .i64 p.mask, .int .i64 p.gr, .int .i64 p.gn, .slice qa p.ups.length qc] 42)
    have SK := Lib.hid (setOk_any _ _ n _ (hA.below b0) hn)
    have B0 := Lib.hid b0
    have HE := Lib.hid (show touchedM (([] : List ActT).map ActT.a) n p = [] by unfold touchedM; split <;> rfl)
    generalize setOkM (([] : List ActT).map ActT.a) n = G at SK
    rw [HE.out]
    clear hp hA ht b0
    go_enter Try.func49, Try.ntmps49
    go_wp2_with fail
    refine SK.out.mono ?_
    rintro e w1 ⟨rfl, b1⟩
    have B1 := Lib.hid (B0.out.trans (b1.mono B0.out.size))
    clear b1
    cases G
    · go_wp2_with fail
      go_ret
      exact ⟨_, [], rfl, .inl ⟨rfl, rfl, none, 0, rfl⟩, (fun b hb => nomatch hb), B1.out⟩
    · go_wp2_with fail
      go_loop [7, 8] (fun sv i => sv = .slice none 0 0 ∧ i = .int .i64 0) (fun _ _ => 0)
      case atStart => exact ⟨rfl, rfl⟩
      case round =>
        obtain ⟨rfl, rfl⟩ := hrel
        go_wp2
        go_ret
        exact ⟨_, [], rfl, .inl ⟨rfl, rfl, none, 0, rfl⟩, (fun b hb => nomatch hb), B1.out⟩
  · exact specTouched_some b off cap _ n ts pv p w rfl hm q1 ht.1 q4 hA hp hn

set_option maxRecDepth 100000 in
set_option maxHeartbeats 3200000 in
theorem implTouched_any (v : Value) (l : List ActM) (n : Int) (pv : Value) (p : ActM) (w : World) (h : Acts w v l) (hp : ActIs w pv p) (hn : I64 n) :
    Calls Try.prog 50 #[v, .int .i64 n, pv] w (RetI w (touchedM l n p)) := by
  obtain ⟨ts, rfl, ht⟩ := h
  obtain ⟨a, cap, rfl⟩ := actsT_len ht
  obtain ⟨pa, pc, qa, qc, hpv⟩ := act_shape hp
  have RS := Lib.hid (fun W (hW : Below w.heap.size w W) => readSet_any (.slice a ts.length cap) ts n W (ht.below hW) hn)
  have TT := Lib.hid (fun W (hW : Below w.heap.size w W) (hl : ts.length ≤ 60) mp q x0 x1 x2 x3 => touched_any (.slice a ts.length cap) ts mp q x0 x1 x2 x3 pv p W (ht.below hW) hl (hp.below hW))
  have TN := Lib.hid (fun W (hW : Below w.heap.size w W) mp q x0 x1 x2 x3 => touched_nil none 0 mp q x0 x1 x2 x3 pv p W (hp.below hW))
  rw [hpv] at TT TN ⊢
  have HL := Lib.hid (show ∀ h : setOkM (ts.map ActT.a) n = true, ts.length ≤ 60 from fun h => by have := (setOk_all h).2.2.1; simpa using this)
  have kP := Blk.new w #[.int .i64 p.r, .int .i64 p.n, .slice pa p.dep.length pc, .int .i64 p.actor, .int .i64 p.kind, .int .i64 p.to, .int .i64 p.bucket, .int .i64 p.mask, .int .i64 p.gr, .int .i64 p.gn, .slice qa p.ups.length qc] 42
  have b0 := (Below.refl w.heap.size w).alloc (Nat.le_refl _) (.cells #[.int .i64 p.r, .int .i64 p.n, .slice pa p.dep.length pc, .int .i64 p.actor, .int .i64 p.kind, .int .i64 p.to, .int .i64 p.bucket, .int .i64 p.mask, .int .i64 p.gr, .int .i64 p.gn, .slice qa p.ups.length qc] 42)
  obtain ⟨R, hR⟩ : ∃ R, R = touchedM (ts.map ActT.a) n p := ⟨_, rfl⟩
  rw [← hR]
  have HR := Lib.hid hR
  clear ht hp hpv hR
  obtain ⟨PB, hPB⟩ : ∃ PB, PB = w.heap.size := ⟨_, rfl⟩
  go_enter Try.func50, Try.ntmps50
  go_upto_region 1 with (fail)
  rw [← hPB] at kP ⊢
  generalize w.alloc (.cells #[.int .i64 p.r, .int .i64 p.n, .slice pa p.dep.length pc, .int .i64 p.actor, .int .i64 p.kind, .int .i64 p.to, .int .i64 p.bucket, .int .i64 p.mask, .int .i64 p.gr, .int .i64 p.gn, .slice qa p.ups.length qc] 42) = W0 at kP b0 ⊢
  have HPB := Lib.hid hPB
  clear hPB
  go_wp2_with fail
  refine (RS.out _ b0).mono ?_
  rintro e w1 ⟨b1, (⟨hs, mb, hmb, rfl, hown⟩ | ⟨hs, rfl⟩)⟩
  · have KP := Lib.hid (kP.below b1 kP.lt)
    have B1 := Lib.hid (b0.trans (b1.mono b0.size))
    have HRT := Lib.hid (show R = touchM p (ts.map ActT.a) 0 by rw [HR.out, touchedM, if_pos hs])
    have HS := Lib.hid (HL.out hs)
    clear kP b0 b1 hown hs hmb RS TN
    simp only [setVal]
    generalize (cntM (ts.map ActT.a) 0 : Int) = c0 at *
    generalize (cntM (ts.map ActT.a) 1 : Int) = c1 at *
    generalize (cntM (ts.map ActT.a) 2 : Int) = c2 at *
    generalize (cntM (ts.map ActT.a) 3 : Int) = c3 at *
    generalize ts.length = L at *
    go_upto_region 2 with (fail)
    have kS := Blk.new w1 #[.slice a L cap, .map (some mb), .int .i64 n, .int .i64 c0, .int .i64 c1, .int .i64 c2, .int .i64 c3] 93
    have b2 := (Below.refl w1.heap.size w1).alloc (Nat.le_refl _) (.cells #[.slice a L cap, .map (some mb), .int .i64 n, .int .i64 c0, .int .i64 c1, .int .i64 c2, .int .i64 c3] 93)
    have kP2 := KP.out.below b2 KP.out.lt
    have B2 := Lib.hid (B1.out.trans (b2.mono B1.out.size))
    obtain ⟨SB, hSB⟩ : ∃ SB, SB = w1.heap.size := ⟨_, rfl⟩
    rw [← hSB] at kS ⊢
    generalize w1.alloc (.cells #[.slice a L cap, .map (some mb), .int .i64 n, .int .i64 c0, .int .i64 c1, .int .i64 c2, .int .i64 c3] 93) = w2 at kS kP2 B2 ⊢
    clear b2 KP B1 hSB
    have TW := Lib.hid (TT.out w2 B2.out HS.out (.map (some mb)) n c0 c1 c2 c3)
    have s0 := kS.cell 0
    have s1 := kS.cell 1
    have s2 := kS.cell 2
    have s3 := kS.cell 3
    have s4 := kS.cell 4
    have s5 := kS.cell 5
    have s6 := kS.cell 6
    have e0 := kP2.cell 0
    have e1 := kP2.cell 1
    have e2 := kP2.cell 2
    have e3 := kP2.cell 3
    have e4 := kP2.cell 4
    have e5 := kP2.cell 5
    have e6 := kP2.cell 6
    have e7 := kP2.cell 7
    have e8 := kP2.cell 8
    have e9 := kP2.cell 9
    have e10 := kP2.cell 10
    simp only [List.getElem?_cons_zero, List.getElem?_cons_succ] at s0 s1 s2 s3 s4 s5 s6 e0 e1 e2 e3 e4 e5 e6 e7 e8 e9 e10
    clear kS kP2 TT
    go_wp2_with fail
    refine TW.out.mono ?_
    rintro e w3 ⟨u, bs, rfl, o3, g3, b3⟩
    have O3 := Lib.hid o3
    have G3 := Lib.hid (fun b hb => Nat.le_trans B2.out.size (g3 b hb))
    have B3 := Lib.hid (B2.out.trans (b3.mono B2.out.size))
    clear o3 g3 b3 s0 s1 s2 s3 s4 s5 s6 e0 e1 e2 e3 e4 e5 e6 e7 e8 e9 e10
    go_wp2
    go_ret
    exact ⟨u, bs, rfl, by rw [HRT.out]; exact O3.out, G3.out, B3.out⟩
  · have KP := Lib.hid (kP.below b1 kP.lt)
    have B1 := Lib.hid (b0.trans (b1.mono b0.size))
    have HRT := Lib.hid (show R = [] by rw [HR.out, touchedM, if_neg (by rw [hs]; decide)])
    clear kP b0 b1 hs RS TT
    simp only [noSet]
    go_upto_region 2 with (fail)
    have kS := Blk.new w1 #[.slice none 0 0, .map none, .int .i64 0, .int .i64 0, .int .i64 0, .int .i64 0, .int .i64 0] 93
    have b2 := (Below.refl w1.heap.size w1).alloc (Nat.le_refl _) (.cells #[.slice none 0 0, .map none, .int .i64 0, .int .i64 0, .int .i64 0, .int .i64 0, .int .i64 0] 93)
    have kP2 := KP.out.below b2 KP.out.lt
    have B2 := Lib.hid (B1.out.trans (b2.mono B1.out.size))
    obtain ⟨SB, hSB⟩ : ∃ SB, SB = w1.heap.size := ⟨_, rfl⟩
    rw [← hSB] at kS ⊢
    generalize w1.alloc (.cells #[.slice none 0 0, .map none, .int .i64 0, .int .i64 0, .int .i64 0, .int .i64 0, .int .i64 0] 93) = w2 at kS kP2 B2 ⊢
    clear b2 KP B1 hSB
    have TW := Lib.hid (TN.out w2 B2.out (.map none) 0 0 0 0 0)
    have s0 := kS.cell 0
    have s1 := kS.cell 1
    have s2 := kS.cell 2
    have s3 := kS.cell 3
    have s4 := kS.cell 4
    have s5 := kS.cell 5
    have s6 := kS.cell 6
    have e0 := kP2.cell 0
    have e1 := kP2.cell 1
    have e2 := kP2.cell 2
    have e3 := kP2.cell 3
    have e4 := kP2.cell 4
    have e5 := kP2.cell 5
    have e6 := kP2.cell 6
    have e7 := kP2.cell 7
    have e8 := kP2.cell 8
    have e9 := kP2.cell 9
    have e10 := kP2.cell 10
    simp only [List.getElem?_cons_zero, List.getElem?_cons_succ] at s0 s1 s2 s3 s4 s5 s6 e0 e1 e2 e3 e4 e5 e6 e7 e8 e9 e10
    clear kS kP2 TN
    go_wp2_with fail
    refine TW.out.mono ?_
    rintro e w3 ⟨u, bs, rfl, o3, g3, b3⟩
    have O3 := Lib.hid o3
    have G3 := Lib.hid (fun b hb => Nat.le_trans B2.out.size (g3 b hb))
    have B3 := Lib.hid (B2.out.trans (b3.mono B2.out.size))
    clear o3 g3 b3 s0 s1 s2 s3 s4 s5 s6 e0 e1 e2 e3 e4 e5 e6 e7 e8 e9 e10
    go_wp2
    go_ret
    exact ⟨u, bs, rfl, by rw [HRT.out]; exact O3.out, G3.out, B3.out⟩
end Go.Proofs.Ytjmefifdofgncaa
