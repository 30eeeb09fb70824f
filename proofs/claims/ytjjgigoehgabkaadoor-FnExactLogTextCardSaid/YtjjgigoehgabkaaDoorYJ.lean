/- Lines: the reference's LineOf and LogText, the program's lines. -/
import Derived.Test.YtjjgigoehgabkaaDoorYF
import Derived.Test.YtjjgigoehgabkaaDoorYI
import Derived.Test.YtjjgigoehgabkaaDoorNM
import Derived.Test.YtjjgigoehgabkaaDoorHC
import Derived.Test.YtjjgigoehgabkaaDoorMF
import Derived.Deep.DeepCutAuto






namespace Go.Proofs.YtjjgigoehgabkaaDoor
open Go.RowKit
set_option linter.unusedVariables false
set_option linter.unusedSimpArgs false

def txt (a : ActM) : ByteArray := ⟨(textM (numsM a)).toArray⟩
def mrkA (a : ActM) : Int := markN (txt a) (txt a).size
/-- an act as a line -/
def lineL (a : ActM) : List UInt8 := textM (numsM a) ++ 32 :: (Lib.itoa (mrkA a) ++ [10])
def logL (l : List ActM) : List UInt8 := l.flatMap lineL
theorem mrkA_range (a : ActM) : 0 ≤ mrkA a ∧ mrkA a < 1000003 := markN_range _ _
theorem txt_size (a : ActM) : (txt a).size = (textM (numsM a)).length := by
  show (textM (numsM a)).toArray.size = _
  simp
theorem txt_len {a : ActM} (hs : a.Small) (hB : ActB a) : (textM (numsM a)).length ≤ 22 * (11 + a.dep.length + 4 * a.ups.length) := by
  have := text_len (numsM a) (nums_in hB hs)
  rw [nums_len] at this
  exact this
theorem line_len {a : ActM} (hs : a.Small) (hB : ActB a) : (lineL a).length ≤ 22 * (11 + a.dep.length + 4 * a.ups.length) + 23 := by
  have h1 := txt_len hs hB
  have h2 := mrkA_range a
  have h3 := Lib.itoa_length_le (mrkA a) (by omega) (by omega)
  simp only [lineL, List.length_append, List.length_cons, List.length_nil]
  omega
theorem log_len : ∀ (l : List ActM), (∀ a ∈ l, a.Small) → (∀ a ∈ l, ActB a) → (logL l).length ≤ 31 * szL l
  | [], _, _ => by simp [logL]
  | a :: l, hs, hB => by
    have h1 := log_len l (fun b hb => hs b (List.mem_cons_of_mem _ hb)) (fun b hb => hB b (List.mem_cons_of_mem _ hb))
    have h2 := line_len (hs a (by simp)) (hB a (by simp))
    simp only [logL, List.flatMap_cons, List.length_append, szL, szA] at h1 ⊢
    omega
theorem szL_takeY : ∀ (l : List ActM) (k : Nat), szL (l.take k) ≤ szL l
  | [], k => by simp
  | a :: l, 0 => by simp [szL]
  | a :: l, k + 1 => by have := szL_takeY l k; simp only [List.take_succ_cons, szL]; omega
theorem log_take (l : List ActM) (k : Nat) (h : k < l.length) : logL (l.take (k + 1)) = logL (l.take k) ++ lineL (l.getD k act0) := by
  rw [List.take_succ_eq_append_getElem h]
  unfold logL
  rw [List.flatMap_append]
  simp [List.getD, h]
theorem log_take_len (l : List ActM) (k : Nat) (hs : SmallL l) (hB : ∀ a ∈ l, ActB a) (hz : szL l ≤ 9437184) : (logL (l.take k)).length ≤ 292552704 := by
  have h1 := log_len (l.take k) (fun a ha => hs.2 a (List.mem_of_mem_take ha)) (fun a ha => hB a (List.mem_of_mem_take ha))
  have h2 := szL_takeY l k
  omega

set_option maxRecDepth 100000 in
set_option maxHeartbeats 3200000 in
theorem specLineOf_any (t : ActT) (w : World) (ht : t.Reads w) (hs : t.a.Small) (hB : ActB t.a) : Calls Tryd.prog 11 #[t.val] w fun e w' => e = .returned (.string ⟨(lineL t.a).toArray⟩) ∧ Below w.heap.size w w' := by
  have AT := Lib.hid (fun W (h : t.Reads W) => specActText_any t W h hs hB)
  have TL := Lib.hid (txt_len hs hB)
  have hs1 := hs.1
  have hs2 := hs.2
  have MR := mrkA_range t.a
  have MK := Lib.hid (fun W => specMark_any (txt t.a) W (by rw [txt_size]; have := TL.out; omega))
  have DC := Lib.hid (fun W => dec_any (mrkA t.a) W (by omega) (by omega))
  have IL := Lib.itoa_length_le (mrkA t.a) (by omega) (by omega)
  have hll : (textM (numsM t.a)).length ≤ 184549376 := by have := TL.out; omega
  have HL : Hid (lineL t.a = textM (numsM t.a) ++ 32 :: (Lib.itoa (mrkA t.a) ++ [10])) := rfl
  have a1 : ∀ a b : List UInt8, (⟨a.toArray⟩ : ByteArray) ++ ⟨b.toArray⟩ = ⟨(a ++ b).toArray⟩ := app_bytes
  have a2 : ∀ a : List UInt8, (⟨a.toArray⟩ : ByteArray) ++ ⟨#[32]⟩ = ⟨(a ++ [32]).toArray⟩ := fun a => app_bytes a [32]
  have a3 : ∀ a : List UInt8, (⟨a.toArray⟩ : ByteArray) ++ ⟨#[10]⟩ = ⟨(a ++ [10]).toArray⟩ := fun a => app_bytes a [10]
  have MK2 := Lib.hid (fun W => (show Calls Tryd.prog 28 #[.string ⟨(textM (numsM t.a)).toArray⟩] W fun e w' => e = .returned (.int .i64 (mrkA t.a)) ∧ Below W.heap.size W w' from MK.out W))
  have HT := Lib.hid ht
  clear MK ht hB hs
  generalize lineL t.a = LINE at *
  generalize textM (numsM t.a) = T at *
  generalize mrkA t.a = M at *
  generalize Lib.itoa M = I at *
  clear TL hs1 hs2
  obtain ⟨⟨r, nn, dep, actor, kind, dst, bucket, mask, gr, gn, ups⟩, vd, vs⟩ := t
  simp only [ActT.val] at AT ⊢
  have B0 := Lib.hid ((Below.refl w.heap.size w).alloc (Nat.le_refl _) (.cells #[.int .i64 r, .int .i64 nn, vd, .int .i64 actor, .int .i64 kind, .int .i64 dst, .int .i64 bucket, .int .i64 mask, .int .i64 gr, .int .i64 gn, vs] 30))
  go_enter Tryd.func11, Tryd.ntmps11
  go_wp2_with fail
  refine (AT.out _ (HT.out.below B0.out)).mono ?_
  rintro e w1 ⟨rfl, b1⟩
  have B1 := Lib.hid (B0.out.trans (b1.mono B0.out.size))
  clear b1
  go_wp2_with fail
  refine (MK2.out _).mono ?_
  rintro e w2 ⟨rfl, b2⟩
  have B2 := Lib.hid (B1.out.trans (b2.mono B1.out.size))
  clear b2
  go_wp2_with fail
  refine (DC.out _).mono ?_
  rintro e w3 ⟨rfl, b3⟩
  have B3 := Lib.hid (B2.out.trans (b3.mono B2.out.size))
  clear b3
  go_wp2_with fail
  go_ret
  exact ⟨by show Ending.returned (Value.string _) = _; first | (rw [HL.out]; done) | (rw [HL.out]; simp), B3.out⟩

set_option maxRecDepth 100000 in
set_option maxHeartbeats 3200000 in
theorem specLogText_any (v : Value) (ts : List ActT) (w : World) (h : ActsT w v ts) (hs : SmallL (ts.map ActT.a)) (hB : ∀ a ∈ ts.map ActT.a, ActB a) (hz : szL (ts.map ActT.a) ≤ 9437184) :
    Calls Tryd.prog 14 #[v] w fun e w' => e = .returned (.string ⟨(logL (ts.map ActT.a)).toArray⟩) ∧ Below w.heap.size w w' := by
  obtain ⟨a, cap, rfl⟩ := actsT_len h
  have LT := Lib.hid (fun k (hk : k < ts.length) => (show logL ((ts.map ActT.a).take (k + 1)) = logL ((ts.map ActT.a).take k) ++ lineL (ts.getD k t0).a by rw [log_take _ _ (by simpa using hk), getD_map hk]))
  have LL := Lib.hid (fun k => log_take_len (ts.map ActT.a) k hs hB hz)
  have LD := Lib.hid (fun k (hk : ts.length ≤ k) => (show (ts.map ActT.a).take k = ts.map ActT.a from List.take_of_length_le (by simpa using hk)))
  have AT := Lib.hid (fun (h0 : 0 < ts.length) => actsT_at h h0)
  have HRd := Lib.hid h.1
  have SB := Lib.hid (fun t (ht : t ∈ ts) => And.intro (hs.2 t.a (List.mem_map_of_mem ht)) (hB t.a (List.mem_map_of_mem ht)))
  have hl20 : ts.length ≤ 1048576 := by have := hs.1; simpa using this
  have a1 : ∀ a b : List UInt8, (⟨a.toArray⟩ : ByteArray) ++ ⟨b.toArray⟩ = ⟨(a ++ b).toArray⟩ := app_bytes
  obtain ⟨K, hK⟩ : ∃ K, K = ts.length := ⟨_, rfl⟩
  rw [← hK] at LT LD AT hl20 ⊢
  have HK := Lib.hid hK
  clear hK h hs hB hz
  have BW := Lib.hid (Below.refl w.heap.size w)
  go_enter Tryd.func14, Tryd.ntmps14
  go_wp2_with fail
  go_loopw [3, 4] (fun s i wr => ∃ k : Nat, k ≤ K ∧ s = .string ⟨(logL ((ts.map ActT.a).take k)).toArray⟩ ∧ i = .int .i64 k ∧ Hid (Below w.heap.size w wr)) (fun _ i _ => K - (intOf i).toNat)
  case atStart => exact ⟨0, Nat.zero_le _, rfl, rfl, BW.out⟩
  case round =>
    obtain ⟨k, hk, rfl, rfl, hbel⟩ := hrel
    clear BW
    have BW := hbel
    clear hbel
    by_cases hlt : k < K
    · skip
      have hlt2 : k < ts.length := by rw [← HK.out]; exact hlt
      obtain ⟨hu, b, off, ha, hb, hc⟩ := AT.out (by omega)
      subst ha
      have hm := getD_mem hlt2
      have AT1 := Lib.hid ((hc k hlt).below BW.out hb)
      have HT := Lib.hid ((HRd.out _ hm).below BW.out)
      have hsb := SB.out _ hm
      have hll := LL.out k
      have hlk := LT.out k hlt
      obtain ⟨t, htt⟩ : ∃ t, t = ts.getD k t0 := ⟨_, rfl⟩
      rw [← htt] at AT1 HT hsb hlk
      have LLN := line_len hsb.1 hsb.2
      have hq1 := hsb.1.1
      have hq2 := hsb.1.2
      clear htt hm hc hu
      have LO := Lib.hid (fun W (h : t.Reads W) => specLineOf_any t W h hsb.1 hsb.2)
      have hln : (lineL t.a).length ≤ 184549376 := by omega
      have HLK := Lib.hid hlk
      clear hlk LLN hq1 hq2 hsb
      generalize lineL t.a = LINE at *
      generalize logL ((ts.map ActT.a).take k) = LOG at *
      obtain ⟨⟨r, nn, dep, actor, kind, dst, bucket, mask, gr, gn, ups⟩, vd, vs⟩ := t
      have hsd := ints_len HT.out.1
      have hsu := ups_len HT.out.2
      simp only at hsd hsu
      obtain ⟨da, dc, rfl⟩ := hsd
      obtain ⟨ua, uc, rfl⟩ := hsu
      try simp only [ActT.val] at LO ⊢
      obtain ⟨dl, hdl⟩ : ∃ x, x = dep.length := ⟨_, rfl⟩
      obtain ⟨ul, hul⟩ : ∃ x, x = ups.length := ⟨_, rfl⟩
      try rw [← hdl] at HT
      try rw [← hul] at HT
      try rw [← hdl] at AT1
      try rw [← hul] at AT1
      try rw [← hdl] at LO
      try rw [← hul] at LO
      try rw [← hdl]
      try rw [← hul]
      have HDL := Lib.hid hdl
      clear hdl hul
      have c0 := AT1.out.c0
      have c1 := AT1.out.c1
      have c2 := AT1.out.c2
      have c3 := AT1.out.c3
      have c4 := AT1.out.c4
      have c5 := AT1.out.c5
      have c6 := AT1.out.c6
      have c7 := AT1.out.c7
      have c8 := AT1.out.c8
      have c9 := AT1.out.c9
      have c10 := AT1.out.c10
      simp only at c0 c1 c2 c3 c4 c5 c6 c7 c8 c9 c10
      have e0 : (0 : Int) ≤ (k : Int) := by omega
      have e1 : (k : Int) < (K : Int) := by omega
      go_wp2_with fail
      refine (LO.out _ HT.out).mono ?_
      rintro e w1 ⟨rfl, b1⟩
      have B1 := Lib.hid (BW.out.trans (b1.mono BW.out.size))
      clear b1 c0 c1 c2 c3 c4 c5 c6 c7 c8 c9 c10
      go_wp2_with fail
      go_roundw
      case rel => exact ⟨k + 1, by omega, by rw [HLK.out], by go_num, B1.out⟩
      case measure => simp [intOf]; omega
    · have HD := Lib.hid (show logL ((ts.map ActT.a).take k) = logL (ts.map ActT.a) by rw [LD.out k (by omega)])
      generalize logL ((ts.map ActT.a).take k) = l at *
      go_wp2_with fail
      go_ret
      exact ⟨by show Ending.returned (Value.string _) = _; rw [HD.out], BW.out⟩

set_option maxRecDepth 100000 in
set_option maxHeartbeats 6400000 in
theorem lines_any (v : Value) (ts : List ActT) (w : World) (h : ActsT w v ts) (hs : SmallL (ts.map ActT.a)) (hB : ∀ a ∈ ts.map ActT.a, ActB a) (hz : szL (ts.map ActT.a) ≤ 9437184) (hT : Tab w) :
    Calls Tryd.prog 29 #[v] w fun e w' => e = .returned (.string ⟨(logL (ts.map ActT.a)).toArray⟩) ∧ Below w.heap.size w w' := by
  obtain ⟨a, cap, rfl⟩ := actsT_len h
  have LT := Lib.hid (fun k (hk : k < ts.length) => (show logL ((ts.map ActT.a).take (k + 1)) = logL ((ts.map ActT.a).take k) ++ lineL (ts.getD k t0).a by rw [log_take _ _ (by simpa using hk), getD_map hk]))
  have LL := Lib.hid (fun k => log_take_len (ts.map ActT.a) k hs hB hz)
  have LD := Lib.hid (fun k (hk : ts.length ≤ k) => (show (ts.map ActT.a).take k = ts.map ActT.a from List.take_of_length_le (by simpa using hk)))
  have AT := Lib.hid (fun (h0 : 0 < ts.length) => actsT_at h h0)
  have HRd := Lib.hid h.1
  have SB := Lib.hid (fun t (ht : t ∈ ts) => And.intro (hs.2 t.a (List.mem_map_of_mem ht)) (hB t.a (List.mem_map_of_mem ht)))
  have hl20 : ts.length ≤ 1048576 := by have := hs.1; simpa using this
  have HTB := Lib.hid hT
  have a1 : ∀ a b : List UInt8, (⟨a.toArray⟩ : ByteArray) ++ ⟨b.toArray⟩ = ⟨(a ++ b).toArray⟩ := app_bytes
  have a2 : ∀ a : List UInt8, (⟨a.toArray⟩ : ByteArray) ++ ⟨#[32]⟩ = ⟨(a ++ [32]).toArray⟩ := fun a => app_bytes a [32]
  have a3 : ∀ a : List UInt8, (⟨a.toArray⟩ : ByteArray) ++ ⟨#[10]⟩ = ⟨(a ++ [10]).toArray⟩ := fun a => app_bytes a [10]
  obtain ⟨K, hK⟩ : ∃ K, K = ts.length := ⟨_, rfl⟩
  rw [← hK] at LT LD AT hl20 ⊢
  have HK := Lib.hid hK
  clear hK h hs hB hz
  have I0 := Lib.hid (Lib.fresh_isBuilder 64 5 w)
  have BA := Lib.hid ((Below.refl w.heap.size w).alloc (Nat.le_refl _) (.cells #[.pointer none, .slice none 0 0] 64))
  obtain ⟨p, hp⟩ : ∃ p, p = w.heap.size := ⟨_, rfl⟩
  have HP := Lib.hid hp
  clear hT
  go_enter Tryd.func29, Tryd.ntmps29
  go_upto_region 2 with (fail)
  obtain ⟨w1, hw1⟩ : ∃ W, W = w.alloc (.cells #[.pointer none, .slice none 0 0] 64) := ⟨_, rfl⟩
  rw [← hw1] at I0 BA ⊢
  rw [← hp] at I0 ⊢
  clear hw1 hp
  go_wp2_with fail
  go_loopw [9] (fun i wr => ∃ k : Nat, k ≤ K ∧ i = .int .i64 k ∧ Hid (Lib.IsBuilder 64 5 p p (Lib.byteCells (logL ((ts.map ActT.a).take k))) wr) ∧ Hid (Below w.heap.size w wr)) (fun i _ => K - (intOf i).toNat)
  case atStart => exact ⟨0, Nat.zero_le _, rfl, I0.out, BA.out⟩
  case round =>
    obtain ⟨k, hk, rfl, hib, hbel⟩ := hrel
    clear I0 BA
    have BW := hbel
    clear hbel
    by_cases hlt : k < K
    · skip
      have hlt2 : k < ts.length := by rw [← HK.out]; exact hlt
      obtain ⟨hu, b, off, ha, hb, hc⟩ := AT.out (by omega)
      subst ha
      have hm := getD_mem hlt2
      have AT1 := Lib.hid ((hc k hlt).below BW.out hb)
      have HT := Lib.hid ((HRd.out _ hm).below BW.out)
      have hsb := SB.out _ hm
      have hll := LL.out k
      have hlk := LT.out k hlt
      obtain ⟨t, htt⟩ : ∃ t, t = ts.getD k t0 := ⟨_, rfl⟩
      rw [← htt] at AT1 HT hsb hlk
      have LLN := line_len hsb.1 hsb.2
      have hq1 := hsb.1.1
      have hq2 := hsb.1.2
      clear htt hm hc hu
      have AC := Lib.hid (fun W (h : t.Reads W) (hT : Tab W) => implActText_any t W h hsb.1 hsb.2 hT)
      have TL := txt_len hsb.1 hsb.2
      have MR := mrkA_range t.a
      have IL := Lib.itoa_length_le (mrkA t.a) (by omega) (by omega)
      have MK2 := Lib.hid (fun W => (show Calls Tryd.prog 35 #[.string ⟨(textM (numsM t.a)).toArray⟩] W fun e w' => e = .returned (.int .i64 (mrkA t.a)) ∧ Below W.heap.size W w' from implMark_any (txt t.a) W (by rw [txt_size]; omega)))
      have IA := Lib.hid (fun W (hT : Tab W) => itoa_any (mrkA t.a) W ⟨by omega, by omega⟩ hT)
      have HLN : Hid (lineL t.a = textM (numsM t.a) ++ 32 :: (Lib.itoa (mrkA t.a) ++ [10])) := rfl
      have htl : (textM (numsM t.a)).length ≤ 184549376 := by omega
      have HLK := Lib.hid hlk
      clear hlk LLN hq1 hq2 hsb TL
      generalize lineL t.a = LINE at *
      generalize textM (numsM t.a) = T at *
      generalize mrkA t.a = M at *
      generalize Lib.itoa M = I at *
      generalize logL ((ts.map ActT.a).take k) = LOG at *
      obtain ⟨⟨r, nn, dep, actor, kind, dst, bucket, mask, gr, gn, ups⟩, vd, vs⟩ := t
      have hsd := ints_len HT.out.1
      have hsu := ups_len HT.out.2
      simp only at hsd hsu
      obtain ⟨da, dc, rfl⟩ := hsd
      obtain ⟨ua, uc, rfl⟩ := hsu
      try simp only [ActT.val] at AC ⊢
      obtain ⟨dl, hdl⟩ : ∃ x, x = dep.length := ⟨_, rfl⟩
      obtain ⟨ul, hul⟩ : ∃ x, x = ups.length := ⟨_, rfl⟩
      try rw [← hdl] at HT
      try rw [← hul] at HT
      try rw [← hdl] at AT1
      try rw [← hul] at AT1
      try rw [← hdl] at AC
      try rw [← hul] at AC
      try rw [← hdl]
      try rw [← hul]
      have HDL := Lib.hid hdl
      clear hdl hul
      have c0 := AT1.out.c0
      have c1 := AT1.out.c1
      have c2 := AT1.out.c2
      have c3 := AT1.out.c3
      have c4 := AT1.out.c4
      have c5 := AT1.out.c5
      have c6 := AT1.out.c6
      have c7 := AT1.out.c7
      have c8 := AT1.out.c8
      have c9 := AT1.out.c9
      have c10 := AT1.out.c10
      simp only at c0 c1 c2 c3 c4 c5 c6 c7 c8 c9 c10
      have e0 : (0 : Int) ≤ (k : Int) := by omega
      have e1 : (k : Int) < (K : Int) := by omega
      go_upto_region 5 with (fail)
      clear c0 c1 c2 c3 c4 c5 c6 c7 c8 c9 c10 e0 e1
      have hib2 := Lib.hid (builder_kept hib.out ((Below.refl wr.heap.size wr).alloc (Nat.le_refl _) (.cells #[.int .i64 r, .int .i64 nn, .slice da dl dc, .int .i64 actor, .int .i64 kind, .int .i64 dst, .int .i64 bucket, .int .i64 mask, .int .i64 gr, .int .i64 gn, .slice ua ul uc] 30)))
      obtain ⟨w2, hw2⟩ : ∃ W, W = wr.alloc (.cells #[.int .i64 r, .int .i64 nn, .slice da dl dc, .int .i64 actor, .int .i64 kind, .int .i64 dst, .int .i64 bucket, .int .i64 mask, .int .i64 gr, .int .i64 gn, .slice ua ul uc] 30) := ⟨_, rfl⟩
      have kc := Blk.new wr #[.int .i64 r, .int .i64 nn, .slice da dl dc, .int .i64 actor, .int .i64 kind, .int .i64 dst, .int .i64 bucket, .int .i64 mask, .int .i64 gr, .int .i64 gn, .slice ua ul uc] 30
      have b2 := (Below.refl wr.heap.size wr).alloc (Nat.le_refl _) (.cells #[.int .i64 r, .int .i64 nn, .slice da dl dc, .int .i64 actor, .int .i64 kind, .int .i64 dst, .int .i64 bucket, .int .i64 mask, .int .i64 gr, .int .i64 gn, .slice ua ul uc] 30)
      obtain ⟨pC, hpC⟩ : ∃ q, q = wr.heap.size := ⟨_, rfl⟩
      rw [← hw2] at hib2 b2
      rw [← hw2, ← hpC] at kc
      rw [← hw2, ← hpC]
      have KC := Lib.hid kc
      replace BW := Lib.hid (BW.out.trans ((b2).mono BW.out.size))
      replace HT := Lib.hid (HT.out.below (b2))
      clear b2 kc hw2 hpC hib
      have kc0 := KC.out.cell 0
      have kc1 := KC.out.cell 1
      have kc2 := KC.out.cell 2
      have kc3 := KC.out.cell 3
      have kc4 := KC.out.cell 4
      have kc5 := KC.out.cell 5
      have kc6 := KC.out.cell 6
      have kc7 := KC.out.cell 7
      have kc8 := KC.out.cell 8
      have kc9 := KC.out.cell 9
      have kc10 := KC.out.cell 10
      simp only [List.getElem?_cons_zero, List.getElem?_cons_succ] at kc0 kc1 kc2 kc3 kc4 kc5 kc6 kc7 kc8 kc9 kc10
      go_wp2_with fail
      refine (AC.out _ HT.out (HTB.out.below BW.out)).mono ?_
      rintro e w3 ⟨rfl, b3⟩
      clear kc0 kc1 kc2 kc3 kc4 kc5 kc6 kc7 kc8 kc9 kc10
      have hib3 := Lib.hid (builder_kept hib2.out b3)
      have B3 := Lib.hid (BW.out.trans (b3.mono BW.out.size))
      clear b3 hib2 BW KC
      go_wp2_with fail
      refine (MK2.out _).mono ?_
      rintro e w4 ⟨rfl, b4⟩
      have hib4 := Lib.hid (builder_kept hib3.out b4)
      have B4 := Lib.hid (B3.out.trans (b4.mono B3.out.size))
      clear b4 hib3 B3
      go_wp2_with fail
      refine (IA.out _ (HTB.out.below B4.out)).mono ?_
      rintro e w5 ⟨rfl, b5⟩
      have hib5 := Lib.hid (builder_kept hib4.out b5)
      have B5 := Lib.hid (B4.out.trans (b5.mono B4.out.size))
      clear b5 hib4 B4
      go_wp2_with fail
      refine (writeString_any p p _ _ _ hib5.out ?_ (by rw [HP.out]; exact B5.out.size)).mono ?_
      · rw [Lib.byteCells_length]
        show LOG.length + (List.toArray _).size ≤ _
        simp
        omega
      rintro e w6 ⟨rfl, hib6, b6⟩
      have hib7 : Hid (Lib.IsBuilder 64 5 p p (Lib.byteCells (logL ((ts.map ActT.a).take (k + 1)))) w6) := by
        refine .inr ?_
        rw [HLK.out, Lib.byteCells_append, HLN.out]
        rw [Lib.strCells_eq] at hib6
        simpa using hib6
      have B6 := Lib.hid (B5.out.trans (by rw [HP.out] at b6; exact b6))
      clear hib6 b6
      go_wp2_with fail
      go_roundw
      case rel => exact ⟨k + 1, by omega, by go_num, hib7.out, B6.out⟩
      case measure => simp [intOf]; omega
    · have HD := Lib.hid (show logL ((ts.map ActT.a).take k) = logL (ts.map ActT.a) by rw [LD.out k (by omega)])
      rw [HD.out] at hib
      go_wp2_with fail
      refine (Tryd.Builder_String_any p p _ _ hib.out (by rw [HP.out]; exact BW.out.size)).mono ?_
      rintro e w2 ⟨rfl, b2⟩
      have B2 := Lib.hid (BW.out.trans (by rw [HP.out] at b2; exact b2))
      clear b2
      go_wp2_with fail
      go_ret
      exact ⟨rfl, B2.out⟩
end Go.Proofs.YtjjgigoehgabkaaDoor
