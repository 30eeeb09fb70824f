/- Things: as data and in memory; one thing's size, its copy, its likeness. -/
import Derived.Test.YtjjgigoehgabkaaKA
import Derived.Test.YtjjgigoehgabkaaTE
import Derived.Deep.DeepCutAuto
namespace Go.Proofs.Ytjjgigoehgabkaa
open Go.RowKit
set_option linter.unusedVariables false
set_option linter.unusedSimpArgs false

structure ThingM where
  bucket : Int
  key : Int
  has : Bool
  reg : Int
  count : Int
  items : List Int
def thing0 : ThingM := ⟨0, 0, false, 0, 0, []⟩
/-- a thing and the value of its items -/
structure ThingT where
  a : ThingM
  v : Value
def tt0 : ThingT := ⟨thing0, .slice none 0 0⟩
def ThingT.cells (t : ThingT) : List Value := [.int .i64 t.a.bucket, .int .i64 t.a.key, .bool t.a.has, .int .i64 t.a.reg, .int .i64 t.a.count, t.v]
def ThingT.val (t : ThingT) : Value := .agg #[.int .i64 t.a.bucket, .int .i64 t.a.key, .bool t.a.has, .int .i64 t.a.reg, .int .i64 t.a.count, t.v]
structure ThingAt (w : World) (b o : Nat) (t : ThingT) : Prop where
  c0 : w.cell? ⟨b, o, none⟩ = some (.int .i64 t.a.bucket)
  c1 : w.cell? ⟨b, o + 1, none⟩ = some (.int .i64 t.a.key)
  c2 : w.cell? ⟨b, o + 2, none⟩ = some (.bool t.a.has)
  c3 : w.cell? ⟨b, o + 3, none⟩ = some (.int .i64 t.a.reg)
  c4 : w.cell? ⟨b, o + 4, none⟩ = some (.int .i64 t.a.count)
  c5 : w.cell? ⟨b, o + 5, none⟩ = some t.v
theorem ThingAt.below {w w' : World} {B b o : Nat} {t : ThingT} (h : ThingAt w b o t) (hb : Below B w w') (hl : b < B) : ThingAt w' b o t :=
  ⟨(hb.cell (p := ⟨b, o, none⟩) hl).trans h.c0, (hb.cell (p := ⟨b, o + 1, none⟩) hl).trans h.c1, (hb.cell (p := ⟨b, o + 2, none⟩) hl).trans h.c2, (hb.cell (p := ⟨b, o + 3, none⟩) hl).trans h.c3, (hb.cell (p := ⟨b, o + 4, none⟩) hl).trans h.c4, (hb.cell (p := ⟨b, o + 5, none⟩) hl).trans h.c5⟩
/-- v is a slice that reads as the things ts -/
def ThingsT (w : World) (v : Value) (ts : List ThingT) : Prop :=
  (∀ t ∈ ts, Ints w t.v t.a.items) ∧ ((∃ a cap, v = .slice a 0 cap ∧ ts = []) ∨
  ∃ b off cap, v = .slice (some ⟨b, off, none⟩) ts.length cap ∧ b < w.heap.size ∧ ts.length ≤ cap ∧ cap ≤ maxLen ∧ ∀ i, i < ts.length → ThingAt w b (off + i * 6) (ts.getD i tt0))
def Things (w : World) (v : Value) (l : List ThingM) : Prop := ∃ ts : List ThingT, l = ts.map ThingT.a ∧ ThingsT w v ts
theorem ThingsT.below {w w' : World} {v : Value} {ts : List ThingT} (h : ThingsT w v ts) (hb : Below w.heap.size w w') : ThingsT w' v ts := by
  obtain ⟨h1, h2⟩ := h
  refine ⟨fun t ht => (h1 t ht).below (B := 0) hb, ?_⟩
  rcases h2 with h2 | ⟨b, off, cap, e, q1, q2, q3, q4⟩
  · exact .inl h2
  · exact .inr ⟨b, off, cap, e, Nat.lt_of_lt_of_le q1 hb.size, q2, q3, fun i hi => (q4 i hi).below hb q1⟩
theorem Things.below {w w' : World} {v : Value} {l : List ThingM} (h : Things w v l) (hb : Below w.heap.size w w') : Things w' v l := by
  obtain ⟨ts, e, h⟩ := h
  exact ⟨ts, e, h.below hb⟩
theorem thingsT_len {w : World} {v : Value} {ts : List ThingT} (h : ThingsT w v ts) : ∃ a cap, v = .slice a ts.length cap := by
  rcases h.2 with ⟨a, cap, rfl, rfl⟩ | ⟨b, off, cap, rfl, _⟩
  · exact ⟨a, cap, rfl⟩
  · exact ⟨_, cap, rfl⟩
theorem things_len {w : World} {v : Value} {l : List ThingM} (h : Things w v l) : ∃ a cap, v = .slice a l.length cap := by
  obtain ⟨ts, rfl, h⟩ := h
  rw [List.length_map]
  exact thingsT_len h
theorem things_max {w : World} {v : Value} {ts : List ThingT} (h : ThingsT w v ts) : ts.length ≤ 9223372036854775807 := by
  rcases h.2 with ⟨a, cap, rfl, rfl⟩ | ⟨b, off, cap, rfl, h1, h2, h3, h4⟩
  · simp
  · unfold maxLen at h3; omega
theorem tgetD_mem {ts : List ThingT} {i : Nat} (h : i < ts.length) : ts.getD i tt0 ∈ ts := by simp [List.getD, h]

set_option maxHeartbeats 800000 in
theorem szT_any (bu ke re co : Int) (ha : Bool) (a : Option Addr) (K c : Nat) (left : Int) (w : World) (h0 : 0 ≤ left) (h1 : left ≤ 1048576) (hn : K ≤ 9223372036854775807) :
    Calls Try.prog 112 #[.agg #[.int .i64 bu, .int .i64 ke, .bool ha, .int .i64 re, .int .i64 co, .slice a K c], .int .i64 left] w fun e w' => e = .returned (.int .i64 (if left - K < 0 then -1 else left - K)) ∧ Below w.heap.size w w' := by
  have B0 := Lib.hid ((Below.refl w.heap.size w).alloc (Nat.le_refl _) (.cells #[.int .i64 bu, .int .i64 ke, .bool ha, .int .i64 re, .int .i64 co, .slice a K c] 129))
  have s1 := fun W => szIntS_any a K c left W h0 h1 hn
  by_cases hd : left - K < 0
  · simp only [if_pos hd] at s1 ⊢
    go_enter Try.func112, Try.ntmps112
    go_wp2_with fail
    refine (s1 _).mono ?_
    rintro e w1 ⟨rfl, rfl⟩
    go_wp2
    go_ret
    exact ⟨rfl, B0.out⟩
  · simp only [if_neg hd] at s1 ⊢
    have kk : decide (left - (K : Int) < 0) = false := by simpa using hd
    go_enter Try.func112, Try.ntmps112
    go_wp2_with fail
    refine (s1 _).mono ?_
    rintro e w1 ⟨rfl, rfl⟩
    go_wp2
    go_ret
    exact ⟨rfl, B0.out⟩
def RetT (bu ke re co : Int) (ha : Bool) (w : World) (xs : List Int) (e : Ending) (w' : World) : Prop := ∃ v bs, e = .returned (.agg #[.int .i64 bu, .int .i64 ke, .bool ha, .int .i64 re, .int .i64 co, v]) ∧ OwnI w' bs v xs ∧ (∀ b ∈ bs, w.heap.size ≤ b) ∧ Below w.heap.size w w'
set_option maxHeartbeats 3200000 in
theorem toT_any (bu ke re co : Int) (ha : Bool) (v : Value) (xs : List Int) (w : World) (h : Ints w v xs) (hl : xs.length ≤ 1048576) :
    Calls Try.prog 114 #[.agg #[.int .i64 bu, .int .i64 ke, .bool ha, .int .i64 re, .int .i64 co, v]] w (RetT bu ke re co ha w xs) := by
  obtain ⟨a, c, rfl⟩ := ints_len h
  have CS := Lib.hid (fun W (hW : Below w.heap.size w W) => toI_any _ xs W (h.below (B := 0) hW) hl)
  clear h
  obtain ⟨K, hK⟩ : ∃ K, K = xs.length := ⟨_, rfl⟩
  rw [← hK] at CS ⊢
  clear hK
  have BW := Lib.hid (Below.refl w.heap.size w)
  go_enter Try.func114, Try.ntmps114
  have kA := ((Blk.new w #[.int .i64 bu, .int .i64 ke, .bool ha, .int .i64 re, .int .i64 co, .slice a K c] 129).alloc (.cells #[.int .i64 0, .int .i64 0, .bool false, .int .i64 0, .int .i64 0, .slice none 0 0] 130)).alloc (.cells #[.int .i64 0, .int .i64 0, .bool false, .int .i64 0, .int .i64 0, .slice none 0 0] 130)
  have kR := (Blk.new (w.alloc (.cells #[.int .i64 bu, .int .i64 ke, .bool ha, .int .i64 re, .int .i64 co, .slice a K c] 129)) #[.int .i64 0, .int .i64 0, .bool false, .int .i64 0, .int .i64 0, .slice none 0 0] 130).alloc (.cells #[.int .i64 0, .int .i64 0, .bool false, .int .i64 0, .int .i64 0, .slice none 0 0] 130)
  simp only [World.size_alloc] at kR
  have kT := Blk.new ((w.alloc (.cells #[.int .i64 bu, .int .i64 ke, .bool ha, .int .i64 re, .int .i64 co, .slice a K c] 129)).alloc (.cells #[.int .i64 0, .int .i64 0, .bool false, .int .i64 0, .int .i64 0, .slice none 0 0] 130)) #[.int .i64 0, .int .i64 0, .bool false, .int .i64 0, .int .i64 0, .slice none 0 0] 130
  simp only [World.size_alloc] at kT
  have ba := (((Below.refl w.heap.size w).alloc (Nat.le_refl _) (.cells #[.int .i64 bu, .int .i64 ke, .bool ha, .int .i64 re, .int .i64 co, .slice a K c] 129)).alloc (by simp [World.size_alloc]; try omega) (.cells #[.int .i64 0, .int .i64 0, .bool false, .int .i64 0, .int .i64 0, .slice none 0 0] 130)).alloc (by simp [World.size_alloc]; try omega) (.cells #[.int .i64 0, .int .i64 0, .bool false, .int .i64 0, .int .i64 0, .slice none 0 0] 130)
  obtain ⟨pA, hpA⟩ : ∃ p, p = w.heap.size := ⟨_, rfl⟩
  obtain ⟨pR, hpR⟩ : ∃ p, p = w.heap.size + 1 := ⟨_, rfl⟩
  obtain ⟨pT, hpT⟩ : ∃ p, p = w.heap.size + 1 + 1 := ⟨_, rfl⟩
  go_upto_region 2 with (fail)
  rw [← hpT] at kT
  try rw [← hpT]
  rw [← hpR] at kR
  try rw [← hpR]
  rw [← hpA] at kA
  try rw [← hpA]
  obtain ⟨w1, hW⟩ : ∃ W, W = ((w.alloc (.cells #[.int .i64 bu, .int .i64 ke, .bool ha, .int .i64 re, .int .i64 co, .slice a K c] 129)).alloc (.cells #[.int .i64 0, .int .i64 0, .bool false, .int .i64 0, .int .i64 0, .slice none 0 0] 130)).alloc (.cells #[.int .i64 0, .int .i64 0, .bool false, .int .i64 0, .int .i64 0, .slice none 0 0] 130) := ⟨_, rfl⟩
  rw [← hW] at ba kA kR kT ⊢
  have KA := Lib.hid kA
  have GA := Lib.hid (show w.heap.size ≤ pA by omega)
  have KR := Lib.hid kR
  have GR := Lib.hid (show w.heap.size ≤ pR by omega)
  have KT := Lib.hid kT
  have GT := Lib.hid (show w.heap.size ≤ pT by omega)
  have NEA_R := Lib.hid (show pA ≠ pR by omega)
  have NEA_T := Lib.hid (show pA ≠ pT by omega)
  have NER_T := Lib.hid (show pR ≠ pT by omega)
  replace BW := Lib.hid (BW.out.trans ((ba).mono BW.out.size))
  clear ba hW kA hpA kR hpR kT hpT
  have ka0 := KA.out.cell 0
  have ka1 := KA.out.cell 1
  have ka2 := KA.out.cell 2
  have ka3 := KA.out.cell 3
  have ka4 := KA.out.cell 4
  have ka5 := KA.out.cell 5
  simp only [List.getElem?_cons_zero, List.getElem?_cons_succ] at ka0 ka1 ka2 ka3 ka4 ka5
  have kt0 := KT.out.cell 0
  have kt1 := KT.out.cell 1
  have kt2 := KT.out.cell 2
  have kt3 := KT.out.cell 3
  have kt4 := KT.out.cell 4
  have kt5 := KT.out.cell 5
  simp only [List.getElem?_cons_zero, List.getElem?_cons_succ] at kt0 kt1 kt2 kt3 kt4 kt5
  have fT := KT.out.free
  go_upto_region 7 with (fail)
  clear ka0 ka1 ka2 ka3 ka4 ka5 kt0 kt1 kt2 kt3 kt4 kt5
  obtain ⟨w2, hW⟩ : ∃ W, W = ((((w1.setCell ⟨pT, 0, none⟩ (.int .i64 bu)).setCell ⟨pT, 1, none⟩ (.int .i64 ke)).setCell ⟨pT, 2, none⟩ (.bool ha)).setCell ⟨pT, 3, none⟩ (.int .i64 re)).setCell ⟨pT, 4, none⟩ (.int .i64 co) := ⟨_, rfl⟩
  rw [← hW]
  have ks := (((((KT.out.set (j := 0) (by simp) (.int .i64 bu)).set (j := 1) (by simp) (.int .i64 ke)).set (j := 2) (by simp) (.bool ha)).set (j := 3) (by simp) (.int .i64 re)).set (j := 4) (by simp) (.int .i64 co))
  simp only [List.set_cons_zero, List.set_cons_succ] at ks
  rw [← hW] at ks
  have bs' := (((((BW.out.setCell (p := ⟨pT, 0, none⟩) GT.out (.int .i64 bu)).setCell (p := ⟨pT, 1, none⟩) GT.out (.int .i64 ke)).setCell (p := ⟨pT, 2, none⟩) GT.out (.bool ha)).setCell (p := ⟨pT, 3, none⟩) GT.out (.int .i64 re)).setCell (p := ⟨pT, 4, none⟩) GT.out (.int .i64 co))
  rw [← hW] at bs'
  have ko := (((((KA.out.other (p := ⟨pT, 0, none⟩) (by first | exact NET_A.out | exact (fun e => NEA_T.out e.symm)) (.int .i64 bu)).other (p := ⟨pT, 1, none⟩) (by first | exact NET_A.out | exact (fun e => NEA_T.out e.symm)) (.int .i64 ke)).other (p := ⟨pT, 2, none⟩) (by first | exact NET_A.out | exact (fun e => NEA_T.out e.symm)) (.bool ha)).other (p := ⟨pT, 3, none⟩) (by first | exact NET_A.out | exact (fun e => NEA_T.out e.symm)) (.int .i64 re)).other (p := ⟨pT, 4, none⟩) (by first | exact NET_A.out | exact (fun e => NEA_T.out e.symm)) (.int .i64 co))
  rw [← hW] at ko
  replace KA := Lib.hid ko
  clear ko
  have ko := (((((KR.out.other (p := ⟨pT, 0, none⟩) (by first | exact NET_R.out | exact (fun e => NER_T.out e.symm)) (.int .i64 bu)).other (p := ⟨pT, 1, none⟩) (by first | exact NET_R.out | exact (fun e => NER_T.out e.symm)) (.int .i64 ke)).other (p := ⟨pT, 2, none⟩) (by first | exact NET_R.out | exact (fun e => NER_T.out e.symm)) (.bool ha)).other (p := ⟨pT, 3, none⟩) (by first | exact NET_R.out | exact (fun e => NER_T.out e.symm)) (.int .i64 re)).other (p := ⟨pT, 4, none⟩) (by first | exact NET_R.out | exact (fun e => NER_T.out e.symm)) (.int .i64 co))
  rw [← hW] at ko
  replace KR := Lib.hid ko
  clear ko
  replace KT := Lib.hid ks
  replace BW := Lib.hid bs'
  clear ks bs' hW
  have ka0 := KA.out.cell 0
  have ka1 := KA.out.cell 1
  have ka2 := KA.out.cell 2
  have ka3 := KA.out.cell 3
  have ka4 := KA.out.cell 4
  have ka5 := KA.out.cell 5
  simp only [List.getElem?_cons_zero, List.getElem?_cons_succ] at ka0 ka1 ka2 ka3 ka4 ka5
  go_wp2_with fail
  refine (CS.out _ BW.out).mono ?_
  rintro e w3 ⟨u, bs, rfl, o3, g3, b3⟩
  obtain ⟨ua, uc, hu⟩ := ints_len o3.ints
  subst hu
  clear ka0 ka1 ka2 ka3 ka4 ka5
  have LT := Lib.hid KT.out.lt
  have LR := Lib.hid KR.out.lt
  have O3 := Lib.hid o3
  have G3 := Lib.hid g3
  have SZ := Lib.hid BW.out.size
  replace BW := Lib.hid (BW.out.trans ((b3).mono BW.out.size))
  replace KA := Lib.hid (KA.out.below (b3) KA.out.lt)
  replace KR := Lib.hid (KR.out.below (b3) KR.out.lt)
  replace KT := Lib.hid (KT.out.below (b3) KT.out.lt)
  clear b3 o3 g3
  have GT3 := Lib.hid (fun b hb => Nat.lt_of_lt_of_le LT.out (G3.out b hb))
  have GR3 := Lib.hid (fun b hb => Nat.lt_of_lt_of_le LR.out (G3.out b hb))
  generalize xs.length = K2 at *
  have kt0 := KT.out.cell 0
  have kt1 := KT.out.cell 1
  have kt2 := KT.out.cell 2
  have kt3 := KT.out.cell 3
  have kt4 := KT.out.cell 4
  have kt5 := KT.out.cell 5
  simp only [List.getElem?_cons_zero, List.getElem?_cons_succ] at kt0 kt1 kt2 kt3 kt4 kt5
  have fT := KT.out.free
  have fR := KR.out.free
  have kr0 := KR.out.cell 0
  have kr1 := KR.out.cell 1
  have kr2 := KR.out.cell 2
  have kr3 := KR.out.cell 3
  have kr4 := KR.out.cell 4
  have kr5 := KR.out.cell 5
  simp only [List.getElem?_cons_zero, List.getElem?_cons_succ] at kr0 kr1 kr2 kr3 kr4 kr5
  have hTR := NER_T.out
  have hRT : pT ≠ pR := fun e => hTR e.symm
  go_wp2
  refine bodyPost_ret (v := .agg #[.int .i64 bu, .int .i64 ke, .bool ha, .int .i64 re, .int .i64 co, .slice ua K2 uc]) (by simp [results, Try.results114, go_sem, kr0, kt0, kr1, kt1, kr2, kt2, kr3, kt3, kr4, kt4, kr5, kt5, hTR, hRT]) rfl ⟨_, bs, rfl, ?_, fun b hb => Nat.le_trans SZ.out (G3.out b hb), ?_⟩
  · exact ((((((O3.out.setCell GT3.out 5 _).setCell GR3.out 0 _).setCell GR3.out 1 _).setCell GR3.out 2 _).setCell GR3.out 3 _).setCell GR3.out 4 _).setCell GR3.out 5 _
  · exact ((((((BW.out.setCell GT.out _).setCell GR.out _).setCell GR.out _).setCell GR.out _).setCell GR.out _).setCell GR.out _).setCell GR.out _
set_option maxHeartbeats 1600000 in
theorem eqT_any (bu ke re co : Int) (ha : Bool) (v v' : Value) (xs : List Int) (w : World) (h : Ints w v xs) (h' : Ints w v' xs) :
    Calls Try.prog 117 #[.agg #[.int .i64 bu, .int .i64 ke, .bool ha, .int .i64 re, .int .i64 co, v], .agg #[.int .i64 bu, .int .i64 ke, .bool ha, .int .i64 re, .int .i64 co, v']] w fun e w' => e = .returned (.bool true) ∧ Below w.heap.size w w' := by
  have H := Lib.hid h
  have H' := Lib.hid h'
  obtain ⟨a, c, rfl⟩ := ints_len h
  obtain ⟨a', c', rfl⟩ := ints_len h'
  generalize xs.length = K at *
  clear h h'
  have hb : (ha == ha) = true := by simp
  have hb2 : (ha != ha) = false := by simp
  have B0 := Lib.hid (((Below.refl w.heap.size w).alloc (Nat.le_refl _) (.cells #[.int .i64 bu, .int .i64 ke, .bool ha, .int .i64 re, .int .i64 co, .slice a K c] 130)).alloc (by simp) (.cells #[.int .i64 bu, .int .i64 ke, .bool ha, .int .i64 re, .int .i64 co, .slice a' K c'] 130))
  go_enter Try.func117, Try.ntmps117
  go_wp2_with fail
  refine (eqI_any _ _ xs _ (H.out.below (B := 0) B0.out) (H'.out.below (B := 0) B0.out)).mono ?_
  rintro e w1 ⟨rfl, b1⟩
  have B1 := Lib.hid (B0.out.trans (b1.mono B0.out.size))
  clear b1
  go_wp2
  go_ret
  exact ⟨rfl, B1.out⟩
end Go.Proofs.Ytjjgigoehgabkaa
