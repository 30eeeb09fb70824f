/- ML, HB, JA. -/
import Derived.Test.YtghgiefciijoeaaGreatDoorMC
import Derived.Test.YtghgiefciijoeaaGreatDoorMB
import Derived.Test.YtghgiefciijoeaaGreatDoorHA
import Derived.Deep.RegionHeld3

namespace Go.Proofs.YtghgiefciijoeaaGreatDoor
open Go.RowKit
set_option linter.unusedVariables false
def tz0 : ActT := ⟨act0, .slice none 0 0, .slice none 0 0⟩
theorem va_zero (n : Nat) : madeCells (Value.agg #[.int .i64 0, .int .i64 0, .slice none 0 0, .int .i64 0, .int .i64 0, .int .i64 0, .int .i64 0, .int .i64 0, .int .i64 0, .int .i64 0, .slice none 0 0]).cells (n * 11) = (va (List.replicate n tz0)).toArray := by
 have e : ∀ i, i < n * 11 → (va (List.replicate n tz0))[i]? = tz0.cells[i % 11]? := by
  intro i hi
  obtain ⟨q, r, rfl, hr⟩ : ∃ q r, i = q * 11 + r ∧ r < 11 := ⟨i / 11, i % 11, by omega, by omega⟩
  rw [va_at _ q r (by simp; omega) hr]
  have hg : (List.replicate n tz0).getD q t0 = tz0 := by simp [List.getD]; grind
  rw [hg, show (q * 11 + r) % 11 = r by omega]
 apply Array.ext
 ·simp [size_madeCells, va_length]
 ·intro i h1 h2
  have hi : i < n * 11 := by simpa [size_madeCells] using h1
  have h3 := e i hi
  simp only [List.getElem_toArray]
  have h4 : i < (va (List.replicate n tz0)).length := by simpa using h2
  rw [List.getElem?_eq_getElem h4] at h3
  simp [madeCells, Value.cells]
  have h5 : i % 11 < 11 := Nat.mod_lt _ (by omega)
  generalize (va (List.replicate n tz0))[i] = x at *
  match h : i % 11, h5 with
  | 0, _ => rw [h] at h3; simpa [tz0, ActT.cells, act0] using h3.symm
  | 1, _ => rw [h] at h3; simpa [tz0, ActT.cells, act0] using h3.symm
  | 2, _ => rw [h] at h3; simpa [tz0, ActT.cells, act0] using h3.symm
  | 3, _ => rw [h] at h3; simpa [tz0, ActT.cells, act0] using h3.symm
  | 4, _ => rw [h] at h3; simpa [tz0, ActT.cells, act0] using h3.symm
  | 5, _ => rw [h] at h3; simpa [tz0, ActT.cells, act0] using h3.symm
  | 6, _ => rw [h] at h3; simpa [tz0, ActT.cells, act0] using h3.symm
  | 7, _ => rw [h] at h3; simpa [tz0, ActT.cells, act0] using h3.symm
  | 8, _ => rw [h] at h3; simpa [tz0, ActT.cells, act0] using h3.symm
  | 9, _ => rw [h] at h3; simpa [tz0, ActT.cells, act0] using h3.symm
  | 10, _ => rw [h] at h3; simpa [tz0, ActT.cells, act0] using h3.symm
  | k + 11, h => omega
def Chain (w : World) : Nat → List ActT → Nat → Prop
 | lo, [], hi => lo ≤ hi
 | lo, t :: ts, hi => ∃ d u, lo ≤ d ∧ d < u ∧ Own w d t.vd t.a.dep ∧ OwnU w u t.vs t.a.ups ∧ Chain w (u + 1) ts hi
theorem Chain.keep {w w' : World} : ∀ {ts : List ActT} {lo hi : Nat}, Chain w lo ts hi → (∀ b, lo ≤ b → b < w.heap.size → w'.heap[b]? = w.heap[b]?) → Chain w' lo ts hi
 | [], _, _, h, _ => h
 | t :: ts, lo, hi, ⟨d, u, h1, h2, h3, h4, h5⟩, hk =>
  ⟨d, u, h1, h2, h3.block fun hp => hk d h1 (own_lt h3 hp), h4.block fun hp => hk u (by omega) (ownU_lt h4 hp), h5.keep fun b hb hs => hk b (by omega) hs⟩
theorem Chain.snoc {w : World} : ∀ {ts : List ActT} {lo hi d u hi' : Nat} {t : ActT}, Chain w lo ts hi → hi ≤ d → d < u → Own w d t.vd t.a.dep → OwnU w u t.vs t.a.ups → u < hi' → Chain w lo (ts ++ [t]) hi'
 | [], lo, hi, d, u, hi', t, h, h1, h2, h3, h4, h5 => ⟨d, u, Nat.le_trans h h1, h2, h3, h4, h5⟩
 | s :: ts, lo, hi, d, u, hi', t, ⟨d0, u0, q1, q2, q3, q4, q5⟩, h1, h2, h3, h4, h5 => ⟨d0, u0, q1, q2, q3, q4, q5.snoc h1 h2 h3 h4 h5⟩
theorem Chain.le {w : World} : ∀ {ts : List ActT} {lo hi : Nat}, Chain w lo ts hi → lo ≤ hi
 | [], _, _, h => h
 | t :: ts, lo, hi, ⟨d, u, h1, h2, _, _, h5⟩ => by have := h5.le; omega
theorem Chain.reads {w : World} : ∀ {ts : List ActT} {lo hi : Nat}, Chain w lo ts hi → ∀ t ∈ ts, t.Reads w
 | [], _, _, _, t, ht => by cases ht
 | s :: ts, lo, hi, ⟨d, u, _, _, h3, h4, h5⟩, t, ht => by
  rcases List.mem_cons.1 ht with rfl | ht
  ·exact ⟨own_ints h3, ownU_ups h4⟩
  ·exact h5.reads t ht
def ToMade (w : World) (l : List ActM) (e : Ending) (w' : World) : Prop := ∃ ts : List ActT, ts.map ActT.a = l ∧ e = .returned (.slice (some ⟨w.heap.size, 0, none⟩) ts.length ts.length) ∧
 w'.ownsRow w.heap.size 32 11 (.slice (some ⟨w.heap.size, 0, none⟩) ts.length ts.length) ts.length (va ts) ∧ Chain w' (w.heap.size + 1) ts w'.heap.size ∧ Below w.heap.size w w'
theorem step11 (us : List ActT) (k n : Nat) (t : ActT) (hu : us.length = k) (hk : k < n) : (us ++ List.replicate (n - k) tz0).set k t = (us ++ [t]) ++ List.replicate (n - (k + 1)) tz0 := by
 rw [List.set_append_right _ _ (by omega), hu, Nat.sub_self, show n - k = (n - (k + 1)) + 1 from by omega, List.replicate_succ, List.set_cons_zero, List.append_assoc]
 rfl
end Go.Proofs.YtghgiefciijoeaaGreatDoor
namespace Go.Proofs.YtghgiefciijoeaaGreatDoor
open Go.RowKit
set_option linter.unusedVariables false
set_option maxRecDepth 100000 in
set_option maxHeartbeats 3200000 in
theorem toActS_some (b off cap n : Nat) (ts : List ActT) (w : World) (hn : ts.length = n) (hb : b < w.heap.size) (hl : n ≤ 1048576) (hs : ∀ t ∈ ts, t.a.Small) (hr : ∀ t ∈ ts, t.Reads w)
  (hc : ∀ i, i < n → ActAt w b (off + i * 11) (ts.getD i t0)) :
  Calls Tryz.prog 25 #[.slice (some ⟨b, off, none⟩) n cap] w (ToMade w (ts.map ActT.a)) := by
 obtain ⟨i0, hi, hz0, hz1, hz2⟩ := info_parts Tryz.infoAct
 have hmk : (Instr.makeSlice 23 (.int .i64 (n : Int)) (.int .i64 (n : Int))).run Tryz.prog w = .ok (.slice (some ⟨w.heap.size, 0, none⟩) n n) (w.alloc (.cells (va (List.replicate n tz0)).toArray 32)) := by
  have h := run_make (P := Tryz.prog) w 23 32 i0 _ Tryz.underlying23 hi hz0 .i64 .i64 n n (by omega) (by omega) (by rw [hz2]; omega) (by omega)
  rw [hz1] at h
  simp only [Int.toNat_natCast] at h
  rw [va_zero] at h
  exact h
 have hown0 : (w.alloc (.cells (va (List.replicate n tz0)).toArray 32)).ownsRow w.heap.size 32 11 (.slice (some ⟨w.heap.size, 0, none⟩) n n) n (va (List.replicate n tz0)) := by
  have := World.ownsRow_lit (size := 11) (e := 32) (base := w.heap.size) w (va (List.replicate n tz0)).toArray n (Nat.le_refl _) (by unfold maxLen; omega) (by simp [va_length])
  simpa using this
 have hbel0 : Below w.heap.size w (w.alloc (.cells (va (List.replicate n tz0)).toArray 32)) := (Below.refl _ _).alloc (Nat.le_refl _) _
 have hch0 : Chain (w.alloc (.cells (va (List.replicate n tz0)).toArray 32)) (w.heap.size + 1) [] (w.alloc (.cells (va (List.replicate n tz0)).toArray 32)).heap.size := by
  show _ ≤ _
  simp
 obtain ⟨W0, hW0⟩ : ∃ W0, W0 = (w.alloc (.cells (va (List.replicate n tz0)).toArray 32)) := ⟨_, rfl⟩
 rw [← hW0] at hmk hown0 hbel0 hch0
 have HN := Lib.hid hn
 have HC := Lib.hid hc
 have HS := Lib.hid hs
 have HRd := Lib.hid hr
 have O0 := Lib.hid hown0
 have B0 := Lib.hid hbel0
 have C0 := Lib.hid hch0
 clear hi hz0 hz1 hz2 i0 hW0 hn hc hs hr hown0 hbel0 hch0
 go_enter Tryz.func25, Tryz.ntmps25
 go_wp2
 go_loopw [4] (fun i wr => ∃ (k : Nat) (us : List ActT), k ≤ n ∧ i = .int .i64 k ∧ Hid (us.length = k) ∧ Hid (us.map ActT.a = (ts.take k).map ActT.a) ∧ Hid (wr.ownsRow w.heap.size 32 11 (.slice (some ⟨w.heap.size, 0, none⟩) n n) n (va (us ++ List.replicate (n - k) tz0))) ∧ Hid (Chain wr (w.heap.size + 1) us wr.heap.size) ∧ Hid (Below w.heap.size w wr)) (fun i _ => n - (intOf i).toNat)
 case atStart => exact ⟨0, [], Nat.zero_le _, rfl, rfl, rfl, by simpa [Hid] using O0.out, C0.out, B0.out⟩
 case round =>
  obtain ⟨k, us, hk, rfl, hul, hua, hown, hch, hbel⟩ := hrel
  clear O0 B0 C0 hmk
  by_cases hlt : k < n
  ·have hm := getD_mem (ts := ts) (i := k) (by rw [HN.out]; exact hlt)
   have at_ := (HC.out k hlt).below hbel.out hb
   have HT := Lib.hid ((HRd.out _ hm).below hbel.out)
   have HSm := Lib.hid (HS.out _ hm)
   have htk := Lib.hid (show ts.take (k + 1) = ts.take k ++ [ts.getD k t0] by rw [List.take_succ_eq_append_getElem (by rw [HN.out]; exact hlt)]; simp [List.getD, HN.out, hlt])
   obtain ⟨t, ht⟩ : ∃ t, t = ts.getD k t0 := ⟨_, rfl⟩
   rw [← ht] at at_ HT HSm htk
   clear ht hm
   have CL := Lib.hid (toAct_any t.val t.a wr HT.out.is HSm.out.1 HSm.out.2)
   have c0 := at_.c0
   have c1 := at_.c1
   have c2 := at_.c2
   have c3 := at_.c3
   have c4 := at_.c4
   have c5 := at_.c5
   have c6 := at_.c6
   have c7 := at_.c7
   have c8 := at_.c8
   have c9 := at_.c9
   have c10 := at_.c10
   clear at_
   go_wp2_with fail
   refine CL.out.mono ?_
   rintro e w1 ⟨v, d, u, rfl, oa, hd, hdu, hu, b1⟩
   obtain ⟨vd, vs, rfl, od, ou⟩ := oa
   have O1 := Lib.hid (row_keep hown.out fun g _ hl _ => b1.block g hl)
   have C1 := Lib.hid ((hch.out.keep (w' := w1) fun g _ hl => b1.block g hl).snoc (t := ⟨t.a, vd, vs⟩) hd hdu od ou hu)
   have B1 := Lib.hid (hbel.out.trans (b1.mono hbel.out.size))
   have hgl : w.heap.size < w1.heap.size := by have := hch.out.le; have := b1.size; omega
   have hsd := ints_len (own_ints od)
   have hsu := ups_len (ownU_ups ou)
   obtain ⟨xd, yd, rfl⟩ := hsd
   obtain ⟨xu, yu, rfl⟩ := hsu
   have f0 := O1.out.frozenAt
   have cell := fun j (hj : j < 11) => (O1.out.cellAt (k * 11 + j) (by omega)).trans (va_at (us ++ List.replicate (n - k) tz0) k j (by have := hul.out; simp; omega) hj)
   have hzz : (us ++ List.replicate (n - k) tz0).getD k t0 = tz0 := by
    have := hul.out
    simp [List.getD, List.getElem?_append]
    grind
   rw [hzz] at cell
   have r0 := cell 0 (by omega)
   have r1 := cell 1 (by omega)
   have r2 := cell 2 (by omega)
   have r3 := cell 3 (by omega)
   have r4 := cell 4 (by omega)
   have r5 := cell 5 (by omega)
   have r6 := cell 6 (by omega)
   have r7 := cell 7 (by omega)
   have r8 := cell 8 (by omega)
   have r9 := cell 9 (by omega)
   have r10 := cell 10 (by omega)
   simp only [tz0, ActT.cells, act0, Nat.add_zero, List.getElem?_cons_zero, List.getElem?_cons_succ] at r0 r1 r2 r3 r4 r5 r6 r7 r8 r9 r10
   have HST := Lib.hid (row_set11 O1.out k (by have := hul.out; simp; omega) hlt ⟨t.a, .slice xd t.a.dep.length yd, .slice xu t.a.ups.length yu⟩)
   rw [step11 us k n _ hul.out hlt] at HST
   clear cell hzz od ou b1 c0 c1 c2 c3 c4 c5 c6 c7 c8 c9 c10 hd hdu hu
   go_wp2
   go_roundw
   case rel =>
    refine ⟨k + 1, us ++ [(⟨t.a, .slice xd t.a.dep.length yd, .slice xu t.a.ups.length yu⟩ : ActT)], by omega, by go_num, (by show _ = _; simp [hul.out]), (by show _ = _; rw [htk.out]; simp only [List.map_append, List.map_cons, List.map_nil, hua.out]), HST.out, ?_, ?_⟩
    ·have gs := grown_set11 w1 w.heap.size (k * 11) (k * 11 + 1) (k * 11 + 2) (k * 11 + 3) (k * 11 + 4) (k * 11 + 5) (k * 11 + 6) (k * 11 + 7) (k * 11 + 8) (k * 11 + 9) (k * 11 + 10) (.int .i64 t.a.r) (.int .i64 t.a.n) (.slice xd t.a.dep.length yd) (.int .i64 t.a.actor) (.int .i64 t.a.kind) (.int .i64 t.a.to) (.int .i64 t.a.bucket) (.int .i64 t.a.mask) (.int .i64 t.a.gr) (.int .i64 t.a.gn) (.slice xu t.a.ups.length yu)
     have := C1.out.keep fun b hb hl => gs.block b hl (fun e => by cases e; omega)
     simpa [Hid, World.setCell] using this
    ·exact B1.out.grown (grown_set11 ..) (by omega) (fun g e => by cases e; exact Nat.le_refl _)
   case measure => simp [intOf]; omega
  ·have hkn : k = n := by omega
   have hla : Hid (us.map ActT.a = ts.map ActT.a) := by
    show _ = _
    rw [hua.out, List.take_of_length_le (by rw [HN.out]; omega)]
   have HO := Lib.hid hown.out
   rw [hkn, Nat.sub_self, List.replicate_zero, List.append_nil] at HO
   have hul2 := Lib.hid (hul.out.trans hkn)
   clear hkn
   go_wp2
   go_ret
   have e2 := hul2.out
   have h3 := HO.out
   rw [← e2] at h3 ⊢
   exact ⟨us, hla.out, rfl, h3, hch.out, hbel.out⟩
end Go.Proofs.YtghgiefciijoeaaGreatDoor
namespace Go.Proofs.YtghgiefciijoeaaGreatDoor
open Go.RowKit
set_option linter.unusedVariables false
set_option maxHeartbeats 800000 in
theorem toActS_nil (a : Option Addr) (cap : Nat) (w : World) : Calls Tryz.prog 25 #[.slice a 0 cap] w (ToMade w []) := by
 obtain ⟨i0, hi, hz0, hz1, hz2⟩ := info_parts Tryz.infoAct
 have hmk : (Instr.makeSlice 23 (.int .i64 0) (.int .i64 0)).run Tryz.prog w = .ok (.slice (some ⟨w.heap.size, 0, none⟩) 0 0) (w.alloc (.cells #[] 32)) := by
  have h := run_make (P := Tryz.prog) w 23 32 i0 _ Tryz.underlying23 hi hz0 .i64 .i64 0 0 (by omega) (by omega) (by rw [hz2]; omega) (by omega)
  rw [hz1, show Int.toNat 0 = 0 from rfl, va_zero] at h
  exact h
 have O0 := Lib.hid (World.ownsRow_lit (size := 11) (e := 32) (base := w.heap.size) w #[] 0 (Nat.le_refl _) (by unfold maxLen; omega) rfl)
 have B0 := Lib.hid ((Below.refl w.heap.size w).alloc (Nat.le_refl _) (.cells #[] 32))
 clear hi hz0 hz1 hz2 i0
 go_enter Tryz.func25, Tryz.ntmps25
 go_wp2
 go_loop [4] (fun i => i = .int .i64 0) (fun _ => 0)
 case atStart => exact rfl
 case round =>
  obtain rfl := hrel
  go_wp2
  go_ret
  exact ⟨[], rfl, rfl, O0.out, (by show _ ≤ _; simp), B0.out⟩
theorem toActS_any (v : Value) (l : List ActM) (w : World) (h : Acts w v l) (hs : SmallL l) : Calls Tryz.prog 25 #[v] w (ToMade w l) := by
 obtain ⟨ts, rfl, ht⟩ := h
 obtain ⟨s1, s2⟩ := hs
 rcases ht.2 with ⟨a, cap, rfl, rfl⟩ | ⟨b, off, cap, rfl, h1, h2, h3, h4⟩
 ·exact toActS_nil _ _ w
 ·exact toActS_some b off cap _ ts w rfl h1 (by simpa using s1) (fun t hh => s2 _ (List.mem_map_of_mem hh)) ht.1 h4
theorem toMade_acts {w w' : World} {l : List ActM} {e : Ending} (h : ToMade w l e w') : ∃ v, e = .returned v ∧ Acts w' v l ∧ Below w.heap.size w w' := by
 obtain ⟨ts, rfl, rfl, ho, hc, hb⟩ := h
 refine ⟨_, rfl, ⟨ts, rfl, hc.reads, ?_⟩, hb⟩
 rcases ho.2 with ⟨h', _⟩ | ⟨g, cap, cur, h', hbg, hg, hx, hy, _⟩
 ·simp at h'
 ·simp only [Value.slice.injEq, Option.some.injEq, Addr.mk.injEq, and_true, true_and] at h'
  obtain ⟨rfl, rfl⟩ := h'
  exact .inr ⟨_, 0, _, rfl, (Array.getElem?_eq_some_iff.1 hg).1, hx, hy, fun i hi => by rw [Nat.zero_add]; exact row_actAt ho i rfl hi⟩
def totM : List ActM → Nat
 | [] => 0
 | a :: l => 1 + a.dep.length + a.ups.length + totM l
theorem totM_snoc (l : List ActM) (a : ActM) : totM (l ++ [a]) = totM l + (1 + a.dep.length + a.ups.length) := by
 induction l with
 | nil => simp [totM]
 | cons b l ih => simp only [List.cons_append, totM, ih]; omega
def Sized (w : World) (l : List ActM) (left : Int) (e : Ending) (w' : World) : Prop := ∃ r : Int, e = .returned (.int .i64 r) ∧ -1 ≤ r ∧ r ≤ left ∧ (0 ≤ r → SmallL l ∧ r + (totM l : Int) ≤ left) ∧ Below w.heap.size w w'
set_option maxRecDepth 100000 in
set_option maxHeartbeats 1600000 in
theorem szActS_some (b off cap n : Nat) (ts : List ActT) (left : Int) (w : World) (hn : ts.length = n) (hb : b < w.heap.size) (hl : n ≤ 9223372036854775807) (h0 : 0 ≤ left) (h1 : left ≤ 1048576) (hr : ∀ t ∈ ts, t.Reads w)
  (hc : ∀ i, i < n → ActAt w b (off + i * 11) (ts.getD i t0)) :
  Calls Tryz.prog 24 #[.slice (some ⟨b, off, none⟩) n cap, .int .i64 left] w (Sized w (ts.map ActT.a) left) := by
 have HN := Lib.hid hn
 have HC := Lib.hid hc
 have HRd := Lib.hid hr
 clear hn hc hr
 by_cases hneg : left - n < 0
 ·go_enter Tryz.func24, Tryz.ntmps24
  go_wp2
  go_ret
  exact ⟨-1, rfl, by omega, by omega, fun h => by omega, Below.refl _ _⟩
 ·go_enter Tryz.func24, Tryz.ntmps24
  go_wp2
  go_loopw [1, 5] (fun lv i wr => ∃ (k : Nat) (x : Int), k ≤ n ∧ i = .int .i64 k ∧ lv = .int .i64 x ∧ 0 ≤ x ∧ x ≤ left ∧ Hid (∀ t ∈ ts.take k, t.a.Small) ∧ Hid (x + (totM ((ts.take k).map ActT.a) : Int) + (n - k : Nat) ≤ left) ∧ Hid (Below w.heap.size w wr)) (fun _ i _ => n - (intOf i).toNat)
  case atStart => exact ⟨0, left - n, Nat.zero_le _, rfl, rfl, by omega, by omega, (by intro t ht; cases ht), (by simp [Hid, totM]), Below.refl _ _⟩
  case round =>
   obtain ⟨k, x, hk, rfl, rfl, hx0, hx1, hsm, htt, hbel⟩ := hrel
   by_cases hlt : k < n
   ·have hm := getD_mem (ts := ts) (i := k) (by rw [HN.out]; exact hlt)
    have at_ := (HC.out k hlt).below hbel.out hb
    have HT := Lib.hid ((HRd.out _ hm).below hbel.out)
    have htk := Lib.hid (show ts.take (k + 1) = ts.take k ++ [ts.getD k t0] by rw [List.take_succ_eq_append_getElem (by rw [HN.out]; exact hlt)]; simp [List.getD, HN.out, hlt])
    obtain ⟨t, ht⟩ : ∃ t, t = ts.getD k t0 := ⟨_, rfl⟩
    rw [← ht] at at_ HT htk
    clear ht hm
    have CL := szAct_any t.val t.a x wr HT.out.is hx0 (by omega)
    obtain ⟨y, hy⟩ : ∃ y, y = szM t.a.dep.length t.a.ups.length x := ⟨_, rfl⟩
    rw [← hy] at CL
    have CL := Lib.hid CL
    have HY := Lib.hid hy
    have hyr := szM_range t.a.dep.length t.a.ups.length x (by omega)
    rw [← hy] at hyr
    have c0 := at_.c0
    have c1 := at_.c1
    have c2 := at_.c2
    have c3 := at_.c3
    have c4 := at_.c4
    have c5 := at_.c5
    have c6 := at_.c6
    have c7 := at_.c7
    have c8 := at_.c8
    have c9 := at_.c9
    have c10 := at_.c10
    clear at_ hy
    go_wp2_with fail
    refine CL.out.mono ?_
    rintro e w1 ⟨rfl, b1⟩
    have B1 := Lib.hid (hbel.out.trans (b1.mono hbel.out.size))
    clear b1 c0 c1 c2 c3 c4 c5 c6 c7 c8 c9 c10
    by_cases hy0 : y < 0
    ·go_wp2_with fail
     go_ret
     exact ⟨-1, rfl, by omega, by omega, fun h => by omega, B1.out⟩
    ·have hok := szM_ok (d := t.a.dep.length) (u := t.a.ups.length) (left := x) (by rw [← HY.out]; exact hy0)
     have hyx : y ≤ x := by have := HY.out; omega
     have HSM := Lib.hid (show ∀ s ∈ ts.take (k + 1), s.a.Small from by
      rw [htk.out]
      intro s hs
      rcases List.mem_append.1 hs with hs | hs
      ·exact hsm.out s hs
      ·simp only [List.mem_singleton] at hs
       subst hs
       exact ⟨by omega, by omega⟩)
     have HTT : Hid (y + (totM ((ts.take (k + 1)).map ActT.a) : Int) + (n - (k + 1) : Nat) ≤ left) := by
      have h1 := htt.out
      have h2 := HY.out
      show _ ≤ _
      rw [htk.out, List.map_append, List.map_cons, List.map_nil, totM_snoc]
      unfold szM at h2
      grind
     clear hok
     go_wp2_with fail
     go_roundw
     case rel => exact ⟨k + 1, y, by omega, by go_num, rfl, by omega, by omega, HSM.out, HTT.out, B1.out⟩
     case measure => simp [intOf]; omega
   ·have hsl : Hid (SmallL (ts.map ActT.a)) := by
     refine ⟨by rw [List.length_map, HN.out]; omega, fun a ha => ?_⟩
     obtain ⟨t, ht, rfl⟩ := List.mem_map.1 ha
     exact hsm.out t (by rw [List.take_of_length_le (by rw [HN.out]; omega)]; exact ht)
    have hkn : k = n := by omega
    have htl := htt.out
    rw [List.take_of_length_le (by rw [HN.out]; omega), hkn] at htl
    have HTL := Lib.hid (show x + (totM (ts.map ActT.a) : Int) ≤ left by simpa using htl)
    clear htl hkn
    go_wp2_with fail
    go_ret
    exact ⟨x, rfl, by omega, hx1, fun _ => ⟨hsl.out, HTL.out⟩, hbel.out⟩
set_option maxHeartbeats 800000 in
theorem szActS_nil (a : Option Addr) (cap : Nat) (left : Int) (w : World) (h0 : 0 ≤ left) (h1 : left ≤ 1048576) : Calls Tryz.prog 24 #[.slice a 0 cap, .int .i64 left] w (Sized w [] left) := by
 go_enter Tryz.func24, Tryz.ntmps24
 go_wp2
 go_loop [1, 5] (fun lv i => lv = .int .i64 left ∧ i = .int .i64 0) (fun _ _ => 0)
 case atStart => exact ⟨rfl, rfl⟩
 case round =>
  obtain ⟨rfl, rfl⟩ := hrel
  go_wp2
  go_ret
  exact ⟨left, rfl, by omega, by omega, fun _ => ⟨⟨by simp, fun a ha => by cases ha⟩, by simp [totM]⟩, Below.refl _ _⟩
theorem szActS_any (v : Value) (l : List ActM) (left : Int) (w : World) (h : Acts w v l) (h0 : 0 ≤ left) (h1 : left ≤ 1048576) : Calls Tryz.prog 24 #[v, .int .i64 left] w (Sized w l left) := by
 obtain ⟨ts, rfl, ht⟩ := h
 have hm := actsT_max ht
 rcases ht.2 with ⟨a, cap, rfl, rfl⟩ | ⟨b, off, cap, rfl, q1, q2, q3, q4⟩
 ·exact szActS_nil _ _ _ w h0 h1
 ·exact szActS_some b off cap _ ts left w rfl q1 hm h0 h1 ht.1 q4
structure Bel2 (W w' : World) : Prop where
 b : Below W.heap.size W w'
set_option maxRecDepth 100000 in
set_option maxHeartbeats 1600000 in
theorem eqActS_some (b off cap b' off' cap' n : Nat) (ts us : List ActT) (w : World) (hn : ts.length = n) (hm : us.length = n) (he : ts.map ActT.a = us.map ActT.a) (hb : b < w.heap.size) (hb' : b' < w.heap.size) (hl : n ≤ 9223372036854775807) (hr : ∀ t ∈ ts, t.Reads w) (hr' : ∀ t ∈ us, t.Reads w)
  (hc : ∀ i, i < n → ActAt w b (off + i * 11) (ts.getD i t0)) (hc' : ∀ i, i < n → ActAt w b' (off' + i * 11) (us.getD i t0)) :
  Calls Tryz.prog 26 #[.slice (some ⟨b, off, none⟩) n cap, .slice (some ⟨b', off', none⟩) n cap'] w fun e w' => e = .returned (.bool true) ∧ Below w.heap.size w w' := by
 have HN := Lib.hid hn
 have HM := Lib.hid hm
 have HE := Lib.hid he
 have HC := Lib.hid hc
 have HC' := Lib.hid hc'
 have HRd := Lib.hid hr
 have HRd' := Lib.hid hr'
 clear hn hm he hc hc' hr hr'
 go_enter Tryz.func26, Tryz.ntmps26
 go_wp2
 go_loopw [5] (fun i wr => ∃ k : Nat, k ≤ n ∧ i = .int .i64 k ∧ Hid (Below w.heap.size w wr)) (fun i _ => n - (intOf i).toNat)
 case atStart => exact ⟨0, Nat.zero_le _, rfl, Below.refl _ _⟩
 case round =>
  obtain ⟨k, hk, rfl, hbel⟩ := hrel
  by_cases hlt : k < n
  ·have hm1 := getD_mem (ts := ts) (i := k) (by rw [HN.out]; exact hlt)
   have hm2 := getD_mem (ts := us) (i := k) (by rw [HM.out]; exact hlt)
   have heq : (ts.getD k t0).a = (us.getD k t0).a := by
    rw [← getD_map (by rw [HN.out]; exact hlt), ← getD_map (by rw [HM.out]; exact hlt), HE.out]
   have at1 := fun W' (h : Bel2 wr W') => (((HC.out k hlt).below hbel.out hb).below h.b (Nat.lt_of_lt_of_le hb hbel.out.size))
   have at2 := fun W' (h : Bel2 wr W') => (((HC'.out k hlt).below hbel.out hb').below h.b (Nat.lt_of_lt_of_le hb' hbel.out.size))
   have T1 := Lib.hid ((HRd.out _ hm1).below hbel.out)
   have T2 := Lib.hid ((HRd'.out _ hm2).below hbel.out)
   obtain ⟨t, ht⟩ : ∃ t, t = ts.getD k t0 := ⟨_, rfl⟩
   obtain ⟨u, hu⟩ : ∃ u, u = us.getD k t0 := ⟨_, rfl⟩
   rw [← ht] at at1 T1 heq
   rw [← hu] at at2 T2 heq
   have CE := Lib.hid (eqAct_same t.val u.val u.a wr.drew (by rw [← heq]; exact (T1.out.below (Below.refl _ _).drew).is) (T2.out.below (Below.refl _ _).drew).is)
   simp only [ActT.val] at CE
   clear hm1 hm2 heq ht hu
   have c0 := fun W' (h : Bel2 wr W') => (at1 W' h).c0
   have c1 := fun W' (h : Bel2 wr W') => (at1 W' h).c1
   have c2 := fun W' (h : Bel2 wr W') => (at1 W' h).c2
   have c3 := fun W' (h : Bel2 wr W') => (at1 W' h).c3
   have c4 := fun W' (h : Bel2 wr W') => (at1 W' h).c4
   have c5 := fun W' (h : Bel2 wr W') => (at1 W' h).c5
   have c6 := fun W' (h : Bel2 wr W') => (at1 W' h).c6
   have c7 := fun W' (h : Bel2 wr W') => (at1 W' h).c7
   have c8 := fun W' (h : Bel2 wr W') => (at1 W' h).c8
   have c9 := fun W' (h : Bel2 wr W') => (at1 W' h).c9
   have c10 := fun W' (h : Bel2 wr W') => (at1 W' h).c10
   have d0 := fun W' (h : Bel2 wr W') => (at2 W' h).c0
   have d1 := fun W' (h : Bel2 wr W') => (at2 W' h).c1
   have d2 := fun W' (h : Bel2 wr W') => (at2 W' h).c2
   have d3 := fun W' (h : Bel2 wr W') => (at2 W' h).c3
   have d4 := fun W' (h : Bel2 wr W') => (at2 W' h).c4
   have d5 := fun W' (h : Bel2 wr W') => (at2 W' h).c5
   have d6 := fun W' (h : Bel2 wr W') => (at2 W' h).c6
   have d7 := fun W' (h : Bel2 wr W') => (at2 W' h).c7
   have d8 := fun W' (h : Bel2 wr W') => (at2 W' h).c8
   have d9 := fun W' (h : Bel2 wr W') => (at2 W' h).c9
   have d10 := fun W' (h : Bel2 wr W') => (at2 W' h).c10
   have i0 : (0 : Int) ≤ (k : Int) := by omega
   have i1 : (k : Int) < (n : Int) := by omega
   have SB := Lib.hid (show Bel2 wr wr.drew from ⟨(Below.refl _ _).drew⟩)
   clear at1 at2
   go_wp2_with fail
   go_region_held3 (fun W => Bel2 wr W)
    (first | (with_reducible exact SB.out) | (with_reducible exact bz))
    ((go_at_call 35; (with_reducible refine CE.out.mono ?_); rintro e w1 ⟨rfl, b1⟩; have bz : Bel2 wr w1 := ⟨SB.out.b.trans (b1.mono SB.out.b.size)⟩; clear b1))
   have B1 := Lib.hid (hbel.out.trans (bz.b.mono hbel.out.size))
   go_wp2_with fail
   go_roundw
   case rel => exact ⟨k + 1, by omega, by go_num, B1.out⟩
   case measure => simp [intOf]; omega
  ·have : k = n := by omega
   subst this
   go_wp2_with fail
   go_ret
   exact ⟨rfl, hbel.out⟩
end Go.Proofs.YtghgiefciijoeaaGreatDoor
namespace Go.Proofs.YtghgiefciijoeaaGreatDoor
open Go.Joins Go.ChangeShapes Go.WideShapes Go.ChangeAt Go.RowKit Go.Deep
set_option linter.unusedVariables false
set_option maxRecDepth 100000 in
theorem acts_in {H : Type} {enc : TypeId × Value → H} {W : World} {base : Nat} {n : Nat} {v : Value} {y : DataW H × List MemPlace} (h : DataW.trod enc Tryz.prog W base (fun _ => true) true n 46 [v] = some y) :
  ∃ l, Acts W v l := by
 rcases open_slice_cells Tryz.underlying46 Tryz.underlying56 (by kernel_rfl) (by kernel_rfl) h with hcs | ⟨a, len, cap, m, hcs, hl, hm, hlm, hi⟩
 ·simp only [List.cons.injEq, and_true] at hcs
  subst hcs
  exact ⟨[], acts_empty _ _ _⟩
 ·simp only [List.cons.injEq, and_true] at hcs
  subst hcs
  by_cases h0 : len = 0
  ·subst h0
   exact ⟨[], acts_empty _ _ _⟩
  ·have hu : ∀ i, i < len → ∃ t : ActT, t.Reads W ∧ W.cell? (a.add (i * 11 + 0)) = some (.int .i64 t.a.r) ∧ W.cell? (a.add (i * 11 + 1)) = some (.int .i64 t.a.n) ∧ W.cell? (a.add (i * 11 + 2)) = some t.vd ∧ W.cell? (a.add (i * 11 + 3)) = some (.int .i64 t.a.actor) ∧ W.cell? (a.add (i * 11 + 4)) = some (.int .i64 t.a.kind) ∧ W.cell? (a.add (i * 11 + 5)) = some (.int .i64 t.a.to) ∧ W.cell? (a.add (i * 11 + 6)) = some (.int .i64 t.a.bucket) ∧ W.cell? (a.add (i * 11 + 7)) = some (.int .i64 t.a.mask) ∧ W.cell? (a.add (i * 11 + 8)) = some (.int .i64 t.a.gr) ∧ W.cell? (a.add (i * 11 + 9)) = some (.int .i64 t.a.gn) ∧ W.cell? (a.add (i * 11 + 10)) = some t.vs := by
    intro i hil
    obtain ⟨n', hf⟩ := hi i (by omega)
    obtain ⟨v0, y0, q0, t0⟩ := hf 0 _ rfl
    obtain ⟨v1, y1, q1, t1⟩ := hf 1 _ rfl
    obtain ⟨v2, y2, q2, t2⟩ := hf 2 _ rfl
    obtain ⟨v3, y3, q3, t3⟩ := hf 3 _ rfl
    obtain ⟨v4, y4, q4, t4⟩ := hf 4 _ rfl
    obtain ⟨v5, y5, q5, t5⟩ := hf 5 _ rfl
    obtain ⟨v6, y6, q6, t6⟩ := hf 6 _ rfl
    obtain ⟨v7, y7, q7, t7⟩ := hf 7 _ rfl
    obtain ⟨v8, y8, q8, t8⟩ := hf 8 _ rfl
    obtain ⟨v9, y9, q9, t9⟩ := hf 9 _ rfl
    obtain ⟨v10, y10, q10, t10⟩ := hf 10 _ rfl
    obtain ⟨x0, rfl⟩ := int_in t0
    obtain ⟨x1, rfl⟩ := int_in t1
    obtain ⟨xs, hxs⟩ := ints_in t2
    obtain ⟨x3, rfl⟩ := int_in t3
    obtain ⟨x4, rfl⟩ := int_in t4
    obtain ⟨x5, rfl⟩ := int_in t5
    obtain ⟨x6, rfl⟩ := int_in t6
    obtain ⟨x7, rfl⟩ := int_in t7
    obtain ⟨x8, rfl⟩ := int_in t8
    obtain ⟨x9, rfl⟩ := int_in t9
    obtain ⟨us, hus⟩ := ups_in t10
    exact ⟨⟨⟨x0, x1, xs, x3, x4, x5, x6, x7, x8, x9, us⟩, v2, v10⟩, ⟨hxs, hus⟩, q0, q1, q2, q3, q4, q5, q6, q7, q8, q9, q10⟩
   let f : Nat → ActT := fun i => if hil : i < len then (hu i hil).choose else t0
   have hf : ∀ i, i < len → (f i).Reads W ∧ W.cell? (a.add (i * 11 + 0)) = some (.int .i64 (f i).a.r) ∧ W.cell? (a.add (i * 11 + 1)) = some (.int .i64 (f i).a.n) ∧ W.cell? (a.add (i * 11 + 2)) = some (f i).vd ∧ W.cell? (a.add (i * 11 + 3)) = some (.int .i64 (f i).a.actor) ∧ W.cell? (a.add (i * 11 + 4)) = some (.int .i64 (f i).a.kind) ∧ W.cell? (a.add (i * 11 + 5)) = some (.int .i64 (f i).a.to) ∧ W.cell? (a.add (i * 11 + 6)) = some (.int .i64 (f i).a.bucket) ∧ W.cell? (a.add (i * 11 + 7)) = some (.int .i64 (f i).a.mask) ∧ W.cell? (a.add (i * 11 + 8)) = some (.int .i64 (f i).a.gr) ∧ W.cell? (a.add (i * 11 + 9)) = some (.int .i64 (f i).a.gn) ∧ W.cell? (a.add (i * 11 + 10)) = some (f i).vs := by
    intro i hil
    have := (hu i hil).choose_spec
    simp only [f, dif_pos hil]
    exact this
   have c0 := (hf 0 (by omega)).2.1
   have hs := World.cell?_spot c0
   have hb := cell_lt c0
   obtain ⟨b, off, spot⟩ := a
   simp only [Addr.add] at hs hb
   simp at hs
   subst hs
   have hadd : ∀ k, (Addr.add ⟨b, off, none⟩ k) = ⟨b, off + k, none⟩ := by
    intro k
    unfold Addr.add; split
    ·subst k; rfl
    ·rfl
   refine ⟨((List.range len).map f).map ActT.a, (List.range len).map f, rfl, fun t ht => ?_, .inr ⟨b, off, cap, by simp, by simpa using hb, by simpa using hl, hm, fun i hil => ?_⟩⟩
   ·obtain ⟨i, hi, rfl⟩ := List.mem_map.1 ht
    exact (hf i (by simpa using hi)).1
   ·have hil' : i < len := by simpa using hil
    have hg : ((List.range len).map f).getD i t0 = f i := by simp [List.getD, hil']
    rw [hg]
    obtain ⟨_, k0, k1, k2, k3, k4, k5, k6, k7, k8, k9, k10⟩ := hf i hil'
    simp only [hadd, Nat.add_zero] at k0 k1 k2 k3 k4 k5 k6 k7 k8 k9 k10
    exact ⟨k0, by rw [Nat.add_assoc]; exact k1, by rw [Nat.add_assoc]; exact k2, by rw [Nat.add_assoc]; exact k3, by rw [Nat.add_assoc]; exact k4, by rw [Nat.add_assoc]; exact k5, by rw [Nat.add_assoc]; exact k6, by rw [Nat.add_assoc]; exact k7, by rw [Nat.add_assoc]; exact k8, by rw [Nat.add_assoc]; exact k9, by rw [Nat.add_assoc]; exact k10⟩
end Go.Proofs.YtghgiefciijoeaaGreatDoor
namespace Go.Proofs.YtghgiefciijoeaaGreatDoor
open Go.RowKit
set_option linter.unusedVariables false
structure GrOn (bs : List Nat) (w w' : World) : Prop where
 os : w'.os = w.os
 tape : w'.tape = w.tape
 output : w'.output = w.output
 size : w.heap.size ≤ w'.heap.size
 same : ∀ k, k < w.heap.size → k ∉ bs → w'.heap[k]? = w.heap[k]?
theorem GrOn.refl (bs : List Nat) (w : World) : GrOn bs w w := ⟨rfl, rfl, rfl, Nat.le_refl _, fun _ _ _ => rfl⟩
theorem GrOn.trans {bs : List Nat} {a b c : World} (h : GrOn bs a b) (k : GrOn bs b c) : GrOn bs a c :=
 ⟨k.os.trans h.os, k.tape.trans h.tape, k.output.trans h.output, Nat.le_trans h.size k.size, fun i hi hn => (k.same i (Nat.lt_of_lt_of_le hi h.size) hn).trans (h.same i hi hn)⟩
theorem GrOn.sub {bs cs : List Nat} {a b : World} (h : GrOn bs a b) (hs : ∀ x ∈ bs, x ∈ cs) : GrOn cs a b := ⟨h.os, h.tape, h.output, h.size, fun k hk hn => h.same k hk (fun hm => hn (hs k hm))⟩
theorem GrOn.of_grown {g : Nat} {w w' : World} (h : w.grownBy w' (some g)) : GrOn [g] w w' := ⟨h.os, h.tape, h.output, h.size, fun k hk hn => h.block k hk (fun e => hn (by cases e; simp))⟩
theorem GrOn.of_below {w w' : World} (h : Below w.heap.size w w') (bs : List Nat) : GrOn bs w w' := ⟨h.os, h.tape, h.output, h.size, fun k hk _ => h.block k hk⟩
theorem GrOn.below {bs : List Nat} {w w' : World} {B : Nat} (h : GrOn bs w w') (hb : ∀ b ∈ bs, B ≤ b) (hB : B ≤ w.heap.size) : Below B w w' :=
 ⟨h.os, h.tape, h.output, h.size, fun k hk => h.same k (by omega) (fun hm => by have := hb k hm; omega)⟩
def OwnI (w : World) (ds : List Nat) (v : Value) (xs : List Int) : Prop := (xs = [] ∧ ds = [] ∧ ∃ a cap, v = .slice a 0 cap) ∨ ∃ d, ds = [d] ∧ 0 < xs.length ∧ Own w d v xs
def OwnP (w : World) (ds : List Nat) (v : Value) (us : List UpM) : Prop := (us = [] ∧ ds = [] ∧ ∃ a cap, v = .slice a 0 cap) ∨ ∃ d, ds = [d] ∧ 0 < us.length ∧ OwnU w d v us
theorem OwnI.ints {w : World} {ds : List Nat} {v : Value} {xs : List Int} (h : OwnI w ds v xs) : Ints w v xs := by
 rcases h with ⟨rfl, _, a, cap, rfl⟩ | ⟨d, _, _, h⟩
 ·exact .inl ⟨a, cap, rfl, rfl⟩
 ·exact own_ints h
theorem OwnP.ups {w : World} {ds : List Nat} {v : Value} {us : List UpM} (h : OwnP w ds v us) : Ups w v us := by
 rcases h with ⟨rfl, _, a, cap, rfl⟩ | ⟨d, _, _, h⟩
 ·exact .inl ⟨a, cap, rfl, rfl⟩
 ·exact ownU_ups h
theorem OwnI.keep {w w' : World} {ds : List Nat} {v : Value} {xs : List Int} (h : OwnI w ds v xs) (hk : ∀ b ∈ ds, w'.heap[b]? = w.heap[b]?) : OwnI w' ds v xs := by
 rcases h with h | ⟨d, rfl, hp, h⟩
 ·exact .inl h
 ·exact .inr ⟨d, rfl, hp, h.block fun _ => hk d (by simp)⟩
theorem OwnP.keep {w w' : World} {ds : List Nat} {v : Value} {us : List UpM} (h : OwnP w ds v us) (hk : ∀ b ∈ ds, w'.heap[b]? = w.heap[b]?) : OwnP w' ds v us := by
 rcases h with h | ⟨d, rfl, hp, h⟩
 ·exact .inl h
 ·exact .inr ⟨d, rfl, hp, h.block fun _ => hk d (by simp)⟩
theorem OwnI.lt {w : World} {ds : List Nat} {v : Value} {xs : List Int} (h : OwnI w ds v xs) : ∀ b ∈ ds, b < w.heap.size := by
 rcases h with ⟨_, rfl, _⟩ | ⟨d, rfl, hp, h⟩
 ·intro b hb; cases hb
 ·intro b hb; rw [List.mem_singleton.1 hb]; exact own_lt h hp
theorem OwnP.lt {w : World} {ds : List Nat} {v : Value} {us : List UpM} (h : OwnP w ds v us) : ∀ b ∈ ds, b < w.heap.size := by
 rcases h with ⟨_, rfl, _⟩ | ⟨d, rfl, hp, h⟩
 ·intro b hb; cases hb
 ·intro b hb; rw [List.mem_singleton.1 hb]; exact ownU_lt h hp
def Lists (w : World) : List ActT → List Nat → Prop
 | [], bs => bs = []
 | t :: ts, bs => ∃ ds us rest, bs = ds ++ us ++ rest ∧ OwnI w ds t.vd t.a.dep ∧ OwnP w us t.vs t.a.ups ∧ Lists w ts rest
theorem Lists.keep {w w' : World} : ∀ {ts : List ActT} {bs : List Nat}, Lists w ts bs → (∀ b ∈ bs, w'.heap[b]? = w.heap[b]?) → Lists w' ts bs
 | [], _, h, _ => h
 | t :: ts, bs, ⟨ds, us, rest, e, h1, h2, h3⟩, hk => by
  subst e
  exact ⟨ds, us, rest, rfl, h1.keep fun b hb => hk b (by simp [hb]), h2.keep fun b hb => hk b (by simp [hb]), h3.keep fun b hb => hk b (by simp [hb])⟩
theorem Lists.lt {w : World} : ∀ {ts : List ActT} {bs : List Nat}, Lists w ts bs → ∀ b ∈ bs, b < w.heap.size
 | [], bs, h, b, hb => by rw [h] at hb; cases hb
 | t :: ts, bs, ⟨ds, us, rest, e, h1, h2, h3⟩, b, hb => by
  subst e
  simp only [List.mem_append] at hb
  rcases hb with (hb | hb) | hb
  ·exact h1.lt b hb
  ·exact h2.lt b hb
  ·exact h3.lt b hb
theorem Lists.reads {w : World} : ∀ {ts : List ActT} {bs : List Nat}, Lists w ts bs → ∀ t ∈ ts, t.Reads w
 | [], _, _, t, ht => by cases ht
 | s :: ts, bs, ⟨ds, us, rest, e, h1, h2, h3⟩, t, ht => by
  rcases List.mem_cons.1 ht with rfl | ht
  ·exact ⟨h1.ints, h2.ups⟩
  ·exact h3.reads t ht
theorem Lists.snoc {w : World} : ∀ {ts : List ActT} {bs ds us : List Nat} {t : ActT}, Lists w ts bs → OwnI w ds t.vd t.a.dep → OwnP w us t.vs t.a.ups → Lists w (ts ++ [t]) (bs ++ (ds ++ us))
 | [], bs, ds, us, t, h, h1, h2 => by
  have hb : bs = [] := h
  subst hb
  exact ⟨ds, us, [], by simp, h1, h2, rfl⟩
 | s :: ts, bs, ds, us, t, ⟨ds', us', rest, e, q1, q2, q3⟩, h1, h2 => by
  subst e
  exact ⟨ds', us', rest ++ (ds ++ us), by simp, q1, q2, q3.snoc h1 h2⟩
theorem Chain.lists {w : World} : ∀ {ts : List ActT} {lo hi : Nat}, Chain w lo ts hi → ∃ bs, Lists w ts bs ∧ bs.Nodup ∧ ∀ b ∈ bs, lo ≤ b ∧ b < hi
 | [], lo, hi, _ => ⟨[], rfl, List.nodup_nil, fun b hb => by cases hb⟩
 | t :: ts, lo, hi, ⟨d, u, h1, h2, h3, h4, h5⟩ => by
  obtain ⟨rest, l1, l2, l3⟩ := h5.lists
  have hle := h5.le
  obtain ⟨ds, i1, i2, i3⟩ : ∃ ds, OwnI w ds t.vd t.a.dep ∧ ds.Nodup ∧ ∀ b ∈ ds, b = d := by
   by_cases hp : 0 < t.a.dep.length
   ·exact ⟨[d], .inr ⟨d, rfl, hp, h3⟩, by simp, fun b hb => List.mem_singleton.1 hb⟩
   ·refine ⟨[], .inl ⟨List.eq_nil_of_length_eq_zero (by omega), rfl, ?_⟩, List.nodup_nil, fun b hb => by cases hb⟩
    rcases h3 with ⟨a, cap, h, _⟩ | ⟨h, _⟩
    ·exact ⟨a, cap, h⟩
    ·omega
  obtain ⟨us, j1, j2, j3⟩ : ∃ us, OwnP w us t.vs t.a.ups ∧ us.Nodup ∧ ∀ b ∈ us, b = u := by
   by_cases hp : 0 < t.a.ups.length
   ·exact ⟨[u], .inr ⟨u, rfl, hp, h4⟩, by simp, fun b hb => List.mem_singleton.1 hb⟩
   ·refine ⟨[], .inl ⟨List.eq_nil_of_length_eq_zero (by omega), rfl, ?_⟩, List.nodup_nil, fun b hb => by cases hb⟩
    rcases h4 with ⟨a, cap, h, _⟩ | ⟨h, _⟩
    ·exact ⟨a, cap, h⟩
    ·omega
  refine ⟨ds ++ us ++ rest, ⟨ds, us, rest, rfl, i1, j1, l1⟩, ?_, ?_⟩
  ·rw [List.nodup_append, List.nodup_append]
   refine ⟨⟨i2, j2, fun a ha b hb => ?_⟩, l2, fun a ha b hb => ?_⟩
   ·have := i3 a ha; have := j3 b hb; omega
   ·have h9 := l3 b hb
    rcases List.mem_append.1 ha with ha | ha
    ·have := i3 a ha; omega
    ·have := j3 a ha; omega
  ·intro b hb
   simp only [List.mem_append] at hb
   rcases hb with (hb | hb) | hb
   ·have := i3 b hb; omega
   ·have := j3 b hb; omega
   ·have := l3 b hb; omega
def OwnL (w : World) (v : Value) (l : List ActM) (bs : List Nat) : Prop :=
 (l = [] ∧ bs = [] ∧ ∃ a cap, v = .slice a 0 cap) ∨
 ∃ (ts : List ActT) (g n cap : Nat) (cs : List Nat), ts.map ActT.a = l ∧ ts.length = n ∧ bs = g :: cs ∧ bs.Nodup ∧ v = .slice (some ⟨g, 0, none⟩) n cap ∧ w.ownsRow g 32 11 (.slice (some ⟨g, 0, none⟩) n cap) n (va ts) ∧ Lists w ts cs
theorem row_lt {w : World} {g e size n cap : Nat} {xs : List Value} (h : w.ownsRow g e size (.slice (some ⟨g, 0, none⟩) n cap) n xs) : g < w.heap.size := by
 obtain ⟨cs, cur, h⟩ := row_type h
 exact (Array.getElem?_eq_some_iff.1 h).1
theorem OwnL.lt {w : World} {v : Value} {l : List ActM} {bs : List Nat} (h : OwnL w v l bs) : ∀ b ∈ bs, b < w.heap.size := by
 rcases h with ⟨_, rfl, _⟩ | ⟨ts, g, n, cap, cs, _, _, rfl, _, rfl, ho, hl⟩
 ·intro b hb; cases hb
 ·intro b hb
  rcases List.mem_cons.1 hb with rfl | hb
  ·exact row_lt ho
  ·exact hl.lt b hb
theorem OwnL.keep {w w' : World} {v : Value} {l : List ActM} {bs : List Nat} (h : OwnL w v l bs) (hk : ∀ b ∈ bs, w'.heap[b]? = w.heap[b]?) : OwnL w' v l bs := by
 rcases h with h | ⟨ts, g, n, cap, cs, h1, h2, rfl, h4, rfl, ho, hl⟩
 ·exact .inl h
 ·exact .inr ⟨ts, g, n, cap, cs, h1, h2, rfl, h4, rfl, row_block ho (hk g (by simp)), hl.keep fun b hb => hk b (List.mem_cons_of_mem _ hb)⟩
theorem OwnL.below {w w' : World} {v : Value} {l : List ActM} {bs : List Nat} (h : OwnL w v l bs) (hb : Below w.heap.size w w') : OwnL w' v l bs := h.keep fun b hm => hb.block b (h.lt b hm)
theorem OwnL.other {w w' : World} {v : Value} {l : List ActM} {bs cs : List Nat} (h : OwnL w v l bs) (hg : GrOn cs w w') (hd : ∀ b ∈ bs, b ∉ cs) : OwnL w' v l bs := h.keep fun b hm => hg.same b (h.lt b hm) (hd b hm)
theorem OwnL.acts {w : World} {v : Value} {l : List ActM} {bs : List Nat} (h : OwnL w v l bs) : Acts w v l := by
 rcases h with ⟨rfl, _, a, cap, rfl⟩ | ⟨ts, g, n, cap, cs, h1, rfl, rfl, h4, rfl, ho, hl⟩
 ·exact acts_empty _ _ _
 ·refine ⟨ts, h1.symm, hl.reads, ?_⟩
  rcases ho.2 with ⟨h', hx⟩ | ⟨g', cap', cur, h', hbg, hg, hx, hy, _⟩
  ·simp at h'
  ·simp only [Value.slice.injEq, Option.some.injEq, Addr.mk.injEq, and_true, true_and] at h'
   obtain ⟨rfl, rfl⟩ := h'
   exact .inr ⟨_, 0, _, rfl, (Array.getElem?_eq_some_iff.1 hg).1, hx, hy, fun i hi => by rw [Nat.zero_add]; exact row_actAt ho i rfl hi⟩
theorem toMade_own {w w' : World} {l : List ActM} {e : Ending} (h : ToMade w l e w') : ∃ v bs, e = .returned v ∧ OwnL w' v l bs ∧ (∀ b ∈ bs, w.heap.size ≤ b) ∧ Below w.heap.size w w' := by
 obtain ⟨ts, hl, rfl, ho, hc, hb⟩ := h
 obtain ⟨cs, l1, l2, l3⟩ := hc.lists
 refine ⟨_, w.heap.size :: cs, rfl, .inr ⟨ts, _, _, _, cs, hl, rfl, rfl, List.nodup_cons.2 ⟨fun hm => by have := l3 _ hm; omega, l2⟩, rfl, ho, l1⟩, ?_, hb⟩
 intro b hm
 rcases List.mem_cons.1 hm with rfl | hm
 ·exact Nat.le_refl _
 ·have := l3 b hm; omega
end Go.Proofs.YtghgiefciijoeaaGreatDoor
namespace Go.Proofs.YtghgiefciijoeaaGreatDoor
open Go.RowKit
set_option linter.unusedVariables false
theorem own_I {w : World} {g : Nat} {v : Value} {xs : List Int} (h : Own w g v xs) (B : Nat) (hg : B ≤ g) : ∃ bs, OwnI w bs v xs ∧ bs.Nodup ∧ ∀ b ∈ bs, B ≤ b := by
 by_cases hp : 0 < xs.length
 ·exact ⟨[g], .inr ⟨g, rfl, hp, h⟩, by simp, fun b hb => by rw [List.mem_singleton.1 hb]; exact hg⟩
 ·rcases h with ⟨a, cap, h1, h2⟩ | ⟨h1, _⟩
  ·exact ⟨[], .inl ⟨h2, rfl, a, cap, h1⟩, List.nodup_nil, fun b hb => by cases hb⟩
  ·omega
theorem own_P {w : World} {g : Nat} {v : Value} {us : List UpM} (h : OwnU w g v us) (B : Nat) (hg : B ≤ g) : ∃ bs, OwnP w bs v us ∧ bs.Nodup ∧ ∀ b ∈ bs, B ≤ b := by
 by_cases hp : 0 < us.length
 ·exact ⟨[g], .inr ⟨g, rfl, hp, h⟩, by simp, fun b hb => by rw [List.mem_singleton.1 hb]; exact hg⟩
 ·rcases h with ⟨a, cap, h1, h2⟩ | ⟨h1, _⟩
  ·exact ⟨[], .inl ⟨h2, rfl, a, cap, h1⟩, List.nodup_nil, fun b hb => by cases hb⟩
  ·omega
theorem nodup_app {ds us : List Nat} {B : Nat} (h1 : ds.Nodup) (h2 : us.Nodup) (h3 : ∀ b ∈ ds, b < B) (h4 : ∀ b ∈ us, B ≤ b) : (ds ++ us).Nodup := by
 rw [List.nodup_append]
 refine ⟨h1, h2, fun a ha b hb => ?_⟩
 have := h3 a ha; have := h4 b hb; omega
def Copied (w : World) (a : ActM) (e : Ending) (w' : World) : Prop := ∃ (t : ActT) (ds us : List Nat), t.a = a ∧ e = .returned t.val ∧ OwnI w' ds t.vd t.a.dep ∧ OwnP w' us t.vs t.a.ups ∧ (ds ++ us).Nodup ∧ (∀ b ∈ ds ++ us, w.heap.size ≤ b) ∧ Below w.heap.size w w'
set_option maxRecDepth 100000 in
set_option maxHeartbeats 3200000 in
theorem copyAct_any (t : ActT) (w : World) (h : t.Reads w) (hs : t.a.Small) : Calls Tryz.prog 146 #[t.val] w (Copied w t.a) := by
 obtain ⟨i0, hi, hz0, hz1, hz2⟩ := info_parts Tryz.info3
 obtain ⟨i1, hj, hy0, hy1, hy2⟩ := info_parts Tryz.infoUp
 obtain ⟨⟨r, n, dep, actor, kind, dst, bucket, mask, gr, gn, ups⟩, vd, vs⟩ := t
 obtain ⟨hd, hu⟩ := h
 obtain ⟨s1, s2⟩ := hs
 simp only at hd hu s1 s2
 show Calls _ _ #[Value.agg #[.int .i64 r, .int .i64 n, vd, .int .i64 actor, .int .i64 kind, .int .i64 dst, .int .i64 bucket, .int .i64 mask, .int .i64 gr, .int .i64 gn, vs]] w (Copied w ⟨r, n, dep, actor, kind, dst, bucket, mask, gr, gn, ups⟩)
 have od := ints_one hd
 have ou := ups_one hu
 have b2 := (((Below.refl w.heap.size w).alloc (Nat.le_refl _) (.cells #[.int .i64 r, .int .i64 n, vd, .int .i64 actor, .int .i64 kind, .int .i64 dst, .int .i64 bucket, .int .i64 mask, .int .i64 gr, .int .i64 gn, vs] 32)).alloc (by simp) (.cells #[.int .i64 0, .int .i64 0, .slice none 0 0, .int .i64 0, .int .i64 0, .int .i64 0, .int .i64 0, .int .i64 0, .int .i64 0, .int .i64 0, .slice none 0 0] 32))
 have k0 := (Blk.new w #[.int .i64 r, .int .i64 n, vd, .int .i64 actor, .int .i64 kind, .int .i64 dst, .int .i64 bucket, .int .i64 mask, .int .i64 gr, .int .i64 gn, vs] 32).alloc (.cells #[.int .i64 0, .int .i64 0, .slice none 0 0, .int .i64 0, .int .i64 0, .int .i64 0, .int .i64 0, .int .i64 0, .int .i64 0, .int .i64 0, .slice none 0 0] 32)
 have k1 := Blk.new (w.alloc (.cells #[.int .i64 r, .int .i64 n, vd, .int .i64 actor, .int .i64 kind, .int .i64 dst, .int .i64 bucket, .int .i64 mask, .int .i64 gr, .int .i64 gn, vs] 32)) #[.int .i64 0, .int .i64 0, .slice none 0 0, .int .i64 0, .int .i64 0, .int .i64 0, .int .i64 0, .int .i64 0, .int .i64 0, .int .i64 0, .slice none 0 0] 32
 simp only [World.size_alloc] at k1
 have B2 := Lib.hid b2
 have K0 := Lib.hid k0
 have K1 := Lib.hid k1
 have HD := Lib.hid hd
 have HU := Lib.hid hu
 have OD := Lib.hid od
 have OU := Lib.hid ou
 clear b2 k0 k1 hd hu od ou
 go_enter Tryz.func146, Tryz.ntmps146
 go_upto_region 1 with (fail)
 obtain ⟨W2, hW2⟩ : ∃ W2, W2 = ((w.alloc (.cells #[.int .i64 r, .int .i64 n, vd, .int .i64 actor, .int .i64 kind, .int .i64 dst, .int .i64 bucket, .int .i64 mask, .int .i64 gr, .int .i64 gn, vs] 32)).alloc (.cells #[.int .i64 0, .int .i64 0, .slice none 0 0, .int .i64 0, .int .i64 0, .int .i64 0, .int .i64 0, .int .i64 0, .int .i64 0, .int .i64 0, .slice none 0 0] 32)) := ⟨_, rfl⟩
 rw [← hW2] at B2 K0 K1 ⊢
 have hsz : W2.heap.size = w.heap.size + 2 := by rw [hW2]; simp
 have HSZ := Lib.hid hsz
 clear hW2 hsz
 have c0 := K0.out.cell
 have l0 := K0.out.lt
 go_wp2_with (at_builtin; refine wpList_app rfl _ (.tmp 4) 29 rfl W2.heap.size 3 i0 (.int .i64 0) 1 8 Tryz.underlying29 hi hz0 hz1 hz2 rfl (by decide) (.slice none 0 0) vd 0 dep.length [] (vi dep) rfl rfl (World.ownsRow_nil _ _ _ _) (src_ints (HD.out.below (B := 0) B2.out)) (vi_one dep) (by unfold maxLen; omega) (by omega) (by simp) ?_)
 intro v1 w1 hown1 hgrow1 _
 try simp only [Nat.zero_add, List.nil_append] at hown1
 obtain ⟨a1, c1, rfl⟩ := row_shape hown1
 have G1 : W2.grownBy w1 none := hgrow1
 have hbw : Below W2.heap.size W2 w1 := (Below.refl _ _).grown G1 (Nat.le_refl _) (fun k hk => by cases hk)
 have K0b := Lib.hid (K0.out.below hbw K0.out.lt)
 have K1b := Lib.hid (K1.out.below hbw K1.out.lt)
 have B4 := Lib.hid (B2.out.trans (hbw.mono B2.out.size))
 obtain ⟨g, hg, hO⟩ := own_of_row rfl hown1
 obtain ⟨ds, hds, hdn, hdl⟩ := own_I hO _ hg
 have HO := Lib.hid hds
 have HDL : Hid (∀ b ∈ ds, w.heap.size + 2 ≤ b) := fun b hb => by have := HSZ.out; have := hdl b hb; omega
 have HDN := Lib.hid hdn
 clear hgrow1 G1 hown1 hO hg c0 l0 hbw hds hdn hdl
 have c2 := K0b.out.cell
 have f2 := K0b.out.free
 go_upto_region 2 with (fail)
 obtain ⟨W4, hW4⟩ : ∃ W4, W4 = w1.setCell ⟨w.heap.size, 2, none⟩ (.slice a1 dep.length c1) := ⟨_, rfl⟩
 have K0c : Hid (Blk W4 w.heap.size [.int .i64 r, .int .i64 n, .slice a1 dep.length c1, .int .i64 actor, .int .i64 kind, .int .i64 dst, .int .i64 bucket, .int .i64 mask, .int .i64 gr, .int .i64 gn, vs]) := by rw [hW4]; exact K0b.out.set (j := 2) (by simp) _
 have K1c : Hid (Blk W4 (w.heap.size + 1) [.int .i64 0, .int .i64 0, .slice none 0 0, .int .i64 0, .int .i64 0, .int .i64 0, .int .i64 0, .int .i64 0, .int .i64 0, .int .i64 0, .slice none 0 0]) := by rw [hW4]; exact K1b.out.other (by simp) _
 have B5 : Hid (Below w.heap.size w W4) := by rw [hW4]; exact B4.out.setCell (by simp) _
 have O1 : Hid (OwnI W4 ds (.slice a1 dep.length c1) dep) := by
  rw [hW4]
  exact HO.out.keep fun b hb => Below.heap_setCell _ _ _ _ (by have := HDL.out b hb; simp; omega)
 have L4 : w.heap.size + 2 ≤ W4.heap.size := by
  have := K1c.out.lt
  omega
 rw [← hW4]
 clear hW4 c2 f2 K0b K1b B4 HO K0 K1
 have c0 := K0c.out.cell
 have l0 := K0c.out.lt
 go_wp2_with (at_builtin; refine wpList_app rfl _ (.tmp 8) 30 rfl W4.heap.size 116 i1 _ 4 32 Tryz.underlying30 hj hy0 hy1 hy2 rfl (by decide) (.slice none 0 0) vs 0 ups.length [] (vu ups) rfl rfl (World.ownsRow_nil _ _ _ _) (src_ups (HU.out.below B5.out)) (vu_one ups) (by unfold maxLen; omega) (by omega) (by simp) ?_)
 intro v2 w2 hown2 hgrow2 _
 try simp only [Nat.zero_add, List.nil_append] at hown2
 obtain ⟨a2, c2, rfl⟩ := row_shape hown2
 have G2 : W4.grownBy w2 none := hgrow2
 have hbw : Below W4.heap.size W4 w2 := (Below.refl _ _).grown G2 (Nat.le_refl _) (fun k hk => by cases hk)
 have K0b := Lib.hid (K0c.out.below hbw K0c.out.lt)
 have K1b := Lib.hid (K1c.out.below hbw K1c.out.lt)
 have B7 := Lib.hid (B5.out.trans (hbw.mono B5.out.size))
 obtain ⟨g, hg, hO⟩ := ownU_of_row rfl hown2
 obtain ⟨us, hus, hun, hul⟩ := own_P hO _ hg
 have HP := Lib.hid hus
 have HUN := Lib.hid hun
 have HUL := Lib.hid hul
 have O4 := Lib.hid (O1.out.keep fun b hb => hbw.block b (O1.out.lt b hb))
 have HND := Lib.hid (nodup_app HDN.out HUN.out O1.out.lt HUL.out)
 have HGE : Hid (∀ b ∈ ds ++ us, w.heap.size + 2 ≤ b) := fun b hb => by
  rcases List.mem_append.1 hb with hb | hb
  ·exact HDL.out b hb
  ·have := HUL.out b hb; omega
 clear hgrow2 G2 hown2 hO hg c0 l0 hbw hus hun hul
 have d2 := K0b.out.cell
 have f2 := K0b.out.free
 go_upto_region 3 with (fail)
 obtain ⟨W6, hW6⟩ : ∃ W6, W6 = w2.setCell ⟨w.heap.size, 10, none⟩ (.slice a2 ups.length c2) := ⟨_, rfl⟩
 have K0d : Hid (Blk W6 w.heap.size [.int .i64 r, .int .i64 n, .slice a1 dep.length c1, .int .i64 actor, .int .i64 kind, .int .i64 dst, .int .i64 bucket, .int .i64 mask, .int .i64 gr, .int .i64 gn, .slice a2 ups.length c2]) := by rw [hW6]; exact K0b.out.set (j := 10) (by simp) _
 have K1d : Hid (Blk W6 (w.heap.size + 1) [.int .i64 0, .int .i64 0, .slice none 0 0, .int .i64 0, .int .i64 0, .int .i64 0, .int .i64 0, .int .i64 0, .int .i64 0, .int .i64 0, .slice none 0 0]) := by rw [hW6]; exact K1b.out.other (by simp) _
 have B8 : Hid (Below w.heap.size w W6) := by rw [hW6]; exact B7.out.setCell (by simp) _
 have O5 : Hid (OwnI W6 ds (.slice a1 dep.length c1) dep) := by
  rw [hW6]
  exact O4.out.keep fun b hb => Below.heap_setCell _ _ _ _ (by have := HDL.out b hb; simp; omega)
 have P5 : Hid (OwnP W6 us (.slice a2 ups.length c2) ups) := by
  rw [hW6]
  exact HP.out.keep fun b hb => Below.heap_setCell _ _ _ _ (by have := HGE.out b (by simp [hb]); simp; omega)
 rw [← hW6]
 clear hW6 d2 f2 K0b K1b B7 HP O4 O1 K0c K1c B5
 have c0 := K0d.out.cell
 have c9 := K1d.out.cell
 have f9 := K1d.out.free
 go_wp2
 refine bodyPost_ret (v := .agg #[.int .i64 r, .int .i64 n, .slice a1 dep.length c1, .int .i64 actor, .int .i64 kind, .int .i64 dst, .int .i64 bucket, .int .i64 mask, .int .i64 gr, .int .i64 gn, .slice a2 ups.length c2]) (by simp [results, Tryz.results146, go_sem, c9]) rfl ⟨⟨⟨r, n, dep, actor, kind, dst, bucket, mask, gr, gn, ups⟩, .slice a1 dep.length c1, .slice a2 ups.length c2⟩, ds, us, rfl, rfl, O5.out.keep fun b hb => ?_, P5.out.keep fun b hb => ?_, HND.out, fun b hb => by have := HGE.out b hb; omega, ?_⟩
 ·have := HGE.out b (by simp [hb])
  repeat rw [Below.heap_setCell _ _ _ _ (by simp; omega)]
 ·have := HGE.out b (by simp [hb])
  repeat rw [Below.heap_setCell _ _ _ _ (by simp; omega)]
 ·repeat (with_reducible refine Below.setCell ?_ ?_ _)
  all_goals (first | exact B8.out | (simp; done) | (simp; omega))
end Go.Proofs.YtghgiefciijoeaaGreatDoor
