/- HE, KD. -/
import Derived.Test.YtcjoecjijmkbaaaGreatMN
import Derived.Test.YtcjoecjijmkbaaaGreatML

namespace Go.Proofs.YtcjoecjijmkbaaaGreat
open Go.RowKit
set_option linter.unusedVariables false
def ClockMade (w : World) (l : List ActM) (n : Nat) (e : Ending) (w' : World) : Prop :=
 e = .returned (.slice (some ⟨w.heap.size, 0, none⟩) n n) ∧ w'.ownsRow w.heap.size 3 1 (.slice (some ⟨w.heap.size, 0, none⟩) n n) n (vi (clockM l n)) ∧ Below w.heap.size w w'
set_option maxHeartbeats 800000 in
theorem l3clock_nil (a : Option Addr) (cap n : Nat) (w : World) (hn : n ≤ 4) : Calls Tryz.prog 61 #[.slice a 0 cap, .int .i64 n] w (ClockMade w [] n) := by
 obtain ⟨i0, hi, hz0, hz1, hz2⟩ := info_parts Tryz.info3
 have hmk : (Instr.makeSlice 24 (.int .i64 (n : Int)) (.int .i64 (n : Int))).run Tryz.prog w = .ok (.slice (some ⟨w.heap.size, 0, none⟩) n n) (w.alloc (.cells ((List.replicate n (0:Int)).map (Value.int .i64)).toArray 3)) := by
  have h := run_make (P := Tryz.prog) w 24 3 i0 (.int .i64 0) Tryz.underlying24 hi hz0 .i64 .i64 n n (by omega) (by omega) (by rw [hz2]; omega) (by omega)
  rw [hz1] at h
  simp only [Int.toNat_natCast] at h
  rw [made] at h
  exact h
 have hown0 : (w.alloc (.cells ((List.replicate n (0:Int)).map (Value.int .i64)).toArray 3)).ownsRow w.heap.size 3 1 (.slice (some ⟨w.heap.size, 0, none⟩) n n) n (vi (List.replicate n 0)) := by
  have := World.ownsRow_lit (size := 1) (e := 3) (base := w.heap.size) w ((List.replicate n (0:Int)).map (Value.int .i64)).toArray n (Nat.le_refl _) (by unfold maxLen; omega) (by simp)
  simpa [vi] using this
 have hbel0 : Below w.heap.size w (w.alloc (.cells ((List.replicate n (0:Int)).map (Value.int .i64)).toArray 3)) := (Below.refl _ _).alloc (Nat.le_refl _) _
 obtain ⟨W0, hW0⟩ : ∃ W0, W0 = (w.alloc (.cells ((List.replicate n (0:Int)).map (Value.int .i64)).toArray 3)) := ⟨_, rfl⟩
 rw [← hW0] at hmk hown0 hbel0
 have HO := Lib.hid hown0
 have HB := Lib.hid hbel0
 clear hi hz0 hz1 hz2 i0 hW0 hown0 hbel0
 go_enter Tryz.func61, Tryz.ntmps61
 go_wp2
 go_loop [6] (fun i => i = .int .i64 0) (fun _ => 0)
 case atStart => exact rfl
 case round =>
  obtain rfl := hrel
  go_wp2
  go_ret
  exact ⟨rfl, HO.out, HB.out⟩
theorem l3clock_any (v : Value) (l : List ActM) (n : Nat) (w : World) (hn : n ≤ 4) (h : Acts w v l) (hr : ∀ a ∈ l, 0 ≤ a.r ∧ a.r < n) : Calls Tryz.prog 61 #[v, .int .i64 n] w (ClockMade w l n) := by
 obtain ⟨ts, rfl, ht⟩ := h
 have hm := actsT_max ht
 rcases ht.2 with ⟨a, cap, rfl, rfl⟩ | ⟨b, off, cap, rfl, h1, h2, h3, h4⟩
 ·exact l3clock_nil _ _ _ w hn
 ·exact l3clock_some b off cap _ n ts w rfl hm hn h1 (fun i hi => hr _ (List.mem_map_of_mem (getD_mem hi))) h4
theorem clockM_length (l : List ActM) (n : Nat) : (clockM l n).length = n := by rw [clockM, clockFrom_length]; simp
def clockOfM (l : List ActM) (n : Int) : List Int := if setOkM l n = true then clockM l n.toNat else []
def MadeI (w : World) (xs : List Int) (e : Ending) (w' : World) : Prop := ∃ g v, e = .returned v ∧ w.heap.size ≤ g ∧ Own w' g v xs ∧ Below w.heap.size w w'
theorem setOk_bounds {l : List ActM} {n : Int} (h : setOkM l n = true) : ∃ m : Nat, n = m ∧ 1 ≤ m ∧ m ≤ 4 ∧ l.length ≤ 60 ∧ ∀ a ∈ l, 0 ≤ a.r ∧ a.r < m := by
 obtain ⟨h1, h2, h3, h4⟩ := setOk_all h
 obtain ⟨m, rfl⟩ : ∃ m : Nat, n = m := ⟨n.toNat, by omega⟩
 exact ⟨m, rfl, by omega, by omega, h3, fun a ha => by have := ok_parts (h4 a ha); omega⟩
theorem own_made {w : World} {g n : Nat} {xs : List Int} (hl : xs.length = n) (h1 : 1 ≤ n) (h : w.ownsRow g 3 1 (.slice (some ⟨g, 0, none⟩) n n) n (vi xs)) : Own w g (.slice (some ⟨g, 0, none⟩) n n) xs := by
 subst hl
 exact .inr ⟨by omega, _, rfl, h⟩
set_option maxHeartbeats 800000 in
theorem specClockOf_any (v : Value) (l : List ActM) (n : Int) (w : World) (h : Acts w v l) (hn : -9223372036854775808 ≤ n ∧ n ≤ 9223372036854775807) :
  Calls Tryz.prog 79 #[v, .int .i64 n] w (MadeI w (clockOfM l n)) := by
 obtain ⟨a, cap, rfl⟩ := acts_len h
 have CS := Lib.hid (setOk_any _ l n w h hn)
 have HA := Lib.hid h
 clear h
 obtain ⟨K, hK⟩ : ∃ K, K = l.length := ⟨_, rfl⟩
 rw [← hK] at CS HA ⊢
 clear hK
 by_cases hs : setOkM l n = true
 ·rw [show clockOfM l n = clockM l n.toNat from if_pos hs]
  obtain ⟨m, rfl, h1, h4, h60, hr⟩ := setOk_bounds hs
  rw [hs] at CS
  have HR := Lib.hid hr
  have CL := Lib.hid (clockM_length l m)
  have L3 := Lib.hid (fun W u (h : Acts W u l) => l3clock_any u l m W h4 h hr)
  rw [Int.toNat_natCast]
  unfold ClockMade at L3
  obtain ⟨X, hX⟩ : ∃ X, X = clockM l m := ⟨_, rfl⟩
  rw [← hX] at CL ⊢
  simp only [← hX] at L3
  clear hs hr hX
  go_enter Tryz.func79, Tryz.ntmps79
  go_wp2_with fail
  refine CS.out.mono ?_
  rintro e w1 ⟨rfl, b1⟩
  have A1 := Lib.hid (HA.out.below b1)
  have B1 := Lib.hid b1
  clear b1
  go_wp2_with fail
  refine (L3.out _ _ A1.out).mono ?_
  rintro e w2 ⟨rfl, o2, b2⟩
  have O2 := Lib.hid (own_made CL.out h1 o2)
  have B2 := Lib.hid (B1.out.trans (b2.mono B1.out.size))
  clear o2 b2
  go_wp2
  go_ret
  exact ⟨w1.heap.size, _, rfl, B1.out.size, O2.out, B2.out⟩
 ·rw [show clockOfM l n = [] from if_neg hs]
  rw [show setOkM l n = false by simpa using hs] at CS
  clear hs
  go_enter Tryz.func79, Tryz.ntmps79
  go_wp2_with fail
  refine CS.out.mono ?_
  rintro e w1 ⟨rfl, b1⟩
  have B1 := Lib.hid b1
  clear b1
  go_wp2
  go_ret
  exact ⟨w.heap.size, _, rfl, Nat.le_refl _, .inl ⟨_, _, rfl, rfl⟩, B1.out⟩
end Go.Proofs.YtcjoecjijmkbaaaGreat
namespace Go.Proofs.YtcjoecjijmkbaaaGreat
set_option linter.unusedVariables false
def cutB (l : List ActM) (n : Int) (xs : List Int) : Bool := setOkM l n && okB xs && decide ((xs.length : Int) = n)
theorem cutB_iff (l : List ActM) (n : Int) (xs : List Int) : cutB l n xs = true ↔ setOkM l n = true ∧ okB xs = true ∧ (xs.length : Int) = n := by simp [cutB, and_assoc]
end Go.Proofs.YtcjoecjijmkbaaaGreat
