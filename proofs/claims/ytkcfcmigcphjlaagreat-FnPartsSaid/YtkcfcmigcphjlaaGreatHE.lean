/- The reference's l3clock at every list; the reference's ClockOf. -/
import Derived.Test.YtkcfcmigcphjlaaGreatGC


namespace Go.Proofs.YtkcfcmigcphjlaaGreat
open Go.RowKit
set_option linter.unusedVariables false

def ClockMade (w : World) (l : List ActM) (n : Nat) (e : Ending) (w' : World) : Prop :=
  e = .returned (.slice (some ⟨w.heap.size, 0, none⟩) n n) ∧ w'.ownsRow w.heap.size 3 1 (.slice (some ⟨w.heap.size, 0, none⟩) n n) n (vi (clockM l n)) ∧ Below w.heap.size w w'
set_option maxHeartbeats 800000 in
theorem l3clock_nil (a : Option Addr) (cap n : Nat) (w : World) (hn : n ≤ 4) : Calls Tryz.prog 112 #[.slice a 0 cap, .int .i64 n] w (ClockMade w [] n) := by
  obtain ⟨i0, hi, hz0, hz1, hz2⟩ := info_parts Tryz.info3
  have hmk : (Instr.makeSlice 27 (.int .i64 (n : Int)) (.int .i64 (n : Int))).run Tryz.prog w = .ok (.slice (some ⟨w.heap.size, 0, none⟩) n n) (w.alloc (.cells ((List.replicate n (0:Int)).map (Value.int .i64)).toArray 3)) := by
    have h := run_make (P := Tryz.prog) w 27 3 i0 (.int .i64 0) Tryz.underlying27 hi hz0 .i64 .i64 n n (by omega) (by omega) (by rw [hz2]; omega) (by omega)
    rw [hz1] at h
    simp only [Int.toNat_natCast] at h
    rw [made] at h
    exact h
  have hown0 : (w.alloc (.cells ((List.replicate n (0:Int)).map (Value.int .i64)).toArray 3)).ownsRow w.heap.size 3 1 (.slice (some ⟨w.heap.size, 0, none⟩) n n) n (vi (List.replicate n 0)) := by
    have := World.ownsRow_lit (size := 1) (e := 3) (base := w.heap.size) w ((List.replicate n (0:Int)).map (Value.int .i64)).toArray n (Nat.le_refl _) (by unfold maxLen; omega) (by simp)
    simpa [vi] using this
  have hbel0 : Below w.heap.size w (w.alloc (.cells ((List.replicate n (0:Int)).map (Value.int .i64)).toArray 3)) := (Below.refl _ _).alloc (Nat.le_refl _) _
  obtain ⟨W0, hW0⟩ : ∃ W0, W0 = (w.alloc (.cells ((List.replicate n (0:Int)).map (Value.int .i64)).toArray 3)) := ⟨_, rfl⟩
  rw [← hW0] at hmk hown0 hbel0
  have HO := Lib.hid hown0
  have HB := Lib.hid hbel0
  clear hi hz0 hz1 hz2 i0 hW0 hown0 hbel0
  go_enter Tryz.func112, Tryz.ntmps112
  go_wp2
  go_loop [6] (fun i => i = .int .i64 0) (fun _ => 0)
  case atStart => exact rfl
  case round =>
    obtain rfl := hrel
    go_wp2
    go_ret
    exact ⟨rfl, HO.out, HB.out⟩
theorem l3clock_any (v : Value) (l : List ActM) (n : Nat) (w : World) (hn : n ≤ 4) (h : Acts w v l) (hr : ∀ a ∈ l, 0 ≤ a.r ∧ a.r < n) : Calls Tryz.prog 112 #[v, .int .i64 n] w (ClockMade w l n) := by
  obtain ⟨ts, rfl, ht⟩ := h
  have hm := actsT_max ht
  rcases ht.2 with ⟨a, cap, rfl, rfl⟩ | ⟨b, off, cap, rfl, h1, h2, h3, h4⟩
  · exact l3clock_nil _ _ _ w hn
  · exact l3clock_some b off cap _ n ts w rfl hm hn h1 (fun i hi => hr _ (List.mem_map_of_mem (getD_mem hi))) h4
theorem clockM_length (l : List ActM) (n : Nat) : (clockM l n).length = n := by rw [clockM, clockFrom_length]; simp

def clockOfM (l : List ActM) (n : Int) : List Int := if setOkM l n = true then clockM l n.toNat else []
def MadeI (w : World) (xs : List Int) (e : Ending) (w' : World) : Prop := ∃ g v, e = .returned v ∧ w.heap.size ≤ g ∧ Own w' g v xs ∧ Below w.heap.size w w'
theorem setOk_bounds {l : List ActM} {n : Int} (h : setOkM l n = true) : ∃ m : Nat, n = m ∧ 1 ≤ m ∧ m ≤ 4 ∧ l.length ≤ 60 ∧ ∀ a ∈ l, 0 ≤ a.r ∧ a.r < m := by
  obtain ⟨h1, h2, h3, h4⟩ := setOk_all h
  obtain ⟨m, rfl⟩ : ∃ m : Nat, n = m := ⟨n.toNat, by omega⟩
  exact ⟨m, rfl, by omega, by omega, h3, fun a ha => by have := ok_parts (h4 a ha); omega⟩
theorem own_made {w : World} {g n : Nat} {xs : List Int} (hl : xs.length = n) (h1 : 1 ≤ n) (h : w.ownsRow g 3 1 (.slice (some ⟨g, 0, none⟩) n n) n (vi xs)) : Own w g (.slice (some ⟨g, 0, none⟩) n n) xs := by
  subst hl
  exact .inr ⟨by omega, _, rfl, h⟩

end Go.Proofs.YtkcfcmigcphjlaaGreat
