/- The reference's l3find, l3clock. -/
import Derived.Test.YtcgncaiehdcooaaCA
namespace Go.Proofs.Ytcgncaiehdcooaa
open Go.RowKit
set_option linter.unusedVariables false

theorem drop_acts {l : List ActM} {k : Nat} (h : k < l.length) : l.drop k = l.getD k act0 :: l.drop (k + 1) := by
  rw [List.drop_eq_getElem_cons h]; simp [List.getD, h]
theorem drop_end {α : Type} {l : List α} {k : Nat} (h : l.length ≤ k) : l.drop k = [] := List.drop_eq_nil_of_le h
theorem drop_ts {ts : List ActT} {k : Nat} (h : k < ts.length) : (ts.map ActT.a).drop k = (ts.getD k t0).a :: (ts.map ActT.a).drop (k + 1) := by
  rw [drop_acts (by simpa using h), getD_map h]

/-- where the act with that place and number stands, counted from i -/
def findFrom (r n : Int) : List ActM → Nat → Int
  | [], _ => -1
  | a :: l, i => if a.r = r ∧ a.n = n then i else findFrom r n l (i + 1)
def findM (l : List ActM) (r n : Int) : Int := findFrom r n l 0

set_option maxHeartbeats 800000 in
theorem find_some (b off cap len : Nat) (ts : List ActT) (r n : Int) (w : World) (h1 : ts.length = len) (hl : len ≤ 9223372036854775807)
    (hc : ∀ i, i < len → ActAt w b (off + i * 11) (ts.getD i t0)) :
    Calls Try.prog 78 #[.slice (some ⟨b, off, none⟩) len cap, .int .i64 r, .int .i64 n] w fun e w' => e = .returned (.int .i64 (findM (ts.map ActT.a) r n)) ∧ w' = w := by
  have N1 := Lib.hid h1
  have HC := Lib.hid hc
  obtain ⟨R, hR⟩ : ∃ R, R = findM (ts.map ActT.a) r n := ⟨_, rfl⟩
  rw [← hR]
  have HR := Lib.hid hR
  clear h1 hc hR
  go_enter Try.func78, Try.ntmps78
  go_wp2
  go_loop [7] (fun i => ∃ k : Nat, k ≤ len ∧ i = .int .i64 k ∧ Hid (R = findFrom r n ((ts.map ActT.a).drop k) k)) (fun i => len - (intOf i).toNat)
  case atStart => exact ⟨0, Nat.zero_le _, rfl, HR.out⟩
  case round =>
    obtain ⟨k, hk, rfl, hg⟩ := hrel
    by_cases hlt : k < len
    · have at_ := HC.out k hlt
      have c0 := at_.c0
      have c1 := at_.c1
      have hst := hg.out
      rw [drop_ts (by rw [N1.out]; exact hlt), findFrom] at hst
      generalize ts.getD k t0 = t at *
      obtain ⟨⟨x0, x1, dep, x3, x4, x5, x6, x7, x8, x9, ups⟩, vd, vs⟩ := t
      simp only at c0 c1 hst
      clear at_ hg
      by_cases e0 : x0 = r
      · subst e0
        by_cases e1 : x1 = n
        · subst e1
          rw [if_pos ⟨rfl, rfl⟩] at hst
          have HST := Lib.hid hst
          clear hst
          go_wp2
          go_ret
          exact ⟨ret_int HST.out.symm, rfl⟩
        · rw [if_neg (fun h => e1 h.2)] at hst
          have HST := Lib.hid hst
          have e2 : (x1 == n) = false := by simpa using e1
          clear hst e1
          go_wp2
          go_round
          case rel => exact ⟨k + 1, by omega, by go_num, HST.out⟩
          case measure => simp [intOf]; omega
      · rw [if_neg (fun h => e0 h.1)] at hst
        have HST := Lib.hid hst
        have e2 : (x0 == r) = false := by simpa using e0
        clear hst e0
        go_wp2
        go_round
        case rel => exact ⟨k + 1, by omega, by go_num, HST.out⟩
        case measure => simp [intOf]; omega
    · have HST := Lib.hid (show R = -1 by rw [hg.out, drop_end (by simp; rw [N1.out]; omega)]; rfl)
      clear hg
      go_wp2
      go_ret
      exact ⟨ret_int HST.out.symm, rfl⟩
theorem find_nil (a : Option Addr) (cap : Nat) (r n : Int) (w : World) :
    Calls Try.prog 78 #[.slice a 0 cap, .int .i64 r, .int .i64 n] w fun e w' => e = .returned (.int .i64 (findM [] r n)) ∧ w' = w := by
  go_enter Try.func78, Try.ntmps78
  go_wp2
  go_loop [7] (fun i => i = .int .i64 0) (fun _ => 0)
  case atStart => rfl
  case round =>
    obtain rfl := hrel
    go_wp2
    go_ret
    exact ⟨rfl, rfl⟩
theorem find_any (v : Value) (l : List ActM) (r n : Int) (w : World) (h : Acts w v l) :
    Calls Try.prog 78 #[v, .int .i64 r, .int .i64 n] w fun e w' => e = .returned (.int .i64 (findM l r n)) ∧ w' = w := by
  obtain ⟨ts, rfl, ht⟩ := h
  have hm := actsT_max ht
  rcases ht.2 with ⟨a, cap, rfl, rfl⟩ | ⟨b, off, cap, rfl, h1, h2, h3, h4⟩
  · exact find_nil _ _ _ _ w
  · exact find_some b off cap _ ts r n w rfl hm h4

/-- how many acts of each place there are, added to v -/
def clockFrom : List ActM → List Int → List Int
  | [], v => v
  | a :: l, v => clockFrom l (v.set a.r.toNat (v.getD a.r.toNat 0 + 1))
def clockM (l : List ActM) (n : Nat) : List Int := clockFrom l (List.replicate n 0)
theorem clockFrom_length (l : List ActM) (v : List Int) : (clockFrom l v).length = v.length := by
  induction l generalizing v with
  | nil => rfl
  | cons a l ih => rw [clockFrom, ih]; simp
theorem vi_set (v : List Int) (i : Nat) (x : Int) : (vi v).set i (.int .i64 x) = vi (v.set i x) := by
  simp [vi, List.map_set]
theorem vi_getD (v : List Int) (i : Nat) (h : i < v.length) : (vi v)[i]? = some (.int .i64 (v.getD i 0)) := by
  simp [vi, List.getD, h]

set_option maxHeartbeats 1600000 in
theorem l3clock_some (b off cap len n : Nat) (ts : List ActT) (w : World) (h1 : ts.length = len) (hl : len ≤ 9223372036854775807) (hn : n ≤ 4) (hb : b < w.heap.size)
    (hr : ∀ i, i < len → 0 ≤ (ts.getD i t0).a.r ∧ (ts.getD i t0).a.r < n)
    (hc : ∀ i, i < len → ActAt w b (off + i * 11) (ts.getD i t0)) :
    Calls Try.prog 74 #[.slice (some ⟨b, off, none⟩) len cap, .int .i64 n] w fun e w' =>
      e = .returned (.slice (some ⟨w.heap.size, 0, none⟩) n n) ∧ w'.ownsRow w.heap.size 3 1 (.slice (some ⟨w.heap.size, 0, none⟩) n n) n (vi (clockM (ts.map ActT.a) n)) ∧ Below w.heap.size w w' := by
  obtain ⟨i0, hi, hz0, hz1, hz2⟩ := info_parts Try.info3
  have hmk : (Instr.makeSlice 23 (.int .i64 (n : Int)) (.int .i64 (n : Int))).run Try.prog w = .ok (.slice (some ⟨w.heap.size, 0, none⟩) n n) (w.alloc (.cells ((List.replicate n (0:Int)).map (Value.int .i64)).toArray 3)) := by
    have h := run_make (P := Try.prog) w 23 3 i0 (.int .i64 0) Try.underlying23 hi hz0 .i64 .i64 n n (by omega) (by omega) (by rw [hz2]; omega) (by omega)
    rw [hz1] at h
    simp only [Int.toNat_natCast] at h
    rw [made] at h
    exact h
  have hown0 : (w.alloc (.cells ((List.replicate n (0:Int)).map (Value.int .i64)).toArray 3)).ownsRow w.heap.size 3 1 (.slice (some ⟨w.heap.size, 0, none⟩) n n) n (vi (List.replicate n 0)) := by
    have := World.ownsRow_lit (size := 1) (e := 3) (base := w.heap.size) w ((List.replicate n (0:Int)).map (Value.int .i64)).toArray n (Nat.le_refl _) (by unfold maxLen; omega) (by simp)
    simpa [vi] using this
  have hbel0 : Below w.heap.size w (w.alloc (.cells ((List.replicate n (0:Int)).map (Value.int .i64)).toArray 3)) := (Below.refl _ _).alloc (Nat.le_refl _) _
  obtain ⟨W0, hW0⟩ : ∃ W0, W0 = (w.alloc (.cells ((List.replicate n (0:Int)).map (Value.int .i64)).toArray 3)) := ⟨_, rfl⟩
  rw [← hW0] at hmk hown0 hbel0
  clear hi hz0 hz1 hz2 i0 hW0
  have N1 := Lib.hid h1
  have HC := Lib.hid hc
  have HRg := Lib.hid hr
  obtain ⟨R, hR⟩ : ∃ R, R = clockM (ts.map ActT.a) n := ⟨_, rfl⟩
  rw [← hR]
  have HR := Lib.hid hR
  clear h1 hc hR hr
  go_enter Try.func74, Try.ntmps74
  go_wp2
  go_loopw [6] (fun i wr => ∃ (k : Nat) (v : List Int), k ≤ len ∧ i = .int .i64 k ∧ Hid (v.length = n) ∧ Hid (∀ j, 0 ≤ v.getD j 0 ∧ v.getD j 0 ≤ k) ∧ Hid (R = clockFrom ((ts.map ActT.a).drop k) v) ∧ Hid (wr.ownsRow w.heap.size 3 1 (.slice (some ⟨w.heap.size, 0, none⟩) n n) n (vi v)) ∧ Hid (Below w.heap.size w wr)) (fun i _ => len - (intOf i).toNat)
  case atStart => exact ⟨0, List.replicate n 0, Nat.zero_le _, rfl, (by show _ = _; simp), (by intro j; simp [List.getD]; grind), HR.out, hown0, hbel0⟩
  case round =>
    obtain ⟨k, v, hk, rfl, hvl, hv, hg, ho, hbel⟩ := hrel
    clear hmk hown0 hbel0
    by_cases hlt : k < len
    · have at_ := (HC.out k hlt).below hbel.out hb
      have c0 := at_.c0
      have hst := hg.out
      obtain ⟨r0, r1⟩ := HRg.out k hlt
      rw [drop_ts (by rw [N1.out]; exact hlt), clockFrom] at hst
      generalize ts.getD k t0 = t at *
      obtain ⟨⟨x0, x1, dep, x3, x4, x5, x6, x7, x8, x9, ups⟩, vd, vs⟩ := t
      simp only at c0 hst r0 r1
      clear at_ hg
      obtain ⟨j, rfl⟩ := Int.eq_ofNat_of_zero_le r0
      have hj : j < n := by omega
      have q := (ho.out.cellAt j (by omega)).trans (vi_getD v j (by rw [hvl.out]; exact hj))
      have f := ho.out.frozenAt j
      obtain ⟨y0, y1⟩ := hv.out j
      simp only [Int.toNat_natCast] at hst
      obtain ⟨y, hy⟩ : ∃ y, y = v.getD j 0 := ⟨_, rfl⟩
      rw [← hy] at q hst y0 y1
      have HO := Lib.hid ((ho.out.stored j (.int .i64 (y + 1))).1)
      rw [vi_set] at HO
      have HB := Lib.hid (hbel.out.setCell (p := ⟨w.heap.size, j, none⟩) (Nat.le_refl _) (.int .i64 (y + 1)))
      have HST := Lib.hid hst
      have HY := Lib.hid hy
      clear hst ho hbel hy
      go_wp2
      go_roundw
      case rel => exact ⟨k + 1, v.set j (y + 1), by omega, by go_num, (by show _ = _; simp [hvl.out]), (by
          intro i
          have h0 := hv.out i
          have h1 := hvl.out
          simp only [List.getD, List.getElem?_set] at h0 ⊢
          grind), HST.out, HO.out, HB.out⟩
      case measure => simp [intOf]; omega
    · have HST := Lib.hid (show R = v by rw [hg.out, drop_end (by simp; rw [N1.out]; omega)]; rfl)
      clear hg
      go_wp2
      go_ret
      exact ⟨rfl, by rw [HST.out]; exact ho.out, hbel.out⟩
end Go.Proofs.Ytcgncaiehdcooaa
