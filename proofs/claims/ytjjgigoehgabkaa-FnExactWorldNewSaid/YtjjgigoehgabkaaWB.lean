/- Houses that know nothing: in memory, alike, marked, held. -/
import Derived.Test.YtjjgigoehgabkaaWA
import Derived.Test.YtjjgigoehgabkaaNP
import Derived.StillTailTactics
import Derived.BigQuiet
import Derived.Deep.DeepCutAuto
namespace Go.Proofs.Ytjjgigoehgabkaa
open Go.RowKit
set_option linter.unusedVariables false
set_option linter.unusedSimpArgs false

/-- a house whose place knows nothing -/
structure HouseM where
  id : Int
  n : Int
  kept : ByteArray
  late : ByteArray
def HouseM.cells (h : HouseM) : List Value := [.int .i64 h.id, .int .i64 h.n, .slice none 0 0, .slice none 0 0, .slice none 0 0, .string h.kept, .string h.late]
def vh (l : List HouseM) : List Value := l.flatMap HouseM.cells
def h0 : HouseM := ⟨0, 0, ⟨#[]⟩, ⟨#[]⟩⟩
theorem vh_len (l : List HouseM) : (vh l).length = l.length * 7 := by
  induction l with
  | nil => rfl
  | cons h t ih => simp only [vh, List.flatMap_cons, List.length_append, List.length_cons] at ih ⊢; rw [ih]; simp [HouseM.cells]; omega
theorem vh_app (a b : List HouseM) : vh (a ++ b) = vh a ++ vh b := by simp [vh]
def mtb (k : Int) : ByteArray := ⟨(mtx k).toArray⟩
def mkM (k : Int) (j : Nat) : HouseM := ⟨k + 4 * j, k + 4 * j + 1, mtb (k + 4 * j + 2), mtb (k + 4 * j + 3)⟩
def mkN (k : Int) (n : Nat) : List HouseM := (List.range n).map (mkM k)
theorem mkN_succ (k : Int) (n : Nat) : mkN k (n + 1) = mkN k n ++ [mkM k n] := by simp [mkN, List.range_succ]
theorem mkN_len (k : Int) (n : Nat) : (mkN k n).length = n := by simp [mkN]
/-- a row in parts: what is behind, the one at hand, what is ahead -/
def part (A : List HouseM) (X : List Value) (C : List HouseM) : List Value := vh A ++ (X ++ vh C)
theorem part_at (A : List HouseM) (X : List Value) (C : List HouseM) (i j : Nat) (hi : A.length = i) (hj : j < X.length) : (part A X C)[i * 7 + j]? = X[j]? := by
  have h := vh_len A
  rw [part, List.getElem?_append_right (by omega), h, hi, show i * 7 + j - i * 7 = j by omega, List.getElem?_append_left hj]
theorem part_set (A : List HouseM) (X : List Value) (C : List HouseM) (i j : Nat) (v : Value) (hi : A.length = i) (hj : j < X.length) : (part A X C).set (i * 7 + j) v = part A (X.set j v) C := by
  have h := vh_len A
  rw [part, List.set_append_right _ _ (by omega), h, hi, show i * 7 + j - i * 7 = j by omega, List.set_append_left _ _ hj]
  rfl
theorem drop_h (l : List HouseM) (i : Nat) (h : i < l.length) : vh (l.drop i) = (l.getD i h0).cells ++ vh (l.drop (i + 1)) := by
  rw [List.drop_eq_getElem_cons h]
  unfold vh
  rw [List.flatMap_cons]
  simp [List.getD, h]

set_option maxRecDepth 100000 in
set_option maxHeartbeats 6400000 in
theorem markHouseS_any (g cap n : Nat) (l : List HouseM) (k : Int) (w : World) (hn : l.length = n) (hk : 0 < k) (hs : k + 4 * n ≤ 4000000000) (ho : w.ownsRow g 137 7 (.slice (some ⟨g, 0, none⟩) n cap) n (vh l)) :
    Calls Try.prog 125 #[.slice (some ⟨g, 0, none⟩) n cap, .int .i64 k] w fun e w' => e = .returned (.int .i64 (k + 4 * n)) ∧ w'.ownsRow g 137 7 (.slice (some ⟨g, 0, none⟩) n cap) n (vh (mkN k n)) ∧ w.grownBy w' (some g) := by
  have HN := Lib.hid hn
  have HO := Lib.hid ho
  clear hn ho
  go_enter Try.func125, Try.ntmps125
  go_wp2_with fail
  go_loopw [1, 5] (fun t i wr => ∃ j : Nat, j ≤ n ∧ i = .int .i64 j ∧ t = .int .i64 (k + 4 * j) ∧ Hid (wr.ownsRow g 137 7 (.slice (some ⟨g, 0, none⟩) n cap) n (part (mkN k j) [] (l.drop j))) ∧ Hid (w.grownBy wr (some g))) (fun _ i _ => n - (intOf i).toNat)
  case atStart => exact ⟨0, Nat.zero_le _, rfl, by simp, by simpa [part, mkN, vh, Hid] using HO.out, ⟨rfl, rfl, rfl, Nat.le_refl _, fun _ _ _ => rfl⟩⟩
  case round =>
    obtain ⟨j, hj, rfl, rfl, hr, hg⟩ := hrel
    clear HO
    by_cases hlt : j < n
    · have e0 : (0 : Int) ≤ (j : Int) := by omega
      have e1 : (j : Int) < (n : Int) := by omega
      have HA := Lib.hid (mkN_len k j)
      have R0 := hr.out
      have HC := Lib.hid (show part (mkN k j) [] (l.drop j) = part (mkN k j) (l.getD j h0).cells (l.drop (j + 1)) by simp only [part, List.nil_append]; rw [drop_h l j (by rw [HN.out]; exact hlt)])
      rw [HC.out] at R0
      obtain ⟨⟨x0, x1, x2, x3⟩, hx⟩ : ∃ x, x = l.getD j h0 := ⟨_, rfl⟩
      rw [← hx] at R0
      simp only [HouseM.cells] at R0
      obtain ⟨C, hC⟩ : ∃ C, C = l.drop (j + 1) := ⟨_, rfl⟩
      rw [← hC] at R0
      obtain ⟨A, hA⟩ : ∃ A, A = mkN k j := ⟨_, rfl⟩
      rw [← hA] at R0 HA
      have R0 := Lib.hid R0
      have HCC := Lib.hid hC
      have HAA := Lib.hid hA
      obtain ⟨q, hq⟩ : ∃ q : Int, q = k + 4 * j := ⟨_, rfl⟩
      rw [← hq]
      have q0 : 0 < q := by omega
      have q1 : q ≤ 3999999996 := by omega
      have HQ := Lib.hid hq
      clear hx hC hA HC hr hq
      have plt := (own_at R0.out).2.2
      have c0 := (R0.out.cellAt (j * 7 + 0) (by omega)).trans (part_at A _ C j 0 HA.out (by simp))
      simp only [List.getElem?_cons_zero, List.getElem?_cons_succ, Nat.add_zero] at c0
      have f0 := R0.out.frozenAt (j * 7)
      go_upto_region 5 with (fail)
      clear plt c0
      clear f0
      have ST := (R0.out.stored (j * 7 + 0) (.int .i64 q)).1
      rw [part_set A _ C j 0 _ HA.out (by simp)] at ST
      simp only [List.set_cons_zero, List.set_cons_succ, Nat.add_zero] at ST
      have SG := grown_then hg.out (grown_set (w := wr) g (j * 7) (.int .i64 q)) (fun g e => .inl (by cases e; rfl))
      obtain ⟨w1, hw⟩ : ∃ W, W = wr.setCell ⟨g, j * 7, none⟩ (.int .i64 q) := ⟨_, rfl⟩
      rw [← hw] at ST SG ⊢
      have R1 := Lib.hid ST
      have G1 := Lib.hid SG
      clear ST SG hw R0 hg
      have plt := (own_at R1.out).2.2
      have c1 := (R1.out.cellAt (j * 7 + 1) (by omega)).trans (part_at A _ C j 1 HA.out (by simp))
      simp only [List.getElem?_cons_zero, List.getElem?_cons_succ] at c1
      have f0 := R1.out.frozenAt (j * 7 + 1)
      go_upto_region 7 with (fail)
      clear plt c1
      clear f0
      have ST := (R1.out.stored (j * 7 + 1) (.int .i64 (q + 1))).1
      rw [part_set A _ C j 1 _ HA.out (by simp)] at ST
      simp only [List.set_cons_zero, List.set_cons_succ] at ST
      have SG := grown_then G1.out (grown_set (w := w1) g (j * 7 + 1) (.int .i64 (q + 1))) (fun g e => .inl (by cases e; rfl))
      obtain ⟨w2, hw⟩ : ∃ W, W = w1.setCell ⟨g, j * 7 + 1, none⟩ (.int .i64 (q + 1)) := ⟨_, rfl⟩
      rw [← hw] at ST SG ⊢
      have R2 := Lib.hid ST
      have G2 := Lib.hid SG
      clear ST SG hw R1 G1
      have plt := (own_at R2.out).2.2
      have c2 := (R2.out.cellAt (j * 7 + 2) (by omega)).trans (part_at A _ C j 2 HA.out (by simp))
      simp only [List.getElem?_cons_zero, List.getElem?_cons_succ] at c2
      go_wp2_with fail
      refine (markActS_none _ _).mono ?_
      rintro e w3 ⟨rfl, b3⟩
      clear plt c2
      have R3 := Lib.hid (row_grown (r := none) R2.out (below_grown b3 none) (fun g e => by cases e))
      have G3 := Lib.hid (grown_then G2.out (below_grown b3 none) (fun g e => by cases e))
      clear b3 R2 G2
      have plt := (own_at R3.out).2.2
      have c3 := (R3.out.cellAt (j * 7 + 3) (by omega)).trans (part_at A _ C j 3 HA.out (by simp))
      simp only [List.getElem?_cons_zero, List.getElem?_cons_succ] at c3
      go_wp2_with fail
      refine (markBoolS_none _ _).mono ?_
      rintro e w4 ⟨rfl, b4⟩
      clear plt c3
      have R4 := Lib.hid (row_grown (r := none) R3.out (below_grown b4 none) (fun g e => by cases e))
      have G4 := Lib.hid (grown_then G3.out (below_grown b4 none) (fun g e => by cases e))
      clear b4 R3 G3
      have plt := (own_at R4.out).2.2
      have c4 := (R4.out.cellAt (j * 7 + 4) (by omega)).trans (part_at A _ C j 4 HA.out (by simp))
      simp only [List.getElem?_cons_zero, List.getElem?_cons_succ] at c4
      go_wp2_with fail
      refine (markActS_none _ _).mono ?_
      rintro e w5 ⟨rfl, b5⟩
      clear plt c4
      have R5 := Lib.hid (row_grown (r := none) R4.out (below_grown b5 none) (fun g e => by cases e))
      have G5 := Lib.hid (grown_then G4.out (below_grown b5 none) (fun g e => by cases e))
      clear b5 R4 G4
      go_wp2_with fail
      refine (markText_any _ _ (by omega) (by omega)).mono ?_
      rintro e w6 ⟨rfl, b6⟩
      have R6 := Lib.hid (row_grown (r := none) R5.out (below_grown b6 none) (fun g e => by cases e))
      have G6 := Lib.hid (grown_then G5.out (below_grown b6 none) (fun g e => by cases e))
      clear b6 R5 G5
      have plt := (own_at R6.out).2.2
      have c5 := (R6.out.cellAt (j * 7 + 5) (by omega)).trans (part_at A _ C j 5 HA.out (by simp))
      simp only [List.getElem?_cons_zero, List.getElem?_cons_succ] at c5
      have f0 := R6.out.frozenAt (j * 7 + 5)
      go_upto_region 12 with (fail)
      clear plt c5
      clear f0
      have ST := (R6.out.stored (j * 7 + 5) (.string ⟨(mtx (q + 1 + 1)).toArray⟩)).1
      rw [part_set A _ C j 5 _ HA.out (by simp)] at ST
      simp only [List.set_cons_zero, List.set_cons_succ] at ST
      have SG := grown_then G6.out (grown_set (w := w6) g (j * 7 + 5) (.string ⟨(mtx (q + 1 + 1)).toArray⟩)) (fun g e => .inl (by cases e; rfl))
      obtain ⟨w7, hw⟩ : ∃ W, W = w6.setCell ⟨g, j * 7 + 5, none⟩ (.string ⟨(mtx (q + 1 + 1)).toArray⟩) := ⟨_, rfl⟩
      rw [← hw] at ST SG ⊢
      have R7 := Lib.hid ST
      have G7 := Lib.hid SG
      clear ST SG hw R6 G6
      go_wp2_with fail
      refine (markText_any _ _ (by omega) (by omega)).mono ?_
      rintro e w8 ⟨rfl, b8⟩
      have R8 := Lib.hid (row_grown (r := none) R7.out (below_grown b8 none) (fun g e => by cases e))
      have G8 := Lib.hid (grown_then G7.out (below_grown b8 none) (fun g e => by cases e))
      clear b8 R7 G7
      have plt := (own_at R8.out).2.2
      have c6 := (R8.out.cellAt (j * 7 + 6) (by omega)).trans (part_at A _ C j 6 HA.out (by simp))
      simp only [List.getElem?_cons_zero, List.getElem?_cons_succ] at c6
      have f0 := R8.out.frozenAt (j * 7 + 6)
      go_upto_region 14 with (fail)
      clear plt c6
      clear f0
      have ST := (R8.out.stored (j * 7 + 6) (.string ⟨(mtx (q + 1 + 1 + 1)).toArray⟩)).1
      rw [part_set A _ C j 6 _ HA.out (by simp)] at ST
      simp only [List.set_cons_zero, List.set_cons_succ] at ST
      have SG := grown_then G8.out (grown_set (w := w8) g (j * 7 + 6) (.string ⟨(mtx (q + 1 + 1 + 1)).toArray⟩)) (fun g e => .inl (by cases e; rfl))
      obtain ⟨w9, hw⟩ : ∃ W, W = w8.setCell ⟨g, j * 7 + 6, none⟩ (.string ⟨(mtx (q + 1 + 1 + 1)).toArray⟩) := ⟨_, rfl⟩
      rw [← hw] at ST SG ⊢
      have R9 := Lib.hid ST
      have G9 := Lib.hid SG
      clear ST SG hw R8 G8
      have RN : Hid (w9.ownsRow g 137 7 (.slice (some ⟨g, 0, none⟩) n cap) n (part (mkN k (j + 1)) [] (l.drop (j + 1)))) := by
        have e : part (mkN k (j + 1)) [] (l.drop (j + 1)) = part A [.int .i64 q, .int .i64 (q + 1), .slice none 0 0, .slice none 0 0, .slice none 0 0, .string ⟨(mtx (q + 1 + 1)).toArray⟩, .string ⟨(mtx (q + 1 + 1 + 1)).toArray⟩] C := by
          rw [mkN_succ, ← HCC.out, ← HAA.out]
          simp only [part, vh_app, List.nil_append, List.append_assoc]
          congr 1
          simp [vh, HouseM.cells, mkM, mtb, ← HQ.out, show q + 1 + 1 = q + 2 by omega, show q + 2 + 1 = q + 3 by omega]
        show World.ownsRow _ _ _ _ _ _ _
        rw [e]
        exact R9.out
      go_wp2_with fail
      go_roundw
      case rel => exact ⟨j + 1, by omega, by go_num, by have := HQ.out; first | (go_num; done) | (go_num; omega), RN.out, G9.out⟩
      case measure => simp [intOf]; omega
    · have hjn : j = n := by omega
      have RZ : Hid (wr.ownsRow g 137 7 (.slice (some ⟨g, 0, none⟩) n cap) n (vh (mkN k n))) := by
        have e : part (mkN k j) [] (l.drop j) = vh (mkN k n) := by
          rw [hjn, List.drop_of_length_le (by rw [HN.out]; exact Nat.le_refl _)]
          simp [part, vh]
        have := hr.out
        rw [e] at this
        exact this
      clear hr
      go_wp2_with fail
      go_ret
      exact ⟨by show Ending.returned (Value.int _ _) = _; rw [hjn], RZ.out, hg.out⟩
end Go.Proofs.Ytjjgigoehgabkaa
