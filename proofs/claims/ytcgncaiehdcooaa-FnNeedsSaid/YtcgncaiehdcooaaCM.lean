/- The reference's Union, at all lists. -/
import Derived.Test.YtcgncaiehdcooaaCL
namespace Go.Proofs.Ytcgncaiehdcooaa
open Go.RowKit
set_option linter.unusedVariables false

set_option maxRecDepth 100000 in
set_option maxHeartbeats 1600000 in
theorem union_any (v v' : Value) (l m : List ActM) (n : Int) (w : World) (h : Acts w v l) (h' : Acts w v' m) (hn : -9223372036854775808 ≤ n ∧ n ≤ 9223372036854775807) :
    Calls Try.prog 46 #[v, v', .int .i64 n] w (Added w (unionM l m n)) := by
  cases h1 : setOkM l n
  · have HN := Lib.hid (show unionM l m n = none by rw [unionM, h1]; simp)
    have SO := Lib.hid (setOk_any v l n w h hn)
    rw [h1] at SO
    clear h1 h h'
    go_enter Try.func46, Try.ntmps46
    go_wp2_with fail
    refine SO.out.mono ?_
    rintro e w1 ⟨rfl, b1⟩
    have B1 := Lib.hid b1
    clear b1
    go_wp2_with fail
    go_ret2
    exact .inl ⟨HN.out, rfl, B1.out⟩
  · cases h2 : setOkM m n
    · have HN := Lib.hid (show unionM l m n = none by rw [unionM, h2]; simp)
      have SO := Lib.hid (setOk_any v l n w h hn)
      have SO2 := Lib.hid (fun W (hb : Below w.heap.size w W) => setOk_any v' m n W (h'.below hb) hn)
      rw [h1] at SO
      rw [h2] at SO2
      clear h1 h2 h h'
      go_enter Try.func46, Try.ntmps46
      go_wp2_with fail
      refine SO.out.mono ?_
      rintro e w1 ⟨rfl, b1⟩
      have B1 := Lib.hid b1
      clear b1
      go_wp2_with fail
      refine (SO2.out _ B1.out).mono ?_
      rintro e w2 ⟨rfl, b2⟩
      have B2 := Lib.hid (B1.out.trans (b2.mono B1.out.size))
      clear b2
      go_wp2_with fail
      go_ret2
      exact .inl ⟨HN.out, rfl, B2.out⟩
    · obtain ⟨ts, rfl, ht⟩ := h'
      obtain ⟨x, cap, rfl⟩ := actsT_len ht
      exact union_walk v l x _ cap ts n w h ht rfl hn h1 h2
end Go.Proofs.Ytcgncaiehdcooaa
