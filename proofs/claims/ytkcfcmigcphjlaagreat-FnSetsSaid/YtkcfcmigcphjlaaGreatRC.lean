/- The reference's DrawSetOk. -/
import Derived.Test.YtkcfcmigcphjlaaGreatRB
import Derived.Test.YtkcfcmigcphjlaaGreatGK


namespace Go.Proofs.YtkcfcmigcphjlaaGreat
open Go.RowKit
set_option linter.unusedVariables false

/-- acts that need not be a set, and how many places, in new memory -/
def DrawnX (w : World) (e : Ending) (w' : World) : Prop := ∃ (v : Value) (l : List ActM) (n : Int), e = .returned (.tuple #[v, .int .i64 n]) ∧ Acts w' v l ∧ SmallL l ∧ l.length ≤ 61 ∧ 0 ≤ n ∧ n ≤ 5 ∧ Below w.heap.size w w'
set_option maxHeartbeats 1600000 in
theorem drawSetOk_any (a : Option Addr) (len cap : Nat) (w : World) (hm : len ≤ 9223372036854775807) (hc : Code w w.heap.size a len) : Calls Tryz.prog 7 #[.slice a len cap] w (DrawnX w) := by
  have HC := Lib.hid hc
  clear hc
  go_enter Tryz.func7, Tryz.ntmps7
  go_wp2_with fail
  refine (new_any a len cap _ hm HC.out).mono ?_
  rintro e w1 ⟨B, rfl, hB, hcu, hb1⟩
  have C1 := Lib.hid hcu
  have B1 := Lib.hid hb1
  clear hcu hb1 HC
  go_wp2_with fail
  refine (l3bent_any B _ C1.out).mono ?_
  rintro e w2 ⟨v, tl, n, rfl, ht, hs, hl, h0, h5, hc, hg⟩
  obtain ⟨l, hll⟩ : ∃ l, l = tl.map ActT.a := ⟨_, rfl⟩
  have ha : Acts w2 v l := ⟨tl, hll, ht.now⟩
  rw [← hll] at hs
  rw [show tl.length = l.length from by rw [hll, List.length_map]] at hl
  clear hll ht
  obtain ⟨x, y, rfl⟩ := acts_len ha
  have B2 := Lib.hid (B1.out.grown hg B1.out.size (fun g e => by cases e; omega))
  have A2 := Lib.hid ha
  have S2 := Lib.hid hs
  have L2 := Lib.hid hl
  clear ha hs hl hc hg C1 B1
  go_wp2_with fail
  go_ret2
  exact ⟨_, l, n, rfl, A2.out, S2.out, L2.out, h0, h5, B2.out⟩
end Go.Proofs.YtkcfcmigcphjlaaGreat
