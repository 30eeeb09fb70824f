/- sorted(): the story as a set. -/
import Derived.Test.YtkcfcmigcphjlaaGreatEA
import Derived.Test.YtkcfcmigcphjlaaGreatGC


namespace Go.Proofs.YtkcfcmigcphjlaaGreat
open Go.RowKit
set_option linter.unusedVariables false

theorem actsT_take {w : World} {b off n cap : Nat} {ts : List ActT} (h : ActsT w (.slice (some ⟨b, off, none⟩) n cap) ts) (k : Nat) (hk : k ≤ n) : ActsT w (.slice (some ⟨b, off, none⟩) k cap) (ts.take k) := by
  refine ⟨fun t ht => h.1 t (List.mem_of_mem_take ht), ?_⟩
  rcases h.2 with ⟨a, c, hv, hn⟩ | ⟨b', off', c, hv, hb, hl, hm, hc⟩
  · simp only [Value.slice.injEq] at hv
    obtain ⟨_, rfl, rfl⟩ := hv
    obtain rfl : k = 0 := by omega
    exact .inl ⟨_, _, rfl, by simp⟩
  · simp only [Value.slice.injEq, Option.some.injEq, Addr.mk.injEq, and_true] at hv
    obtain ⟨⟨rfl, rfl⟩, rfl, rfl⟩ := hv
    have e : (ts.take k).length = k := by rw [List.length_take]; omega
    refine .inr ⟨b, off, cap, by rw [e], hb, by rw [e]; omega, hm, fun i hi => ?_⟩
    rw [e] at hi
    have := hc i (by omega)
    rw [show (ts.take k).getD i t0 = ts.getD i t0 from by simp [List.getD, hi]]
    exact this
def storyL : List ActM := [sA1, sA2, sA3, sA4, sA5]
def sortL : List ActM := [sA1, sA2, sA3, sA5, sA4]
def srt (k : Nat) : List ActM := (storyL.take k).foldl (fun l a => (addM l 2 a).getD []) []
theorem srt_all : srt 5 = sortL := by decide +kernel
theorem srt_step (k : Nat) (h : k < 5) : addM (srt k) 2 (storyL.getD k act0) = some (srt (k + 1)) := by
  rcases (by omega : k = 0 ∨ k = 1 ∨ k = 2 ∨ k = 3 ∨ k = 4) with rfl | rfl | rfl | rfl | rfl <;> decide +kernel
theorem story_small (k : Nat) (h : k < 5) : (storyL.getD k act0).Small := by
  rcases (by omega : k = 0 ∨ k = 1 ∨ k = 2 ∨ k = 3 ∨ k = 4) with rfl | rfl | rfl | rfl | rfl <;> exact ⟨by decide, by decide⟩
def SortedMade (w : World) (e : Ending) (w' : World) : Prop := ∃ v, e = .returned v ∧ OwnActs w' w.heap.size v sortL ∧ Below w.heap.size w w'

set_option maxRecDepth 100000 in
set_option maxHeartbeats 3200000 in
theorem sorted_any (w : World) : Calls Tryz.prog 39 #[] w (SortedMade w) := by
  go_enter Tryz.func39, Tryz.ntmps39
  go_wp2_with fail
  refine (story_any w).mono ?_
  rintro e W ⟨d1, d2, d3, u3, d4, d5, u5, g, cc, rfl, ot, b0⟩
  obtain ⟨ts, hts⟩ : ∃ ts, ts = [sT sA1 d1 nil_, sT sA2 d2 nil_, sT sA3 d3 (one_ u3), sT sA4 d4 nil_, sT sA5 d5 (one_ u5)] := ⟨_, rfl⟩
  rw [← hts] at ot
  have TL := Lib.hid (show ts.length = 5 by rw [hts]; rfl)
  have TA := Lib.hid (show ts.map ActT.a = storyL by rw [hts]; rfl)
  have OT := Lib.hid ot
  have B0 := Lib.hid b0
  have hg := (own_at ot.1).2.2
  clear hts ot b0
  go_wp2
  go_loopw [1, 3] (fun sv i wr => ∃ (k : Nat) (v : Value), v = sv ∧ k ≤ 5 ∧ i = .int .i64 k ∧ Hid (OwnActs wr w.heap.size v (srt k)) ∧ Hid (OwnT wr w.heap.size (.slice (some ⟨g, 0, none⟩) 5 cc) ts) ∧ Hid (Below w.heap.size w wr)) (fun _ i _ => 5 - (intOf i).toNat)
  case atStart => exact ⟨0, _, rfl, Nat.zero_le _, rfl, ownActs_nil _ _, OT.out, B0.out⟩
  case round =>
    obtain ⟨k, v, hv, hk, rfl, ho, hst, hbel⟩ := hrel
    subst hv
    clear OT B0
    by_cases hlt : k < 5
    · have hkt : k < ts.length := by rw [TL.out]; exact hlt
      have at_ := row_actAt (TL.out ▸ (own_at hst.out.1).1) k TL.out hlt
      have HT := Lib.hid ((hst.out.2 _ (getD_mem hkt)).reads)
      have HE := Lib.hid (show (ts.getD k t0).a = storyL.getD k act0 by rw [← TA.out, getD_map hkt])
      obtain ⟨t, ht⟩ : ∃ t, t = ts.getD k t0 := ⟨_, rfl⟩
      rw [← ht] at at_ HT HE
      have HS := Lib.hid (show t.a.Small by rw [HE.out]; exact story_small k hlt)
      have AD := Lib.hid (show addM (srt k) 2 t.a = some (srt (k + 1)) by rw [HE.out]; exact srt_step k hlt)
      clear ht
      have CL := Lib.hid (addAct_any v (srt k) 2 t wr (ownActs_acts ho.out) (by omega) HT.out HS.out)
      obtain ⟨x, y, rfl⟩ := acts_len (ownActs_acts ho.out)
      simp only [ActT.val] at CL
      have c0 := at_.c0
      have c1 := at_.c1
      have c2 := at_.c2
      have c3 := at_.c3
      have c4 := at_.c4
      have c5 := at_.c5
      have c6 := at_.c6
      have c7 := at_.c7
      have c8 := at_.c8
      have c9 := at_.c9
      have c10 := at_.c10
      clear at_
      go_wp2_with fail
      refine CL.out.mono ?_
      rintro e w1 h1
      rcases h1 with ⟨hn, _⟩ | ⟨l, hl, v2, rfl, o2, b2⟩
      · rw [AD.out] at hn; cases hn
      · rw [AD.out] at hl
        injection hl with hl
        rw [← hl] at o2
        have O2 := Lib.hid (o2.less hbel.out.size)
        have S2 := Lib.hid (hst.out.below b2)
        have B2 := Lib.hid (hbel.out.trans (b2.mono hbel.out.size))
        obtain ⟨x2, y2, rfl⟩ := acts_len (ownActs_acts o2)
        clear o2 b2 hl c0 c1 c2 c3 c4 c5 c6 c7 c8 c9 c10 CL ho hst hbel
        go_wp2_with fail
        go_roundw
        case rel => exact ⟨k + 1, _, rfl, by omega, by go_num, O2.out, S2.out, B2.out⟩
        case measure => simp [intOf]; omega
    · obtain rfl : k = 5 := by omega
      have O2 := Lib.hid (show OwnActs wr w.heap.size v sortL from srt_all ▸ ho.out)
      clear ho
      go_wp2
      go_ret
      exact ⟨v, rfl, O2.out, hbel.out⟩
end Go.Proofs.YtkcfcmigcphjlaaGreat
