/- The reference's l2fields. -/
import Derived.Test.YtcgncaiehdcooaaAM
namespace Go.Proofs.Ytcgncaiehdcooaa
open Go.RowKit
set_option linter.unusedVariables false

set_option maxHeartbeats 1000000 in
set_option maxRecDepth 100000 in
theorem fields1 (r n actor kind to bucket mask gr gn : Int) (dep : List Int) (ups : List UpM) (vd : Value) (ua : Option Addr) (ul uc m : Nat) (w : World) (hn : dep.length = m) (hm4 : m ≤ 4) (hul : ups.length = ul) (hum : ul ≤ 9223372036854775807) :
    Calls Try.prog 57 #[.agg #[.int .i64 r, .int .i64 n, vd, .int .i64 actor, .int .i64 1, .int .i64 to, .int .i64 bucket, .int .i64 mask, .int .i64 gr, .int .i64 gn, .slice ua ul uc], .int .i64 m] w fun e w' => e = .returned (.bool (fieldsM ⟨r, n, dep, actor, 1, to, bucket, mask, gr, gn, ups⟩ m)) ∧ Below w.heap.size w w' := by
  have bb := Lib.hid ((Below.refl w.heap.size w).alloc (Nat.le_refl _) (.cells #[.int .i64 r, .int .i64 n, vd, .int .i64 actor, .int .i64 1, .int .i64 to, .int .i64 bucket, .int .i64 mask, .int .i64 gr, .int .i64 gn, .slice ua ul uc] 26))
  obtain ⟨R, hR⟩ : ∃ R, R = fieldsM ⟨r, n, dep, actor, 1, to, bucket, mask, gr, gn, ups⟩ m := ⟨_, rfl⟩
  rw [← hR]
  simp only [fieldsM, if_true, hul] at hR
  have MK := Lib.hid (fun w => mask_any r n actor 1 to bucket mask gr gn dep ups vd (.slice ua ul uc) w)
  obtain ⟨M, hM⟩ : ∃ M, M = maskM ⟨r, n, dep, actor, 1, to, bucket, mask, gr, gn, ups⟩ := ⟨_, rfl⟩
  rw [← hM] at hR MK
  clear hM
  by_cases q0 : 0 ≤ to
  · have d0 : decide (0 ≤ to) = true := by simp; try omega
    by_cases q1 : to < 6
    · have d1 : decide (to < 6) = true := by simp; try omega
      cases M
      · have HR := Lib.hid (show R = false by rw [hR]; simp [*])
        clear hR q0 q1
        go_enter Try.func57, Try.ntmps57
        go_wp2_with fail
        refine (MK.out _).mono ?_
        rintro e w1 ⟨rfl, b1⟩
        have k1 := ((Blk.new w #[.int .i64 r, .int .i64 n, vd, .int .i64 actor, .int .i64 1, .int .i64 to, .int .i64 bucket, .int .i64 mask, .int .i64 gr, .int .i64 gn, .slice ua ul uc] 26).below b1 (by simp)).cell
        have B1 := Lib.hid (bb.out.trans (b1.mono bb.out.size))
        clear b1
        go_wp2
        go_ret
        exact ⟨ret_bool HR.out.symm, B1.out⟩
      · skip
        by_cases q3 : gr = 0
        · have d3 : (gr == 0) = true := by simp; try omega
          by_cases q4 : gn = 0
          · have d4 : (gn == 0) = true := by simp; try omega
            by_cases q5 : ul = 0
            · have d5 : ((ul : Int) == 0) = true := by simp; try omega
              have HR := Lib.hid (show R = true by rw [hR]; simp [*])
              clear hR q0 q1 q3 q4 q5
              go_enter Try.func57, Try.ntmps57
              go_wp2_with fail
              refine (MK.out _).mono ?_
              rintro e w1 ⟨rfl, b1⟩
              have k1 := ((Blk.new w #[.int .i64 r, .int .i64 n, vd, .int .i64 actor, .int .i64 1, .int .i64 to, .int .i64 bucket, .int .i64 mask, .int .i64 gr, .int .i64 gn, .slice ua ul uc] 26).below b1 (by simp)).cell
              have B1 := Lib.hid (bb.out.trans (b1.mono bb.out.size))
              clear b1
              go_wp2
              go_ret
              exact ⟨ret_bool HR.out.symm, B1.out⟩
            · have d5 : ((ul : Int) == 0) = false := by simp; try omega
              have HR := Lib.hid (show R = false by rw [hR]; simp [*])
              clear hR q0 q1 q3 q4 q5
              go_enter Try.func57, Try.ntmps57
              go_wp2_with fail
              refine (MK.out _).mono ?_
              rintro e w1 ⟨rfl, b1⟩
              have k1 := ((Blk.new w #[.int .i64 r, .int .i64 n, vd, .int .i64 actor, .int .i64 1, .int .i64 to, .int .i64 bucket, .int .i64 mask, .int .i64 gr, .int .i64 gn, .slice ua ul uc] 26).below b1 (by simp)).cell
              have B1 := Lib.hid (bb.out.trans (b1.mono bb.out.size))
              clear b1
              go_wp2
              go_ret
              exact ⟨ret_bool HR.out.symm, B1.out⟩
          · have d4 : (gn == 0) = false := by simp; try omega
            have HR := Lib.hid (show R = false by rw [hR]; simp [*])
            clear hR q0 q1 q3 q4
            go_enter Try.func57, Try.ntmps57
            go_wp2_with fail
            refine (MK.out _).mono ?_
            rintro e w1 ⟨rfl, b1⟩
            have k1 := ((Blk.new w #[.int .i64 r, .int .i64 n, vd, .int .i64 actor, .int .i64 1, .int .i64 to, .int .i64 bucket, .int .i64 mask, .int .i64 gr, .int .i64 gn, .slice ua ul uc] 26).below b1 (by simp)).cell
            have B1 := Lib.hid (bb.out.trans (b1.mono bb.out.size))
            clear b1
            go_wp2
            go_ret
            exact ⟨ret_bool HR.out.symm, B1.out⟩
        · have d3 : (gr == 0) = false := by simp; try omega
          have HR := Lib.hid (show R = false by rw [hR]; simp [*])
          clear hR q0 q1 q3
          go_enter Try.func57, Try.ntmps57
          go_wp2_with fail
          refine (MK.out _).mono ?_
          rintro e w1 ⟨rfl, b1⟩
          have k1 := ((Blk.new w #[.int .i64 r, .int .i64 n, vd, .int .i64 actor, .int .i64 1, .int .i64 to, .int .i64 bucket, .int .i64 mask, .int .i64 gr, .int .i64 gn, .slice ua ul uc] 26).below b1 (by simp)).cell
          have B1 := Lib.hid (bb.out.trans (b1.mono bb.out.size))
          clear b1
          go_wp2
          go_ret
          exact ⟨ret_bool HR.out.symm, B1.out⟩
    · have d1 : decide (to < 6) = false := by simp; try omega
      have HR := Lib.hid (show R = false by rw [hR]; simp [*])
      clear hR q0 q1
      go_enter Try.func57, Try.ntmps57
      go_wp2
      go_ret
      exact ⟨ret_bool HR.out.symm, bb.out⟩
  · have d0 : decide (0 ≤ to) = false := by simp; try omega
    have HR := Lib.hid (show R = false by rw [hR]; simp [*])
    clear hR q0
    go_enter Try.func57, Try.ntmps57
    go_wp2
    go_ret
    exact ⟨ret_bool HR.out.symm, bb.out⟩

set_option maxHeartbeats 1000000 in
set_option maxRecDepth 100000 in
theorem fields3 (r n actor kind to bucket mask gr gn : Int) (dep : List Int) (ups : List UpM) (vd : Value) (ua : Option Addr) (ul uc m : Nat) (w : World) (hn : dep.length = m) (hm4 : m ≤ 4) (hul : ups.length = ul) (hum : ul ≤ 9223372036854775807) :
    Calls Try.prog 57 #[.agg #[.int .i64 r, .int .i64 n, vd, .int .i64 actor, .int .i64 3, .int .i64 to, .int .i64 bucket, .int .i64 mask, .int .i64 gr, .int .i64 gn, .slice ua ul uc], .int .i64 m] w fun e w' => e = .returned (.bool (fieldsM ⟨r, n, dep, actor, 3, to, bucket, mask, gr, gn, ups⟩ m)) ∧ Below w.heap.size w w' := by
  have bb := Lib.hid ((Below.refl w.heap.size w).alloc (Nat.le_refl _) (.cells #[.int .i64 r, .int .i64 n, vd, .int .i64 actor, .int .i64 3, .int .i64 to, .int .i64 bucket, .int .i64 mask, .int .i64 gr, .int .i64 gn, .slice ua ul uc] 26))
  obtain ⟨R, hR⟩ : ∃ R, R = fieldsM ⟨r, n, dep, actor, 3, to, bucket, mask, gr, gn, ups⟩ m := ⟨_, rfl⟩
  rw [← hR]
  simp only [fieldsM, show ¬ (3 : Int) = 1 by decide, show ¬ (3 : Int) = 2 by decide, if_false, if_true, hul] at hR
  have MK := Lib.hid (fun w => mask_any r n actor 3 to bucket mask gr gn dep ups vd (.slice ua ul uc) w)
  obtain ⟨M, hM⟩ : ∃ M, M = maskM ⟨r, n, dep, actor, 3, to, bucket, mask, gr, gn, ups⟩ := ⟨_, rfl⟩
  rw [← hM] at hR MK
  clear hM
  cases M
  · have HR := Lib.hid (show R = false by rw [hR]; simp [*])
    clear hR 
    go_enter Try.func57, Try.ntmps57
    go_wp2_with fail
    refine (MK.out _).mono ?_
    rintro e w1 ⟨rfl, b1⟩
    have k1 := ((Blk.new w #[.int .i64 r, .int .i64 n, vd, .int .i64 actor, .int .i64 3, .int .i64 to, .int .i64 bucket, .int .i64 mask, .int .i64 gr, .int .i64 gn, .slice ua ul uc] 26).below b1 (by simp)).cell
    have B1 := Lib.hid (bb.out.trans (b1.mono bb.out.size))
    clear b1
    go_wp2
    go_ret
    exact ⟨ret_bool HR.out.symm, B1.out⟩
  · skip
    by_cases q1 : to = 0
    · have d1 : (to == 0) = true := by simp; try omega
      by_cases q2 : gr = 0
      · have d2 : (gr == 0) = true := by simp; try omega
        by_cases q3 : gn = 0
        · have d3 : (gn == 0) = true := by simp; try omega
          by_cases q4 : ul = 0
          · have d4 : ((ul : Int) == 0) = true := by simp; try omega
            have HR := Lib.hid (show R = true by rw [hR]; simp [*])
            clear hR q1 q2 q3 q4
            go_enter Try.func57, Try.ntmps57
            go_wp2_with fail
            refine (MK.out _).mono ?_
            rintro e w1 ⟨rfl, b1⟩
            have k1 := ((Blk.new w #[.int .i64 r, .int .i64 n, vd, .int .i64 actor, .int .i64 3, .int .i64 to, .int .i64 bucket, .int .i64 mask, .int .i64 gr, .int .i64 gn, .slice ua ul uc] 26).below b1 (by simp)).cell
            have B1 := Lib.hid (bb.out.trans (b1.mono bb.out.size))
            clear b1
            go_wp2
            go_ret
            exact ⟨ret_bool HR.out.symm, B1.out⟩
          · have d4 : ((ul : Int) == 0) = false := by simp; try omega
            have HR := Lib.hid (show R = false by rw [hR]; simp [*])
            clear hR q1 q2 q3 q4
            go_enter Try.func57, Try.ntmps57
            go_wp2_with fail
            refine (MK.out _).mono ?_
            rintro e w1 ⟨rfl, b1⟩
            have k1 := ((Blk.new w #[.int .i64 r, .int .i64 n, vd, .int .i64 actor, .int .i64 3, .int .i64 to, .int .i64 bucket, .int .i64 mask, .int .i64 gr, .int .i64 gn, .slice ua ul uc] 26).below b1 (by simp)).cell
            have B1 := Lib.hid (bb.out.trans (b1.mono bb.out.size))
            clear b1
            go_wp2
            go_ret
            exact ⟨ret_bool HR.out.symm, B1.out⟩
        · have d3 : (gn == 0) = false := by simp; try omega
          have HR := Lib.hid (show R = false by rw [hR]; simp [*])
          clear hR q1 q2 q3
          go_enter Try.func57, Try.ntmps57
          go_wp2_with fail
          refine (MK.out _).mono ?_
          rintro e w1 ⟨rfl, b1⟩
          have k1 := ((Blk.new w #[.int .i64 r, .int .i64 n, vd, .int .i64 actor, .int .i64 3, .int .i64 to, .int .i64 bucket, .int .i64 mask, .int .i64 gr, .int .i64 gn, .slice ua ul uc] 26).below b1 (by simp)).cell
          have B1 := Lib.hid (bb.out.trans (b1.mono bb.out.size))
          clear b1
          go_wp2
          go_ret
          exact ⟨ret_bool HR.out.symm, B1.out⟩
      · have d2 : (gr == 0) = false := by simp; try omega
        have HR := Lib.hid (show R = false by rw [hR]; simp [*])
        clear hR q1 q2
        go_enter Try.func57, Try.ntmps57
        go_wp2_with fail
        refine (MK.out _).mono ?_
        rintro e w1 ⟨rfl, b1⟩
        have k1 := ((Blk.new w #[.int .i64 r, .int .i64 n, vd, .int .i64 actor, .int .i64 3, .int .i64 to, .int .i64 bucket, .int .i64 mask, .int .i64 gr, .int .i64 gn, .slice ua ul uc] 26).below b1 (by simp)).cell
        have B1 := Lib.hid (bb.out.trans (b1.mono bb.out.size))
        clear b1
        go_wp2
        go_ret
        exact ⟨ret_bool HR.out.symm, B1.out⟩
    · have d1 : (to == 0) = false := by simp; try omega
      have HR := Lib.hid (show R = false by rw [hR]; simp [*])
      clear hR q1
      go_enter Try.func57, Try.ntmps57
      go_wp2_with fail
      refine (MK.out _).mono ?_
      rintro e w1 ⟨rfl, b1⟩
      have k1 := ((Blk.new w #[.int .i64 r, .int .i64 n, vd, .int .i64 actor, .int .i64 3, .int .i64 to, .int .i64 bucket, .int .i64 mask, .int .i64 gr, .int .i64 gn, .slice ua ul uc] 26).below b1 (by simp)).cell
      have B1 := Lib.hid (bb.out.trans (b1.mono bb.out.size))
      clear b1
      go_wp2
      go_ret
      exact ⟨ret_bool HR.out.symm, B1.out⟩

set_option maxHeartbeats 1000000 in
set_option maxRecDepth 100000 in
theorem fields4 (r n actor kind to bucket mask gr gn : Int) (dep : List Int) (ups : List UpM) (vd : Value) (ua : Option Addr) (ul uc m : Nat) (w : World) (hn : dep.length = m) (hm4 : m ≤ 4) (hul : ups.length = ul) (hum : ul ≤ 9223372036854775807) (hs : Ups w (.slice ua ul uc) ups) :
    Calls Try.prog 57 #[.agg #[.int .i64 r, .int .i64 n, vd, .int .i64 actor, .int .i64 4, .int .i64 to, .int .i64 bucket, .int .i64 mask, .int .i64 gr, .int .i64 gn, .slice ua ul uc], .int .i64 m] w fun e w' => e = .returned (.bool (fieldsM ⟨r, n, dep, actor, 4, to, bucket, mask, gr, gn, ups⟩ m)) ∧ Below w.heap.size w w' := by
  have bb := Lib.hid ((Below.refl w.heap.size w).alloc (Nat.le_refl _) (.cells #[.int .i64 r, .int .i64 n, vd, .int .i64 actor, .int .i64 4, .int .i64 to, .int .i64 bucket, .int .i64 mask, .int .i64 gr, .int .i64 gn, .slice ua ul uc] 26))
  obtain ⟨R, hR⟩ : ∃ R, R = fieldsM ⟨r, n, dep, actor, 4, to, bucket, mask, gr, gn, ups⟩ m := ⟨_, rfl⟩
  rw [← hR]
  simp only [fieldsM, show ¬ (4 : Int) = 1 by decide, show ¬ (4 : Int) = 2 by decide, show ¬ (4 : Int) = 3 by decide, if_false, if_true, hul] at hR
  have US := Lib.hid (fun w h => ups_any (.slice ua ul uc) ups w h)
  have HSu := Lib.hid hs
  obtain ⟨M, hM⟩ : ∃ M, M = okUps ups := ⟨_, rfl⟩
  rw [← hM] at hR US
  clear hM hs
  cases M
  · have HR := Lib.hid (show R = false by rw [hR]; simp [*])
    clear hR 
    go_enter Try.func57, Try.ntmps57
    go_wp2_with fail
    refine (US.out _ (HSu.out.below bb.out)).mono ?_
    rintro e w1 ⟨rfl, b1⟩
    have k1 := ((Blk.new w #[.int .i64 r, .int .i64 n, vd, .int .i64 actor, .int .i64 4, .int .i64 to, .int .i64 bucket, .int .i64 mask, .int .i64 gr, .int .i64 gn, .slice ua ul uc] 26).below b1 (by simp)).cell
    have B1 := Lib.hid (bb.out.trans (b1.mono bb.out.size))
    clear b1
    go_wp2
    go_ret
    exact ⟨ret_bool HR.out.symm, B1.out⟩
  · skip
    by_cases q1 : to = 0
    · have d1 : (to == 0) = true := by simp; try omega
      by_cases q2 : bucket = 0
      · have d2 : (bucket == 0) = true := by simp; try omega
        by_cases q3 : mask = 0
        · have d3 : (mask == 0) = true := by simp; try omega
          by_cases q4 : gr = 0
          · have d4 : (gr == 0) = true := by simp; try omega
            by_cases q5 : gn = 0
            · have d5 : (gn == 0) = true := by simp; try omega
              have HR := Lib.hid (show R = true by rw [hR]; simp [*])
              clear hR q1 q2 q3 q4 q5
              go_enter Try.func57, Try.ntmps57
              go_wp2_with fail
              refine (US.out _ (HSu.out.below bb.out)).mono ?_
              rintro e w1 ⟨rfl, b1⟩
              have k1 := ((Blk.new w #[.int .i64 r, .int .i64 n, vd, .int .i64 actor, .int .i64 4, .int .i64 to, .int .i64 bucket, .int .i64 mask, .int .i64 gr, .int .i64 gn, .slice ua ul uc] 26).below b1 (by simp)).cell
              have B1 := Lib.hid (bb.out.trans (b1.mono bb.out.size))
              clear b1
              go_wp2
              go_ret
              exact ⟨ret_bool HR.out.symm, B1.out⟩
            · have d5 : (gn == 0) = false := by simp; try omega
              have HR := Lib.hid (show R = false by rw [hR]; simp [*])
              clear hR q1 q2 q3 q4 q5
              go_enter Try.func57, Try.ntmps57
              go_wp2_with fail
              refine (US.out _ (HSu.out.below bb.out)).mono ?_
              rintro e w1 ⟨rfl, b1⟩
              have k1 := ((Blk.new w #[.int .i64 r, .int .i64 n, vd, .int .i64 actor, .int .i64 4, .int .i64 to, .int .i64 bucket, .int .i64 mask, .int .i64 gr, .int .i64 gn, .slice ua ul uc] 26).below b1 (by simp)).cell
              have B1 := Lib.hid (bb.out.trans (b1.mono bb.out.size))
              clear b1
              go_wp2
              go_ret
              exact ⟨ret_bool HR.out.symm, B1.out⟩
          · have d4 : (gr == 0) = false := by simp; try omega
            have HR := Lib.hid (show R = false by rw [hR]; simp [*])
            clear hR q1 q2 q3 q4
            go_enter Try.func57, Try.ntmps57
            go_wp2_with fail
            refine (US.out _ (HSu.out.below bb.out)).mono ?_
            rintro e w1 ⟨rfl, b1⟩
            have k1 := ((Blk.new w #[.int .i64 r, .int .i64 n, vd, .int .i64 actor, .int .i64 4, .int .i64 to, .int .i64 bucket, .int .i64 mask, .int .i64 gr, .int .i64 gn, .slice ua ul uc] 26).below b1 (by simp)).cell
            have B1 := Lib.hid (bb.out.trans (b1.mono bb.out.size))
            clear b1
            go_wp2
            go_ret
            exact ⟨ret_bool HR.out.symm, B1.out⟩
        · have d3 : (mask == 0) = false := by simp; try omega
          have HR := Lib.hid (show R = false by rw [hR]; simp [*])
          clear hR q1 q2 q3
          go_enter Try.func57, Try.ntmps57
          go_wp2_with fail
          refine (US.out _ (HSu.out.below bb.out)).mono ?_
          rintro e w1 ⟨rfl, b1⟩
          have k1 := ((Blk.new w #[.int .i64 r, .int .i64 n, vd, .int .i64 actor, .int .i64 4, .int .i64 to, .int .i64 bucket, .int .i64 mask, .int .i64 gr, .int .i64 gn, .slice ua ul uc] 26).below b1 (by simp)).cell
          have B1 := Lib.hid (bb.out.trans (b1.mono bb.out.size))
          clear b1
          go_wp2
          go_ret
          exact ⟨ret_bool HR.out.symm, B1.out⟩
      · have d2 : (bucket == 0) = false := by simp; try omega
        have HR := Lib.hid (show R = false by rw [hR]; simp [*])
        clear hR q1 q2
        go_enter Try.func57, Try.ntmps57
        go_wp2_with fail
        refine (US.out _ (HSu.out.below bb.out)).mono ?_
        rintro e w1 ⟨rfl, b1⟩
        have k1 := ((Blk.new w #[.int .i64 r, .int .i64 n, vd, .int .i64 actor, .int .i64 4, .int .i64 to, .int .i64 bucket, .int .i64 mask, .int .i64 gr, .int .i64 gn, .slice ua ul uc] 26).below b1 (by simp)).cell
        have B1 := Lib.hid (bb.out.trans (b1.mono bb.out.size))
        clear b1
        go_wp2
        go_ret
        exact ⟨ret_bool HR.out.symm, B1.out⟩
    · have d1 : (to == 0) = false := by simp; try omega
      have HR := Lib.hid (show R = false by rw [hR]; simp [*])
      clear hR q1
      go_enter Try.func57, Try.ntmps57
      go_wp2_with fail
      refine (US.out _ (HSu.out.below bb.out)).mono ?_
      rintro e w1 ⟨rfl, b1⟩
      have k1 := ((Blk.new w #[.int .i64 r, .int .i64 n, vd, .int .i64 actor, .int .i64 4, .int .i64 to, .int .i64 bucket, .int .i64 mask, .int .i64 gr, .int .i64 gn, .slice ua ul uc] 26).below b1 (by simp)).cell
      have B1 := Lib.hid (bb.out.trans (b1.mono bb.out.size))
      clear b1
      go_wp2
      go_ret
      exact ⟨ret_bool HR.out.symm, B1.out⟩

set_option maxHeartbeats 1000000 in
set_option maxRecDepth 100000 in
theorem fields2 (r n actor kind to bucket mask gr gn : Int) (dep : List Int) (ups : List UpM) (vd : Value) (ua : Option Addr) (ul uc m : Nat) (w : World) (hn : dep.length = m) (hm4 : m ≤ 4) (hul : ups.length = ul) (hum : ul ≤ 9223372036854775807) (hd : Ints w vd dep) :
    Calls Try.prog 57 #[.agg #[.int .i64 r, .int .i64 n, vd, .int .i64 actor, .int .i64 2, .int .i64 to, .int .i64 bucket, .int .i64 mask, .int .i64 gr, .int .i64 gn, .slice ua ul uc], .int .i64 m] w fun e w' => e = .returned (.bool (fieldsM ⟨r, n, dep, actor, 2, to, bucket, mask, gr, gn, ups⟩ m)) ∧ Below w.heap.size w w' := by
  have bb := Lib.hid ((Below.refl w.heap.size w).alloc (Nat.le_refl _) (.cells #[.int .i64 r, .int .i64 n, vd, .int .i64 actor, .int .i64 2, .int .i64 to, .int .i64 bucket, .int .i64 mask, .int .i64 gr, .int .i64 gn, .slice ua ul uc] 26))
  obtain ⟨R, hR⟩ : ∃ R, R = fieldsM ⟨r, n, dep, actor, 2, to, bucket, mask, gr, gn, ups⟩ m := ⟨_, rfl⟩
  rw [← hR]
  simp only [fieldsM, show ¬ (2 : Int) = 1 by decide, if_false, if_true, hul] at hR
  have HD := Lib.hid hd
  clear hd
  by_cases q0 : 0 ≤ gr
  · have d0 : decide (0 ≤ gr) = true := by simp; try omega
    by_cases q1 : gr < (m : Int)
    · have d1 : decide (gr < (m : Int)) = true := by simp; try omega
      by_cases q2 : 1 ≤ gn
      · have d2 : decide (1 ≤ gn) = true := by simp; try omega
        obtain ⟨g, rfl⟩ := Int.eq_ofNat_of_zero_le q0
        have hg : g < dep.length := by omega
        have j0 : (0 : Int) ≤ g := by omega
        have j1 : (g : Int) < m := by omega
        simp only [Int.toNat_natCast] at hR
        obtain ⟨bD, oD, cD, hvd, hbD, hcD⟩ : ∃ bD oD cD, vd = .slice (some ⟨bD, oD, none⟩) m cD ∧ bD < w.heap.size ∧ w.cell? ⟨bD, oD + g, none⟩ = some (.int .i64 (dep.getD g 0)) := by
          rcases HD.out with ⟨a', c', _, e0⟩ | ⟨bD, oD, cD, hv, h1, _, _, h4⟩
          · rw [e0] at hg; simp at hg
          · exact ⟨bD, oD, cD, by rw [← hn]; exact hv, h1, h4 g hg⟩
        subst hvd
        clear HD
        obtain ⟨x, hx⟩ : ∃ x, dep.getD g 0 = x := ⟨_, rfl⟩
        simp only [hx] at hcD hR
        have HX := Lib.hid hx
        clear hx
        by_cases q3 : gn ≤ x
        · have d3 : decide (gn ≤ x) = true := by simp; try omega
          by_cases q4 : to = 0
          · have d4 : (to == 0) = true := by simp; try omega
            by_cases q5 : bucket = 0
            · have d5 : (bucket == 0) = true := by simp; try omega
              by_cases q6 : mask = 0
              · have d6 : (mask == 0) = true := by simp; try omega
                by_cases q7 : ul = 0
                · have d7 : ((ul : Int) == 0) = true := by simp; try omega
                  have HR := Lib.hid (show R = true by rw [hR]; simp [*])
                  clear hR q0 q1 q2 q3 q4 q5 q6 q7
                  go_enter Try.func57, Try.ntmps57
                  go_wp2
                  go_quiet (fail)
                  go_wp2
                  go_ret
                  exact ⟨ret_bool HR.out.symm, (below_drewN bb.out _)⟩
                · have d7 : ((ul : Int) == 0) = false := by simp; try omega
                  have HR := Lib.hid (show R = false by rw [hR]; simp [*])
                  clear hR q0 q1 q2 q3 q4 q5 q6 q7
                  go_enter Try.func57, Try.ntmps57
                  go_wp2
                  go_quiet (fail)
                  go_wp2
                  go_ret
                  exact ⟨ret_bool HR.out.symm, (below_drewN bb.out _)⟩
              · have d6 : (mask == 0) = false := by simp; try omega
                have HR := Lib.hid (show R = false by rw [hR]; simp [*])
                clear hR q0 q1 q2 q3 q4 q5 q6
                go_enter Try.func57, Try.ntmps57
                go_wp2
                go_quiet (fail)
                go_wp2
                go_ret
                exact ⟨ret_bool HR.out.symm, (below_drewN bb.out _)⟩
            · have d5 : (bucket == 0) = false := by simp; try omega
              have HR := Lib.hid (show R = false by rw [hR]; simp [*])
              clear hR q0 q1 q2 q3 q4 q5
              go_enter Try.func57, Try.ntmps57
              go_wp2
              go_quiet (fail)
              go_wp2
              go_ret
              exact ⟨ret_bool HR.out.symm, (below_drewN bb.out _)⟩
          · have d4 : (to == 0) = false := by simp; try omega
            have HR := Lib.hid (show R = false by rw [hR]; simp [*])
            clear hR q0 q1 q2 q3 q4
            go_enter Try.func57, Try.ntmps57
            go_wp2
            go_quiet (fail)
            go_wp2
            go_ret
            exact ⟨ret_bool HR.out.symm, (below_drewN bb.out _)⟩
        · have d3 : decide (gn ≤ x) = false := by simp; try omega
          have HR := Lib.hid (show R = false by rw [hR]; simp [*])
          clear hR q0 q1 q2 q3
          go_enter Try.func57, Try.ntmps57
          go_wp2
          go_quiet (fail)
          go_wp2
          go_ret
          exact ⟨ret_bool HR.out.symm, (below_drewN bb.out _)⟩
      · have d2 : decide (1 ≤ gn) = false := by simp; try omega
        have HR := Lib.hid (show R = false by rw [hR]; simp [*])
        clear hR q0 q1 q2
        go_enter Try.func57, Try.ntmps57
        go_wp2
        go_quiet (fail)
        go_wp2
        go_ret
        exact ⟨ret_bool HR.out.symm, (below_drewN bb.out _)⟩
    · have d1 : decide (gr < (m : Int)) = false := by simp; try omega
      have HR := Lib.hid (show R = false by rw [hR]; simp [*])
      clear hR q0 q1
      go_enter Try.func57, Try.ntmps57
      go_wp2
      go_quiet (fail)
      go_wp2
      go_ret
      exact ⟨ret_bool HR.out.symm, (below_drewN bb.out _)⟩
  · have d0 : decide (0 ≤ gr) = false := by simp; try omega
    have HR := Lib.hid (show R = false by rw [hR]; simp [*])
    clear hR q0
    go_enter Try.func57, Try.ntmps57
    go_wp2
    go_quiet (fail)
    go_wp2
    go_ret
    exact ⟨ret_bool HR.out.symm, (below_drewN bb.out _)⟩

end Go.Proofs.Ytcgncaiehdcooaa
