/- The reference's l10all. -/
import Derived.Test.YtjjgigoehgabkaaDoorYB
import Derived.Test.YtjjgigoehgabkaaDoorYD


namespace Go.Proofs.YtjjgigoehgabkaaDoor
open Go.RowKit
set_option linter.unusedVariables false
set_option linter.unusedSimpArgs false

theorem ints_get {w : World} {a : Option Addr} {n cap : Nat} {xs : List Int} (h : Ints w (.slice a n cap) xs) (k : Nat) (hk : k < n) : ∃ b off, a = some ⟨b, off, none⟩ ∧ b < w.heap.size ∧ w.cell? ⟨b, off + k, none⟩ = some (.int .i64 (xs.getD k 0)) := by
  rcases h with ⟨a', cap', h1, rfl⟩ | ⟨b, off, cap', h1, h2, h3, h4, h5⟩
  · simp only [Value.slice.injEq] at h1; omega
  · simp only [Value.slice.injEq] at h1
    exact ⟨b, off, h1.1, h2, h5 k (by omega)⟩
theorem text_bound (xs : List Int) (k : Nat) (h : ∀ x ∈ xs, IntB x) (hl : xs.length ≤ 8388608) : (textM (xs.take k)).length ≤ 184549376 := by
  have h1 := text_len (xs.take k) (fun x hx => h x (List.mem_of_mem_take hx))
  have h2 : (xs.take k).length ≤ xs.length := by rw [List.length_take]; omega
  omega

set_option maxRecDepth 100000 in
set_option maxHeartbeats 3200000 in
theorem all_any (v : Value) (xs : List Int) (w : World) (h : Ints w v xs) (hB : ∀ x ∈ xs, IntB x) (hl : xs.length ≤ 8388608) :
    Calls Tryd.prog 20 #[v] w fun e w' => e = .returned (.string ⟨(textM xs).toArray⟩) ∧ Below w.heap.size w w' := by
  obtain ⟨a, cap, rfl⟩ := ints_len h
  have GET := Lib.hid (fun k hk => ints_get h k hk)
  have TB := Lib.hid (fun k => text_bound xs k hB hl)
  have ST := Lib.hid (fun k (hk : k < xs.length) (h0 : 0 < k) => text_take xs k hk h0)
  have EL := Lib.hid (fun k (hk : k < xs.length) => hB (xs.getD k 0) (by simp [List.getD, hk]))
  have DONE := Lib.hid (fun k (hk : xs.length ≤ k) => (show xs.take k = xs from List.take_of_length_le hk))
  have S0 : Hid (0 < xs.length → textM (xs.take 1) = Lib.itoa (xs.getD 0 0)) := fun h0 => by
    cases xs with
    | nil => simp at h0
    | cons x r => exact text_first x r
  obtain ⟨n, hn⟩ : ∃ n, n = xs.length := ⟨_, rfl⟩
  rw [← hn] at GET ST EL DONE hl S0 ⊢
  clear h hB hn
  have a1 : ∀ a b : List UInt8, (⟨a.toArray⟩ : ByteArray) ++ ⟨b.toArray⟩ = ⟨(a ++ b).toArray⟩ := app_bytes
  have a2 : ∀ a : List UInt8, (⟨a.toArray⟩ : ByteArray) ++ ⟨#[32]⟩ = ⟨(a ++ [32]).toArray⟩ := fun a => app_bytes a [32]
  go_enter Tryd.func20, Tryd.ntmps20
  go_wp2_with fail
  go_loopw [3, 4] (fun s i wr => ∃ k : Nat, k ≤ n ∧ s = .string ⟨(textM (xs.take k)).toArray⟩ ∧ i = .int .i64 k ∧ Hid (Below w.heap.size w wr)) (fun _ i _ => n - (intOf i).toNat)
  case atStart => exact ⟨0, Nat.zero_le _, rfl, rfl, Below.refl _ _⟩
  case round =>
    obtain ⟨k, hk, rfl, rfl, hb⟩ := hrel
    by_cases hlt : k < n
    · obtain ⟨b, off, ha, hbs, hc⟩ := GET.out k hlt
      subst ha
      have hcw := (hb.out.cell (p := ⟨b, off + k, none⟩) hbs).trans hc
      have hx := EL.out k hlt
      have hil := Lib.itoa_length_le _ hx.1 hx.2
      have htl := TB.out k
      have DX := Lib.hid (fun W => dec_any (xs.getD k 0) W hx.1 hx.2)
      have i0 : (0 : Int) ≤ (k : Int) := by omega
      have i1 : (k : Int) < (n : Int) := by omega
      by_cases h0 : k = 0
      · have HT : Hid (textM (xs.take (k + 1)) = textM (xs.take k) ++ Lib.itoa (xs.getD k 0)) := by
          show _ = _
          subst h0
          rw [S0.out (by omega)]
          rfl
        have g0 : decide ((k : Int) > 0) = false := by simp; omega
        have g1 : decide ((0 : Int) < (k : Int)) = false := by simp; omega
        have g2 : decide (0 < k) = false := by simp; omega
        generalize textM (xs.take k) = l at *
        generalize Lib.itoa (xs.getD k 0) = t at *
        generalize xs.getD k 0 = x at *
        clear hc hx
        have HK := Lib.hid h0
        clear h0
        go_wp2_with fail
        refine (DX.out _).mono ?_
        rintro e w1 ⟨rfl, b1⟩
        have B1 := Lib.hid (hb.out.trans (b1.mono hb.out.size))
        clear b1 hcw
        go_wp2_with fail
        go_roundw
        case rel => exact ⟨k + 1, by omega, by first | (rw [HT.out]; done) | (rw [HT.out]; simp), by go_num, B1.out⟩
        case measure => simp [intOf]; omega
      · have HT := Lib.hid (ST.out k hlt (by omega))
        have g0 : decide ((k : Int) > 0) = true := by simp; omega
        have g1 : decide ((0 : Int) < (k : Int)) = true := by simp; omega
        have g2 : decide (0 < k) = true := by simp; omega
        generalize textM (xs.take k) = l at *
        generalize Lib.itoa (xs.getD k 0) = t at *
        generalize xs.getD k 0 = x at *
        clear hc hx h0
        go_wp2_with fail
        refine (DX.out _).mono ?_
        rintro e w1 ⟨rfl, b1⟩
        have B1 := Lib.hid (hb.out.trans (b1.mono hb.out.size))
        clear b1 hcw
        go_wp2_with fail
        go_roundw
        case rel => exact ⟨k + 1, by omega, by first | (rw [HT.out]; done) | (rw [HT.out]; simp), by go_num, B1.out⟩
        case measure => simp [intOf]; omega
    · have HD := Lib.hid (DONE.out k (by omega))
      have HD2 := Lib.hid (show textM (xs.take k) = textM xs by rw [HD.out])
      generalize textM (xs.take k) = l at *
      go_wp2_with fail
      go_ret
      exact ⟨by show Ending.returned (.string _) = _; rw [HD2.out], hb.out⟩
end Go.Proofs.YtjjgigoehgabkaaDoor
