/- The program's ActText. -/
import Derived.Test.YtjjgigoehgabkaaDoorYE
import Derived.Test.YtjjgigoehgabkaaDoorSH
import Derived.Lib.AppendIntMem



namespace Go.Proofs.YtjjgigoehgabkaaDoor
open Go.RowKit
set_option linter.unusedVariables false
set_option linter.unusedSimpArgs false

/-- the library's table of powers of ten is laid -/
def Tab (w : World) : Prop := Lib.TabIs Tryd.prog w "internal/strconv.uint64pow10" .u64 Lib.pow10Tab
theorem Tab.below {w w' : World} (h : Tab w) (hb : Below w.heap.size w w') : Tab w' := Lib.tabBelow_of_tabIs h _ hb
theorem itoa_any (n : Int) (w : World) (hn : IntB n) (hT : Tab w) : Calls Tryd.prog 31 #[.int .i64 n] w fun e w' => e = .returned (.string ⟨(Lib.itoa n).toArray⟩) ∧ Below w.heap.size w w' := by
  refine (Tryd.strconv_Itoa n hn.1 hn.2 w hT).mono ?_
  rintro e w' ⟨rfl, k, os, rfl⟩
  exact ⟨rfl, Lib.below_grow _ _ (Nat.le_refl _) _ _⟩
def bs (x : Int) : ByteArray := ⟨(Lib.itoa x).toArray⟩
def vst (l : List Int) : List Value := l.map fun x => .string (bs x)
theorem Tryd.infoStr : (Tryd.prog.info? 9).map (fun i => (i.zero, i.size, i.bytes)) = some (some (.string ⟨#[]⟩), 1, 16) := by kernel_rfl
theorem vst_take (l : List Int) (k : Nat) (h : k < l.length) : vst (l.take (k + 1)) = vst (l.take k) ++ [.string (bs (l.getD k 0))] := by
  rw [List.take_succ_eq_append_getElem h]
  unfold vst
  rw [List.map_append]
  simp [List.getD, h]

set_option maxRecDepth 100000 in
set_option maxHeartbeats 3200000 in
theorem text_any (v : Value) (xs : List Int) (w : World) (h : Ints w v xs) (hB : ∀ x ∈ xs, IntB x) (hl : xs.length ≤ 8388608) (hT : Tab w) :
    Calls Tryd.prog 24 #[v] w fun e w' => e = .returned (.string ⟨(textM xs).toArray⟩) ∧ Below w.heap.size w w' := by
  obtain ⟨i0, hi, hz0, hz1, hz2⟩ := info_parts Tryd.infoStr
  obtain ⟨a, cap, rfl⟩ := ints_len h
  have GET := Lib.hid (fun k hk => ints_get h k hk)
  have TL := Lib.hid (text_len xs hB)
  have ST := Lib.hid (fun k (hk : k < xs.length) => vst_take xs k hk)
  have EL := Lib.hid (fun k (hk : k < xs.length) => hB (xs.getD k 0) (by simp [List.getD, hk]))
  have DONE := Lib.hid (fun k (hk : xs.length ≤ k) => (show xs.take k = xs from List.take_of_length_le hk))
  have LM := Lib.hid (show (xs.map bs).length = xs.length by simp)
  have HTX : Hid (Lib.join ((xs.map bs).map (·.data.toList)) [32] = textM xs) := by
    show _ = _
    rw [textM, List.map_map]
    rw [show ((fun x : ByteArray => x.data.toList) ∘ bs) = Lib.itoa from rfl]
  have HNIL : Hid (xs.length = 0 → textM xs = []) := fun h0 => by
    rw [List.eq_nil_of_length_eq_zero h0]; rfl
  have HVS : Hid (vst xs = (xs.map bs).map Value.string) := by show _ = _; simp [vst]
  have HT := Lib.hid hT
  obtain ⟨n, hn⟩ : ∃ n, n = xs.length := ⟨_, rfl⟩
  rw [← hn] at GET ST EL DONE hl TL LM HNIL ⊢
  clear h hB hn hT
  go_enter Tryd.func24, Tryd.ntmps24
  go_wp2_with fail
  go_loopw [3, 8] (fun t i wr => ∃ k : Nat, k ≤ n ∧ i = .int .i64 k ∧ Hid (wr.ownsRow w.heap.size 9 1 t k (vst (xs.take k))) ∧ Hid (Below w.heap.size w wr)) (fun _ i _ => n - (intOf i).toNat)
  case atStart => exact ⟨0, Nat.zero_le _, rfl, ⟨rfl, .inl ⟨rfl, rfl⟩⟩, Below.refl _ _⟩
  case round =>
    obtain ⟨k, hk, rfl, ho, hb⟩ := hrel
    by_cases hlt : k < n
    · obtain ⟨b, off, ha, hbs, hc⟩ := GET.out k hlt
      subst ha
      have hcw := (hb.out.cell (p := ⟨b, off + k, none⟩) hbs).trans hc
      have hx := EL.out k hlt
      have hst := ST.out k hlt
      obtain ⟨ja, jc, rfl⟩ := row_shape ho.out
      have DX := Lib.hid (fun W (hW : Below w.heap.size w W) => itoa_any (xs.getD k 0) W hx (HT.out.below hW))
      obtain ⟨S, hS⟩ : ∃ S, S = bs (xs.getD k 0) := ⟨_, rfl⟩
      have hS2 : (⟨(Lib.itoa (xs.getD k 0)).toArray⟩ : ByteArray) = S := hS.symm
      rw [← hS] at hst
      rw [hS2] at DX
      have HST := Lib.hid hst
      generalize xs.getD k 0 = x at *
      have e0 : (0 : Int) ≤ (k : Int) := by omega
      have e1 : (k : Int) < (n : Int) := by omega
      clear hc hx hS hS2 hst
      go_wp2_with fail
      refine (DX.out _ hb.out).mono ?_
      rintro e w1 ⟨rfl, b1⟩
      have B1 := Lib.hid (hb.out.trans (b1.mono hb.out.size))
      have O1 := Lib.hid (row_grown (r := none) ho.out (below_grown b1 none) (fun g e => by cases e))
      have OG := Lib.hid (own_block_ge ho.out)
      clear b1 hcw
      have SR := Lib.hid (src_lit (w := w1) #[.string S] 9 1 rfl)
      have O2 := Lib.hid (row_grown (r := none) O1.out (grown_alloc w1 (.cells #[.string S] 9) none) (fun g e => by cases e))
      have B2 := Lib.hid (B1.out.alloc B1.out.size (.cells #[.string S] 9))
      go_wp2_with (at_builtin; refine wpList_app rfl (.tmp 12) (.tmp 15) 58 rfl w.heap.size 9 i0 (.string ⟨#[]⟩) 1 16 Tryd.underlying58 hi hz0 hz1 hz2 rfl (by decide) (.slice ja k jc) (.slice (some ⟨w1.heap.size, 0, none⟩) 1 1) k 1 _ [.string S] rfl rfl O2.out SR.out (by simp [Value.oneCell']) (by unfold maxLen; omega) (by omega) B2.out.size ?_)
      intro v3 w3 hown hgrow _
      have B3 := Lib.hid (B2.out.grown hgrow B2.out.size (fun g hg => OG.out g hg))
      have O3 : Hid (w3.ownsRow w.heap.size 9 1 v3 (k + 1) (vst (xs.take (k + 1)))) := by
        show World.ownsRow _ _ _ _ _ _ _
        rw [HST.out]
        exact hown
      clear hown hgrow O2 B2 SR
      go_wp2_with fail
      go_roundw
      case rel => exact ⟨k + 1, by omega, by go_num, O3.out, B3.out⟩
      case measure => simp [intOf]; omega
    · have hkn : k = n := by omega
      have ho2 := ho.out
      rw [DONE.out k (by omega), HVS.out] at ho2
      by_cases h0 : k = 0
      · obtain ⟨ja, jc, rfl⟩ := row_shape ho2
        have HN := Lib.hid (HNIL.out (by omega))
        clear ho2 hkn
        subst h0
        go_wp2_with fail
        refine (Tryd.strings_Join_none ja jc _ _).mono ?_
        rintro e w1 ⟨rfl, rfl⟩
        go_wp2_with fail
        go_ret
        exact ⟨by show Ending.returned (Value.string _) = _; rw [HN.out], hb.out⟩
      · rcases ho2.2 with ⟨_, e0⟩ | ⟨g, jc, cur, rfl, _, hh, hkc, _⟩
        · exact absurd e0 h0
        have hgl := (Array.getElem?_eq_some_iff.1 hh).1
        clear hh
        have JO := Lib.hid (Tryd.strings_Join g 0 jc (xs.map bs) ⟨#[32]⟩ wr (fun j x hx => by
          have hj : j < k := by have := (List.getElem?_eq_some_iff.1 hx).1; rw [LM.out] at this; omega
          rw [Nat.zero_add]
          rw [ho2.cellAt j (by omega), List.getElem?_map, hx]
          rfl) hgl (by rw [LM.out]; omega) (by rw [LM.out]; omega) (by rw [show (ByteArray.mk #[32]).data.toList = [32] from rfl, HTX.out]; have := TL.out; omega))
        rw [show (ByteArray.mk #[32]).data.toList = [32] from rfl, HTX.out, LM.out, ← hkn] at JO
        have HKN := Lib.hid hkn
        clear ho2 hgl hkc hkn
        go_wp2_with fail
        refine JO.out.mono ?_
        rintro e w1 ⟨rfl, b1⟩
        have B1 := Lib.hid (hb.out.trans (b1.mono hb.out.size))
        clear b1
        go_wp2_with fail
        go_ret
        exact ⟨rfl, B1.out⟩

set_option maxRecDepth 100000 in
set_option maxHeartbeats 1600000 in
theorem implActText_any (t : ActT) (w : World) (ht : t.Reads w) (hs : t.a.Small) (hB : ActB t.a) (hT : Tab w) :
    Calls Tryd.prog 9 #[t.val] w fun e w' => e = .returned (.string ⟨(textM (numsM t.a)).toArray⟩) ∧ Below w.heap.size w w' := by
  have RO := Lib.hid (fun W (h : t.Reads W) => rowOf_any t W h hs)
  have TX := Lib.hid (fun v W (h : Ints W v (numsM t.a)) (hT : Tab W) => text_any v _ W h (nums_in hB hs) (by rw [nums_len]; have := hs.1; have := hs.2; omega) hT)
  have HT := Lib.hid ht
  have HTT := Lib.hid hT
  obtain ⟨X, hX⟩ : ∃ X, X = numsM t.a := ⟨_, rfl⟩
  rw [← hX] at RO TX ⊢
  clear hX ht hB hs hT
  obtain ⟨⟨r, nn, dep, actor, kind, dst, bucket, mask, gr, gn, ups⟩, vd, vs⟩ := t
  simp only [ActT.val] at RO ⊢
  unfold RowMade at RO
  have b0 := (Below.refl w.heap.size w).alloc (Nat.le_refl _) (.cells #[.int .i64 r, .int .i64 nn, vd, .int .i64 actor, .int .i64 kind, .int .i64 dst, .int .i64 bucket, .int .i64 mask, .int .i64 gr, .int .i64 gn, vs] 30)
  have B0 := Lib.hid b0
  clear b0
  go_enter Tryd.func9, Tryd.ntmps9
  go_wp2_with fail
  refine (RO.out _ (HT.out.below B0.out)).mono ?_
  rintro e w1 ⟨v, rfl, hv, b1⟩
  have B1 := Lib.hid (B0.out.trans (b1.mono B0.out.size))
  have HV := Lib.hid hv
  clear b1 hv
  go_wp2_with fail
  refine (TX.out _ _ HV.out (HTT.out.below B1.out)).mono ?_
  rintro e w2 ⟨rfl, b2⟩
  have B2 := Lib.hid (B1.out.trans (b2.mono B1.out.size))
  clear b2
  go_wp2_with fail
  go_ret
  exact ⟨rfl, B2.out⟩
end Go.Proofs.YtjjgigoehgabkaaDoor
