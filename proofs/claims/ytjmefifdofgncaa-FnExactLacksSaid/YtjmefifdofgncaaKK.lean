/- The program's Part, Lacks: what copyActs makes of the iterators. -/
import Derived.Test.YtjmefifdofgncaaKG
import Derived.Test.YtjmefifdofgncaaKA
import Derived.Test.YtjmefifdofgncaaJC
import Derived.Test.YtjmefifdofgncaaKJ
namespace Go.Proofs.Ytjmefifdofgncaa
open Go.RowKit
set_option linter.unusedVariables false

theorem cx_four {xs : List Int} (ho : okB xs = true) (q : Nat) (hq : q < 4) : [cx xs 0, cx xs 1, cx xs 2, cx xs 3].getD q 0 = xs.getD q 0 := by
  have h : ∀ i, cx xs i = xs.getD i 0 := fun i => if_pos ho
  simp only [h]
  rcases q with _ | _ | _ | _ | q
  all_goals first | rfl | omega
theorem filt_knows {xs : List Int} (ho : okB xs = true) (ts : List ActT) (hr : ∀ t ∈ ts, 0 ≤ t.a.r ∧ t.a.r < 4) :
    (ts.filter (knowsT [cx xs 0, cx xs 1, cx xs 2, cx xs 3])).map ActT.a = partM (ts.map ActT.a) xs true := by
  unfold partM
  rw [List.filter_map]
  congr 1
  refine List.filter_congr fun t ht => ?_
  obtain ⟨h1, h2⟩ := hr t ht
  simp only [knowsT, Function.comp]
  rw [cx_four ho _ (by omega)]
  simp
theorem filt_lacks {xs : List Int} (ho : okB xs = true) (ts : List ActT) (hr : ∀ t ∈ ts, 0 ≤ t.a.r ∧ t.a.r < 4) :
    (ts.filter (lacksT [cx xs 0, cx xs 1, cx xs 2, cx xs 3])).map ActT.a = partM (ts.map ActT.a) xs false := by
  unfold partM
  rw [List.filter_map]
  congr 1
  refine List.filter_congr fun t ht => ?_
  obtain ⟨h1, h2⟩ := hr t ht
  simp only [lacksT, Function.comp]
  rw [cx_four ho _ (by omega)]
  simp

theorem copyKnown_any (ts : List ActT) (a : Option Addr) (K cap S F : Nat) (mp : Value) (p x0 x1 x2 x3 pl y0 y1 y2 y3 : Int) (w : World)
    (h : ActsT w (.slice a K cap) ts) (hs : SmallL (ts.map ActT.a)) (hr : ∀ t ∈ ts, 0 ≤ t.a.r ∧ t.a.r < 4)
    (kS : Blk w S [.slice a K cap, mp, .int .i64 p, .int .i64 x0, .int .i64 x1, .int .i64 x2, .int .i64 x3])
    (kF : Blk w F [.func (.func 138) #[.agg #[.int .i64 pl, .int .i64 y0, .int .i64 y1, .int .i64 y2, .int .i64 y3]] #[]]) :
    Calls Try.prog 88 #[.func (.func 154) #[] #[.pointer (some ⟨S, 0, none⟩), .pointer (some ⟨F, 0, none⟩)]] w (RetL w ((ts.filter (knowsT [y0, y1, y2, y3])).map ActT.a)) := by
  have hK : ∀ t ∈ ts, t.Reads w ∧ t.a.Small := fun t ht => ⟨h.1 t ht, hs.2 _ (List.mem_map_of_mem ht)⟩
  have hl : ts.length ≤ 1048576 := by simpa using hs.1
  rcases h.2 with ⟨a, cap, e, rfl⟩ | ⟨b, off, cap, e, h1, h2, h3, h4⟩
  · cases e
    exact copyActs_any _ _ (fun t => t.Reads w ∧ t.a.Small) [] 0 w (enters_of Try.func154 (by kernel_rfl) rfl) (those0_stops 5 0 (by omega) S F _ _ mp p x0 x1 x2 x3 _ w kS.lt kS) (fun t h => h) (by omega)
  · cases e
    exact copyActs_any _ _ (fun t => t.Reads w ∧ t.a.Small) _ ts.length w (enters_of Try.func154 (by kernel_rfl) rfl) (those1_stops 5 (by omega)  S F b off _ _ mp p x0 x1 x2 x3 pl y0 y1 y2 y3 ts _ hK w rfl (by omega) h1 kS.lt kF.lt (fun t ht => ⟨h.1 t ht, hr t ht⟩) h4 kS  kF) (fun t h => h) hl

theorem copyBeyond_any (ts : List ActT) (a : Option Addr) (K cap S F C : Nat) (mp : Value) (p x0 x1 x2 x3 pl y0 y1 y2 y3 : Int) (w : World)
    (h : ActsT w (.slice a K cap) ts) (hs : SmallL (ts.map ActT.a)) (hr : ∀ t ∈ ts, 0 ≤ t.a.r ∧ t.a.r < 4)
    (kS : Blk w S [.slice a K cap, mp, .int .i64 p, .int .i64 x0, .int .i64 x1, .int .i64 x2, .int .i64 x3])
    (kC : Blk w C [.int .i64 pl, .int .i64 y0, .int .i64 y1, .int .i64 y2, .int .i64 y3])
    (kF : Blk w F [.func (.func 139) #[] #[.pointer (some ⟨C, 0, none⟩)]]) :
    Calls Try.prog 88 #[.func (.func 154) #[] #[.pointer (some ⟨S, 0, none⟩), .pointer (some ⟨F, 0, none⟩)]] w (RetL w ((ts.filter (lacksT [y0, y1, y2, y3])).map ActT.a)) := by
  have hK : ∀ t ∈ ts, t.Reads w ∧ t.a.Small := fun t ht => ⟨h.1 t ht, hs.2 _ (List.mem_map_of_mem ht)⟩
  have hl : ts.length ≤ 1048576 := by simpa using hs.1
  rcases h.2 with ⟨a, cap, e, rfl⟩ | ⟨b, off, cap, e, h1, h2, h3, h4⟩
  · cases e
    exact copyActs_any _ _ (fun t => t.Reads w ∧ t.a.Small) [] 0 w (enters_of Try.func154 (by kernel_rfl) rfl) (those0_stops 5 0 (by omega) S F _ _ mp p x0 x1 x2 x3 _ w kS.lt kS) (fun t h => h) (by omega)
  · cases e
    exact copyActs_any _ _ (fun t => t.Reads w ∧ t.a.Small) _ ts.length w (enters_of Try.func154 (by kernel_rfl) rfl) (those2_stops 5 (by omega) C S F b off _ _ mp p x0 x1 x2 x3 pl y0 y1 y2 y3 ts _ hK w rfl (by omega) h1 kS.lt kF.lt (fun t ht => ⟨h.1 t ht, hr t ht⟩) h4 kS kC.lt kC kF) (fun t h => h) hl

set_option maxHeartbeats 800000 in
theorem setOnly_any (v : Value) (l : List ActM) (n : Int) (w : World) (h : Acts w v l) (hn : I64 n) :
    Calls Try.prog 93 #[v, .int .i64 n] w fun e w' => ((setOkM l n = true ∧ e = .returned (.tuple #[v, .bool true])) ∨ (setOkM l n = false ∧ e = .returned (.tuple #[.slice none 0 0, .bool false]))) ∧ Below w.heap.size w w' := by
  obtain ⟨a, cap, rfl⟩ := acts_len h
  have CS := Lib.hid (implSetOk_any _ l n w h hn)
  clear h
  generalize l.length = K at *
  obtain ⟨T, hT⟩ : ∃ T, T = setOkM l n := ⟨_, rfl⟩
  rw [← hT] at CS ⊢
  clear hT
  cases T
  · go_enter Try.func93, Try.ntmps93
    go_wp2_with fail
    refine CS.out.mono ?_
    rintro e w1 ⟨rfl, b1⟩
    have B1 := Lib.hid b1
    clear b1
    go_wp2
    go_ret2
    exact ⟨.inr ⟨(by first | rfl | trivial), rfl⟩, B1.out⟩
  · go_enter Try.func93, Try.ntmps93
    go_wp2_with fail
    refine CS.out.mono ?_
    rintro e w1 ⟨rfl, b1⟩
    have B1 := Lib.hid b1
    clear b1
    go_wp2
    go_ret2
    exact ⟨.inl ⟨(by first | rfl | trivial), rfl⟩, B1.out⟩
end Go.Proofs.Ytjmefifdofgncaa
