/- EA, RD. -/
import Derived.Test.YtcjoecjijmkbaaaGreatS
import Derived.Test.YtcjoecjijmkbaaaGreatMB
import Derived.Test.YtcjoecjijmkbaaaGreatDC
import Derived.Test.YtcjoecjijmkbaaaGreatBF
import Derived.Test.YtcjoecjijmkbaaaGreatBG
import Derived.Test.YtcjoecjijmkbaaaGreatAK
import Derived.Test.YtcjoecjijmkbaaaGreatMI
import Derived.Test.YtcjoecjijmkbaaaGreatBI
import Derived.Test.YtcjoecjijmkbaaaGreatMN
import Derived.Deep.RegionHeld3

namespace Go.Proofs.YtcjoecjijmkbaaaGreat
open Go.RowKit
set_option linter.unusedVariables false
theorem code_row (w : World) (a : Option Addr) (len cap : Nat) (zs : List Int)
  (h : (a = none ∧ len = 0 ∧ cap = 0 ∧ zs = []) ∨ ∃ x, a = some x ∧ len ≤ cap ∧ cap ≤ maxLen ∧ zs.length = cap ∧ (∀ i, i < zs.length → w.cell? (x.add i) = some (.int .u8 (zs.getD i 0))) ∧ ∀ n ∈ zs, (Lit.int .u8 n).wf = true) :
  Code w w.heap.size a len ∧ len ≤ 9223372036854775807 := by
 rcases h with ⟨rfl, rfl, rfl, rfl⟩ | ⟨x, rfl, hl, hm, hz, hc, hw⟩
 ·exact ⟨fun j hj => absurd hj (by omega), by omega⟩
 ·refine ⟨fun j hj => ?_, by unfold maxLen at hm; omega⟩
  have c0 := hc 0 (by omega)
  have hs := World.cell?_spot c0
  have hb := cell_lt c0
  obtain ⟨b, off, spot⟩ := x
  simp only [Addr.add] at hs hb
  subst hs
  have hj' := hc j (by omega)
  have ha : (Addr.add ⟨b, off, none⟩ j) = ⟨b, off + j, none⟩ := by
   unfold Addr.add; split
   ·subst j; rfl
   ·rfl
  rw [ha] at hj'
  have hmem : zs.getD j 0 ∈ zs := by
   have : j < zs.length := by omega
   simp [List.getD, this]
  have hx : 0 ≤ zs.getD j 0 ∧ zs.getD j 0 ≤ 255 := by
   simpa [Lit.wf, IntKind.min, IntKind.max, IntKind.signed, IntKind.bits] using hw _ hmem
  exact ⟨b, off, _, rfl, hb, hj', hx⟩
def MadeE (w : World) (v : Value) (e : Ending) (w' : World) : Prop := e = .returned v ∧ Below w.heap.size w w'
set_option maxHeartbeats 800000 in
theorem grant_any (r n ac dst ma : Int) (a : Option Addr) (l c : Nat) (w : World) : Calls Tryz.prog 18 #[.int .i64 r, .int .i64 n, .slice a l c, .int .i64 ac, .int .i64 dst, .int .i64 ma] w
  (MadeE w (.agg #[.int .i64 r, .int .i64 n, .slice a l c, .int .i64 ac, .int .i64 1, .int .i64 dst, .int .i64 0, .int .i64 ma, .int .i64 0, .int .i64 0, .slice none 0 0])) := by
 go_enter Tryz.func18, Tryz.ntmps18
 go_wp2
 refine bodyPost_ret (v := (.agg #[.int .i64 r, .int .i64 n, .slice a l c, .int .i64 ac, .int .i64 1, .int .i64 dst, .int .i64 0, .int .i64 ma, .int .i64 0, .int .i64 0, .slice none 0 0])) (by simp [results, Tryz.results18, go_sem]) rfl ⟨rfl, ?_⟩
 exact (Below.refl _ _).alloc (Nat.le_refl _) _
set_option maxHeartbeats 800000 in
theorem revoke_any (r n ac gr gn : Int) (a : Option Addr) (l c : Nat) (w : World) : Calls Tryz.prog 21 #[.int .i64 r, .int .i64 n, .slice a l c, .int .i64 ac, .int .i64 gr, .int .i64 gn] w
  (MadeE w (.agg #[.int .i64 r, .int .i64 n, .slice a l c, .int .i64 ac, .int .i64 2, .int .i64 0, .int .i64 0, .int .i64 0, .int .i64 gr, .int .i64 gn, .slice none 0 0])) := by
 go_enter Tryz.func21, Tryz.ntmps21
 go_wp2
 refine bodyPost_ret (v := (.agg #[.int .i64 r, .int .i64 n, .slice a l c, .int .i64 ac, .int .i64 2, .int .i64 0, .int .i64 0, .int .i64 0, .int .i64 gr, .int .i64 gn, .slice none 0 0])) (by simp [results, Tryz.results21, go_sem]) rfl ⟨rfl, ?_⟩
 exact (Below.refl _ _).alloc (Nat.le_refl _) _
set_option maxHeartbeats 800000 in
theorem txn_any (r n ac : Int) (a a' : Option Addr) (l c l' c' : Nat) (w : World) : Calls Tryz.prog 19 #[.int .i64 r, .int .i64 n, .slice a l c, .int .i64 ac, .slice a' l' c'] w
  (MadeE w (.agg #[.int .i64 r, .int .i64 n, .slice a l c, .int .i64 ac, .int .i64 4, .int .i64 0, .int .i64 0, .int .i64 0, .int .i64 0, .int .i64 0, .slice a' l' c'])) := by
 go_enter Tryz.func19, Tryz.ntmps19
 go_wp2
 refine bodyPost_ret (v := (.agg #[.int .i64 r, .int .i64 n, .slice a l c, .int .i64 ac, .int .i64 4, .int .i64 0, .int .i64 0, .int .i64 0, .int .i64 0, .int .i64 0, .slice a' l' c'])) (by simp [results, Tryz.results19, go_sem]) rfl ⟨rfl, ?_⟩
 exact (Below.refl _ _).alloc (Nat.le_refl _) _
def SetMadeE (w : World) (x : Int) (e : Ending) (w' : World) : Prop := ∃ g, w.heap.size ≤ g ∧ e = .returned (.slice (some ⟨g, 0, none⟩) 1 1) ∧ w'.ownsRow g 111 4 (.slice (some ⟨g, 0, none⟩) 1 1) 1 (vu [⟨1, 0, 0, x⟩]) ∧ Below w.heap.size w w'
set_option maxHeartbeats 800000 in
theorem set_any (x : Int) (w : World) : Calls Tryz.prog 85 #[.int .i64 x] w (SetMadeE w x) := by
 have ho := World.ownsRow_lit (size := 4) (e := 111) (base := w.heap.size) w #[.int .i64 1, .int .i64 0, .int .i64 0, .int .i64 x] 1 (Nat.le_refl _) (by unfold maxLen; omega) rfl
 have HO := Lib.hid ho
 clear ho
 go_enter Tryz.func85, Tryz.ntmps85
 go_wp2
 go_ret
 exact ⟨w.heap.size, Nat.le_refl _, rfl, HO.out, (Below.refl _ _).alloc (Nat.le_refl _) _⟩
theorem own_two (w : World) (x y : Int) : Own (w.alloc (.cells #[.int .i64 x, .int .i64 y] 3)) w.heap.size (.slice (some ⟨w.heap.size, 0, none⟩) 2 2) [x, y] :=
 .inr ⟨by simp, 2, rfl, World.ownsRow_lit (size := 1) (e := 3) (base := w.heap.size) w #[.int .i64 x, .int .i64 y] 2 (Nat.le_refl _) (by unfold maxLen; omega) rfl⟩
theorem row_nil (w : World) (lo : Nat) : w.ownsRow lo 111 4 (.slice none 0 0) 0 (vu []) := ⟨rfl, .inl ⟨rfl, rfl⟩⟩
def sA1 : ActM := ⟨0, 1, [0, 0], 0, 1, 1, 0, 15, 0, 0, []⟩
def sA2 : ActM := ⟨0, 2, [1, 0], 1, 1, 2, 0, 3, 0, 0, []⟩
def sA3 : ActM := ⟨0, 3, [2, 0], 2, 4, 0, 0, 0, 0, 0, [⟨1, 0, 0, 5⟩]⟩
def sA4 : ActM := ⟨1, 1, [3, 0], 0, 2, 0, 0, 0, 0, 1, []⟩
def sA5 : ActM := ⟨0, 4, [3, 0], 2, 4, 0, 0, 0, 0, 0, [⟨1, 0, 0, 6⟩]⟩
def sT (a : ActM) (d : Nat) (vs : Value) : ActT := ⟨a, .slice (some ⟨d, 0, none⟩) 2 2, vs⟩
def one_ (g : Nat) : Value := .slice (some ⟨g, 0, none⟩) 1 1
def nil_ : Value := .slice none 0 0
def StoryMade (w : World) (e : Ending) (w' : World) : Prop := ∃ d1 d2 d3 u3 d4 d5 u5 g c, e = .returned (.slice (some ⟨g, 0, none⟩) 5 c) ∧ OwnT w' w.heap.size (.slice (some ⟨g, 0, none⟩) 5 c) [sT sA1 d1 nil_, sT sA2 d2 nil_, sT sA3 d3 (one_ u3), sT sA4 d4 nil_, sT sA5 d5 (one_ u5)] ∧ Below w.heap.size w w'
theorem OwnT.snoc2 {W w2 : World} {lo : Nat} {v v2 : Value} {ts us : List ActT} (h : OwnT W lo v ts) (ht : ∀ t ∈ us, t.Owns W lo) (ho : w2.ownsRow lo 33 11 v2 (ts.length + us.length) (va ts ++ va us)) (hg : W.grownBy w2 v.ownBlock) : OwnT w2 lo v2 (ts ++ us) := by
 have he := own_else (lo := lo) h.1
 refine ⟨by rw [va_append]; simpa using ho, fun x hx => ?_⟩
 rcases List.mem_append.1 hx with hx | hx
 ·exact (h.2 x hx).else_ hg he
 ·exact (ht x hx).else_ hg he
theorem row_succ9 {w : World} {K e size n : Nat} {v : Value} {xs : List Value} (h : w.ownsRow K e size v (n + 1) xs) : ∃ g c, v = .slice (some ⟨g, 0, none⟩) (n + 1) c := by
 rcases h.2 with ⟨_, h0⟩ | ⟨g, cap, cur, hv, _⟩
 ·simp at h0
 ·exact ⟨g, cap, hv⟩
set_option maxRecDepth 100000 in
set_option maxHeartbeats 3200000 in
theorem story_any (w : World) : Calls Tryz.prog 65 #[] w (StoryMade w) := by
 obtain ⟨i2, hi, hz0, hz1, hz2⟩ := info_parts Tryz.infoAct
 have O1 := Lib.hid (own_two w 0 0)
 have B0 := Lib.hid ((Below.refl w.heap.size w).alloc (Nat.le_refl _) (.cells #[.int .i64 0, .int .i64 0] 3))
 go_enter Tryz.func65, Tryz.ntmps65
 go_wp2_with fail
 refine (grant_any _ _ _ _ _ _ _ _ _).mono ?_
 rintro e w1 ⟨rfl, b1⟩
 have B1 := Lib.hid (B0.out.trans (b1.mono B0.out.size))
 have O1b := Lib.hid (O1.out.below b1)
 have s1 := B1.out.size
 have HL1 : w.heap.size < w1.heap.size := by have := b1.size; simp at this; omega
 clear b1 O1
 have D1 := Lib.hid (O1b.out.below ((Below.refl _ _).alloc (Nat.le_refl _) (.cells #[.int .i64 1, .int .i64 0] 3)))
 have D2 := Lib.hid (own_two w1 1 0)
 have B1a := Lib.hid (B1.out.alloc B1.out.size (.cells #[.int .i64 1, .int .i64 0] 3))
 go_wp2_with fail
 refine (grant_any _ _ _ _ _ _ _ _ _).mono ?_
 rintro e w2 ⟨rfl, b2⟩
 have B2 := Lib.hid (B1a.out.trans (b2.mono B1a.out.size))
 have D1b := Lib.hid (D1.out.below b2)
 have D2b := Lib.hid (D2.out.below b2)
 have s2 := B2.out.size
 have HL2 : w1.heap.size < w2.heap.size := by have := b2.size; simp at this; omega
 clear b2 D1 D2 O1b B1a B1 B0
 have z3 := (Below.refl w2.heap.size w2).alloc (Nat.le_refl _) (.cells #[.int .i64 2, .int .i64 0] 3)
 have D1 := Lib.hid (D1b.out.below z3)
 have D2 := Lib.hid (D2b.out.below z3)
 have D3 := Lib.hid (own_two w2 2 0)
 have B2a := Lib.hid (B2.out.alloc B2.out.size (.cells #[.int .i64 2, .int .i64 0] 3))
 clear z3 D1b D2b B2
 go_wp2_with fail
 refine (set_any 5 _).mono ?_
 rintro e w3 ⟨u3, hu3, rfl, hr3, b3⟩
 have B3 := Lib.hid (B2a.out.trans (b3.mono B2a.out.size))
 have D1b := Lib.hid (D1.out.below b3)
 have D2b := Lib.hid (D2.out.below b3)
 have D3b := Lib.hid (D3.out.below b3)
 have R3 := Lib.hid hr3
 have hu3' : w2.heap.size ≤ u3 := by simp at hu3; omega
 have s3 := B3.out.size
 clear b3 D1 D2 D3 B2a hr3 hu3
 go_wp2_with fail
 refine (txn_any _ _ _ _ _ _ _ _ _ _).mono ?_
 rintro e w4 ⟨rfl, b4⟩
 have B4 := Lib.hid (B3.out.trans (b4.mono B3.out.size))
 have D1 := Lib.hid (D1b.out.below b4)
 have D2 := Lib.hid (D2b.out.below b4)
 have D3 := Lib.hid (D3b.out.below b4)
 have R3b := Lib.hid (row_keep R3.out fun k _ hl _ => b4.block k hl)
 have s4 := B4.out.size
 clear b4 D1b D2b D3b B3 R3
 have ALL : Hid (∀ t ∈ [sT sA1 w.heap.size nil_, sT sA2 w1.heap.size nil_, sT sA3 w2.heap.size (one_ u3)], t.Owns w4 w.heap.size) := by
  intro t ht
  simp only [List.mem_cons, List.not_mem_nil, or_false] at ht
  rcases ht with rfl | rfl | rfl
  ·exact ⟨⟨_, Nat.le_refl _, D1.out⟩, row_nil _ _⟩
  ·exact ⟨⟨_, s1, D2.out⟩, row_nil _ _⟩
  ·exact ⟨⟨_, s2, D3.out⟩, row_less R3b.out (by omega)⟩
 have HROW := Lib.hid (World.ownsRow_lit (size := 11) (e := 33) (base := w.heap.size) w4 (va [sT sA1 w.heap.size nil_, sT sA2 w1.heap.size nil_, sT sA3 w2.heap.size (one_ u3)]).toArray 3 s4 (by unfold maxLen; omega) rfl)
 have hL : True := trivial
 clear D1 D2 D3 R3b
 go_upto_region 2 with (fail)
 have b5 := (Below.refl w4.heap.size w4).alloc (Nat.le_refl _) (.cells (va [sT sA1 w.heap.size nil_, sT sA2 w1.heap.size nil_, sT sA3 w2.heap.size (one_ u3)]).toArray 33)
 refine wp_gen (fun W5 hW5 => ?_)
 have hW6 : W5 = w4.alloc (.cells (va [sT sA1 w.heap.size nil_, sT sA2 w1.heap.size nil_, sT sA3 w2.heap.size (one_ u3)]).toArray 33) := by rw [hW5]; rfl
 rw [← hW6] at HROW b5
 have OT5 : Hid (OwnT W5 w.heap.size (.slice (some ⟨w4.heap.size, 0, none⟩) 3 3) [sT sA1 w.heap.size nil_, sT sA2 w1.heap.size nil_, sT sA3 w2.heap.size (one_ u3)]) := ⟨by simpa using HROW.out, fun t ht => (ALL.out t ht).below b5⟩
 have B5 := Lib.hid (B4.out.trans (b5.mono s4))
 have s5 := B5.out.size
 clear b5 hW5 hW6 HROW ALL B4 hL
 generalize w4.heap.size = H4 at *
 have z6 := (Below.refl W5.heap.size W5).alloc (Nat.le_refl _) (.cells #[.int .i64 3, .int .i64 0] 3)
 have OT5a := Lib.hid (OT5.out.below z6)
 have D4 := Lib.hid (own_two W5 3 0)
 have B5a := Lib.hid (B5.out.alloc B5.out.size (.cells #[.int .i64 3, .int .i64 0] 3))
 clear z6 OT5 B5
 go_wp2_with fail
 refine (revoke_any _ _ _ _ _ _ _ _ _).mono ?_
 rintro e w6 ⟨rfl, b6⟩
 have OT6 := Lib.hid (OT5a.out.below b6)
 have D4b := Lib.hid (D4.out.below b6)
 have B6 := Lib.hid (B5a.out.trans (b6.mono B5a.out.size))
 have s6 := B6.out.size
 clear b6 OT5a D4 B5a
 have z7 := (Below.refl w6.heap.size w6).alloc (Nat.le_refl _) (.cells #[.int .i64 3, .int .i64 0] 3)
 have OT6a := Lib.hid (OT6.out.below z7)
 have D4 := Lib.hid (D4b.out.below z7)
 have D5 := Lib.hid (own_two w6 3 0)
 have B6a := Lib.hid (B6.out.alloc B6.out.size (.cells #[.int .i64 3, .int .i64 0] 3))
 clear z7 OT6 D4b B6
 go_wp2_with fail
 refine (set_any 6 _).mono ?_
 rintro e w7 ⟨u5, hu5, rfl, hr5, b7⟩
 have hu5' : w6.heap.size ≤ u5 := by simp at hu5; omega
 have OT7 := Lib.hid (OT6a.out.below b7)
 have D4b := Lib.hid (D4.out.below b7)
 have D5b := Lib.hid (D5.out.below b7)
 have R5 := Lib.hid hr5
 have B7 := Lib.hid (B6a.out.trans (b7.mono B6a.out.size))
 have s7 := B7.out.size
 clear b7 OT6a D4 D5 B6a hr5 hu5
 go_wp2_with fail
 refine (txn_any _ _ _ _ _ _ _ _ _ _).mono ?_
 rintro e w8 ⟨rfl, b8⟩
 have OT8 := Lib.hid (OT7.out.below b8)
 have D4 := Lib.hid (D4b.out.below b8)
 have D5 := Lib.hid (D5b.out.below b8)
 have R5b := Lib.hid (row_keep R5.out fun k _ hl _ => b8.block k hl)
 have B8 := Lib.hid (B7.out.trans (b8.mono B7.out.size))
 have s8 := B8.out.size
 clear b8 OT7 D4b D5b R5 B7
 have z9 := (Below.refl w8.heap.size w8).alloc (Nat.le_refl _) (.cells (va [sT sA4 W5.heap.size nil_, sT sA5 w6.heap.size (one_ u5)]).toArray 33)
 have OT9 := Lib.hid (OT8.out.below z9)
 have AL2 : Hid (∀ t ∈ [sT sA4 W5.heap.size nil_, sT sA5 w6.heap.size (one_ u5)], t.Owns (w8.alloc (.cells (va [sT sA4 W5.heap.size nil_, sT sA5 w6.heap.size (one_ u5)]).toArray 33)) w.heap.size) := by
  intro t ht
  simp only [List.mem_cons, List.not_mem_nil, or_false] at ht
  rcases ht with rfl | rfl
  ·exact ActT.Owns.below ⟨⟨_, s5, D4.out⟩, row_nil _ _⟩ z9
  ·exact ActT.Owns.below ⟨⟨_, s6, D5.out⟩, row_less R5b.out (by omega)⟩ z9
 have B9 := Lib.hid (B8.out.alloc B8.out.size (.cells (va [sT sA4 W5.heap.size nil_, sT sA5 w6.heap.size (one_ u5)]).toArray 33))
 have SRC : Hid (Src (w8.alloc (.cells (va [sT sA4 W5.heap.size nil_, sT sA5 w6.heap.size (one_ u5)]).toArray 33)) 11 (.slice (some ⟨w8.heap.size, 0, none⟩) 2 2) 2 (va [sT sA4 W5.heap.size nil_, sT sA5 w6.heap.size (one_ u5)])) := .inr ⟨_, _, rfl, rfl, fun j u hu => by
  rw [add_flat, Nat.zero_add, (Blk.new w8 _ _).cell j]
  exact hu⟩
 have ONE : Hid (∀ u ∈ va [sT sA4 W5.heap.size nil_, sT sA5 w6.heap.size (one_ u5)], u.oneCell' = true) := va_one (by
  intro t ht
  simp only [List.mem_cons, List.not_mem_nil, or_false] at ht
  rcases ht with rfl | rfl <;> exact ⟨rfl, rfl⟩)
 have HB9 : Hid (w.heap.size ≤ (w8.alloc (.cells (va [sT sA4 W5.heap.size nil_, sT sA5 w6.heap.size (one_ u5)]).toArray 33)).heap.size) := B9.out.size
 clear z9 OT8 D4 D5 R5b B8
 go_wp2_with (at_builtin; refine wpList_app rfl (.tmp 10) (.tmp 16) 23 rfl w.heap.size 33 i2 _ 11 120 Tryz.underlying23 hi hz0 hz1 hz2 rfl (by decide) (.slice (some ⟨H4, 0, none⟩) 3 3) (.slice (some ⟨w8.heap.size, 0, none⟩) 2 2) 3 2 (va [sT sA1 w.heap.size nil_, sT sA2 w1.heap.size nil_, sT sA3 w2.heap.size (one_ u3)]) (va [sT sA4 W5.heap.size nil_, sT sA5 w6.heap.size (one_ u5)]) rfl rfl OT9.out.1 SRC.out ONE.out (by unfold maxLen; omega) (by omega) HB9.out ?_)
 intro v9 w9 hown9 hgrow9 _
 have OTF := Lib.hid (OT9.out.snoc2 AL2.out hown9 hgrow9)
 have BF := Lib.hid (owned_block (e := 33) B9.out OT9.out.1 hgrow9 B9.out.size (Nat.le_refl _))
 obtain ⟨g9, c9, rfl⟩ := row_succ9 hown9
 clear hown9 hgrow9
 go_wp2
 go_ret
 exact ⟨_, _, _, _, _, _, _, _, _, rfl, OTF.out, BF.out⟩
structure Bel (W w' : World) : Prop where
 b : Below W.heap.size W w'
theorem Bel.drew {W a : World} (h : Bel W a) : Bel W a.drew := ⟨h.b.drew⟩
theorem Bel.step {W a b : World} (h : Bel W a) (hb : Below a.heap.size a b) : Bel W b := ⟨h.b.trans (hb.mono h.b.size)⟩
end Go.Proofs.YtcjoecjijmkbaaaGreat
namespace Go.Proofs.YtcjoecjijmkbaaaGreat
open Go.RowKit
set_option linter.unusedVariables false
theorem actsT_take {w : World} {b off n cap : Nat} {ts : List ActT} (h : ActsT w (.slice (some ⟨b, off, none⟩) n cap) ts) (k : Nat) (hk : k ≤ n) : ActsT w (.slice (some ⟨b, off, none⟩) k cap) (ts.take k) := by
 refine ⟨fun t ht => h.1 t (List.mem_of_mem_take ht), ?_⟩
 rcases h.2 with ⟨a, c, hv, hn⟩ | ⟨b', off', c, hv, hb, hl, hm, hc⟩
 ·simp only [Value.slice.injEq] at hv
  obtain ⟨_, rfl, rfl⟩ := hv
  obtain rfl : k = 0 := by omega
  exact .inl ⟨_, _, rfl, by simp⟩
 ·simp only [Value.slice.injEq, Option.some.injEq, Addr.mk.injEq, and_true] at hv
  obtain ⟨⟨rfl, rfl⟩, rfl, rfl⟩ := hv
  have e : (ts.take k).length = k := by rw [List.length_take]; omega
  refine .inr ⟨b, off, cap, by rw [e], hb, by rw [e]; omega, hm, fun i hi => ?_⟩
  rw [e] at hi
  have := hc i (by omega)
  rw [show (ts.take k).getD i t0 = ts.getD i t0 from by simp [List.getD, hi]]
  exact this
def storyL : List ActM := [sA1, sA2, sA3, sA4, sA5]
def sortL : List ActM := [sA1, sA2, sA3, sA5, sA4]
def srt (k : Nat) : List ActM := (storyL.take k).foldl (fun l a => (addM l 2 a).getD []) []
theorem srt_all : srt 5 = sortL := by decide +kernel
theorem srt_step (k : Nat) (h : k < 5) : addM (srt k) 2 (storyL.getD k act0) = some (srt (k + 1)) := by
 rcases (by omega : k = 0 ∨ k = 1 ∨ k = 2 ∨ k = 3 ∨ k = 4) with rfl | rfl | rfl | rfl | rfl <;> decide +kernel
theorem story_small (k : Nat) (h : k < 5) : (storyL.getD k act0).Small := by
 rcases (by omega : k = 0 ∨ k = 1 ∨ k = 2 ∨ k = 3 ∨ k = 4) with rfl | rfl | rfl | rfl | rfl <;> exact ⟨by decide, by decide⟩
def SortedMade (w : World) (e : Ending) (w' : World) : Prop := ∃ v, e = .returned v ∧ OwnActs w' w.heap.size v sortL ∧ Below w.heap.size w w'
set_option maxRecDepth 100000 in
set_option maxHeartbeats 3200000 in
theorem sorted_any (w : World) : Calls Tryz.prog 33 #[] w (SortedMade w) := by
 go_enter Tryz.func33, Tryz.ntmps33
 go_wp2_with fail
 refine (story_any w).mono ?_
 rintro e W ⟨d1, d2, d3, u3, d4, d5, u5, g, cc, rfl, ot, b0⟩
 obtain ⟨ts, hts⟩ : ∃ ts, ts = [sT sA1 d1 nil_, sT sA2 d2 nil_, sT sA3 d3 (one_ u3), sT sA4 d4 nil_, sT sA5 d5 (one_ u5)] := ⟨_, rfl⟩
 rw [← hts] at ot
 have TL := Lib.hid (show ts.length = 5 by rw [hts]; rfl)
 have TA := Lib.hid (show ts.map ActT.a = storyL by rw [hts]; rfl)
 have OT := Lib.hid ot
 have B0 := Lib.hid b0
 have hg := (own_at ot.1).2.2
 clear hts ot b0
 go_wp2
 go_loopw [1, 3] (fun sv i wr => ∃ (k : Nat) (v : Value), v = sv ∧ k ≤ 5 ∧ i = .int .i64 k ∧ Hid (OwnActs wr w.heap.size v (srt k)) ∧ Hid (OwnT wr w.heap.size (.slice (some ⟨g, 0, none⟩) 5 cc) ts) ∧ Hid (Below w.heap.size w wr)) (fun _ i _ => 5 - (intOf i).toNat)
 case atStart => exact ⟨0, _, rfl, Nat.zero_le _, rfl, ownActs_nil _ _, OT.out, B0.out⟩
 case round =>
  obtain ⟨k, v, hv, hk, rfl, ho, hst, hbel⟩ := hrel
  subst hv
  clear OT B0
  by_cases hlt : k < 5
  ·have hkt : k < ts.length := by rw [TL.out]; exact hlt
   have at_ := row_actAt (TL.out ▸ (own_at hst.out.1).1) k TL.out hlt
   have HT := Lib.hid ((hst.out.2 _ (getD_mem hkt)).reads)
   have HE := Lib.hid (show (ts.getD k t0).a = storyL.getD k act0 by rw [← TA.out, getD_map hkt])
   obtain ⟨t, ht⟩ : ∃ t, t = ts.getD k t0 := ⟨_, rfl⟩
   rw [← ht] at at_ HT HE
   have HS := Lib.hid (show t.a.Small by rw [HE.out]; exact story_small k hlt)
   have AD := Lib.hid (show addM (srt k) 2 t.a = some (srt (k + 1)) by rw [HE.out]; exact srt_step k hlt)
   clear ht
   have CL := Lib.hid (addAct_any v (srt k) 2 t wr (ownActs_acts ho.out) (by omega) HT.out HS.out)
   obtain ⟨x, y, rfl⟩ := acts_len (ownActs_acts ho.out)
   simp only [ActT.val] at CL
   have c0 := at_.c0
   have c1 := at_.c1
   have c2 := at_.c2
   have c3 := at_.c3
   have c4 := at_.c4
   have c5 := at_.c5
   have c6 := at_.c6
   have c7 := at_.c7
   have c8 := at_.c8
   have c9 := at_.c9
   have c10 := at_.c10
   clear at_
   go_wp2_with fail
   refine CL.out.mono ?_
   rintro e w1 h1
   rcases h1 with ⟨hn, _⟩ | ⟨l, hl, v2, rfl, o2, b2⟩
   ·rw [AD.out] at hn; cases hn
   ·rw [AD.out] at hl
    injection hl with hl
    rw [← hl] at o2
    have O2 := Lib.hid (o2.less hbel.out.size)
    have S2 := Lib.hid (hst.out.below b2)
    have B2 := Lib.hid (hbel.out.trans (b2.mono hbel.out.size))
    obtain ⟨x2, y2, rfl⟩ := acts_len (ownActs_acts o2)
    clear o2 b2 hl c0 c1 c2 c3 c4 c5 c6 c7 c8 c9 c10 CL ho hst hbel
    go_wp2_with fail
    go_roundw
    case rel => exact ⟨k + 1, _, rfl, by omega, by go_num, O2.out, S2.out, B2.out⟩
    case measure => simp [intOf]; omega
  ·obtain rfl : k = 5 := by omega
   have O2 := Lib.hid (show OwnActs wr w.heap.size v sortL from srt_all ▸ ho.out)
   clear ho
   go_wp2
   go_ret
   exact ⟨v, rfl, O2.out, hbel.out⟩
end Go.Proofs.YtcjoecjijmkbaaaGreat
