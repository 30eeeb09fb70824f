/- The iterator over all acts of a list; a copy of a list. -/
import Derived.Test.YtjmefifdofgncaaJC
import Derived.Test.YtjmefifdofgncaaKA
namespace Go.Proofs.Ytjmefifdofgncaa
open Go.RowKit Go.Shelf
set_option linter.unusedVariables false
attribute [local go_sem] Oper.semAt_some

theorem take_snoc (ts : List ActT) (k : Nat) (h : k < ts.length) : ts.take (k + 1) = ts.take k ++ [ts.getD k t0] := by
  rw [List.take_add_one]
  simp [List.getD, h]

set_option maxRecDepth 100000 in
set_option maxHeartbeats 3200000 in
theorem values1_in (n : Nat) (hn : 1 ≤ n) (l G b off cap len : Nat) (ts : List ActT) (K : ActT → Prop) (J Jx : List ActT → World → Prop) (w0 W : World)
    (hK : ∀ t ∈ ts, K t)
    (hJ : ∀ pre A B, J pre A → Below A.heap.size A B → J pre B)
    (hY : ∀ pre x W, K x → J pre W → pre.length < ts.length → YieldAt Fence.wide (n - 1) Try.prog l #[x.val] W fun e W' =>
      (e = .returned (.bool true) ∧ J (pre ++ [x]) W' ∧ Below w0.heap.size W W') ∨ (e = .returned (.bool false) ∧ Jx (pre ++ [x]) W'))
    (h1 : ts.length = len) (hl : len ≤ 9223372036854775807) (hb : b < w0.heap.size) (hG : G < w0.heap.size) (hW : Below w0.heap.size w0 W)
    (hr : ∀ t ∈ ts, t.Reads w0) (hc : ∀ i, i < len → ActAt w0 b (off + i * 11) (ts.getD i t0))
    (kG : Blk w0 G [.slice (some ⟨b, off, none⟩) len cap]) (h0 : J [] W) :
    CallsIn Fence.wide n Try.prog 129 #[.func (.yield l) #[] #[], .pointer (some ⟨G, 0, none⟩)] W fun e W' => (∃ v, e = .returned v) ∧
      (J ts W' ∨ (∃ pre, pre <+: ts ∧ Jx pre W')) := by
  have s0 := (kG.below hW hG).cell 0
  simp only [List.getElem?_cons_zero] at s0
  refine callsIn_of_wp Try.func129 rfl trivial ?_ rfl
  simp only [Try.ntmps129, List.size_toArray, List.length_cons, List.length_nil, Nat.reduceAdd, Nat.reduceSub, Array.replicate_succ, Array.replicate_zero, List.push_toArray, List.append_toArray, List.nil_append, List.cons_append]
  have HC := Lib.hid hc
  have HR := Lib.hid hr
  have N1 := Lib.hid h1
  have HJ := Lib.hid hJ
  have HY := Lib.hid hY
  have HKK := Lib.hid hK
  clear kG hc hr h1 hJ hY hK
  gi_wp2
  gi_loopw [7] (fun i wr => ∃ k : Nat, k ≤ len ∧ i = .int .i64 k ∧ Hid (J (ts.take k) wr) ∧ Hid (Below w0.heap.size w0 wr)) (fun i _ => len - (intOf i).toNat)
  case atStart => exact ⟨0, Nat.zero_le _, rfl, h0, hW⟩
  case round =>
    obtain ⟨k, hk, rfl, hj, hbel⟩ := hrel
    by_cases hlt : k < len
    · have hlt2 : k < ts.length := by rw [N1.out]; exact hlt
      have hm := getD_mem (ts := ts) (i := k) hlt2
      have HKT := Lib.hid (HKK.out _ hm)
      have AT := Lib.hid ((HC.out k hlt).below hbel.out hb)
      have HT := Lib.hid ((HR.out _ hm).below hbel.out)
      have FS := Lib.hid (take_snoc ts k hlt2)
      obtain ⟨t, htt⟩ : ∃ t, t = ts.getD k t0 := ⟨_, rfl⟩
      rw [← htt] at AT HT FS HKT
      clear hm htt
      obtain ⟨⟨r, nn, dep, actor, kind, dst, bucket, mask, gr, gn, ups⟩, vd, vs⟩ := t
      have hsd := ints_len HT.out.1
      have hsu := ups_len HT.out.2
      simp only at hsd hsu
      obtain ⟨da, dc, rfl⟩ := hsd
      obtain ⟨ua, uc, rfl⟩ := hsu
      have c0 := AT.out.c0
      have c1 := AT.out.c1
      have c2 := AT.out.c2
      have c3 := AT.out.c3
      have c4 := AT.out.c4
      have c5 := AT.out.c5
      have c6 := AT.out.c6
      have c7 := AT.out.c7
      have c8 := AT.out.c8
      have c9 := AT.out.c9
      have c10 := AT.out.c10
      simp only at c0 c1 c2 c3 c4 c5 c6 c7 c8 c9 c10
      clear AT
      have bq := (Below.refl wr.heap.size wr).alloc (Nat.le_refl _) (.cells #[.int .i64 r, .int .i64 nn, .slice da dep.length dc, .int .i64 actor, .int .i64 kind, .int .i64 dst, .int .i64 bucket, .int .i64 mask, .int .i64 gr, .int .i64 gn, .slice ua ups.length uc] 42)
      have hj2 := HJ.out _ _ _ hj.out bq
      have hb2 := Lib.hid (hbel.out.trans (bq.mono hbel.out.size))
      have hy2 := HY.out _ (⟨⟨r, nn, dep, actor, kind, dst, bucket, mask, gr, gn, ups⟩, .slice da dep.length dc, .slice ua ups.length uc⟩ : ActT) _ HKT.out hj2 (by rw [List.length_take]; omega)
      simp only [ActT.val] at hy2
      clear hj2 bq
      obtain ⟨fn, tmps, assign, body, hy, hR⟩ := hy2
      gi_wp2
      refine hR.mono ?_
      clear c0 c1 c2 c3 c4 c5 c6 c7 c8 c9 c10
      rintro e W3 (⟨rfl, hJ3, hk3⟩ | ⟨rfl, hJx3⟩)
      · gi_wp2
        go_roundw
        case rel => exact ⟨k + 1, by omega, by first | rfl | simp, Lib.hid (by rw [FS.out]; exact hJ3), Lib.hid (hb2.out.trans hk3)⟩
        case measure => simp [intOf]; omega
      · gi_wp2
        refine bodyPost_ret (results_none rfl _ _ _) rfl ?_
        exact ⟨⟨_, rfl⟩, .inr ⟨_, by rw [← FS.out]; exact List.take_prefix _ _, hJx3⟩⟩
    · obtain rfl : k = len := by omega
      gi_wp2
      go_end0
      refine ⟨⟨_, rfl⟩, .inl ?_⟩
      have := hj.out
      rw [← N1.out, List.take_length] at this
      exact this

theorem values1_stops (n : Nat) (hn : 1 ≤ n) (G b off cap len : Nat) (ts : List ActT) (K : ActT → Prop) (hK : ∀ t ∈ ts, K t) (w0 : World)
    (h1 : ts.length = len) (hl : len ≤ 9223372036854775807) (hb : b < w0.heap.size) (hG : G < w0.heap.size)
    (hr : ∀ t ∈ ts, t.Reads w0) (hc : ∀ i, i < len → ActAt w0 b (off + i * 11) (ts.getD i t0))
    (kG : Blk w0 G [.slice (some ⟨b, off, none⟩) len cap]) :
    SeqStopsK Fence.wide n Try.prog 129 #[.pointer (some ⟨G, 0, none⟩)] (fun t : {t : ActT // K t} => #[t.1.val]) (Below w0.heap.size)
      (fun zs => zs.map Subtype.val = ts) (fun pre => pre.map Subtype.val <+: ts) ts.length w0 := fun l J Jx W hW hA _ hY h0 => by
  refine (values1_in n hn l G b off cap len ts K (fun zs A => ∃ ys : List {t : ActT // K t}, ys.map Subtype.val = zs ∧ J ys A) (fun zs A => ∃ ys : List {t : ActT // K t}, ys.map Subtype.val = zs ∧ Jx ys A) w0 W hK
    (fun pre A B hj hab => ?_) (fun pre x V hx hj hlt => ?_) h1 hl hb hG hW hr hc kG ⟨[], rfl, h0⟩).mono ?_
  · obtain ⟨ys, hy, hj⟩ := hj
    exact ⟨ys, hy, hA ys A B none hj ⟨hab.os, hab.tape, hab.output, hab.size, fun k hk _ => hab.block k hk⟩ (fun _ h => nomatch h)⟩
  · obtain ⟨ys, hy, hj⟩ := hj
    have hlen : ys.length < ts.length := by rw [← hy] at hlt; simpa using hlt
    refine YieldAt.mono (hY ys ⟨x, hx⟩ V hj hlen) ?_
    rintro e V' (⟨rfl, hj', hk⟩ | ⟨rfl, hj'⟩)
    · exact .inl ⟨rfl, ⟨_, by simp [hy], hj'⟩, hk⟩
    · exact .inr ⟨rfl, ⟨_, by simp [hy], hj'⟩⟩
  · rintro e V ⟨hv, h⟩
    refine ⟨hv, ?_⟩
    rcases h with ⟨ys, hy, hj⟩ | ⟨pre, hp, ys, hy, hj⟩
    · exact .inl ⟨ys, hy, hj⟩
    · exact .inr ⟨ys, by rw [← hy] at hp; exact hp, hj⟩
theorem values0_stops (n N : Nat) (hn : 1 ≤ n) (G cap : Nat) (a : Option Addr) (K : ActT → Prop) (w0 : World) (hG : G < w0.heap.size) (kG : Blk w0 G [.slice a 0 cap]) :
    SeqStopsK Fence.wide n Try.prog 129 #[.pointer (some ⟨G, 0, none⟩)] (fun t : {t : ActT // K t} => #[t.1.val]) (Below w0.heap.size)
      (fun zs => zs.map Subtype.val = []) (fun pre => pre.map Subtype.val <+: []) N w0 := fun l J Jx W hW hA _ hY h0 => by
  have s0 := (kG.below hW hG).cell 0
  simp only [List.getElem?_cons_zero] at s0
  refine callsIn_of_wp Try.func129 rfl trivial ?_ rfl
  simp only [Try.ntmps129, List.size_toArray, List.length_cons, List.length_nil, Nat.reduceAdd, Nat.reduceSub, Array.replicate_succ, Array.replicate_zero, List.push_toArray, List.append_toArray, List.nil_append, List.cons_append]
  have H0 := Lib.hid h0
  clear h0 hY hA kG
  gi_wp2
  gi_loopw [7] (fun i wr => i = .int .i64 0 ∧ Hid (J [] wr)) (fun i _ => 0)
  case atStart => exact ⟨rfl, H0⟩
  case round =>
    obtain ⟨rfl, hj⟩ := hrel
    gi_wp2
    go_end0
    exact ⟨⟨_, rfl⟩, .inl ⟨[], rfl, hj.out⟩⟩

def ValuesMade (w : World) (v : Value) (e : Ending) (w' : World) : Prop := ∃ G, e = .returned (.func (.func 129) #[] #[.pointer (some ⟨G, 0, none⟩)]) ∧ w.heap.size ≤ G ∧ Blk w' G [v] ∧ Below w.heap.size w w'
theorem values_any (a : Option Addr) (n c : Nat) (w : World) : Calls Try.prog 89 #[.slice a n c] w (ValuesMade w (.slice a n c)) := by
  have kG := Lib.hid (Blk.new w #[.slice a n c] 25)
  have b0 := Lib.hid ((Below.refl w.heap.size w).alloc (Nat.le_refl _) (.cells #[.slice a n c] 25))
  go_enter Try.func89, Try.ntmps89
  go_wp2
  go_ret
  exact ⟨_, rfl, Nat.le_refl _, kG.out, b0.out⟩
/-- a copy of a list, in a row of its own -/
theorem copyVals_any (v : Value) (ts : List ActT) (G : Nat) (w : World) (h : ActsT w v ts) (hs : SmallL (ts.map ActT.a)) (kG : Blk w G [v]) :
    Calls Try.prog 88 #[.func (.func 129) #[] #[.pointer (some ⟨G, 0, none⟩)]] w fun e w' => ∃ v', e = .returned v' ∧ Row w' w.heap.size v' (ts.map ActT.a) ∧ Below w.heap.size w w' := by
  have hK : ∀ t ∈ ts, t.Reads w ∧ t.a.Small := fun t ht => ⟨h.1 t ht, hs.2 _ (List.mem_map_of_mem ht)⟩
  have hl : ts.length ≤ 1048576 := by simpa using hs.1
  rcases h.2 with ⟨a, cap, rfl, rfl⟩ | ⟨b, off, cap, rfl, h1, h2, h3, h4⟩
  · exact copyActs_row _ _ (fun t => t.Reads w ∧ t.a.Small) [] 0 w (enters_of Try.func129 (by kernel_rfl) rfl) (values0_stops 5 0 (by omega) G _ _ _ w kG.lt kG) (fun t h => h) (by omega)
  · exact copyActs_row _ _ (fun t => t.Reads w ∧ t.a.Small) _ ts.length w (enters_of Try.func129 (by kernel_rfl) rfl) (values1_stops 5 (by omega) G b off _ _ ts _ hK w rfl (by omega) h1 kG.lt (fun t ht => h.1 t ht) h4 kG) (fun t h => h) hl
end Go.Proofs.Ytjmefifdofgncaa
