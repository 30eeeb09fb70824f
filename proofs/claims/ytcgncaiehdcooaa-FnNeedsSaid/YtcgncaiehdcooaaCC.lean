/- append of whatever slice reads; the reference's l2own. -/
import Derived.Test.YtcgncaiehdcooaaCB
import Derived.Maps.AppendAt
namespace Go.Proofs.Ytcgncaiehdcooaa
open Go.RowKit
set_option linter.unusedVariables false

/-- a slice whose m elements are the cells news: empty (nil or not), or at an address -/
def Src (w : World) (size : Nat) (sv : Value) (m : Nat) (news : List Value) : Prop :=
  (∃ a c, sv = .slice a 0 c ∧ m = 0 ∧ news = []) ∨ ∃ ad c, sv = .slice (some ad) m c ∧ news.length = m * size ∧ ∀ j u, news[j]? = some u → w.cell? (ad.add j) = some u
theorem add_flat (b o j : Nat) : (Addr.add ⟨b, o, none⟩ j) = ⟨b, o + j, none⟩ := by
  unfold Addr.add; split
  · subst j; rfl
  · rfl
theorem src_ints {w : World} {v : Value} {xs : List Int} (h : Ints w v xs) : Src w 1 v xs.length (vi xs) := by
  rcases h with ⟨a, cap, rfl, rfl⟩ | ⟨b, off, cap, rfl, h1, h2, h3, h4⟩
  · exact .inl ⟨a, cap, rfl, rfl, rfl⟩
  · refine .inr ⟨_, cap, rfl, by simp [vi], fun j u hu => ?_⟩
    have hj : j < xs.length := by have := (List.getElem?_eq_some_iff.1 hu).1; simpa [vi] using this
    rw [vi_getD xs j hj] at hu
    rw [add_flat, h4 j hj, hu]
theorem vu_get (l : List UpM) (i j : Nat) (h : i < l.length) (hj : j < 4) : (vu l)[i * 4 + j]? = (upCells (l.getD i up0))[j]? := by
  obtain ⟨q0, q1, q2, q3⟩ := vu_at l i h
  match j, hj with
  | 0, _ => exact q0
  | 1, _ => exact q1
  | 2, _ => exact q2
  | 3, _ => exact q3
theorem src_ups {w : World} {v : Value} {us : List UpM} (h : Ups w v us) : Src w 4 v us.length (vu us) := by
  rcases h with ⟨a, cap, rfl, rfl⟩ | ⟨b, off, cap, rfl, h1, h2, h3, h4⟩
  · exact .inl ⟨a, cap, rfl, rfl, rfl⟩
  · refine .inr ⟨_, cap, rfl, vu_length us, fun j u hu => ?_⟩
    have hj : j < us.length * 4 := by have := (List.getElem?_eq_some_iff.1 hu).1; rwa [vu_length] at this
    obtain ⟨i, r, rfl, hr⟩ : ∃ i r, j = i * 4 + r ∧ r < 4 := ⟨j / 4, j % 4, by omega, by omega⟩
    rw [vu_get us i r (by omega) hr] at hu
    obtain ⟨q0, q1, q2, q3⟩ := h4 i (by omega)
    rw [add_flat, ← hu, ← Nat.add_assoc]
    match r, hr with
    | 0, _ => exact q0
    | 1, _ => exact q1
    | 2, _ => exact q2
    | 3, _ => exact q3
theorem src_acts {w : World} {v : Value} {ts : List ActT} (h : ActsT w v ts) : Src w 11 v ts.length (va ts) := by
  rcases h.2 with ⟨a, cap, rfl, rfl⟩ | ⟨b, off, cap, rfl, h1, h2, h3, h4⟩
  · exact .inl ⟨a, cap, rfl, rfl, rfl⟩
  · refine .inr ⟨_, cap, rfl, va_length ts, fun j u hu => ?_⟩
    have hj : j < ts.length * 11 := by have := (List.getElem?_eq_some_iff.1 hu).1; rwa [va_length] at this
    obtain ⟨i, r, rfl, hr⟩ : ∃ i r, j = i * 11 + r ∧ r < 11 := ⟨j / 11, j % 11, by omega, by omega⟩
    rw [va_at ts i r (by omega) hr] at hu
    have q := h4 i (by omega)
    rw [add_flat, ← hu, ← Nat.add_assoc]
    match r, hr with
    | 0, _ => exact q.c0
    | 1, _ => exact q.c1
    | 2, _ => exact q.c2
    | 3, _ => exact q.c3
    | 4, _ => exact q.c4
    | 5, _ => exact q.c5
    | 6, _ => exact q.c6
    | 7, _ => exact q.c7
    | 8, _ => exact q.c8
    | 9, _ => exact q.c9
    | 10, _ => exact q.c10
theorem vi_one (xs : List Int) : ∀ u ∈ vi xs, u.oneCell' = true := by
  intro u hu
  simp only [vi, List.mem_map] at hu
  obtain ⟨x, _, rfl⟩ := hu
  rfl
theorem vu_one (us : List UpM) : ∀ u ∈ vu us, u.oneCell' = true := by
  intro u hu
  simp only [vu, List.mem_flatMap, upCells, List.mem_cons, List.not_mem_nil, or_false] at hu
  obtain ⟨x, _, rfl | rfl | rfl | rfl⟩ := hu <;> rfl
theorem ints_one {w : World} {v : Value} {xs : List Int} (h : Ints w v xs) : v.oneCell' = true := by
  obtain ⟨a, c, rfl⟩ := ints_len h; rfl
theorem ups_one {w : World} {v : Value} {us : List UpM} (h : Ups w v us) : v.oneCell' = true := by
  obtain ⟨a, c, rfl⟩ := ups_len h; rfl
theorem va_one {ts : List ActT} (h : ∀ t ∈ ts, t.vd.oneCell' = true ∧ t.vs.oneCell' = true) : ∀ u ∈ va ts, u.oneCell' = true := by
  intro u hu
  simp only [va, List.mem_flatMap, ActT.cells, List.mem_cons, List.not_mem_nil, or_false] at hu
  obtain ⟨x, hx, rfl | rfl | rfl | rfl | rfl | rfl | rfl | rfl | rfl | rfl | rfl⟩ := hu
  all_goals first | rfl | exact (h x hx).1 | exact (h x hx).2

theorem append_none {P : Program} {w : World} (base : Nat) (t ty e : TypeId) (i : TypeInfo) (size : Nat) (ht : P.underlying t = some (.slice e)) (hi : P.info? e = some i) (v : Value) (n : Nat) (xs : List Value)
    (hown : w.ownsRow base e size v n xs) (c : Nat) : (Builtin.append_ #[t, t] ty #[v, .slice none 0 c]).run P w = .ok v w := by
  obtain ⟨_, h⟩ := hown
  rcases h with ⟨hv, hn⟩ | ⟨g, cap, cur, hv, _, _, hle, _⟩
  · subst hv; simp [Builtin.append_, run_underlying ht, sizeOf, typeInfo, hi, Builtin.lenOf, Builtin.firstCells]
  · subst hv; simp [Builtin.append_, run_underlying ht, sizeOf, typeInfo, hi, Builtin.lenOf, Builtin.firstCells, hle, storeCells]

/-- append of a source, whatever its shape, to a row of one's own -/
theorem wpList_app {P : Program} {w : World} {ops : Array Oper} {rest : List Oper} {o : Oper} {a : Act} {Q : Exit → Act → World → Prop} (hgd : o.guard = none) (s x : Operand) (t : TypeId)
    (ho : o.op = .call { callee := .builtin .append, args := #[s, x], argTypes := #[t, t] })
    (base : Nat) (e : TypeId) (i : TypeInfo) (z : Value) (size bytes : Nat) (ht : P.underlying t = some (.slice e)) (hi : P.info? e = some i) (hz : i.zero = some z)
    (hsize : i.size = size) (hby : i.bytes = bytes) (hzs : z.cells.size = size) (hsz : 0 < size)
    (v sv : Value) (n m : Nat) (xs news : List Value) (hs : a.eval s = v) (hx : a.eval x = sv) (hown : w.ownsRow base e size v n xs) (hsrc : Src w size sv m news) (h1 : ∀ u ∈ news, u.oneCell' = true)
    (h63 : n + m ≤ maxLen) (hbytes : (n + m) * bytes ≤ 140737488355328) (hbase : base ≤ w.heap.size)
    (h : ∀ v' w', w'.ownsRow base e size v' (n + m) (xs ++ news) → w.grownBy w' v.ownBlock → (v'.ownBlock = v.ownBlock ∨ v'.ownBlock = some w.heap.size) → wpList P ops Q rest (a.put o.dst v') w') :
    wpList P ops Q (o :: rest) a w := by
  rcases hsrc with ⟨ad, c, rfl, rfl, rfl⟩ | ⟨ad, c, rfl, hl, hc⟩
  · rcases ad with _ | ad
    · refine wpList_plain hgd fun K hK => ?_
      have hrun := append_none (P := P) base t o.type e i size ht hi v n xs hown c
      have h' := h v w (by simpa using hown) (World.grownBy.refl w _) (.inl rfl)
      unfold Oper.wp execOp
      simp only [ho, resolve, invoke, builtin, Sem.run_bind, Sem.run_pure, Result.andThen_ok, List.map_toArray, List.map_cons, List.map_nil, hs, hx, hrun]
      exact hK _ _ h'
    · exact wpList_append_own_at w hgd s x t ho base e i z size bytes ht hi hz hsize hby hzs hsz v n xs hs hown ad 0 c [] hx (by simp) (by intro j u hu; simp at hu) (by simp) h63 hbytes hbase fun v' w' q1 q2 _ q4 => h v' w' q1 q2 q4
  · exact wpList_append_own_at w hgd s x t ho base e i z size bytes ht hi hz hsize hby hzs hsz v n xs hs hown ad m c news hx hl hc h1 h63 hbytes hbase fun v' w' q1 q2 _ q4 => h v' w' q1 q2 q4

/-- the shape of a row of one's own -/
theorem row_shape {w : World} {K e size n : Nat} {v : Value} {xs : List Value} (h : w.ownsRow K e size v n xs) : ∃ a c, v = .slice a n c := by
  rcases h.2 with ⟨rfl, rfl⟩ | ⟨g, cap, cur, rfl, _⟩
  · exact ⟨_, _, rfl⟩
  · exact ⟨_, _, rfl⟩
theorem ownU_of_row {w : World} {K n : Nat} {v : Value} {us : List UpM} (hn : us.length = n) (h : w.ownsRow K 37 4 v n (vu us)) : ∃ g, K ≤ g ∧ OwnU w g v us := by
  subst hn
  rcases h.2 with ⟨rfl, h0⟩ | ⟨g, cap, cur, rfl, hk, hg, r⟩
  · exact ⟨K, Nat.le_refl _, .inl ⟨_, _, rfl, List.eq_nil_of_length_eq_zero h0⟩⟩
  · exact ⟨g, hk, ownU_new rfl h⟩
end Go.Proofs.Ytcgncaiehdcooaa
