/- Appending a row of another type's name; literals as sources. -/
import Derived.Test.YtjjgigoehgabkaaMC
namespace Go.Proofs.Ytjjgigoehgabkaa
open Go.RowKit
set_option linter.unusedVariables false
set_option linter.unusedSimpArgs false

theorem append_types {P : Program} {w : World} (t t' ty e e' : TypeId) (v x : Value) (ht : P.underlying t = some (.slice e)) (ht' : P.underlying t' = some (.slice e')) :
    (Builtin.append_ #[t, t'] ty #[v, x]).run P w = (Builtin.append_ #[t, t] ty #[v, x]).run P w := by
  cases v <;> simp [Builtin.append_, Sem.run_bind, run_underlying ht, run_underlying ht']
theorem wpList_app2 {P : Program} {w : World} {ops : Array Oper} {rest : List Oper} {o : Oper} {a : Act} {Q : Exit → Act → World → Prop} (hgd : o.guard = none) (s x : Operand) (t t' : TypeId)
    (ho : o.op = .call { callee := .builtin .append, args := #[s, x], argTypes := #[t, t'] })
    (base : Nat) (e : TypeId) (i : TypeInfo) (z : Value) (size bytes : Nat) (ht : P.underlying t = some (.slice e)) (ht' : P.underlying t' = some (.slice e)) (hi : P.info? e = some i) (hz : i.zero = some z)
    (hsize : i.size = size) (hby : i.bytes = bytes) (hzs : z.cells.size = size) (hsz : 0 < size)
    (v sv : Value) (n m : Nat) (xs news : List Value) (hs : a.eval s = v) (hx : a.eval x = sv) (hown : w.ownsRow base e size v n xs) (hsrc : Src w size sv m news) (h1 : ∀ u ∈ news, u.oneCell' = true)
    (h63 : n + m ≤ maxLen) (hbytes : (n + m) * bytes ≤ 140737488355328) (hbase : base ≤ w.heap.size)
    (h : ∀ v' w', w'.ownsRow base e size v' (n + m) (xs ++ news) → w.grownBy w' v.ownBlock → (v'.ownBlock = v.ownBlock ∨ v'.ownBlock = some w.heap.size) → wpList P ops Q rest (a.put o.dst v') w') :
    wpList P ops Q (o :: rest) a w := by
  have key : ∃ v' w', (Builtin.append_ #[t, t'] o.type #[v, sv]).run P w = .ok v' w' ∧ w'.ownsRow base e size v' (n + m) (xs ++ news) ∧ w.grownBy w' v.ownBlock ∧ (v'.ownBlock = v.ownBlock ∨ v'.ownBlock = some w.heap.size) := by
    rw [append_types t t' o.type e e _ _ ht ht']
    rcases hsrc with ⟨ad, c, rfl, rfl, rfl⟩ | ⟨ad, c, rfl, hl, hc⟩
    · rcases ad with _ | ad
      · exact ⟨v, w, append_none (P := P) base t o.type e i size ht hi v n xs hown c, by simpa using hown, World.grownBy.refl w _, .inl rfl⟩
      · obtain ⟨v', w', q1, q2, q3, _, q5⟩ := run_append_own_at (P := P) w base t o.type e i z size bytes ht hi hz hsize hby hzs hsz v n xs hown ad 0 c [] (by simp) (by intro j u hu; simp at hu) (by simp) h63 hbytes hbase
        exact ⟨v', w', q1, q2, q3, q5⟩
    · obtain ⟨v', w', q1, q2, q3, _, q5⟩ := run_append_own_at (P := P) w base t o.type e i z size bytes ht hi hz hsize hby hzs hsz v n xs hown ad m c news hl hc h1 h63 hbytes hbase
      exact ⟨v', w', q1, q2, q3, q5⟩
  obtain ⟨v', w', hr, h2, h3, h4⟩ := key
  refine wpList_plain hgd fun K hK => ?_
  unfold Oper.wp execOp
  simp only [ho, resolve, invoke, builtin, Sem.run_bind, Sem.run_pure, Result.andThen_ok, List.map_toArray, List.map_cons, List.map_nil, hs, hx, hr]
  exact hK _ _ (h v' w' h2 h3 h4)

theorem step_appY {P : Program} {w : World} {ops : Array Oper} {o : Oper} {a : Act} {K : Act → World → Prop} {Q : Exit → Act → World → Prop} {E : Prop} (hgd : o.guard = none) (s x : Operand) (t : TypeId)
    (ho : o.op = .call { callee := .builtin .append, args := #[s, x], argTypes := #[t, t] })
    (base : Nat) (e : TypeId) (i : TypeInfo) (z : Value) (size bytes : Nat) (ht : P.underlying t = some (.slice e)) (hi : P.info? e = some i) (hz : i.zero = some z)
    (hsize : i.size = size) (hby : i.bytes = bytes) (hzs : z.cells.size = size) (hsz : 0 < size)
    (v sv : Value) (n m : Nat) (xs news : List Value) (hs : a.eval s = v) (hx : a.eval x = sv) (hown : w.ownsRow base e size v n xs) (hsrc : Src w size sv m news) (h1 : ∀ u ∈ news, u.oneCell' = true)
    (h63 : n + m ≤ maxLen) (hbytes : (n + m) * bytes ≤ 140737488355328) (hbase : base ≤ w.heap.size)
    (h : ∀ v' w', w'.ownsRow base e size v' (n + m) (xs ++ news) → w.grownBy w' v.ownBlock → (v'.ownBlock = v.ownBlock ∨ v'.ownBlock = some w.heap.size) → K (a.put o.dst v') w') :
    if Region.wanted o (yielded ops a.tmps) = true then Oper.wp P o a w K Q else E := by
  have hw : Region.wanted o (yielded ops a.tmps) = true := by simp [Region.wanted, hgd]
  rw [if_pos hw]
  rcases hsrc with ⟨ad, c, rfl, rfl, rfl⟩ | ⟨ad, c, rfl, hl, hc⟩
  · rcases ad with _ | ad
    · have hrun := append_none (P := P) base t o.type e i size ht hi v n xs hown c
      have h' := h v w (by simpa using hown) (World.grownBy.refl w _) (.inl rfl)
      unfold Oper.wp execOp
      simp only [ho, resolve, invoke, builtin, Sem.run_bind, Sem.run_pure, Result.andThen_ok, List.map_toArray, List.map_cons, List.map_nil, hs, hx, hrun]
      exact h'
    · obtain ⟨v', w', hr, h2, h3, h4, h5⟩ := run_append_own_at (P := P) w base t o.type e i z size bytes ht hi hz hsize hby hzs hsz v n xs hown ad 0 c [] (by simp) (by intro j u hu; simp at hu) (by simp) h63 hbytes hbase
      unfold Oper.wp execOp
      simp only [ho, resolve, invoke, builtin, Sem.run_bind, Sem.run_pure, Result.andThen_ok, List.map_toArray, List.map_cons, List.map_nil, hs, hx, hr]
      exact h v' w' h2 h3 h5
  · obtain ⟨v', w', hr, h2, h3, h4, h5⟩ := run_append_own_at (P := P) w base t o.type e i z size bytes ht hi hz hsize hby hzs hsz v n xs hown ad m c news hl hc h1 h63 hbytes hbase
    unfold Oper.wp execOp
    simp only [ho, resolve, invoke, builtin, Sem.run_bind, Sem.run_pure, Result.andThen_ok, List.map_toArray, List.map_cons, List.map_nil, hs, hx, hr]
    exact h v' w' h2 h3 h5

theorem src_lit {w : World} (cs : Array Value) (e : TypeId) (n : Nat) (hn : cs.size = n) : Src (w.alloc (.cells cs e)) 1 (.slice (some ⟨w.heap.size, 0, none⟩) n n) n cs.toList := by
  refine .inr ⟨⟨w.heap.size, 0, none⟩, n, rfl, by simp [hn], fun j u hu => ?_⟩
  rw [add_flat]
  have := World.cell?_alloc_new w cs e (0 + j)
  rw [this, Nat.zero_add]
  simpa using hu
/-- the numbers of ups, of an act -/
def upNums (us : List UpM) : List Int := us.flatMap fun u => [u.kind, u.bucket, u.key, u.val]
def numsM (a : ActM) : List Int := ([a.r, a.n, (a.dep.length : Int)] ++ a.dep) ++ [a.actor, a.kind, a.to, a.bucket, a.mask, a.gr, a.gn, (a.ups.length : Int)] ++ upNums a.ups
theorem upNums_take (us : List UpM) (k : Nat) (h : k < us.length) : upNums (us.take (k + 1)) = upNums (us.take k) ++ [(us.getD k up0).kind, (us.getD k up0).bucket, (us.getD k up0).key, (us.getD k up0).val] := by
  rw [List.take_succ_eq_append_getElem h]
  unfold upNums
  rw [List.flatMap_append]
  simp [List.getD, h]
theorem upNums_len (us : List UpM) : (upNums us).length = 4 * us.length := by
  induction us with
  | nil => rfl
  | cons u r ih => simp only [upNums, List.flatMap_cons, List.length_append, List.length_cons, List.length_nil] at ih ⊢; omega
theorem nums_len (a : ActM) : (numsM a).length = 11 + a.dep.length + 4 * a.ups.length := by
  simp [numsM, upNums_len]; omega
/-- all numbers of an act are numbers that an int holds -/
def IntB (x : Int) : Prop := -9223372036854775808 ≤ x ∧ x ≤ 9223372036854775807
structure ActB (a : ActM) : Prop where
  r : IntB a.r
  n : IntB a.n
  d : ∀ x ∈ a.dep, IntB x
  ac : IntB a.actor
  k : IntB a.kind
  t : IntB a.to
  b : IntB a.bucket
  m : IntB a.mask
  gr : IntB a.gr
  gn : IntB a.gn
  u : ∀ u ∈ a.ups, IntB u.kind ∧ IntB u.bucket ∧ IntB u.key ∧ IntB u.val
theorem nums_in {a : ActM} (h : ActB a) (hs : a.Small) : ∀ x ∈ numsM a, IntB x := by
  intro x hx
  have h1 := hs.1
  have h2 := hs.2
  simp only [numsM, List.mem_append, upNums, List.mem_flatMap] at hx
  rcases hx with ((hx | hx) | hx) | ⟨u, hu, hx⟩
  · simp only [List.mem_cons, List.not_mem_nil, or_false] at hx
    rcases hx with rfl | rfl | rfl
    · exact h.r
    · exact h.n
    · unfold IntB; omega
  · exact h.d x hx
  · simp only [List.mem_cons, List.not_mem_nil, or_false] at hx
    rcases hx with rfl | rfl | rfl | rfl | rfl | rfl | rfl | rfl
    · exact h.ac
    · exact h.k
    · exact h.t
    · exact h.b
    · exact h.m
    · exact h.gr
    · exact h.gn
    · unfold IntB; omega
  · obtain ⟨q1, q2, q3, q4⟩ := h.u u hu
    simp only [List.mem_cons, List.not_mem_nil, or_false] at hx
    rcases hx with rfl | rfl | rfl | rfl
    · exact q1
    · exact q2
    · exact q3
    · exact q4
end Go.Proofs.Ytjjgigoehgabkaa
