/- The program's inOrder. Maps whose keys are names: the key's law; nameOf; inOrder at every list. The program's has: a name looked up among those of a set. The program's SetOk: what is plain of it: the model as the program has it. The program's reading of a set and the reference's are one. The program's reading of a set and the reference's are one: the other way. The program's countsUp. The map of a set: a name is there where an act has it; countsUp over it is the model's. -/
import Derived.Test.YtjjgigoehgabkaaDoorCI
import Derived.Test.YtjjgigoehgabkaaDoorMI
import Derived.Test.YtjjgigoehgabkaaDoorBI
import Derived.Test.YtjjgigoehgabkaaDoorMB
import Derived.Test.YtjjgigoehgabkaaDoorMF
import Derived.DeepKeys4
import Derived.Maps.OwnSet
import Derived.Maps.OwnOps








namespace Go.Proofs.YtjjgigoehgabkaaDoor
open Go.RowKit
set_option linter.unusedVariables false

/-- the model of inOrder, from an act on that stands behind p -/
def orderM (n : Int) : Option ActM → List ActM → Bool
  | _, [] => true
  | p, a :: l => actOkM a n && prevOk p a && orderM n (some a) l

end Go.Proofs.YtjjgigoehgabkaaDoor
namespace Go.Proofs.YtjjgigoehgabkaaDoor
open Go.RowKit Go.WideMaps
set_option linter.unusedVariables false

theorem laidOut_ : laidOutB Tryd.prog = true := by kernel_rfl
/-- the value of a name, and what it reads as -/
def nameL (r n : Int) : Lit := .string (keyBytes [.int .i64 r, .int .i64 n])
def nameV (r n : Int) : Value := .agg #[.int .i64 r, .int .i64 n]
/-- the program's nameOf -/
def NameMade (w : World) (a : ActM) (e : Ending) (w' : World) : Prop := e = .returned (nameV a.r a.n) ∧ Below w.heap.size w w'
end Go.Proofs.YtjjgigoehgabkaaDoor
namespace Go.Proofs.YtjjgigoehgabkaaDoor
open Go.RowKit
set_option linter.unusedVariables false

end Go.Proofs.YtjjgigoehgabkaaDoor
namespace Go.Proofs.YtjjgigoehgabkaaDoor
open Go.RowKit
set_option linter.unusedVariables false

/-- how many acts of a place there are -/
def cntM (l : List ActM) (p : Nat) : Nat := (l.filter fun a => decide (a.r = (p : Int))).length
/-- the model of countsUp: every number of every place is there -/
def countsUpM (l : List ActM) (n : Nat) : Bool := (List.range n).all fun p => (List.range (cntM l p)).all fun k => l.any fun a => decide (a.r = (p : Int)) && decide (a.n = (k : Int) + 1)
/-- the model of isClosed -/
def closedM (l : List ActM) (n : Nat) : Bool := l.all fun a => leqB a.dep (clockM l n) && l.all fun b => !decide (b.n ≤ a.dep.getD b.r.toNat 0) || leqB b.dep a.dep
def progM (l : List ActM) (n : Nat) : Bool := orderM n none l && countsUpM l n && closedM l n

theorem order_all {n : Int} : ∀ (l : List ActM) (p : Option ActM), orderM n p l = true → ∀ a ∈ l, actOkM a n = true
  | [], _, _, a, ha => by cases ha
  | x :: l, p, h, a, ha => by
    simp only [orderM, Bool.and_eq_true] at h
    rcases List.mem_cons.1 ha with rfl | ha
    · exact h.1.1
    · exact order_all l _ h.2 a ha
/-- the scan goes as the order does -/
theorem scan_order {n : Int} : ∀ (l : List ActM) (p : Option ActM) (v x : List Int), scanM n p v l = some x → orderM n p l = true
  | [], _, _, _, _ => rfl
  | a :: l, p, v, x, h => by
    rw [scanM] at h
    split at h
    · rename_i hc
      simp only [orderM, Bool.and_eq_true]
      exact ⟨⟨hc.1, hc.2.1⟩, scan_order l _ _ _ h⟩
    · cases h
/-- what the scan leaves is the clock of all -/
theorem scan_clock {n : Int} : ∀ (l : List ActM) (p : Option ActM) (v x : List Int), scanM n p v l = some x → x = clockFrom l v
  | [], _, _, _, h => by cases h; rfl
  | a :: l, p, v, x, h => by
    rw [scanM] at h
    split at h
    · rw [clockFrom]; exact scan_clock l _ _ _ h
    · cases h
theorem ahead_trans {a b c : ActM} (h : aheadM a b = true) (h' : aheadM b c = true) : aheadM a c = true := by
  unfold aheadM at *
  split at h <;> split at h' <;> split <;> simp_all <;> omega
/-- in order: each one stands ahead of all behind it -/
theorem order_pairwise {n : Int} : ∀ (l : List ActM) (p : Option ActM), orderM n p l = true → l.Pairwise (fun a b => aheadM a b = true) ∧ ∀ q, p = some q → ∀ b ∈ l, aheadM q b = true
  | [], _, _ => ⟨List.Pairwise.nil, fun q _ b hb => by cases hb⟩
  | a :: l, p, h => by
    simp only [orderM, Bool.and_eq_true] at h
    obtain ⟨h1, h2⟩ := order_pairwise l (some a) h.2
    refine ⟨List.pairwise_cons.2 ⟨h2 a rfl, h1⟩, fun q hq b hb => ?_⟩
    subst hq
    have hqa : aheadM q a = true := h.1.2
    rcases List.mem_cons.1 hb with rfl | hb
    · exact hqa
    · exact ahead_trans hqa (h2 a rfl b hb)
end Go.Proofs.YtjjgigoehgabkaaDoor
namespace Go.Proofs.YtjjgigoehgabkaaDoor
open Go.RowKit
set_option linter.unusedVariables false

theorem cnt_app (l m : List ActM) (p : Nat) : cntM (l ++ m) p = cntM l p + cntM m p := by simp [cntM]
theorem cnt_one (a : ActM) (p : Nat) : cntM [a] p = if a.r = (p : Int) then 1 else 0 := by
  unfold cntM
  by_cases h : a.r = (p : Int) <;> simp [h]
/-- the numbers so far: how many acts of each place, and each number is there -/
structure Inv (n : Nat) (pre : List ActM) (v : List Int) : Prop where
  len : v.length = n
  cnt : ∀ p, p < n → v.getD p 0 = (cntM pre p : Int)
  has : ∀ p, p < n → ∀ k, k < cntM pre p → ∃ a ∈ pre, a.r = (p : Int) ∧ a.n = (k : Int) + 1
theorem inv_zero (n : Nat) : Inv n [] (List.replicate n 0) :=
  ⟨by simp, fun p hp => by simp [List.getD, hp, cntM], fun p hp k hk => by simp [cntM] at hk⟩
theorem inv_step {n : Nat} {pre : List ActM} {v : List Int} {a : ActM} (h : Inv n pre v) (h0 : 0 ≤ a.r) (h1 : a.r < n) (hn : a.n = v.getD a.r.toNat 0 + 1) : Inv n (pre ++ [a]) (v.set a.r.toNat (v.getD a.r.toNat 0 + 1)) := by
  have hl := h.len
  obtain ⟨q, hq⟩ := Int.eq_ofNat_of_zero_le h0
  have hqn : q < n := by omega
  have hqt : a.r.toNat = q := by omega
  rw [hqt] at hn ⊢
  refine ⟨by simpa using hl, fun p hp => ?_, fun p hp k hk => ?_⟩
  · rw [cnt_app, cnt_one]
    by_cases e : q = p
    · subst e
      have : (v.set q (v.getD q 0 + 1)).getD q 0 = v.getD q 0 + 1 := by simp [List.getD, hl, hqn]
      rw [this, h.cnt q hqn, if_pos hq]
      omega
    · have : (v.set q (v.getD q 0 + 1)).getD p 0 = v.getD p 0 := by simp [List.getD, e]
      rw [this, h.cnt p hp, if_neg (by omega)]
      omega
  · rw [cnt_app, cnt_one] at hk
    by_cases hk2 : k < cntM pre p
    · obtain ⟨b, hb, r⟩ := h.has p hp k hk2
      exact ⟨b, List.mem_append_left _ hb, r⟩
    · by_cases e : a.r = (p : Int)
      · rw [if_pos e] at hk
        have hpq : p = q := by omega
        subst hpq
        refine ⟨a, by simp, e, ?_⟩
        rw [hn, h.cnt p hp]
        omega
      · rw [if_neg e] at hk
        omega
theorem scan_inv {n : Nat} : ∀ (l : List ActM) (p : Option ActM) (pre : List ActM) (v x : List Int), Inv n pre v → scanM n p v l = some x → Inv n (pre ++ l) x
  | [], _, pre, v, x, hi, h => by cases h; simpa using hi
  | a :: l, p, pre, v, x, hi, h => by
    rw [scanM] at h
    split at h
    · rename_i hc
      obtain ⟨r0, r1, _⟩ := ok_parts hc.1
      have := scan_inv l (some a) (pre ++ [a]) _ x (inv_step hi r0 r1 hc.2.2) h
      simpa using this
    · cases h
theorem scan_counts {n : Nat} {l : List ActM} {x : List Int} (h : scanM n none (List.replicate n 0) l = some x) : countsUpM l n = true := by
  have hi := scan_inv l none [] _ x (inv_zero n) h
  simp only [List.nil_append] at hi
  simp only [countsUpM, List.all_eq_true, List.mem_range, List.any_eq_true, Bool.and_eq_true, decide_eq_true_eq]
  exact fun p hp k hk => hi.has p hp k hk

/-- among good acts: to know is to have the number -/
theorem knows_ok {a b : ActM} {n : Nat} (ha : actOkM a n = true) (hb : actOkM b n = true) : knowsM a b = decide (b.n ≤ a.dep.getD b.r.toNat 0) := by
  obtain ⟨_, _, hl⟩ := ok_parts ha
  obtain ⟨r0, r1, _⟩ := ok_parts hb
  have hn : 1 ≤ b.n := by
    simp only [actOkM, Bool.and_eq_true, decide_eq_true_eq] at hb
    omega
  have h1 : decide (0 ≤ b.r) = true := by simpa using r0
  have h2 : decide (b.r < (a.dep.length : Int)) = true := by simp; omega
  have h3 : decide (1 ≤ b.n) = true := by simpa using hn
  rw [knowsM, h1, h2, h3]
  simp
theorem second_eq {n : Nat} (v : List Int) (l : List ActM) (hok : ∀ a ∈ l, actOkM a n = true) : ∀ rest : List ActM, (∀ a ∈ rest, a ∈ l) → secondM v l rest = rest.all fun a => leqB a.dep v && l.all fun b => !decide (b.n ≤ a.dep.getD b.r.toNat 0) || leqB b.dep a.dep
  | [], _ => rfl
  | a :: rest, h => by
    rw [secondM, second_eq v l hok rest (fun x hx => h x (List.mem_cons_of_mem _ hx)), List.all_cons]
    congr 1
    congr 1
    rw [Bool.eq_iff_iff]
    simp only [List.all_eq_true]
    have hp : ∀ b ∈ l, pairB a b = (!decide (b.n ≤ a.dep.getD b.r.toNat 0) || leqB b.dep a.dep) := fun b hb => by
      rw [pairB, knows_ok (hok a (h a (by simp))) (hok b hb)]
    exact ⟨fun H b hb => by rw [← hp b hb]; exact H b hb, fun H b hb => by rw [hp b hb]; exact H b hb⟩
/-- what the reference finds good the program does -/
theorem ref_prog {l : List ActM} {n : Nat} (h : afterM l (scanM n none (List.replicate n 0) l) = true) : progM l n = true := by
  unfold afterM at h
  cases hs : scanM n none (List.replicate n 0) l with
  | none => rw [hs] at h; cases h
  | some x =>
    rw [hs] at h
    have ho := scan_order l none _ x hs
    have hx := scan_clock l none _ x hs
    have hok := order_all l none ho
    have h2 : secondM x l l = true := h
    rw [second_eq x l hok l (fun a ha => ha)] at h2
    have hcl : x = clockM l n := hx
    rw [hcl] at h2
    simp only [progM, Bool.and_eq_true]
    exact ⟨⟨ho, scan_counts hs⟩, h2⟩

/-- numbers that do not fall, and 1 to how many there are among them: they are these -/
theorem sorted_all : ∀ (c : Nat) (xs : List Int), xs.length = c → xs.Pairwise (· ≤ ·) → (∀ k, k < c → ((k : Int) + 1) ∈ xs) → ∀ i, i < c → xs.getD i 0 = (i : Int) + 1
  | 0, _, _, _, _, i, hi => by omega
  | c + 1, xs, hl, hp, hh, i, hi => by
    have hne : xs ≠ [] := by intro e; rw [e] at hl; simp at hl
    obtain ⟨ys, y, rfl⟩ : ∃ ys y, xs = ys ++ [y] := ⟨xs.dropLast, xs.getLast hne, (List.dropLast_concat_getLast hne).symm⟩
    have hly : ys.length = c := by simpa using hl
    obtain ⟨hp1, _, hp2⟩ := List.pairwise_append.1 hp
    have hmax : ∀ x ∈ ys, x ≤ y := fun x hx => hp2 x hx y (by simp)
    have hyc : (c : Int) + 1 ≤ y := by
      have := hh c (by omega)
      rcases List.mem_append.1 this with h | h
      · exact hmax _ h
      · simp at h; omega
    have hys : ∀ k, k < c → ((k : Int) + 1) ∈ ys := fun k hk => by
      have := hh k (by omega)
      rcases List.mem_append.1 this with h | h
      · exact h
      · simp at h; omega
    have ih := sorted_all c ys hly hp1 hys
    by_cases hic : i < c
    · have := ih i hic
      simpa [List.getD, List.getElem?_append, hly, hic] using this
    · have hie : i = c := by omega
      subst hie
      have hc1 := hh i (by omega)
      rcases List.mem_append.1 hc1 with h | h
      · obtain ⟨j, hj, e⟩ := List.mem_iff_getElem.1 h
        have := ih j (by omega)
        simp only [List.getD, List.getElem?_eq_getElem hj, Option.getD_some] at this
        omega
      · simp at h
        simp [List.getD, hly]
        omega

theorem wrap_small (x : Int) (h0 : 0 ≤ x) (h1 : x ≤ 1000000) : wrap64 x = x := by
  unfold wrap64
  omega
theorem sumW_small {xs : List Int} (h : okB xs = true) : sumW xs = xs.sum := by
  simp only [okB, Bool.and_eq_true, decide_eq_true_eq, List.all_eq_true, good] at h
  obtain ⟨⟨h1, h4⟩, hg⟩ := h
  have g := fun x hx => hg x hx
  match xs, h1, h4 with
  | [a], _, _ =>
    have := g a (by simp)
    simp [sumW]
    exact wrap_small a (by omega) (by omega)
  | [a, b], _, _ =>
    have ga := g a (by simp)
    have gb := g b (by simp)
    simp [sumW]
    rw [wrap_small a (by omega) (by omega), wrap_small (a + b) (by omega) (by omega)]
  | [a, b, c], _, _ =>
    have ga := g a (by simp)
    have gb := g b (by simp)
    have gc := g c (by simp)
    simp [sumW]
    rw [wrap_small a (by omega) (by omega), wrap_small (a + b) (by omega) (by omega), wrap_small (a + b + c) (by omega) (by omega)]
    omega
  | [a, b, c, d], _, _ =>
    have ga := g a (by simp)
    have gb := g b (by simp)
    have gc := g c (by simp)
    have gd := g d (by simp)
    simp [sumW]
    rw [wrap_small a (by omega) (by omega), wrap_small (a + b) (by omega) (by omega), wrap_small (a + b + c) (by omega) (by omega), wrap_small (a + b + c + d) (by omega) (by omega)]
    omega
theorem sum_lt : ∀ (xs ys : List Int) (q : Nat), xs.length = ys.length → (∀ i, i < xs.length → xs.getD i 0 ≤ ys.getD i 0) → q < xs.length → xs.getD q 0 < ys.getD q 0 → xs.sum < ys.sum
  | [], _, q, _, _, hq, _ => by simp at hq
  | x :: xs, [], _, hl, _, _, _ => by simp at hl
  | x :: xs, y :: ys, q, hl, hle, hq, hlt => by
    have hl' : xs.length = ys.length := by simpa using hl
    have h0 : x ≤ y := by simpa using hle 0 (by simp)
    have hle' : ∀ i, i < xs.length → xs.getD i 0 ≤ ys.getD i 0 := fun i hi => by simpa using hle (i + 1) (by simpa using hi)
    have hsum : xs.sum ≤ ys.sum := by
      clear hlt hq hle h0 hl
      induction xs generalizing ys with
      | nil => cases ys with
        | nil => simp
        | cons y ys => simp at hl'
      | cons x xs ih => cases ys with
        | nil => simp at hl'
        | cons y ys =>
          have a1 : x ≤ y := by simpa using hle' 0 (by simp)
          have a2 := ih ys (by simpa using hl') (fun i hi => by simpa using hle' (i + 1) (by simpa using hi))
          simp only [List.sum_cons]
          omega
    cases q with
    | zero =>
      have : x < y := by simpa using hlt
      simp only [List.sum_cons]
      omega
    | succ q =>
      have := sum_lt xs ys q hl' hle' (by simpa using hq) (by simpa using hlt)
      simp only [List.sum_cons]
      omega
end Go.Proofs.YtjjgigoehgabkaaDoor
namespace Go.Proofs.YtjjgigoehgabkaaDoor
open Go.RowKit
set_option linter.unusedVariables false

theorem ahead_not_both (a b : ActM) : ¬ (aheadM a b = true ∧ aheadM b a = true) := by
  unfold aheadM
  intro h
  by_cases e : sumW a.dep = sumW b.dep
  · rw [if_pos e, if_pos e.symm] at h
    simp only [Bool.or_eq_true, Bool.and_eq_true, decide_eq_true_eq] at h
    omega
  · rw [if_neg e, if_neg (fun h => e h.symm)] at h
    simp only [decide_eq_true_eq] at h
    omega
theorem ok_dep {a : ActM} {n : Nat} (h : actOkM a n = true) : okB a.dep = true ∧ a.dep.getD a.r.toNat 0 = a.n - 1 := by
  simp only [actOkM, Bool.and_eq_true, decide_eq_true_eq] at h
  exact ⟨by simp [h], by omega⟩
/-- of one place the lesser number stands ahead -/
theorem lesser_ahead {l : List ActM} {n : Nat} (hok : ∀ a ∈ l, actOkM a n = true) (hc : closedM l n = true) {a b : ActM} (ha : a ∈ l) (hb : b ∈ l) (hr : a.r = b.r) (hn : a.n < b.n) : aheadM a b = true := by
  have oa := ok_dep (hok a ha)
  have ob := ok_dep (hok b hb)
  obtain ⟨r0, r1, la⟩ := ok_parts (hok a ha)
  obtain ⟨_, _, lb⟩ := ok_parts (hok b hb)
  simp only [closedM, List.all_eq_true, Bool.and_eq_true, Bool.or_eq_true, Bool.not_eq_true', decide_eq_false_iff_not] at hc
  have h1 := (hc b hb).2 a ha
  have h2 : leqB a.dep b.dep = true := by
    rcases h1 with h1 | h1
    · exact absurd (by rw [hr, ob.2]; omega) h1
    · exact h1
  have h3 := (leqB_iff _ _).1 h2
  have hlt : a.dep.getD a.r.toNat 0 < b.dep.getD a.r.toNat 0 := by rw [oa.2, hr, ob.2]; omega
  have hs := sum_lt a.dep b.dep a.r.toNat (by omega) h3 (by omega) hlt
  unfold aheadM
  rw [sumW_small oa.1, sumW_small ob.1, if_neg (by omega)]
  simpa using hs
/-- each act has the number that comes next -/
theorem number_of {l pre post : List ActM} {a : ActM} {n : Nat} (ho : orderM n none l = true) (hcu : countsUpM l n = true) (hc : closedM l n = true) (hl : l = pre ++ a :: post) : a.n = (cntM pre a.r.toNat : Int) + 1 := by
  have hok := order_all l none ho
  have ham : a ∈ l := by rw [hl]; simp
  obtain ⟨r0, r1, _⟩ := ok_parts (hok a ham)
  obtain ⟨p, hp⟩ := Int.eq_ofNat_of_zero_le r0
  have hpn : p < n := by omega
  have hpt : a.r.toNat = p := by omega
  rw [hpt]
  have hpw := (order_pairwise l none ho).1
  have hsort : ((l.filter fun b => decide (b.r = (p : Int))).map ActM.n).Pairwise (· ≤ ·) := by
    rw [List.pairwise_map]
    refine (hpw.filter _).imp_of_mem fun {x y} hx hy h => ?_
    obtain ⟨hx1, hx2⟩ := List.mem_filter.1 hx
    obtain ⟨hy1, hy2⟩ := List.mem_filter.1 hy
    simp only [decide_eq_true_eq] at hx2 hy2
    by_cases hlt : y.n < x.n
    · exact absurd ⟨h, lesser_ahead hok hc hy1 hx1 (by omega) hlt⟩ (ahead_not_both x y)
    · omega
  have hhas : ∀ k, k < cntM l p → ((k : Int) + 1) ∈ (l.filter fun b => decide (b.r = (p : Int))).map ActM.n := by
    intro k hk
    simp only [countsUpM, List.all_eq_true, List.mem_range, List.any_eq_true, Bool.and_eq_true, decide_eq_true_eq] at hcu
    obtain ⟨x, hx, h1, h2⟩ := hcu p hpn k hk
    exact List.mem_map.2 ⟨x, List.mem_filter.2 ⟨hx, by simpa using h1⟩, h2⟩
  have hcnt : cntM l p = cntM pre p + (1 + cntM post p) := by
    rw [hl, cnt_app, show a :: post = [a] ++ post from rfl, cnt_app, cnt_one, if_pos hp]
  have hall := sorted_all (cntM l p) _ (by simp [cntM]) hsort hhas (cntM pre p) (by omega)
  have hsplit : (l.filter fun b => decide (b.r = (p : Int))).map ActM.n = (pre.filter fun b => decide (b.r = (p : Int))).map ActM.n ++ a.n :: (post.filter fun b => decide (b.r = (p : Int))).map ActM.n := by
    rw [hl, List.filter_append, List.filter_cons_of_pos (by simpa using hp)]
    simp
  rw [hsplit] at hall
  have hlen : ((pre.filter fun b => decide (b.r = (p : Int))).map ActM.n).length = cntM pre p := by simp [cntM]
  have hget : ((pre.filter fun b => decide (b.r = (p : Int))).map ActM.n ++ a.n :: (post.filter fun b => decide (b.r = (p : Int))).map ActM.n).getD (cntM pre p) 0 = a.n := by
    rw [← hlen]
    simp [List.getD]
  omega
theorem scan_goes {l : List ActM} {n : Nat} (ho : orderM n none l = true) (hcu : countsUpM l n = true) (hc : closedM l n = true) : ∀ (rest pre : List ActM) (p : Option ActM) (v : List Int), l = pre ++ rest → Inv n pre v → orderM n p rest = true → ∃ x, scanM n p v rest = some x
  | [], _, _, v, _, _, _ => ⟨v, rfl⟩
  | a :: rest, pre, p, v, hl, hi, hr => by
    simp only [orderM, Bool.and_eq_true] at hr
    obtain ⟨r0, r1, _⟩ := ok_parts hr.1.1
    have hn : a.n = v.getD a.r.toNat 0 + 1 := by
      rw [number_of ho hcu hc hl, hi.cnt a.r.toNat (by omega)]
    rw [scan_yes hr.1.1 hr.1.2 hn]
    exact scan_goes ho hcu hc rest (pre ++ [a]) (some a) _ (by rw [hl]; simp) (inv_step hi r0 r1 hn) hr.2
/-- the program and the reference find the same good -/
theorem prog_ref (l : List ActM) (n : Nat) : progM l n = afterM l (scanM n none (List.replicate n 0) l) := by
  rw [Bool.eq_iff_iff]
  constructor
  · intro h
    simp only [progM, Bool.and_eq_true] at h
    obtain ⟨⟨ho, hcu⟩, hc⟩ := h
    obtain ⟨x, hx⟩ := scan_goes ho hcu hc l [] none _ rfl (inv_zero n) ho
    have hcl : x = clockM l n := scan_clock l none _ x hx
    rw [hx]
    show secondM x l l = true
    rw [second_eq x l (order_all l none ho) l (fun a ha => ha), hcl]
    exact hc
  · exact ref_prog
end Go.Proofs.YtjjgigoehgabkaaDoor
namespace Go.Proofs.YtjjgigoehgabkaaDoor
open Go.RowKit
set_option linter.unusedVariables false

/-- are the numbers from k on, m of them, all there? -/
def cuIn (D : DataW Unit) (p : Int) : Nat → Nat → Bool
  | 0, _ => true
  | m + 1, k => Maps.has D (nameL p k) && cuIn D p m (k + 1)
/-- and those of the places from p on, m of them? -/
def cuOut (D : DataW Unit) (xs : List Int) : Nat → Nat → Bool
  | 0, _ => true
  | m + 1, p => cuIn D p (xs.getD p 0).toNat 1 && cuOut D xs m (p + 1)

end Go.Proofs.YtjjgigoehgabkaaDoor
namespace Go.Proofs.YtjjgigoehgabkaaDoor
open Go.RowKit
set_option linter.unusedVariables false

def I64 (x : Int) : Prop := -9223372036854775808 ≤ x ∧ x ≤ 9223372036854775807
/-- the map of a list: where each name stands -/
def atD : List ActM → Nat → DataW Unit → DataW Unit
  | [], _, D => D
  | a :: l, i, D => atD l (i + 1) (D.put (nameL a.r a.n) (.lit (.int .i64 i)))
theorem atD_snoc : ∀ (l : List ActM) (i : Nat) (D : DataW Unit) (a : ActM), atD (l ++ [a]) i D = (atD l i D).put (nameL a.r a.n) (.lit (.int .i64 ((i + l.length : Nat) : Int)))
  | [], i, D, a => by simp [atD]
  | b :: l, i, D, a => by
    simp only [List.cons_append, atD, atD_snoc l (i + 1), List.length_cons]
    rw [show i + 1 + l.length = i + (l.length + 1) from by omega]
theorem cuIn_eq (D : DataW Unit) (p : Int) : ∀ (m k : Nat), cuIn D p m k = (List.range m).all fun j => Maps.has D (nameL p ((k + j : Nat) : Int))
  | 0, k => rfl
  | m + 1, k => by
    rw [cuIn, cuIn_eq D p m (k + 1), List.range_succ_eq_map, List.all_cons, List.all_map]
    simp only [Nat.add_zero]
    congr 1
    congr 1
    funext j
    simp only [Function.comp]
    rw [show k + 1 + j = k + (j + 1) from by omega]
theorem cuOut_eq (D : DataW Unit) (xs : List Int) : ∀ (m p : Nat), cuOut D xs m p = (List.range m).all fun j => cuIn D ((p + j : Nat) : Int) (xs.getD (p + j) 0).toNat 1
  | 0, p => rfl
  | m + 1, p => by
    rw [cuOut, cuOut_eq D xs m (p + 1), List.range_succ_eq_map, List.all_cons, List.all_map]
    simp only [Nat.add_zero]
    congr 1
    congr 1
    funext j
    simp only [Function.comp]
    rw [show p + 1 + j = p + (j + 1) from by omega]
/-- how many acts of each place: the clock counts them -/
theorem clockFrom_cnt {n : Nat} : ∀ (l : List ActM) (v : List Int), v.length = n → (∀ a ∈ l, 0 ≤ a.r ∧ a.r < n) → ∀ p, p < n → (clockFrom l v).getD p 0 = v.getD p 0 + (cntM l p : Int)
  | [], v, _, _, p, _ => by simp [clockFrom, cntM]
  | a :: l, v, hv, hl, p, hp => by
    obtain ⟨r0, r1⟩ := hl a (by simp)
    obtain ⟨q, hq⟩ := Int.eq_ofNat_of_zero_le r0
    have hqt : a.r.toNat = q := by omega
    rw [clockFrom, clockFrom_cnt l _ (by simpa using hv) (fun b hb => hl b (List.mem_cons_of_mem _ hb)) p hp, show a :: l = [a] ++ l from rfl, cnt_app, cnt_one, hqt]
    by_cases e : q = p
    · subst e
      have : (v.set q (v.getD q 0 + 1)).getD q 0 = v.getD q 0 + 1 := by simp [List.getD, hv, hp]
      rw [this, if_pos hq]
      omega
    · have : (v.set q (v.getD q 0 + 1)).getD p 0 = v.getD p 0 := by simp [List.getD, e]
      rw [this, if_neg (by omega)]
      omega
theorem clockM_cnt {n : Nat} (l : List ActM) (hl : ∀ a ∈ l, 0 ≤ a.r ∧ a.r < n) (p : Nat) (hp : p < n) : (clockM l n).getD p 0 = (cntM l p : Int) := by
  rw [clockM, clockFrom_cnt l _ (by simp) hl p hp]
  simp [List.getD, hp]
end Go.Proofs.YtjjgigoehgabkaaDoor
