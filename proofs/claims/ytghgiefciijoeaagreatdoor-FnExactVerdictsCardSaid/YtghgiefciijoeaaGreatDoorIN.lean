/- The program's mark, read word by word: what a row's closed facts ask of it. -/
import Derived.Test.YtghgiefciijoeaaGreatDoorRows
import Derived.WalkKit
import Derived.ProofKit
import Derived.OpenShut
import Derived.JoinedOf

namespace Go.Proofs.YtghgiefciijoeaaGreatDoor
open Go.RowKit
set_option linter.unusedVariables false
def wordsIn : List Char → List Char → List (List Char)
 | acc, [] => [acc.reverse]
 | acc, c :: r => if c = Char.ofNat 32 then acc.reverse :: wordsIn [] r else wordsIn (c :: acc) r
theorem words_ne : ∀ l : List Char, wordsSigns l ≠ []
 | [] => by simp [wordsSigns]
 | c :: r => by
  unfold wordsSigns
  split
  ·simp
  ·simp
  ·split <;> simp
theorem words_cons {c : Char} {r : List Char} (h : c ≠ Char.ofNat 32) {w : List Char} {ws : List (List Char)} (hr : wordsSigns r = w :: ws) : wordsSigns (c :: r) = (c :: w) :: ws := by
 unfold wordsSigns
 split
 ·rename_i h1; cases h1
 ·rename_i r' h1
  cases h1
  exact absurd rfl h
 ·rename_i c' r' hc h1
  cases h1
  rw [hr]
theorem words_space (r : List Char) : wordsSigns (Char.ofNat 32 :: r) = [] :: wordsSigns r := rfl
theorem wordsIn_eq : ∀ (l acc : List Char), wordsIn acc l = match wordsSigns l with | w :: ws => (acc.reverse ++ w) :: ws | [] => [acc.reverse]
 | [], acc => by simp [wordsIn, wordsSigns]
 | c :: r, acc => by
  rw [wordsIn]
  by_cases h : c = Char.ofNat 32
  ·rw [if_pos h, h, words_space, wordsIn_eq r []]
   cases hr : wordsSigns r with
   | nil => exact absurd hr (words_ne r)
   | cons w ws => simp
  ·rw [if_neg h, wordsIn_eq r (c :: acc)]
   cases hr : wordsSigns r with
   | nil => exact absurd hr (words_ne r)
   | cons w ws => rw [words_cons h hr]; simp
theorem words_in (l : List Char) : wordsSigns l = wordsIn [] l := by
 rw [wordsIn_eq]
 cases hr : wordsSigns l with
 | nil => exact absurd hr (words_ne l)
 | cons w ws => simp
set_option maxRecDepth 100000 in
theorem markText : Tryz.prog.initOrder = String.ofList [Char.ofNat 104, Char.ofNat 97, Char.ofNat 114, Char.ofNat 110, Char.ofNat 101, Char.ofNat 115, Char.ofNat 115, Char.ofNat 32, Char.ofNat 97, Char.ofNat 50, Char.ofNat 49, Char.ofNat 102, Char.ofNat 55, Char.ofNat 55, Char.ofNat 49, Char.ofNat 100, Char.ofNat 48, Char.ofNat 55, Char.ofNat 48, Char.ofNat 100, Char.ofNat 49, Char.ofNat 53, Char.ofNat 53, Char.ofNat 49, Char.ofNat 100, Char.ofNat 101, Char.ofNat 51, Char.ofNat 57, Char.ofNat 102, Char.ofNat 100, Char.ofNat 50, Char.ofNat 99, Char.ofNat 56, Char.ofNat 48, Char.ofNat 49, Char.ofNat 48, Char.ofNat 54, Char.ofNat 51, Char.ofNat 54, Char.ofNat 48, Char.ofNat 54, Char.ofNat 98, Char.ofNat 101, Char.ofNat 99, Char.ofNat 99, Char.ofNat 98, Char.ofNat 98, Char.ofNat 101, Char.ofNat 51, Char.ofNat 51, Char.ofNat 102, Char.ofNat 56, Char.ofNat 101, Char.ofNat 50, Char.ofNat 50, Char.ofNat 55, Char.ofNat 102, Char.ofNat 97, Char.ofNat 52, Char.ofNat 99, Char.ofNat 102, Char.ofNat 52, Char.ofNat 99, Char.ofNat 50, Char.ofNat 53, Char.ofNat 53, Char.ofNat 51, Char.ofNat 100, Char.ofNat 98, Char.ofNat 48, Char.ofNat 49, Char.ofNat 52, Char.ofNat 32, Char.ofNat 99, Char.ofNat 117, Char.ofNat 116, Char.ofNat 32, Char.ofNat 97, Char.ofNat 116, Char.ofNat 32, Char.ofNat 108, Char.ofNat 111, Char.ofNat 111, Char.ofNat 112, Char.ofNat 46, Char.ofNat 101, Char.ofNat 120, Char.ofNat 97, Char.ofNat 109, Char.ofNat 112, Char.ofNat 108, Char.ofNat 101, Char.ofNat 47, Char.ofNat 103, Char.ofNat 48, Char.ofNat 48, Char.ofNat 55, Char.ofNat 49, Char.ofNat 55, Char.ofNat 47, Char.ofNat 108, Char.ofNat 97, Char.ofNat 119, Char.ofNat 115, Char.ofNat 46, Char.ofNat 70, Char.ofNat 110, Char.ofNat 75, Char.ofNat 101, Char.ofNat 101, Char.ofNat 112, Char.ofNat 101, Char.ofNat 114, Char.ofNat 32, Char.ofNat 108, Char.ofNat 111, Char.ofNat 111, Char.ofNat 112, Char.ofNat 46, Char.ofNat 101, Char.ofNat 120, Char.ofNat 97, Char.ofNat 109, Char.ofNat 112, Char.ofNat 108, Char.ofNat 101, Char.ofNat 47, Char.ofNat 103, Char.ofNat 48, Char.ofNat 48, Char.ofNat 55, Char.ofNat 49, Char.ofNat 55, Char.ofNat 47, Char.ofNat 108, Char.ofNat 97, Char.ofNat 119, Char.ofNat 115, Char.ofNat 46, Char.ofNat 70, Char.ofNat 110, Char.ofNat 85, Char.ofNat 112, Char.ofNat 100, Char.ofNat 97, Char.ofNat 116, Char.ofNat 101, Char.ofNat 115, Char.ofNat 32, Char.ofNat 108, Char.ofNat 111, Char.ofNat 111, Char.ofNat 112, Char.ofNat 46, Char.ofNat 101, Char.ofNat 120, Char.ofNat 97, Char.ofNat 109, Char.ofNat 112, Char.ofNat 108, Char.ofNat 101, Char.ofNat 47, Char.ofNat 103, Char.ofNat 48, Char.ofNat 48, Char.ofNat 55, Char.ofNat 49, Char.ofNat 55, Char.ofNat 47, Char.ofNat 108, Char.ofNat 97, Char.ofNat 119, Char.ofNat 115, Char.ofNat 46, Char.ofNat 70, Char.ofNat 110, Char.ofNat 83, Char.ofNat 101, Char.ofNat 116, Char.ofNat 116, Char.ofNat 108, Char.ofNat 101, Char.ofNat 115, Char.ofNat 32, Char.ofNat 108, Char.ofNat 111, Char.ofNat 111, Char.ofNat 112, Char.ofNat 46, Char.ofNat 101, Char.ofNat 120, Char.ofNat 97, Char.ofNat 109, Char.ofNat 112, Char.ofNat 108, Char.ofNat 101, Char.ofNat 47, Char.ofNat 103, Char.ofNat 48, Char.ofNat 48, Char.ofNat 55, Char.ofNat 49, Char.ofNat 55, Char.ofNat 47, Char.ofNat 108, Char.ofNat 97, Char.ofNat 119, Char.ofNat 115, Char.ofNat 46, Char.ofNat 70, Char.ofNat 110, Char.ofNat 69, Char.ofNat 120, Char.ofNat 97, Char.ofNat 99, Char.ofNat 116, Char.ofNat 67, Char.ofNat 111, Char.ofNat 117, Char.ofNat 110, Char.ofNat 116, Char.ofNat 115, Char.ofNat 32, Char.ofNat 108, Char.ofNat 111, Char.ofNat 111, Char.ofNat 112, Char.ofNat 46, Char.ofNat 101, Char.ofNat 120, Char.ofNat 97, Char.ofNat 109, Char.ofNat 112, Char.ofNat 108, Char.ofNat 101, Char.ofNat 47, Char.ofNat 103, Char.ofNat 48, Char.ofNat 48, Char.ofNat 55, Char.ofNat 49, Char.ofNat 55, Char.ofNat 47, Char.ofNat 108, Char.ofNat 97, Char.ofNat 119, Char.ofNat 115, Char.ofNat 46, Char.ofNat 70, Char.ofNat 110, Char.ofNat 69, Char.ofNat 120, Char.ofNat 97, Char.ofNat 99, Char.ofNat 116, Char.ofNat 86, Char.ofNat 101, Char.ofNat 114, Char.ofNat 100, Char.ofNat 105, Char.ofNat 99, Char.ofNat 116, Char.ofNat 115, Char.ofNat 32, Char.ofNat 108, Char.ofNat 111, Char.ofNat 111, Char.ofNat 112, Char.ofNat 46, Char.ofNat 101, Char.ofNat 120, Char.ofNat 97, Char.ofNat 109, Char.ofNat 112, Char.ofNat 108, Char.ofNat 101, Char.ofNat 47, Char.ofNat 103, Char.ofNat 48, Char.ofNat 48, Char.ofNat 55, Char.ofNat 49, Char.ofNat 55, Char.ofNat 47, Char.ofNat 108, Char.ofNat 97, Char.ofNat 119, Char.ofNat 115, Char.ofNat 46, Char.ofNat 70, Char.ofNat 110, Char.ofNat 69, Char.ofNat 120, Char.ofNat 97, Char.ofNat 99, Char.ofNat 116, Char.ofNat 85, Char.ofNat 112, Char.ofNat 100, Char.ofNat 97, Char.ofNat 116, Char.ofNat 101] := by kernel_rfl
set_option maxRecDepth 100000 in
theorem markSigns : Tryz.prog.initOrder.toList = [Char.ofNat 104, Char.ofNat 97, Char.ofNat 114, Char.ofNat 110, Char.ofNat 101, Char.ofNat 115, Char.ofNat 115, Char.ofNat 32, Char.ofNat 97, Char.ofNat 50, Char.ofNat 49, Char.ofNat 102, Char.ofNat 55, Char.ofNat 55, Char.ofNat 49, Char.ofNat 100, Char.ofNat 48, Char.ofNat 55, Char.ofNat 48, Char.ofNat 100, Char.ofNat 49, Char.ofNat 53, Char.ofNat 53, Char.ofNat 49, Char.ofNat 100, Char.ofNat 101, Char.ofNat 51, Char.ofNat 57, Char.ofNat 102, Char.ofNat 100, Char.ofNat 50, Char.ofNat 99, Char.ofNat 56, Char.ofNat 48, Char.ofNat 49, Char.ofNat 48, Char.ofNat 54, Char.ofNat 51, Char.ofNat 54, Char.ofNat 48, Char.ofNat 54, Char.ofNat 98, Char.ofNat 101, Char.ofNat 99, Char.ofNat 99, Char.ofNat 98, Char.ofNat 98, Char.ofNat 101, Char.ofNat 51, Char.ofNat 51, Char.ofNat 102, Char.ofNat 56, Char.ofNat 101, Char.ofNat 50, Char.ofNat 50, Char.ofNat 55, Char.ofNat 102, Char.ofNat 97, Char.ofNat 52, Char.ofNat 99, Char.ofNat 102, Char.ofNat 52, Char.ofNat 99, Char.ofNat 50, Char.ofNat 53, Char.ofNat 53, Char.ofNat 51, Char.ofNat 100, Char.ofNat 98, Char.ofNat 48, Char.ofNat 49, Char.ofNat 52, Char.ofNat 32, Char.ofNat 99, Char.ofNat 117, Char.ofNat 116, Char.ofNat 32, Char.ofNat 97, Char.ofNat 116, Char.ofNat 32, Char.ofNat 108, Char.ofNat 111, Char.ofNat 111, Char.ofNat 112, Char.ofNat 46, Char.ofNat 101, Char.ofNat 120, Char.ofNat 97, Char.ofNat 109, Char.ofNat 112, Char.ofNat 108, Char.ofNat 101, Char.ofNat 47, Char.ofNat 103, Char.ofNat 48, Char.ofNat 48, Char.ofNat 55, Char.ofNat 49, Char.ofNat 55, Char.ofNat 47, Char.ofNat 108, Char.ofNat 97, Char.ofNat 119, Char.ofNat 115, Char.ofNat 46, Char.ofNat 70, Char.ofNat 110, Char.ofNat 75, Char.ofNat 101, Char.ofNat 101, Char.ofNat 112, Char.ofNat 101, Char.ofNat 114, Char.ofNat 32, Char.ofNat 108, Char.ofNat 111, Char.ofNat 111, Char.ofNat 112, Char.ofNat 46, Char.ofNat 101, Char.ofNat 120, Char.ofNat 97, Char.ofNat 109, Char.ofNat 112, Char.ofNat 108, Char.ofNat 101, Char.ofNat 47, Char.ofNat 103, Char.ofNat 48, Char.ofNat 48, Char.ofNat 55, Char.ofNat 49, Char.ofNat 55, Char.ofNat 47, Char.ofNat 108, Char.ofNat 97, Char.ofNat 119, Char.ofNat 115, Char.ofNat 46, Char.ofNat 70, Char.ofNat 110, Char.ofNat 85, Char.ofNat 112, Char.ofNat 100, Char.ofNat 97, Char.ofNat 116, Char.ofNat 101, Char.ofNat 115, Char.ofNat 32, Char.ofNat 108, Char.ofNat 111, Char.ofNat 111, Char.ofNat 112, Char.ofNat 46, Char.ofNat 101, Char.ofNat 120, Char.ofNat 97, Char.ofNat 109, Char.ofNat 112, Char.ofNat 108, Char.ofNat 101, Char.ofNat 47, Char.ofNat 103, Char.ofNat 48, Char.ofNat 48, Char.ofNat 55, Char.ofNat 49, Char.ofNat 55, Char.ofNat 47, Char.ofNat 108, Char.ofNat 97, Char.ofNat 119, Char.ofNat 115, Char.ofNat 46, Char.ofNat 70, Char.ofNat 110, Char.ofNat 83, Char.ofNat 101, Char.ofNat 116, Char.ofNat 116, Char.ofNat 108, Char.ofNat 101, Char.ofNat 115, Char.ofNat 32, Char.ofNat 108, Char.ofNat 111, Char.ofNat 111, Char.ofNat 112, Char.ofNat 46, Char.ofNat 101, Char.ofNat 120, Char.ofNat 97, Char.ofNat 109, Char.ofNat 112, Char.ofNat 108, Char.ofNat 101, Char.ofNat 47, Char.ofNat 103, Char.ofNat 48, Char.ofNat 48, Char.ofNat 55, Char.ofNat 49, Char.ofNat 55, Char.ofNat 47, Char.ofNat 108, Char.ofNat 97, Char.ofNat 119, Char.ofNat 115, Char.ofNat 46, Char.ofNat 70, Char.ofNat 110, Char.ofNat 69, Char.ofNat 120, Char.ofNat 97, Char.ofNat 99, Char.ofNat 116, Char.ofNat 67, Char.ofNat 111, Char.ofNat 117, Char.ofNat 110, Char.ofNat 116, Char.ofNat 115, Char.ofNat 32, Char.ofNat 108, Char.ofNat 111, Char.ofNat 111, Char.ofNat 112, Char.ofNat 46, Char.ofNat 101, Char.ofNat 120, Char.ofNat 97, Char.ofNat 109, Char.ofNat 112, Char.ofNat 108, Char.ofNat 101, Char.ofNat 47, Char.ofNat 103, Char.ofNat 48, Char.ofNat 48, Char.ofNat 55, Char.ofNat 49, Char.ofNat 55, Char.ofNat 47, Char.ofNat 108, Char.ofNat 97, Char.ofNat 119, Char.ofNat 115, Char.ofNat 46, Char.ofNat 70, Char.ofNat 110, Char.ofNat 69, Char.ofNat 120, Char.ofNat 97, Char.ofNat 99, Char.ofNat 116, Char.ofNat 86, Char.ofNat 101, Char.ofNat 114, Char.ofNat 100, Char.ofNat 105, Char.ofNat 99, Char.ofNat 116, Char.ofNat 115, Char.ofNat 32, Char.ofNat 108, Char.ofNat 111, Char.ofNat 111, Char.ofNat 112, Char.ofNat 46, Char.ofNat 101, Char.ofNat 120, Char.ofNat 97, Char.ofNat 109, Char.ofNat 112, Char.ofNat 108, Char.ofNat 101, Char.ofNat 47, Char.ofNat 103, Char.ofNat 48, Char.ofNat 48, Char.ofNat 55, Char.ofNat 49, Char.ofNat 55, Char.ofNat 47, Char.ofNat 108, Char.ofNat 97, Char.ofNat 119, Char.ofNat 115, Char.ofNat 46, Char.ofNat 70, Char.ofNat 110, Char.ofNat 69, Char.ofNat 120, Char.ofNat 97, Char.ofNat 99, Char.ofNat 116, Char.ofNat 85, Char.ofNat 112, Char.ofNat 100, Char.ofNat 97, Char.ofNat 116, Char.ofNat 101] := by rw [markText, String.toList_ofList]
set_option maxRecDepth 100000 in
theorem markHead : (behindMainWord (wordsSigns Tryz.prog.initOrder.toList)).head? = some "cut".toList := by
 rw [words_in, markSigns]
 kernel_rfl
theorem markCut : ∃ rest, behindMainWord (wordsSigns Tryz.prog.initOrder.toList) = "cut".toList :: rest := by
 have h := markHead
 cases hb : behindMainWord (wordsSigns Tryz.prog.initOrder.toList) with
 | nil => rw [hb] at h; cases h
 | cons c rest =>
  rw [hb] at h
  exact ⟨rest, by rw [Option.some.inj h]⟩
theorem make_cut (P : Program) {rest : List (List Char)} (hb : behindMainWord (wordsSigns P.initOrder.toList) = "cut".toList :: rest) : (P.make == some Make.cut) = true := by
 unfold Program.make Program.headLifts
 rw [hb]
 rfl
theorem lifts_cut (P : Program) {rest : List (List Char)} (hb : behindMainWord (wordsSigns P.initOrder.toList) = "cut".toList :: rest) : (false == P.liftsFinal) = true := by
 unfold Program.liftsFinal Program.headLifts
 rw [hb]
 rfl
theorem enter_cut (P : Program) {rest : List (List Char)} (hb : behindMainWord (wordsSigns P.initOrder.toList) = "cut".toList :: rest) (h1 : P.laysLater = false) (h2 : P.bearsReflect = false) (h3 : P.doorFits [] = true) : P.mayEnter = true := by
 unfold Program.mayEnter
 rw [hb, h1, h2]
 show (_ || (true && (_ || true) && (_ || true) && (_ || true) && P.doorFits [])) = true
 rw [h3]
 simp
theorem fact_make : (Tryz.prog.make == some Make.cut) = true := by
 obtain ⟨rest, hb⟩ := markCut
 exact make_cut _ hb
theorem fact_lifts : (false == Tryz.prog.liftsFinal) = true := by
 obtain ⟨rest, hb⟩ := markCut
 exact lifts_cut _ hb
theorem fact_enter : Tryz.prog.mayEnter = true := by
 obtain ⟨rest, hb⟩ := markCut
 exact enter_cut _ hb (by kernel_rfl) (by kernel_rfl) (by kernel_rfl)
theorem facts_of (P : Program) (f : FuncId) (fn : Func) (s : ChangeSpec) (c : OpenClaim)
  (a0 : c.wf (OpenSpec.ofChange s) = true)
  (a1 : laidOutB P = true)
  (a2 : mapsRowed P = true)
  (a3 : fn.params.all (P.readableRec ·) = true)
  (a4 : namedTie P c.named s.vars = true)
  (a5 : (c.stops == []) = true)
  (a6 : (P.stops == []) = true)
  (a7 : (c.knobs == []) = true)
  (a8 : (P.stopKnobs == []) = true)
  (a9 : (c.inPlace == P.inPlace f) = true)
  (a10 : (c.unfollowed == P.unfollowed f) = true)
  (a11 : (c.recurses == P.recurses f) = true)
  (a12 : (c.named == P.varsNamed f) = true)
  (a13 : (c.maps == (fn.params.toList ++ s.plain.varTypes P).any (P.mapsRec ·)) = true)
  (a14 : (c.ifaces == (fn.params.toList ++ s.plain.varTypes P).any (P.ifacesRec ·)) = true)
  (a15 : (c.mapsOut == P.mapsAmong fn.resultTypes.toList) = true)
  (a16 : (c.loops == (fn.params.toList ++ s.plain.varTypes P).any (P.loopsFrom ·)) = true)
  (a17 : (c.wideKeys == (fn.params.toList ++ s.plain.varTypes P ++ fn.resultTypes.toList).any (P.wideKeysFrom ·)) = true)
  (a18 : s.vars.all (P.varReadable ·) = true)
  (a19 : fn.resultTypes.all (fun t => P.readableRec t && decide (t < P.types.size)) = true)
  (a20 : (c.ifacesOut == fn.resultTypes.toList.any (P.ifacesRec ·)) = true)
  (a21 : (c.loopsOut == fn.resultTypes.toList.any (P.loopsFrom ·)) = true)
  (a22 : (c.plainKeys == P.plainKeys) = true)
  (a23 : c.shortTexts.isNone = true)
  (a24 : P.stopsHeard = true)
  (a25 : P.mayEnter = true)
  (a26 : (c.lifted == P.liftsFinal) = true)
  (a27 : (P.make == some c.make) = true)
  (a28 : (c.kinds == (if c.domain.isEmpty then [] else fn.params.toList.map fun t => match P.underlying t with | some (.int k) => some k | _ => none)) = true)
  (a29 : (c.pinned == c.pinnedBy) = true)
  (a30 : (c.veiled == (fn.params.toList ++ s.plain.varTypes P ++ fn.resultTypes.toList).any (P.veiledRec ·)) = true)
  (a31 : c.veiledFits P fn.params.toList (fn.params.toList ++ s.plain.varTypes P ++ fn.resultTypes.toList) = true) : joinedFacts P f fn s c = true := by
 simp only [joinedFacts, Bool.and_eq_true]
 exact ⟨⟨⟨⟨⟨⟨⟨⟨⟨⟨⟨⟨⟨⟨⟨⟨⟨⟨⟨⟨⟨⟨⟨⟨⟨⟨⟨⟨⟨⟨⟨a0, a1⟩, a2⟩, a3⟩, a4⟩, a5⟩, a6⟩, a7⟩, a8⟩, a9⟩, a10⟩, a11⟩, a12⟩, a13⟩, a14⟩, a15⟩, a16⟩, a17⟩, a18⟩, a19⟩, a20⟩, a21⟩, a22⟩, a23⟩, a24⟩, a25⟩, a26⟩, a27⟩, a28⟩, a29⟩, a30⟩, a31⟩
end Go.Proofs.YtghgiefciijoeaaGreatDoor
