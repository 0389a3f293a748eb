/-
  Two lists of facts drawn: the arguments of FactsEither.
-/
import Derived.Test.YtehjhdihaloalaaDrawSome
namespace Go.Proofs.Ytehjhdihaloalaa
open Go.RowKit

/-- A call's two lists. -/
def TwoFacts (w w' : World) (e : Ending) : Prop := ∃ (A : Option Addr) (c : Nat) (fs : List LFact) (A2 : Option Addr) (c2 : Nat) (gs : List LFact), e = .returned (.tuple #[.slice A fs.length c, .slice A2 gs.length c2]) ∧ fs.length ≤ 6 ∧ tot fs ≤ 18 ∧ gs.length ≤ 6 ∧ tot gs ≤ 18 ∧
  RdFacts w' w'.heap.size (.slice A fs.length c) fs ∧ RdFacts w' w'.heap.size (.slice A2 gs.length c2) gs ∧ Below w.heap.size w w'

set_option maxHeartbeats 1000000 in
set_option maxRecDepth 100000 in
theorem l1Two_any (v : Value) (bs : List Nat) (w : World) (h : RdBytes w w.heap.size v bs) (hby : ∀ b ∈ bs, b < 256) (hn : bs.length ≤ 1073741824) :
    Calls Try.prog 90 #[v] w fun e w' => TwoFacts w w' e := by
  have H := Lib.hid h
  clear h
  go_enter Try.func90, Try.ntmps90
  go_wp2_with (fail)
  refine (l40Open_any v bs _ H.out hby hn).mono ?_
  rintro e w1 ⟨rfl, hr1, B1⟩
  have HR := Lib.hid hr1
  have hz1 := hr1.lt
  clear hr1
  go_wp2_with (fail)
  refine (l1Arity_any w.heap.size (bs.take 2000) 0 3 _ HR.out (by omega) (by omega)).mono ?_
  rintro e w2 ⟨A2, c2, ar, rfl, hd⟩
  have hlen := hd.len
  have HI := Lib.hid (show OwnInts w2 w1.heap.size w2.heap.size (.slice A2 3 c2) ar from hd.ints)
  have HD := Lib.hid hd.rdr
  have HG := Lib.hid hd.range
  have B2 := B1.trans (hd.only.below (Nat.le_refl _) (by omega))
  have hz2 := hd.only.size
  clear hd
  go_wp2_with (fail)
  refine (l1Some_any w.heap.size (bs.take 2000) 3 6 w1.heap.size w2.heap.size _ ar w2 HD.out (by omega) HI.out (by omega) (Nat.le_refl _) HG.out (by omega) (by omega)).mono ?_
  rintro e w3 ⟨A3, c3, fs, q, rfl, hf, htf, hq, ho, hR, hO⟩
  have HF := Lib.hid ho
  have HR3 := Lib.hid hR
  have hz3 := hO.size
  have HI3 := Lib.hid (HI.out.offG hO (by omega))
  have B3 := B2.trans (hO.below (Nat.le_refl _) (by omega))
  clear ho hR hO HD
  go_wp2_with (fail)
  refine (l1Some_any w.heap.size (bs.take 2000) q 6 w1.heap.size w2.heap.size _ ar w3 HR3.out (by omega) HI3.out (by omega) hz3 HG.out (by omega) (by omega)).mono ?_
  rintro e w4 ⟨A4, c4, gs, q4, rfl, hg, htg, hq4, ho, hR, hO⟩
  have HF4 := Lib.hid ((HF.out.offG hO (by omega)).rd.more hO.size)
  have HG4 := Lib.hid ho.rd
  have B4 := Lib.hid (B3.trans (hO.below (Nat.le_refl _) (by omega)))
  clear ho hR hO B3 B2 B1
  go_wp2_with (fail)
  refine bodyPost_ret (v := .tuple #[.slice A3 fs.length c3, .slice A4 gs.length c4]) (by simp [results, Try.results90, go_sem]) rfl ?_
  exact ⟨A3, c3, fs, A4, c4, gs, rfl, hf, htf, hg, htg, HF4.out, HG4.out, B4.out⟩

set_option maxHeartbeats 1000000 in
theorem drawFactsEither_any (v : Value) (bs : List Nat) (w : World) (h : RdBytes w w.heap.size v bs) (hby : ∀ b ∈ bs, b < 256) (hn : bs.length ≤ 1073741824) :
    Calls Try.prog 58 #[v] w fun e w' => TwoFacts w w' e := by
  have H := Lib.hid h
  clear h
  go_enter Try.func58, Try.ntmps58
  go_wp2_with (fail)
  refine (l1Two_any v bs _ H.out hby hn).mono ?_
  rintro e w1 ⟨A, c, fs, A2, c2, gs, rfl, h1, h2, h3, h4, h5, h6, h7⟩
  have HX := Lib.hid (And.intro h5 (And.intro h6 h7))
  clear h5 h6 h7
  go_wp2_with (fail)
  refine bodyPost_ret (v := .tuple #[.slice A fs.length c, .slice A2 gs.length c2]) (by simp [results, Try.results58, go_sem]) rfl ?_
  exact ⟨A, c, fs, A2, c2, gs, rfl, h1, h2, h3, h4, HX.out⟩

end Go.Proofs.Ytehjhdihaloalaa
