/-
  The law FnLayers: for every input the call returns true, and each argument reads behind it as it read before. Conditions: none but the row's own.
-/
import Derived.Test.YtokmmloakahkhaaDoorMLk8
import Derived.Test.YtokmmloakahkhaaDoorMLk6
import Derived.Test.YtokmmloakahkhaaDoorMLk5
import Derived.Test.YtokmmloakahkhaaDoorMLk2
import Derived.Test.YtokmmloakahkhaaDoorMLk1
import Derived.Test.YtokmmloakahkhaaDoorMLk9
import Derived.Test.YtokmmloakahkhaaDoorMLk7
import Derived.Test.YtokmmloakahkhaaDoorRows
import Derived.Test.YtokmmloakahkhaaDoorCards
import Derived.Test.YtokmmloakahkhaaDoorTie
import Derived.Lay
import Derived.SevenTiedAt
/-
  The walk of the specification's l5Layers and LayersOf.
-/
namespace Go.Proofs.YtokmmloakahkhaaDoor
open Go.RowKit

/-- How much is left to raise. -/
def defL (n : Nat) (out : List Nat) : Nat := (out.map fun x => n - x).sum
theorem defL_set {n x : Nat} : ∀ (out : List Nat) (i : Nat), i < out.length → out.getD i 0 < x → x ≤ n → defL n (out.set i x) < defL n out
  | [], i, h, _, _ => absurd h (by simp)
  | y :: out, 0, _, h1, h2 => by
    simp only [List.getD_cons_zero] at h1
    simp only [defL, List.set_cons_zero, List.map_cons, List.sum_cons]
    omega
  | y :: out, i + 1, h, h1, h2 => by
    have := defL_set out i (by simpa using h) (by simpa using h1) h2
    simp only [defL, List.set_cons_succ, List.map_cons, List.sum_cons] at this ⊢
    omega
def natAt (w : World) (g j : Nat) : Nat := match w.cell? ⟨g, j, none⟩ with | some (.int _ x) => x.toNat | _ => 0
def defW (w : World) (g n : Nat) : Nat := ((List.range n).map fun j => n - natAt w g j).sum
theorem defW_row {w : World} {g n : Nat} {out : List Nat} (h : w.rowIs g 3 n (fun j => .int .i64 ((out.getD j 0 : Nat) : Int))) (hl : out.length = n) : defW w g n = defL n out := by
  unfold defW defL
  congr 1
  apply List.ext_getElem
  · simp [hl]
  · intro j h1 h2
    have hj : j < n := by simpa using h1
    rw [List.getElem_map, List.getElem_map, List.getElem_range]
    unfold natAt
    rw [h.cell hj]
    simp [List.getD_eq_getElem?_getD, show j < out.length by omega]
theorem defW_drew (w : World) (g n : Nat) : defW w.drew g n = defW w g n := rfl
/-- What the rounds keep at every place. -/
structure RnAt (p : LProg) (n : Nat) (out0 out : List Nat) (b : Bool) (i k : Nat) : Prop where
  up : LayUp p out
  few : ∀ u, out.getD u 0 ≤ n
  same : b = false → out = out0 ∧ ∀ a c, a < n → c < n → (a < i ∨ (a = i ∧ c < k)) → 0 < cellV (asksOf p.2) a c → needL p out0 a c ≤ out0.getD a 0
  less : b = true → defL n out < defL n out0
theorem RnAt.row {p : LProg} {n i : Nat} {out0 out : List Nat} {b : Bool} (h : RnAt p n out0 out b i n) : RnAt p n out0 out b (i + 1) 0 := by
  refine ⟨h.up, h.few, fun hb => ⟨(h.same hb).1, fun a c ha hc hac h0 => (h.same hb).2 a c ha hc ?_ h0⟩, h.less⟩
  by_cases e : a = i
  · exact .inr ⟨e, hc⟩
  · exact .inl (by omega)
theorem RnAt.keep {p : LProg} {n i k : Nat} {out0 out : List Nat} {b : Bool} (h : RnAt p n out0 out b i k) (hf : 0 < cellV (asksOf p.2) i k → needL p out i k ≤ out.getD i 0) : RnAt p n out0 out b i (k + 1) :=
  ⟨h.up, h.few, fun hb => by
    obtain ⟨e, h1⟩ := h.same hb
    refine ⟨e, fun a c ha hc hac h0 => ?_⟩
    by_cases e2 : a = i ∧ c = k
    · obtain ⟨rfl, rfl⟩ := e2
      rw [← e]
      exact hf h0
    · exact h1 a c ha hc (by omega) h0, h.less⟩
theorem RnAt.raise {p : LProg} (hp : progOk p = true) {n i k : Nat} {out0 out : List Nat} {b : Bool} (hn : n = p.1.length) (h : RnAt p n out0 out b i k) (hi : i < n) (hk : k < n) (hc : 0 < cellV (asksOf p.2) i k) (hlt : out.getD i 0 < needL p out i k) (hm : needL p out i k ≤ n) : RnAt p n out0 (out.set i (needL p out i k)) true i (k + 1) := by
  subst hn
  have hl := h.up.1
  refine ⟨h.up.raise hp hi hk hc, fun u => ?_, fun hb => (by cases hb), fun _ => ?_⟩
  · by_cases e : u = i
    · subst e
      rw [List.getD_eq_getElem?_getD, List.getElem?_set_self (by omega)]
      exact hm
    · rw [List.getD_eq_getElem?_getD, List.getElem?_set_ne (Ne.symm e), ← List.getD_eq_getElem?_getD]
      exact h.few u
  · have h1 := defL_set (n := p.1.length) (x := needL p out i k) out i (by omega) hlt hm
    cases b with
    | false => rw [← (h.same rfl).1]; exact h1
    | true => have := h.less rfl; omega
theorem set_row {w : World} {g n i x : Nat} {out : List Nat} (h : w.rowIs g 3 n (fun j => .int .i64 ((out.getD j 0 : Nat) : Int))) (hl : out.length = n) (hi : i < n) : (w.setCell ⟨g, i, none⟩ (.int .i64 (x : Int))).rowIs g 3 n (fun j => .int .i64 (((out.set i x).getD j 0 : Nat) : Int)) := by
  refine (h.set i _).congr fun j hj => ?_
  by_cases e : j = i
  · subst e
    rw [if_pos rfl, List.getD_eq_getElem?_getD, List.getElem?_set_self (by omega)]
    rfl
  · rw [if_neg e, List.getD_eq_getElem?_getD, List.getD_eq_getElem?_getD, List.getElem?_set_ne (Ne.symm e)]

set_option maxHeartbeats 4000000 in
set_option maxRecDepth 100000 in
theorem l5Layers_any (v : Value) (p : LProg) (w : World) (hpo : progOk p = true) (h : RdProg w w.heap.size v p) (hs : szP p ≤ 1048576) :
    Calls Tryd.prog 41 #[v] w fun e w' => ∃ A' c', e = .returned (.tuple #[.slice A' (layR p).length c', .bool (layOk p)]) ∧ OwnInts w' w.heap.size w'.heap.size (.slice A' (layR p).length c') (layR p) ∧ Below w.heap.size w w' := by
  have HP := Lib.hid h
  have HPO := Lib.hid hpo
  obtain ⟨a, b, rfl, hA, hR⟩ := h
  obtain ⟨A, c, rfl, hcA, _⟩ := hA
  obtain ⟨A2, c2, rfl, hcR, _⟩ := hR
  obtain ⟨hn24, hfit⟩ := asksOf_fits hpo
  have hmk := run_make_row' (P := Tryd.prog) 23 3 (.int .i64 0) 8 Tryd.underlying23 Tryd.infoInt rfl .i64 .i64 p.1.length (by omega) (by omega)
  have CL := Lib.hid (fun W (hW : Below w.heap.size w W) => l5Links_any _ p W (HP.out.on hW) hs hn24 hfit)
  have HZ := Lib.hid (show RnAt p p.1.length [] (List.replicate p.1.length 0) true 0 0 ∨ True from .inr trivial)
  have HU0 := Lib.hid (LayUp.zero p)
  obtain ⟨R, hR⟩ : ∃ R, R = layR p := ⟨_, rfl⟩
  obtain ⟨ok, hok⟩ : ∃ ok, ok = layOk p := ⟨_, rfl⟩
  rw [← hR, ← hok]
  have HR := Lib.hid (And.intro hR hok)
  obtain ⟨T, hT⟩ : ∃ T, T = cellV (asksOf p.2) := ⟨_, rfl⟩
  have HTT := Lib.hid hT
  rw [← hT] at CL
  obtain ⟨n, hn⟩ : ∃ n, n = p.1.length := ⟨_, rfl⟩
  have HNE := Lib.hid hn
  rw [← hn] at hcA hn24 hmk CL HU0 ⊢
  clear hn hpo hfit hR hok hT HZ
  go_enter Tryd.func41, Tryd.ntmps41
  go_upto_region 1 with fail
  obtain ⟨w1, hw1⟩ : ∃ w1, w1 = w.alloc (Obj.cells #[Value.slice A n c, Value.slice A2 p.2.length c2] 26) := ⟨_, rfl⟩
  have X1 : Blk w1 w.heap.size 26 #[.slice A n c, .slice A2 p.2.length c2] := by rw [hw1]; exact Blk.new _ _ _
  have B1 : Below w.heap.size w w1 := by rw [hw1]; exact below1 _ _
  rw [← hw1]
  clear hw1
  have x0 : w1.cell? ⟨w.heap.size, 0, none⟩ = some (.slice A n c) := X1.cell 0
  have x1 : w1.cell? ⟨w.heap.size, 1, none⟩ = some (.slice A2 p.2.length c2) := X1.cell 1
  have CW := Lib.hid (CL.out w1 B1)
  clear X1 CL
  go_upto_region 2 with (go_at_call 54; refine CW.out.mono ?_; rintro e w2 ⟨g, rfl, hgw, hg1, hg2, b2⟩; have B2 := Lib.hid (bthen B1 b2); have HG2 := Lib.hid hgw; have HGB := Lib.hid hg2; clear b2 hgw)
  clear x0 x1
  go_upto_region 3 with fail
  obtain ⟨w3, hw3⟩ : ∃ w3, w3 = w2.alloc (Obj.cells (madeCells #[Value.int .i64 0] n) 3) := ⟨_, rfl⟩
  obtain ⟨gl, hgl⟩ : ∃ gl, gl = w2.heap.size := ⟨_, rfl⟩
  have HR3 := Lib.hid (show w3.rowIs gl 3 n (fun j => .int .i64 (((List.replicate n 0).getD j 0 : Nat) : Int)) from by
    rw [hw3, hgl]
    exact (World.rowIs_made _ _ _ _).congr fun j hj => by simp [List.getD_eq_getElem?_getD, hj])
  have HW3 := Lib.hid (show Below gl w2 w3 by rw [hw3, hgl]; exact below1 _ _)
  have HGG := Lib.hid (show g + 1 + n ≤ gl by rw [hgl]; exact hg2)
  have hwgl : w.heap.size ≤ gl := by rw [hgl]; exact B2.out.size
  rw [← hw3, ← hgl]
  have HGL := Lib.hid hgl
  clear hw3 hgl hg1 hg2
  go_wp2_with fail
  go_loopw [6] (fun a wr => ∃ (bb : Bool) (out : List Nat), a = .bool bb ∧ wr.rowIs gl 3 n (fun j => .int .i64 ((out.getD j 0 : Nat) : Int)) ∧ (LayUp p out ∧ ∀ u, out.getD u 0 ≤ n) ∧ (bb = false → ∀ i, i < n → ∀ k, k < n → 0 < T i k → needL p out i k ≤ out.getD i 0) ∧ Below gl w2 wr) (fun a wr => 2 * defW wr gl n + (match a with | .bool true => 1 | _ => 0))
  case atStart => exact ⟨true, _, rfl, HR3.out, ⟨HU0.out, fun u => by rw [List.getD_eq_getElem?_getD, List.getElem?_replicate]; split <;> simp⟩, fun h => (by cases h), HW3.out⟩
  case round =>
    obtain ⟨bb, out0, rfl, hrow, hup, hdn, hbe⟩ := hrel
    have HROW := Lib.hid hrow
    have HUP := Lib.hid hup
    have HBE := Lib.hid hbe
    have HDN := Lib.hid hdn
    have HD0 := Lib.hid (defW_row hrow (by rw [hup.1.1, ← HNE.out]))
    clear hrow hup hbe hdn
    cases bb
    · have HE := Lib.hid (show R = out0.map (fun n : Nat => (n : Int)) ∧ ok = true from by
        have h1 := HUP.out.1.done HPO.out (by rw [← HNE.out, ← HTT.out]; exact HDN.out rfl)
        have h2 := layR_yes HPO.out h1
        rw [HR.out.1, HR.out.2]
        exact h2)
      have HLE := Lib.hid (show R.length = n by rw [HE.out.1, List.length_map, HUP.out.1.1, ← HNE.out])
      have HO := Lib.hid (show OwnInts wr w.heap.size wr.heap.size (.slice (some ⟨gl, 0, none⟩) n n) R from by
        have h1 : wr.rowIs gl 3 R.length (fun j => .int .i64 (R.getD j 0)) := by
          rw [HLE.out]
          exact HROW.out.congr fun j _ => by rw [HE.out.1, natRow]
        have h2 := OwnInts.of_rowIs h1 hwgl HROW.out.lt (by rw [HLE.out]; unfold maxLen; omega)
        rw [HLE.out] at h2
        exact h2)
      have HBW := Lib.hid (show Below w.heap.size w wr from bthen B2.out (by rw [← HGL.out]; exact HBE.out))
      go_wp2_with fail
      refine bodyPost_ret (v := .tuple #[.slice (some ⟨gl, 0, none⟩) n n, .bool true]) (by simp [results, Tryd.results41, go_sem]) rfl ?_
      rw [HE.out.2, HLE.out]
      exact ⟨_, n, rfl, HO.out, HBW.out⟩
    · have HS0 := Lib.hid (show RnAt p n out0 out0 false 0 0 from ⟨HUP.out.1, HUP.out.2, fun _ => ⟨rfl, fun a c _ _ h => (by omega)⟩, fun h => (by cases h)⟩)
      obtain ⟨wa, rfl⟩ : ∃ wa, wa = wr := ⟨_, rfl⟩
      go_wp2_with fail
      go_loopw [6, 7] (fun a i ws => ∃ (bb : Bool) (out : List Nat) (i' : Nat), i' ≤ n ∧ i = .int .i64 i' ∧ a = .bool bb ∧ ws.rowIs gl 3 n (fun j => .int .i64 ((out.getD j 0 : Nat) : Int)) ∧ RnAt p n out0 out bb i' 0 ∧ Below gl w2 ws) (fun _ i _ => n - (intOf i).toNat)
      case atStart => exact ⟨false, out0, 0, Nat.zero_le _, rfl, rfl, HROW.out, HS0.out, HBE.out⟩
      case round =>
        obtain ⟨bb, out, i, hi, rfl, rfl, hrow, hrn, hbe⟩ := hrel
        have HR2 := Lib.hid hrow
        have HRN := Lib.hid hrn
        have HB2 := Lib.hid hbe
        clear hrow hrn hbe
        by_cases hlt : i < n
        · obtain ⟨wc, rfl⟩ : ∃ wc, wc = wr := ⟨_, rfl⟩
          have HRS := Lib.hid HRN.out
          go_wp2_with fail
          go_loopw [6, 8] (fun a k ws => ∃ (bb : Bool) (out : List Nat) (k' : Nat), k' ≤ n ∧ k = .int .i64 k' ∧ a = .bool bb ∧ ws.rowIs gl 3 n (fun j => .int .i64 ((out.getD j 0 : Nat) : Int)) ∧ RnAt p n out0 out bb i k' ∧ Below gl w2 ws) (fun _ k _ => n - (intOf k).toNat)
          case atStart => exact ⟨bb, out, 0, Nat.zero_le _, rfl, rfl, HR2.out, HRN.out, HB2.out⟩
          case round =>
            clear HR2 HRN HRS
            obtain ⟨bb, out, k, hk, rfl, rfl, hrow, hrn, hbe⟩ := hrel
            by_cases hlk : k < n
            · have hgrid := HG2.out.below hbe HGG.out
              have g0 := hgrid.head hlt
              have g1 := hgrid.cell hlt hlk
              have r0 := hrow.cell hlk
              have r1 := hrow.cell hlt
              have fz := hrow.frozen i
              obtain ⟨d, hd⟩ : ∃ d, d = out.getD k 0 := ⟨_, rfl⟩
              obtain ⟨e, he⟩ : ∃ e, e = out.getD i 0 := ⟨_, rfl⟩
              obtain ⟨t, ht⟩ : ∃ t, t = T i k := ⟨_, rfl⟩
              have hd24 : d ≤ n := by rw [hd]; exact hrn.few k
              have he24 : e ≤ n := by rw [he]; exact hrn.few i
              rw [← hd] at r0
              rw [← he] at r1
              rw [← ht] at g1
              have hti : (i : Int) < (n : Int) := by omega
              have hki : (k : Int) < (n : Int) := by omega
              have HROW2 := Lib.hid hrow
              have HRN2 := Lib.hid hrn
              have HB3 := Lib.hid hbe
              obtain ⟨nd, hnd⟩ : ∃ nd, nd = needL p out i k := ⟨_, rfl⟩
              have hnd1 : nd = d + (if 1 < t then 1 else 0) := by rw [hnd, hd, ht, HTT.out]; rfl
              have HND := Lib.hid hnd
              have HDD := Lib.hid (And.intro hd (And.intro he ht))
              have ht3 : t ≤ 3 := by rw [ht, HTT.out]; exact cellV_le _ _ _
              clear hd he ht hnd hrow hrn hbe hgrid
              by_cases hk0 : t = 0
              · have HN := Lib.hid (show RnAt p n out0 out bb i (k + 1) from HRN2.out.keep fun h0 => by rw [← HTT.out, ← HDD.out.2.2, hk0] at h0; omega)
                subst hk0
                clear hnd1
                go_wp2_with fail
                go_roundw
                case rel => exact ⟨bb, out, k + 1, by omega, by go_num, rfl, HROW2.out, HN.out, HB3.out⟩
                case measure => simp [intOf]; omega
              · have ht0 : 0 < t := by omega
                by_cases hlt2 : e < nd
                · have HM := Lib.hid (fun (hm : nd ≤ n) => (show RnAt p n out0 (out.set i nd) true i (k + 1) from by
                    rw [HND.out]
                    exact HRN2.out.raise HPO.out HNE.out hlt hlk (by rw [← HTT.out, ← HDD.out.2.2]; omega) (by rw [← HDD.out.2.1, ← HND.out]; exact hlt2) (by rw [← HND.out]; exact hm)))
                  have HUP2 := Lib.hid (show LayUp p (out.set i nd) from by
                    rw [HND.out]
                    exact HRN2.out.up.raise HPO.out (by rw [← HNE.out]; exact hlt) (by rw [← HNE.out]; exact hlk) (by rw [← HTT.out, ← HDD.out.2.2]; omega))
                  have HRW := Lib.hid (set_row (x := nd) HROW2.out (by rw [HRN2.out.up.1, ← HNE.out]) hlt)
                  have HBW := Lib.hid (show Below gl w2 (wr.setCell ⟨gl, i, none⟩ (.int .i64 (nd : Int))) from HB3.out.setCell (Nat.le_refl _) _)
                  by_cases hm : nd ≤ n
                  · have HN := Lib.hid (HM.out hm)
                    by_cases h1 : 1 < t
                    · rw [if_pos h1] at hnd1
                      subst hnd1
                      go_wp2_with fail
                      go_roundw
                      case rel => exact ⟨true, _, k + 1, by omega, by go_num, rfl, HRW.out, HN.out, HBW.out⟩
                      case measure => simp [intOf]; omega
                    · rw [if_neg h1, Nat.add_zero] at hnd1
                      subst hnd1
                      go_wp2_with fail
                      go_roundw
                      case rel => exact ⟨true, _, k + 1, by omega, by go_num, rfl, HRW.out, HN.out, HBW.out⟩
                      case measure => simp [intOf]; omega
                  · have HE := Lib.hid (show R = [] ∧ ok = false from by
                      have h1 := HUP2.out.none HPO.out (i := i) (by rw [← HNE.out]; exact hlt) (by rw [← HNE.out, List.getD_eq_getElem?_getD, List.getElem?_set_self (by rw [HRN2.out.up.1, ← HNE.out]; exact hlt)]; simp; omega)
                      have h3 := layR_no (p := p) (.inr h1)
                      rw [HR.out.1, HR.out.2]
                      exact h3)
                    have HBZ := Lib.hid (show Below w.heap.size w (wr.setCell ⟨gl, i, none⟩ (.int .i64 (nd : Int))) from bthen B2.out (by rw [← HGL.out]; exact HBW.out))
                    by_cases h1 : 1 < t
                    · rw [if_pos h1] at hnd1
                      subst hnd1
                      go_wp2_with fail
                      refine bodyPost_ret (v := .tuple #[.slice none 0 0, .bool false]) (by simp [results, Tryd.results41, go_sem]) rfl ?_
                      rw [HE.out.1, HE.out.2]
                      exact ⟨none, 0, rfl, ⟨World.ownsRow_nil _ _ _ _, fun g hg => by cases hg⟩, HBZ.out⟩
                    · rw [if_neg h1, Nat.add_zero] at hnd1
                      subst hnd1
                      omega
                · have HN := Lib.hid (show RnAt p n out0 out bb i (k + 1) from HRN2.out.keep fun h0 => by rw [← HND.out, ← HDD.out.2.1]; omega)
                  by_cases h1 : 1 < t
                  · rw [if_pos h1] at hnd1
                    subst hnd1
                    go_wp2_with fail
                    go_roundw
                    case rel => exact ⟨bb, out, k + 1, by omega, by go_num, rfl, HROW2.out, HN.out, HB3.out⟩
                    case measure => simp [intOf]; omega
                  · rw [if_neg h1, Nat.add_zero] at hnd1
                    subst hnd1
                    go_wp2_with fail
                    go_roundw
                    case rel => exact ⟨bb, out, k + 1, by omega, by go_num, rfl, HROW2.out, HN.out, HB3.out⟩
                    case measure => simp [intOf]; omega
            · have HN := Lib.hid (show RnAt p n out0 out bb (i + 1) 0 from RnAt.row (by have : k = n := by omega
                                                                                        rw [this] at hrn; exact hrn))
              have HROW2 := Lib.hid hrow
              clear hrow hrn
              go_wp2_with fail
              go_roundw
              case rel => exact ⟨bb, out, i + 1, by omega, by go_num, rfl, HROW2.out, HN.out, hbe⟩
              case measure => simp [intOf]; omega
        · have hin : i = n := by omega
          have HN := Lib.hid (show (bb = false → ∀ i, i < n → ∀ k, k < n → 0 < T i k → needL p out i k ≤ out.getD i 0) ∧ 2 * defW wr gl n + (if bb then 1 else 0) < 2 * defW wa gl n + 1 from by
            have h1 := defW_row HR2.out (by rw [HRN.out.up.1, ← HNE.out])
            rw [h1, HD0.out]
            refine ⟨fun hb i hi k hk h0 => ?_, ?_⟩
            · obtain ⟨e, h2⟩ := HRN.out.same hb
              rw [e]
              exact h2 i k hi hk (.inl (by omega)) (by rw [← HTT.out]; exact h0)
            · cases bb with
              | false => rw [(HRN.out.same rfl).1]; simp
              | true => have := HRN.out.less rfl; simp; omega)
          have HUF := Lib.hid (And.intro HRN.out.up HRN.out.few)
          clear hin
          go_wp2_with fail
          go_roundw
          case rel => exact ⟨bb, out, rfl, HR2.out, HUF.out, HN.out.1, HB2.out⟩
          case measure =>
            have := HN.out.2
            cases bb <;> simpa using this

set_option maxHeartbeats 2000000 in
set_option maxRecDepth 100000 in
theorem specLayersOf_any (v : Value) (p : LProg) (w : World) (h : RdProg w w.heap.size v p) (hs : szP p ≤ 1048576) :
    Calls Tryd.prog 10 #[v] w fun e w' => ∃ A' c', e = .returned (.tuple #[.slice A' (layR p).length c', .bool (layOk p)]) ∧ OwnInts w' w.heap.size w'.heap.size (.slice A' (layR p).length c') (layR p) ∧ Below w.heap.size w w' := by
  have HP := Lib.hid h
  obtain ⟨a, b, rfl, hA, hR⟩ := h
  obtain ⟨A, c, rfl, hcA, _⟩ := hA
  obtain ⟨A2, c2, rfl, hcR, _⟩ := hR
  obtain ⟨po, hpo⟩ : ∃ po, po = progOk p := ⟨_, rfl⟩
  have HPO := Lib.hid hpo
  obtain ⟨R, hR⟩ : ∃ R, R = layR p := ⟨_, rfl⟩
  obtain ⟨ok, hok⟩ : ∃ ok, ok = layOk p := ⟨_, rfl⟩
  rw [← hR, ← hok]
  have HR := Lib.hid (And.intro hR hok)
  clear hpo hR hok
  go_enter Tryd.func10, Tryd.ntmps10
  go_upto_region 1 with fail
  obtain ⟨w1, hw1⟩ : ∃ w1, w1 = w.alloc (Obj.cells #[Value.slice A p.1.length c, Value.slice A2 p.2.length c2] 26) := ⟨_, rfl⟩
  have X1 : Blk w1 w.heap.size 26 #[.slice A p.1.length c, .slice A2 p.2.length c2] := by rw [hw1]; exact Blk.new _ _ _
  have B1 : Below w.heap.size w w1 := by rw [hw1]; exact below1 _ _
  rw [← hw1]
  clear hw1
  have x0 : w1.cell? ⟨w.heap.size, 0, none⟩ = some (.slice A p.1.length c) := X1.cell 0
  have x1 : w1.cell? ⟨w.heap.size, 1, none⟩ = some (.slice A2 p.2.length c2) := X1.cell 1
  have HX1 := Lib.hid X1
  have CP := Lib.hid ((specProgramOk_any _ p w1 (HP.out.on B1) hs).mono fun e w' (hh : e = .returned (.bool (progOk p)) ∧ Below w1.heap.size w1 w') => (⟨by rw [hh.1, HPO.out], hh.2⟩ : e = .returned (.bool po) ∧ Below w1.heap.size w1 w'))
  clear X1
  cases po
  · have HE := Lib.hid (layR_no (p := p) (.inl HPO.out.symm))
    go_wp2_with (go_at_call 13; refine CP.out.mono ?_; rintro e w2 ⟨rfl, b2⟩; have B2 := Lib.hid (bthen B1 b2); clear b2)
    refine bodyPost_ret (v := .tuple #[.slice none 0 0, .bool false]) (by simp [results, Tryd.results10, go_sem]) rfl ?_
    rw [HR.out.1, HR.out.2, HE.out.1, HE.out.2]
    exact ⟨none, 0, rfl, ⟨World.ownsRow_nil _ _ _ _, fun g hg => by cases hg⟩, B2.out⟩
  · have HL := Lib.hid (fun W (hW : Below w.heap.size w W) => l5Layers_any _ p W HPO.out.symm (HP.out.on hW) hs)
    rw [← HR.out.1, ← HR.out.2] at HL
    go_wp2_with (first
      | (go_at_call 13; refine CP.out.mono ?_; rintro e w2 ⟨rfl, b2⟩; have B2 := Lib.hid (bthen B1 b2); have HX2 := Lib.hid (HX1.out.below b2 HX1.out.lt); have x20 : w2.cell? ⟨w.heap.size, 0, none⟩ = some (.slice A p.1.length c) := HX2.out.cell 0; have x21 : w2.cell? ⟨w.heap.size, 1, none⟩ = some (.slice A2 p.2.length c2) := HX2.out.cell 1; clear b2)
      | (go_at_call 41; refine (HL.out _ B2.out).mono ?_; rintro e w4 ⟨A4, c4, rfl, o4, b4⟩; have H4 := Lib.hid (o4.mono B2.out.size (Nat.le_refl _)); have B4 := Lib.hid (bthen B2.out b4); clear o4 b4))
    refine bodyPost_ret (v := .tuple #[.slice A4 R.length c4, .bool ok]) (by simp [results, Tryd.results10, go_sem]) rfl ?_
    exact ⟨A4, c4, rfl, H4.out, B4.out⟩

end Go.Proofs.YtokmmloakahkhaaDoor
/-
  The walk of the specification's FactOk.
-/
namespace Go.Proofs.YtokmmloakahkhaaDoor
open Go.RowKit

end Go.Proofs.YtokmmloakahkhaaDoor
/-
  The walks of FactsOk: the program's and the specification's.
-/
namespace Go.Proofs.YtokmmloakahkhaaDoor
open Go.RowKit

def roundOk (ar : List Int) (fs : List LFact) (k : Nat) : Bool := factFits ar (fs.getD k (0, [])) && (decide (k = 0) || decide (factOrder (fs.getD (k - 1) (0, [])) (fs.getD k (0, [])) < 0))
def factsOk (ar : List Int) (fs : List LFact) : Bool := arityOk ar && (List.range fs.length).all (roundOk ar fs)
def OkTo (ar : List Int) (fs : List LFact) (k : Nat) : Prop := (List.range k).all (roundOk ar fs) = true
theorem OkTo.step {ar : List Int} {fs : List LFact} {k : Nat} (h : OkTo ar fs k) (e : roundOk ar fs k = true) : OkTo ar fs (k + 1) := by
  unfold OkTo at h ⊢
  rw [List.range_succ, List.all_append, h]
  simp [e]
theorem round_not {ar : List Int} {fs : List LFact} {k : Nat} (hk : k < fs.length) (e : roundOk ar fs k = false) : factsOk ar fs = false := by
  unfold factsOk
  have : (List.range fs.length).all (roundOk ar fs) = false := by
    rw [List.all_eq_false]
    exact ⟨k, List.mem_range.2 hk, by simp [e]⟩
  rw [this, Bool.and_false]
theorem getD_at {α : Type} {l : List α} {k : Nat} (h : k < l.length) {d : α} : l.getD k d = l[k] := by simp [h]
theorem round_first {ar : List Int} {fs : List LFact} {k : Nat} (hk : k < fs.length) (h : factFits ar fs[k] = true) (h0 : k = 0) : roundOk ar fs k = true := by
  unfold roundOk
  rw [getD_at hk, h]
  simp [h0]
theorem round_next {ar : List Int} {fs : List LFact} {j : Nat} (hk : j + 1 < fs.length) (hj : j < fs.length) (h : factFits ar fs[j + 1] = true) : roundOk ar fs (j + 1) = decide (factOrder fs[j] fs[j + 1] < 0) := by
  unfold roundOk
  rw [getD_at hk, h, Nat.add_sub_cancel, getD_at hj]
  simp
theorem round_unfit {ar : List Int} {fs : List LFact} {k : Nat} (hk : k < fs.length) (h : factFits ar fs[k] = false) : roundOk ar fs k = false := by
  unfold roundOk
  rw [getD_at hk, h]
  simp
theorem later_fact {w0 : World} {v : Value} {f : LFact} (h : RdFact w0 w0.heap.size v f) (x : Later w0) : RdFact x.val x.val.heap.size v f := h.on x.2
theorem later_ints {w0 : World} {v : Value} {f : List Int} (h : RdInts w0 w0.heap.size v f) (x : Later w0) : RdInts x.val x.val.heap.size v f := h.on x.2

end Go.Proofs.YtokmmloakahkhaaDoor
/-
  The walk of the program's LayersFit.
-/
namespace Go.Proofs.YtokmmloakahkhaaDoor
open Go.RowKit

theorem linksOf_in {p : LProg} {l : LLink} (h : l ∈ linksOf p) : 0 ≤ l.1 ∧ l.1 < p.1.length ∧ 0 ≤ l.2.1 ∧ l.2.1 < p.1.length := by
  unfold linksOf at h
  split at h
  · unfold linksL at h
    obtain ⟨i, hi, h⟩ := List.mem_flatMap.1 h
    unfold linksFrom at h
    obtain ⟨k, hk, h⟩ := List.mem_flatMap.1 h
    have hi := List.mem_range.1 hi
    have hk := List.mem_range.1 hk
    unfold linkAt at h
    rcases List.mem_append.1 h with h | h
    · split at h
      · rw [List.mem_singleton] at h
        subst h
        exact ⟨by show (0 : Int) ≤ (i : Int); omega, by show (i : Int) < _; omega, by show (0 : Int) ≤ (k : Int); omega, by show (k : Int) < _; omega⟩
      · cases h
    · split at h
      · rw [List.mem_singleton] at h
        subst h
        exact ⟨by show (0 : Int) ≤ (i : Int); omega, by show (i : Int) < _; omega, by show (0 : Int) ≤ (k : Int); omega, by show (k : Int) < _; omega⟩
      · cases h
  · cases h
theorem linksOf_len {p : LProg} (hn : p.1.length ≤ 24) : (linksOf p).length ≤ 1152 := by
  unfold linksOf
  split
  · have := linksL_len p.1.length p.1.length (asksOf p.2)
    have h2 : p.1.length * (p.1.length * 2) ≤ 24 * 48 := Nat.mul_le_mul hn (by omega)
    omega
  · simp
theorem linksOf_few (p : LProg) : (linksOf p).length ≤ 1152 := by
  cases h : progOk p
  · simp [linksOf, h]
  · exact linksOf_len (asksOf_fits h).1

set_option maxHeartbeats 4000000 in
set_option maxRecDepth 100000 in
theorem implLayersFit_any (v v2 : Value) (p : LProg) (ls : List Int) (w : World) (h : RdProg w w.heap.size v p) (h2 : RdInts w w.heap.size v2 ls) (hs : szP p ≤ 1048576) (hl : ls.length ≤ 1048576) (hT : Tab w) :
    Calls Tryd.prog 16 #[v, v2] w fun e w' => e = .returned (.bool (layersFit p ls)) ∧ Below w.heap.size w w' := by
  have HP := Lib.hid h
  have H2 := Lib.hid h2
  have HT := Lib.hid hT
  clear hT
  obtain ⟨a, b, rfl, hA, hR⟩ := h
  obtain ⟨A, c, rfl, hcA, _⟩ := hA
  obtain ⟨A2, c2, rfl, hcR, _⟩ := hR
  obtain ⟨A3, c3, rfl, hc3, _⟩ := h2
  obtain ⟨po, hpo⟩ : ∃ po, po = progOk p := ⟨_, rfl⟩
  obtain ⟨R, hRR⟩ : ∃ R, R = layersFit p ls := ⟨_, rfl⟩
  have HRR := Lib.hid (show R = ((po && decide (ls.length = p.1.length)) && (ls.all (fun x => decide (0 ≤ x)) && !(linksOf p).any (linkBad ls))) by rw [hRR, hpo]; rfl)
  rw [← hRR]
  clear hRR
  go_enter Tryd.func16, Tryd.ntmps16
  go_upto_region 1 with fail
  obtain ⟨w1, hw1⟩ : ∃ w1, w1 = w.alloc (Obj.cells #[Value.slice A p.1.length c, Value.slice A2 p.2.length c2] 26) := ⟨_, rfl⟩
  have X1 : Blk w1 w.heap.size 26 #[.slice A p.1.length c, .slice A2 p.2.length c2] := by rw [hw1]; exact Blk.new _ _ _
  have B1 : Below w.heap.size w w1 := by rw [hw1]; exact below1 _ _
  rw [← hw1]
  clear hw1
  have x0 : w1.cell? ⟨w.heap.size, 0, none⟩ = some (.slice A p.1.length c) := X1.cell 0
  have x1 : w1.cell? ⟨w.heap.size, 1, none⟩ = some (.slice A2 p.2.length c2) := X1.cell 1
  have CP := Lib.hid ((implProgramOk_any _ p w1 (HP.out.on B1) hs).mono fun e w' (hh : e = .returned (.bool (progOk p)) ∧ Below w1.heap.size w1 w') => (⟨by rw [hh.1, hpo], hh.2⟩ : e = .returned (.bool po) ∧ Below w1.heap.size w1 w'))
  have HPO := Lib.hid hpo
  have HX1 := Lib.hid X1
  clear hpo X1
  cases po
  · go_wp2_with (go_at_call 12; refine CP.out.mono ?_; rintro e w2 ⟨rfl, b2⟩; have B2 := Lib.hid (bthen B1 b2); clear b2)
    go_ret
    exact ⟨ret_bool (by rw [HRR.out]; rfl), B2.out⟩
  by_cases hll : ls.length = p.1.length
  · have hne : ((ls.length : Int) != (p.1.length : Int)) = false := by simp [hll]
    have HLL := Lib.hid hll
    obtain ⟨hn24, _⟩ := asksOf_fits HPO.out.symm
    have HR2 := Lib.hid (show R = (ls.all (fun x => decide (0 ≤ x)) && !(linksOf p).any (linkBad ls)) by rw [HRR.out, hll]; simp)
    have HLN := Lib.hid (linksOf_len hn24)
    have HIN := Lib.hid (fun l (h : l ∈ linksOf p) => linksOf_in h)
    obtain ⟨L, hL⟩ : ∃ L, L = linksOf p := ⟨_, rfl⟩
    have CL := Lib.hid (fun W (hW : Below w.heap.size w W) => implLinksOf_any _ p W (HP.out.on hW) hs (HT.out.below hW))
    rw [← hL] at CL HR2 HLN HIN
    clear hll hL
    go_upto_region 4 with (go_at_call 12; refine CP.out.mono ?_; rintro e w2 ⟨rfl, b2⟩; have B2 := Lib.hid (bthen B1 b2)
                           have HX2 := Lib.hid (HX1.out.below b2 HX1.out.lt)
                           have x20 : w2.cell? ⟨w.heap.size, 0, none⟩ = some (.slice A p.1.length c) := HX2.out.cell 0
                           have x21 : w2.cell? ⟨w.heap.size, 1, none⟩ = some (.slice A2 p.2.length c2) := HX2.out.cell 1
                           clear b2)
    clear x0 x1
    go_loopw [24] (fun i wr => ∃ k : Nat, k ≤ ls.length ∧ i = .int .i64 k ∧ (∀ j (h : j < ls.length), j < k → 0 ≤ ls[j]) ∧ wr = w2) (fun i _ => ls.length - (intOf i).toNat)
    case atStart => exact ⟨0, Nat.zero_le _, rfl, fun j _ h => absurd h (Nat.not_lt_zero _), by first | rfl | trivial⟩
    case round =>
      obtain ⟨k, hk, rfl, hpos, rfl⟩ := hrel
      by_cases hkl : k < ls.length
      · obtain ⟨A7, c7, e7, _, hx⟩ := H2.out.on B2.out
        injection e7 with e7 e9 e8
        clear e9
        subst e7 e8
        obtain ⟨b7, o7, rfl, hb7, hx⟩ := hx (by omega)
        have hck : wr.cell? ⟨b7, o7 + k, none⟩ = some (.int .i64 ls[k]) := hx k hkl
        clear hx
        have HPOS := Lib.hid hpos
        clear hpos
        by_cases hneg : ls[k] < 0
        · have HE := Lib.hid (show R = false by
            rw [HR2.out, Bool.and_eq_false_iff]
            left
            rw [List.all_eq_false]
            exact ⟨ls[k], List.getElem_mem hkl, by simp; omega⟩)
          go_wp2_with fail
          go_ret
          exact ⟨ret_bool HE.out.symm, B2.out⟩
        · have hng : decide (ls[k] < 0) = false := by simpa using hneg
          go_wp2_with fail
          go_roundw
          case rel => exact ⟨k + 1, by omega, by go_num, fun j h1 h2 => by
            by_cases e : j = k
            · subst e; omega
            · exact HPOS.out j h1 (by omega), by first | rfl | trivial⟩
          case measure => simp [intOf]; omega
      · have HALL := Lib.hid (show ls.all (fun x => decide (0 ≤ x)) = true by
          rw [List.all_eq_true]
          intro x hx
          obtain ⟨j, hj, rfl⟩ := List.getElem_of_mem hx
          exact decide_eq_true (hpos j hj (by omega)))
        have HR3 := Lib.hid (show R = !L.any (linkBad ls) by rw [HR2.out, HALL.out, Bool.true_and])
        clear hpos
        go_upto_region 10 with (go_at_call 15; refine (CL.out _ B2.out).mono ?_; rintro e w3 ⟨A5, c5, rfl, o5, b5⟩; have H3 := Lib.hid (And.intro o5 (bthen B2.out b5)); clear o5 b5)
        obtain ⟨o5, B3⟩ := H3.out
        have HO5 := Lib.hid o5
        have HB3 := Lib.hid B3
        clear o5 B3 H3 x20 x21
        go_loopw [34] (fun i wr => ∃ k : Nat, k ≤ L.length ∧ i = .int .i64 k ∧ (∀ j (h : j < L.length), j < k → linkBad ls L[j] = false) ∧ Below w3.heap.size w3 wr) (fun i _ => L.length - (intOf i).toNat)
        case atStart => exact ⟨0, Nat.zero_le _, rfl, fun j _ h => absurd h (Nat.not_lt_zero _), Below.refl _ _⟩
        case round =>
          obtain ⟨m, hm, rfl, hgood, hbe⟩ := hrel
          have hLn := HLN.out
          have HBE := Lib.hid hbe
          by_cases hltm : m < L.length
          · obtain ⟨b6, o6, u0, u1, u2, rfl, hb6, k0, k1, k2, rfl, rfl, rfl⟩ := (RdRow.get (Q := QLink) (HO5.out.rd.below hbe (Nat.le_refl _)) hltm)
            obtain ⟨l, hle⟩ : ∃ l, l = L[m] := ⟨_, rfl⟩
            have HI := Lib.hid (show 0 ≤ l.1 ∧ l.1 < p.1.length ∧ 0 ≤ l.2.1 ∧ l.2.1 < p.1.length by rw [hle]; exact HIN.out _ (List.getElem_mem hltm))
            have HLE := Lib.hid hle
            rw [← hle] at k0 k1 k2
            obtain ⟨f, hf⟩ : ∃ f : Nat, l.1 = (f : Int) := ⟨l.1.toNat, by have := HI.out; omega⟩
            obtain ⟨q, hq⟩ : ∃ q : Nat, l.2.1 = (q : Int) := ⟨l.2.1.toNat, by have := HI.out; omega⟩
            obtain ⟨no, hno⟩ : ∃ no, no = l.2.2 := ⟨_, rfl⟩
            have hfl : f < ls.length := by have := HI.out; have := HLL.out; omega
            have hql : q < ls.length := by have := HI.out; have := HLL.out; omega
            rw [hf] at k0
            rw [hq] at k1
            rw [← hno] at k2
            obtain ⟨A7, c7, e7, _, hx⟩ := H2.out.on (bthen HB3.out hbe)
            injection e7 with e7 e9 e8
            clear e9
            subst e7 e8
            obtain ⟨b7, o7, rfl, hb7, hx⟩ := hx (by omega)
            have hx0 := hx f hfl
            have hx1 := hx q hql
            have HLB := Lib.hid (show linkBad ls l = (decide (ls[f] < ls[q]) || (decide (ls[q] = ls[f]) && no)) by
              unfold linkBad
              rw [hf, hq, Int.toNat_natCast, Int.toNat_natCast, getD_at hfl, getD_at hql, hno])
            obtain ⟨x, hxe⟩ : ∃ x, x = ls[f] := ⟨_, rfl⟩
            obtain ⟨y, hye⟩ : ∃ y, y = ls[q] := ⟨_, rfl⟩
            rw [← hxe] at hx0
            rw [← hye] at hx1
            rw [← hxe, ← hye] at HLB
            have HGOOD := Lib.hid hgood
            clear hx hf hq hno hxe hye hgood
            go_upto_region 12 with fail
            obtain ⟨wl, hwl⟩ : ∃ wl, wl = wr.alloc (Obj.cells #[Value.int .i64 f, Value.int .i64 q, Value.bool no] 37) := ⟨_, rfl⟩
            have bl : Below wr.heap.size wr wl := by rw [hwl]; exact below1 _ _
            have Y : Blk wl wr.heap.size 37 #[.int .i64 f, .int .i64 q, .bool no] := by rw [hwl]; exact Blk.new _ _ _
            rw [← hwl]
            clear hwl k0 k1 k2
            have z0 : wl.cell? ⟨wr.heap.size, 0, none⟩ = some (.int .i64 f) := Y.cell 0
            have z1 : wl.cell? ⟨wr.heap.size, 1, none⟩ = some (.int .i64 q) := Y.cell 1
            have z2 : wl.cell? ⟨wr.heap.size, 2, none⟩ = some (.bool no) := Y.cell 2
            have z3 : wl.cell? ⟨b7, o7 + f, none⟩ = some (.int .i64 x) := (bl.cell (World.block_lt_of_cell? _ _ hx0)).trans hx0
            have z4 : wl.cell? ⟨b7, o7 + q, none⟩ = some (.int .i64 y) := (bl.cell (World.block_lt_of_cell? _ _ hx1)).trans hx1
            have d0 : wl.drew.cell? ⟨wr.heap.size, 0, none⟩ = some (.int .i64 f) := z0
            have d1 : wl.drew.cell? ⟨wr.heap.size, 1, none⟩ = some (.int .i64 q) := z1
            have d2 : wl.drew.cell? ⟨wr.heap.size, 2, none⟩ = some (.bool no) := z2
            have d3 : wl.drew.cell? ⟨b7, o7 + f, none⟩ = some (.int .i64 x) := z3
            have d4 : wl.drew.cell? ⟨b7, o7 + q, none⟩ = some (.int .i64 y) := z4
            have HBW := Lib.hid (show Below w3.heap.size w3 wl.drew from (bthen hbe bl).drew)
            clear hx0 hx1 bl Y hbe hle
            go_big_region
            by_cases xy : x < y
            · have c2 : decide (x < y) = true := by simp [xy]
              have HE := Lib.hid (show R = false by
                rw [HR3.out]
                have : L.any (linkBad ls) = true := List.any_eq_true.2 ⟨L[m], List.getElem_mem hltm, by rw [← HLE.out, HLB.out]; simp [xy]⟩
                rw [this]
                rfl)
              go_wp2_with fail
              go_ret
              exact ⟨ret_bool HE.out.symm, bthen HB3.out HBW.out⟩
            · have c2 : decide (x < y) = false := by simp [xy]
              by_cases ye : y = x
              · have c4 : (y == x) = true := by simp [ye]
                cases no
                · have HE := Lib.hid (show linkBad ls L[m] = false by rw [← HLE.out, HLB.out]; simp [xy])
                  go_wp2_with fail
                  go_roundw
                  case rel => exact ⟨m + 1, by omega, by go_num, fun j h1 h2 => by
                    by_cases e : j = m
                    · subst e; exact HE.out
                    · exact HGOOD.out j h1 (by omega), HBW.out⟩
                  case measure => simp [intOf]; omega
                · have HE := Lib.hid (show R = false by
                    rw [HR3.out]
                    have : L.any (linkBad ls) = true := List.any_eq_true.2 ⟨L[m], List.getElem_mem hltm, by rw [← HLE.out, HLB.out]; simp [ye]⟩
                    rw [this]
                    rfl)
                  go_wp2_with fail
                  go_ret
                  exact ⟨ret_bool HE.out.symm, bthen HB3.out HBW.out⟩
              · have c4 : (y == x) = false := by simp [ye]
                have HE := Lib.hid (show linkBad ls L[m] = false by rw [← HLE.out, HLB.out]; simp [xy, ye])
                go_wp2_with fail
                go_roundw
                case rel => exact ⟨m + 1, by omega, by go_num, fun j h1 h2 => by
                  by_cases e : j = m
                  · subst e; exact HE.out
                  · exact HGOOD.out j h1 (by omega), HBW.out⟩
                case measure => simp [intOf]; omega
          · have HE := Lib.hid (show R = true by
              rw [HR3.out]
              have : L.any (linkBad ls) = false := by
                rw [List.any_eq_false]
                intro l hl
                obtain ⟨j, hj, rfl⟩ := List.getElem_of_mem hl
                rw [hgood j hj (by omega)]
                decide
              rw [this]
              rfl)
            clear hgood hbe
            go_wp2_with fail
            go_ret
            exact ⟨ret_bool HE.out.symm, bthen HB3.out HBE.out⟩
  · have hne : ((ls.length : Int) != (p.1.length : Int)) = true := by simp; omega
    have HE := Lib.hid (show R = false by rw [HRR.out, decide_eq_false hll]; rfl)
    clear hll
    go_wp2_with (go_at_call 12; refine CP.out.mono ?_; rintro e w2 ⟨rfl, b2⟩; have B2 := Lib.hid (bthen B1 b2)
                 have HX2 := Lib.hid (HX1.out.below b2 HX1.out.lt)
                 have x20 : w2.cell? ⟨w.heap.size, 0, none⟩ = some (.slice A p.1.length c) := HX2.out.cell 0
                 clear b2)
    go_ret
    exact ⟨ret_bool HE.out.symm, B2.out⟩

end Go.Proofs.YtokmmloakahkhaaDoor
/-
  The walks of both Reaches, whole.
-/
namespace Go.Proofs.YtokmmloakahkhaaDoor
open Go.RowKit

/-- What Reaches answers: for a program that is not well formed nothing, else a table. -/
def ReachOut (lo : Nat) (w : World) (p : LProg) (v : Value) : Prop :=
  (progOk p = false ∧ v = .slice none 0 0) ∨ (progOk p = true ∧ ∃ Ao co rs, v = .slice Ao rs.length co ∧ rs.length = p.1.length ∧ BGrid lo w p.1.length (fwM (askT p) p.1.length) Ao co rs)

set_option maxHeartbeats 4000000 in
set_option maxRecDepth 100000 in
theorem implReaches_no (v : Value) (p : LProg) (w : World) (hpo : progOk p = false) (h : RdProg w w.heap.size v p) (hs : szP p ≤ 1048576) :
    Calls Tryd.prog 14 #[v] w fun e w' => e = .returned (.slice none 0 0) ∧ Below w.heap.size w w' := by
  have HP := Lib.hid h
  obtain ⟨a, b, rfl, hA, hR⟩ := h
  obtain ⟨A, c, rfl, hcA, _⟩ := hA
  obtain ⟨A2, c2, rfl, hcR, _⟩ := hR
  obtain ⟨n, hn⟩ : ∃ n, n = p.1.length := ⟨_, rfl⟩
  have HNE := Lib.hid hn
  rw [← hn] at hcA ⊢
  clear hn
  go_enter Tryd.func14, Tryd.ntmps14
  go_upto_region 1 with fail
  obtain ⟨w1, hw1⟩ : ∃ w1, w1 = w.alloc (Obj.cells #[Value.slice A n c, Value.slice A2 p.2.length c2] 26) := ⟨_, rfl⟩
  have X1 : Blk w1 w.heap.size 26 #[.slice A n c, .slice A2 p.2.length c2] := by rw [hw1]; exact Blk.new _ _ _
  have B1 : Below w.heap.size w w1 := by rw [hw1]; exact below1 _ _
  rw [← hw1]
  clear hw1
  have x0 : w1.cell? ⟨w.heap.size, 0, none⟩ = some (.slice A n c) := X1.cell 0
  have x1 : w1.cell? ⟨w.heap.size, 1, none⟩ = some (.slice A2 p.2.length c2) := X1.cell 1
  have CW := Lib.hid (walkOf_no _ p w1 hpo (HP.out.on B1) hs)
  rw [← HNE.out] at CW
  clear X1
  go_wp2_with (go_at_call 38; refine CW.out.mono ?_; rintro e w2 ⟨rfl, b2⟩; have B2 := Lib.hid (bthen B1 b2); clear b2)
  go_ret
  exact ⟨rfl, B2.out⟩

set_option maxHeartbeats 4000000 in
set_option maxRecDepth 100000 in
theorem specReaches_any (v : Value) (p : LProg) (w : World) (h : RdProg w w.heap.size v p) (hs : szP p ≤ 1048576) :
    Calls Tryd.prog 23 #[v] w fun e w' => ∃ u, e = .returned u ∧ ReachOut w.heap.size w' p u ∧ Below w.heap.size w w' := by
  have HP := Lib.hid h
  obtain ⟨a, b, rfl, hA, hR⟩ := h
  obtain ⟨A, c, rfl, hcA, _⟩ := hA
  obtain ⟨A2, c2, rfl, hcR, _⟩ := hR
  obtain ⟨po, hpo⟩ : ∃ po, po = progOk p := ⟨_, rfl⟩
  have HPO := Lib.hid hpo
  clear hpo
  go_enter Tryd.func23, Tryd.ntmps23
  go_upto_region 1 with fail
  obtain ⟨w1, hw1⟩ : ∃ w1, w1 = w.alloc (Obj.cells #[Value.slice A p.1.length c, Value.slice A2 p.2.length c2] 26) := ⟨_, rfl⟩
  have X1 : Blk w1 w.heap.size 26 #[.slice A p.1.length c, .slice A2 p.2.length c2] := by rw [hw1]; exact Blk.new _ _ _
  have B1 : Below w.heap.size w w1 := by rw [hw1]; exact below1 _ _
  rw [← hw1]
  clear hw1
  have x0 : w1.cell? ⟨w.heap.size, 0, none⟩ = some (.slice A p.1.length c) := X1.cell 0
  have x1 : w1.cell? ⟨w.heap.size, 1, none⟩ = some (.slice A2 p.2.length c2) := X1.cell 1
  have HX1 := Lib.hid X1
  have CP := Lib.hid ((specProgramOk_any _ p w1 (HP.out.on B1) hs).mono fun e w' (hh : e = .returned (.bool (progOk p)) ∧ Below w1.heap.size w1 w') => (⟨by rw [hh.1, HPO.out], hh.2⟩ : e = .returned (.bool po) ∧ Below w1.heap.size w1 w'))
  clear X1
  cases po
  · go_wp2_with (go_at_call 13; refine CP.out.mono ?_; rintro e w2 ⟨rfl, b2⟩; have B2 := Lib.hid (bthen B1 b2); clear b2)
    go_ret
    exact ⟨_, rfl, .inl ⟨HPO.out.symm, rfl⟩, B2.out⟩
  · obtain ⟨hn24, hf⟩ := asksOf_fits HPO.out.symm
    have HL := Lib.hid (fun W (hW : Below w.heap.size w W) => l5Reach_any _ p W (HP.out.on hW) hs hn24 hf)
    clear hf
    go_wp2_with (first
      | (go_at_call 13; refine CP.out.mono ?_; rintro e w2 ⟨rfl, b2⟩; have B2 := Lib.hid (bthen B1 b2); have HX2 := Lib.hid (HX1.out.below b2 HX1.out.lt); have x20 : w2.cell? ⟨w.heap.size, 0, none⟩ = some (.slice A p.1.length c) := HX2.out.cell 0; have x21 : w2.cell? ⟨w.heap.size, 1, none⟩ = some (.slice A2 p.2.length c2) := HX2.out.cell 1; clear b2)
      | (go_at_call 57; refine (HL.out _ B2.out).mono ?_; rintro e w4 ⟨Ao, co, rs, rfl, hrn, hbg, b4⟩; have H4 := Lib.hid (And.intro hrn hbg); have B4 := Lib.hid (bthen B2.out b4); clear hrn hbg b4))
    go_ret
    refine ⟨_, rfl, .inr ⟨HPO.out.symm, Ao, co, rs, rfl, H4.out.1, ?_⟩, B4.out⟩
    have hw := B2.out.size
    have hg := H4.out.2
    exact ⟨ownsRow_mono hg.heads hw, hg.rows, fun r hr => ⟨Nat.le_trans hw (hg.lo r hr).1, (hg.lo r hr).2⟩, hg.nodup⟩

theorem implReaches_all (v : Value) (p : LProg) (w : World) (h : RdProg w w.heap.size v p) (hs : szP p ≤ 1048576) (hT : Tab w) :
    Calls Tryd.prog 14 #[v] w fun e w' => ∃ u, e = .returned u ∧ ReachOut w.heap.size w' p u ∧ Below w.heap.size w w' := by
  cases hpo : progOk p
  · refine (implReaches_no v p w hpo h hs).mono ?_
    rintro e w' ⟨rfl, b⟩
    exact ⟨_, rfl, .inl ⟨hpo, rfl⟩, b⟩
  · refine (implReaches_any v p w hpo h hs hT).mono ?_
    rintro e w' ⟨Ao, co, rs, rfl, hn, hg, b⟩
    exact ⟨_, rfl, .inr ⟨hpo, Ao, co, rs, rfl, hn, hg⟩, b⟩

end Go.Proofs.YtokmmloakahkhaaDoor
/-
  The walk of the law FnLayers.
-/
namespace Go.Proofs.YtokmmloakahkhaaDoor
open Go.RowKit

theorem layR_range (p : LProg) : ∀ x ∈ layR p, 0 ≤ x ∧ x ≤ 24 := fun x hx => by
  by_cases h : progOk p = true
  · cases hl : layL p with
    | none => rw [(layR_no (.inr hl)).1] at hx; cases hx
    | some l =>
      rw [(layR_yes h hl).1] at hx
      obtain ⟨y, hy, rfl⟩ := List.mem_map.1 hx
      obtain ⟨i, hi, rfl⟩ := List.getElem_of_mem hy
      have h1 := lay_few h hl i
      have h2 := (asksOf_fits h).1
      have e : l.getD i 0 = l[i] := by simp [hi]
      omega
  · rw [(layR_no (.inl (by simpa using h))).1] at hx; cases hx
theorem any_take_step {α : Type} (q : α → Bool) (l : List α) {k : Nat} (h : k < l.length) : (l.take (k + 1)).any q = ((l.take k).any q || q l[k]) := by
  rw [List.take_succ_eq_append_getElem h, List.any_append]
  simp

set_option maxHeartbeats 8000000 in
set_option maxRecDepth 100000 in
theorem lawPlainLayers_any (v : Value) (code : List Nat) (w : World) (hr : RdBytes w w.heap.size v code) (_ : code.length ≤ maxLen) (hby : ∀ b ∈ code, b < 256) (hT : Tab w) :
    Calls Tryd.prog 3 #[v] w fun e w' => e = .returned (.bool true) ∧ Below w.heap.size w w' := by
  obtain ⟨i0, hi0, hz0, hz1, hz2⟩ := info_parts Tryd.infoInt
  have HV := Lib.hid hr
  have HT := Lib.hid hT
  obtain ⟨Av, cv, rfl, hcv, _⟩ := hr
  clear hT
  go_enter Tryd.func3, Tryd.ntmps3
  by_cases hbig : 1048576 < code.length
  · have hd : decide ((1048576 : Int) < code.length) = true := by simp; omega
    go_wp2_with (fail)
    go_ret
    exact ⟨rfl, Below.refl _ _⟩
  have hd : decide ((1048576 : Int) < code.length) = false := by simp; omega
  have hbn : code.length ≤ 1073741824 := by omega
  go_upto_region 4 with (go_at_call 8; refine (drawLayersOf_any _ code w HV.out hby hbn).mono ?_
                         rintro e w1 ⟨u, p, rfl, hdp, B1⟩
                         obtain ⟨A, A2, c, c2, rfl, ra, rr⟩ := hdp.rd
                         have hsz := hdp.sz
                         clear hdp)
  have HSZ := Lib.hid (show szP p ≤ 1048576 by omega)
  obtain ⟨w2, hw2⟩ : ∃ w2, w2 = w1.alloc (Obj.cells #[Value.slice A p.1.length c, Value.slice A2 p.2.length c2] 26) := ⟨_, rfl⟩
  have b2 : Below w1.heap.size w1 w2 := by rw [hw2]; exact below1 _ _
  have BX : Blk w2 w1.heap.size 26 #[.slice A p.1.length c, .slice A2 p.2.length c2] := by rw [hw2]; exact Blk.new _ _ _
  rw [← hw2]
  clear hw2
  obtain ⟨D, hD⟩ : ∃ D, D = w1.heap.size := ⟨_, rfl⟩
  rw [← hD] at BX ⊢
  clear hD
  have B2 := Lib.hid (bthen B1 b2)
  have HPR := Lib.hid (show ∀ W, Below w2.heap.size w2 W → RdProg W W.heap.size (.agg #[.slice A p.1.length c, .slice A2 p.2.length c2]) p from fun W hW => ⟨_, _, rfl, (ra.on b2).on hW, (rr.on b2).on hW⟩)
  have HBX := Lib.hid (show ∀ W, Below w2.heap.size w2 W → W.cell? ⟨D, 0, none⟩ = some (.slice A p.1.length c) ∧ W.cell? ⟨D, 1, none⟩ = some (.slice A2 p.2.length c2) from fun W hW => ⟨(BX.below hW BX.lt).cell 0, (BX.below hW BX.lt).cell 1⟩)
  have HTT := Lib.hid (show ∀ W, Below w2.heap.size w2 W → Tab W from fun W hW => HT.out.below (bthen B2.out hW))
  obtain ⟨x0, x1⟩ := HBX.out _ (Below.refl _ _)
  have hDl := BX.lt
  obtain ⟨L, hL⟩ : ∃ L, L = layR p := ⟨_, rfl⟩
  obtain ⟨ok, hok⟩ : ∃ ok, ok = layOk p := ⟨_, rfl⟩
  have HL := Lib.hid hL
  have HOK := Lib.hid hok
  have hll : L.length ≤ 24 := by rw [hL]; exact layR_few p
  have CI := Lib.hid (implLayersOf_any _ p w2 (HPR.out _ (Below.refl _ _)) HSZ.out (HTT.out _ (Below.refl _ _)))
  have CS := Lib.hid (fun W (hW : Below w2.heap.size w2 W) => specLayersOf_any _ p W (HPR.out _ hW) HSZ.out)
  rw [← hL, ← hok] at CI CS
  clear hL hok BX b2 B1 ra rr hsz
  go_upto_region 5 with (go_at_call 9; refine CI.out.mono ?_; rintro e w3 ⟨A3, c3, rfl, o3, b3⟩)
  have B3 := Lib.hid b3
  have HO3 := Lib.hid o3
  clear x0 x1
  obtain ⟨x0, x1⟩ := HBX.out _ b3
  clear o3 b3
  go_upto_region 6 with (go_at_call 10; refine (CS.out _ B3.out).mono ?_; rintro e w4 ⟨A4, c4, rfl, o4, b4⟩)
  have B4 := Lib.hid (bthen B3.out b4)
  have HI4 := Lib.hid ((HO3.out.below b4 (Nat.le_refl _)).rd.more b4.size)
  have HW4 := Lib.hid o4.rd
  clear o4 b4 x0 x1
  obtain ⟨x0, x1⟩ := HBX.out _ B4.out
  have M0 := later_cell x0
  have M1 := later_cell x1
  obtain ⟨po, hpo⟩ : ∃ po, po = progOk p := ⟨_, rfl⟩
  have HPO := Lib.hid hpo
  have D1 := Lib.hid (fun x : Later w4 => later_of (show Calls Tryd.prog 11 #[.slice A3 L.length c3, .slice A4 L.length c4] x.val fun e w' => e = .returned (.bool true) ∧ Below x.val.heap.size x.val w' from by
    have := wrInts_any (.slice A3 L.length c3) (.slice A4 L.length c4) L L x.val (HI4.out.on x.2) (HW4.out.on x.2) (by omega) (by omega)
    rw [show decide (L = L) = true by simp] at this
    exact this))
  have D2 := Lib.hid (fun x : Later w4 => later_of (implProgramOk_any (.agg #[.slice A p.1.length c, .slice A2 p.2.length c2]) p x.val (HPR.out _ (bthen B4.out x.2)) HSZ.out))
  have D3 := Lib.hid (fun x : Later w4 => later_of (specProgramOk_any (.agg #[.slice A p.1.length c, .slice A2 p.2.length c2]) p x.val (HPR.out _ (bthen B4.out x.2)) HSZ.out))
  rw [← hpo] at D2 D3
  clear hpo x0 x1
  have hn1 : (ok != ok) = false := by simp
  have hn2 : (po != po) = false := by simp
  go_cut [45] (fun s wx => s = .bool false ∧ Below w4.heap.size w4 wx)
  case first =>
    refine wp_region_later (by kernel_rfl) (by kernel_rfl) ?_
    repeat (go_big_quiet_step (first | (go_at_call 11; exact D1.out _) | (go_at_call 12; exact D2.out _) | (go_at_call 13; exact D3.out _)))
    refine wpQuiet_nil ?_
    rintro _ ⟨xq, rfl⟩
    go_wp2_with (fail)
    go_meet
    exact ⟨rfl, xq.2⟩
  case rest =>
    obtain ⟨rfl, b5⟩ := hcut
    rename World => w5
    have B5 := Lib.hid (bthen B4.out b5)
    have HI5 := Lib.hid (show ∀ W, Below w5.heap.size w5 W → RdInts W W.heap.size (.slice A3 L.length c3) L from fun W hW => (HI4.out.on b5).on hW)
    clear M0 M1 b5 hn1 hn2
    obtain ⟨x0, x1⟩ := HBX.out _ B5.out
    have CP := Lib.hid (implProgramOk_any _ p w5 (HPR.out _ B5.out) HSZ.out)
    rw [← HPO.out] at CP
    cases po
    · have hof : ok = false := by rw [HOK.out]; exact (layR_no (.inl HPO.out.symm)).2
      subst hof
      go_wp2_with (go_at_call 12; refine CP.out.mono ?_; rintro e w6 ⟨rfl, b6⟩; have B6 := Lib.hid (bthen B5.out b6); clear b6)
      go_ret
      exact ⟨rfl, bthen B2.out B6.out⟩
    · go_upto_region 10 with (go_at_call 12; refine CP.out.mono ?_; rintro e w6 ⟨rfl, b6⟩; have B6 := Lib.hid (bthen B5.out b6); have BE6 := Lib.hid b6; clear b6)
      clear x0 x1
      obtain ⟨x0, x1⟩ := HBX.out _ B6.out
      have CR := Lib.hid (implReaches_any _ p w6 HPO.out.symm (HPR.out _ B6.out) HSZ.out (HTT.out _ B6.out))
      obtain ⟨T, hTe⟩ : ∃ T, T = fwM (askT p) p.1.length := ⟨_, rfl⟩
      rw [← hTe] at CR
      have HTE := Lib.hid hTe
      have hn24 : p.1.length ≤ 24 := by exact (asksOf_fits HPO.out.symm).1
      clear hTe
      go_upto_region 12 with (go_at_call 14; refine CR.out.mono ?_; rintro e w7 ⟨Ao, co, rs, rfl, hrs, hg7, b7⟩)
      have B7 := Lib.hid (bthen B6.out b7)
      have BE7 := Lib.hid (bthen BE6.out b7)
      have HG7 := Lib.hid hg7
      have HRS := Lib.hid hrs
      clear x0 x1 hg7 b7 hrs
      obtain ⟨x0, x1⟩ := HBX.out _ B7.out
      obtain ⟨K, hK⟩ : ∃ K, K = linksOf p := ⟨_, rfl⟩
      have HKK := Lib.hid hK
      have hkl : K.length ≤ 1152 := by rw [hK]; exact links_few p
      have CL := Lib.hid (implLinksOf_any _ p w7 (HPR.out _ B7.out) HSZ.out (HTT.out _ B7.out))
      rw [← hK] at CL
      clear hK
      go_wp2_with (go_at_call 15; refine CL.out.mono ?_; rintro e w8 ⟨A8, c8, rfl, o8, b8⟩
                   have B8 := Lib.hid (bthen B7.out b8)
                   have BE8 := Lib.hid (bthen BE7.out b8)
                   have HK8 := Lib.hid o8.rd
                   have HG8 := Lib.hid (HG7.out.below b8)
                   clear o8 b8)
      clear x0 x1
      go_loopw [9, 56] (fun f i wr => ∃ k : Nat, k ≤ K.length ∧ i = .int .i64 k ∧ f = .bool ((K.take k).any (badLink p)) ∧ Below w8.heap.size w8 wr) (fun _ i _ => K.length - (intOf i).toNat)
      case atStart => exact ⟨0, Nat.zero_le _, rfl, by simp, Below.refl _ _⟩
      case round =>
        obtain ⟨k, hk, rfl, rfl, hbe⟩ := hrel
        have HBE := Lib.hid hbe
        obtain ⟨fm, hfm⟩ : ∃ fm, fm = (K.take k).any (badLink p) := ⟨_, rfl⟩
        rw [← hfm]
        have HFM := Lib.hid hfm
        clear hfm
        by_cases hlt : k < K.length
        · obtain ⟨bb, oo, hA8, hbb, k0, k1, k2⟩ := (HK8.out.on hbe).at_ hlt
          subst hA8
          obtain ⟨i1, m1, hi1, hm1, e0, e1, _⟩ := (link_mem HPO.out.symm).1 (show K[k] ∈ linksOf p by rw [← HKK.out]; exact List.getElem_mem hlt)
          have HTK := Lib.hid (any_take_step (badLink p) K hlt)
          rw [← HFM.out] at HTK
          rw [e0] at k0
          rw [e1] at k1
          obtain ⟨a2, ha2⟩ : ∃ a2, a2 = K[k].2.2 := ⟨_, rfl⟩
          rw [← ha2] at k2
          have HBK := Lib.hid (show badLink p K[k] = (a2 && (T m1 i1 || decide ((m1 : Int) = (i1 : Int)))) from by
            unfold badLink
            rw [← ha2, e0, e1, HTE.out]
            simp)
          have hgx : BGrid w6.heap.size wr p.1.length T Ao co rs := HG8.out.below hbe
          have hmr : m1 < rs.length := by rw [HRS.out]; exact hm1
          obtain ⟨gh, rfl, hgh⟩ := hgx.form (by omega)
          have r0 := hgx.head hmr
          have r1 : wr.cell? ⟨rs[m1], i1, none⟩ = some (.bool (T m1 i1)) := (hgx.rows m1 hmr).cell hi1
          have hrl : rs[m1] < wr.heap.size := hgx.lt _ (List.getElem_mem hmr)
          have hin : (i1 : Int) < (p.1.length : Int) := by omega
          have hmn : (m1 : Int) < (rs.length : Int) := by omega
          clear ha2 e0 e1 hbe hgx
          go_upto_region 15 with fail
          obtain ⟨wl, hwl⟩ : ∃ wl, wl = wr.alloc (Obj.cells #[Value.int IntKind.i64 (i1 : Int), Value.int IntKind.i64 (m1 : Int), Value.bool a2] 37) := ⟨_, rfl⟩
          have bl : Below wr.heap.size wr wl := by rw [hwl]; exact below1 _ _
          have Y : Blk wl wr.heap.size 37 #[.int .i64 (i1 : Int), .int .i64 (m1 : Int), .bool a2] := by rw [hwl]; exact Blk.new _ _ _
          rw [← hwl]
          clear hwl
          have M0 := later_cell (Y.cell 0 : wl.cell? ⟨wr.heap.size, 0, none⟩ = some (.int .i64 (i1 : Int)))
          have M1 := later_cell (Y.cell 1 : wl.cell? ⟨wr.heap.size, 1, none⟩ = some (.int .i64 (m1 : Int)))
          have M2 := later_cell (Y.cell 2 : wl.cell? ⟨wr.heap.size, 2, none⟩ = some (.bool a2))
          obtain ⟨tv, htv⟩ : ∃ tv, tv = T m1 i1 := ⟨_, rfl⟩
          rw [← htv] at r1 HBK
          have M3 := later_cell ((bl.cell (p := ⟨gh, m1, none⟩) hgh).trans r0)
          have M4 := later_cell ((bl.cell (p := ⟨rs[m1], i1, none⟩) hrl).trans r1)
          have HBL := Lib.hid (bthen HBE.out bl)
          obtain ⟨ee, hee⟩ : ∃ ee, ((m1 : Int) == (i1 : Int)) = ee := ⟨_, rfl⟩
          have HEE := Lib.hid (show decide ((m1 : Int) = (i1 : Int)) = ee from hee)
          rw [HBK.out, HEE.out] at HTK
          clear k0 k1 k2 r0 r1 Y htv bl
          have hcase : fm = true ∨ (fm = false ∧ a2 = false) ∨ (fm = false ∧ a2 = true ∧ tv = true) ∨ (fm = false ∧ a2 = true ∧ tv = false ∧ ee = true) ∨ (fm = false ∧ a2 = true ∧ tv = false ∧ ee = false) := by
            clear HTK HBK HEE hee M2 M4 HFM
            cases fm <;> cases a2 <;> cases tv <;> cases ee <;> simp
          rcases hcase with rfl | ⟨rfl, rfl⟩ | ⟨rfl, rfl, rfl⟩ | ⟨rfl, rfl, rfl, rfl⟩ | ⟨rfl, rfl, rfl, rfl⟩
          all_goals
            refine wp_region_later (by kernel_rfl) (by kernel_rfl) ?_
            repeat (go_big_quiet_step (fail))
            refine wpQuiet_nil ?_
            rintro _ ⟨xq, rfl⟩
            go_wp2_with (fail)
            go_roundw
          all_goals first
            | (simp [intOf]; omega)
            | exact ⟨k + 1, by omega, by go_num, by rw [HTK.out]; rfl, bthen HBL.out xq.2⟩
        · have hke : k = K.length := by omega
          have hfe : fm = !ok := by
            rw [HFM.out, hke, List.take_length, HKK.out, HOK.out]
            exact lay_bad HPO.out.symm
          subst hfe
          have B9 := Lib.hid (bthen B8.out hbe)
          have BE9 := Lib.hid (bthen BE8.out hbe)
          have HI9 := Lib.hid (show ∀ W, Below wr.heap.size wr W → RdInts W W.heap.size (.slice A3 L.length c3) L from fun W hW => HI5.out W (bthen BE9.out hW))
          have hLs := Lib.hid (show ok = true → layersFit p L = true from fun h => by rw [HL.out]; exact layR_fits (by rw [← HOK.out]; exact h))
          have hL0 := Lib.hid (show ok = false → L.length = 0 from fun h => by
            rw [HL.out]
            rcases Bool.eq_false_or_eq_true (layOk p) with h1 | h1
            · rw [← HOK.out, h] at h1; cases h1
            · have h2 := h1
              unfold layOk at h2
              rw [← HPO.out, Bool.true_and] at h2
              have h3 : layL p = none := by cases hx : layL p <;> simp_all
              rw [(layR_no (.inr h3)).1]; rfl)
          clear hke hbe HBE
          obtain ⟨wa, hwa⟩ : ∃ wa, wa = wr := ⟨_, rfl⟩
          rw [← hwa] at B9 BE9 HI9 ⊢
          clear hwa
          obtain ⟨x0, x1⟩ := HBX.out _ B9.out
          have CF := Lib.hid (fun (ls : List Int) (u : Value) (W : World) (hW : Below w2.heap.size w2 W) (hu : RdInts W W.heap.size u ls) (hl : ls.length ≤ 1048576) => implLayersFit_any (.agg #[.slice A p.1.length c, .slice A2 p.2.length c2]) u p ls W (HPR.out _ hW) hu HSZ.out hl (HTT.out _ hW))
          cases ok
          · have hl0 := hL0.out rfl
            have h00 : decide ((0 : Int) < (L.length : Int)) = false := by rw [hl0]; rfl
            have HL0 := Lib.hid hl0
            clear hl0
            go_wp2_with fail
            go_loopw [98] (fun i wr => ∃ k : Nat, k ≤ L.length ∧ i = .int .i64 k ∧ Below wa.heap.size wa wr) (fun i _ => L.length - (intOf i).toNat)
            case atStart => exact ⟨0, Nat.zero_le _, rfl, Below.refl _ _⟩
            case round =>
              obtain ⟨k, hk, rfl, hbe⟩ := hrel
              have hk0 : ¬ k < L.length := by have := HL0.out; omega
              have BE := Lib.hid hbe
              clear hbe
              go_wp2_with fail
              go_ret
              exact ⟨rfl, bthen B2.out (bthen B9.out BE.out)⟩
          · have hfit := hLs.out rfl
            have CF1 := Lib.hid (CF.out L _ wa B9.out (HI9.out _ (Below.refl _ _)) (by omega))
            rw [hfit] at CF1
            clear hfit
            go_wp2_with (go_at_call 16; refine CF1.out.mono ?_; rintro e w10 ⟨rfl, b10⟩
                         have BX := Lib.hid b10
                         clear b10)
            clear x0 x1
            go_loopw [98] (fun i wr => ∃ k : Nat, k ≤ L.length ∧ i = .int .i64 k ∧ Below w10.heap.size w10 wr) (fun i _ => L.length - (intOf i).toNat)
            case atStart => exact ⟨0, Nat.zero_le _, rfl, Below.refl _ _⟩
            case round =>
              obtain ⟨k, hk, rfl, hbe⟩ := hrel
              have BW := Lib.hid (bthen B9.out (bthen BX.out hbe))
              have BE := Lib.hid hbe
              have HIW := Lib.hid (HI9.out _ (bthen BX.out hbe))
              clear hbe
              by_cases hlt : k < L.length
              · obtain ⟨A3', c3', e3, hc3, hx3⟩ := HIW.out
                injection e3 with e1 e2 e3
                obtain ⟨bb, oo, hA3, hbb, hcell⟩ := hx3 (by omega)
                rw [← e1] at hA3
                subst hA3
                have k0 := hcell k hlt
                have HCE := Lib.hid hcell
                have hrg := layR_range p L[k] (by rw [← HL.out]; exact List.getElem_mem hlt)
                obtain ⟨y, hy⟩ : ∃ y, y = L[k] := ⟨_, rfl⟩
                rw [← hy] at k0 hrg
                have HY := Lib.hid hy
                have hwr : IntKind.i64.wrap (y - 1) = y - 1 := by
                  unfold IntKind.wrap
                  simp [IntKind.bits, IntKind.signed] <;> omega
                clear e1 e2 e3 hx3 hcell hy hc3
                go_wp2_with (at_builtin; refine wpList_append_lies _ rfl (.tmp 103) (.tmp 104) 23 rfl wr.heap.size 3 i0 (.int .i64 0) 1 8 Tryd.underlying23 hi0 hz0 hz1 hz2 rfl (by decide) (.slice (some ⟨wr.heap.size, 0, none⟩) 0 0) 0 [] rfl ?c1 ⟨bb, oo, none⟩ L.length c3 (L.map (Value.int .i64)) rfl (by simp) ?c4 ?c2 (by omega) (by unfold maxLen; omega) (by omega) ?c3 _ rfl ?_)
                case c1 => exact World.ownsRow_made wr #[] 0 (Nat.le_refl _) (by decide) rfl
                case c4 =>
                  intro j u hu
                  rw [List.getElem?_map] at hu
                  cases hj : L[j]? with
                  | none => rw [hj] at hu; cases hu
                  | some z =>
                    rw [hj] at hu
                    obtain rfl : Value.int .i64 z = u := by simpa using hu
                    obtain ⟨hjl, rfl⟩ := List.getElem?_eq_some_iff.1 hj
                    have hc := ((below1 wr (.cells #[] 3)).cell (p := ⟨bb, oo + j, none⟩) hbb).trans (HCE.out j hjl)
                    rcases j with _ | j <;> simpa [Addr.add] using hc
                case c2 => intro u hu; obtain ⟨z, _, rfl⟩ := List.mem_map.1 hu; rfl
                case c3 => simp
                intro g3 cap w11 hown hgr _ _
                have HO := Lib.hid (show OwnInts w11 wr.heap.size w11.heap.size (.slice (some ⟨g3, 0, none⟩) L.length cap) L from by
                  exact ⟨hown, fun b hb => (hown.lt b hb).2⟩)
                have HGB := Lib.hid (show Below wr.heap.size wr w11 from (below1 wr _).grown hgr (below1 wr _).size fun b hb => by
                  have : wr.heap.size = b := by simpa [Value.ownBlock] using hb
                  omega)
                clear hown hgr k0
                obtain ⟨q1, q2, q3, q4, q5⟩ := HO.out.atG (by omega)
                have k0 := q4 k hlt
                rw [← HY.out] at k0
                have k1 := q5 k
                have HST := Lib.hid (HO.out.store rfl hlt (y - 1))
                have HLE := Lib.hid (show layersFit p (L.set k (y - 1)) = false from by
                  have h1 := layR_less (p := p) (i := k) (by rw [← HL.out]; exact hlt)
                  have h2 : (layR p)[k]'(by rw [← HL.out]; exact hlt) = y := by rw [HY.out]; congr 1; exact HL.out.symm
                  rw [h2, ← HL.out] at h1
                  exact h1)
                clear q4 q5
                obtain ⟨ws, hws⟩ : ∃ ws, ws = w11.setCell ⟨g3, k, none⟩ (.int .i64 (y - 1)) := ⟨_, rfl⟩
                have HWS := Lib.hid hws
                have bs : Below wr.heap.size wr ws := by rw [hws]; exact HGB.out.setCell (by show wr.heap.size ≤ g3; omega) _
                have HBS := Lib.hid bs
                have CF2 := Lib.hid (show Calls Tryd.prog 16 #[.agg #[.slice A p.1.length c, .slice A2 p.2.length c2], .slice (some ⟨g3, 0, none⟩) L.length cap] ws fun e w' => e = .returned (.bool false) ∧ Below ws.heap.size ws w' from by
                  have hr : RdInts ws ws.heap.size (.slice (some ⟨g3, 0, none⟩) L.length cap) (L.set k (y - 1)) := by
                    have := HST.out.rd
                    rw [← hws] at this
                    exact this.more (by rw [hws]; simp)
                  have := CF.out (L.set k (y - 1)) _ ws (bthen BW.out bs) hr (by rw [List.length_set]; omega)
                  rw [HLE.out] at this
                  exact this)
                obtain ⟨x0, x1⟩ := HBX.out _ (bthen BW.out bs)
                clear hws bs
                go_upto_region 24 with fail
                rw [← HWS.out]
                go_wp2_with (go_at_call 16; refine CF2.out.mono ?_; rintro e w12 ⟨rfl, b12⟩
                             have B12 := Lib.hid (bthen BE.out (bthen HBS.out b12))
                             clear b12)
                go_roundw
                case rel => exact ⟨k + 1, by omega, by go_num, B12.out⟩
                case measure => simp [intOf]; omega
              · go_wp2_with fail
                go_ret
                exact ⟨rfl, bthen B2.out BW.out⟩

theorem lawPlainLayers_in (v : Value) (bs : List Nat) (w : World) (h : InBytes w v bs) (hT : Tab w) : Calls Tryd.prog 3 #[v] w fun e w' => e = .returned (.bool true) ∧ Below w.heap.size w w' :=
  lawPlainLayers_any v bs w h.1 h.2.1 h.2.2 hT

end Go.Proofs.YtokmmloakahkhaaDoor
namespace Go.Proofs.YtokmmloakahkhaaDoor
open Go.ChangeShapes Go.WideShapes Go.ChangeAt Go.RowKit

set_option maxRecDepth 100000 in
theorem fnLayers_lifted (os : Os) (started : os.Started) (H : Type) (enc : TypeId × Value → H) :
    ReturnsInHanded {} Tryd.checked os 3 .any (fun w args => (Rows.fnLayersSpec.pre enc Tryd.prog Tryd.f3 [] false w args ∧ laidMetH Tryd.prog laidTabs w) ∧ sizedMet enc Tryd.prog Tryd.f3 (OpenSpec.ofChange Rows.fnLayersSpec) false w args) (Rows.fnLayersSpec.post enc Tryd.prog Tryd.f3 false true false false) := by
  refine returnsInHanded_of_change_and (C := Tryd.checked) (X := fun w _ => laidMetH Tryd.prog laidTabs w) (fun _ _ _ hh h => h.of_heap hh) Tryd.own started (by kernel_rfl) Tryd.func3
    (ChangeSpec.witness_shaped (enc := enc) (C := Tryd.checked) (os := os) (X := fun w _ => laidMetH Tryd.prog laidTabs w) false (World.laidAll Tryd.prog os laidTabs) #[.slice none 0 0] 8 (World.laidAll_os _ _ _)
      (World.shaped_of_ZipB (by kernel_rfl) (by kernel_rfl)) (by kernel_rfl) (by kernel_rfl) (by kernel_rfl)
      (by rw [MakeChecks.laidMetH_plain _ _ _ (by kernel_rfl)]; exact laidMet_laidAll _ (by kernel_rfl) (by kernel_rfl))) ?_
  intro W base args ds gs before hval0 hW _ _ hL _
  have hval : ∀ (j : Nat) t v, Tryd.f3.params[j]? = some t → args[j]? = some v → Value.okWide Tryd.prog W .any base t v := hval0
  have hW' := hW
  obtain ⟨p, q, hA0, hV, rfl, hfz, hnd⟩ := hW
  have hA : DataW.TrodAll enc Tryd.prog W 0 (fun _ => true) true Tryd.f3.params.toList args.toList ds p := hA0
  rw [Tryd.params3] at hA hval
  obtain ⟨v0, vs0, d0, ds0, p0, q0, hargs, rfl, rfl, h0, r0⟩ := trodAll_cons hA
  obtain ⟨rfl, rfl, rfl⟩ := trodAll_nil r0
  obtain rfl : args = #[v0] := by cases args; simp_all
  obtain ⟨rfl, rfl⟩ := trodVars_none hV
  have lt0 : ∀ x ∈ p0, x.block < W.heap.size := by obtain ⟨m, hm⟩ := h0; exact DataW.trod_lt m _ _ _ hm
  obtain ⟨x0, w0⟩ := open_inBytes (hval 0 22 v0 rfl rfl) h0
  clear hA0 hval0
  refine (lawPlainLayers_in v0 x0 W w0 (tab_of_laid hL)).mono fun e W' ⟨he, bel⟩ => ?_
  subst he
  exact ⟨_, rfl, _, _, _, [], _, [], hW', trodAll_mk1 (shut_bool Tryd.underlying4 _), (trodAll_cons_mk (Below.trod Tryd.laidOut (by kernel_rfl) (of_decide_eq_true (by kernel_rfl)) h0 bel lt0) trodAll_mk0), rfl, bel.frame _, fun h => by cases h⟩

theorem fnLayers_holds : Rows.FnLayersSaid :=
  OpenClaim.holds_of_wide 3 Tryd.f3 rfl rfl rfl rfl rfl rfl rfl ⟨rfl, rfl, rfl, rfl, rfl⟩ rfl rfl rfl rfl rfl (by kernel_rfl) Tryd.func3 (by kernel_rfl)
    (of_decide_eq_true (by kernel_rfl)) (by unfold Func.isWrapper; rw [if_neg (of_decide_eq_false (by kernel_rfl))]; exact ⟨rfl, rfl⟩)
    (fun os started H enc _ => fnLayers_lifted os started H enc)

theorem fnLayersCard_holds : Rows.FnLayersCardSaid :=
  Claim7.holds_tied_plain_at .later [] [.data, .data] true (true, "6f994bc4384506fd34f3e771ee476e4cc97137f52f82e071fdf92e8a01e60b8a") false fnLayers_holds (fun _ h => by cases h) (by kernel_rfl) (fun _ h => by cases h) fnLayers_row_tie rfl ⟨rfl, rfl⟩ (by kernel_rfl) rfl
    (fun f fn hf hfn => by
      obtain rfl : f = 3 := Option.some.inj ((show Tryd.prog.funcNamed "loop.example/wholerules/laws.FnLayers" = some 3 by kernel_rfl).symm.trans hf) |>.symm
      obtain rfl : fn = Tryd.f3 := (Option.some.inj (Tryd.func3.symm.trans hfn)).symm
      exact ⟨by kernel_rfl, fun j t ht => by
        rw [Tryd.params3] at ht
        have hm : t ∈ [22] := by simpa using Array.mem_of_getElem? ht
        have hall : ([22].all fun u => !Tryd.prog.wantsStandIn u) = true := by kernel_rfl
        exact (show Tryd.prog.wantsStandIn t = false by simpa using List.all_eq_true.1 hall t hm)⟩)
    (by kernel_rfl)

end Go.Proofs.YtokmmloakahkhaaDoor
