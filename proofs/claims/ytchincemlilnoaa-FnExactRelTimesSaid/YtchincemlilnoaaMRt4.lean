/-
  Texts that the claim's last one imports, laid together: part 4 of 6. No condition of its own.
-/
import Derived.Test.YtchincemlilnoaaMRt1
import Derived.Test.YtchincemlilnoaaMRt2
import Derived.Test.YtchincemlilnoaaMRt3
/-
  All columns of a relation: l9Up, columns; the numbers of all rows: numbers.
-/
namespace Go.Proofs.Ytchincemlilnoaa
open Go.RowKit

/-- The numbers from 0 up to ahead of one. -/
def upI (n : Nat) : List Int := (List.range n).map fun (j : Nat) => (j : Int)
theorem upI_length (n : Nat) : (upI n).length = n := by simp [upI]
theorem upI_succ (n : Nat) : upI (n + 1) = upI n ++ [(n : Int)] := by simp [upI, List.range_succ]
theorem upI_in {n : Nat} {m : Int} (h : (n : Int) = m) : (upI n).all (colIn m) = true := by
  rw [List.all_eq_true]
  intro x hx
  obtain ⟨j, hj, rfl⟩ := List.mem_map.1 hx
  have : j < n := by simpa using hj
  simp [colIn]
  omega
theorem pickC_up {row : List Int} : pickC row (upI row.length) = row := by
  apply List.ext_getElem
  · simp [pickC, upI]
  · intro j h1 h2
    simp [pickC, upI, rowI_at h2]

set_option maxHeartbeats 1000000 in
set_option maxRecDepth 100000 in
theorem l9Up_any (n : Nat) (w : World) (hn : n ≤ 1048576) :
    Calls Try.prog 77 #[.int .i64 n] w fun e w' => ∃ A' c', e = .returned (.slice A' (upI n).length c') ∧ OwnInts w' w.heap.size w'.heap.size (.slice A' (upI n).length c') (upI n) ∧ Below w.heap.size w w' := by
  obtain ⟨i0, hi0, hz0, hz1, hz2⟩ := info_parts Try.infoInt
  have C0 := Lib.hid (ColI.empty (Below.refl w.heap.size w))
  go_enter Try.func77, Try.ntmps77
  go_wp2_with (fail)
  go_loopw [3, 4] (fun o i wr => ∃ (k : Nat) (A' : Option Addr) (c' : Nat), k ≤ n ∧ i = .int .i64 k ∧ o = .slice A' (upI k).length c' ∧ ColI w wr (upI k) A' c') (fun _ i _ => n - (intOf i).toNat)
  case atStart => exact ⟨0, _, 0, Nat.zero_le _, rfl, rfl, C0.out⟩
  case round =>
    obtain ⟨k, A', c', hk, rfl, rfl, hr'⟩ := hrel
    have hln : (upI k).length ≤ k := by rw [upI_length]; omega
    by_cases hlt : k < n
    · have HS := Lib.hid (upI_succ k)
      have HP := Lib.hid hr'
      clear hr'
      obtain ⟨zs, hzs⟩ : ∃ zs, zs = upI k := ⟨_, rfl⟩
      have HZ := Lib.hid hzs
      rw [← hzs] at HP hln ⊢
      clear hzs
      go_wp2_with (at_builtin; refine wpList_append_lies _ rfl (.tmp 11) (.tmp 13) 42 rfl w.heap.size 3 i0 (.int .i64 0) 1 8 Try.underlying42 hi0 hz0 hz1 hz2 rfl (by decide) (.slice A' zs.length c') zs.length (zs.map (Value.int .i64)) rfl ?c1 ⟨_, 0, none⟩ 1 1 [.int .i64 k] rfl rfl (news1s _ _ _ _ (by simp)) ?c2 (by omega) (by unfold maxLen; omega) (by omega) ?c3 _ rfl ?_)
      case c1 => exact HP.out.own.1.alloc _
      case c2 => first | rfl | (intro u hu; simp at hu; subst hu; rfl)
      case c3 => have := HP.out.below.size; simp; omega
      intro g cap w4 hown hg _ _
      have hcol := HP.out.push (Below.refl _ _) hg hown
      rw [HZ.out, ← HS.out] at hcol
      have hlen : zs.length + 1 = (upI (k + 1)).length := by rw [HS.out, HZ.out]; simp
      rw [hlen]
      have HC := Lib.hid hcol
      clear hcol hlen hown hg
      go_wp2_with (fail)
      go_roundw
      case rel => exact ⟨k + 1, _, _, by omega, by go_num, rfl, HC.out⟩
      case measure => simp [intOf]; omega
    · have hkn : k = n := by omega
      have HZ := Lib.hid (show upI k = upI n by rw [hkn])
      have HO := Lib.hid hr'
      rw [HZ.out] at HO ⊢
      clear hkn hr'
      go_wp2_with (fail)
      go_ret
      exact ⟨_, _, rfl, HO.out.own, HO.out.below⟩

set_option maxHeartbeats 1000000 in
set_option maxRecDepth 100000 in
theorem columns_any (v : Value) (r : LRel) (n : Nat) (hrn : (n : Int) = r.1) (w : World) (h : RdRel w w.heap.size v r) (hn : n ≤ 1048576) :
    Calls Try.prog 76 #[v] w fun e w' => ∃ A' c', e = .returned (.slice A' (upI n).length c') ∧ OwnInts w' w.heap.size w'.heap.size (.slice A' (upI n).length c') (upI n) ∧ Below w.heap.size w w' := by
  obtain ⟨a, rfl, h⟩ := h
  obtain ⟨A, c, rfl, _, _⟩ := h
  obtain ⟨m, xss⟩ := r
  simp only at hrn
  subst hrn
  have hmk := run_make_row' (P := Try.prog) 42 3 (.int .i64 0) 8 Try.underlying42 Try.infoInt rfl .i64 .i64 n (by omega) (by omega)
  obtain ⟨w1, hw1⟩ : ∃ w1, w1 = w.alloc (Obj.cells #[Value.int IntKind.i64 (n : Int), Value.slice A xss.length c] 27) := ⟨_, rfl⟩
  have B1 : Below w.heap.size w w1 := by rw [hw1]; exact below1 _ _
  have s1 : w1.heap.size = w.heap.size + 1 := by rw [hw1]; simp
  have HM := Lib.hid (show (w1.alloc (.cells (madeCells #[.int .i64 0] n) 3)).rowIs w1.heap.size 3 n (fun _ => .int .i64 0) from World.rowIs_made w1 _ _ _)
  go_enter Try.func76, Try.ntmps76
  go_wp2_with fail
  rw [← hw1]
  clear hw1
  go_loopw [4, 10] (fun _ i wr => ∃ k : Nat, k ≤ n ∧ i = .int .i64 k ∧ wr.rowIs (w.heap.size + 1) 3 n (fun j => if j < k then .int .i64 (j : Int) else .int .i64 0) ∧ Below w.heap.size w wr) (fun _ i _ => n - (intOf i).toNat)
  case atStart => exact ⟨0, Nat.zero_le _, rfl, (by rw [← s1]; exact HM.out.congr (fun j _ => by simp)), B1.alloc (by omega) _⟩
  case round =>
    obtain ⟨k, hk, rfl, hrow, hb⟩ := hrel
    by_cases hlt : k < n
    · have hc2 := hrow.cell hlt
      have hf2 := hrow.frozen k
      have HR := Lib.hid hrow
      clear hrow
      go_wp2_with fail
      go_roundw
      case rel =>
        refine ⟨k + 1, by omega, by go_num, (HR.out.set k _).congr (fun j hj => ?_), hb.setCell (by simp) _⟩
        by_cases e : j = k
        · subst e; simp
        · rw [if_neg e]
          by_cases h2 : j < k
          · rw [if_pos h2, if_pos (by omega)]
          · rw [if_neg h2, if_neg (by omega)]
      case measure => simp [intOf]; omega
    · have HO := Lib.hid (show OwnInts wr (w.heap.size + 1) wr.heap.size (.slice (some ⟨w.heap.size + 1, 0, none⟩) (upI n).length (upI n).length) (upI n) from
        OwnInts.of_rowIs (by rw [upI_length]; exact hrow.congr (fun j hj => by rw [if_pos (by omega)]; simp [upI, hj])) (Nat.le_refl _) hrow.lt (by rw [upI_length]; unfold maxLen; omega))
      have HL := Lib.hid (upI_length n)
      clear hrow
      go_wp2_with fail
      go_ret
      exact ⟨some ⟨w.heap.size + 1, 0, none⟩, (upI n).length, by rw [HL.out]; rfl, HO.out.mono (by omega) (Nat.le_refl _), hb⟩

/-- The numbers of all rows. -/
def keysI (xss : List (List Int)) (cols : List Int) : List Int := xss.map fun row => ((numF (pickC row cols) : Nat) : Int)
theorem keysI_length (xss : List (List Int)) (cols : List Int) : (keysI xss cols).length = xss.length := by simp [keysI]

set_option maxHeartbeats 1000000 in
set_option maxRecDepth 100000 in
theorem relNumbers_any (v v2 : Value) (r : LRel) (cols : List Int) (w : World) (h : RdRel w w.heap.size v r) (h2 : RdInts w w.heap.size v2 cols) (hp : RelP r) (hc : cols.all (colIn r.1) = true) (hn : cols.length ≤ 6) :
    Calls Try.prog 69 #[v, v2] w fun e w' => ∃ A' c', e = .returned (.slice A' (keysI r.2 cols).length c') ∧ OwnInts w' w.heap.size w'.heap.size (.slice A' (keysI r.2 cols).length c') (keysI r.2 cols) ∧ Below w.heap.size w w' := by
  obtain ⟨a, rfl, h⟩ := h
  have H := Lib.hid h
  obtain ⟨A, c, rfl, hcc, _⟩ := h
  have H2 := Lib.hid h2
  obtain ⟨A2, c2, rfl, _, _⟩ := h2
  obtain ⟨m, xss⟩ := r
  simp only at H hc hcc
  have HC := Lib.hid hc
  have HP := Lib.hid hp
  have hmany : xss.length ≤ 2000 := hp.many
  clear hc hp
  have hmk := run_make_row' (P := Try.prog) 42 3 (.int .i64 0) 8 Try.underlying42 Try.infoInt rfl .i64 .i64 xss.length (by omega) (by omega)
  obtain ⟨w1, hw1⟩ : ∃ w1, w1 = w.alloc (Obj.cells #[Value.int IntKind.i64 m, Value.slice A xss.length c] 27) := ⟨_, rfl⟩
  have B1 : Below w.heap.size w w1 := by rw [hw1]; exact below1 _ _
  have s1 : w1.heap.size = w.heap.size + 1 := by rw [hw1]; simp
  have HM := Lib.hid (show (w1.alloc (.cells (madeCells #[.int .i64 0] xss.length) 3)).rowIs w1.heap.size 3 xss.length (fun _ => .int .i64 0) from World.rowIs_made w1 _ _ _)
  obtain ⟨KS, hKS⟩ : ∃ KS, KS = keysI xss cols := ⟨_, rfl⟩
  have hKL : KS.length = xss.length := by rw [hKS, keysI_length]
  have hKA : ∀ k (hk : k < xss.length) (hk2 : k < KS.length), KS[k] = ((numF (pickC xss[k] cols) : Nat) : Int) := fun k hk hk2 => by simp [hKS, keysI]
  simp only
  rw [← hKS]
  have HKL := Lib.hid hKL
  have HKA := Lib.hid hKA
  clear hKS hKL hKA
  go_enter Try.func69, Try.ntmps69
  go_wp2_with fail
  rw [← hw1]
  clear hw1
  go_loopw [6, 7, 15] (fun _ _ i wr => ∃ k : Nat, k ≤ xss.length ∧ i = .int .i64 k ∧ wr.rowIs (w.heap.size + 1) 3 xss.length (fun j => if j < k then .int .i64 (KS.getD j 0) else .int .i64 0) ∧ Below w.heap.size w wr) (fun _ _ i _ => xss.length - (intOf i).toNat)
  case atStart => exact ⟨0, Nat.zero_le _, rfl, (by rw [← s1]; exact HM.out.congr (fun j _ => by simp)), B1.alloc (by omega) _⟩
  case round =>
    obtain ⟨k, hk, rfl, hrow, hb⟩ := hrel
    by_cases hlt : k < xss.length
    · obtain ⟨b, o, A3, c3, rfl, hbB, k0, r0⟩ := (H.out.on hb).get hlt
      have hrl : (xss[k].length : Int) = m := HP.out.row hlt
      have hcon : xss[k].all constOk = true := (HP.out.rows k hlt hlt).2.2
      obtain ⟨N, hN⟩ : ∃ N, N = numF (pickC xss[k] cols) := ⟨_, rfl⟩
      have CN := Lib.hid (columnsNumber_any (.slice A3 xss[k].length c3) _ xss[k] cols wr.heap.size wr r0 (H2.out.on hb) hcon (by rw [hrl]; exact HC.out) hn)
      rw [← hN] at CN
      have HKN := Lib.hid (show KS.getD k 0 = (N : Int) by rw [hN, ← HKA.out k hlt (by rw [HKL.out]; exact hlt)]; simp [show k < KS.length by rw [HKL.out]; exact hlt])
      have hc2 := hrow.cell hlt
      have hf2 := hrow.frozen k
      have HR := Lib.hid hrow
      clear hrow hN hcon hrl r0
      go_wp2_with (go_at_call 74; refine CN.out.mono ?_; rintro e w' ⟨rfl, rfl⟩)
      go_roundw
      case rel =>
        refine ⟨k + 1, by omega, by go_num, (HR.out.set k _).congr (fun j hj => ?_), hb.setCell (by simp) _⟩
        by_cases e : j = k
        · subst e; simp only [if_true]; rw [if_pos (by omega), HKN.out]
        · rw [if_neg e]
          by_cases h2 : j < k
          · rw [if_pos h2, if_pos (by omega)]
          · rw [if_neg h2, if_neg (by omega)]
      case measure => simp [intOf]; omega
    · have HO := Lib.hid (show OwnInts wr (w.heap.size + 1) wr.heap.size (.slice (some ⟨w.heap.size + 1, 0, none⟩) KS.length KS.length) KS from
        OwnInts.of_rowIs (by rw [HKL.out]; exact hrow.congr (fun j hj => by rw [if_pos (by omega)])) (Nat.le_refl _) hrow.lt (by rw [HKL.out]; unfold maxLen; omega))
      clear hrow
      go_wp2_with fail
      go_ret
      exact ⟨some ⟨w.heap.size + 1, 0, none⟩, KS.length, by rw [HKL.out]; rfl, HO.out.mono (by omega) (Nat.le_refl _), hb⟩

end Go.Proofs.Ytchincemlilnoaa
/-
  Marks on lists of facts: the words, and the walks of markFactS, markFact, heldFactS.
-/
namespace Go.Proofs.Ytchincemlilnoaa
open Go.RowKit

/-- The facts that marks from k on leave. -/
def markF : Int → List LFact → List LFact
  | _, [] => []
  | k, f :: fs => (k, seqI (k + 1) f.2.length) :: markF (k + 1 + (f.2.length : Int)) fs
/-- The mark behind the last one. -/
def endF (k : Int) (fs : List LFact) : Int := k + (fs.length : Int) + (tot fs : Int)

theorem tot_cons (f : LFact) (fs : List LFact) : tot (f :: fs) = f.2.length + tot fs := by simp [tot]
theorem tot_append (xs ys : List LFact) : tot (xs ++ ys) = tot xs + tot ys := by simp [tot]
theorem markF_length : ∀ (k : Int) (fs : List LFact), (markF k fs).length = fs.length
  | _, [] => rfl
  | k, f :: fs => by simp [markF, markF_length _ fs]
theorem markF_tot : ∀ (k : Int) (fs : List LFact), tot (markF k fs) = tot fs
  | _, [] => rfl
  | k, f :: fs => by simp [markF, tot_cons, seqI_length, markF_tot _ fs]
theorem markF_snoc : ∀ (k : Int) (fs : List LFact) (f : LFact), markF k (fs ++ [f]) = markF k fs ++ [(endF k fs, seqI (endF k fs + 1) f.2.length)]
  | k, [], f => by simp [markF, endF, tot]
  | k, g :: fs, f => by
    have h := markF_snoc (k + 1 + (g.2.length : Int)) fs f
    have e : endF (k + 1 + (g.2.length : Int)) fs = endF k (g :: fs) := by simp [endF, tot_cons]; omega
    rw [e] at h
    simp [markF, h]
def markedF (fs : List LFact) (k : Int) (j : Nat) : List LFact := markF k (fs.take j) ++ fs.drop j
theorem markedF_length {fs : List LFact} {k : Int} {j : Nat} (h : j ≤ fs.length) : (markedF fs k j).length = fs.length := by simp [markedF, markF_length]; omega
theorem markedF_at {fs : List LFact} {k : Int} {j : Nat} (h : j < fs.length) (h' : j < (markedF fs k j).length) : (markedF fs k j)[j] = fs[j] := by
  have hl : (markF k (fs.take j)).length = j := by rw [markF_length]; simp; omega
  have e : (markedF fs k j)[j]? = some fs[j] := by
    unfold markedF
    rw [List.getElem?_append_right (by omega), hl]
    simp [h]
  rw [List.getElem?_eq_getElem h'] at e
  exact Option.some.inj e
theorem markedF_step {fs : List LFact} {k : Int} {j : Nat} (h : j < fs.length) : (markedF fs k j).set j (endF k (fs.take j), seqI (endF k (fs.take j) + 1) fs[j].2.length) = markedF fs k (j + 1) := by
  have hl : (markF k (fs.take j)).length = j := by rw [markF_length]; simp; omega
  unfold markedF
  rw [List.drop_eq_getElem_cons h, List.set_append_right _ _ (by omega), hl, Nat.sub_self, List.set_cons_zero, take_snoc fs j h, markF_snoc]
  simp
theorem markedF_zero (fs : List LFact) (k : Int) : markedF fs k 0 = fs := by simp [markedF, markF]
theorem markedF_all (fs : List LFact) (k : Int) : markedF fs k fs.length = markF k fs := by simp [markedF]
theorem markF_at {fs : List LFact} {k : Int} {j : Nat} (h : j < fs.length) (h' : j < (markF k fs).length) : (markF k fs)[j] = (endF k (fs.take j), seqI (endF k (fs.take j) + 1) fs[j].2.length) := by
  have e : fs = fs.take (j + 1) ++ fs.drop (j + 1) := (List.take_append_drop _ _).symm
  have hl : (markF k (fs.take j)).length = j := by rw [markF_length]; simp; omega
  have hp : ∀ (xs ys : List LFact) (k : Int), ∃ zs, markF k (xs ++ ys) = markF k xs ++ zs := by
    intro xs
    induction xs with
    | nil => intro ys k; exact ⟨_, rfl⟩
    | cons x xs ih =>
      intro ys k
      obtain ⟨zs, hz⟩ := ih ys (k + 1 + (x.2.length : Int))
      exact ⟨zs, by simp [markF, hz]⟩
  obtain ⟨zs, hz⟩ := hp (fs.take (j + 1)) (fs.drop (j + 1)) k
  rw [← e, take_snoc fs j h, markF_snoc] at hz
  have : (markF k fs)[j]? = some (endF k (fs.take j), seqI (endF k (fs.take j) + 1) fs[j].2.length) := by
    rw [hz, List.append_assoc, List.getElem?_append_right (by omega), hl]
    simp
  rw [List.getElem?_eq_getElem h'] at this
  exact Option.some.inj this
theorem endF_zero (k : Int) (fs : List LFact) : endF k (fs.take 0) = k := by simp [endF, tot]
theorem endF_step {fs : List LFact} {k : Int} {j : Nat} (h : j < fs.length) : endF k (fs.take (j + 1)) = endF k (fs.take j) + 1 + (fs[j].2.length : Int) := by
  have := tot_take fs j h
  simp only [endF, List.length_take, this]
  omega
theorem tot_take_le (fs : List LFact) (j : Nat) : tot (fs.take j) ≤ tot fs := by
  have := tot_append (fs.take j) (fs.drop j)
  rw [List.take_append_drop] at this
  omega

/-- A row of facts of the call's own, its rows of integers named. -/
structure OwnFA (w : World) (lo hi : Nat) (v : Value) (fs : List LFact) (av : List Value) : Prop where
  args : OwnArgs w lo hi av (fs.map (·.2))
  row : w.ownsRow lo 65 2 v fs.length (flat fs av)
  lt : ∀ g, v.ownBlock = some g → g < hi
theorem OwnFA.own {w : World} {lo hi : Nat} {v : Value} {fs : List LFact} {av : List Value} (h : OwnFA w lo hi v fs av) : OwnFacts w lo hi v fs := ⟨av, h.args, h.row, h.lt⟩

theorem flat_set : ∀ (fs : List LFact) (av : List Value) (j : Nat) (f : LFact), av.length = fs.length → flat (fs.set j f) av = (flat fs av).set (j * 2) (.int .i64 f.1)
  | [], [], _, _, _ => rfl
  | [], a :: av, _, _, h => by simp at h
  | g :: fs, [], _, _, h => by simp at h
  | g :: fs, a :: av, 0, f, _ => by simp [flat]
  | g :: fs, a :: av, j + 1, f, h => by
    have := flat_set fs av j f (by simpa using h)
    simp [flat, Nat.add_mul, this]

/-- The block of a row of integers is no block of a row of facts. -/
theorem types_ne {w : World} {lo hi lo' g : Nat} {n : Nat} {v a : Value} {zs : List Value} {xs : List Int} (hr : w.ownsRow lo' 65 2 v n zs) (hv : v.ownBlock = some g) (ha : OwnInts w lo hi a xs) : a.ownBlock ≠ some g := by
  rcases hr.2 with ⟨rfl, _⟩ | ⟨g1, c1, cur1, rfl, _, h1, _⟩
  · cases hv
  · have e : g1 = g := by simpa [Value.ownBlock] using hv
    subst e
    rcases ha.1.2 with ⟨rfl, _⟩ | ⟨g2, c2, cur2, rfl, _, h2, _⟩
    · simp [Value.ownBlock]
    · intro e
      have e : g2 = g1 := by simpa [Value.ownBlock] using e
      subst e
      rw [h1] at h2
      injection h2 with h2
      injection h2 with _ h2
      exact absurd h2 (by decide)

theorem OwnFA.step {w w3 : World} {lo hi g j c : Nat} {fs : List LFact} {av : List Value} {p : Int} {ys : List Int} (h : OwnFA w lo hi (.slice (some ⟨g, 0, none⟩) fs.length c) fs av) (hj : j < fs.length) (hja : j < av.length)
    (hI : OwnInts w3 lo hi av[j] ys) (hg : (w.setCell ⟨g, j * 2, none⟩ (.int .i64 p)).grownBy w3 av[j].ownBlock) : OwnFA w3 lo hi (.slice (some ⟨g, 0, none⟩) fs.length c) (fs.set j (p, ys)) av := by
  obtain ⟨ha, hr, hlt⟩ := h
  have hlen : av.length = fs.length := by simpa using ha.len
  have hapart : ∀ i i' (hi' : i < av.length) (hi'' : i' < av.length), i ≠ i' → ∀ b, av[i].ownBlock = some b → av[i'].ownBlock ≠ some b := by
    intro i i' h1 h2 hne b hb hb'
    have hp := List.pairwise_iff_getElem.1 ha.apart
    rcases Nat.lt_or_gt_of_ne hne with hl | hl
    · exact hp i i' h1 h2 hl b hb hb'
    · exact hp i' i h2 h1 hl b hb' hb
  have hown : ∀ i (h1 : i < (fs.map (·.2)).length) (h2 : i < av.length), OwnInts w lo hi av[i] (fs.map (·.2))[i] := ha.own
  refine ⟨⟨by simp [hlen], fun i h1 h2 => ?_, ha.apart⟩, ?_, hlt⟩
  · by_cases e : i = j
    · subst e
      simpa using hI
    · have h0 := hown i (by simpa using h1) h2
      have hz : ((fs.set j (p, ys)).map (·.2))[i] = (fs.map (·.2))[i]'(by simpa using h1) := by
        simp [Ne.symm e]
      rw [hz]
      refine h0.kept fun b hb => ?_
      have hbg := types_ne hr rfl h0
      have hne : b ≠ g := fun e => hbg (by rw [hb, e])
      have hbl := h0.lt hb
      rw [hg.block b (by simpa using hbl.2.2) (fun e2 => hapart i j h2 hja e b hb e2.symm)]
      exact Below.heap_setCell _ _ _ _ hne
  · obtain ⟨hfl, hr2⟩ := hr
    have hgj := types_ne ⟨hfl, hr2⟩ rfl (hown j (by simpa using hj) hja)
    rcases hr2 with ⟨e, _⟩ | ⟨g', cap, cur, e, hbg, hgg, hn, hm, hs, ht⟩
    · cases e
    · injection e with e1 e2 e3
      injection e1 with e1
      injection e1 with e1 _ _
      subst e1
      subst e3
      have hgs := (Array.getElem?_eq_some_iff.1 hgg).1
      refine ⟨by rw [flat_set _ _ _ _ hlen]; simpa using hfl, .inr ⟨g, c, cur.setIfInBounds (j * 2) (.int .i64 p), by simp, hbg, ?_, by simpa using hn, hm, by simpa using hs, ?_⟩⟩
      · rw [hg.block g (by simpa using hgs) (fun e2 => hgj e2.symm)]
        simp [World.setCell, Array.getElem?_modify, hgg]
      · rw [flat_set _ _ _ _ hlen, List.length_set, Array.toList_setIfInBounds, List.take_set, ht]

theorem OwnFA.form {w : World} {lo hi : Nat} {v : Value} {fs : List LFact} {av : List Value} (h : OwnFA w lo hi v fs av) : ∃ A c, v = .slice A fs.length c ∧ (0 < fs.length → ∃ g, A = some ⟨g, 0, none⟩ ∧ lo ≤ g ∧ g < hi) := by
  rcases h.row.2 with ⟨rfl, h0⟩ | ⟨g, cap, _, rfl, hb, _⟩
  · exact ⟨none, 0, by rw [h0], fun hn => by omega⟩
  · exact ⟨_, _, rfl, fun _ => ⟨g, rfl, hb, h.lt g rfl⟩⟩
theorem OwnFacts.form {w : World} {lo hi : Nat} {v : Value} {fs : List LFact} (h : OwnFacts w lo hi v fs) : ∃ A c, v = .slice A fs.length c := by
  obtain ⟨av, h1, h2, h3⟩ := h
  obtain ⟨A, c, e, _⟩ := (OwnFA.mk h1 h2 h3).form
  exact ⟨A, c, e⟩
/-- What the walk reads of fact j. -/
theorem OwnFA.get {w : World} {lo hi g c j : Nat} {fs : List LFact} {av : List Value} (h : OwnFA w lo hi (.slice (some ⟨g, 0, none⟩) fs.length c) fs av) (hj : j < fs.length) (hja : j < av.length) :
    w.cell? ⟨g, j * 2, none⟩ = some (.int .i64 fs[j].1) ∧ w.frozen? ⟨g, j * 2, none⟩ = false ∧ w.cell? ⟨g, j * 2 + 1, none⟩ = some av[j] := by
  have hl : av.length = fs.length := by simpa using h.args.len
  have hcells := @World.ownsRow.cells w lo 65 2 _ fs.length (flat fs av) h.row g rfl
  have h1 := hcells _ _ (flat_at fs av hl j hj hja).1
  have h2 := hcells _ _ (flat_at fs av hl j hj hja).2
  rw [Go.WideShapes.add_plain, Nat.zero_add] at h1 h2
  refine ⟨h1, ?_, h2⟩
  rcases h.row.2 with ⟨e, _⟩ | ⟨g', cap, cur, e, _, hgg, _⟩
  · cases e
  · injection e with e1 _ _
    injection e1 with e1
    injection e1 with e1 _ _
    subst e1
    simp [World.frozen?, hgg]

set_option maxHeartbeats 1000000 in
set_option maxRecDepth 100000 in
theorem markFactS_any (v : Value) (fs : List LFact) (k : Int) (lo hi : Nat) (w : World) (h : OwnFacts w lo hi v fs) (hk0 : 0 ≤ k) (hk : k ≤ 4294967296) (hn : fs.length ≤ 1073741824) (ht : tot fs ≤ 1073741824) :
    Calls Try.prog 23 #[v, .int .i64 k] w fun e w' => e = .returned (.int .i64 (endF k fs)) ∧ OwnFacts w' lo hi v (markF k fs) ∧ Only lo hi w w' := by
  obtain ⟨av, h1, h2, h3⟩ := h
  have h : OwnFA w lo hi v fs av := ⟨h1, h2, h3⟩
  clear h1 h2 h3
  obtain ⟨A, c, hv, hform⟩ := h.form
  subst hv
  have hla : av.length = fs.length := by simpa using h.args.len
  have HLA := Lib.hid hla
  clear hla
  have H := Lib.hid h
  clear h
  go_enter Try.func23, Try.ntmps23
  go_wp2_with (fail)
  go_loopw [1, 5] (fun m i wr => ∃ (j : Nat) (q : Int), j ≤ fs.length ∧ i = .int .i64 j ∧ m = .int .i64 q ∧ q = endF k (fs.take j) ∧ OwnFA wr lo hi (.slice A fs.length c) (markedF fs k j) av ∧ Only lo hi w wr) (fun _ i _ => fs.length - (intOf i).toNat)
  case atStart => exact ⟨0, k, Nat.zero_le _, rfl, rfl, by rw [endF_zero], by rw [markedF_zero]; exact H.out, Only.refl _ _ _⟩
  case round =>
    obtain ⟨j, q, hj, rfl, rfl, hq, ho, hon⟩ := hrel
    by_cases hlt : j < fs.length
    · obtain ⟨g, rfl, hg1, hg2⟩ := hform (by omega)
      have hml := markedF_length (k := k) (Nat.le_of_lt hlt)
      have hja : j < av.length := by rw [HLA.out]; exact hlt
      have ho' : OwnFA wr lo hi (.slice (some ⟨g, 0, none⟩) (markedF fs k j).length c) (markedF fs k j) av := by rw [hml]; exact ho
      obtain ⟨c1, f1, c2⟩ := ho'.get (j := j) (by omega) hja
      have hI0 := ho.args.own j (by rw [List.length_map]; omega) hja
      have hat := markedF_at (k := k) hlt (by omega)
      rw [List.getElem_map, hat] at hI0
      rw [hat] at c1
      obtain ⟨A3, c3, hav⟩ := hI0.form
      rw [hav] at c2
      have hI1 := hI0.kept (w' := wr.setCell ⟨g, j * 2, none⟩ (.int .i64 q)) (fun b hb => Below.heap_setCell _ _ _ _ (fun e => types_ne ho'.row rfl hI0 (by rw [hb, e])))
      rw [hav] at hI1
      have hqb : 0 ≤ q ∧ q ≤ 8589934592 := by
        have h1 := tot_take_le fs j
        have h2 : (fs.take j).length ≤ fs.length := by rw [List.length_take]; omega
        subst hq
        simp only [endF] at *
        omega
      obtain ⟨hq0, hq1⟩ := hqb
      have hln := len_le_tot fs j hlt
      have HI := Lib.hid hI1
      have HO := Lib.hid (And.intro ho' (And.intro hml (And.intro hav hq)))
      clear hI0 hI1 ho ho' hml hat hq
      go_wp2_with (fail)
      refine (markIntS_any _ fs[j].2 (q + 1) lo hi _ HI.out (by omega) (by omega)).mono ?_
      rintro e w3 ⟨rfl, ho3, hg3⟩
      obtain ⟨hOF, hml, hav, hq⟩ := HO.out
      have hst := hOF.step (j := j) (by omega) hja (by rw [hav]; exact ho3) (by rw [hav]; exact hg3)
      rw [hml, hq, markedF_step hlt] at hst
      have hE := endF_step (k := k) hlt
      have hon3 : Only lo hi w w3 := (hon.setCell (p := ⟨g, j * 2, none⟩) ⟨hg1, hg2⟩ _).trans (Only.of_grown hg3 (fun b hb => by have := HI.out.lt hb; omega))
      have HS := Lib.hid (And.intro hst (show q + 1 + (fs[j].2.length : Int) = endF k (fs.take (j + 1)) by rw [hE, hq]))
      clear hst hOF hml hav hq hE
      go_wp2_with (fail)
      go_roundw
      case rel => exact ⟨j + 1, _, by omega, by go_num, rfl, HS.out.2, HS.out.1, hon3⟩
      case measure => simp [intOf]; omega
    · have hkn : j = fs.length := by omega
      have HO := Lib.hid (show OwnFacts wr lo hi (.slice A fs.length c) (markF k fs) by rw [← markedF_all, ← hkn]; rw [← hkn] at ho; exact ho.own)
      have HK := Lib.hid (show q = endF k fs by rw [hq, hkn, List.take_length])
      clear hkn ho hq
      go_wp2_with (fail)
      go_ret
      exact ⟨ret_int HK.out, HO.out, hon⟩

theorem endF_bound {fs : List LFact} {k : Int} (j : Nat) (hk0 : 0 ≤ k) (hk : k ≤ 4294967296) (hn : fs.length ≤ 1073741824) (ht : tot fs ≤ 1073741824) : 0 ≤ endF k (fs.take j) ∧ endF k (fs.take j) ≤ 8589934592 := by
  have h1 := tot_take_le fs j
  have h2 : (fs.take j).length ≤ fs.length := by rw [List.length_take]; omega
  simp only [endF]
  omega

end Go.Proofs.Ytchincemlilnoaa
/-
  The walk of the program's constantDigits, and AllFacts' plain mathematics.
-/
namespace Go.Proofs.Ytchincemlilnoaa
open Go.RowKit

/-- The digits of n in base six, so many places. -/
def digits (n p : Nat) : List Int := (List.range p).map fun j : Nat => ((n / 6 ^ (p - 1 - j) % 6 : Nat) : Int)
theorem digits_length (n p : Nat) : (digits n p).length = p := by simp [digits]
theorem div_pow (n k : Nat) : n / 6 ^ k / 6 = n / 6 ^ (k + 1) := by rw [Nat.div_div_eq_div_mul, Nat.pow_succ]
def digitCell (n p m j : Nat) : Value := if m ≤ j then .int .i64 ((n / 6 ^ (p - 1 - j) % 6 : Nat) : Int) else .int .i64 0

set_option maxHeartbeats 1000000 in
theorem constantDigits_six (n p : Nat) (w : World) (hn : n ≤ 1048576) (hp : p ≤ 6) :
    Calls Try.prog 84 #[.int .i64 n, .int .i64 p] w fun e w' => ∃ A' c', e = .returned (.slice A' p c') ∧ OwnInts w' w.heap.size w'.heap.size (.slice A' p c') (digits n p) ∧ Below w.heap.size w w' := by
  have hmk := run_make_row' (P := Try.prog) 42 3 (.int .i64 0) 8 Try.underlying42 Try.infoInt rfl .i64 .i64 p (by omega) (by omega)
  go_enter Try.func84, Try.ntmps84
  go_wp2_with (fail)
  go_loopw [0, 6] (fun v i wr => ∃ (m : Nat) (q : Nat), m ≤ p ∧ i = .int .i64 ((m : Int) - 1) ∧ v = .int .i64 q ∧ q = n / 6 ^ (p - m) ∧ wr.rowIs w.heap.size 3 p (digitCell n p m) ∧ Below w.heap.size w wr) (fun _ i _ => (intOf i + 1).toNat)
  case atStart => exact ⟨p, n, Nat.le_refl _, rfl, rfl, by simp, (World.rowIs_made w _ _ _).congr (fun j hj => by simp [digitCell]; omega), below1 _ _⟩
  case round =>
    obtain ⟨m, q, hm, rfl, rfl, hq, hrow, hbe⟩ := hrel
    have hqn : q ≤ n := by rw [hq]; exact Nat.div_le_self _ _
    rcases Nat.eq_zero_or_pos m with h0 | h0
    · have HO := Lib.hid (show OwnInts wr w.heap.size wr.heap.size (.slice (some ⟨w.heap.size, 0, none⟩) p p) (digits n p) by
        have h1 : wr.rowIs w.heap.size 3 (digits n p).length (fun j => .int .i64 ((digits n p).getD j 0)) := by
          rw [digits_length]
          refine hrow.congr (fun j hj => ?_)
          simp [digitCell, digits, h0, hj]
        have h2 := OwnInts.of_rowIs h1 (Nat.le_refl _) h1.lt (by rw [digits_length]; unfold maxLen; omega)
        rwa [digits_length] at h2)
      have hneg : ¬ (0 : Int) ≤ (m : Int) - 1 := by omega
      clear hrow hq h0
      go_wp2_with (fail)
      go_ret
      exact ⟨_, _, rfl, HO.out, hbe⟩
    · obtain ⟨k, rfl⟩ : ∃ k, m = k + 1 := ⟨m - 1, by omega⟩
      have hkp : k < p := by omega
      have c1 := hrow.cell hkp
      have f1 := hrow.frozen k
      have c1' : ∃ u, wr.cell? ⟨w.heap.size, k, none⟩ = some (.int .i64 u) := by
        rw [c1]
        unfold digitCell
        split <;> exact ⟨_, rfl⟩
      obtain ⟨u, c2⟩ := c1'
      have e1 : ((k + 1 : Nat) : Int) - 1 = (k : Int) := by omega
      have hrw := (hrow.set k (.int .i64 ((q % 6 : Nat) : Int))).congr (g := digitCell n p k) (fun j hj => by
        by_cases e : j = k
        · subst e
          rw [if_pos rfl, hq, show p - (j + 1) = p - 1 - j by omega]
          simp [digitCell]
        · rw [if_neg e]
          unfold digitCell
          by_cases h2 : k ≤ j
          · rw [if_pos (by omega), if_pos h2]
          · rw [if_neg (by omega), if_neg h2])
      have HR := Lib.hid hrw
      have HQ := Lib.hid (show q / 6 = n / 6 ^ (p - k) by rw [hq, div_pow]; congr 2; omega)
      rw [e1]
      clear hrow hq c1 hrw e1
      go_wp2_with (fail)
      go_roundw
      case rel => exact ⟨k, q / 6, by omega, rfl, by simp, HQ.out, by simpa using HR.out, hbe.setCell (Nat.le_refl _) _⟩
      case measure => simp [intOf]

theorem constantDigits_any (n p : Nat) (w : World) (hn : n ≤ 1048576) (hp : p ≤ 2) :
    Calls Try.prog 84 #[.int .i64 n, .int .i64 p] w fun e w' => ∃ A' c', e = .returned (.slice A' p c') ∧ OwnInts w' w.heap.size w'.heap.size (.slice A' p c') (digits n p) ∧ Below w.heap.size w w' := constantDigits_six n p w hn (by omega)

theorem pow6 : (6 : Nat) ^ 0 = 1 ∧ (6 : Nat) ^ 1 = 6 ∧ (6 : Nat) ^ 2 = 36 := by decide
/-- All facts of a predicate with so many places. -/
def allOk (p q : Int) : Bool := decide (0 ≤ p ∧ p ≤ 23) && decide (0 ≤ q ∧ q ≤ 2)
def allTo (p : Int) (q : Nat) (m : Nat) : List LFact := (List.range m).map fun i => (p, digits i q)
def allFacts (p q : Int) : List LFact := if allOk p q then allTo p q.toNat (6 ^ q.toNat) else []
theorem allTo_length (p : Int) (q m : Nat) : (allTo p q m).length = m := by simp [allTo]
theorem allTo_snoc (p : Int) (q m : Nat) : allTo p q (m + 1) = allTo p q m ++ [(p, digits m q)] := by simp [allTo, List.range_succ]
theorem allTo_tot (p : Int) (q : Nat) : ∀ m, tot (allTo p q m) = m * q
  | 0 => by simp [allTo, tot]
  | m + 1 => by rw [allTo_snoc, tot_append, allTo_tot p q m, tot_cons]; simp [tot, digits_length, Nat.add_mul]

end Go.Proofs.Ytchincemlilnoaa
/-
  numbersRel of the program: the relation of rows that numbers name.
-/
namespace Go.Proofs.Ytchincemlilnoaa
open Go.RowKit

/-- The rows whose digits are the numbers. -/
def numRows (zs : List Int) (p : Nat) : List (List Int) := (Lib.compact (sortI zs)).map fun z => digits z.toNat p
theorem numRows_length (zs : List Int) (p : Nat) : (numRows zs p).length ≤ zs.length := by
  unfold numRows
  rw [List.length_map]
  exact Nat.le_trans (compact_len _) (by rw [sortI_length]; exact Nat.le_refl _)

set_option maxHeartbeats 4000000 in
set_option maxRecDepth 100000 in
theorem numbersRel_any (p : Nat) (v : Value) (zs : List Int) (lo hi : Nat) (w : World) (h : OwnInts w lo hi v zs) (hhi : hi ≤ w.heap.size) (hlo : lo ≤ w.heap.size) (hz : ∀ z, z ∈ zs → 0 ≤ z ∧ z ≤ 1048576) (hp : p ≤ 6) (hn : zs.length ≤ 1048576) :
    Calls Try.prog 59 #[.int .i64 p, v] w fun e w' => ∃ A' c', e = .returned (.agg #[.int .i64 p, .slice A' (numRows zs p).length c']) ∧ OwnRows w' w.heap.size w'.heap.size (.slice A' (numRows zs p).length c') (numRows zs p) ∧ Below lo w w' := by
  have H := Lib.hid h
  have HZ := Lib.hid (show ∀ (k : Nat) (hk : k < (Lib.compact (sortI zs)).length), ∃ n : Nat, (Lib.compact (sortI zs))[k] = (n : Int) ∧ n ≤ 1048576 from fun k hk => by
    have := hz _ (sortI_mem.1 (compact_mem.1 (List.getElem_mem hk)))
    exact ⟨((Lib.compact (sortI zs))[k]).toNat, by omega, by omega⟩)
  have hcn : (Lib.compact (sortI zs)).length ≤ 1048576 := Nat.le_trans (compact_len _) (by rw [sortI_length]; exact hn)
  clear h hz
  obtain ⟨i0, hi0, hz0, hz1, hz2⟩ := info_parts Try.infoIntS
  go_enter Try.func59, Try.ntmps59
  go_wp2_with fail
  obtain ⟨w1, hw1⟩ : ∃ w1, w1 = w.alloc (Obj.cells #[Value.int IntKind.i64 0, Value.slice none 0 0] 27) := ⟨_, rfl⟩
  have B1 : Below w.heap.size w w1 := by rw [hw1]; exact below1 _ _
  have s1 : w1.heap.size = w.heap.size + 1 := by rw [hw1]; simp
  have x0 : Blk w1 w.heap.size 27 #[.int .i64 0, .slice none 0 0] := by rw [hw1]; exact Blk.new _ _ _
  rw [← hw1]
  clear hw1
  refine (sortI_any v zs lo hi w1 (H.out.below B1 hhi) hn).mono ?_
  rintro e w2 ⟨rfl, ho2, hb2⟩
  have s2 := hb2.size
  have O2 := Lib.hid (show Below lo w w2 from (B1.mono hlo).trans (hb2.below (Nat.le_refl _) (by omega)))
  have x2 := hb2.blk x0 (.inr hhi)
  have HS2 := Lib.hid ho2
  clear x0 ho2 hb2
  go_upto_region 3 with fail
  obtain ⟨o9, ho9⟩ : ∃ o9, o9 = w2.heap.size := ⟨_, rfl⟩
  obtain ⟨w3, hw3⟩ : ∃ w3, w3 = w2.alloc (Obj.cells #[Value.int IntKind.i64 (p : Int), Value.slice none 0 0] 27) := ⟨_, rfl⟩
  have hb23 : Below w2.heap.size w2 w3 := by rw [hw3]; exact below1 _ _
  have x9 : Blk w3 o9 27 #[.int .i64 (p : Int), .slice none 0 0] := by rw [hw3, ho9]; exact Blk.new _ _ _
  have s3 : w3.heap.size = o9 + 1 := by rw [hw3, ho9]; simp
  rw [← hw3, ← ho9]
  have hh9 : hi ≤ o9 := by omega
  have hl9 : lo ≤ o9 := by omega
  have h09 : w.heap.size < o9 := by omega
  have HS9 := Lib.hid s3
  have HS3 := Lib.hid (show OwnInts w3 lo hi v (sortI zs) from HS2.out.below hb23 (by omega))
  have HX := Lib.hid (show Blk w3 w.heap.size 27 #[.int .i64 0, .slice none 0 0] from x2.below hb23 (by omega))
  have O3 := Lib.hid (show Below lo w w3 from O2.out.trans (hb23.mono (by omega)))
  have hs29 : w2.heap.size = o9 := ho9.symm
  have HO9 := Lib.hid hs29
  clear hw3 x2 hb23 HS2 O2 ho9 hs29 s3
  obtain ⟨cs, hcs⟩ : ∃ cs, cs = Lib.compact (sortI zs) := ⟨_, rfl⟩
  have HR := Lib.hid (show numRows zs p = cs.map fun z => digits z.toNat p by rw [hcs]; rfl)
  rw [← hcs] at HZ hcn
  have CO := Lib.hid (compactI_any v (sortI zs) lo hi w3 HS3.out (by rw [sortI_length]; exact hn))
  rw [← hcs] at CO
  clear hcs
  go_wp2_with (go_at_call 83; refine CO.out.mono ?_; rintro e w4 ⟨A, c, rfl, ho4, hb4⟩)
  have s4 := hb4.size
  have h39 : o9 + 1 ≤ w3.heap.size := by rw [HS9.out]; exact Nat.le_refl _
  have HO4 := Lib.hid ho4
  have O4 := Lib.hid (show Below lo w w4 from O3.out.trans (hb4.below (Nat.le_refl _) (by omega)))
  have X4 := Lib.hid (hb4.blk HX.out (.inr hhi))
  have HO := Lib.hid (show OutAt w4.heap.size o9 w4 p [] none 0 [] from OutAt.empty (hb4.blk x9 (.inr hh9)) (by omega) (Nat.le_refl _))
  clear ho4 hb4 x9
  go_loopw [7, 15] (fun _ i wr => ∃ (k : Nat) (A' : Option Addr) (c' : Nat) (av : List Value), k ≤ cs.length ∧ i = .int .i64 k ∧ OutAt w4.heap.size o9 wr p ((cs.take k).map fun z => digits z.toNat p) A' c' av ∧ Below o9 w4 wr) (fun _ i _ => cs.length - (intOf i).toNat)
  case atStart => exact ⟨0, none, 0, [], Nat.zero_le _, rfl, by simpa using HO.out, Below.refl _ _⟩
  case round =>
    obtain ⟨k, A', c', av, hk, rfl, hout, hbe⟩ := hrel
    obtain ⟨wi, rfl⟩ : ∃ wi, wi = wr := ⟨_, rfl⟩
    have HOI := Lib.hid hout
    have HBE := Lib.hid hbe
    have hsi := hbe.size
    have hoi := hout.le
    clear hout hbe
    by_cases hlt : k < cs.length
    · obtain ⟨A5, c5, e5, _, hx⟩ := (HO4.out.below HBE.out hh9).rd
      injection e5 with e5 _ e6
      subst e5 e6
      obtain ⟨b, o, rfl, hb, hx⟩ := hx (by omega)
      have k0 : wi.cell? ⟨b, o + k, none⟩ = some (.int .i64 cs[k]) := hx k hlt
      obtain ⟨n, hn1, hn2⟩ := HZ.out k hlt
      rw [hn1] at k0
      obtain ⟨M, hM⟩ : ∃ M, M = (cs.take k).map fun z => digits z.toNat p := ⟨_, rfl⟩
      have HN := Lib.hid (show M ++ [digits n p] = (cs.take (k + 1)).map fun z => digits z.toNat p by
        rw [take_snoc cs k hlt, List.map_append, ← hM, hn1]
        simp)
      have hMl : M.length ≤ k := by rw [hM, List.length_map, List.length_take]; omega
      rw [← hM] at HOI
      have q9 : wi.cell? ⟨o9, 1, none⟩ = some (.slice A' M.length c') := HOI.out.box.cell 1
      clear hM hx hn1
      go_upto_region 6 with fail
      obtain ⟨SS, hSS⟩ : ∃ SS : World → Prop, SS = (fun W => W.cell? ⟨o9, 1, none⟩ = some (.slice A' M.length c')) := ⟨_, rfl⟩
      have HSS := Lib.hid (show ∀ W, Below w4.heap.size wi W → SS W from by
        rw [hSS]
        exact fun W hW => (hW.cell (p := ⟨o9, 1, none⟩) (by simp; omega)).trans q9)
      have HB := Lib.hid (show ∀ W, SS W → (W.cell? ⟨o9, 1, none⟩ = some (.slice A' M.length c') ∧ True) from by rw [hSS]; exact fun W hW => ⟨hW, trivial⟩)
      clear hSS q9 k0
      refine wp_region_rel SS 8 9 (by kernel_rfl) rfl ?_
      obtain ⟨wy, hwy⟩ : ∃ wy, wy = wi.drew := ⟨_, rfl⟩
      have HBY := Lib.hid (show Below wi.heap.size wi wy by rw [hwy]; exact (Below.refl _ _).drew)
      rw [← hwy]
      clear hwy
      have hsy := HBY.out.size
      have S0' := Lib.hid (HSS.out _ (HBY.out.mono hoi))
      refine wpAnyR_pure (i := 0) (oi := _) ?va0 rfl rfl (by kernel_rfl) (by decide) (fun _ _ _ h => h) rfl ?hya0 (fun _ => S0'.out) ?resta0
      case hya0 => (intro W; go_simp; (try with_reducible rfl))
      try simp only [List.setIfInBounds_toArray, List.set_cons_zero, List.set_cons_succ]
      refine wpAnyR_take (i := 1) (oi := _) ?va1 rfl rfl (by kernel_rfl) (fun _ _ _ h => h) rfl ?hya1 S0'.out ?resta1
      case hya1 => (intro W hW; obtain ⟨E0, _⟩ := HB.out W hW; go_simp; (try with_reducible rfl))
      try simp only [List.setIfInBounds_toArray, List.set_cons_zero, List.set_cons_succ]
      refine wpAnyR_pure (i := 2) (oi := _) ?va2 rfl rfl (by kernel_rfl) (by decide) (fun _ _ _ h => h) rfl ?hya2 (fun _ => S0'.out) ?resta2
      case hya2 => (intro W; go_simp; (try with_reducible rfl))
      try simp only [List.setIfInBounds_toArray, List.set_cons_zero, List.set_cons_succ]
      refine wpAnyR_pure (i := 3) (oi := _) ?va3 rfl rfl (by kernel_rfl) (by decide) (fun _ _ _ h => h) rfl ?hya3 (fun _ => S0'.out) ?resta3
      case hya3 => (intro W; go_simp; (try with_reducible rfl))
      try simp only [List.setIfInBounds_toArray, List.set_cons_zero, List.set_cons_succ]
      refine wpAnyR_one (i := 4) (by kernel_rfl) rfl (fun K hK => ?_)
      try rw [if_pos (show Region.wanted _ _ = true from rfl)]
      go_simp
      refine (constantDigits_six n p wy hn2 hp).mono ?_
      rintro e W5 ⟨A6, c6, rfl, ho6, hb6⟩
      have HO7 := Lib.hid (show OwnInts W5 wi.heap.size W5.heap.size (.slice A6 p c6) (digits n p) ∧ Below wi.heap.size wi W5 from ⟨ho6.mono HBY.out.size (Nat.le_refl _), bthen HBY.out hb6⟩)
      have S2 := Lib.hid (HSS.out _ (HO7.out.2.mono hoi))
      obtain ⟨rw', hrw'⟩ : ∃ r, r = digits n p := ⟨_, rfl⟩
      rw [← hrw'] at HO7 HN
      clear hrw' ho6 hb6
      refine hK.out _ _ (fun _ => S2.out) ?_
      clear hK K
      try simp only [List.setIfInBounds_toArray, List.set_cons_zero, List.set_cons_succ, Act.put]
      refine wpAnyR_one (i := 5) (by kernel_rfl) rfl (fun K hK => ?_)
      try rw [if_pos (show Region.wanted _ _ = true from rfl)]
      go_simp
      have S3 := Lib.hid (HSS.out _ ((bthen HO7.out.2 (below1 W5 (Obj.cells #[Value.slice A6 p c6] 42))).mono hoi))
      refine hK.out _ _ (fun _ => S3.out) ?_
      clear hK K
      try simp only [List.setIfInBounds_toArray, List.set_cons_zero, List.set_cons_succ, Act.put]
      refine wpAnyR_one (i := 6) (by kernel_rfl) rfl (fun K hK => ?_)
      refine step_append_lies _ rfl (.tmp 20) (.tmp 24) 22 rfl w4.heap.size 42 i0 (.slice none 0 0) 1 24 Try.underlying22 hi0 hz0 hz1 hz2 rfl (by decide) (.slice A' M.length c') M.length av rfl ?c1 ⟨W5.heap.size, 0, none⟩ 1 1 [.slice A6 p c6] rfl rfl ?c4 ?c2 (by omega) (by unfold maxLen; omega) (by omega) ?c3 _ rfl ?c5
      case c1 => exact (HOI.out.on HO7.out.2).row.alloc _
      case c4 => exact World.news_of_block (cs := #[.slice A6 p c6]) (heap_alloc_new W5 _)
      case c2 => intro u hu; simp at hu; subst hu; rfl
      case c3 => have := HO7.out.2.size; simp; omega
      case c5 =>
      intro g2 cap w7 hown hgr hat _
      have hpush := HOI.out.push (xs := rw') HO7.out.2 HO7.out.1 hgr hown
      have hgrown := HOI.out.grown HO7.out.2 hgr
      have S4 := Lib.hid (HSS.out w7 hgrown)
      have hbx := HOI.out.box.below hgrown (by omega)
      have g1 : w7.cell? ⟨o9, 1, none⟩ = some (.slice A' M.length c') := hbx.cell 1
      have g1f := hbx.frozen 1
      have HPU := Lib.hid hpush
      clear hpush hown hgr hat hgrown hbx
      refine hK.out _ _ (fun _ => S4.out) ?_
      clear hK K
      try simp only [List.setIfInBounds_toArray, Act.put]
      refine wpAnyR_pure (i := 7) (oi := _) ?vb8 rfl rfl (by kernel_rfl) (by decide) (fun _ _ _ h => h) rfl ?hyb8 (fun _ => S4.out) ?restb8
      case hyb8 => (intro W; go_simp; (try with_reducible rfl))
      try simp only [List.setIfInBounds_toArray, List.set_cons_zero, List.set_cons_succ]
      refine wpAnyR_one (i := 8) (by kernel_rfl) rfl (fun K hK => ?_)
      go_simp
      refine hK.out _ _ (fun hf => absurd hf (by decide)) ?_
      clear hK K
      refine wpAnyR_done (by kernel_rfl) ?_
      go_wp2_with fail
      go_roundw
      case rel => exact ⟨k + 1, _, _, _, by omega, by go_num, by rw [← HN.out]; exact HPU.out.1, HBE.out.trans HPU.out.2⟩
      case measure => simp [intOf]; omega
    · have hkn : k = cs.length := by omega
      obtain ⟨M, hM⟩ : ∃ M, M = (cs.take k).map fun z => digits z.toNat p := ⟨_, rfl⟩
      have HN := Lib.hid (show numRows zs p = M by rw [hM, HR.out, hkn, List.take_length])
      rw [← hM] at HOI
      have z1 := X4.out.below HBE.out h09
      have b1c0 : wi.cell? ⟨w.heap.size, 0, none⟩ = some (.int .i64 0) := z1.cell 0
      have b1c1 : wi.cell? ⟨w.heap.size, 1, none⟩ = some (.slice none 0 0) := z1.cell 1
      have b1f0 := z1.frozen 0
      have b1f1 := z1.frozen 1
      have d0 : wi.cell? ⟨o9, 0, none⟩ = some (.int .i64 p) := HOI.out.box.cell 0
      have d1 : wi.cell? ⟨o9, 1, none⟩ = some (.slice A' M.length c') := HOI.out.box.cell 1
      clear hkn z1 hM
      go_wp2_with fail
      refine bodyPost_ret (v := .agg #[.int .i64 p, .slice A' M.length c']) (by simp [results, Try.results59, go_sem, b1c0, b1c1]) rfl ?_
      rw [HN.out]
      refine ⟨A', c', rfl, ?_, ((O4.out.trans (HBE.out.mono hl9)).setCell (by simp <;> omega) _).setCell (by simp <;> omega) _⟩
      have hrw := HOI.out.rows
      have h1 := (hrw.only (Only.setCell (Only.refl 0 (w.heap.size + 1) wi) (p := ⟨w.heap.size, 0, none⟩) ⟨Nat.zero_le _, by simp⟩ (.int .i64 p)) (.inr (by omega)))
      have h2 := (h1.only (Only.setCell (Only.refl 0 (w.heap.size + 1) _) (p := ⟨w.heap.size, 1, none⟩) ⟨Nat.zero_le _, by simp⟩ (.slice A' M.length c')) (.inr (by omega)))
      exact h2.mono (by omega) (by simp)

end Go.Proofs.Ytchincemlilnoaa
/-
  The relation of a loop that collects facts.
-/
namespace Go.Proofs.Ytchincemlilnoaa
open Go.RowKit

/-- One fact more, behind append. -/
theorem OwnFA.push {wr w2 w4 : World} {lo hi : Nat} {v v' a : Value} {gs : List LFact} {av : List Value} {f : LFact} {o : Obj} (h : OwnFA wr lo hi v gs av) (hhi : hi ≤ wr.heap.size) (hlo : lo ≤ hi) (hb : Below wr.heap.size wr w2)
    (ha : OwnInts w2 wr.heap.size w2.heap.size a f.2) (hg : (w2.alloc o).grownBy w4 v.ownBlock) (hown : w4.ownsRow lo 65 2 v' (gs.length + 1) (flat gs av ++ [.int .i64 f.1, a])) : OwnFacts w4 lo w4.heap.size v' (gs ++ [f]) := by
  have hg' := grown_from_alloc hg
  have hlen : av.length = gs.length := by simpa using h.args.len
  have hrow2 := ownsRow_below h.row h.lt hb hhi
  have hargs2 : OwnArgs w2 lo w2.heap.size (av ++ [a]) (gs.map (·.2) ++ [f.2]) := ((h.args.below hb hhi).mono (Nat.le_refl _) hhi).snoc ha (by omega) hb.size
  refine ⟨av ++ [a], ⟨by simp [hlen], fun i h1 h2 => ?_, hargs2.apart⟩, ?_, fun g hg2 => (hown.lt g hg2).2⟩
  · have h0 := hargs2.own i (by simpa using h1) h2
    have hz : ((gs ++ [f]).map (·.2))[i] = (gs.map (·.2) ++ [f.2])[i]'(by simpa using h1) := by simp
    rw [hz]
    refine (h0.kept fun b hbk => hg'.block b (h0.lt hbk).2.2 (fun e => types_ne hrow2 e.symm h0 hbk)).mono (Nat.le_refl _) ?_
    exact hg'.size
  · rw [flat_snoc _ _ hlen, List.length_append, List.length_singleton]
    exact hown

/-- The relation of a loop that collects facts. -/
structure ColRel (w wr : World) (gs : List LFact) (A : Option Addr) (c : Nat) (av : List Value) : Prop where
  below : Below w.heap.size w wr
  own : OwnFA wr w.heap.size wr.heap.size (.slice A gs.length c) gs av

theorem ColRel.nil (w : World) : ColRel w w [] none 0 [] := ⟨Below.refl _ _, ⟨.nil, World.ownsRow_nil _ _ _ _, fun g hg => by cases hg⟩⟩

theorem ColRel.empty (w : World) : ColRel w (w.alloc (.cells #[] 65)) [] (some ⟨w.heap.size, 0, none⟩) 0 [] :=
  ⟨below1 _ _, ⟨.nil, World.ownsRow_made w #[] 0 (Nat.le_refl _) (by decide) rfl, fun g hg => by simp [Value.ownBlock] at hg; subst hg; simp⟩⟩

theorem news2 (w : World) (x y : Value) (t : TypeId) : ∀ j u, [x, y][j]? = some u → (w.alloc (.cells #[x, y] t)).cell? ((⟨w.heap.size, 0, none⟩ : Addr).add j) = some u := World.news_of_block (cs := #[x, y]) (heap_alloc_new w _)

/-- .. and one fact more in its relation. -/
theorem ColRel.push {w wr w2 w4 : World} {gs gs' : List LFact} {A : Option Addr} {c g cap : Nat} {av : List Value} {f : LFact} {a : Value} {o : Obj} (h : ColRel w wr gs A c av) (e : gs' = gs ++ [f]) (hb : Below wr.heap.size wr w2)
    (ha : OwnInts w2 wr.heap.size w2.heap.size a f.2) (hg : (w2.alloc o).grownBy w4 (Value.slice A gs.length c).ownBlock) (hown : w4.ownsRow w.heap.size 65 2 (.slice (some ⟨g, 0, none⟩) (gs.length + 1) cap) (gs.length + 1) (flat gs av ++ [.int .i64 f.1, a])) :
    ∃ av', ColRel w w4 gs' (some ⟨g, 0, none⟩) cap av' ∧ gs.length + 1 = gs'.length := by
  subst e
  obtain ⟨av', h1, h2, h3⟩ := h.own.push (Nat.le_refl _) h.below.size hb ha hg hown
  have hl : gs.length + 1 = (gs ++ [f]).length := by simp
  refine ⟨av', ⟨((bthen h.below hb).alloc (bthen h.below hb).size _).grown hg (by have := (bthen h.below hb).size; simp; omega) (fun k hk => (h.own.row.lt k hk).1), ?_⟩, hl⟩
  rw [← hl]
  exact ⟨h1, h2, h3⟩

/-- A world that only grew keeps the relation. -/
theorem ColRel.on {w wr w2 : World} {gs : List LFact} {A : Option Addr} {c : Nat} {av : List Value} (h : ColRel w wr gs A c av) (hb : Below wr.heap.size wr w2) : ColRel w w2 gs A c av :=
  ⟨bthen h.below hb, ⟨(h.own.args.below hb (Nat.le_refl _)).mono (Nat.le_refl _) hb.size, ownsRow_below h.own.row h.own.lt hb (Nat.le_refl _), fun g hg => Nat.lt_of_lt_of_le (h.own.lt g hg) hb.size⟩⟩

end Go.Proofs.Ytchincemlilnoaa
/-
  The walk of the specification's FactsWith.
-/
namespace Go.Proofs.Ytchincemlilnoaa
open Go.RowKit

/-- append of one copied fact onto the row that a loop collects. -/
theorem wpList_push {ops : Array Oper} {rest : List Oper} {op : Oper} {a : Act} {Q : Exit → Act → World → Prop} (hgd : op.guard = none) (s x : Operand)
    (ho : op.op = .call { callee := .builtin .append, args := #[s, x], argTypes := #[34, 34] })
    {w wr w2 : World} {gs : List LFact} {A A4 : Option Addr} {c c4 : Nat} {av : List Value} {f : LFact} (h : ColRel w wr gs A c av) (hb : Below wr.heap.size wr w2) (ha : OwnInts w2 wr.heap.size w2.heap.size (.slice A4 f.2.length c4) f.2)
    {n : Nat} (hnl : n = gs.length) (hs : a.eval s = .slice A n c) (hx : a.eval x = .slice (some ⟨w2.heap.size, 0, none⟩) 1 1) (hn : gs.length ≤ 1073741824)
    (K : ∀ g cap w4 av', ColRel w w4 (gs ++ [f]) (some ⟨g, 0, none⟩) cap av' → w2.grownBy w4 (Value.slice A gs.length c).ownBlock → wpList Try.prog ops Q rest (a.put op.dst (.slice (some ⟨g, 0, none⟩) (n + 1) cap)) w4) :
    wpList Try.prog ops Q (op :: rest) a (w2.alloc (.cells #[.int .i64 f.1, .slice A4 f.2.length c4] 65)) := by
  subst hnl
  obtain ⟨i0, hi0, hz0, hz1, hz2⟩ := info_parts Try.infoFact
  refine wpList_append_lies _ hgd s x 34 ho w.heap.size 65 i0 (.agg #[.int .i64 0, .slice none 0 0]) 2 32 Try.underlying34 hi0 hz0 hz1 hz2 rfl (by decide) (.slice A gs.length c) gs.length (flat gs av) hs ?_ ⟨w2.heap.size, 0, none⟩ 1 1 [.int .i64 f.1, .slice A4 f.2.length c4] hx rfl (news2 _ _ _ _) ?_ (by omega) (by unfold maxLen; omega) (by omega) ?_ _ rfl ?_
  · exact (ownsRow_below h.own.row h.own.lt hb (Nat.le_refl _)).alloc _
  · intro u hu
    simp at hu
    rcases hu with rfl | rfl <;> rfl
  · have := h.below.size
    have := hb.size
    simp
    omega
  intro g cap w4 hown hg _ _
  obtain ⟨av', hcol, _⟩ := h.push rfl hb ha hg hown
  exact K g cap w4 av' hcol (grown_from_alloc hg)

def withStep (f : LFact) (s : List LFact × Bool) (g : LFact) : List LFact × Bool :=
  ((if s.2 = false ∧ factOrder f g ≤ 0 then s.1 ++ [f] else s.1) ++ (if factOrder f g = 0 then [] else [g]), s.2 || decide (factOrder f g ≤ 0))
def withTo (fs : List LFact) (f : LFact) (k : Nat) : List LFact × Bool := (fs.take k).foldl (withStep f) ([], false)
def factsWith (fs : List LFact) (f : LFact) : List LFact := if (withTo fs f fs.length).2 then (withTo fs f fs.length).1 else (withTo fs f fs.length).1 ++ [f]
theorem withTo_step {fs : List LFact} {f : LFact} {k : Nat} (h : k < fs.length) : withTo fs f (k + 1) = withStep f (withTo fs f k) fs[k] := by
  unfold withTo
  rw [take_snoc fs k h, List.foldl_append]
  rfl
theorem withTo_bound (fs : List LFact) (f : LFact) : ∀ k, k ≤ fs.length → (withTo fs f k).1.length ≤ k + (if (withTo fs f k).2 then 1 else 0) ∧ tot (withTo fs f k).1 ≤ tot (fs.take k) + (if (withTo fs f k).2 then f.2.length else 0)
  | 0, _ => by simp [withTo, tot]
  | k + 1, hk => by
    have ih := withTo_bound fs f k (by omega)
    rw [withTo_step (by omega), tot_take fs k (by omega)]
    obtain ⟨h1, h2⟩ := ih
    unfold withStep
    cases hp : (withTo fs f k).2 <;> by_cases h0 : factOrder f fs[k] = 0 <;> by_cases hle : factOrder f fs[k] ≤ 0 <;> simp [hp, h0, hle, tot_append, tot_cons] at h1 h2 ⊢ <;> simp [tot] at h2 ⊢ <;> omega

theorem factsWith_bound (fs : List LFact) (f : LFact) : (factsWith fs f).length ≤ fs.length + 1 ∧ tot (factsWith fs f) ≤ tot fs + f.2.length := by
  have h := withTo_bound fs f fs.length (Nat.le_refl _)
  rw [List.take_length] at h
  unfold factsWith
  cases hp : (withTo fs f fs.length).2 <;> simp [hp, tot_append, tot_cons] at h ⊢ <;> simp [tot] at h ⊢ <;> omega

end Go.Proofs.Ytchincemlilnoaa
/-
  Facts in order, plain mathematics: the order, lists that ascend, FactsWith on them, and that their members determine them.
-/
namespace Go.Proofs.Ytchincemlilnoaa

theorem cmpI_neg {a b : Int} : cmpI a b < 0 ↔ a < b := by
  unfold cmpI
  split
  · simp; assumption
  · split <;> simp <;> omega
theorem cmpI_pos {a b : Int} : 0 < cmpI a b ↔ b < a := by
  unfold cmpI
  split
  · simp; omega
  · split <;> simp <;> omega
theorem cmpL_eq : ∀ {xs ys : List Int}, cmpL xs ys = 0 → xs = ys
  | [], [], _ => rfl
  | [], _ :: _, h => by simp [cmpL] at h
  | _ :: _, [], h => by simp [cmpL] at h
  | x :: xs, y :: ys, h => by
    unfold cmpL at h
    split at h
    · rename_i e
      rw [e, cmpL_eq h]
    · exact absurd (cmpI_zero h) (by assumption)
theorem cmpL_refl : ∀ xs : List Int, cmpL xs xs = 0
  | [] => rfl
  | x :: xs => by simp [cmpL, cmpL_refl xs]
theorem cmpL_flip : ∀ {xs ys : List Int}, cmpL xs ys < 0 ↔ 0 < cmpL ys xs
  | [], [] => by simp [cmpL]
  | [], _ :: _ => by simp [cmpL]
  | _ :: _, [] => by simp [cmpL]
  | x :: xs, y :: ys => by
    unfold cmpL
    by_cases e : x = y
    · subst e
      simpa using cmpL_flip
    · rw [if_neg e, if_neg (fun h => e h.symm), cmpI_neg, cmpI_pos]
theorem cmpL_less : ∀ {xs ys zs : List Int}, cmpL xs ys < 0 → cmpL ys zs < 0 → cmpL xs zs < 0
  | [], [], _, h, _ => by simp [cmpL] at h
  | [], _ :: _, [], _, h => by simp [cmpL] at h
  | [], _ :: _, _ :: _, _, _ => by simp [cmpL]
  | _ :: _, [], _, h, _ => by simp [cmpL] at h
  | _ :: _, _ :: _, [], _, h => by simp [cmpL] at h
  | x :: xs, y :: ys, z :: zs, h1, h2 => by
    unfold cmpL at h1 h2 ⊢
    by_cases e1 : x = y
    · subst e1
      by_cases e2 : x = z
      · simp only [e2, if_true] at h1 h2 ⊢
        exact cmpL_less h1 h2
      · simpa [e2] using h2
    · by_cases e2 : y = z
      · subst e2
        simpa [e1] using h1
      · rw [if_neg e1] at h1
        rw [if_neg e2] at h2
        rw [cmpI_neg] at h1 h2
        rw [if_neg (by omega), cmpI_neg]
        omega

theorem order_eq {f g : LFact} (h : factOrder f g = 0) : f = g := by
  unfold factOrder at h
  split at h
  · exact Prod.ext (by assumption) (cmpL_eq h)
  · exact absurd (cmpI_zero h) (by assumption)
theorem order_refl (f : LFact) : factOrder f f = 0 := by simp [factOrder, cmpL_refl]
theorem order_flip {f g : LFact} : factOrder f g < 0 ↔ 0 < factOrder g f := by
  unfold factOrder
  by_cases e : f.1 = g.1
  · rw [if_pos e, if_pos e.symm]
    exact cmpL_flip
  · rw [if_neg e, if_neg (fun h => e h.symm), cmpI_neg, cmpI_pos]
theorem order_less {f g h : LFact} (h1 : factOrder f g < 0) (h2 : factOrder g h < 0) : factOrder f h < 0 := by
  unfold factOrder at h1 h2 ⊢
  by_cases e1 : f.1 = g.1
  · by_cases e2 : g.1 = h.1
    · rw [if_pos e1] at h1
      rw [if_pos e2] at h2
      rw [if_pos (e1.trans e2)]
      exact cmpL_less h1 h2
    · rw [if_neg e2] at h2
      rw [if_neg (fun e => e2 (e1.symm.trans e)), e1]
      exact h2
  · by_cases e2 : g.1 = h.1
    · rw [if_neg e1] at h1
      rw [if_neg (fun e => e1 (e.trans e2.symm)), ← e2]
      exact h1
    · rw [if_neg e1, cmpI_neg] at h1
      rw [if_neg e2, cmpI_neg] at h2
      rw [if_neg (by omega), cmpI_neg]
      omega
theorem order_cases (f g : LFact) : factOrder f g < 0 ∨ f = g ∨ factOrder g f < 0 := by
  rcases Int.lt_trichotomy (factOrder f g) 0 with h | h | h
  · exact .inl h
  · exact .inr (.inl (order_eq h))
  · exact .inr (.inr (order_flip.2 h))

/-- The list ascends, each fact once. -/
def Asc (l : List LFact) : Prop := l.Pairwise fun f g => factOrder f g < 0

/-- Lists that ascend and have the same members are the same. -/
theorem Asc.unique : ∀ {l m : List LFact}, Asc l → Asc m → (∀ f, f ∈ l ↔ f ∈ m) → l = m
  | [], [], _, _, _ => rfl
  | [], g :: m, _, _, h => absurd ((h g).2 (List.mem_cons_self ..)) (by simp)
  | f :: l, [], _, _, h => absurd ((h f).1 (List.mem_cons_self ..)) (by simp)
  | f :: l, g :: m, hl, hm, h => by
    have hl' := List.pairwise_cons.1 hl
    have hm' := List.pairwise_cons.1 hm
    have e : f = g := by
      rcases List.mem_cons.1 ((h f).1 (List.mem_cons_self ..)) with e | e
      · exact e
      rcases List.mem_cons.1 ((h g).2 (List.mem_cons_self ..)) with e' | e'
      · exact e'.symm
      have h1 := hm'.1 f e
      have h2 := hl'.1 g e'
      have := order_less h1 h2
      rw [order_refl] at this
      omega
    subst e
    refine congrArg (f :: ·) (Asc.unique hl'.2 hm'.2 fun x => ⟨fun hx => ?_, fun hx => ?_⟩)
    · rcases List.mem_cons.1 ((h x).1 (List.mem_cons_of_mem _ hx)) with e | e
      · subst e
        have := hl'.1 x hx
        rw [order_refl] at this
        omega
      · exact e
    · rcases List.mem_cons.1 ((h x).2 (List.mem_cons_of_mem _ hx)) with e | e
      · subst e
        have := hm'.1 x hx
        rw [order_refl] at this
        omega
      · exact e

/-- Insertion. -/
def ins (f : LFact) : List LFact → List LFact
  | [] => [f]
  | g :: l => if factOrder f g < 0 then f :: g :: l else if factOrder f g = 0 then f :: l else g :: ins f l

theorem ins_mem (f : LFact) : ∀ (l : List LFact) (x : LFact), x ∈ ins f l ↔ x = f ∨ x ∈ l
  | [], x => by simp [ins]
  | g :: l, x => by
    unfold ins
    split
    · simp
    · split
      · have e := order_eq (by assumption : factOrder f g = 0)
        subst e
        simp
      · simp [ins_mem f l x]
        constructor
        · rintro (h | h | h) <;> simp [h]
        · rintro (h | h | h) <;> simp [h]
theorem Asc.ins {f : LFact} : ∀ {l : List LFact}, Asc l → Asc (ins f l)
  | [], _ => by simp [Go.Proofs.Ytchincemlilnoaa.ins, Asc]
  | g :: l, h => by
    have h' := List.pairwise_cons.1 h
    unfold Go.Proofs.Ytchincemlilnoaa.ins
    split
    · rename_i hlt
      refine List.pairwise_cons.2 ⟨fun x hx => ?_, h⟩
      rcases List.mem_cons.1 hx with e | e
      · rw [e]; exact hlt
      · exact order_less hlt (h'.1 x e)
    · split
      · have e := order_eq (by assumption : factOrder f g = 0)
        subst e
        exact h
      · refine List.pairwise_cons.2 ⟨fun x hx => ?_, Asc.ins h'.2⟩
        rcases (ins_mem f l x).1 hx with e | e
        · subst e
          rcases order_cases x g with h1 | h1 | h1
          · exact absurd h1 (by assumption)
          · subst h1
            exact absurd (order_refl x) (by assumption)
          · exact h1
        · exact h'.1 x e

/-- FactsWith's fold, from a state where the fact is placed already and the rest ascends behind it. -/
theorem withStep_placed (f : LFact) : ∀ (l : List LFact) (out : List LFact), (∀ g ∈ l, factOrder f g ≠ 0) → l.foldl (withStep f) (out, true) = (out ++ l, true)
  | [], out, _ => by simp
  | g :: l, out, h => by
    have h0 := h g (List.mem_cons_self ..)
    simp only [List.foldl_cons, withStep]
    simp [h0]
    rw [withStep_placed f l (out ++ [g]) fun x hx => h x (List.mem_cons_of_mem _ hx)]
    simp

def endW (f : LFact) (s : List LFact × Bool) : List LFact := if s.2 then s.1 else s.1 ++ [f]
theorem withStep_fold (f : LFact) : ∀ (l : List LFact) (out : List LFact), Asc l → endW f (l.foldl (withStep f) (out, false)) = out ++ ins f l
  | [], out, _ => by simp [ins, endW]
  | g :: l, out, h => by
    have h' := List.pairwise_cons.1 h
    simp only [List.foldl_cons]
    rcases Int.lt_trichotomy (factOrder f g) 0 with h1 | h1 | h1
    · have e : withStep f (out, false) g = (out ++ [f] ++ [g], true) := by
        simp [withStep, show factOrder f g ≤ 0 by omega, show factOrder f g ≠ 0 by omega]
      rw [e, withStep_placed f l _ fun x hx => by have := order_less h1 (h'.1 x hx); omega]
      simp [ins, h1, endW]
    · have e : withStep f (out, false) g = (out ++ [f], true) := by
        simp [withStep, h1]
      have e2 := order_eq h1
      subst e2
      rw [e, withStep_placed f l _ fun x hx => by have := h'.1 x hx; omega]
      simp [ins, order_refl, endW]
    · have e : withStep f (out, false) g = (out ++ [g], false) := by
        simp [withStep, show ¬ factOrder f g ≤ 0 by omega, show factOrder f g ≠ 0 by omega]
      rw [e, withStep_fold f l _ h'.2]
      simp [ins, show ¬ factOrder f g < 0 by omega, show factOrder f g ≠ 0 by omega]

/-- FactsWith on a list that ascends is insertion. -/
theorem Asc.with_ {l : List LFact} (h : Asc l) (f : LFact) : factsWith l f = Go.Proofs.Ytchincemlilnoaa.ins f l := by
  have := withStep_fold f l [] h
  unfold endW at this
  unfold factsWith withTo
  rw [List.take_length]
  simpa using this

/-- Facts laid into a list, one after another. -/
def setOf (l : List LFact) : List LFact := l.foldl factsWith []
theorem foldWith : ∀ (l : List LFact) (out : List LFact), Asc out → Asc (l.foldl factsWith out) ∧ ∀ x, x ∈ l.foldl factsWith out ↔ x ∈ out ∨ x ∈ l
  | [], out, h => by simpa using h
  | f :: l, out, h => by
    have h1 : Asc (factsWith out f) := by rw [h.with_ f]; exact h.ins
    obtain ⟨h2, h3⟩ := foldWith l _ h1
    refine ⟨h2, fun x => ?_⟩
    rw [List.foldl_cons, h3 x, h.with_ f, ins_mem]
    simp only [List.mem_cons]
    constructor
    · rintro ((h | h) | h) <;> simp [h]
    · rintro (h | h | h) <;> simp [h]
theorem setOf_asc (l : List LFact) : Asc (setOf l) := (foldWith l [] List.Pairwise.nil).1
theorem setOf_mem (l : List LFact) (x : LFact) : x ∈ setOf l ↔ x ∈ l := by
  rw [setOf, (foldWith l [] List.Pairwise.nil).2 x]
  simp

/-- The list ascends, a fact perhaps more than once. -/
def Up (l : List LFact) : Prop := l.Pairwise fun f g => factOrder f g ≤ 0
/-- Of equal neighbours the last one. -/
def compactL : List LFact → List LFact
  | [] => []
  | [f] => [f]
  | f :: g :: l => if factOrder f g = 0 then compactL (g :: l) else f :: compactL (g :: l)
theorem compactL_mem : ∀ (l : List LFact) (x : LFact), x ∈ compactL l ↔ x ∈ l
  | [], x => by simp [compactL]
  | [f], x => by simp [compactL]
  | f :: g :: l, x => by
    unfold compactL
    split
    · have e := order_eq (by assumption : factOrder f g = 0)
      subst e
      rw [compactL_mem (f :: l) x]
      simp
    · rw [List.mem_cons, compactL_mem (g :: l) x]
      simp
theorem Up.asc : ∀ {l : List LFact}, Up l → Asc (compactL l)
  | [], _ => List.Pairwise.nil
  | [f], _ => by simp [compactL, Asc]
  | f :: g :: l, h => by
    have h' := List.pairwise_cons.1 h
    unfold compactL
    split
    · exact Up.asc h'.2
    · refine List.pairwise_cons.2 ⟨fun x hx => ?_, Up.asc h'.2⟩
      rw [compactL_mem] at hx
      have hfg : factOrder f g < 0 := by
        have := h'.1 g (List.mem_cons_self ..)
        omega
      rcases List.mem_cons.1 hx with e | e
      · rw [e]; exact hfg
      · have h2 := (List.pairwise_cons.1 h'.2).1 x e
        rcases Int.lt_trichotomy (factOrder g x) 0 with h3 | h3 | h3
        · exact order_less hfg h3
        · rw [← order_eq h3]; exact hfg
        · omega

/-- Sorted and compacted, and laid one after another: the same. -/
theorem compact_setOf {s l : List LFact} (h : Up s) (hm : ∀ x, x ∈ s ↔ x ∈ l) : compactL s = setOf l :=
  h.asc.unique (setOf_asc l) fun x => by rw [compactL_mem, setOf_mem, hm]
theorem compact_filter {s l : List LFact} (h : Up s) (hm : ∀ x, x ∈ s ↔ x ∈ l) (p : LFact → Bool) : (compactL s).filter p = setOf (l.filter p) :=
  Asc.unique (h.asc.filter p) (setOf_asc _) fun x => by rw [List.mem_filter, compactL_mem, setOf_mem, List.mem_filter, hm]

end Go.Proofs.Ytchincemlilnoaa
/-
  Rows of constants and their numbers: plain mathematics.
-/
namespace Go.Proofs.Ytchincemlilnoaa
open Go.RowKit

theorem numF_from (xs : List Int) : ∀ n : Nat, xs.foldl (fun n c => n * 6 + c.toNat) n = n * 6 ^ xs.length + numF xs := by
  unfold numF
  induction xs with
  | nil => intro n; simp
  | cons x xs ih =>
    intro n
    rw [List.foldl_cons, List.foldl_cons, ih, ih (0 * 6 + x.toNat), List.length_cons, Nat.pow_succ]
    rw [Nat.add_mul, Nat.zero_mul, Nat.zero_add, ← Nat.mul_assoc, Nat.mul_assoc n 6, Nat.mul_comm 6, ← Nat.mul_assoc]
    omega
theorem numF_cons (x : Int) (xs : List Int) : numF (x :: xs) = x.toNat * 6 ^ xs.length + numF xs := by
  have h := numF_from xs (0 * 6 + x.toNat)
  simp only [Nat.zero_mul, Nat.zero_add] at h
  rw [← h]
  simp [numF]
theorem numF_lt_pow {xs : List Int} (hc : xs.all constOk = true) : numF xs < 6 ^ xs.length := by
  have h := numF_lt hc xs.length (Nat.le_refl _)
  rwa [List.take_length] at h
theorem const_cons {x : Int} {xs : List Int} (h : (x :: xs).all constOk = true) : (0 ≤ x ∧ x ≤ 5) ∧ xs.all constOk = true := by
  rw [List.all_cons, Bool.and_eq_true] at h
  exact ⟨by simpa [constOk] using h.1, h.2⟩
/-- The order of rows as wide as each other is that of their numbers. -/
theorem numF_up : ∀ {xs ys : List Int}, xs.all constOk = true → ys.all constOk = true → xs.length = ys.length → cmpL xs ys < 0 → numF xs < numF ys
  | [], [], _, _, _, h => by simp [cmpL] at h
  | [], _ :: _, _, _, h, _ => by simp at h
  | _ :: _, [], _, _, h, _ => by simp at h
  | x :: xs, y :: ys, hx, hy, hl, h => by
    obtain ⟨hx1, hx2⟩ := const_cons hx
    obtain ⟨hy1, hy2⟩ := const_cons hy
    have hl2 : xs.length = ys.length := by simpa using hl
    rw [numF_cons, numF_cons, hl2]
    by_cases e : x = y
    · subst e
      rw [cmpL, if_pos rfl] at h
      have := numF_up hx2 hy2 hl2 h
      omega
    · rw [cmpL, if_neg e] at h
      have hlt : x < y := by
        unfold cmpI at h
        by_cases h1 : x < y
        · exact h1
        · rw [if_neg h1] at h
          split at h <;> omega
      have h1 := numF_lt_pow hx2
      rw [hl2] at h1
      have h2 : (x.toNat + 1) * 6 ^ ys.length ≤ y.toNat * 6 ^ ys.length := Nat.mul_le_mul_right _ (by omega)
      rw [Nat.add_mul] at h2
      omega
theorem numF_inj6 {xs ys : List Int} (hx : xs.all constOk = true) (hy : ys.all constOk = true) (hl : xs.length = ys.length) (e : numF xs = numF ys) : xs = ys := by
  rcases Int.lt_trichotomy (cmpL xs ys) 0 with h | h | h
  · have := numF_up hx hy hl h
    omega
  · exact cmpL_eq h
  · have := numF_up hy hx hl.symm (cmpL_flip.2 h)
    omega
theorem digits_cons {x a p : Nat} (hx : x < 6) (ha : a < 6 ^ p) : digits (x * 6 ^ p + a) (p + 1) = (x : Int) :: digits a p := by
  have hp : 0 < 6 ^ p := Nat.pow_pos (by decide)
  unfold digits
  rw [List.range_succ_eq_map, List.map_cons, List.map_map]
  congr 1
  · simp only [Nat.add_sub_cancel, Nat.sub_zero]
    rw [Nat.add_comm, Nat.add_mul_div_right _ _ hp, Nat.div_eq_of_lt ha, Nat.zero_add, Nat.mod_eq_of_lt hx]
  · apply List.map_congr_left
    intro j hj
    have hj2 : j < p := by simpa using hj
    simp only [Function.comp]
    congr 1
    obtain ⟨q, rfl⟩ : ∃ q, p = q + (j + 1) := ⟨p - (j + 1), by omega⟩
    have e1 : q + (j + 1) + 1 - 1 - (j + 1) = q := by omega
    have e2 : q + (j + 1) - 1 - j = q := by omega
    have hq : 0 < 6 ^ q := Nat.pow_pos (by decide)
    rw [e1, e2, Nat.pow_add, Nat.add_comm, show x * (6 ^ q * 6 ^ (j + 1)) = (x * 6 ^ (j + 1)) * 6 ^ q by rw [Nat.mul_comm (6 ^ q), Nat.mul_assoc], Nat.add_mul_div_right _ _ hq, Nat.pow_succ, ← Nat.mul_assoc, Nat.add_mul_mod_self_right]
theorem digits_numF6 : ∀ {xs : List Int}, xs.all constOk = true → digits (numF xs) xs.length = xs
  | [], _ => by simp [digits]
  | x :: xs, h => by
    obtain ⟨h1, h2⟩ := const_cons h
    rw [numF_cons, List.length_cons, digits_cons (by omega) (numF_lt_pow h2), digits_numF6 h2]
    congr 1
    omega

end Go.Proofs.Ytchincemlilnoaa
/-
  A row into rows in order, once (as in SolveS, for seats that have no more); the rows that numbers name.
-/
namespace Go.Proofs.Ytchincemlilnoaa
open Go.RowKit

/-- A row into rows, once. -/
def atB : List (List Int) → List Int → Nat
  | [], _ => 0
  | s :: S, b => if cmpL b s < 0 then 0 else atB S b + 1
theorem atB_spec : ∀ (S : List (List Int)) (b : List Int), atB S b ≤ S.length ∧ (∀ j (h : j < S.length), j < atB S b → ¬ cmpL b S[j] < 0) ∧ (atB S b = S.length ∨ ∃ h : atB S b < S.length, cmpL b S[atB S b] < 0)
  | [], _ => ⟨Nat.le_refl _, fun j h => absurd h (by simp), .inl rfl⟩
  | s :: S, b => by
    obtain ⟨h1, h2, h3⟩ := atB_spec S b
    by_cases e : cmpL b s < 0
    · have ea : atB (s :: S) b = 0 := if_pos e
      rw [ea]
      exact ⟨Nat.zero_le _, fun j _ h => absurd h (by omega), .inr ⟨by simp, by simpa using e⟩⟩
    · have ea : atB (s :: S) b = atB S b + 1 := if_neg e
      simp only [ea]
      refine ⟨by simpa using h1, fun j hj hlt => ?_, ?_⟩
      · rcases j with _ | j
        · exact e
        · exact h2 j (by simpa using hj) (by omega)
      · rcases h3 with h3 | ⟨h, h3⟩
        · exact .inl (by simpa using h3)
        · exact .inr ⟨by simpa using h, by simpa using h3⟩
def putB (S : List (List Int)) (b : List Int) : List (List Int) := if b ∈ S then S else S.take (atB S b) ++ b :: S.drop (atB S b)
def UpB (S : List (List Int)) : Prop := S.Pairwise fun x y => cmpL x y < 0
theorem UpB.put {S : List (List Int)} (h : UpB S) (b : List Int) : UpB (putB S b) ∧ ∀ x, x ∈ putB S b ↔ x = b ∨ x ∈ S := by
  unfold putB
  split
  · rename_i hm
    refine ⟨h, fun x => ⟨fun h => .inr h, fun h' => ?_⟩⟩
    rcases h' with rfl | h'
    · exact hm
    · exact h'
  · rename_i hm
    obtain ⟨a1, a2, a3⟩ := atB_spec S b
    constructor
    · have h1 : ∀ s ∈ S.take (atB S b), cmpL s b < 0 := fun s hs => by
        obtain ⟨j, hj, rfl⟩ := List.mem_take_iff_getElem.1 hs
        have h3 := a2 j (by omega) (by omega)
        have h4 : cmpL b (S[j]'(by omega)) ≠ 0 := fun e => hm (by rw [cmpL_eq e]; exact List.getElem_mem _)
        exact cmpL_flip.2 (by omega)
      have h2 : ∀ s ∈ S.drop (atB S b), cmpL b s < 0 := fun s hs => by
        obtain ⟨i, hi, rfl⟩ := List.getElem_of_mem hs
        rw [List.length_drop] at hi
        rw [List.getElem_drop]
        rcases a3 with a3 | ⟨a4, a3⟩
        · omega
        · rcases i with _ | i
          · exact a3
          · exact cmpL_less a3 (List.pairwise_iff_getElem.1 h _ _ a4 (by omega) (by omega))
      show List.Pairwise _ _
      rw [List.pairwise_append]
      refine ⟨List.Pairwise.sublist (List.take_sublist _ _) h, List.pairwise_cons.2 ⟨h2, List.Pairwise.sublist (List.drop_sublist _ _) h⟩, fun x hx y hy => ?_⟩
      rcases List.mem_cons.1 hy with rfl | hy
      · exact h1 x hx
      · exact cmpL_less (h1 x hx) (h2 y hy)
    · intro x
      rw [List.mem_append, List.mem_cons]
      have e : x ∈ S ↔ x ∈ S.take (atB S b) ∨ x ∈ S.drop (atB S b) := by rw [← List.mem_append, List.take_append_drop]
      rw [e]
      constructor
      · rintro (h | h | h)
        · exact .inr (.inl h)
        · exact .inl h
        · exact .inr (.inr h)
      · rintro (h | h | h)
        · exact .inr (.inl h)
        · exact .inl h
        · exact .inr (.inr h)
theorem UpB.unique : ∀ {l m : List (List Int)}, UpB l → UpB m → (∀ f, f ∈ l ↔ f ∈ m) → l = m
  | [], [], _, _, _ => rfl
  | [], y :: m, _, _, h => absurd ((h y).2 List.mem_cons_self) (by simp)
  | x :: l, [], _, _, h => absurd ((h x).1 List.mem_cons_self) (by simp)
  | x :: l, y :: m, hl, hm, h => by
    obtain ⟨h1, h2⟩ := List.pairwise_cons.1 hl
    obtain ⟨h3, h4⟩ := List.pairwise_cons.1 hm
    have irr : ∀ z : List Int, ¬ cmpL z z < 0 := fun z => by rw [cmpL_refl]; omega
    have hxy : x = y := by
      rcases List.mem_cons.1 ((h x).1 List.mem_cons_self) with e | e
      · exact e
      · rcases List.mem_cons.1 ((h y).2 List.mem_cons_self) with e2 | e2
        · exact e2.symm
        · exact absurd (cmpL_less (h1 y e2) (h3 x e)) (irr x)
    subst hxy
    rw [UpB.unique h2 h4 fun f => ?_]
    constructor
    · intro hf
      rcases List.mem_cons.1 ((h f).1 (List.mem_cons_of_mem _ hf)) with e | e
      · subst e
        exact absurd (h1 f hf) (irr f)
      · exact e
    · intro hf
      rcases List.mem_cons.1 ((h f).2 (List.mem_cons_of_mem _ hf)) with e | e
      · subst e
        exact absurd (h3 f hf) (irr f)
      · exact e

theorem atB_le (S : List (List Int)) (b : List Int) : atB S b ≤ S.length := (atB_spec S b).1
theorem putB_length (S : List (List Int)) (b : List Int) : (putB S b).length ≤ S.length + 1 := by
  unfold putB
  split
  · omega
  · have := atB_le S b
    simp
    omega
def putsB (L : List (List Int)) : List (List Int) := L.foldl putB []
theorem putsB_snoc (L : List (List Int)) (x : List Int) : putsB (L ++ [x]) = putB (putsB L) x := by simp [putsB, List.foldl_append]
theorem putsB_take {L : List (List Int)} {k : Nat} (h : k < L.length) : putsB (L.take (k + 1)) = putB (putsB (L.take k)) L[k] := by rw [take_snoc L k h, putsB_snoc]
theorem putsB_is (L : List (List Int)) : ∀ k, k ≤ L.length → UpB (putsB (L.take k)) ∧ (∀ x, x ∈ putsB (L.take k) ↔ x ∈ L.take k) ∧ (putsB (L.take k)).length ≤ k
  | 0, _ => by simp [putsB, UpB]
  | k + 1, hk => by
    obtain ⟨h1, h2, h3⟩ := putsB_is L k (by omega)
    rw [putsB_take (show k < L.length by omega)]
    obtain ⟨h4, h5⟩ := h1.put L[k]
    refine ⟨h4, fun x => ?_, ?_⟩
    · rw [h5, h2, take_snoc L k (by omega), List.mem_append, List.mem_singleton]
      exact ⟨fun h => h.symm, fun h => h.symm⟩
    · have := putB_length (putsB (L.take k)) L[k]
      omega
theorem putsB_up (L : List (List Int)) : UpB (putsB L) := by have := (putsB_is L L.length (Nat.le_refl _)).1; rwa [List.take_length] at this
theorem putsB_mem {L : List (List Int)} {x : List Int} : x ∈ putsB L ↔ x ∈ L := by have := (putsB_is L L.length (Nat.le_refl _)).2.1 x; rwa [List.take_length] at this
theorem putsB_length (L : List (List Int)) : (putsB L).length ≤ L.length := by have := (putsB_is L L.length (Nat.le_refl _)).2.2; rwa [List.take_length] at this

/-- A row's number. -/
def numI (x : List Int) : Int := ((numF x : Nat) : Int)
theorem numI_small {L : List (List Int)} {p : Nat} (h : ∀ x ∈ L, x.length = p ∧ x.all constOk = true) (hp : p ≤ 6) : ∀ z, z ∈ L.map numI → 0 ≤ z ∧ z ≤ 1048576 := fun z hz => by
  obtain ⟨x, hx, rfl⟩ := List.mem_map.1 hz
  obtain ⟨h1, h2⟩ := h x hx
  have h3 := numF_lt_pow h2
  have h4 : (6 : Nat) ^ x.length ≤ 6 ^ 6 := Nat.pow_le_pow_right (by decide) (by omega)
  unfold numI
  omega
theorem numRows_puts {L : List (List Int)} {p : Nat} (h : ∀ x ∈ L, x.length = p ∧ x.all constOk = true) : numRows (L.map numI) p = putsB L := by
  have hd : ∀ x ∈ L, digits (numI x).toNat p = x := fun x hx => by
    obtain ⟨h1, h2⟩ := h x hx
    have := digits_numF6 h2
    rw [h1] at this
    exact this
  have hm : ∀ z, z ∈ Lib.compact (sortI (L.map numI)) ↔ ∃ x ∈ L, numI x = z := fun z => by
    rw [compact_mem, sortI_mem, List.mem_map]
  refine UpB.unique ?_ (putsB_up L) fun f => ?_
  · unfold numRows UpB
    rw [List.pairwise_map]
    refine (compact_up (sortI_up _)).imp_of_mem fun {y z} hy hz hlt => ?_
    obtain ⟨x, hx, rfl⟩ := (hm y).1 hy
    obtain ⟨x', hx', rfl⟩ := (hm z).1 hz
    rw [hd x hx, hd x' hx']
    obtain ⟨h1, h2⟩ := h x hx
    obtain ⟨h3, h4⟩ := h x' hx'
    have hlt2 : numF x < numF x' := by unfold numI at hlt; omega
    rcases Int.lt_trichotomy (cmpL x x') 0 with h0 | h0 | h0
    · exact h0
    · rw [cmpL_eq h0] at hlt2
      exact absurd hlt2 (Nat.lt_irrefl _)
    · have := numF_up h4 h2 (by rw [h1, h3]) (cmpL_flip.2 h0)
      omega
  · rw [putsB_mem]
    unfold numRows
    rw [List.mem_map]
    constructor
    · rintro ⟨z, hz, rfl⟩
      obtain ⟨x, hx, rfl⟩ := (hm z).1 hz
      rw [hd x hx]
      exact hx
    · intro hf
      exact ⟨numI f, (hm _).2 ⟨f, hf, rfl⟩, hd f hf⟩

end Go.Proofs.Ytchincemlilnoaa
/-
  The specification's l3Put (as in SpecPut, for seats that have no more).
-/
namespace Go.Proofs.Ytchincemlilnoaa
open Go.RowKit

/-- What the first k of the rows say of the place of a row. -/
def AtTo (S : List (List Int)) (b : List Int) (k t : Nat) : Prop :=
  (∀ j (h : j < S.length), j < k → cmpL b S[j] ≠ 0) ∧ ((t = S.length ∧ ∀ j (h : j < S.length), j < k → ¬ cmpL b S[j] < 0) ∨ (t < k ∧ (∃ h : t < S.length, cmpL b S[t] < 0) ∧ ∀ j (h : j < S.length), j < t → ¬ cmpL b S[j] < 0))
theorem atB_is : ∀ {S : List (List Int)} {b : List Int} {t : Nat}, t ≤ S.length → (∀ j (h : j < S.length), j < t → ¬ cmpL b S[j] < 0) → (t = S.length ∨ ∃ h : t < S.length, cmpL b S[t] < 0) → atB S b = t
  | [], b, t, h, _, _ => by
    have : t = 0 := by simpa using h
    subst this
    rfl
  | s :: S, b, 0, _, _, h => by
    rcases h with h | ⟨_, h⟩
    · simp at h
    · exact if_pos h
  | s :: S, b, t + 1, h1, h2, h3 => by
    have h0 : ¬ cmpL b s < 0 := h2 0 (by simp) (by omega)
    have ih := atB_is (S := S) (b := b) (t := t) (by simpa using h1) (fun j hj hlt => h2 (j + 1) (by simpa using hj) (by omega)) (by
      rcases h3 with h3 | ⟨h, h3⟩
      · exact .inl (by simpa using h3)
      · exact .inr ⟨by simpa using h, h3⟩)
    have ea : atB (s :: S) b = atB S b + 1 := if_neg h0
    rw [ea, ih]
theorem AtTo.end_ {S : List (List Int)} {b : List Int} {t : Nat} (h : AtTo S b S.length t) : b ∉ S ∧ t = atB S b ∧ t ≤ S.length := by
  obtain ⟨h1, h2⟩ := h
  have ht : t ≤ S.length := by rcases h2 with ⟨h, _⟩ | ⟨h, _⟩ <;> omega
  refine ⟨fun hm => ?_, ?_, ht⟩
  · obtain ⟨j, hj, rfl⟩ := List.getElem_of_mem hm
    exact h1 j hj hj (cmpL_refl _)
  · rcases h2 with ⟨h, h3⟩ | ⟨h, h4, h3⟩
    · exact (atB_is ht (fun j hj _ => h3 j hj hj) (.inl h)).symm
    · exact (atB_is ht h3 (.inr h4)).symm
theorem AtTo.start (S : List (List Int)) (b : List Int) : AtTo S b 0 S.length := ⟨fun j _ h => absurd h (by omega), .inl ⟨rfl, fun j _ h => absurd h (by omega)⟩⟩
theorem AtTo.more {S : List (List Int)} {b : List Int} {k t : Nat} (h : AtTo S b k t) (hk : k < S.length) (e : 0 < cmpL b S[k]) : AtTo S b (k + 1) t := by
  obtain ⟨h1, h2⟩ := h
  refine ⟨fun j hj hlt => ?_, ?_⟩
  · by_cases e2 : j = k
    · subst e2; omega
    · exact h1 j hj (by omega)
  · rcases h2 with ⟨h, h3⟩ | ⟨h, h4, h3⟩
    · refine .inl ⟨h, fun j hj hlt => ?_⟩
      by_cases e2 : j = k
      · subst e2; omega
      · exact h3 j hj (by omega)
    · exact .inr ⟨by omega, h4, h3⟩
theorem AtTo.here {S : List (List Int)} {b : List Int} {k : Nat} (h : AtTo S b k S.length) (hk : k < S.length) (e : cmpL b S[k] < 0) : AtTo S b (k + 1) k := by
  obtain ⟨h1, h2⟩ := h
  refine ⟨fun j hj hlt => ?_, .inr ⟨by omega, ⟨hk, e⟩, fun j hj hlt => ?_⟩⟩
  · by_cases e2 : j = k
    · subst e2; omega
    · exact h1 j hj (by omega)
  · rcases h2 with ⟨h, h3⟩ | ⟨h, ⟨h5, _⟩, h3⟩
    · exact h3 j hj hlt
    · omega
theorem AtTo.past {S : List (List Int)} {b : List Int} {k t : Nat} (h : AtTo S b k t) (hk : k < S.length) (ht : t ≠ S.length) (e : cmpL b S[k] < 0) : AtTo S b (k + 1) t := by
  obtain ⟨h1, h2⟩ := h
  refine ⟨fun j hj hlt => ?_, ?_⟩
  · by_cases e2 : j = k
    · subst e2; omega
    · exact h1 j hj (by omega)
  · rcases h2 with ⟨h, _⟩ | ⟨h, h4, h3⟩
    · exact absurd h ht
    · exact .inr ⟨by omega, h4, h3⟩

set_option maxHeartbeats 4000000 in
set_option maxRecDepth 100000 in
theorem l3Put_any (v u : Value) (S : List (List Int)) (b : List Int) (R : List (List Int)) (hR : R = putB S b) (lo hi : Nat) (w : World) (h : WkRows w lo hi v S) (hb : OwnInts w lo hi u b) (hhi : hi ≤ w.heap.size) (hlo : lo ≤ w.heap.size) (hn : S.length ≤ 1048576) (hl : ∀ s ∈ S, s.length ≤ 1048576) (hbl : b.length ≤ 1048576) :
    Calls Try.prog 54 #[v, u] w fun e w' => ∃ A c, e = .returned (.slice A R.length c) ∧ WkRows w' lo w'.heap.size (.slice A R.length c) R ∧ Below w.heap.size w w' := by
  obtain ⟨i0, hi0, hz0, hz1, hz2⟩ := info_parts Try.infoIntS
  have H := Lib.hid h
  have HB := Lib.hid hb
  have HL := Lib.hid hl
  have HR := Lib.hid hR
  obtain ⟨A0, c0, rfl⟩ := h.form
  obtain ⟨Ab, cb, rfl⟩ := hb.form
  clear h hb hl hR
  go_enter Try.func54, Try.ntmps54
  go_wp2_with (fail)
  go_loopw [5, 6] (fun a i wr => ∃ k t : Nat, k ≤ S.length ∧ i = .int .i64 k ∧ a = .int .i64 t ∧ t ≤ S.length ∧ AtTo S b k t ∧ Below w.heap.size w wr) (fun _ i _ => S.length - (intOf i).toNat)
  case atStart => exact ⟨0, S.length, Nat.zero_le _, rfl, rfl, Nat.le_refl _, AtTo.start _ _, Below.refl _ _⟩
  case round =>
    obtain ⟨k, t, hk, rfl, rfl, htn, hat, hbe⟩ := hrel
    by_cases hlt : k < S.length
    · obtain ⟨g, A2, c2, rfl, hgl, k0, o2⟩ := (H.out.below hbe hhi).get hlt
      have hsz := hbe.size
      have hl2 := HL.out _ (List.getElem_mem hlt)
      have CR := Lib.hid (l3Row_any (.slice Ab b.length cb) (.slice A2 S[k].length c2) b S[k] wr ((HB.out.below hbe hhi).rd.more (by omega)) (o2.rd.more (by omega)) hbl hl2)
      have HA := Lib.hid hat
      have HBE := Lib.hid hbe
      obtain ⟨z, hz⟩ : ∃ z, z = cmpL b S[k] := ⟨_, rfl⟩
      rw [← hz] at CR
      have HZ := Lib.hid hz
      clear hat hbe o2 hz
      rcases Int.lt_trichotomy z 0 with h0 | h0 | h0
      · have z1 : (z == 0) = false := by simp; omega
        have z2 : decide (z < 0) = true := by simp; omega
        by_cases htS : t = S.length
        · have t1 : ((t : Int) == (S.length : Int)) = true := by simp [htS]
          have HN := Lib.hid (show AtTo S b (k + 1) k by have := HA.out; rw [htS] at this; exact this.here hlt (by rw [← HZ.out]; exact h0))
          clear htS
          go_wp2_with (go_at_call 46; refine CR.out.mono ?_; rintro e w2 ⟨rfl, hb2⟩; have HB2 := Lib.hid (bthen HBE.out hb2); clear hb2)
          go_roundw
          case rel => exact ⟨k + 1, k, by omega, by go_num, rfl, by omega, HN.out, HB2.out⟩
          case measure => simp [intOf]; omega
        · have t1 : ((t : Int) == (S.length : Int)) = false := by simp; omega
          have HN := Lib.hid (HA.out.past hlt htS (by rw [← HZ.out]; exact h0))
          go_wp2_with (go_at_call 46; refine CR.out.mono ?_; rintro e w2 ⟨rfl, hb2⟩; have HB2 := Lib.hid (bthen HBE.out hb2); clear hb2)
          go_roundw
          case rel => exact ⟨k + 1, t, by omega, by go_num, rfl, by omega, HN.out, HB2.out⟩
          case measure => simp [intOf]; omega
      · subst h0
        have HE := Lib.hid (show R = S by
          rw [HR.out]
          unfold putB
          rw [if_pos]
          have e := cmpL_eq HZ.out.symm
          exact e ▸ List.getElem_mem hlt)
        go_wp2_with (go_at_call 46; refine CR.out.mono ?_; rintro e w2 ⟨rfl, hb2⟩; have HB2 := Lib.hid (bthen HBE.out hb2); clear hb2)
        go_ret
        rw [HE.out]
        exact ⟨_, _, rfl, (H.out.below HB2.out hhi).mono (Nat.le_refl _) (Nat.le_trans hhi HB2.out.size), HB2.out⟩
      · have z1 : (z == 0) = false := by simp; omega
        have z2 : decide (z < 0) = false := by simp; omega
        have HN := Lib.hid (HA.out.more hlt (by rw [← HZ.out]; exact h0))
        go_wp2_with (go_at_call 46; refine CR.out.mono ?_; rintro e w2 ⟨rfl, hb2⟩; have HB2 := Lib.hid (bthen HBE.out hb2); clear hb2)
        go_roundw
        case rel => exact ⟨k + 1, t, by omega, by go_num, rfl, by omega, HN.out, HB2.out⟩
        case measure => simp [intOf]; omega
    · rename World => w1
      have HE := Lib.hid (show b ∉ S ∧ t = atB S b by
        have := hat
        rw [show k = S.length by omega] at this
        exact ⟨this.end_.1, this.end_.2.1⟩)
      have HBE := Lib.hid hbe
      have C0 := Lib.hid (ColS.empty (lo := lo) (Below.refl w1.heap.size w1))
      clear hat hbe
      go_wp2_with (fail)
      go_loopw [8, 9] (fun o i wr => ∃ (j : Nat) (A' : Option Addr) (c' : Nat) (av : List Value), j ≤ t ∧ i = .int .i64 j ∧ o = .slice A' (S.take j).length c' ∧ ColS lo w1 wr (S.take j) A' c' av) (fun _ i _ => t - (intOf i).toNat)
      case atStart => exact ⟨0, _, 0, [], Nat.zero_le _, rfl, rfl, C0.out⟩
      case round =>
        obtain ⟨j, A', c', av, hj, rfl, rfl, hr'⟩ := hrel
        have hln : (S.take j).length ≤ 1048576 := by simp; omega
        by_cases hltj : j < t
        · have hjS : j < S.length := by omega
          obtain ⟨g, A2, c2, rfl, hgl, k0, o2⟩ := (H.out.below (bthen HBE.out hr'.below) hhi).get hjS
          have hszr := HBE.out.size
          have hsz := hr'.below.size
          have HO2 := Lib.hid (show OwnInts wr lo wr.heap.size (.slice A2 S[j].length c2) S[j] from o2.mono (Nat.le_refl _) (by omega))
          have HP := Lib.hid hr'
          have HS := Lib.hid (take_snoc S j hjS)
          obtain ⟨zs, hzs⟩ : ∃ zs, zs = S.take j := ⟨_, rfl⟩
          have HZ := Lib.hid hzs
          rw [← hzs] at HP HS hln ⊢
          clear hr' o2 hzs
          go_wp2_with (at_builtin; refine wpList_append_lies _ rfl (.tmp 43) (.tmp 48) 22 rfl w1.heap.size 42 i0 (.slice none 0 0) 1 24 Try.underlying22 hi0 hz0 hz1 hz2 rfl (by decide) (.slice A' zs.length c') zs.length av rfl ?c1 ⟨_, 0, none⟩ 1 1 [.slice A2 S[j].length c2] rfl rfl (news1s _ _ _ _ (by simp)) ?c2 (by omega) (by unfold maxLen; omega) (by omega) ?c3 _ rfl ?_)
          case c1 => exact HP.out.row.alloc _
          case c2 => intro u hu; simp at hu; subst hu; rfl
          case c3 => have := HP.out.below.size; simp; omega
          intro g2 cap w4 hown hg _ _
          obtain ⟨hcol, hlen⟩ := HP.out.push HS.out (Below.refl _ _) HO2.out hg hown
          rw [hlen]
          have HC := Lib.hid hcol
          clear hcol hown hg
          go_wp2_with (fail)
          go_roundw
          case rel => exact ⟨j + 1, _, _, _, by omega, by go_num, rfl, HC.out⟩
          case measure => simp [intOf]; omega
        · rename World => w2
          have htj : j = t := by omega
          subst htj
          have hszr := HBE.out.size
          have hsz := hr'.below.size
          have HP := Lib.hid hr'
          have HO2 := Lib.hid (show OwnInts w2 lo w2.heap.size (.slice Ab b.length cb) b from (HB.out.below (bthen HBE.out hr'.below) hhi).mono (Nat.le_refl _) (by omega))
          obtain ⟨zs, hzs⟩ : ∃ zs, zs = S.take j := ⟨_, rfl⟩
          have HZ := Lib.hid hzs
          rw [← hzs] at HP hln ⊢
          clear hr' hzs
          go_wp2_with (at_builtin; refine wpList_append_lies _ rfl (.tmp 50) (.tmp 52) 22 rfl w1.heap.size 42 i0 (.slice none 0 0) 1 24 Try.underlying22 hi0 hz0 hz1 hz2 rfl (by decide) (.slice A' zs.length c') zs.length av rfl ?c1 ⟨_, 0, none⟩ 1 1 [.slice Ab b.length cb] rfl rfl (news1s _ _ _ _ (by simp)) ?c2 (by omega) (by unfold maxLen; omega) (by omega) ?c3 _ rfl ?_)
          case c1 => exact HP.out.row.alloc _
          case c2 => intro u hu; simp at hu; subst hu; rfl
          case c3 => have := HP.out.below.size; simp; omega
          intro g2 cap w4 hown hg _ _
          obtain ⟨hcol, hlen⟩ := HP.out.push rfl (Below.refl _ _) HO2.out hg hown
          rw [hlen]
          have HC := Lib.hid hcol
          obtain ⟨av2, hav2⟩ : ∃ av2, av2 = av ++ [Value.slice Ab b.length cb] := ⟨_, rfl⟩
          obtain ⟨ys, hys⟩ : ∃ ys, ys = zs ++ [b] := ⟨_, rfl⟩
          have HY := Lib.hid hys
          rw [← hav2, ← hys] at HC
          rw [← hys]
          clear hcol hown hg HP HO2 hav2 hys hlen
          go_wp2_with (fail)
          go_loopw [8, 10] (fun o i wr => ∃ (q : Nat) (A' : Option Addr) (c' : Nat) (av : List Value) (xs : List (List Int)), j ≤ q ∧ q ≤ S.length ∧ i = .int .i64 q ∧ xs = ys ++ (S.take q).drop j ∧ o = .slice A' xs.length c' ∧ ColS lo w1 wr xs A' c' av) (fun _ i _ => S.length - (intOf i).toNat)
          case atStart => exact ⟨j, _, _, _, ys, Nat.le_refl _, by omega, rfl, by simp, rfl, HC.out⟩
          case round =>
            obtain ⟨q, A', c', av, xs, hjq, hq, rfl, hxs, rfl, hr'⟩ := hrel
            have hln2 : xs.length ≤ 1048577 := by rw [hxs, HY.out, HZ.out]; simp; omega
            have HX := Lib.hid hxs
            clear hxs
            by_cases hltq : q < S.length
            · obtain ⟨g, A2, c2, rfl, hgl, k0, o2⟩ := (H.out.below (bthen HBE.out hr'.below) hhi).get hltq
              have hszr := HBE.out.size
              have hsz := hr'.below.size
              have HO2 := Lib.hid (show OwnInts wr lo wr.heap.size (.slice A2 S[q].length c2) S[q] from o2.mono (Nat.le_refl _) (by omega))
              have HP := Lib.hid hr'
              clear hr' o2
              go_wp2_with (at_builtin; refine wpList_append_lies _ rfl (.tmp 61) (.tmp 66) 22 rfl w1.heap.size 42 i0 (.slice none 0 0) 1 24 Try.underlying22 hi0 hz0 hz1 hz2 rfl (by decide) (.slice A' xs.length c') xs.length av rfl ?c1 ⟨_, 0, none⟩ 1 1 [.slice A2 S[q].length c2] rfl rfl (news1s _ _ _ _ (by simp)) ?c2 (by omega) (by unfold maxLen; omega) (by omega) ?c3 _ rfl ?_)
              case c1 => exact HP.out.row.alloc _
              case c2 => intro u hu; simp at hu; subst hu; rfl
              case c3 => have := HP.out.below.size; simp; omega
              intro g2 cap w4 hown hg _ _
              obtain ⟨hcol, hlen⟩ := HP.out.push rfl (Below.refl _ _) HO2.out hg hown
              rw [hlen]
              have HC := Lib.hid hcol
              clear hcol hown hg
              go_wp2_with (fail)
              go_roundw
              case rel => exact ⟨q + 1, _, _, _, xs ++ [S[q]], by omega, by omega, by go_num, by
                rw [HX.out, take_snoc S q hltq, List.drop_append_of_le_length (by simp; omega), List.append_assoc], rfl, HC.out⟩
              case measure => simp [intOf]; omega
            · have HP := Lib.hid hr'
              have HE2 := Lib.hid (show R = xs by
                rw [HR.out, HX.out, HY.out, HZ.out]
                unfold putB
                rw [if_neg HE.out.1, ← HE.out.2, show q = S.length by omega, List.take_length, List.append_assoc]
                rfl)
              clear hr'
              go_wp2_with (fail)
              go_ret
              rw [HE2.out]
              exact ⟨_, _, rfl, HP.out.rows (by omega), bthen HBE.out HP.out.below⟩

end Go.Proofs.Ytchincemlilnoaa
/-
  A relation in a box whose rows grow by l3Put: two rows may share a block. The words; no walk.
-/
namespace Go.Proofs.Ytchincemlilnoaa
open Go.RowKit

/-- Box o holds a relation of so many columns with the rows m, that lie in blocks from lo on; o lies ahead of them. -/
structure PutAt (lo o : Nat) (wr : World) (wide : Int) (m : List (List Int)) (A : Option Addr) (c : Nat) : Prop where
  rows : WkRows wr lo wr.heap.size (.slice A m.length c) m
  box : Blk wr o 27 #[.int .i64 wide, .slice A m.length c]
  lt : o < lo
  le : lo ≤ wr.heap.size
section
variable {lo o : Nat} {wr w5 : World} {wide : Int} {m m' : List (List Int)} {A A' : Option Addr} {c c' : Nat}
theorem WkRows.nothing (w : World) (lo hi : Nat) : WkRows w lo hi (.slice .none 0 0) [] := (OwnRows.none w lo hi).weak
theorem PutAt.empty (hb : Blk wr o 27 #[.int .i64 wide, .slice .none 0 0]) (hlo : o < lo) (hs : lo ≤ wr.heap.size) : PutAt lo o wr wide [] .none 0 :=
  ⟨WkRows.nothing _ _ _, by simpa using hb, hlo, hs⟩
theorem PutAt.on (h : PutAt lo o wr wide m A c) (hb : Below wr.heap.size wr w5) : PutAt lo o w5 wide m A c :=
  ⟨(h.rows.below hb (Nat.le_refl _)).mono (Nat.le_refl _) hb.size, h.box.below hb h.box.lt, h.lt, Nat.le_trans h.le hb.size⟩
theorem PutAt.put (h : PutAt lo o wr wide m A c) (hb : Below wr.heap.size wr w5) (hr : WkRows w5 lo w5.heap.size (.slice A' m'.length c') m') :
    PutAt lo o (w5.setCell ⟨o, 1, .none⟩ (.slice A' m'.length c')) wide m' A' c' ∧ Below o wr (w5.setCell ⟨o, 1, .none⟩ (.slice A' m'.length c')) := by
  have hlt := h.lt
  have hle := h.le
  have hs := hb.size
  refine ⟨⟨?_, ?_, hlt, by simpa using Nat.le_trans hle hs⟩, (hb.mono (Nat.le_trans (Nat.le_of_lt hlt) hle)).setCell (Nat.le_refl _) _⟩
  · have h1 := hr.only (Only.setCell (Only.refl 0 lo w5) (p := ⟨o, 1, .none⟩) ⟨Nat.zero_le _, hlt⟩ (.slice A' m'.length c')) (.inr (Nat.le_refl _))
    simpa using h1
  · simpa using (h.box.below hb h.box.lt).set_ 1 (.slice A' m'.length c')
end

end Go.Proofs.Ytchincemlilnoaa
/-
  RelTake of the specification.
-/
namespace Go.Proofs.Ytchincemlilnoaa
open Go.RowKit

def takeRows (xss : List (List Int)) (cols : List Int) : List (List Int) := xss.map fun row => pickC row cols
open Classical in
noncomputable def takeR (r : LRel) (cols : List Int) : LRel := if RelP r ∧ colsB r.1 cols = true then (cols.length, putsB (takeRows r.2 cols)) else (0, [])
theorem takeR_yes {r : LRel} {cols : List Int} (h : relB r = true) (h2 : colsB r.1 cols = true) : takeR r cols = ((cols.length : Int), putsB (takeRows r.2 cols)) := by
  unfold takeR; rw [if_pos ⟨relB_iff.1 h, h2⟩]
theorem takeR_no {r : LRel} {cols : List Int} (h : relB r = false) : takeR r cols = (0, []) := by
  unfold takeR; rw [if_neg (by rintro ⟨h1, _⟩; rw [relB_true h1] at h; cases h)]
theorem takeR_cols {r : LRel} {cols : List Int} (h : colsB r.1 cols = false) : takeR r cols = (0, []) := by
  unfold takeR; rw [if_neg (by rintro ⟨_, h1⟩; rw [h1] at h; cases h)]
theorem takeRows_length (xss : List (List Int)) (cols : List Int) : (takeRows xss cols).length = xss.length := by simp [takeRows]
theorem takeRows_at {xss : List (List Int)} {cols : List Int} {k : Nat} (h : k < xss.length) : (takeRows xss cols)[k]'(by simpa [takeRows] using h) = pickC xss[k] cols := by simp [takeRows]
theorem pickC_take {row cols : List Int} {k : Nat} (h : k < cols.length) : (pickC row cols).take (k + 1) = (pickC row cols).take k ++ [rowI row cols[k]] := by
  rw [take_snoc (pickC row cols) k (by rw [pickC_length]; exact h)]
  simp [pickC]

set_option maxHeartbeats 4000000 in
set_option maxRecDepth 100000 in
theorem specRelTake_any (v v2 : Value) (r : LRel) (cols : List Int) (R : LRel) (hR : R = takeR r cols) (w : World) (h : RdRel w w.heap.size v r) (h2 : RdInts w w.heap.size v2 cols) (hs : szRows r.2 ≤ 1048576) (s2 : cols.length ≤ 1048576) :
    Calls Try.prog 30 #[v, v2] w fun e w' => ∃ A' c', e = .returned (.agg #[.int .i64 R.1, .slice A' R.2.length c']) ∧ WkRows w' w.heap.size w'.heap.size (.slice A' R.2.length c') R.2 ∧ Below w.heap.size w w' := by
  have HR := Lib.hid hR
  clear hR
  obtain ⟨a, rfl, h⟩ := h
  have H := Lib.hid h
  obtain ⟨A, c, rfl, hc, _⟩ := h
  have H2 := Lib.hid h2
  obtain ⟨A2, c2, rfl, hc2, _⟩ := h2
  obtain ⟨m, xss⟩ := r
  have HS := Lib.hid hs
  unfold szRows at hs
  simp only at H hc hs HR
  obtain ⟨i0, hi0, hz0, hz1, hz2⟩ := info_parts Try.infoInt
  obtain ⟨ok, hok⟩ : ∃ ok, ok = relB (m, xss) := ⟨_, rfl⟩
  go_enter Try.func30, Try.ntmps30
  go_wp2_with fail
  obtain ⟨w3, hw3⟩ : ∃ w3, w3 = ((w.alloc (Obj.cells #[Value.int IntKind.i64 m, Value.slice A xss.length c] 27)).alloc (Obj.cells #[Value.int IntKind.i64 0, Value.slice none 0 0] 27)).alloc (Obj.cells #[Value.int IntKind.i64 (cols.length : Int), Value.slice none 0 0] 27) := ⟨_, rfl⟩
  have B3 : Below w.heap.size w w3 := by rw [hw3]; exact below3 _ _ _ _
  have s3 : w3.heap.size = w.heap.size + 3 := by rw [hw3]; simp
  have x0 : Blk w3 w.heap.size 27 #[.int .i64 m, .slice A xss.length c] := by rw [hw3]; exact ((Blk.new w _ _).alloc _).alloc _
  have x1 : Blk w3 (w.heap.size + 1) 27 #[.int .i64 0, .slice none 0 0] := by
    rw [hw3]
    simpa using (Blk.new (w.alloc (Obj.cells #[Value.int IntKind.i64 m, Value.slice A xss.length c] 27)) 27 #[.int .i64 0, .slice none 0 0]).alloc _
  have x2 : Blk w3 (w.heap.size + 2) 27 #[.int .i64 (cols.length : Int), .slice none 0 0] := by
    rw [hw3]
    simpa using Blk.new ((w.alloc (Obj.cells #[Value.int IntKind.i64 m, Value.slice A xss.length c] 27)).alloc (Obj.cells #[Value.int IntKind.i64 0, Value.slice none 0 0] 27)) 27 #[.int .i64 (cols.length : Int), .slice none 0 0]
  rw [← hw3]
  clear hw3
  have CR := specRelOk_any _ (m, xss) _ ⟨_, rfl, H.out.on B3⟩ HS.out
  rw [← hok] at CR
  refine CR.mono ?_
  rintro e w4 ⟨rfl, hb4⟩
  have B4 := bthen B3 hb4
  have s4 := hb4.size
  have y0 := x0.below hb4 x0.lt
  have y1 := x1.below hb4 x1.lt
  have y2 := x2.below hb4 x2.lt
  clear x0 x1 x2 CR
  have q0 : w4.cell? ⟨w.heap.size, 0, none⟩ = some (.int .i64 m) := y0.cell 0
  have q1 : w4.cell? ⟨w.heap.size, 1, none⟩ = some (.slice A xss.length c) := y0.cell 1
  have b1c0 : w4.cell? ⟨w.heap.size + 1, 0, none⟩ = some (.int .i64 0) := y1.cell 0
  have b1c1 : w4.cell? ⟨w.heap.size + 1, 1, none⟩ = some (.slice none 0 0) := y1.cell 1
  have b1f0 := y1.frozen 0
  have b1f1 := y1.frozen 1
  have HOK := Lib.hid hok
  clear hok
  cases ok
  · have HE := Lib.hid (show R = (0, []) by rw [HR.out]; exact takeR_no HOK.out.symm)
    clear q0 q1
    go_wp2_with fail
    refine bodyPost_ret (v := .agg #[.int .i64 0, .slice none 0 0]) (by simp [results, Try.results30, go_sem, b1c0, b1c1]) rfl ?_
    rw [HE.out]
    exact ⟨none, 0, rfl, WkRows.nothing _ _ _, (B4.setCell (by simp <;> omega) _).setCell (by simp <;> omega) _⟩
  have hp : RelP (m, xss) := relB_iff.1 HOK.out.symm
  have hm0 : 0 ≤ m := hp.lo
  have hm6 : m ≤ 6 := hp.hi
  have hmany : xss.length ≤ 2000 := hp.many
  have HP := Lib.hid hp
  clear hp
  go_wp2_with fail
  obtain ⟨cb, hcb⟩ : ∃ cb, cb = colsB m cols := ⟨_, rfl⟩
  refine (l9Cols_is _ _ (m, xss) cols hcb.symm _ ⟨_, rfl, H.out.on B4⟩ (H2.out.on B4) hm0 hm6 s2).mono ?_
  rintro e w5 ⟨rfl, hb5⟩
  have B5 := bthen B4 hb5
  have s5 := hb5.size
  have z0 := y0.below hb5 y0.lt
  have z1 := y1.below hb5 y1.lt
  have z2 := y2.below hb5 y2.lt
  clear y0 y1 y2 q0 q1 b1c0 b1c1 b1f0 b1f1
  have b1c0 : w5.cell? ⟨w.heap.size + 1, 0, none⟩ = some (.int .i64 0) := z1.cell 0
  have b1c1 : w5.cell? ⟨w.heap.size + 1, 1, none⟩ = some (.slice none 0 0) := z1.cell 1
  have b1f0 := z1.frozen 0
  have b1f1 := z1.frozen 1
  have HCB := Lib.hid hcb
  clear hcb
  cases cb
  · have HE := Lib.hid (show R = (0, []) by rw [HR.out]; exact takeR_cols HCB.out.symm)
    go_wp2_with fail
    refine bodyPost_ret (v := .agg #[.int .i64 0, .slice none 0 0]) (by simp [results, Try.results30, go_sem, b1c0, b1c1]) rfl ?_
    rw [HE.out]
    exact ⟨none, 0, rfl, WkRows.nothing _ _ _, (B5.setCell (by simp <;> omega) _).setCell (by simp <;> omega) _⟩
  have hcc : cols.all (colIn m) = true ∧ cols.length ≤ 6 := by
    have := HCB.out.symm
    simpa only [colsB, Bool.and_eq_true, decide_eq_true_eq] using this
  have HC := Lib.hid hcc.1
  have hcl : cols.length ≤ 6 := hcc.2
  have HF := Lib.hid (show R = ((cols.length : Int), putsB (takeRows xss cols)) by rw [HR.out]; exact takeR_yes HOK.out.symm HCB.out.symm)
  obtain ⟨L, hL⟩ : ∃ L, L = takeRows xss cols := ⟨_, rfl⟩
  have HLn := Lib.hid (show L.length = xss.length by rw [hL, takeRows_length])
  have HLk := Lib.hid (show ∀ k (h : k < xss.length) (h2 : k < L.length), L[k] = pickC xss[k] cols from fun k h h2 => by subst hL; exact takeRows_at h)
  have HL6 := Lib.hid (show ∀ s ∈ L, s.length ≤ 1048576 from fun s hs => by
    subst hL
    obtain ⟨x, _, rfl⟩ := List.mem_map.1 hs
    rw [pickC_length]
    exact s2)
  rw [← hL] at HF
  clear hcc b1c0 b1c1 b1f0 b1f1 hL
  have HO := Lib.hid (show PutAt w5.heap.size (w.heap.size + 2) w5 cols.length (putsB (L.take 0)) none 0 from PutAt.empty z2 (by omega) (Nat.le_refl _))
  have HX := Lib.hid (And.intro z0 z1)
  clear z0 z1 z2
  go_wp2_with fail
  go_loopw [6, 7, 8] (fun i _ _ wr => ∃ (k : Nat) (A' : Option Addr) (c' : Nat), k ≤ xss.length ∧ i = .int .i64 k ∧ PutAt w5.heap.size (w.heap.size + 2) wr cols.length (putsB (L.take k)) A' c' ∧ Below (w.heap.size + 2) w5 wr) (fun i _ _ _ => xss.length - (intOf i).toNat)
  case atStart => exact ⟨0, none, 0, Nat.zero_le _, rfl, HO.out, Below.refl _ _⟩
  case round =>
    obtain ⟨k, A', c', hk, rfl, hout, hbe⟩ := hrel
    obtain ⟨wo, rfl⟩ : ∃ wo, wo = wr := ⟨_, rfl⟩
    have HOUT := Lib.hid hout
    have HBE := Lib.hid hbe
    have xr := HX.out.1.below hbe (by omega)
    have q1 : wo.cell? ⟨w.heap.size, 1, none⟩ = some (.slice A xss.length c) := xr.cell 1
    have BW := Lib.hid (show Below w.heap.size w wo from B5.trans (hbe.mono (by omega)))
    have hsw := hbe.size
    have hw0 := BW.out.size
    clear hout hbe xr
    by_cases hlt : k < xss.length
    · obtain ⟨b, o, Ar, cr, rfl, hbB, k0, r0⟩ := (H.out.below BW.out (Nat.le_refl _)).get hlt
      have hrow : (xss[k].length : Int) = m := HP.out.row hlt
      have HR0 := Lib.hid (r0.more hw0)
      have HRW := Lib.hid hrow
      clear hrow
      have HLP := Lib.hid (pickC_length xss[k] cols)
      have K0 := Lib.hid k0
      have Q1 := Lib.hid q1
      clear k0 r0
      go_wp2_with fail
      clear q1
      go_loopw [7, 8] (fun out i wi => ∃ (j : Nat) (A' : Option Addr) (c' : Nat), j ≤ cols.length ∧ i = .int .i64 j ∧ out = .slice A' ((pickC xss[k] cols).take j).length c' ∧ ColI wo wi ((pickC xss[k] cols).take j) A' c') (fun _ i _ => cols.length - (intOf i).toNat)
      case atStart => exact ⟨0, some ⟨wo.heap.size, 0, none⟩, 0, Nat.zero_le _, rfl, rfl, ColI.empty (Below.refl wo.heap.size wo)⟩
      case round =>
        obtain ⟨j, A5, c5, hj, rfl, rfl, hci⟩ := hrel
        obtain ⟨wi, rfl⟩ : ∃ wi, wi = wr := ⟨_, rfl⟩
        have HCI := Lib.hid hci
        have hsi := hci.below.size
        have hln : ((pickC xss[k] cols).take j).length ≤ j := by simp; omega
        have hbi := hci.below
        clear hci
        by_cases hlj : j < cols.length
        · have hcx := cols_at HC.out hlj
          obtain ⟨y, hy, hyl, hyr⟩ := rowI_in (row := xss[k]) (c := cols[j]) hcx.1 (by rw [HRW.out]; exact hcx.2)
          obtain ⟨_, _, e3, _, hxx⟩ := id HR0.out
          injection e3 with e3 _ e4
          subst e3 e4
          obtain ⟨b4, o4, rfl, hb4', hx⟩ := hxx (by omega)
          have hck : wo.cell? ⟨b4, o4 + y, none⟩ = some (.int .i64 xss[k][y]) := hx y hyl
          obtain ⟨_, _, e5, _, hx2⟩ := H2.out.on BW.out
          injection e5 with e5 _ e6
          subst e5 e6
          obtain ⟨b6, o6, rfl, hb6', hx3⟩ := hx2 (by omega)
          have hcj : wo.cell? ⟨b6, o6 + j, none⟩ = some (.int .i64 cols[j]) := hx3 j hlj
          rw [hy] at hcj
          have k0 := K0.out
          have q1 := Q1.out
          have HN := Lib.hid (show (pickC xss[k] cols).take (j + 1) = (pickC xss[k] cols).take j ++ [xss[k][y]] by rw [pickC_take hlj, hyr])
          obtain ⟨x, hxe⟩ : ∃ x, x = xss[k][y] := ⟨_, rfl⟩
          rw [← hxe] at hck HN
          obtain ⟨zs, hzs⟩ : ∃ zs, zs = (pickC xss[k] cols).take j := ⟨_, rfl⟩
          rw [← hzs] at HN HCI hln ⊢
          have hkz : (0 : Int) ≤ (k : Int) := by omega
          have hki : (k : Int) < (xss.length : Int) := by omega
          have hjz : (0 : Int) ≤ (j : Int) := by omega
          have hji : (j : Int) < (cols.length : Int) := by omega
          have hyz : (0 : Int) ≤ (y : Int) := by omega
          have hyi : (y : Int) < (xss[k].length : Int) := by omega
          clear hx hxx hx2 hx3 hyr hy hcx hxe hzs
          go_upto_region 11 with fail
          obtain ⟨SS, hSS⟩ : ∃ SS : World → Prop, SS = (fun W => W.cell? ⟨w.heap.size, 1, none⟩ = some (.slice (some ⟨b, o, none⟩) xss.length c) ∧ W.cell? ⟨b, o + k, none⟩ = some (.slice (some ⟨b4, o4, none⟩) xss[k].length cr) ∧ W.cell? ⟨b6, o6 + j, none⟩ = some (.int .i64 y) ∧ W.cell? ⟨b4, o4 + y, none⟩ = some (.int .i64 x)) := ⟨_, rfl⟩
          have l1 := World.block_lt_of_cell? _ _ q1
          have l2 := World.block_lt_of_cell? _ _ k0
          have l3 := World.block_lt_of_cell? _ _ hcj
          have l4 := World.block_lt_of_cell? _ _ hck
          have HSS := Lib.hid (show ∀ W, Below wo.heap.size wo W → SS W from by
            rw [hSS]
            exact fun W hW => ⟨(hW.cell l1).trans q1, (hW.cell l2).trans k0, (hW.cell l3).trans hcj, (hW.cell l4).trans hck⟩)
          have HBI := Lib.hid hbi
          clear hbi
          have HB := Lib.hid (show ∀ W, SS W → (W.cell? ⟨w.heap.size, 1, none⟩ = some (.slice (some ⟨b, o, none⟩) xss.length c) ∧ W.cell? ⟨b, o + k, none⟩ = some (.slice (some ⟨b4, o4, none⟩) xss[k].length cr) ∧ W.cell? ⟨b6, o6 + j, none⟩ = some (.int .i64 y) ∧ W.cell? ⟨b4, o4 + y, none⟩ = some (.int .i64 x)) from by rw [hSS]; exact fun W hW => hW)
          clear hSS q1 k0 hcj hck l1 l2 l3 l4
          refine wp_region_rel SS 14 15 (by kernel_rfl) rfl ?_
          obtain ⟨wy, hwy⟩ : ∃ wy, wy = wi.drew := ⟨_, rfl⟩
          have HBY := Lib.hid (show Below wi.heap.size wi wy by rw [hwy]; exact (Below.refl _ _).drew)
          rw [← hwy]
          clear hwy
          have hsy := HBY.out.size
          have HBO := Lib.hid (bthen HBI.out HBY.out)
          have S0 := Lib.hid (HSS.out _ HBO.out)
          refine wpAnyR_pure (i := 0) (oi := _) ?va0 rfl rfl (by kernel_rfl) (by decide) (fun _ _ _ h => h) rfl ?hya0 (fun _ => S0.out) ?resta0
          case hya0 => (intro W; go_simp; (try with_reducible rfl))
          try simp only [List.setIfInBounds_toArray, List.set_cons_zero, List.set_cons_succ]
          refine wpAnyR_pure (i := 1) (oi := _) ?va1 rfl rfl (by kernel_rfl) (by decide) (fun _ _ _ h => h) rfl ?hya1 (fun _ => S0.out) ?resta1
          case hya1 => (intro W; go_simp; (try with_reducible rfl))
          try simp only [List.setIfInBounds_toArray, List.set_cons_zero, List.set_cons_succ]
          refine wpAnyR_take (i := 2) (oi := _) ?va2 rfl rfl (by kernel_rfl) (fun _ _ _ h => h) rfl ?hya2 S0.out ?resta2
          case hya2 => (intro W hW; obtain ⟨E0, E1, E2, E3⟩ := HB.out W hW; go_simp; (try with_reducible rfl))
          try simp only [List.setIfInBounds_toArray, List.set_cons_zero, List.set_cons_succ]
          refine wpAnyR_pure (i := 3) (oi := _) ?va3 rfl rfl (by kernel_rfl) (by decide) (fun _ _ _ h => h) rfl ?hya3 (fun _ => S0.out) ?resta3
          case hya3 => (intro W; go_simp; (try with_reducible rfl))
          try simp only [List.setIfInBounds_toArray, List.set_cons_zero, List.set_cons_succ]
          refine wpAnyR_pure (i := 4) (oi := _) ?va4 rfl rfl (by kernel_rfl) (by decide) (fun _ _ _ h => h) rfl ?hya4 (fun _ => S0.out) ?resta4
          case hya4 => (intro W; go_simp; (try with_reducible rfl))
          try simp only [List.setIfInBounds_toArray, List.set_cons_zero, List.set_cons_succ]
          refine wpAnyR_take (i := 5) (oi := _) ?va5 rfl rfl (by kernel_rfl) (fun _ _ _ h => h) rfl ?hya5 S0.out ?resta5
          case hya5 => (intro W hW; obtain ⟨E0, E1, E2, E3⟩ := HB.out W hW; go_simp; (try with_reducible rfl))
          try simp only [List.setIfInBounds_toArray, List.set_cons_zero, List.set_cons_succ]
          refine wpAnyR_pure (i := 6) (oi := _) ?va6 rfl rfl (by kernel_rfl) (by decide) (fun _ _ _ h => h) rfl ?hya6 (fun _ => S0.out) ?resta6
          case hya6 => (intro W; go_simp; (try with_reducible rfl))
          try simp only [List.setIfInBounds_toArray, List.set_cons_zero, List.set_cons_succ]
          refine wpAnyR_pure (i := 7) (oi := _) ?va7 rfl rfl (by kernel_rfl) (by decide) (fun _ _ _ h => h) rfl ?hya7 (fun _ => S0.out) ?resta7
          case hya7 => (intro W; go_simp; (try with_reducible rfl))
          try simp only [List.setIfInBounds_toArray, List.set_cons_zero, List.set_cons_succ]
          refine wpAnyR_pure (i := 8) (oi := _) ?va8 rfl rfl (by kernel_rfl) (by decide) (fun _ _ _ h => h) rfl ?hya8 (fun _ => S0.out) ?resta8
          case hya8 => (intro W; go_simp; (try with_reducible rfl))
          try simp only [List.setIfInBounds_toArray, List.set_cons_zero, List.set_cons_succ]
          refine wpAnyR_take (i := 9) (oi := _) ?va9 rfl rfl (by kernel_rfl) (fun _ _ _ h => h) rfl ?hya9 S0.out ?resta9
          case hya9 => (intro W hW; obtain ⟨E0, E1, E2, E3⟩ := HB.out W hW; go_simp; (try with_reducible rfl))
          try simp only [List.setIfInBounds_toArray, List.set_cons_zero, List.set_cons_succ]
          refine wpAnyR_pure (i := 10) (oi := _) ?va10 rfl rfl (by kernel_rfl) (by decide) (fun _ _ _ h => h) rfl ?hya10 (fun _ => S0.out) ?resta10
          case hya10 => (intro W; go_simp; (try with_reducible rfl))
          try simp only [List.setIfInBounds_toArray, List.set_cons_zero, List.set_cons_succ]
          refine wpAnyR_take (i := 11) (oi := _) ?va11 rfl rfl (by kernel_rfl) (fun _ _ _ h => h) rfl ?hya11 S0.out ?resta11
          case hya11 => (intro W hW; obtain ⟨E0, E1, E2, E3⟩ := HB.out W hW; go_simp; (try with_reducible rfl))
          try simp only [List.setIfInBounds_toArray, List.set_cons_zero, List.set_cons_succ]
          refine wpAnyR_one (i := 12) (by kernel_rfl) rfl (fun K hK => ?_)
          try rw [if_pos (show Region.wanted _ _ = true from rfl)]
          go_simp
          have S1 := Lib.hid (HSS.out _ (bthen HBO.out (below1 wy (Obj.cells #[Value.int .i64 x] 3))))
          refine hK.out _ _ (fun _ => S1.out) ?_
          clear hK K
          try simp only [List.setIfInBounds_toArray, List.set_cons_zero, List.set_cons_succ, Act.put]
          refine wpAnyR_one (i := 13) (by kernel_rfl) rfl (fun K hK => ?_)
          refine step_append_lies _ rfl (.tmp 36) (.tmp 48) 42 rfl wo.heap.size 3 i0 (.int .i64 0) 1 8 Try.underlying42 hi0 hz0 hz1 hz2 rfl (by decide) (.slice A5 zs.length c5) zs.length (zs.map (Value.int .i64)) rfl ?c1 ⟨wy.heap.size, 0, none⟩ 1 1 [.int .i64 x] rfl rfl ?c4 ?c2 (by omega) (by unfold maxLen; omega) (by omega) ?c3 _ rfl ?c5
          case c1 => exact ((HCI.out.own.below HBY.out (Nat.le_refl _)).1).alloc _
          case c4 => exact World.news_of_block (cs := #[.int .i64 x]) (heap_alloc_new wy _)
          case c2 => intro u hu; simp at hu; subst hu; rfl
          case c3 => simp; omega
          case c5 =>
          intro g2 cap w7 hown hgr hat _
          have hcol := HCI.out.push HBY.out hgr hown
          rw [← HN.out] at hcol
          have hlen : zs.length + 1 = ((pickC xss[k] cols).take (j + 1)).length := by rw [HN.out]; simp
          rw [hlen]
          have HC2 := Lib.hid hcol
          clear hcol hlen hown hgr hat
          have S2 := Lib.hid (HSS.out _ HC2.out.below)
          refine hK.out _ _ (fun _ => S2.out) ?_
          clear hK K
          try simp only [List.setIfInBounds_toArray, Act.put]
          refine wpAnyR_one (i := 14) (by kernel_rfl) rfl (fun K hK => ?_)
          go_simp
          refine hK.out _ _ (fun hf => absurd hf (by decide)) ?_
          clear hK K
          refine wpAnyR_done (by kernel_rfl) ?_
          go_wp2_with fail
          go_roundw
          case rel => exact ⟨j + 1, _, _, by omega, by go_num, by simp, HC2.out⟩
          case measure => simp [intOf]; omega
        · have HZ := Lib.hid (show (pickC xss[k] cols).take j = pickC xss[k] cols by rw [show j = (pickC xss[k] cols).length by rw [HLP.out]; omega, List.take_length])
          have HO5 := Lib.hid HCI.out.own
          rw [HZ.out] at HO5 ⊢
          have HBI := Lib.hid hbi
          have HPI := Lib.hid (HOUT.out.on hbi)
          have hlL : k < L.length := by rw [HLn.out]; exact hlt
          have HN := Lib.hid (show putsB (L.take (k + 1)) = putB (putsB (L.take k)) (pickC xss[k] cols) by rw [putsB_take hlL, HLk.out k hlt hlL])
          clear hbi
          have hl1 := (putsB_is L k (by omega)).2.2
          have HL7 := Lib.hid (show ∀ x ∈ putsB (L.take k), x.length ≤ 1048576 from fun x hx => HL6.out x (List.mem_of_mem_take (((putsB_is L k (by omega)).2.1 x).1 hx)))
          obtain ⟨T, hT⟩ : ∃ T, T = pickC xss[k] cols := ⟨_, rfl⟩
          obtain ⟨M, hM⟩ : ∃ M, M = putsB (L.take k) := ⟨_, rfl⟩
          obtain ⟨M2, hM2⟩ : ∃ M2, M2 = putB M T := ⟨_, rfl⟩
          rw [← hT] at HO5 HLP HN ⊢
          rw [← hM] at HPI HN hl1 HL7
          rw [← hM2] at HN
          have q2 : wi.cell? ⟨w.heap.size + 2, 1, none⟩ = some (.slice A' M.length c') := HPI.out.box.cell 1
          have LP := Lib.hid (l3Put_any (.slice A' M.length c') (.slice A5 T.length c5) M T M2 hM2 w5.heap.size wi.heap.size wi HPI.out.rows (HO5.out.mono hsw (Nat.le_refl _)) (Nat.le_refl _) (by omega) (by omega) HL7.out (by rw [HLP.out]; omega))
          clear hT hM hM2 hlL
          go_wp2_with (go_at_call 54; refine LP.out.mono ?_; rintro e w7 ⟨A7, c7, rfl, ho7, hb7⟩; have y9 := HPI.out.box.below hb7 HPI.out.box.lt; have g1 : w7.cell? ⟨w.heap.size + 2, 1, none⟩ = some (.slice A' M.length c') := y9.cell 1; have g1f := y9.frozen 1; have HPU := Lib.hid (HPI.out.put hb7 ho7); clear y9 ho7 hb7)
          go_roundw
          case rel => exact ⟨k + 1, A7, c7, by omega, by go_num, by rw [HN.out]; exact HPU.out.1, HBE.out.trans ((HBI.out.mono (by omega)).trans HPU.out.2)⟩
          case measure => simp [intOf]; omega
    · have hkn : k = L.length := by rw [HLn.out]; omega
      have HO2 := Lib.hid (show PutAt w5.heap.size (w.heap.size + 2) wo cols.length (putsB L) A' c' by have := HOUT.out; rw [hkn, List.take_length] at this; exact this)
      have z1 := HX.out.2.below HBE.out (by omega)
      have b1c0 : wo.cell? ⟨w.heap.size + 1, 0, none⟩ = some (.int .i64 0) := z1.cell 0
      have b1c1 : wo.cell? ⟨w.heap.size + 1, 1, none⟩ = some (.slice none 0 0) := z1.cell 1
      have b1f0 := z1.frozen 0
      have b1f1 := z1.frozen 1
      have d0 : wo.cell? ⟨w.heap.size + 2, 0, none⟩ = some (.int .i64 cols.length) := HO2.out.box.cell 0
      have d1 : wo.cell? ⟨w.heap.size + 2, 1, none⟩ = some (.slice A' (putsB L).length c') := HO2.out.box.cell 1
      obtain ⟨M, hM⟩ : ∃ M, M = putsB L := ⟨_, rfl⟩
      rw [← hM] at HO2 d1 HF
      clear hkn hM HOUT z1
      go_wp2_with fail
      refine bodyPost_ret (v := .agg #[.int .i64 cols.length, .slice A' M.length c']) (by simp [results, Try.results30, go_sem, b1c0, b1c1]) rfl ?_
      rw [HF.out]
      refine ⟨A', c', rfl, ?_, (BW.out.setCell (by simp <;> omega) _).setCell (by simp <;> omega) _⟩
      have hrw := HO2.out.rows
      have h1 := (hrw.only (Only.setCell (Only.refl 0 (w.heap.size + 3) wo) (p := ⟨w.heap.size + 1, 0, none⟩) ⟨Nat.zero_le _, by simp⟩ (.int .i64 cols.length)) (.inr (by omega)))
      have h2 := (h1.only (Only.setCell (Only.refl 0 (w.heap.size + 3) _) (p := ⟨w.heap.size + 1, 1, none⟩) ⟨Nat.zero_le _, by simp⟩ (.slice A' M.length c')) (.inr (by omega)))
      exact h2.mono (by omega) (by simp)

end Go.Proofs.Ytchincemlilnoaa
/-
  Pick of the program.
-/
namespace Go.Proofs.Ytchincemlilnoaa
open Go.RowKit

set_option maxHeartbeats 4000000 in
set_option maxRecDepth 100000 in
theorem implRelPick_any (v : Value) (r : LRel) (col cc : Int) (R : LRel) (hR : R = pickR r col cc) (w : World) (h : RdRel w w.heap.size v r) (hs : szRows r.2 ≤ 1048576) :
    Calls Try.prog 27 #[v, .int .i64 col, .int .i64 cc] w fun e w' => ∃ A' c', e = .returned (.agg #[.int .i64 R.1, .slice A' R.2.length c']) ∧ OwnRows w' w.heap.size w'.heap.size (.slice A' R.2.length c') R.2 ∧ Below w.heap.size w w' := by
  have HR := Lib.hid hR
  clear hR
  obtain ⟨a, rfl, h⟩ := h
  have H := Lib.hid h
  obtain ⟨A, c, rfl, hc, _⟩ := h
  obtain ⟨m, xss⟩ := r
  have HS := Lib.hid hs
  unfold szRows at hs
  simp only at H hc hs HR
  obtain ⟨ok, hok⟩ : ∃ ok, ok = relB (m, xss) := ⟨_, rfl⟩
  go_enter Try.func27, Try.ntmps27
  go_wp2_with fail
  obtain ⟨w3, hw3⟩ : ∃ w3, w3 = (((w.alloc (Obj.cells #[Value.int IntKind.i64 m, Value.slice A xss.length c] 27)).alloc (Obj.cells #[Value.int IntKind.i64 col] 3)).alloc (Obj.cells #[Value.int IntKind.i64 cc] 3)).alloc (Obj.cells #[Value.int IntKind.i64 0, Value.slice none 0 0] 27) := ⟨_, rfl⟩
  have B3 : Below w.heap.size w w3 := by rw [hw3]; exact below4 _ _ _ _ _
  have s3 : w3.heap.size = w.heap.size + 4 := by rw [hw3]; simp
  have x0 : Blk w3 w.heap.size 27 #[.int .i64 m, .slice A xss.length c] := by rw [hw3]; exact (((Blk.new w _ _).alloc _).alloc _).alloc _
  have x1 : Blk w3 (w.heap.size + 1) 3 #[.int .i64 col] := by
    rw [hw3]
    simpa using ((Blk.new (w.alloc (Obj.cells #[Value.int IntKind.i64 m, Value.slice A xss.length c] 27)) 3 #[.int .i64 col]).alloc _).alloc _
  have x2 : Blk w3 (w.heap.size + 2) 3 #[.int .i64 cc] := by
    rw [hw3]
    simpa using (Blk.new ((w.alloc (Obj.cells #[Value.int IntKind.i64 m, Value.slice A xss.length c] 27)).alloc (Obj.cells #[Value.int IntKind.i64 col] 3)) 3 #[.int .i64 cc]).alloc _
  have x3 : Blk w3 (w.heap.size + 3) 27 #[.int .i64 0, .slice none 0 0] := by
    rw [hw3]
    simpa using Blk.new (((w.alloc (Obj.cells #[Value.int IntKind.i64 m, Value.slice A xss.length c] 27)).alloc (Obj.cells #[Value.int IntKind.i64 col] 3)).alloc (Obj.cells #[Value.int IntKind.i64 cc] 3)) 27 #[.int .i64 0, .slice none 0 0]
  rw [← hw3]
  clear hw3
  have CR := implRelOk_any _ (m, xss) _ ⟨_, rfl, H.out.on B3⟩ HS.out
  rw [← hok] at CR
  refine CR.mono ?_
  rintro e w4 ⟨rfl, hb4⟩
  have B4 := bthen B3 hb4
  have s4 := hb4.size
  have y0 := x0.below hb4 x0.lt
  have y1 := x1.below hb4 x1.lt
  have y2 := x2.below hb4 x2.lt
  have y3 := x3.below hb4 x3.lt
  clear x0 x1 x2 x3 CR
  have q0 : w4.cell? ⟨w.heap.size, 0, none⟩ = some (.int .i64 m) := y0.cell 0
  have q1 : w4.cell? ⟨w.heap.size, 1, none⟩ = some (.slice A xss.length c) := y0.cell 1
  have q2 : w4.cell? ⟨w.heap.size + 1, 0, none⟩ = some (.int .i64 col) := y1.cell 0
  have q3 : w4.cell? ⟨w.heap.size + 2, 0, none⟩ = some (.int .i64 cc) := y2.cell 0
  have b1c0 : w4.cell? ⟨w.heap.size + 3, 0, none⟩ = some (.int .i64 0) := y3.cell 0
  have b1c1 : w4.cell? ⟨w.heap.size + 3, 1, none⟩ = some (.slice none 0 0) := y3.cell 1
  have b1f0 := y3.frozen 0
  have b1f1 := y3.frozen 1
  have HOK := Lib.hid hok
  clear hok
  cases ok
  · have HE := Lib.hid (show R = (0, []) by rw [HR.out]; exact pickR_no HOK.out.symm)
    clear q0 q1 q2 q3
    go_wp2_with fail
    refine bodyPost_ret (v := .agg #[.int .i64 0, .slice none 0 0]) (by simp [results, Try.results27, go_sem, b1c0, b1c1]) rfl ?_
    rw [HE.out]
    exact ⟨none, 0, rfl, OwnRows.none _ _ _, (B4.setCell (by simp <;> omega) _).setCell (by simp <;> omega) _⟩
  · have HP := Lib.hid (show RelP (m, xss) from relB_iff.1 HOK.out.symm)
    go_wp2_with fail
    obtain ⟨cb, hcb⟩ : ∃ cb, cb = [col].all (colIn m) := ⟨_, rfl⟩
    obtain ⟨w5, hw5⟩ : ∃ w5, w5 = w4.alloc (Obj.cells #[Value.int IntKind.i64 col] 3) := ⟨_, rfl⟩
    have hb45 : Below w4.heap.size w4 w5 := by rw [hw5]; exact below1 _ _
    have RC : RdInts w5 w5.heap.size (.slice (some ⟨w4.heap.size, 0, none⟩) 1 1) [col] := by rw [hw5]; exact rdInts_one _ _
    rw [← hw5]
    clear hw5
    have B5 := bthen B4 hb45
    refine (hasColumns_is _ _ (m, xss) [col] hcb.symm _ ⟨_, rfl, H.out.on B5⟩ RC (by simp)).mono ?_
    rintro e w6 ⟨rfl, hb56⟩
    have hb6 := bthen hb45 hb56
    have B6 := bthen B4 hb6
    have s6 := hb6.size
    have z0 := y0.below hb6 y0.lt
    have z1 := y1.below hb6 y1.lt
    have z2 := y2.below hb6 y2.lt
    have z3 := y3.below hb6 y3.lt
    clear y0 y1 y2 y3 q0 q1 q2 q3 b1c0 b1c1 b1f0 b1f1 RC hb45 hb56 B5
    have q0 : w6.cell? ⟨w.heap.size, 0, none⟩ = some (.int .i64 m) := z0.cell 0
    have q1 : w6.cell? ⟨w.heap.size, 1, none⟩ = some (.slice A xss.length c) := z0.cell 1
    have q2 : w6.cell? ⟨w.heap.size + 1, 0, none⟩ = some (.int .i64 col) := z1.cell 0
    have q3 : w6.cell? ⟨w.heap.size + 2, 0, none⟩ = some (.int .i64 cc) := z2.cell 0
    have b1c0 : w6.cell? ⟨w.heap.size + 3, 0, none⟩ = some (.int .i64 0) := z3.cell 0
    have b1c1 : w6.cell? ⟨w.heap.size + 3, 1, none⟩ = some (.slice none 0 0) := z3.cell 1
    have b1f0 := z3.frozen 0
    have b1f1 := z3.frozen 1
    have HCB := Lib.hid hcb
    clear hcb
    cases cb
    · have HE := Lib.hid (show R = (0, []) by
        rw [HR.out]
        have h1 := HCB.out.symm
        exact pickR_col (by simpa using h1))
      clear q0 q1 q2 q3
      go_wp2_with fail
      refine bodyPost_ret (v := .agg #[.int .i64 0, .slice none 0 0]) (by simp [results, Try.results27, go_sem, b1c0, b1c1]) rfl ?_
      rw [HE.out]
      exact ⟨none, 0, rfl, OwnRows.none _ _ _, (B6.setCell (by simp <;> omega) _).setCell (by simp <;> omega) _⟩
    · have hcs := HCB.out.symm
      have hcin : colIn m col = true := by simpa using hcs
      have HCI := Lib.hid hcin
      have hcol : 0 ≤ col ∧ col < m := by simpa [colIn] using hcin
      obtain ⟨j, rfl⟩ := Int.eq_ofNat_of_zero_le hcol.1
      have hj : (j : Int) < m := hcol.2
      obtain ⟨p, hp⟩ : ∃ p : List Int → Bool, p = fun row => rowI row (j : Int) == cc := ⟨_, rfl⟩
      have HPP := Lib.hid hp
      clear hp hcin hcol
      have HF := Lib.hid (show R = (m, xss.filter p) by rw [HR.out, HPP.out]; exact pickR_yes HOK.out.symm HCI.out)
      have CT := Lib.hid (fun W u k (hk : k < xss.length) (hbW : Below w6.heap.size w6 W) (hu : RdInts W W.heap.size u xss[k]) => show Calls Try.prog 66 #[u, .pointer (some ⟨w.heap.size + 1, 0, none⟩), .pointer (some ⟨w.heap.size + 2, 0, none⟩)] W fun e w' => e = .returned (.bool (p xss[k])) ∧ Below W.heap.size W w' from by
        rw [HPP.out]
        have hrow : (xss[k].length : Int) = m := HP.out.row hk
        exact pickCl_any u xss[k] _ _ j cc W hu (by omega) ((hbW.cell (World.block_lt_of_cell? _ _ q2)).trans q2) ((hbW.cell (World.block_lt_of_cell? _ _ q3)).trans q3))
      have HX := Lib.hid z3
      clear z0 z1 z2 z3 hcs
      go_wp2_with fail
      refine (rowsThatPick_any _ (m, xss) (w.heap.size + 1) (w.heap.size + 2) p _ ⟨_, rfl, H.out.on B6⟩ HS.out CT.out).mono ?_
      simp only
      rintro e w7 ⟨A7, c7, rfl, ho7, hb7⟩
      have z7 := HX.out.below hb7 HX.out.lt
      clear q0 q1 q2 q3 b1c0 b1c1 b1f0 b1f1
      have b1c0 : w7.cell? ⟨w.heap.size + 3, 0, none⟩ = some (.int .i64 0) := z7.cell 0
      have b1c1 : w7.cell? ⟨w.heap.size + 3, 1, none⟩ = some (.slice none 0 0) := z7.cell 1
      have b1f0 := z7.frozen 0
      have b1f1 := z7.frozen 1
      have B7 := bthen B6 hb7
      have HO := Lib.hid ho7
      clear ho7 z7
      obtain ⟨F, hF⟩ : ∃ F, F = xss.filter p := ⟨_, rfl⟩
      rw [← hF] at HO HF ⊢
      clear hF
      go_wp2_with fail
      refine bodyPost_ret (v := .agg #[.int .i64 m, .slice A7 F.length c7]) (by simp [results, Try.results27, go_sem, b1c0, b1c1]) rfl ?_
      rw [HF.out]
      refine ⟨A7, c7, rfl, ?_, (B7.setCell (by simp <;> omega) _).setCell (by simp <;> omega) _⟩
      have hrw := HO.out
      have h1 := (hrw.only (Only.setCell (Only.refl 0 (w.heap.size + 4) w7) (p := ⟨w.heap.size + 3, 0, none⟩) ⟨Nat.zero_le _, by simp⟩ (.int .i64 m)) (.inr (by omega)))
      have h2 := (h1.only (Only.setCell (Only.refl 0 (w.heap.size + 4) _) (p := ⟨w.heap.size + 3, 1, none⟩) ⟨Nat.zero_le _, by simp⟩ (.slice A7 F.length c7)) (.inr (by omega)))
      exact h2.mono (by omega) (by simp)

end Go.Proofs.Ytchincemlilnoaa
