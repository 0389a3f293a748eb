/-
  Texts that the claim's last one imports, laid together: part 5 of 6. No condition of its own.
-/
import Derived.Maps.OwnSet
import Derived.Maps.Views
import Derived.Test.YtchincemlilnoaaChecked
import Derived.ProofKit
import Derived.OpenShut
import Derived.ChangeOld
import Derived.WalkKit
import Derived.Deep.Slices
import Derived.Deep.Fields
import Derived.ChangeSame
import Derived.Lib.SmallJoins
import Derived.KernelRfl
import Derived.Test.YtchincemlilnoaaMRt1
import Derived.Test.YtchincemlilnoaaMRt2
import Derived.Test.YtchincemlilnoaaMRt3
import Derived.Test.YtchincemlilnoaaMRt4
/-
  A map from integers to rows of values that the call has made: what stands at each number. The words; no walk.
-/
namespace Go.Proofs.Ytchincemlilnoaa
open Go.RowKit Go.ChangeMaps Go.MapKept
open Go.WideElems (Fit rd rg pl rd_val)
open Go.Maps (Keyed IsMap)

theorem Try.keyed : Keyed Try.prog 3 := Go.Maps.int_keyed Try.underlying3
theorem Try.keyOfInt {z : Int} (h : (Lit.int .i64 z).wf = true) : keyOf Try.prog 3 (.int .i64 z) = some (.int .i64 z) := Go.Maps.keyOf_int_mk Try.underlying3 h
theorem wf_small {z : Int} (h0 : 0 ≤ z) (h1 : z ≤ 1048576) : (Lit.int .i64 z).wf = true := by
  simp [Lit.wf, IntKind.min, IntKind.max, IntKind.signed, IntKind.bits]
  omega
/-- No look into the elements. -/
def R0 (_ : Value) : Option (DataW Unit × List MemPlace) := some (.nil, [])

/-- Block b is a map of at most n entries; at z stands a row of the values f z, in blocks from base on, nil where there is no entry; no two keys' rows share a block. -/
structure MapAt (w : World) (b base n : Nat) (f : Int → List Value) (es : Array MapEntry) (clock : Nat) : Prop where
  blk : w.heap[b]? = some (.map es clock)
  fit : Fit Try.prog 3 R0 es clock
  size : es.size ≤ n
  lt : b < base
  vals : ∀ x ∈ es.toList, ∃ z, x.key = .int .i64 z ∧ w.ownsRow base 42 1 x.val (f z).length (f z)
  miss : ∀ z, (∀ x ∈ es.toList, x.key ≠ .int .i64 z) → f z = []
  apart : ∀ x ∈ es.toList, ∀ y ∈ es.toList, x.key ≠ y.key → x.val.ownBlock = none ∨ x.val.ownBlock ≠ y.val.ownBlock

theorem MapAt.made (w : World) : MapAt (w.alloc (.map #[] 0)) w.heap.size (w.heap.size + 1) 0 (fun _ => []) #[] 0 :=
  ⟨(MapKept.heap_alloc w _).1, ⟨by simp, stamped_empty 0, by simp⟩, Nat.le_refl _, Nat.lt_succ_self _, by simp, fun _ _ => rfl, by simp⟩

section
variable {w w' : World} {b base n : Nat} {f : Int → List Value} {es : Array MapEntry} {clock : Nat}
theorem MapAt.bl (h : MapAt w b base n f es clock) : b < w.heap.size := (Array.getElem?_eq_some_iff.1 h.blk).1
theorem MapAt.below (h : MapAt w b base n f es clock) (hb : Below w.heap.size w w') : MapAt w' b base n f es clock :=
  ⟨(hb.block b h.bl).trans h.blk, h.fit, h.size, h.lt, fun x hx => by
    obtain ⟨z, e, ho⟩ := h.vals x hx
    exact ⟨z, e, ownsRow_only ho fun g hg => hb.block g (ho.lt g hg).2⟩, h.miss, h.apart⟩
theorem MapAt.ownsMap (h : MapAt w b base n f es clock) : w.ownsMap Try.prog 3 R0 b n (.map ((es.toList.map (rg Try.prog 3 R0)).foldr DataW.insert [])) := ⟨es, clock, h.blk, h.fit, h.size, rfl⟩
theorem MapAt.keyWf (h : MapAt w b base n f es clock) {x : MapEntry} (hx : x ∈ es.toList) {z : Int} (e : x.key = .int .i64 z) : (Lit.int .i64 z).wf = true := by
  obtain ⟨y, hy⟩ := h.fit.reads x hx
  have m0 := WideElems.rd_key hy
  rw [e] at m0
  unfold keyOf at m0
  by_cases hw : (Lit.int .i64 z).wf = true
  · exact hw
  · exfalso
    simp [Try.underlying3, mapKey, hw] at m0

set_option maxRecDepth 100000 in
/-- What stands at z; and the way back: once its row has grown, or a new one has come, it may be stored there. -/
theorem MapAt.at (h : MapAt w b base n f es clock) (hn : n < maxLen) {z : Int} (hz : (Lit.int .i64 z).wf = true) :
    ∃ v, (Instr.lookup 77 (.map (some b)) (.int .i64 z) false).run Try.prog w = .ok v w ∧ w.ownsRow base 42 1 v (f z).length (f z) ∧
      ∀ (w1 : World) (v' : Value) (vs' : List Value), w.grownBy w1 v.ownBlock → w1.ownsRow base 42 1 v' vs'.length vs' → (v'.ownBlock = v.ownBlock ∨ ∃ g, v'.ownBlock = some g ∧ w.heap.size ≤ g) →
        ∃ w2 es' clock', (Instr.mapUpdate 77 (.map (some b)) (.int .i64 z) v').run Try.prog w1 = .ok () w2 ∧ MapAt w2 b base (n + 1) (fun y => if y = z then vs' else f y) es' clock' ∧ w1.grownBy w2 (some b) := by
  have K := Try.keyed
  have ht := Try.underlying77
  have hkey := Try.keyOfInt hz
  have hzv : (zeroValue 22).run Try.prog w = .ok (.slice none 0 0) w := Try.zeroValue22 w
  obtain ⟨v, hrun, hown, hap⟩ : ∃ v, (Instr.lookup 77 (.map (some b)) (.int .i64 z) false).run Try.prog w = .ok v w ∧ w.ownsRow base 42 1 v (f z).length (f z) ∧
      ∀ x ∈ es.toList, x.key ≠ .int .i64 z → x.val.ownBlock = none ∨ x.val.ownBlock ≠ v.ownBlock := by
    rcases Maps.fit_look false K ht hzv h.blk h.fit hkey with ⟨hrun, hno, _⟩ | ⟨e0, y, hm0, h3, hrun, _⟩
    · refine ⟨.slice none 0 0, hrun, by rw [h.miss z hno]; exact World.ownsRow_nil _ _ _ _, fun x _ _ => ?_⟩
      cases x.val.ownBlock <;> simp [Value.ownBlock]
    · obtain ⟨z', e1, ho⟩ := h.vals e0 hm0
      have : z' = z := by rw [h3] at e1; injection e1 with _ e1; exact e1.symm
      subst this
      exact ⟨e0.val, hrun, ho, fun x hx hne => h.apart x hx e0 hm0 (by rw [h3]; exact hne)⟩
  refine ⟨v, hrun, hown, fun w1 v' vs' hg hown' hloc => ?_⟩
  have hvb : v.ownBlock ≠ some b := fun e1 => by
    have := (hown.lt b e1).1
    have := h.lt
    omega
  have hb1 : w1.heap[b]? = some (.map es clock) := (hg.block b h.bl (fun e1 => hvb e1.symm)).trans h.blk
  obtain ⟨es', clock', hrun', F', hput, _, _, hwho⟩ := Maps.fit_store (R' := R0) K ht hb1 h.fit (Nat.lt_of_le_of_lt h.size hn) (fun _ _ _ _ hz => hz) hkey (show R0 v' = some (.nil, []) from rfl)
  have hg2 : w1.grownBy (setBlock w1 b (.map es' clock')) (some b) := ⟨rfl, rfl, rfl, by simp [setBlock], fun i _ hi => heap_setBlock_other hb1 _ (fun e1 => hi (by rw [e1]))⟩
  have own_ne : ∀ {u : Value} {ys : List Value}, w1.ownsRow base 42 1 u ys.length ys → u.ownBlock = none ∨ u.ownBlock ≠ some b := fun {u ys} ho => by
    cases hu : u.ownBlock with
    | none => exact Or.inl rfl
    | some g =>
      refine Or.inr (fun e1 => ?_)
      have := (ho.lt g hu).1
      have := h.lt
      cases e1
      omega
  -- an old row is what it was
  have old : ∀ x ∈ es.toList, x.key ≠ .int .i64 z → ∃ z', x.key = .int .i64 z' ∧ z' ≠ z ∧ (setBlock w1 b (.map es' clock')).ownsRow base 42 1 x.val (f z').length (f z') := fun x hx hne => by
    obtain ⟨z', e1, ho⟩ := h.vals x hx
    have ho1 := ho.kept hg (hap x hx hne)
    exact ⟨z', e1, fun e => hne (by rw [e1, e]), ho1.kept hg2 (own_ne ho1)⟩
  have old_new : ∀ x ∈ es.toList, x.key ≠ .int .i64 z → x.val.ownBlock = none ∨ x.val.ownBlock ≠ v'.ownBlock := fun x hx hne => by
    rcases hloc with h1 | ⟨g, h1, h2⟩
    · rw [h1]
      exact hap x hx hne
    · cases hx' : x.val.ownBlock with
      | none => exact Or.inl rfl
      | some gx =>
        obtain ⟨z', _, ho⟩ := h.vals x hx
        have := (ho.lt gx hx').2
        refine Or.inr (fun e1 => ?_)
        rw [h1] at e1
        cases e1
        omega
  have hD := h.ownsMap.isMap
  have hput' : DataW.map ((es'.toList.map (rg Try.prog 3 R0)).foldr DataW.insert []) = (DataW.map ((es.toList.map (rg Try.prog 3 R0)).foldr DataW.insert [])).put (.int .i64 z) .nil := by rw [DataW.put_eq, hput]
  have hb2 : (setBlock w1 b (.map es' clock')).heap[b]? = some (.map es' clock') := heap_setBlock_same hb1 _
  have hzv2 : (zeroValue 22).run Try.prog (setBlock w1 b (.map es' clock')) = .ok (.slice none 0 0) (setBlock w1 b (.map es' clock')) := Try.zeroValue22 _
  -- z is there now; another number is there if it was
  have here : ∃ x ∈ es'.toList, x.key = .int .i64 z := by
    rcases Maps.fit_look false K ht hzv2 hb2 F' hkey with ⟨_, _, hat⟩ | ⟨e0, y, hm0, h3, _⟩
    · have h1 := hat (.ptr .nil)
      rw [hput', Maps.atKey_put_same hD (K.key hkey)] at h1
      cases h1
    · exact ⟨e0, hm0, h3⟩
  have stay : ∀ x ∈ es.toList, x.key ≠ .int .i64 z → ∃ x' ∈ es'.toList, x'.key = x.key := fun x hx hne => by
    obtain ⟨z', e1, _⟩ := h.vals x hx
    have hw' := h.keyWf hx e1
    have hkey' := Try.keyOfInt hw'
    rcases Maps.fit_look false K ht hzv2 hb2 F' hkey' with ⟨_, _, hat⟩ | ⟨e0, y, hm0, h3, _⟩
    · exfalso
      have hat2 : ∀ zd, (DataW.map ((es.toList.map (rg Try.prog 3 R0)).foldr DataW.insert [])).atKey (.int .i64 z') zd = zd := fun zd => by
        have h1 := hat zd
        rw [hput', Maps.atKey_put_other (fun e => hne (by rw [e1]; injection e with _ e; rw [e]))] at h1
        exact h1
      rcases Maps.fit_look false K ht hzv h.blk h.fit hkey' with ⟨_, hno, _⟩ | ⟨e0, y, hm0, h3, _, hR, hat3, _⟩
      · exact hno x hx e1
      · have a1 := (hat3 .nil).symm.trans (hat2 .nil)
        have a2 := (hat3 (.ptr .nil)).symm.trans (hat2 (.ptr .nil))
        rw [a1] at a2
        cases a2
    · exact ⟨e0, hm0, h3.trans e1.symm⟩
  refine ⟨_, es', clock', hrun', ⟨hb2, F', ?_, h.lt, fun x hx => ?_, fun y hy => ?_, fun x hx y hy hne => ?_⟩, hg2⟩
  · have e1 : es'.size = ((es'.toList.map (rg Try.prog 3 R0)).foldr DataW.insert []).length := by rw [length_sorted]; simp
    rw [e1, hput]
    unfold putKey
    rw [length_insert]
    have e2 := List.length_filter_le (notKey (.int .i64 z)) ((es.toList.map (rg Try.prog 3 R0)).foldr DataW.insert [])
    rw [length_sorted] at e2
    have := h.size
    simp at e2
    omega
  · rcases hwho x hx with ⟨hx0, hne⟩ | ⟨hk, hv⟩
    · obtain ⟨z', e1, hne', ho⟩ := old x hx0 hne
      exact ⟨z', e1, by simp only [if_neg hne']; exact ho⟩
    · refine ⟨z, hk, ?_⟩
      simp only [if_true]
      rw [hv]
      exact hown'.kept hg2 (own_ne hown')
  · by_cases e : y = z
    · subst e
      obtain ⟨x, hx, hk⟩ := here
      exact absurd hk (hy x hx)
    · simp only [if_neg e]
      refine h.miss y fun x hx hk => ?_
      obtain ⟨x', hx', hk'⟩ := stay x hx (by rw [hk]; intro e2; injection e2 with _ e2; exact e e2)
      exact hy x' hx' (hk'.trans hk)
  · rcases hwho x hx with ⟨hx0, hxk⟩ | ⟨hxk, hxv⟩ <;> rcases hwho y hy with ⟨hy0, hyk⟩ | ⟨hyk, hyv⟩
    · exact h.apart x hx0 y hy0 hne
    · rw [hyv]
      exact old_new x hx0 hxk
    · rw [hxv]
      cases hv' : v'.ownBlock with
      | none => exact Or.inl rfl
      | some g =>
        refine Or.inr (fun e1 => ?_)
        rcases old_new y hy0 hyk with h | h
        · rw [h] at e1
          cases e1
        · exact h (by rw [hv', e1])
    · exact absurd (hxk.trans hyk.symm) hne
end

end Go.Proofs.Ytchincemlilnoaa
/-
  rowsBy: the rows by the number of their constants in some columns.
-/
namespace Go.Proofs.Ytchincemlilnoaa
open Go.RowKit

/-- The values of those of the first k whose key is z. -/
def groupTo (key : Nat → Int) (uv : Nat → Value) (k : Nat) (z : Int) : List Value := ((List.range k).filter fun j => key j == z).map uv
theorem groupTo_zero (key : Nat → Int) (uv : Nat → Value) : groupTo key uv 0 = fun _ => [] := by
  funext z
  simp [groupTo]
theorem groupTo_succ (key : Nat → Int) (uv : Nat → Value) (k : Nat) : groupTo key uv (k + 1) = fun y => if y = key k then groupTo key uv k (key k) ++ [uv k] else groupTo key uv k y := by
  funext y
  unfold groupTo
  rw [List.range_succ, List.filter_append, List.map_append]
  by_cases h : y = key k
  · subst h
    simp
  · rw [if_neg h]
    simp [Ne.symm h]
theorem groupTo_len (key : Nat → Int) (uv : Nat → Value) (k : Nat) (z : Int) : (groupTo key uv k z).length ≤ k := by
  unfold groupTo
  rw [List.length_map]
  exact Nat.le_trans (List.length_filter_le _ _) (by simp)
/-- The number of a row's constants in some columns. -/
def keyN (xss : List (List Int)) (cols : List Int) (k : Nat) : Int := (numF (pickC (xss.getD k []) cols) : Nat)

set_option maxHeartbeats 4000000 in
set_option maxRecDepth 100000 in
theorem rowsBy_any (v v2 : Value) (r : LRel) (cols : List Int) (w : World) (h : RdRel w w.heap.size v r) (h2 : RdInts w w.heap.size v2 cols) (hp : RelP r) (hc : cols.all (colIn r.1) = true) (hn : cols.length ≤ 6) :
    Calls Try.prog 73 #[v, v2] w fun e w' => ∃ b uv es clock, e = .returned (.map (some b)) ∧ w.heap.size ≤ b ∧ MapAt w' b (b + 1) r.2.length (groupTo (keyN r.2 cols) uv r.2.length) es clock ∧
      (∀ k (hk : k < r.2.length), RdInts w w.heap.size (uv k) r.2[k]) ∧ Below w.heap.size w w' := by
  obtain ⟨a, rfl, h⟩ := h
  have H := Lib.hid h
  have H2 := Lib.hid h2
  obtain ⟨A, c, rfl, hcc, hcell⟩ := h
  obtain ⟨A2, c2, rfl, _, _⟩ := h2
  obtain ⟨m, xss⟩ := r
  simp only at H hcc hcell hc
  have HC := Lib.hid hc
  have HP := Lib.hid hp
  have hmany : xss.length ≤ 2000 := hp.many
  obtain ⟨uv, huv⟩ : ∃ uv : Nat → Value, ∀ k (hk : k < xss.length), (∃ b o, A = some ⟨b, o, none⟩ ∧ b < w.heap.size ∧ w.cell? ⟨b, o + k, none⟩ = some (uv k)) ∧ RdInts w w.heap.size (uv k) xss[k] := by
    rcases Nat.eq_zero_or_pos xss.length with h0 | h0
    · exact ⟨fun _ => .slice none 0 0, fun k hk => absurd hk (by omega)⟩
    · obtain ⟨b, o, rfl, hb, hx⟩ := hcell h0
      refine ⟨fun k => (w.cell? ⟨b, o + k, none⟩).getD (.slice none 0 0), fun k hk => ?_⟩
      obtain ⟨u, h1, h3⟩ := hx k hk
      exact ⟨⟨b, o, rfl, hb, by simp [h1]⟩, by simp only [h1, Option.getD_some]; exact h3⟩
  have HUV := Lib.hid huv
  clear hc hp hcell huv
  obtain ⟨i0, hi0, hz0, hz1, hz2⟩ := info_parts Try.infoIntS
  obtain ⟨key, hkey⟩ : ∃ key, key = keyN xss cols := ⟨_, rfl⟩
  simp only
  rw [← hkey]
  have HKEY := Lib.hid hkey
  clear hkey
  have hmm := fun W => run_makeMap (P := Try.prog) 77 W
  go_enter Try.func73, Try.ntmps73
  go_wp2_with fail
  obtain ⟨w2, hw2⟩ : ∃ w2, w2 = (w.alloc (Obj.cells #[Value.int IntKind.i64 m, Value.slice A xss.length c] 27)).alloc (.map #[] 0) := ⟨_, rfl⟩
  have B2 : Below w.heap.size w w2 := by rw [hw2]; exact below2 _ _ _
  have s2 : w2.heap.size = w.heap.size + 2 := by rw [hw2]; simp
  have HM := Lib.hid (show MapAt w2 (w.heap.size + 1) (w.heap.size + 2) 0 (groupTo key uv 0) #[] 0 from by
    rw [hw2, groupTo_zero]
    simpa using MapAt.made (w.alloc (Obj.cells #[Value.int IntKind.i64 m, Value.slice A xss.length c] 27)))
  rw [← hw2]
  have HB2 := Lib.hid B2
  clear hw2 B2
  go_loopw [7, 8, 13] (fun _ _ i wr => ∃ (k : Nat) (es : Array MapEntry) (clock : Nat), k ≤ xss.length ∧ i = .int .i64 k ∧ MapAt wr (w.heap.size + 1) (w.heap.size + 2) k (groupTo key uv k) es clock ∧ Below (w.heap.size + 1) w2 wr) (fun _ _ i _ => xss.length - (intOf i).toNat)
  case atStart => exact ⟨0, #[], 0, Nat.zero_le _, rfl, HM.out, Below.refl _ _⟩
  case round =>
    obtain ⟨k, es, clock, hk, rfl, hm, hbe⟩ := hrel
    have HMA := Lib.hid hm
    have HBE := Lib.hid hbe
    have BW := Lib.hid (show Below w.heap.size w wr from HB2.out.trans (hbe.mono (by omega)))
    have hsw := hbe.size
    clear hm hbe
    by_cases hlt : k < xss.length
    · obtain ⟨⟨b, o, rfl, hb, k0'⟩, r0⟩ := HUV.out k hlt
      have k0 : wr.cell? ⟨b, o + k, none⟩ = some (uv k) := (BW.out.cell (p := ⟨b, o + k, none⟩) hb).trans k0'
      obtain ⟨A3, c3, eu, hc3, hx3⟩ := id r0
      have hrow : (xss[k].length : Int) = m := HP.out.row hlt
      have hcon : xss[k].all constOk = true := (HP.out.rows k hlt hlt).2.2
      obtain ⟨N, hN⟩ : ∃ N, N = numF (pickC xss[k] cols) := ⟨_, rfl⟩
      have hNlt : N < 46656 := by
        have h1 := key_lt (cols := cols) hcon (by rw [hrow]; exact HC.out) (Nat.le_refl _)
        rw [show cols.length = (pickC xss[k] cols).length from (pickC_length _ _).symm, List.take_length, pickC_length] at h1
        have h2 : (6 : Nat) ^ cols.length ≤ 6 ^ 6 := Nat.pow_le_pow_right (by decide) (by omega)
        rw [hN]
        omega
      have HK := Lib.hid (show key k = (N : Int) by rw [HKEY.out, hN]; simp [keyN, hlt])
      have CN := Lib.hid (columnsNumber_any (uv k) _ xss[k] cols wr.heap.size wr ((r0.below BW.out (Nat.le_refl _)).more (by omega)) (H2.out.on BW.out) hcon (by rw [hrow]; exact HC.out) hn)
      rw [← hN] at CN
      obtain ⟨vv, hrun, hown, hback⟩ := HMA.out.at (by unfold maxLen; omega) (z := (N : Int)) (wf_small (by omega) (by omega))
      have HOW := Lib.hid hown
      have HBK := Lib.hid hback
      have hfl := groupTo_len key uv k (N : Int)
      obtain ⟨vs, hvs⟩ : ∃ vs, vs = groupTo key uv k (N : Int) := ⟨_, rfl⟩
      rw [← hvs] at HOW hfl
      have HVS := Lib.hid hvs
      rw [eu] at k0 CN
      have HU := Lib.hid eu
      clear hown hback hN hvs r0 k0' eu hx3 hcon hrow
      go_wp2_with (first
        | (go_at_call 74; refine CN.out.mono ?_; rintro e w' ⟨rfl, rfl⟩)
        | (at_builtin; refine wpList_append_lies _ rfl (.tmp 24) (.tmp 26) 22 rfl (w.heap.size + 2) 42 i0 (.slice none 0 0) 1 24 Try.underlying22 hi0 hz0 hz1 hz2 rfl (by decide) vv vs.length vs rfl ?c1 ⟨wr.heap.size, 0, none⟩ 1 1 [.slice A3 xss[k].length c3] rfl rfl (cell_one_new _ _ _) ?c2 (by omega) (by unfold maxLen; omega) (by omega) ?c3 _ rfl ?_))
      case c1 => exact ownsRow_only HOW.out fun g hg => (below1 wr _).block g (HOW.out.lt g hg).2
      case c2 => intro u hu; simp at hu; subst hu; rfl
      case c3 => simp; omega
      intro g2 cap w5 hown5 hgr5 hat5 _
      have hst := HBK.out w5 (.slice (some ⟨g2, 0, none⟩) (vs.length + 1) cap) (vs ++ [.slice A3 xss[k].length c3]) (grown_from_alloc hgr5) (by simpa using hown5) (by
        rcases hat5 with h | h
        · exact .inl (by rw [h]; rfl)
        · exact .inr ⟨g2, rfl, by rw [h]; simp⟩)
      obtain ⟨w6, es', clock', hrun6, hm6, hg6⟩ := hst
      have HM6 := Lib.hid hm6
      have HG5 := Lib.hid (grown_from_alloc hgr5)
      have HG6 := Lib.hid hg6
      clear hown5 hgr5 hat5 hm6 hg6
      go_wp2_with fail
      have HN := Lib.hid (show MapAt w6 (w.heap.size + 1) (w.heap.size + 2) (k + 1) (groupTo key uv (k + 1)) es' clock' from by
        rw [groupTo_succ, HK.out, ← HVS.out, HU.out]
        exact HM6.out)
      have HBN := Lib.hid (show Below (w.heap.size + 1) w2 w6 from by
        have b1 : Below (w.heap.size + 1) wr w5 := ⟨HG5.out.os, HG5.out.tape, HG5.out.output, HG5.out.size, fun q hq => HG5.out.block q (by omega) fun e => by have := (HOW.out.lt q e.symm).1; omega⟩
        have b2 : Below (w.heap.size + 1) w5 w6 := ⟨HG6.out.os, HG6.out.tape, HG6.out.output, HG6.out.size, fun q hq => HG6.out.block q (by have := HG5.out.size; omega) fun e => by injection e with e; omega⟩
        exact (HBE.out.trans b1).trans b2)
      go_roundw
      case rel => exact ⟨k + 1, es', clock', by omega, by go_num, HN.out, HBN.out⟩
      case measure => simp [intOf]; omega
    · have hkn : k = xss.length := by omega
      have HF := Lib.hid (show MapAt wr (w.heap.size + 1) (w.heap.size + 1 + 1) xss.length (groupTo key uv xss.length) es clock by have := HMA.out; rw [hkn] at this; exact this)
      clear hkn
      go_wp2_with fail
      go_ret
      exact ⟨w.heap.size + 1, uv, es, clock, rfl, by omega, HF.out, fun k hk => (HUV.out k hk).2, BW.out⟩

end Go.Proofs.Ytchincemlilnoaa
/-
  rowsThat by the closure of rowsWithout: the rows for which it says true.
-/
namespace Go.Proofs.Ytchincemlilnoaa
open Go.RowKit

set_option maxHeartbeats 4000000 in
set_option maxRecDepth 100000 in
theorem rowsThatWo_any (v : Value) (r : LRel) (p1 p2 : Nat) (p : List Int → Bool) (w : World) (h : RdRel w w.heap.size v r) (hs : szRows r.2 ≤ 1048576)
    (hcl : ∀ (W : World) (u : Value) (k : Nat) (hk : k < r.2.length), Below w.heap.size w W → RdInts W W.heap.size u r.2[k] → Calls Try.prog 87 #[u, .pointer (some ⟨p1, 0, none⟩), .pointer (some ⟨p2, 0, none⟩)] W fun e w' => e = .returned (.bool (p r.2[k])) ∧ Below W.heap.size W w') :
    Calls Try.prog 65 #[v, .func (.func 87) #[] #[.pointer (some ⟨p1, 0, none⟩), .pointer (some ⟨p2, 0, none⟩)]] w fun e w' =>
      ∃ A' c', e = .returned (.agg #[.int .i64 r.1, .slice A' (r.2.filter p).length c']) ∧ OwnRows w' w.heap.size w'.heap.size (.slice A' (r.2.filter p).length c') (r.2.filter p) ∧ Below w.heap.size w w' := by
  obtain ⟨a, rfl, h⟩ := h
  have H := Lib.hid h
  obtain ⟨A, c, rfl, hc, _⟩ := h
  obtain ⟨m, xss⟩ := r
  unfold szRows at hs
  simp only at H hc hs hcl
  have HCL := Lib.hid hcl
  clear hcl
  obtain ⟨F, hF⟩ : ∃ F, F = xss.filter p := ⟨_, rfl⟩
  rw [← hF]
  have HF := Lib.hid hF
  clear hF
  obtain ⟨i0, hi0, hz0, hz1, hz2⟩ := info_parts Try.infoIntS
  obtain ⟨i1, hi1, hy0, hy1, hy2⟩ := info_parts Try.infoInt
  go_enter Try.func65, Try.ntmps65
  go_wp2_with fail
  obtain ⟨w3, hw3⟩ : ∃ w3, w3 = ((w.alloc (Obj.cells #[Value.int IntKind.i64 m, Value.slice A xss.length c] 27)).alloc (Obj.cells #[Value.int IntKind.i64 0, Value.slice none 0 0] 27)).alloc (Obj.cells #[Value.int IntKind.i64 m, Value.slice none 0 0] 27) := ⟨_, rfl⟩
  have B3 : Below w.heap.size w w3 := by rw [hw3]; exact below3 _ _ _ _
  have s3 : w3.heap.size = w.heap.size + 3 := by rw [hw3]; simp
  have x1 : Blk w3 (w.heap.size + 1) 27 #[.int .i64 0, .slice none 0 0] := by
    rw [hw3]
    simpa using (Blk.new (w.alloc (Obj.cells #[Value.int IntKind.i64 m, Value.slice A xss.length c] 27)) 27 #[.int .i64 0, .slice none 0 0]).alloc _
  have x2 : Blk w3 (w.heap.size + 2) 27 #[.int .i64 m, .slice none 0 0] := by
    rw [hw3]
    simpa using Blk.new ((w.alloc (Obj.cells #[Value.int IntKind.i64 m, Value.slice A xss.length c] 27)).alloc (Obj.cells #[Value.int IntKind.i64 0, Value.slice none 0 0] 27)) 27 #[.int .i64 m, .slice none 0 0]
  rw [← hw3]
  clear hw3
  have HO := Lib.hid (show OutAt w3.heap.size (w.heap.size + 2) w3 m [] none 0 [] from OutAt.empty x2 (by omega) (Nat.le_refl _))
  have HX := Lib.hid x1
  have HB3 := Lib.hid B3
  clear x1 x2 B3
  go_loopw [7, 14] (fun _ i wr => ∃ (k : Nat) (A' : Option Addr) (c' : Nat) (av : List Value), k ≤ xss.length ∧ i = .int .i64 k ∧ OutAt w3.heap.size (w.heap.size + 2) wr m ((xss.take k).filter p) A' c' av ∧ Below (w.heap.size + 2) w3 wr) (fun _ i _ => xss.length - (intOf i).toNat)
  case atStart => exact ⟨0, none, 0, [], Nat.zero_le _, rfl, by simpa using HO.out, Below.refl _ _⟩
  case round =>
    obtain ⟨k, A', c', av, hk, rfl, hout, hbe⟩ := hrel
    have HOUT := Lib.hid hout
    have HBE := Lib.hid hbe
    have BW := Lib.hid (show Below w.heap.size w wr from HB3.out.trans (hbe.mono (by omega)))
    have hsw := hbe.size
    clear hout hbe
    by_cases hlt : k < xss.length
    · obtain ⟨b, o, A2, c2, rfl, hbB, k0, r0⟩ := (H.out.below BW.out (Nat.le_refl _)).get hlt
      have hln := totSS_at xss k hlt
      obtain ⟨bp, hbp⟩ : ∃ bp, bp = p xss[k] := ⟨_, rfl⟩
      have hsw2 : w.heap.size ≤ wr.heap.size := by omega
      have CL := HCL.out wr (.slice A2 xss[k].length c2) k hlt BW.out (r0.more hsw2)
      rw [← hbp] at CL
      have HC := Lib.hid CL
      have HBP := Lib.hid hbp
      have HR0 := Lib.hid r0
      clear CL hbp r0
      cases bp
      · have HN := Lib.hid (show (xss.take (k + 1)).filter p = (xss.take k).filter p from filter_take_no hlt HBP.out.symm)
        go_wp2_with (go_at_call 87; refine HC.out.mono ?_; rintro e w2 ⟨rfl, hb2⟩; have HB2 := Lib.hid hb2; clear hb2)
        have hs2 := HB2.out.size
        have HO2 := Lib.hid (HOUT.out.on HB2.out)
        have HBE2 := Lib.hid (HBE.out.trans (HB2.out.mono (show w.heap.size + 2 ≤ wr.heap.size by omega)))
        have HR2 := Lib.hid ((HR0.out.more hsw2).on HB2.out)
        clear HOUT
        go_roundw
        case rel => exact ⟨k + 1, _, _, _, by omega, by go_num, by rw [HN.out]; exact HO2.out, HBE2.out⟩
        case measure => simp [intOf]; omega
      · have HN := Lib.hid (show (xss.take (k + 1)).filter p = (xss.take k).filter p ++ [xss[k]] from filter_take_yes hlt HBP.out.symm)
        have hfl := filter_len_le p xss k
        go_upto_region 6 with (go_at_call 87; refine HC.out.mono ?_; rintro e w2 ⟨rfl, hb2⟩; have HB2 := Lib.hid hb2; clear hb2)
        have hs2 := HB2.out.size
        have HO2 := Lib.hid (HOUT.out.on HB2.out)
        have HBE2 := Lib.hid (HBE.out.trans (HB2.out.mono (show w.heap.size + 2 ≤ wr.heap.size by omega)))
        have HR2 := Lib.hid ((HR0.out.more hsw2).on HB2.out)
        clear HOUT
        obtain ⟨M, hM⟩ : ∃ M, M = (xss.take k).filter p := ⟨_, rfl⟩
        rw [← hM] at HO2 HN hfl
        clear hM
        have q2 : w2.cell? ⟨w.heap.size + 2, 1, none⟩ = some (.slice A' M.length c') := HO2.out.box.cell 1
        obtain ⟨SS, hSS⟩ : ∃ SS : World → Prop, SS = (fun W => W.cell? ⟨w.heap.size + 2, 1, none⟩ = some (.slice A' M.length c')) := ⟨_, rfl⟩
        have HSS := Lib.hid (show ∀ W, Below w3.heap.size w2 W → SS W from by
          rw [hSS]
          exact fun W hW => (hW.cell (p := ⟨w.heap.size + 2, 1, none⟩) (by simp; omega)).trans q2)
        have HB := Lib.hid (show ∀ W, SS W → (W.cell? ⟨w.heap.size + 2, 1, none⟩ = some (.slice A' M.length c') ∧ True) from by rw [hSS]; exact fun W hW => ⟨hW, trivial⟩)
        clear hSS q2
        refine wp_region_rel SS 7 8 (by kernel_rfl) rfl ?_
        obtain ⟨wy, hwy⟩ : ∃ wy, wy = w2.drew := ⟨_, rfl⟩
        have HBY := Lib.hid (show Below w2.heap.size w2 wy by rw [hwy]; exact (Below.refl _ _).drew)
        rw [← hwy]
        clear hwy
        have hsy := HBY.out.size
        have S0 := Lib.hid (HSS.out _ (HBY.out.mono (show w3.heap.size ≤ w2.heap.size by omega)))
        refine wpAnyR_pure (i := 0) (oi := _) ?va0 rfl rfl (by kernel_rfl) (by decide) (fun _ _ _ h => h) rfl ?hya0 (fun _ => S0.out) ?resta0
        case hya0 => (intro W; go_simp; (try with_reducible rfl))
        try simp only [List.setIfInBounds_toArray, List.set_cons_zero, List.set_cons_succ]
        refine wpAnyR_take (i := 1) (oi := _) ?va1 rfl rfl (by kernel_rfl) (fun _ _ _ h => h) rfl ?hya1 S0.out ?resta1
        case hya1 => (intro W hW; obtain ⟨E0, _⟩ := HB.out W hW; go_simp; (try with_reducible rfl))
        try simp only [List.setIfInBounds_toArray, List.set_cons_zero, List.set_cons_succ]
        refine wpAnyR_pure (i := 2) (oi := _) ?va2 rfl rfl (by kernel_rfl) (by decide) (fun _ _ _ h => h) rfl ?hya2 (fun _ => S0.out) ?resta2
        case hya2 => (intro W; go_simp; (try with_reducible rfl))
        try simp only [List.setIfInBounds_toArray, List.set_cons_zero, List.set_cons_succ]
        refine wpAnyR_one (i := 3) (by kernel_rfl) rfl (fun K hK => ?_)
        refine step_append_rd _ rfl (.const (.slice none 0 0)) (.tmp 23) 42 rfl wy.heap.size 3 i1 (.int .i64 0) 8 Try.underlying42 hi1 hy0 hy1 hy2 rfl (.slice none 0 0) 0 [] rfl (World.ownsRow_nil _ _ _ _) wy.heap.size _ xss[k] rfl ?d1 (by unfold maxLen; omega) (by omega) (Nat.le_refl _) ?d2
        case d1 => exact HR2.out.on HBY.out
        case d2 =>
        intro A6 c6 w6 hown6 hg6 hat6
        have HO6 := Lib.hid (show OwnInts w6 wy.heap.size w6.heap.size (.slice A6 xss[k].length c6) xss[k] from ⟨by simpa using hown6, fun g hg' => (hown6.lt g (by simpa using hg')).2⟩)
        have HB6 := Lib.hid (show Below wy.heap.size wy w6 from Below.grown (Below.refl _ _) hg6 (Nat.le_refl _) (fun k hk => by cases hk))
        have HB26 := Lib.hid (bthen HBY.out HB6.out)
        have S1 := Lib.hid (HSS.out w6 (HB26.out.mono (show w3.heap.size ≤ w2.heap.size by omega)))
        simp only [Nat.zero_add]
        clear hown6 hg6 hat6
        refine hK.out _ _ (fun _ => S1.out) ?_
        clear hK K
        try simp only [List.setIfInBounds_toArray, Act.put]
        refine wpAnyR_one (i := 4) (by kernel_rfl) rfl (fun K hK => ?_)
        try rw [if_pos (show Region.wanted _ _ = true from rfl)]
        go_simp
        have S2 := Lib.hid (HSS.out _ ((bthen HB26.out (below1 w6 (Obj.cells #[Value.slice A6 xss[k].length c6] 42))).mono (show w3.heap.size ≤ w2.heap.size by omega)))
        refine hK.out _ _ (fun _ => S2.out) ?_
        clear hK K
        try simp only [List.setIfInBounds_toArray, List.set_cons_zero, List.set_cons_succ, Act.put]
        refine wpAnyR_one (i := 5) (by kernel_rfl) rfl (fun K hK => ?_)
        refine step_append_lies _ rfl (.tmp 22) (.tmp 25) 22 rfl w3.heap.size 42 i0 (.slice none 0 0) 1 24 Try.underlying22 hi0 hz0 hz1 hz2 rfl (by decide) (.slice A' M.length c') M.length av rfl ?c1 ⟨w6.heap.size, 0, none⟩ 1 1 [.slice A6 xss[k].length c6] rfl rfl ?c4 ?c2 (by omega) (by unfold maxLen; omega) (by omega) ?c3 _ rfl ?c5
        case c1 => exact (HO2.out.on HB26.out).row.alloc _
        case c4 => exact World.news_of_block (cs := #[.slice A6 xss[k].length c6]) (heap_alloc_new w6 _)
        case c2 => intro u hu; simp at hu; subst hu; rfl
        case c3 => have := HB26.out.size; simp; omega
        case c5 =>
        intro g2 cap w7 hown hgr hat _
        have hpush := HO2.out.push (xs := xss[k]) HB26.out (HO6.out.mono hsy (Nat.le_refl _)) hgr hown
        have hgrown := HO2.out.grown HB26.out hgr
        have S3 := Lib.hid (HSS.out w7 hgrown)
        have hbx := HO2.out.box.below hgrown (by omega)
        have g1 : w7.cell? ⟨w.heap.size + 2, 1, none⟩ = some (.slice A' M.length c') := hbx.cell 1
        have g1f := hbx.frozen 1
        have HPU := Lib.hid hpush
        clear hpush hown hgr hat hgrown hbx
        refine hK.out _ _ (fun _ => S3.out) ?_
        clear hK K
        try simp only [List.setIfInBounds_toArray, Act.put]
        refine wpAnyR_pure (i := 6) (oi := _) ?vb6 rfl rfl (by kernel_rfl) (by decide) (fun _ _ _ h => h) rfl ?hyb6 (fun _ => S3.out) ?restb6
        case hyb6 => (intro W; go_simp; (try with_reducible rfl))
        try simp only [List.setIfInBounds_toArray, List.set_cons_zero, List.set_cons_succ]
        refine wpAnyR_one (i := 7) (by kernel_rfl) rfl (fun K hK => ?_)
        go_simp
        refine hK.out _ _ (fun hf => absurd hf (by decide)) ?_
        clear hK K
        refine wpAnyR_done (by kernel_rfl) ?_
        go_wp2_with fail
        go_roundw
        case rel => exact ⟨k + 1, _, _, _, by omega, by go_num, by rw [HN.out]; exact HPU.out.1, HBE2.out.trans HPU.out.2⟩
        case measure => simp [intOf]; omega
    · have hkn : k = xss.length := by omega
      have HO2 := Lib.hid (show OutAt w3.heap.size (w.heap.size + 2) wr m (xss.filter p) A' c' av by have := HOUT.out; rw [hkn, List.take_length] at this; exact this)
      have z1 := HX.out.below HBE.out (by omega)
      have b1c0 : wr.cell? ⟨w.heap.size + 1, 0, none⟩ = some (.int .i64 0) := z1.cell 0
      have b1c1 : wr.cell? ⟨w.heap.size + 1, 1, none⟩ = some (.slice none 0 0) := z1.cell 1
      have b1f0 := z1.frozen 0
      have b1f1 := z1.frozen 1
      have d0 : wr.cell? ⟨w.heap.size + 2, 0, none⟩ = some (.int .i64 m) := HO2.out.box.cell 0
      have d1 : wr.cell? ⟨w.heap.size + 2, 1, none⟩ = some (.slice A' (xss.filter p).length c') := HO2.out.box.cell 1
      rw [← HF.out] at HO2 d1
      clear hkn HOUT z1
      go_wp2_with fail
      refine bodyPost_ret (v := .agg #[.int .i64 m, .slice A' F.length c']) (by simp [results, Try.results65, go_sem, b1c0, b1c1]) rfl ?_
      refine ⟨A', c', rfl, ?_, (BW.out.setCell (by simp) _).setCell (by simp) _⟩
      have hrw := HO2.out.rows
      have h1 := (hrw.only (Only.setCell (Only.refl 0 (w.heap.size + 3) wr) (p := ⟨w.heap.size + 1, 0, none⟩) ⟨Nat.zero_le _, by simp⟩ (.int .i64 m)) (.inr (by omega)))
      have h2 := (h1.only (Only.setCell (Only.refl 0 (w.heap.size + 3) _) (p := ⟨w.heap.size + 1, 1, none⟩) ⟨Nat.zero_le _, by simp⟩ (.slice A' F.length c')) (.inr (by omega)))
      exact h2.mono (by omega) (by simp)

end Go.Proofs.Ytchincemlilnoaa
/-
  rowsWithout, and the closure that it hands on.
-/
namespace Go.Proofs.Ytchincemlilnoaa
open Go.RowKit Go.ChangeMaps Go.MapKept
open Go.WideElems (Fit rd rg pl rd_val rg_of rd_key)

theorem apart_one {α β : Type} {g : α → β} : ∀ {l : List α}, l.Pairwise (fun a b => g a ≠ g b) → ∀ {a b : α}, a ∈ l → b ∈ l → g a = g b → a = b
  | [], _, a, _, h, _, _ => by cases h
  | x :: l, hp, a, b, ha, hb, e => by
    rw [List.pairwise_cons] at hp
    rcases List.mem_cons.1 ha with e1 | ha2 <;> rcases List.mem_cons.1 hb with e2 | hb2
    · rw [e1, e2]
    · exact absurd e (by rw [e1]; exact hp.1 b hb2)
    · exact absurd e.symm (by rw [e2]; exact hp.1 a ha2)
    · exact apart_one hp.2 ha2 hb2 e
set_option maxRecDepth 100000 in
/-- What a look-up hands back hangs on the map's block alone. -/
theorem MapAt.look {w : World} {b base n : Nat} {f : Int → List Value} {es : Array MapEntry} {clock : Nat} (h : MapAt w b base n f es clock) {z : Int} (hz : (Lit.int .i64 z).wf = true) :
    ∃ v, (∀ w' : World, w'.heap[b]? = w.heap[b]? → (Instr.lookup 77 (.map (some b)) (.int .i64 z) false).run Try.prog w' = .ok v w') ∧ w.ownsRow base 42 1 v (f z).length (f z) := by
  have K := Try.keyed
  have ht := Try.underlying77
  have hkey := Try.keyOfInt hz
  have hzv : ∀ W : World, (zeroValue 22).run Try.prog W = .ok (.slice none 0 0) W := Try.zeroValue22
  by_cases hex : ∃ e0 ∈ es.toList, e0.key = .int .i64 z
  · obtain ⟨e0, h0, hk⟩ := hex
    refine ⟨e0.val, fun w' hw => ?_, ?_⟩
    · rcases Maps.fit_look false K ht (hzv w') (hw.trans h.blk) h.fit hkey with ⟨_, hno, _⟩ | ⟨e1, y, h1, hk1, hrun, _⟩
      · exact absurd hk (hno e0 h0)
      · have : e1 = e0 := by
          have hp := Maps.fit_apart K h.fit
          rw [List.pairwise_map] at hp
          refine apart_one (g := fun x => (rg Try.prog 3 R0 x).1) hp h1 h0 ?_
          obtain ⟨y0, hy0⟩ := h.fit.reads e0 h0
          obtain ⟨y1, hy1⟩ := h.fit.reads e1 h1
          have m0 := rd_key hy0
          have m1 := rd_key hy1
          rw [hk] at m0
          rw [hk1] at m1
          rw [rg_of hy0, rg_of hy1]
          exact Option.some.inj (m1.symm.trans m0)
        rw [← this]
        exact hrun
    · obtain ⟨z', e, ho⟩ := h.vals e0 h0
      rw [hk] at e
      injection e with _ e
      rw [e]
      exact ho
  · have hno : ∀ x ∈ es.toList, x.key ≠ .int .i64 z := fun x hx e => hex ⟨x, hx, e⟩
    refine ⟨.slice none 0 0, fun w' hw => ?_, by rw [h.miss z hno]; exact World.ownsRow_nil _ _ _ _⟩
    rcases Maps.fit_look false K ht (hzv w') (hw.trans h.blk) h.fit hkey with ⟨hrun, _⟩ | ⟨e1, y, h1, hk1, _⟩
    · exact hrun
    · exact absurd hk1 (hno e1 h1)

/-- A row fits none. -/
def woB (yss : List (List Int)) (left right row : List Int) : Bool := !yss.any fun y => decide (pickC row left = pickC y right)
theorem groupTo_nil {key : Nat → Int} {uv : Nat → Value} {n : Nat} {z : Int} : groupTo key uv n z = [] ↔ ∀ k, k < n → key k ≠ z := by
  unfold groupTo
  rw [List.map_eq_nil_iff, List.filter_eq_nil_iff]
  simp
theorem group_wo {b : LRel} {left right row : List Int} {uv : Nat → Value} (hb : RelP b) (hr : row.all constOk = true) (hc : left.all (colIn row.length) = true) (hc2 : right.all (colIn b.1) = true) (hl : left.length = right.length) :
    (((groupTo (keyN b.2 right) uv b.2.length (numF (pickC row left) : Nat)).length : Int) == 0) = woB b.2 left right row := by
  have hk : ∀ k (h : k < b.2.length), keyN b.2 right k = (numF (pickC row left) : Nat) ↔ pickC row left = pickC b.2[k] right := fun k h => by
    have h1 := hb.rows k h h
    have e : b.2.getD k [] = b.2[k] := by simp [h]
    unfold keyN
    rw [e]
    constructor
    · intro e2
      exact (numF_inj6 (pickC_ok h1.2.2 (by rw [h1.1]; exact hc2)) (pickC_ok hr hc) (by rw [pickC_length, pickC_length, hl]) (by omega)).symm
    · intro e2
      rw [e2]
  unfold woB
  by_cases h : b.2.any (fun y => decide (pickC row left = pickC y right)) = true
  · rw [h]
    obtain ⟨y, hy, hd⟩ := List.any_eq_true.1 h
    obtain ⟨k, hk2, rfl⟩ := List.getElem_of_mem hy
    have hne : groupTo (keyN b.2 right) uv b.2.length (numF (pickC row left) : Nat) ≠ [] := fun e => groupTo_nil.1 e k hk2 ((hk k hk2).2 (by simpa using hd))
    have := List.length_pos_iff.2 hne
    simp
    omega
  · have h2 : b.2.any (fun y => decide (pickC row left = pickC y right)) = false := by simpa using h
    rw [h2]
    have : groupTo (keyN b.2 right) uv b.2.length (numF (pickC row left) : Nat) = [] := groupTo_nil.2 fun k hk2 e => h (List.any_eq_true.2 ⟨b.2[k], List.getElem_mem hk2, by simpa using (hk k hk2).1 e⟩)
    rw [this]
    rfl

set_option maxHeartbeats 2000000 in
set_option maxRecDepth 100000 in
theorem woCl_any (u vl : Value) (row left : List Int) (p1 p2 b base n : Nat) (f : Int → List Value) (es : Array MapEntry) (clock : Nat) (w : World) (h : RdInts w w.heap.size u row) (hr : row.all constOk = true) (hc : left.all (colIn row.length) = true) (hl : left.length ≤ 6)
    (h1 : w.cell? ⟨p1, 0, none⟩ = some (.map (some b))) (h2 : w.cell? ⟨p2, 0, none⟩ = some vl) (hvl : RdInts w w.heap.size vl left) (hm : MapAt w b base n f es clock) :
    Calls Try.prog 87 #[u, .pointer (some ⟨p1, 0, none⟩), .pointer (some ⟨p2, 0, none⟩)] w fun e w' => e = .returned (.bool (((f (numF (pickC row left) : Nat)).length : Int) == 0)) ∧ Below w.heap.size w w' := by
  have hNlt : numF (pickC row left) < 46656 := by
    have h1 := key_lt (cols := left) hr hc (Nat.le_refl _)
    rw [show left.length = (pickC row left).length from (pickC_length _ _).symm, List.take_length, pickC_length] at h1
    have h2 : (6 : Nat) ^ left.length ≤ 6 ^ 6 := Nat.pow_le_pow_right (by decide) (by omega)
    omega
  have CN := Lib.hid (fun n => quiet_left (columnsNumber_any u vl row left w.heap.size (w.drewN n) (h.below (bdrewN (Below.refl _ _) n) (Nat.le_refl _)) (hvl.below (bdrewN (Below.refl _ _) n) (Nat.le_refl _)) hr hc hl))
  obtain ⟨N, hN⟩ : ∃ N, N = numF (pickC row left) := ⟨_, rfl⟩
  rw [← hN] at CN hNlt ⊢
  obtain ⟨vv, hlk, how⟩ := hm.look (z := (N : Int)) (wf_small (by omega) (by omega))
  have hlk2 : ∀ n, (Instr.lookup 77 (.map (some b)) (.int .i64 (N : Int)) false).run Try.prog (w.drewN n) = .ok vv (w.drewN n) := fun n => hlk _ rfl
  obtain ⟨A, c, rfl, _, _⟩ := h
  obtain ⟨A2, c2, rfl, _, _⟩ := hvl
  obtain ⟨L, hL⟩ : ∃ L, L = (f (N : Int)).length := ⟨_, rfl⟩
  have hform : ∃ A5 c5, vv = .slice A5 L c5 := by
    rw [hL]
    rcases how.2 with ⟨rfl, h0⟩ | ⟨g, cap, _, rfl, _⟩
    · exact ⟨none, 0, by rw [h0]⟩
    · exact ⟨_, _, rfl⟩
  obtain ⟨A5, c5, rfl⟩ := hform
  rw [← hL]
  clear hlk how hm hN hL
  go_enter Try.func87, Try.ntmps87
  go_wp2_with fail
  go_quiet ((go_at_call 74; exact CN.out _))
  go_wp2_with fail
  go_ret
  exact ⟨rfl, bdrewN (Below.refl _ _) _⟩

end Go.Proofs.Ytchincemlilnoaa
/-
  rowsWithout and RelWithout of the program.
-/
namespace Go.Proofs.Ytchincemlilnoaa
open Go.RowKit

set_option maxHeartbeats 4000000 in
set_option maxRecDepth 100000 in
theorem rowsWithout_any (v0 v1 v2 v3 : Value) (a b : LRel) (left right : List Int) (F : List (List Int)) (hF : F = a.2.filter (woB b.2 left right)) (w : World) (h0 : RdRel w w.heap.size v0 a) (h1 : RdRel w w.heap.size v1 b) (h2 : RdInts w w.heap.size v2 left) (h3 : RdInts w w.heap.size v3 right)
    (s0 : szRows a.2 ≤ 1048576) (hp : PairsP a b left right) :
    Calls Try.prog 78 #[v0, v1, v2, v3] w fun e w' => ∃ A' c', e = .returned (.agg #[.int .i64 a.1, .slice A' F.length c']) ∧ OwnRows w' w.heap.size w'.heap.size (.slice A' F.length c') F ∧ Below w.heap.size w w' := by
  obtain ⟨a0, rfl, h0⟩ := h0
  have H0 := Lib.hid h0
  obtain ⟨A, c, rfl, _, _⟩ := h0
  obtain ⟨a1, rfl, h1⟩ := h1
  have H1 := Lib.hid h1
  obtain ⟨A1, c1, rfl, _, _⟩ := h1
  have H2 := Lib.hid h2
  obtain ⟨A2, c2, rfl, _, _⟩ := h2
  have H3 := Lib.hid h3
  obtain ⟨A3, c3, rfl, _, _⟩ := h3
  obtain ⟨m, xss⟩ := a
  obtain ⟨n, yss⟩ := b
  have HP := Lib.hid hp
  have HF := Lib.hid hF
  simp only at H0 H1 s0 HF
  clear hF hp
  go_enter Try.func78, Try.ntmps78
  go_wp2_with fail
  obtain ⟨w3, hw3⟩ : ∃ w3, w3 = (((w.alloc (Obj.cells #[Value.int IntKind.i64 m, Value.slice A xss.length c] 27)).alloc (Obj.cells #[Value.int IntKind.i64 n, Value.slice A1 yss.length c1] 27)).alloc (Obj.cells #[Value.slice A2 left.length c2] 42)).alloc (Obj.cells #[Value.int IntKind.i64 0, Value.slice none 0 0] 27) := ⟨_, rfl⟩
  have B3 : Below w.heap.size w w3 := by rw [hw3]; exact below4 _ _ _ _ _
  have s3 : w3.heap.size = w.heap.size + 4 := by rw [hw3]; simp
  have x0 : Blk w3 w.heap.size 27 #[.int .i64 m, .slice A xss.length c] := by rw [hw3]; exact (((Blk.new w _ _).alloc _).alloc _).alloc _
  have x2 : Blk w3 (w.heap.size + 2) 42 #[.slice A2 left.length c2] := by
    rw [hw3]
    simpa using (Blk.new ((w.alloc (Obj.cells #[Value.int IntKind.i64 m, Value.slice A xss.length c] 27)).alloc (Obj.cells #[Value.int IntKind.i64 n, Value.slice A1 yss.length c1] 27)) 42 #[.slice A2 left.length c2]).alloc _
  have x3 : Blk w3 (w.heap.size + 3) 27 #[.int .i64 0, .slice none 0 0] := by
    rw [hw3]
    simpa using Blk.new (((w.alloc (Obj.cells #[Value.int IntKind.i64 m, Value.slice A xss.length c] 27)).alloc (Obj.cells #[Value.int IntKind.i64 n, Value.slice A1 yss.length c1] 27)).alloc (Obj.cells #[Value.slice A2 left.length c2] 42)) 27 #[.int .i64 0, .slice none 0 0]
  rw [← hw3]
  clear hw3
  refine (rowsBy_any _ _ (n, yss) right _ ⟨_, rfl, H1.out.on B3⟩ (H3.out.on B3) HP.out.rb HP.out.cr (by have := HP.out.few; have := HP.out.len; omega)).mono ?_
  rintro e w4 ⟨bm, uv, es, clock, rfl, hbm, hm, _, hb4⟩
  simp only at hm
  have B4 := bthen B3 hb4
  have s4 := hb4.size
  have y0 := x0.below hb4 x0.lt
  have y2 := x2.below hb4 x2.lt
  have y3 := x3.below hb4 x3.lt
  have HM := Lib.hid hm
  clear x0 x2 x3 hm hbm
  go_upto_region 2 with fail
  obtain ⟨w5, hw5⟩ : ∃ w5, w5 = w4.alloc (Obj.cells #[Value.map (some bm)] 77) := ⟨_, rfl⟩
  have hb45 : Below w4.heap.size w4 w5 := by rw [hw5]; exact below1 _ _
  have x9 : Blk w5 w4.heap.size 77 #[.map (some bm)] := by rw [hw5]; exact Blk.new _ _ _
  obtain ⟨p1, hp1⟩ : ∃ p1, p1 = w4.heap.size := ⟨_, rfl⟩
  rw [← hw5]
  rw [← hp1] at x9 ⊢
  have B5 := bthen B4 hb45
  have z0 := y0.below hb45 y0.lt
  have z2 := y2.below hb45 y2.lt
  have z3 := y3.below hb45 y3.lt
  have HM5 := Lib.hid (HM.out.below hb45)
  have s5 := hb45.size
  clear hw5 y0 y2 y3 hp1
  have q0 : w5.cell? ⟨w.heap.size, 0, none⟩ = some (.int .i64 m) := z0.cell 0
  have q1 : w5.cell? ⟨w.heap.size, 1, none⟩ = some (.slice A xss.length c) := z0.cell 1
  have HX := Lib.hid (And.intro x9 (And.intro z2 z3))
  obtain ⟨p, hpp⟩ : ∃ p, p = woB yss left right := ⟨_, rfl⟩
  have HPP := Lib.hid hpp
  have CT := Lib.hid (fun W u k (hk : k < xss.length) (hbW : Below w5.heap.size w5 W) (hu : RdInts W W.heap.size u xss[k]) => show Calls Try.prog 87 #[u, .pointer (some ⟨p1, 0, none⟩), .pointer (some ⟨w.heap.size + 2, 0, none⟩)] W fun e w' => e = .returned (.bool (p xss[k])) ∧ Below W.heap.size W w' from by
    have hrow : (xss[k].length : Int) = m := HP.out.ra.row hk
    have hcon : xss[k].all constOk = true := (HP.out.ra.rows k hk hk).2.2
    have hcl : left.all (colIn xss[k].length) = true := by rw [hrow]; exact HP.out.cl
    rw [HPP.out, ← group_wo (b := (n, yss)) (uv := uv) HP.out.rb hcon hcl HP.out.cr HP.out.len]
    exact woCl_any u (.slice A2 left.length c2) xss[k] left p1 (w.heap.size + 2) bm (bm + 1) yss.length (groupTo (keyN yss right) uv yss.length) es clock W hu hcon hcl HP.out.few
      ((hbW.cell (p := ⟨p1, 0, none⟩) HX.out.1.lt).trans (HX.out.1.cell 0)) ((hbW.cell (p := ⟨w.heap.size + 2, 0, none⟩) HX.out.2.1.lt).trans (HX.out.2.1.cell 0)) (H2.out.on (bthen B5 hbW)) (HM5.out.below hbW))
  have HFP := Lib.hid (show xss.filter p = F by rw [HF.out, HPP.out])
  clear x9 z0 z2 z3 hpp
  go_wp2_with fail
  refine (rowsThatWo_any _ (m, xss) p1 (w.heap.size + 2) p _ ⟨_, rfl, H0.out.on B5⟩ s0 CT.out).mono ?_
  simp only
  rw [HFP.out]
  rintro e w7 ⟨A7, c7, rfl, ho7, hb7⟩
  have z7 := HX.out.2.2.below hb7 HX.out.2.2.lt
  have b1c0 : w7.cell? ⟨w.heap.size + 3, 0, none⟩ = some (.int .i64 0) := z7.cell 0
  have b1c1 : w7.cell? ⟨w.heap.size + 3, 1, none⟩ = some (.slice none 0 0) := z7.cell 1
  have b1f0 := z7.frozen 0
  have b1f1 := z7.frozen 1
  have B7 := bthen B5 hb7
  have HO := Lib.hid ho7
  clear ho7 z7 q0 q1
  go_wp2_with fail
  refine bodyPost_ret (v := .agg #[.int .i64 m, .slice A7 F.length c7]) (by simp [results, Try.results78, go_sem, b1c0, b1c1]) rfl ?_
  refine ⟨A7, c7, rfl, ?_, (B7.setCell (by simp <;> omega) _).setCell (by simp <;> omega) _⟩
  have hrw := HO.out
  have h1 := (hrw.only (Only.setCell (Only.refl 0 (w.heap.size + 4) w7) (p := ⟨w.heap.size + 3, 0, none⟩) ⟨Nat.zero_le _, by simp⟩ (.int .i64 m)) (.inr (by omega)))
  have h2 := (h1.only (Only.setCell (Only.refl 0 (w.heap.size + 4) _) (p := ⟨w.heap.size + 3, 1, none⟩) ⟨Nat.zero_le _, by simp⟩ (.slice A7 F.length c7)) (.inr (by omega)))
  exact h2.mono (by omega) (by simp)

open Classical in
noncomputable def withoutR (a b : LRel) (left right : List Int) : LRel := if PairsP a b left right then (a.1, a.2.filter (woB b.2 left right)) else (0, [])
theorem withoutR_yes {a b : LRel} {left right : List Int} (h : pairsB a b left right = true) : withoutR a b left right = (a.1, a.2.filter (woB b.2 left right)) := by
  unfold withoutR; rw [if_pos (pairsB_iff.1 h)]
theorem withoutR_no {a b : LRel} {left right : List Int} (h : pairsB a b left right = false) : withoutR a b left right = (0, []) := by
  unfold withoutR; rw [if_neg (fun h1 => by rw [pairsB_iff.2 h1] at h; cases h)]
theorem withoutR_sz (a b : LRel) (left right : List Int) : szRows (withoutR a b left right).2 ≤ szRows a.2 := by
  unfold withoutR
  split
  · exact szRows_filter _ _
  · simp [szRows, totSS]

set_option maxHeartbeats 4000000 in
set_option maxRecDepth 100000 in
theorem implRelWithout_any (v0 v1 v2 v3 : Value) (a b : LRel) (left right : List Int) (R : LRel) (hR : R = withoutR a b left right) (w : World) (h0 : RdRel w w.heap.size v0 a) (h1 : RdRel w w.heap.size v1 b) (h2 : RdInts w w.heap.size v2 left) (h3 : RdInts w w.heap.size v3 right)
    (s0 : szRows a.2 ≤ 1048576) (s1 : szRows b.2 ≤ 1048576) (s2 : left.length ≤ 1048576) (s3 : right.length ≤ 1048576) :
    Calls Try.prog 44 #[v0, v1, v2, v3] w fun e w' => ∃ A' c', e = .returned (.agg #[.int .i64 R.1, .slice A' R.2.length c']) ∧ OwnRows w' w.heap.size w'.heap.size (.slice A' R.2.length c') R.2 ∧ Below w.heap.size w w' := by
  have HR := Lib.hid hR
  clear hR
  obtain ⟨a0, rfl, h0⟩ := h0
  have H0 := Lib.hid h0
  obtain ⟨A, c, rfl, _, _⟩ := h0
  obtain ⟨a1, rfl, h1⟩ := h1
  have H1 := Lib.hid h1
  obtain ⟨A1, c1, rfl, _, _⟩ := h1
  have H2 := Lib.hid h2
  obtain ⟨A2, c2, rfl, _, _⟩ := h2
  have H3 := Lib.hid h3
  obtain ⟨A3, c3, rfl, _, _⟩ := h3
  obtain ⟨m, xss⟩ := a
  obtain ⟨n, yss⟩ := b
  have S0 := Lib.hid s0
  have S1 := Lib.hid s1
  simp only at H0 H1 HR
  clear s0 s1
  go_enter Try.func44, Try.ntmps44
  go_wp2_with fail
  obtain ⟨w3, hw3⟩ : ∃ w3, w3 = ((w.alloc (Obj.cells #[Value.int IntKind.i64 m, Value.slice A xss.length c] 27)).alloc (Obj.cells #[Value.int IntKind.i64 n, Value.slice A1 yss.length c1] 27)).alloc (Obj.cells #[Value.int IntKind.i64 0, Value.slice none 0 0] 27) := ⟨_, rfl⟩
  have B3 : Below w.heap.size w w3 := by rw [hw3]; exact below3 _ _ _ _
  have s3' : w3.heap.size = w.heap.size + 3 := by rw [hw3]; simp
  have x0 : Blk w3 w.heap.size 27 #[.int .i64 m, .slice A xss.length c] := by rw [hw3]; exact ((Blk.new w _ _).alloc _).alloc _
  have x1 : Blk w3 (w.heap.size + 1) 27 #[.int .i64 n, .slice A1 yss.length c1] := by
    rw [hw3]
    simpa using (Blk.new (w.alloc (Obj.cells #[Value.int IntKind.i64 m, Value.slice A xss.length c] 27)) 27 #[.int .i64 n, .slice A1 yss.length c1]).alloc _
  have x2 : Blk w3 (w.heap.size + 2) 27 #[.int .i64 0, .slice none 0 0] := by
    rw [hw3]
    simpa using Blk.new ((w.alloc (Obj.cells #[Value.int IntKind.i64 m, Value.slice A xss.length c] 27)).alloc (Obj.cells #[Value.int IntKind.i64 n, Value.slice A1 yss.length c1] 27)) 27 #[.int .i64 0, .slice none 0 0]
  rw [← hw3]
  clear hw3
  obtain ⟨z, hz⟩ : ∃ z, z = pairsB (m, xss) (n, yss) left right := ⟨_, rfl⟩
  refine (pairsFit_is _ _ _ _ (m, xss) (n, yss) left right hz.symm _ ⟨_, rfl, H0.out.on B3⟩ ⟨_, rfl, H1.out.on B3⟩ (H2.out.on B3) (H3.out.on B3) S0.out S1.out s2 s3).mono ?_
  rintro e w4 ⟨rfl, hb4⟩
  have B4 := bthen B3 hb4
  have s4 := hb4.size
  have y0 := x0.below hb4 x0.lt
  have y1 := x1.below hb4 x1.lt
  have y2 := x2.below hb4 x2.lt
  clear x0 x1 x2
  have b1c0 : w4.cell? ⟨w.heap.size + 2, 0, none⟩ = some (.int .i64 0) := y2.cell 0
  have b1c1 : w4.cell? ⟨w.heap.size + 2, 1, none⟩ = some (.slice none 0 0) := y2.cell 1
  have b1f0 := y2.frozen 0
  have b1f1 := y2.frozen 1
  have HZ := Lib.hid hz
  clear hz
  cases z
  · have HE := Lib.hid (show R = (0, []) by rw [HR.out]; exact withoutR_no HZ.out.symm)
    go_wp2_with fail
    refine bodyPost_ret (v := .agg #[.int .i64 0, .slice none 0 0]) (by simp [results, Try.results44, go_sem, b1c0, b1c1]) rfl ?_
    rw [HE.out]
    exact ⟨none, 0, rfl, OwnRows.none _ _ _, (B4.setCell (by simp <;> omega) _).setCell (by simp <;> omega) _⟩
  have HP := Lib.hid (pairsB_iff.1 HZ.out.symm)
  obtain ⟨F, hF⟩ : ∃ F, F = xss.filter (woB yss left right) := ⟨_, rfl⟩
  have HF := Lib.hid hF
  have HE := Lib.hid (show R = (m, F) by rw [HR.out, hF]; exact withoutR_yes HZ.out.symm)
  clear hF b1c0 b1c1 b1f0 b1f1
  have q0 : w4.cell? ⟨w.heap.size, 0, none⟩ = some (.int .i64 m) := y0.cell 0
  have q1 : w4.cell? ⟨w.heap.size, 1, none⟩ = some (.slice A xss.length c) := y0.cell 1
  have q2 : w4.cell? ⟨w.heap.size + 1, 0, none⟩ = some (.int .i64 n) := y1.cell 0
  have q3 : w4.cell? ⟨w.heap.size + 1, 1, none⟩ = some (.slice A1 yss.length c1) := y1.cell 1
  have HY := Lib.hid y2
  clear y0 y1 y2
  go_wp2_with fail
  refine (rowsWithout_any _ _ _ _ (m, xss) (n, yss) left right F HF.out _ ⟨_, rfl, H0.out.on B4⟩ ⟨_, rfl, H1.out.on B4⟩ (H2.out.on B4) (H3.out.on B4) S0.out HP.out).mono ?_
  simp only
  rintro e w7 ⟨A7, c7, rfl, ho7, hb7⟩
  have z7 := HY.out.below hb7 HY.out.lt
  have b1c0 : w7.cell? ⟨w.heap.size + 2, 0, none⟩ = some (.int .i64 0) := z7.cell 0
  have b1c1 : w7.cell? ⟨w.heap.size + 2, 1, none⟩ = some (.slice none 0 0) := z7.cell 1
  have b1f0 := z7.frozen 0
  have b1f1 := z7.frozen 1
  have B7 := bthen B4 hb7
  have HO := Lib.hid ho7
  clear ho7 z7 q0 q1 q2 q3
  go_wp2_with fail
  refine bodyPost_ret (v := .agg #[.int .i64 m, .slice A7 F.length c7]) (by simp [results, Try.results44, go_sem, b1c0, b1c1]) rfl ?_
  rw [HE.out]
  refine ⟨A7, c7, rfl, ?_, (B7.setCell (by simp <;> omega) _).setCell (by simp <;> omega) _⟩
  have hrw := HO.out
  have h1 := (hrw.only (Only.setCell (Only.refl 0 (w.heap.size + 3) w7) (p := ⟨w.heap.size + 2, 0, none⟩) ⟨Nat.zero_le _, by simp⟩ (.int .i64 m)) (.inr (by omega)))
  have h2 := (h1.only (Only.setCell (Only.refl 0 (w.heap.size + 3) _) (p := ⟨w.heap.size + 2, 1, none⟩) ⟨Nat.zero_le _, by simp⟩ (.slice A7 F.length c7)) (.inr (by omega)))
  exact h2.mono (by omega) (by simp)

end Go.Proofs.Ytchincemlilnoaa
/-
  RelWithout of the specification.
-/
namespace Go.Proofs.Ytchincemlilnoaa
open Go.RowKit

theorem any_take_succ {α : Type} {p : α → Bool} {xs : List α} {k : Nat} (h : k < xs.length) : (xs.take (k + 1)).any p = ((xs.take k).any p || p xs[k]) := by
  rw [take_snoc xs k h, List.any_append]
  simp

set_option maxHeartbeats 4000000 in
set_option maxRecDepth 100000 in
theorem specRelWithout_any (v0 v1 v2 v3 : Value) (a b : LRel) (left right : List Int) (R : LRel) (hR : R = withoutR a b left right) (w : World) (h0 : RdRel w w.heap.size v0 a) (h1 : RdRel w w.heap.size v1 b) (h2 : RdInts w w.heap.size v2 left) (h3 : RdInts w w.heap.size v3 right)
    (s0 : szRows a.2 ≤ 1048576) (s1 : szRows b.2 ≤ 1048576) (s2 : left.length ≤ 1048576) (s3 : right.length ≤ 1048576) :
    Calls Try.prog 43 #[v0, v1, v2, v3] w fun e w' => ∃ A' c', e = .returned (.agg #[.int .i64 R.1, .slice A' R.2.length c']) ∧ OwnRows w' w.heap.size w'.heap.size (.slice A' R.2.length c') R.2 ∧ Below w.heap.size w w' := by
  have HR := Lib.hid hR
  clear hR
  obtain ⟨a0, rfl, h0⟩ := h0
  have H0 := Lib.hid h0
  obtain ⟨A, c, rfl, _, _⟩ := h0
  obtain ⟨a1, rfl, h1⟩ := h1
  have H1 := Lib.hid h1
  obtain ⟨A1, c1, rfl, _, _⟩ := h1
  have H2 := Lib.hid h2
  obtain ⟨A2, c2, rfl, _, _⟩ := h2
  have H3 := Lib.hid h3
  obtain ⟨A3, c3, rfl, _, _⟩ := h3
  obtain ⟨m, xss⟩ := a
  obtain ⟨n, yss⟩ := b
  have S0 := Lib.hid s0
  have S1 := Lib.hid s1
  simp only at H0 H1 HR
  clear s0 s1
  obtain ⟨i0, hi0, hz0, hz1, hz2⟩ := info_parts Try.infoIntS
  go_enter Try.func43, Try.ntmps43
  go_wp2_with fail
  obtain ⟨w3, hw3⟩ : ∃ w3, w3 = ((w.alloc (Obj.cells #[Value.int IntKind.i64 m, Value.slice A xss.length c] 27)).alloc (Obj.cells #[Value.int IntKind.i64 n, Value.slice A1 yss.length c1] 27)).alloc (Obj.cells #[Value.int IntKind.i64 0, Value.slice none 0 0] 27) := ⟨_, rfl⟩
  have B3 : Below w.heap.size w w3 := by rw [hw3]; exact below3 _ _ _ _
  have s3' : w3.heap.size = w.heap.size + 3 := by rw [hw3]; simp
  have x0 : Blk w3 w.heap.size 27 #[.int .i64 m, .slice A xss.length c] := by rw [hw3]; exact ((Blk.new w _ _).alloc _).alloc _
  have x1 : Blk w3 (w.heap.size + 1) 27 #[.int .i64 n, .slice A1 yss.length c1] := by
    rw [hw3]
    simpa using (Blk.new (w.alloc (Obj.cells #[Value.int IntKind.i64 m, Value.slice A xss.length c] 27)) 27 #[.int .i64 n, .slice A1 yss.length c1]).alloc _
  have x2 : Blk w3 (w.heap.size + 2) 27 #[.int .i64 0, .slice none 0 0] := by
    rw [hw3]
    simpa using Blk.new ((w.alloc (Obj.cells #[Value.int IntKind.i64 m, Value.slice A xss.length c] 27)).alloc (Obj.cells #[Value.int IntKind.i64 n, Value.slice A1 yss.length c1] 27)) 27 #[.int .i64 0, .slice none 0 0]
  rw [← hw3]
  clear hw3
  obtain ⟨z, hz⟩ : ∃ z, z = pairsB (m, xss) (n, yss) left right := ⟨_, rfl⟩
  refine (l9Pairs_is _ _ _ _ (m, xss) (n, yss) left right hz.symm _ ⟨_, rfl, H0.out.on B3⟩ ⟨_, rfl, H1.out.on B3⟩ (H2.out.on B3) (H3.out.on B3) S0.out S1.out s2 s3).mono ?_
  rintro e w4 ⟨rfl, hb4⟩
  have B4 := bthen B3 hb4
  have s4 := hb4.size
  have y0 := x0.below hb4 x0.lt
  have y1 := x1.below hb4 x1.lt
  have y2 := x2.below hb4 x2.lt
  clear x0 x1 x2
  have b1c0 : w4.cell? ⟨w.heap.size + 2, 0, none⟩ = some (.int .i64 0) := y2.cell 0
  have b1c1 : w4.cell? ⟨w.heap.size + 2, 1, none⟩ = some (.slice none 0 0) := y2.cell 1
  have b1f0 := y2.frozen 0
  have b1f1 := y2.frozen 1
  have HZ := Lib.hid hz
  clear hz
  cases z
  · have HE := Lib.hid (show R = (0, []) by rw [HR.out]; exact withoutR_no HZ.out.symm)
    go_wp2_with fail
    refine bodyPost_ret (v := .agg #[.int .i64 0, .slice none 0 0]) (by simp [results, Try.results43, go_sem, b1c0, b1c1]) rfl ?_
    rw [HE.out]
    exact ⟨none, 0, rfl, OwnRows.none _ _ _, (B4.setCell (by simp <;> omega) _).setCell (by simp <;> omega) _⟩
  have HP := Lib.hid (pairsB_iff.1 HZ.out.symm)
  have hys : yss.length ≤ 2000 := HP.out.rb.many
  obtain ⟨p, hpp⟩ : ∃ p, p = woB yss left right := ⟨_, rfl⟩
  have HPP := Lib.hid hpp
  have HF := Lib.hid (show R = (m, xss.filter p) by rw [HR.out, hpp]; exact withoutR_yes HZ.out.symm)
  clear hpp b1c0 b1c1 b1f0 b1f1
  have q0 : w4.cell? ⟨w.heap.size, 0, none⟩ = some (.int .i64 m) := y0.cell 0
  go_wp2_with fail
  obtain ⟨o9, ho9⟩ : ∃ o9, o9 = w4.heap.size := ⟨_, rfl⟩
  obtain ⟨w5, hw5⟩ : ∃ w5, w5 = w4.alloc (Obj.cells #[Value.int IntKind.i64 m, Value.slice none 0 0] 27) := ⟨_, rfl⟩
  have hb45 : Below w4.heap.size w4 w5 := by rw [hw5]; exact below1 _ _
  have x9 : Blk w5 o9 27 #[.int .i64 m, .slice none 0 0] := by rw [hw5, ho9]; exact Blk.new _ _ _
  have s5 : w5.heap.size = o9 + 1 := by rw [hw5, ho9]; simp
  have hlo : w.heap.size + 3 ≤ o9 := by omega
  rw [← hw5, ← ho9]
  have HO := Lib.hid (show OutAt w5.heap.size o9 w5 m [] none 0 [] from OutAt.empty x9 (by omega) (Nat.le_refl _))
  have HX := Lib.hid (And.intro (y0.below hb45 y0.lt) (And.intro (y1.below hb45 y1.lt) (y2.below hb45 y2.lt)))
  have HB5 := Lib.hid (bthen B4 hb45)
  clear hw5 ho9 x9 y0 y1 y2 q0 hb45
  go_loopw [10, 11, 12] (fun i _ _ wr => ∃ (k : Nat) (A' : Option Addr) (c' : Nat) (av : List Value), k ≤ xss.length ∧ i = .int .i64 k ∧ OutAt w5.heap.size o9 wr m ((xss.take k).filter p) A' c' av ∧ Below o9 w5 wr) (fun i _ _ _ => xss.length - (intOf i).toNat)
  case atStart => exact ⟨0, none, 0, [], Nat.zero_le _, rfl, by simpa using HO.out, Below.refl _ _⟩
  case round =>
    obtain ⟨k, A', c', av, hk, rfl, hout, hbe⟩ := hrel
    obtain ⟨wo, rfl⟩ : ∃ wo, wo = wr := ⟨_, rfl⟩
    have HOUT := Lib.hid hout
    have HBE := Lib.hid hbe
    have xr := HX.out.1.below hbe (by omega)
    have q1 : wo.cell? ⟨w.heap.size, 1, none⟩ = some (.slice A xss.length c) := xr.cell 1
    have BW := Lib.hid (show Below w.heap.size w wo from HB5.out.trans (hbe.mono (by omega)))
    have hsw := hbe.size
    clear hout hbe xr
    by_cases hlt : k < xss.length
    · obtain ⟨b, o, Ar, cr, rfl, hbB, k0, r0⟩ := (H0.out.below BW.out (Nat.le_refl _)).get hlt
      have hln := totSS_at xss k hlt
      have hss : xss.length + totSS xss ≤ 1048576 := S0.out
      have hrow : (xss[k].length : Int) = m := HP.out.ra.row hlt
      have HCL := Lib.hid (show left.all (colIn xss[k].length) = true by rw [hrow]; exact HP.out.cl)
      have HR0 := Lib.hid r0
      have K0 := Lib.hid (And.intro k0 q1)
      clear k0 q1 r0 hrow
      obtain ⟨fit, hfit⟩ : ∃ fit : List Int → Bool, fit = fun y => decide (pickC xss[k] left = pickC y right) := ⟨_, rfl⟩
      have HFIT := Lib.hid hfit
      clear hfit
      have q1 : wo.cell? ⟨w.heap.size, 1, none⟩ = some (.slice (some ⟨b, o, none⟩) xss.length c) := K0.out.2
      go_wp2_with fail
      clear q1
      have HOUT2 := HOUT
      go_loopw [11, 12] (fun f j wi => ∃ (q : Nat) (fb : Bool), q ≤ yss.length ∧ j = .int .i64 q ∧ f = .bool fb ∧ fb = (yss.take q).any fit ∧ Below wo.heap.size wo wi) (fun _ j _ => yss.length - (intOf j).toNat)
      case atStart => exact ⟨0, false, Nat.zero_le _, rfl, rfl, by simp, Below.refl _ _⟩
      case round =>
        obtain ⟨q, fb, hq, rfl, rfl, hfb, hbi⟩ := hrel
        obtain ⟨wi, rfl⟩ : ∃ wi, wi = wr := ⟨_, rfl⟩
        have HBI := Lib.hid hbi
        have HFB := Lib.hid hfb
        have y1 := (HX.out.2.1.below HBE.out (by omega)).below hbi (by omega)
        have q3 : wi.cell? ⟨w.heap.size + 1, 1, none⟩ = some (.slice A1 yss.length c1) := y1.cell 1
        have k0 : wi.cell? ⟨b, o + k, none⟩ = some (.slice Ar xss[k].length cr) := (hbi.cell (World.block_lt_of_cell? _ _ K0.out.1)).trans K0.out.1
        have q1 : wi.cell? ⟨w.heap.size, 1, none⟩ = some (.slice (some ⟨b, o, none⟩) xss.length c) := (hbi.cell (World.block_lt_of_cell? _ _ K0.out.2)).trans K0.out.2
        have hsi := hbi.size
        clear hbi hfb y1
        by_cases hlq : q < yss.length
        · obtain ⟨b', o', A5, c5, rfl, hbB', k5, r5⟩ := (H1.out.on (bthen BW.out HBI.out)).get hlq
          have hrow2 : (yss[q].length : Int) = n := HP.out.rb.row hlq
          have hcr : right.all (colIn yss[q].length) = true := by rw [hrow2]; exact HP.out.cr
          obtain ⟨ft, hft⟩ : ∃ ft, ft = fit yss[q] := ⟨_, rfl⟩
          have HFT := Lib.hid hft
          have BWI := Lib.hid (bthen BW.out HBI.out)
          have CF := Lib.hid (fun W : Later wi => l9Fit_is (.slice Ar xss[k].length cr) (.slice A5 yss[q].length c5) (.slice A2 left.length c2) (.slice A3 right.length c3) xss[k] yss[q] left right (b := ft) (by rw [hft, HFIT.out]) W.val
            ((HR0.out.more (show w.heap.size ≤ wo.heap.size by omega)).on (bthen HBI.out W.2)) (r5.on W.2) (H2.out.on (bthen BWI.out W.2)) (H3.out.on (bthen BWI.out W.2)) HP.out.len HCL.out hcr s2)
          have hkz : (0 : Int) ≤ (k : Int) := by omega
          have hki : (k : Int) < (xss.length : Int) := by omega
          have hqz : (0 : Int) ≤ (q : Int) := by omega
          have hqi : (q : Int) < (yss.length : Int) := by omega
          clear hrow2 hcr hft r5
          cases fb
          · have HN := Lib.hid (show ft = (yss.take (q + 1)).any fit by rw [any_take_succ hlq, ← HFB.out, HFT.out]; rfl)
            go_upto_region 11 with fail
            have M0 := later_cell k0
            have M1 := later_cell q1
            have M2 := later_cell q3
            have M3 := later_cell k5
            clear k0 q1 q3 k5
            refine wp_region_later (by kernel_rfl) (by kernel_rfl) ?_
            repeat (go_big_quiet_step ((go_at_call 71; exact later_of (CF.out _))))
            refine wpQuiet_nil ?_
            rintro _ ⟨xq, rfl⟩
            go_wp2_with fail
            go_roundw
            case rel => exact ⟨q + 1, ft, by omega, by go_num, by simp, HN.out, bthen HBI.out xq.2⟩
            case measure => simp [intOf]; omega
          · have HN := Lib.hid (show true = (yss.take (q + 1)).any fit by rw [any_take_succ hlq, ← HFB.out]; rfl)
            go_upto_region 11 with fail
            clear k0 q1 q3 k5
            refine wp_region_later (by kernel_rfl) (by kernel_rfl) ?_
            repeat (go_big_quiet_step (fail))
            refine wpQuiet_nil ?_
            rintro _ ⟨xq, rfl⟩
            go_wp2_with fail
            go_roundw
            case rel => exact ⟨q + 1, true, by omega, by go_num, rfl, HN.out, bthen HBI.out xq.2⟩
            case measure => simp [intOf]; omega
        · have HFB2 := Lib.hid (show fb = yss.any fit by rw [HFB.out, show q = yss.length by omega, List.take_length])
          have HPK := Lib.hid (show p xss[k] = !fb by rw [HPP.out, HFB2.out, HFIT.out]; rfl)
          have HOI := Lib.hid (HOUT.out.on HBI.out)
          have HBEI := Lib.hid (HBE.out.trans (HBI.out.mono (show o9 ≤ wo.heap.size by omega)))
          have hoi := HOI.out.le
          have hki2 : k < xss.length := hlt
          clear HFB
          cases fb
          · have HN := Lib.hid (show (xss.take (k + 1)).filter p = (xss.take k).filter p ++ [xss[k]] from filter_take_yes hlt (by rw [HPK.out]; rfl))
            have hfl := filter_len_le p xss k
            go_upto_region 13 with fail
            obtain ⟨M, hM⟩ : ∃ M, M = (xss.take k).filter p := ⟨_, rfl⟩
            rw [← hM] at HOI HN hfl
            clear hM HOUT HOUT2
            have q2 : wi.cell? ⟨o9, 1, none⟩ = some (.slice A' M.length c') := HOI.out.box.cell 1
            have hkz : (0 : Int) ≤ (k : Int) := by omega
            have hki : (k : Int) < (xss.length : Int) := by omega
            obtain ⟨SS, hSS⟩ : ∃ SS : World → Prop, SS = (fun W => W.cell? ⟨o9, 1, none⟩ = some (.slice A' M.length c') ∧ W.cell? ⟨w.heap.size, 1, none⟩ = some (.slice (some ⟨b, o, none⟩) xss.length c) ∧ W.cell? ⟨b, o + k, none⟩ = some (.slice Ar xss[k].length cr)) := ⟨_, rfl⟩
            have hbw : b < w.heap.size := hbB
            have HSS := Lib.hid (show ∀ W, Below w5.heap.size wi W → SS W from by
              rw [hSS]
              exact fun W hW => ⟨(hW.cell (p := ⟨o9, 1, none⟩) (by simp; omega)).trans q2, (hW.cell (p := ⟨w.heap.size, 1, none⟩) (by simp; omega)).trans q1, (hW.cell (p := ⟨b, o + k, none⟩) (by simp; omega)).trans k0⟩)
            have HB := Lib.hid (show ∀ W, SS W → (W.cell? ⟨o9, 1, none⟩ = some (.slice A' M.length c') ∧ W.cell? ⟨w.heap.size, 1, none⟩ = some (.slice (some ⟨b, o, none⟩) xss.length c) ∧ W.cell? ⟨b, o + k, none⟩ = some (.slice Ar xss[k].length cr)) from by rw [hSS]; exact fun W hW => hW)
            clear hSS q1 q2 k0 q3
            refine wp_region_rel SS 11 12 (by kernel_rfl) rfl ?_
            have S0 := Lib.hid (HSS.out _ ((Below.refl w5.heap.size wi).drew))
            refine wpAnyR_pure (i := 0) (oi := _) ?va0 rfl rfl (by kernel_rfl) (by decide) (fun _ _ _ h => h) rfl ?hya0 (fun _ => S0.out) ?resta0
            case hya0 => (intro W; go_simp; (try with_reducible rfl))
            try simp only [List.setIfInBounds_toArray, List.set_cons_zero, List.set_cons_succ]
            refine wpAnyR_take (i := 1) (oi := _) ?va1 rfl rfl (by kernel_rfl) (fun _ _ _ h => h) rfl ?hya1 S0.out ?resta1
            case hya1 => (intro W hW; obtain ⟨E0, E1, E2⟩ := HB.out W hW; go_simp; (try with_reducible rfl))
            try simp only [List.setIfInBounds_toArray, List.set_cons_zero, List.set_cons_succ]
            refine wpAnyR_pure (i := 2) (oi := _) ?va2 rfl rfl (by kernel_rfl) (by decide) (fun _ _ _ h => h) rfl ?hya2 (fun _ => S0.out) ?resta2
            case hya2 => (intro W; go_simp; (try with_reducible rfl))
            try simp only [List.setIfInBounds_toArray, List.set_cons_zero, List.set_cons_succ]
            refine wpAnyR_take (i := 3) (oi := _) ?va3 rfl rfl (by kernel_rfl) (fun _ _ _ h => h) rfl ?hya3 S0.out ?resta3
            case hya3 => (intro W hW; obtain ⟨E0, E1, E2⟩ := HB.out W hW; go_simp; (try with_reducible rfl))
            try simp only [List.setIfInBounds_toArray, List.set_cons_zero, List.set_cons_succ]
            refine wpAnyR_pure (i := 4) (oi := _) ?va4 rfl rfl (by kernel_rfl) (by decide) (fun _ _ _ h => h) rfl ?hya4 (fun _ => S0.out) ?resta4
            case hya4 => (intro W; go_simp; (try with_reducible rfl))
            try simp only [List.setIfInBounds_toArray, List.set_cons_zero, List.set_cons_succ]
            refine wpAnyR_pure (i := 5) (oi := _) ?va5 rfl rfl (by kernel_rfl) (by decide) (fun _ _ _ h => h) rfl ?hya5 (fun _ => S0.out) ?resta5
            case hya5 => (intro W; go_simp; (try with_reducible rfl))
            try simp only [List.setIfInBounds_toArray, List.set_cons_zero, List.set_cons_succ]
            refine wpAnyR_take (i := 6) (oi := _) ?va6 rfl rfl (by kernel_rfl) (fun _ _ _ h => h) rfl ?hya6 S0.out ?resta6
            case hya6 => (intro W hW; obtain ⟨E0, E1, E2⟩ := HB.out W hW; go_simp; (try with_reducible rfl))
            try simp only [List.setIfInBounds_toArray, List.set_cons_zero, List.set_cons_succ]
            refine wpAnyR_one (i := 7) (by kernel_rfl) rfl (fun K hK => ?_)
            try rw [if_pos (show Region.wanted _ _ = true from rfl)]
            go_simp
            refine (l3Copy_any (.slice Ar xss[k].length cr) xss[k] _ ((HR0.out.more (show w.heap.size ≤ wo.heap.size by omega)).on (bthen HBI.out (Below.refl _ _).drew)) (by omega)).mono ?_
            rintro e W4 ⟨A6, c6, rfl, ho6, hb6⟩
            have hb4w : Below wi.heap.size wi W4 := bthen (Below.refl _ _).drew hb6
            have S1' := Lib.hid (HSS.out _ (hb4w.mono hoi))
            refine hK.out _ _ (fun _ => S1'.out) ?_
            clear hK K
            try simp only [List.setIfInBounds_toArray, List.set_cons_zero, List.set_cons_succ, Act.put]
            refine wpAnyR_one (i := 8) (by kernel_rfl) rfl (fun K hK => ?_)
            try rw [if_pos (show Region.wanted _ _ = true from rfl)]
            go_simp
            have S2 := Lib.hid (HSS.out _ ((bthen hb4w (below1 W4 (Obj.cells #[Value.slice A6 xss[k].length c6] 42))).mono hoi))
            refine hK.out _ _ (fun _ => S2.out) ?_
            clear hK K
            try simp only [List.setIfInBounds_toArray, List.set_cons_zero, List.set_cons_succ, Act.put]
            refine wpAnyR_one (i := 9) (by kernel_rfl) rfl (fun K hK => ?_)
            refine step_append_lies _ rfl (.tmp 56) (.tmp 63) 22 rfl w5.heap.size 42 i0 (.slice none 0 0) 1 24 Try.underlying22 hi0 hz0 hz1 hz2 rfl (by decide) (.slice A' M.length c') M.length av rfl ?c1 ⟨W4.heap.size, 0, none⟩ 1 1 [.slice A6 xss[k].length c6] rfl rfl ?c4 ?c2 (by omega) (by unfold maxLen; omega) (by omega) ?c3 _ rfl ?c5
            case c1 => exact (HOI.out.on hb4w).row.alloc _
            case c4 => exact World.news_of_block (cs := #[.slice A6 xss[k].length c6]) (heap_alloc_new W4 _)
            case c2 => intro u hu; simp at hu; subst hu; rfl
            case c3 => have := hb4w.size; simp; omega
            case c5 =>
            intro g2 cap w7 hown hgr hat _
            have hpush := HOI.out.push (xs := xss[k]) hb4w ho6 hgr hown
            have hgrown := HOI.out.grown hb4w hgr
            have S3 := Lib.hid (HSS.out w7 hgrown)
            have hbx := HOI.out.box.below hgrown (by omega)
            have g1 : w7.cell? ⟨o9, 1, none⟩ = some (.slice A' M.length c') := hbx.cell 1
            have g1f := hbx.frozen 1
            have HPU := Lib.hid hpush
            clear hpush hown hgr hat hgrown hbx
            refine hK.out _ _ (fun _ => S3.out) ?_
            clear hK K
            try simp only [List.setIfInBounds_toArray, Act.put]
            refine wpAnyR_pure (i := 10) (oi := _) ?vb10 rfl rfl (by kernel_rfl) (by decide) (fun _ _ _ h => h) rfl ?hyb10 (fun _ => S3.out) ?restb10
            case hyb10 => (intro W; go_simp; (try with_reducible rfl))
            try simp only [List.setIfInBounds_toArray, List.set_cons_zero, List.set_cons_succ]
            refine wpAnyR_one (i := 11) (by kernel_rfl) rfl (fun K hK => ?_)
            go_simp
            refine hK.out _ _ (fun hf => absurd hf (by decide)) ?_
            clear hK K
            refine wpAnyR_done (by kernel_rfl) ?_
            go_wp2_with fail
            go_roundw
            case rel => exact ⟨k + 1, _, _, _, by omega, by go_num, by rw [HN.out]; exact HPU.out.1, HBEI.out.trans HPU.out.2⟩
            case measure => simp [intOf]; omega
          · have HN := Lib.hid (show (xss.take (k + 1)).filter p = (xss.take k).filter p from filter_take_no hlt (by rw [HPK.out]; rfl))
            go_wp2_with fail
            go_roundw
            case rel => exact ⟨k + 1, _, _, _, by omega, by go_num, by rw [HN.out]; exact HOI.out, HBEI.out⟩
            case measure => simp [intOf]; omega
    · have hkn : k = xss.length := by omega
      have HO2 := Lib.hid (show OutAt w5.heap.size o9 wo m (xss.filter p) A' c' av by have := HOUT.out; rw [hkn, List.take_length] at this; exact this)
      have z1 := HX.out.2.2.below HBE.out (by omega)
      have b1c0 : wo.cell? ⟨w.heap.size + 2, 0, none⟩ = some (.int .i64 0) := z1.cell 0
      have b1c1 : wo.cell? ⟨w.heap.size + 2, 1, none⟩ = some (.slice none 0 0) := z1.cell 1
      have b1f0 := z1.frozen 0
      have b1f1 := z1.frozen 1
      have d0 : wo.cell? ⟨o9, 0, none⟩ = some (.int .i64 m) := HO2.out.box.cell 0
      have d1 : wo.cell? ⟨o9, 1, none⟩ = some (.slice A' (xss.filter p).length c') := HO2.out.box.cell 1
      obtain ⟨M, hM⟩ : ∃ M, M = xss.filter p := ⟨_, rfl⟩
      rw [← hM] at HO2 d1 HF
      clear hkn hM HOUT z1
      go_wp2_with fail
      refine bodyPost_ret (v := .agg #[.int .i64 m, .slice A' M.length c']) (by simp [results, Try.results43, go_sem, b1c0, b1c1]) rfl ?_
      rw [HF.out]
      refine ⟨A', c', rfl, ?_, (BW.out.setCell (by simp <;> omega) _).setCell (by simp <;> omega) _⟩
      have hrw := HO2.out.rows
      have h1 := (hrw.only (Only.setCell (Only.refl 0 (w.heap.size + 3) wo) (p := ⟨w.heap.size + 2, 0, none⟩) ⟨Nat.zero_le _, by simp⟩ (.int .i64 m)) (.inr (by omega)))
      have h2 := (h1.only (Only.setCell (Only.refl 0 (w.heap.size + 3) _) (p := ⟨w.heap.size + 2, 1, none⟩) ⟨Nat.zero_le _, by simp⟩ (.slice A' M.length c')) (.inr (by omega)))
      exact h2.mono (by omega) (by simp)

end Go.Proofs.Ytchincemlilnoaa
/-
  Joins of relations: plain mathematics.
-/
namespace Go.Proofs.Ytchincemlilnoaa
open Go.RowKit

/-- The rows that come of one row. -/
def joinRow (yss : List (List Int)) (left right x : List Int) : List (List Int) := (yss.filter fun y => decide (pickC x left = pickC y right)).map (x ++ ·)
/-- The rows that come of the first k. -/
def joinTo (xss yss : List (List Int)) (left right : List Int) (k : Nat) : List (List Int) := (xss.take k).flatMap (joinRow yss left right)
structure JoinP (a b : LRel) (left right : List Int) : Prop where
  pairs : PairsP a b left right
  wide : a.1 + b.1 ≤ 6
  few : (joinTo a.2 b.2 left right a.2.length).length ≤ 2000
open Classical in
noncomputable def joinR (a b : LRel) (left right : List Int) : LRel := if JoinP a b left right then (a.1 + b.1, joinTo a.2 b.2 left right a.2.length) else (0, [])
open Classical in
noncomputable def joinK (a b : LRel) (left right : List Int) : Bool := decide (JoinP a b left right)
theorem joinR_yes {a b : LRel} {left right : List Int} (h : JoinP a b left right) : joinR a b left right = (a.1 + b.1, joinTo a.2 b.2 left right a.2.length) ∧ joinK a b left right = true := by
  unfold joinR joinK
  rw [if_pos h]
  exact ⟨rfl, @decide_eq_true _ (Classical.propDecidable _) h⟩
theorem joinR_no {a b : LRel} {left right : List Int} (h : ¬ JoinP a b left right) : joinR a b left right = (0, []) ∧ joinK a b left right = false := by
  unfold joinR joinK
  rw [if_neg h]
  exact ⟨rfl, @decide_eq_false _ (Classical.propDecidable _) h⟩
section
variable {xss yss : List (List Int)} {left right : List Int} {k q : Nat}
theorem joinRow_len (yss : List (List Int)) (left right x : List Int) : (joinRow yss left right x).length ≤ yss.length := by
  unfold joinRow
  rw [List.length_map]
  exact List.length_filter_le _ _
theorem joinTo_zero : joinTo xss yss left right 0 = [] := by simp [joinTo]
theorem joinTo_succ (h : k < xss.length) : joinTo xss yss left right (k + 1) = joinTo xss yss left right k ++ joinRow yss left right xss[k] := by
  unfold joinTo
  rw [take_snoc xss k h, List.flatMap_append]
  simp
theorem joinTo_len (hy : yss.length ≤ 2000) : ∀ k, k ≤ xss.length → (joinTo xss yss left right k).length ≤ k * 2000
  | 0, _ => by simp [joinTo]
  | k + 1, h => by
    have ih := joinTo_len hy k (by omega)
    rw [joinTo_succ (by omega), List.length_append]
    have := joinRow_len yss left right (xss[k]'(by omega))
    omega
/-- The first k rows, and what the first q fit of the next. -/
def joinAt (xss yss : List (List Int)) (left right : List Int) (k q : Nat) : List (List Int) := joinTo xss yss left right k ++ joinRow (yss.take q) left right (xss.getD k [])
theorem joinAt_zero : joinAt xss yss left right k 0 = joinTo xss yss left right k := by simp [joinAt, joinRow]
theorem joinAt_all (h : k < xss.length) : joinAt xss yss left right k yss.length = joinTo xss yss left right (k + 1) := by
  rw [joinTo_succ h]
  simp [joinAt, h]
theorem joinAt_yes (h : k < xss.length) (hq : q < yss.length) (e : pickC xss[k] left = pickC yss[q] right) : joinAt xss yss left right k (q + 1) = joinAt xss yss left right k q ++ [xss[k] ++ yss[q]] := by
  unfold joinAt joinRow
  have hg : xss.getD k [] = xss[k] := by simp [h]
  rw [hg, take_snoc yss q hq, List.filter_append]
  simp [e]
theorem joinAt_no (h : k < xss.length) (hq : q < yss.length) (e : pickC xss[k] left ≠ pickC yss[q] right) : joinAt xss yss left right k (q + 1) = joinAt xss yss left right k q := by
  unfold joinAt joinRow
  have hg : xss.getD k [] = xss[k] := by simp [h]
  rw [hg, take_snoc yss q hq, List.filter_append]
  simp [e]
theorem joinAt_len (hy : yss.length ≤ 2000) (h : k < xss.length) (q : Nat) : (joinAt xss yss left right k q).length ≤ k * 2000 + 2000 := by
  unfold joinAt
  rw [List.length_append]
  have h1 := joinTo_len (xss := xss) (left := left) (right := right) hy k (by omega)
  have h2 := joinRow_len (yss.take q) left right (xss.getD k [])
  have h3 : (yss.take q).length ≤ yss.length := by simp; omega
  omega
theorem joinR_sz (a b : LRel) (left right : List Int) : szRows (joinR a b left right).2 ≤ 1048576 := by
  unfold joinR
  split
  · rename_i h
    have hf := h.few
    have h1 : ∀ row ∈ joinTo a.2 b.2 left right a.2.length, row.length ≤ 6 := by
      intro row hr
      obtain ⟨x, hx, hrx⟩ := List.mem_flatMap.1 hr
      obtain ⟨y, hy, rfl⟩ := List.mem_map.1 hrx
      have hx2 : x ∈ a.2 := List.mem_of_mem_take hx
      have hy2 : y ∈ b.2 := (List.mem_filter.1 hy).1
      obtain ⟨i, hi, rfl⟩ := List.getElem_of_mem hx2
      obtain ⟨j, hj, rfl⟩ := List.getElem_of_mem hy2
      have e1 := h.pairs.ra.row hi
      have e2 := h.pairs.rb.row hj
      have := h.wide
      rw [List.length_append]
      omega
    have h2 := totSS_few hf h1
    show (joinTo a.2 b.2 left right a.2.length).length + totSS (joinTo a.2 b.2 left right a.2.length) ≤ 1048576
    omega
  · simp [szRows, totSS]
end

end Go.Proofs.Ytchincemlilnoaa
/-
  RelTake of the program.
-/
namespace Go.Proofs.Ytchincemlilnoaa
open Go.RowKit

theorem keys_take (xss : List (List Int)) (cols : List Int) : keysI xss cols = (takeRows xss cols).map numI := by simp [keysI, takeRows, numI]
theorem takeRows_ok {r : LRel} {cols : List Int} (hp : RelP r) (hc : cols.all (colIn r.1) = true) : ∀ x ∈ takeRows r.2 cols, x.length = cols.length ∧ x.all constOk = true := fun x hx => by
  obtain ⟨y, hy, rfl⟩ := List.mem_map.1 hx
  obtain ⟨k, hk, rfl⟩ := List.getElem_of_mem hy
  have hrow := hp.row hk
  exact ⟨pickC_length _ _, pickC_ok (hp.rows k hk hk).2.2 (by rw [hrow]; exact hc)⟩

theorem takeR_sz (r : LRel) (cols : List Int) : szRows (takeR r cols).2 ≤ 1048576 := by
  unfold takeR
  split
  · rename_i h
    obtain ⟨hp, hc⟩ := h
    have hl := putsB_length (takeRows r.2 cols)
    rw [takeRows_length] at hl
    have hm := hp.many
    have h6 : cols.length ≤ 6 := by
      simp only [colsB, Bool.and_eq_true, decide_eq_true_eq] at hc
      exact hc.2
    have h1 : ∀ row ∈ putsB (takeRows r.2 cols), row.length ≤ 6 := fun row hr => by
      obtain ⟨x, _, rfl⟩ := List.mem_map.1 (putsB_mem.1 hr)
      rw [pickC_length]
      exact h6
    have h2 := totSS_few (show (putsB (takeRows r.2 cols)).length ≤ 2000 by omega) h1
    show (putsB (takeRows r.2 cols)).length + totSS (putsB (takeRows r.2 cols)) ≤ 1048576
    omega
  · simp [szRows, totSS]

set_option maxHeartbeats 4000000 in
set_option maxRecDepth 100000 in
theorem implRelTake_any (v v2 : Value) (r : LRel) (cols : List Int) (R : LRel) (hR : R = takeR r cols) (w : World) (h : RdRel w w.heap.size v r) (h2 : RdInts w w.heap.size v2 cols) (hs : szRows r.2 ≤ 1048576) (s2 : cols.length ≤ 1048576) :
    Calls Try.prog 32 #[v, v2] w fun e w' => ∃ A' c', e = .returned (.agg #[.int .i64 R.1, .slice A' R.2.length c']) ∧ OwnRows w' w.heap.size w'.heap.size (.slice A' R.2.length c') R.2 ∧ Below w.heap.size w w' := by
  have HR := Lib.hid hR
  clear hR
  obtain ⟨a, rfl, h⟩ := h
  have H := Lib.hid h
  obtain ⟨A, c, rfl, hc, _⟩ := h
  have H2 := Lib.hid h2
  obtain ⟨A2, c2, rfl, hc2, _⟩ := h2
  obtain ⟨m, xss⟩ := r
  have HS := Lib.hid hs
  unfold szRows at hs
  simp only at H hc hs HR
  obtain ⟨ok, hok⟩ : ∃ ok, ok = relB (m, xss) := ⟨_, rfl⟩
  go_enter Try.func32, Try.ntmps32
  go_wp2_with fail
  obtain ⟨w3, hw3⟩ : ∃ w3, w3 = (w.alloc (Obj.cells #[Value.int IntKind.i64 m, Value.slice A xss.length c] 27)).alloc (Obj.cells #[Value.int IntKind.i64 0, Value.slice none 0 0] 27) := ⟨_, rfl⟩
  have B3 : Below w.heap.size w w3 := by rw [hw3]; exact below2 _ _ _
  have s3 : w3.heap.size = w.heap.size + 2 := by rw [hw3]; simp
  have x0 : Blk w3 w.heap.size 27 #[.int .i64 m, .slice A xss.length c] := by rw [hw3]; exact (Blk.new w _ _).alloc _
  have x1 : Blk w3 (w.heap.size + 1) 27 #[.int .i64 0, .slice none 0 0] := by
    rw [hw3]
    simpa using Blk.new (w.alloc (Obj.cells #[Value.int IntKind.i64 m, Value.slice A xss.length c] 27)) 27 #[.int .i64 0, .slice none 0 0]
  rw [← hw3]
  clear hw3
  have CR := implRelOk_any _ (m, xss) _ ⟨_, rfl, H.out.on B3⟩ HS.out
  rw [← hok] at CR
  refine CR.mono ?_
  rintro e w4 ⟨rfl, hb4⟩
  have B4 := bthen B3 hb4
  have s4 := hb4.size
  have y0 := x0.below hb4 x0.lt
  have y1 := x1.below hb4 x1.lt
  clear x0 x1 CR
  have q0 : w4.cell? ⟨w.heap.size, 0, none⟩ = some (.int .i64 m) := y0.cell 0
  have q1 : w4.cell? ⟨w.heap.size, 1, none⟩ = some (.slice A xss.length c) := y0.cell 1
  have b1c0 : w4.cell? ⟨w.heap.size + 1, 0, none⟩ = some (.int .i64 0) := y1.cell 0
  have b1c1 : w4.cell? ⟨w.heap.size + 1, 1, none⟩ = some (.slice none 0 0) := y1.cell 1
  have b1f0 := y1.frozen 0
  have b1f1 := y1.frozen 1
  have HOK := Lib.hid hok
  clear hok
  cases ok
  · have HE := Lib.hid (show R = (0, []) by rw [HR.out]; exact takeR_no HOK.out.symm)
    clear q0 q1
    go_wp2_with fail
    refine bodyPost_ret (v := .agg #[.int .i64 0, .slice none 0 0]) (by simp [results, Try.results32, go_sem, b1c0, b1c1]) rfl ?_
    rw [HE.out]
    exact ⟨none, 0, rfl, OwnRows.none _ _ _, (B4.setCell (by simp <;> omega) _).setCell (by simp <;> omega) _⟩
  have HP := Lib.hid (show RelP (m, xss) from relB_iff.1 HOK.out.symm)
  by_cases hw6 : 6 < cols.length
  · have d6 : decide ((cols.length : Int) > 6) = true := decide_eq_true (by omega)
    have d7 : decide (6 < (cols.length : Int)) = true := decide_eq_true (by omega)
    have HE := Lib.hid (show R = (0, []) by
      rw [HR.out]
      refine takeR_cols ?_
      unfold colsB
      rw [decide_eq_false (by omega), Bool.and_false])
    clear q0 q1 hw6
    go_wp2_with fail
    refine bodyPost_ret (v := .agg #[.int .i64 0, .slice none 0 0]) (by simp [results, Try.results32, go_sem, b1c0, b1c1]) rfl ?_
    rw [HE.out]
    exact ⟨none, 0, rfl, OwnRows.none _ _ _, (B4.setCell (by simp <;> omega) _).setCell (by simp <;> omega) _⟩
  have d6 : decide ((cols.length : Int) > 6) = false := decide_eq_false (by omega)
  have d7 : decide (6 < (cols.length : Int)) = false := decide_eq_false (by omega)
  have HW6 := Lib.hid (show cols.length ≤ 6 by omega)
  clear hw6
  go_wp2_with fail
  obtain ⟨cb, hcb⟩ : ∃ cb, cb = cols.all (colIn m) := ⟨_, rfl⟩
  refine (hasColumns_is _ _ (m, xss) cols hcb.symm _ ⟨_, rfl, H.out.on B4⟩ (H2.out.on B4) s2).mono ?_
  rintro e w6 ⟨rfl, hb6⟩
  have B6 := bthen B4 hb6
  have s6 := hb6.size
  have z0 := y0.below hb6 y0.lt
  have z1 := y1.below hb6 y1.lt
  clear y0 y1 q0 q1 b1c0 b1c1 b1f0 b1f1
  have q0 : w6.cell? ⟨w.heap.size, 0, none⟩ = some (.int .i64 m) := z0.cell 0
  have q1 : w6.cell? ⟨w.heap.size, 1, none⟩ = some (.slice A xss.length c) := z0.cell 1
  have b1c0 : w6.cell? ⟨w.heap.size + 1, 0, none⟩ = some (.int .i64 0) := z1.cell 0
  have b1c1 : w6.cell? ⟨w.heap.size + 1, 1, none⟩ = some (.slice none 0 0) := z1.cell 1
  have b1f0 := z1.frozen 0
  have b1f1 := z1.frozen 1
  have HCB := Lib.hid hcb
  clear hcb
  cases cb
  · have HE := Lib.hid (show R = (0, []) by
      rw [HR.out]
      refine takeR_cols ?_
      unfold colsB
      rw [show cols.all (colIn ((m, xss) : LRel).1) = false from HCB.out.symm, Bool.false_and])
    clear q0 q1
    go_wp2_with fail
    refine bodyPost_ret (v := .agg #[.int .i64 0, .slice none 0 0]) (by simp [results, Try.results32, go_sem, b1c0, b1c1]) rfl ?_
    rw [HE.out]
    exact ⟨none, 0, rfl, OwnRows.none _ _ _, (B6.setCell (by simp <;> omega) _).setCell (by simp <;> omega) _⟩
  have HCI := Lib.hid (show cols.all (colIn m) = true from HCB.out.symm)
  have HF := Lib.hid (show R = ((cols.length : Int), putsB (takeRows xss cols)) by
    rw [HR.out]
    refine takeR_yes HOK.out.symm ?_
    unfold colsB
    rw [show cols.all (colIn ((m, xss) : LRel).1) = true from HCI.out, decide_eq_true HW6.out]
    rfl)
  have HN := Lib.hid (show numRows (keysI xss cols) cols.length = putsB (takeRows xss cols) by rw [keys_take]; exact numRows_puts (takeRows_ok HP.out HCI.out))
  have HK := Lib.hid (show (∀ z, z ∈ keysI xss cols → 0 ≤ z ∧ z ≤ 1048576) ∧ (keysI xss cols).length ≤ 1048576 from ⟨by rw [keys_take]; exact numI_small (takeRows_ok HP.out HCI.out) HW6.out, by rw [keysI_length]; exact Nat.le_trans HP.out.many (by omega)⟩)
  have HX := Lib.hid z1
  have NB := Lib.hid (relNumbers_any (.agg #[.int .i64 m, .slice A xss.length c]) (.slice A2 cols.length c2) (m, xss) cols w6 ⟨_, rfl, H.out.on B6⟩ (H2.out.on B6) HP.out HCI.out HW6.out)
  simp only at NB
  obtain ⟨KS, hKS⟩ : ∃ KS, KS = keysI xss cols := ⟨_, rfl⟩
  rw [← hKS] at NB HN HK
  clear z0 z1 hKS
  go_wp2_with (go_at_call 69; refine NB.out.mono ?_; rintro e w7 ⟨A7, c7, rfl, ho7, hb7⟩)
  refine (numbersRel_any cols.length _ KS w6.heap.size w7.heap.size w7 ho7 (Nat.le_refl _) hb7.size HK.out.1 HW6.out HK.out.2).mono ?_
  rintro e w8 ⟨A8, c8, rfl, ho8, hb8⟩
  have hb68 : Below w6.heap.size w6 w8 := hb7.trans hb8
  have z7 := HX.out.below hb68 HX.out.lt
  have s8 := hb68.size
  have s7 := hb7.size
  clear q0 q1 b1c0 b1c1 b1f0 b1f1
  have b1c0 : w8.cell? ⟨w.heap.size + 1, 0, none⟩ = some (.int .i64 0) := z7.cell 0
  have b1c1 : w8.cell? ⟨w.heap.size + 1, 1, none⟩ = some (.slice none 0 0) := z7.cell 1
  have b1f0 := z7.frozen 0
  have b1f1 := z7.frozen 1
  have B7 := bthen B6 hb68
  rw [HN.out] at ho8 ⊢
  have HO := Lib.hid ho8
  clear ho8 z7 ho7 hb7 hb8
  obtain ⟨F, hF⟩ : ∃ F, F = putsB (takeRows xss cols) := ⟨_, rfl⟩
  rw [← hF] at HO HF ⊢
  clear hF
  go_wp2_with fail
  refine bodyPost_ret (v := .agg #[.int .i64 cols.length, .slice A8 F.length c8]) (by simp [results, Try.results32, go_sem, b1c0, b1c1]) rfl ?_
  rw [HF.out]
  refine ⟨A8, c8, rfl, ?_, (B7.setCell (by simp <;> omega) _).setCell (by simp <;> omega) _⟩
  have hrw := HO.out
  have h1 := (hrw.only (Only.setCell (Only.refl 0 (w.heap.size + 2) w8) (p := ⟨w.heap.size + 1, 0, none⟩) ⟨Nat.zero_le _, by simp⟩ (.int .i64 cols.length)) (.inr (by omega)))
  have h2 := (h1.only (Only.setCell (Only.refl 0 (w.heap.size + 2) _) (p := ⟨w.heap.size + 1, 1, none⟩) ⟨Nat.zero_le _, by simp⟩ (.slice A8 F.length c8)) (.inr (by omega)))
  exact h2.mono (by omega) (by simp)

end Go.Proofs.Ytchincemlilnoaa
/-
  What comes in, opened: integers.
-/
namespace Go.Proofs.Ytchincemlilnoaa
open Go.ChangeShapes Go.WideShapes Go.ChangeAt Go.RowKit Go.Joins Go.Deep

theorem Try.own : ownKnob Try.prog.godebug = none := by kernel_rfl
theorem Try.laidOut : laidOutB Try.prog = true := by kernel_rfl
theorem Try.cells3 : Try.prog.cellsOf 3 = 1 := by kernel_rfl
theorem Try.cells42 : Try.prog.cellsOf 42 = 1 := by kernel_rfl

section
variable {H : Type} {enc : TypeId × Value → H} {W : World}

/-- What is known of a slice of integers that came in. -/
def InInts (W : World) (v : Value) (xs : List Int) : Prop := RdInts W W.heap.size v xs ∧ xs.length ≤ maxLen

/-- The cells of a slice of integers. -/
theorem open_inInts_cells {fuel : Nat} {v : Value} {x : DataW H × List MemPlace} (h : DataW.trod enc Try.prog W 0 (fun _ => true) true fuel 42 [v] = some x) : ∃ xs, InInts W v xs := by
  rcases open_ints Try.underlying42 Try.underlying3 Try.cells3 h with ⟨hcs, _⟩ | ⟨a, len, cap, zs, hcs, _, hl, hm, hz, _, hcell, _⟩
  · simp at hcs
    subst hcs
    exact ⟨[], ⟨none, 0, rfl, by simp, fun h => absurd h (by simp)⟩, by simp⟩
  · simp at hcs
    subst hcs
    simp at hz
    refine ⟨zs.take len, ⟨some a, cap, ?_, by simp; omega, fun hn => ?_⟩, by simp; omega⟩
    · congr 1
      simp
      omega
    · have hlen : (zs.take len).length = len := by simp; omega
      obtain ⟨b, o, rfl, hc⟩ := ints_at hcell (by omega)
      refine ⟨b, o, rfl, World.block_lt_of_cell? _ _ (hc 0 (by omega)), fun k hk => ?_⟩
      rw [hc k (by omega)]
      simp [show k < zs.length by omega]

set_option maxRecDepth 100000 in
theorem open_inInts {v : Value} {d : DataW H} {p : List MemPlace} {b0 : Nat} (hv : Value.okWide Try.prog W .any b0 42 v) (h : DataW.Trod enc Try.prog W 0 (fun _ => true) true 42 v d p) :
    ∃ xs, InInts W v xs := by
  obtain ⟨a, len, cap, rfl⟩ := okWide_slice Try.underlying42 hv
  obtain ⟨fuel, hf⟩ := h
  exact open_inInts_cells (by simpa [Value.cells] using hf)

/-- What is known of an int that came in. -/
def InInt (v : Value) (n : Int) : Prop := v = .int .i64 n ∧ -9223372036854775808 ≤ n ∧ n ≤ 9223372036854775807

set_option maxRecDepth 100000 in
theorem open_inInt {v : Value} {d : DataW H} {p : List MemPlace} {b0 : Nat} (hv : Value.okWide Try.prog W .any b0 3 v) (h : DataW.Trod enc Try.prog W 0 (fun _ => true) true 3 v d p) : ∃ n, InInt v n := by
  obtain ⟨n, rfl, _, _, hw⟩ := open_int Try.underlying3 hv h
  exact ⟨n, rfl, bounds_i64 hw⟩
end

end Go.Proofs.Ytchincemlilnoaa
/-
  What comes in, opened: rows of slices of integers, relations.
-/
namespace Go.Proofs.Ytchincemlilnoaa
open Go.ChangeShapes Go.WideShapes Go.ChangeAt Go.RowKit Go.Joins Go.Deep

theorem Try.cells22 : Try.prog.cellsOf 22 = 1 := by kernel_rfl
theorem Try.cells24 : Try.prog.cellsOf 24 = 2 := by kernel_rfl

section
variable {H : Type} {enc : TypeId × Value → H} {W : World}

/-- What is known of a row of slices of integers that came in. -/
def InRows (W : World) (v : Value) (xss : List (List Int)) : Prop := RdRows W W.heap.size v xss ∧ xss.length ≤ maxLen ∧ ∀ k (h : k < xss.length), xss[k].length ≤ maxLen
/-- What is known of a relation that came in. -/
def InRel (W : World) (v : Value) (r : LRel) : Prop := RdRel W W.heap.size v r ∧ r.2.length ≤ maxLen ∧ ∀ k (h : k < r.2.length), r.2[k].length ≤ maxLen

set_option maxRecDepth 100000 in
theorem open_inRows_cells {fuel : Nat} {v : Value} {x : DataW H × List MemPlace} (h : DataW.trod enc Try.prog W 0 (fun _ => true) true fuel 22 [v] = some x) : ∃ xss, InRows W v xss := by
  rcases open_slice Try.underlying22 h with ⟨hcs, _⟩ | ⟨a', len', cap', m, n, D, Pl, hcs, _, hl, hm, hmm, _, hx⟩
  · simp at hcs
    subst hcs
    exact ⟨[], ⟨none, 0, rfl, by simp, fun h => absurd h (by simp)⟩, by simp, fun k h => absurd h (by simp)⟩
  · simp at hcs
    subst hcs
    simp at hmm
    subst hmm
    rw [Try.cells42] at hx
    obtain ⟨F, hF⟩ := choose_lt (α := Value × List Int) (n := m) (p := fun i q => W.cell? (a'.add (i * 1)) = some q.1 ∧ InInts W q.1 q.2) (fun i hi => by
      obtain ⟨cs', h1, h2⟩ := hx i hi
      obtain ⟨_, hlen, hcell⟩ := World.cells?_some h1
      match cs', hlen with
      | [v0], _ =>
        have e0 := hcell 0 (by omega)
        rw [add_add] at e0
        obtain ⟨ys, hy⟩ := open_inInts_cells h2
        exact ⟨(v0, ys), by simpa using e0, hy⟩)
    refine ⟨(List.range len').map fun i => (F i).2, ⟨some a', m, by simp, by simpa using hl, fun hn => ?_⟩, by simp; omega, fun k hk => ?_⟩
    · simp at hn
      obtain ⟨b, off, spot⟩ := a'
      have hspot : spot = none := by simpa [Addr.add] using World.cell?_spot (hF 0 (by omega)).1
      subst hspot
      have hb : b < W.heap.size := by simpa [Addr.add] using World.block_lt_of_cell? _ _ (hF 0 (by omega)).1
      refine ⟨b, off, rfl, hb, fun k hk => ?_⟩
      simp at hk
      obtain ⟨c0, r1, _⟩ := hF k (by omega)
      rw [Go.WideShapes.add_plain] at c0
      exact ⟨_, by simpa using c0, by simpa using r1⟩
    · simp at hk ⊢
      exact (hF k (by omega)).2.2

set_option maxRecDepth 100000 in
theorem open_rel_cells {fuel : Nat} {v0 v1 : Value} {x : DataW H × List MemPlace} (h : DataW.trod enc Try.prog W 0 (fun _ => true) true fuel 24 [v0, v1] = some x) : ∃ r : LRel, v0 = .int .i64 r.1 ∧ InRows W v1 r.2 := by
  obtain ⟨y0, y1, n, _, _, h0, h1⟩ := trod_struct2 Try.underlying24 h
  rw [Try.cells3] at h0
  rw [Try.cells22] at h1
  obtain ⟨m, e0, _, _⟩ := DataW.trod_int Try.underlying3 h0
  obtain ⟨xs, hx⟩ := open_inRows_cells h1
  simp at e0
  exact ⟨(m, xs), e0, hx⟩

set_option maxRecDepth 100000 in
theorem open_inRel {v : Value} {d : DataW H} {p : List MemPlace} {b0 : Nat} (hv : Value.okWide Try.prog W .any b0 24 v) (h : DataW.Trod enc Try.prog W 0 (fun _ => true) true 24 v d p) : ∃ r, InRel W v r := by
  obtain ⟨cs, rfl, hsz⟩ := okWide_struct Try.underlying24 hv
  obtain ⟨c0, c1, rfl⟩ := array2 (hsz.trans Try.cells24)
  obtain ⟨fuel, hf⟩ := h
  obtain ⟨r, rfl, h1, h2, h3⟩ := open_rel_cells (v0 := c0) (v1 := c1) (by simpa [Value.cells] using hf)
  exact ⟨r, ⟨c1, rfl, h1⟩, h2, h3⟩
end

end Go.Proofs.Ytchincemlilnoaa
