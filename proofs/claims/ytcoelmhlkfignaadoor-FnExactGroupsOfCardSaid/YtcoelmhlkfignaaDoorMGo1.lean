/-
  Texts that the claim's last one imports, laid together: part 1 of 2. No condition of its own.
-/
import Derived.Test.YtcoelmhlkfignaaDoorMRe5
import Derived.Test.YtcoelmhlkfignaaDoorMRe1
import Derived.Test.YtcoelmhlkfignaaDoorMRe4
import Derived.Test.YtcoelmhlkfignaaDoorMRe2
/-
  The specification's l5Group, l5Ready: the groups of what is reached.
-/
namespace Go.Proofs.YtcoelmhlkfignaaDoor
open Go.RowKit

/-- i stands in p's group. -/
def inG (T : Nat → Nat → Bool) (p i : Nat) : Bool := decide (i = p) || (T i p && T p i)
def grpN (T : Nat → Nat → Bool) (p k : Nat) : List Nat := (List.range k).filter (inG T p)
def grpI (T : Nat → Nat → Bool) (p k : Nat) : List Int := (grpN T p k).map (fun i : Nat => (i : Int))
theorem grpN_yes {T : Nat → Nat → Bool} {p k : Nat} (h : inG T p k = true) : grpI T p (k + 1) = grpI T p k ++ [(k : Int)] := by simp [grpI, grpN, List.range_succ, List.filter_append, h]
theorem grpN_no {T : Nat → Nat → Bool} {p k : Nat} (h : inG T p k = false) : grpI T p (k + 1) = grpI T p k := by simp [grpI, grpN, List.range_succ, List.filter_append, h]
theorem grpI_len (T : Nat → Nat → Bool) (p k : Nat) : (grpI T p k).length ≤ k := by
  have := List.length_filter_le (inG T p) (List.range k)
  simpa [grpI, grpN] using this

set_option maxHeartbeats 2000000 in
set_option maxRecDepth 100000 in
theorem l5Group_any (lo : Nat) (Ao : Option Addr) (co n p : Nat) (T : Nat → Nat → Bool) (rs : List Nat) (w : World) (h : BGrid lo w n T Ao co rs) (hrn : rs.length = n) (hn : n ≤ 24) (hp : p < n) :
    Calls Tryd.prog 54 #[.slice Ao n co, .int .i64 (p : Int)] w fun e w' => ∃ A' c', e = .returned (.slice A' (grpI T p n).length c') ∧ OwnInts w' w.heap.size w'.heap.size (.slice A' (grpI T p n).length c') (grpI T p n) ∧ Below w.heap.size w w' := by
  obtain ⟨i0, hi0, hz0, hz1, hz2⟩ := info_parts Tryd.infoInt
  have HG := Lib.hid h
  have HRN := Lib.hid hrn
  obtain ⟨g, rfl, hg⟩ := h.form (by omega)
  have C0 := Lib.hid (ColI.empty (Below.refl w.heap.size w))
  clear h hrn
  go_enter Tryd.func54, Tryd.ntmps54
  go_wp2_with (fail)
  go_loopw [5, 6] (fun o i wr => ∃ (k : Nat) (A' : Option Addr) (c' : Nat), k ≤ n ∧ i = .int .i64 k ∧ o = .slice A' (grpI T p k).length c' ∧ ColI w wr (grpI T p k) A' c') (fun _ i _ => n - (intOf i).toNat)
  case atStart => exact ⟨0, _, 0, Nat.zero_le _, rfl, rfl, C0.out⟩
  case round =>
    obtain ⟨k, A', c', hk, rfl, rfl, hcol⟩ := hrel
    have HC := Lib.hid hcol
    have HBE := Lib.hid hcol.below
    clear hcol
    have hgl := grpI_len T p k
    by_cases hlt : k < n
    · have hks : k < rs.length := by rw [HRN.out]; exact hlt
      have hps : p < rs.length := by rw [HRN.out]; exact hp
      have hbg := HG.out.below HBE.out
      obtain ⟨rk, hrk⟩ : ∃ rk, rk = rs[k] := ⟨_, rfl⟩
      obtain ⟨rp, hrp⟩ : ∃ rp, rp = rs[p] := ⟨_, rfl⟩
      obtain ⟨b1, hb1⟩ : ∃ b1, b1 = T k p := ⟨_, rfl⟩
      obtain ⟨b2, hb2⟩ : ∃ b2, b2 = T p k := ⟨_, rfl⟩
      have z1 : wr.cell? ⟨g, k, none⟩ = some (.slice (some ⟨rk, 0, none⟩) n n) := by rw [hrk]; exact hbg.head hks
      have z2 : wr.cell? ⟨rk, p, none⟩ = some (.bool b1) := by rw [hrk, (hbg.rows k hks).cell hp, hb1]
      have z3 : wr.cell? ⟨g, p, none⟩ = some (.slice (some ⟨rp, 0, none⟩) n n) := by rw [hrp]; exact hbg.head hps
      have z4 : wr.cell? ⟨rp, k, none⟩ = some (.bool b2) := by rw [hrp, (hbg.rows p hps).cell hlt, hb2]
      have hki : (k : Int) < (n : Int) := by omega
      have hpi : (p : Int) < (n : Int) := by omega
      have HIN := Lib.hid (show inG T p k = (decide (k = p) || (b1 && b2)) by unfold inG; rw [← hb1, ← hb2])
      have HY := Lib.hid (grpN_yes (T := T) (p := p) (k := k))
      have HN := Lib.hid (grpN_no (T := T) (p := p) (k := k))
      obtain ⟨Q, hQ⟩ : ∃ Q, Q = grpI T p k := ⟨_, rfl⟩
      rw [← hQ] at HC hgl HY HN ⊢
      clear hbg hrk hrp hb1 hb2 hQ
      have push : Hid (inG T p k = true) → ∀ (g2 cap : Nat) (w4 : World), w4.ownsRow w.heap.size 3 1 (.slice (some ⟨g2, 0, none⟩) (Q.length + 1) cap) (Q.length + 1) (Q.map (Value.int .i64) ++ [.int .i64 (k : Int)]) → (wr.alloc (.cells #[.int .i64 (k : Int)] 3)).grownBy w4 (Value.slice A' Q.length c').ownBlock → Hid (ColI w w4 (grpI T p (k + 1)) (some ⟨g2, 0, none⟩) cap ∧ Q.length + 1 = (grpI T p (k + 1)).length) := fun hh g2 cap w4 hown hgr => by
        rw [HY.out hh.out]
        exact ⟨HC.out.push (Below.refl _ _) hgr hown, by simp⟩
      by_cases he : k = p
      · have he0 : ((k : Int) == (p : Int)) = true := by simp [he]
        have HT := Lib.hid (show inG T p k = true by rw [HIN.out]; simp [he])
        have HE := Lib.hid he
        clear he
        go_wp2_with (at_builtin; refine wpList_append_lies _ rfl (.tmp 35) (.tmp 37) 22 rfl w.heap.size 3 i0 (.int .i64 0) 1 8 Tryd.underlying22 hi0 hz0 hz1 hz2 rfl (by decide) (.slice A' Q.length c') Q.length (Q.map (Value.int .i64)) rfl ?c1 ⟨wr.heap.size, 0, none⟩ 1 1 [.int .i64 (k : Int)] rfl rfl (news1 _ _ _) ?c2 (by omega) (by unfold maxLen; omega) (by omega) ?c3 _ rfl ?_)
        case c1 => exact HC.out.own.1.alloc _
        case c2 => intro u hu; simp at hu; subst hu; rfl
        case c3 => have := HC.out.below.size; simp; omega
        intro g2 cap w4 hown hgr _ _
        have HPU := push HT g2 cap w4 hown hgr
        clear hown hgr push
        rw [HPU.out.2]
        go_wp2_with (fail)
        go_roundw
        case rel => exact ⟨k + 1, _, _, by omega, by go_num, rfl, HPU.out.1⟩
        case measure => simp [intOf]; omega
      · have he0 : ((k : Int) == (p : Int)) = false := by rw [beq_eq_false_iff_ne]; omega
        have HIN2 := Lib.hid (show inG T p k = (b1 && b2) by rw [HIN.out]; simp [he])
        clear he
        by_cases hbb : (b1 && b2) = true
        · have HT := Lib.hid (show inG T p k = true by rw [HIN2.out, hbb])
          rw [Bool.and_eq_true] at hbb
          obtain ⟨rfl, rfl⟩ := hbb
          go_wp2_with (at_builtin; refine wpList_append_lies _ rfl (.tmp 35) (.tmp 37) 22 rfl w.heap.size 3 i0 (.int .i64 0) 1 8 Tryd.underlying22 hi0 hz0 hz1 hz2 rfl (by decide) (.slice A' Q.length c') Q.length (Q.map (Value.int .i64)) rfl ?c1 ⟨wr.heap.size, 0, none⟩ 1 1 [.int .i64 (k : Int)] rfl rfl (news1 _ _ _) ?c2 (by omega) (by unfold maxLen; omega) (by omega) ?c3 _ rfl ?_)
          case c1 => exact HC.out.own.1.alloc _
          case c2 => intro u hu; simp at hu; subst hu; rfl
          case c3 => have := HC.out.below.size; simp; omega
          intro g2 cap w4 hown hgr _ _
          have HPU := push HT g2 cap w4 hown hgr
          clear hown hgr push
          rw [HPU.out.2]
          go_wp2_with (fail)
          go_roundw
          case rel => exact ⟨k + 1, _, _, by omega, by go_num, rfl, HPU.out.1⟩
          case measure => simp [intOf]; omega
        · have hbf : (b1 && b2) = false := by simpa using hbb
          have HF := Lib.hid (HN.out (by rw [HIN2.out, hbf]))
          clear hbb push
          cases b1
          · clear hbf
            go_wp2_with (fail)
            go_roundw
            case rel => exact ⟨k + 1, _, _, by omega, by go_num, by rw [HF.out], by rw [HF.out]; exact HC.out⟩
            case measure => simp [intOf]; omega
          · cases b2
            · clear hbf
              go_wp2_with (fail)
              go_roundw
              case rel => exact ⟨k + 1, _, _, by omega, by go_num, by rw [HF.out], by rw [HF.out]; exact HC.out⟩
              case measure => simp [intOf]; omega
            · cases hbf
    · have hkn : k = n := by omega
      subst hkn
      go_wp2_with (fail)
      go_ret
      exact ⟨_, _, rfl, HC.out.own, HBE.out⟩

theorem RdInts.getG {w : World} {B n c : Nat} {A : Option Addr} {xs : List Int} (h : RdInts w B (.slice A n c) xs) {k : Nat} (hk : k < xs.length) : ∃ b o, A = some ⟨b, o, none⟩ ∧ b < B ∧ w.cell? ⟨b, o + k, none⟩ = some (.int .i64 xs[k]) := by
  obtain ⟨A', c', e, hc, h⟩ := h
  injection e with e1 e2 e3
  subst e1
  obtain ⟨b, o, rfl, hb, hx⟩ := h (by omega)
  exact ⟨b, o, rfl, hb, hx k hk⟩
theorem mem_take_step {xs : List Int} {x : Int} {k : Nat} (hk : k < xs.length) (h : x ∉ xs.take k) (e : xs[k] ≠ x) : x ∉ xs.take (k + 1) := by
  rw [take_snoc xs k hk, List.mem_append, List.mem_singleton]
  rintro (h1 | h1)
  · exact h h1
  · exact e h1.symm

set_option maxRecDepth 100000 in
theorem l5Has_any (v : Value) (xs : List Int) (x : Int) (w : World) (h : RdInts w w.heap.size v xs) (hl : xs.length ≤ 1048576) :
    Calls Tryd.prog 73 #[v, .int .i64 x] w fun e w' => e = .returned (.bool (decide (x ∈ xs))) ∧ w = w' := by
  have H := Lib.hid h
  obtain ⟨A, c, rfl, hc, _⟩ := h
  obtain ⟨R, hR⟩ : ∃ R, R = decide (x ∈ xs) := ⟨_, rfl⟩
  have HR := Lib.hid hR
  rw [← hR]
  clear hR
  go_enter Tryd.func73, Tryd.ntmps73
  go_wp2_with (fail)
  go_loop [5] (fun i => ∃ k : Nat, k ≤ xs.length ∧ i = .int .i64 k ∧ x ∉ xs.take k) (fun i => xs.length - (intOf i).toNat)
  case atStart => exact ⟨0, Nat.zero_le _, rfl, by simp⟩
  case round =>
    obtain ⟨k, hk, rfl, hs⟩ := hrel
    have HS := Lib.hid hs
    clear hs
    by_cases hlt : k < xs.length
    · obtain ⟨b, o, rfl, hb, q0⟩ := RdInts.getG H.out hlt
      obtain ⟨y, hy⟩ : ∃ y, y = xs[k] := ⟨_, rfl⟩
      rw [← hy] at q0
      have HY := Lib.hid hy
      clear hy hb
      by_cases he : y = x
      · have he0 : (y == x) = true := by simp [he]
        have HE := Lib.hid (show true = R by rw [HR.out]; symm; simp; rw [← he, HY.out]; exact List.getElem_mem hlt)
        clear he
        go_wp2_with (fail)
        go_ret
        exact ⟨ret_bool HE.out, rfl⟩
      · have he0 : (y == x) = false := by simp [he]
        have HN := Lib.hid (mem_take_step hlt HS.out (by rw [← HY.out]; exact he))
        clear he
        go_wp2_with (fail)
        go_round
        case rel => exact ⟨k + 1, by omega, by go_num, HN.out⟩
        case measure => simp [intOf]; omega
    · have HE := Lib.hid (show false = R by rw [HR.out]; have := HS.out; rw [show k = xs.length by omega, List.take_length] at this; simp [this])
      go_wp2_with (fail)
      go_ret
      exact ⟨ret_bool HE.out, rfl⟩

/-- Every one that a group reaches is told, or stands in it. -/
def okAt (T : Nat → Nat → Bool) (xs : List Int) (D : Nat → Bool) (m : Int) (k : Nat) : Bool := !(T m.toNat k && (!D k && !decide ((k : Int) ∈ xs)))
def readyB (T : Nat → Nat → Bool) (xs : List Int) (D : Nat → Bool) (n : Nat) : Bool := xs.all fun m => (List.range n).all fun k => okAt T xs D m k

theorem readyB_iff {T : Nat → Nat → Bool} {xs : List Int} {D : Nat → Bool} {n : Nat} : readyB T xs D n = true ↔ ∀ m ∈ xs, ∀ k, k < n → okAt T xs D m k = true := by
  unfold readyB
  simp only [List.all_eq_true, List.mem_range]
theorem readyB_not {T : Nat → Nat → Bool} {xs : List Int} {D : Nat → Bool} {n i k : Nat} (hi : i < xs.length) (hk : k < n) (h : okAt T xs D xs[i] k = false) : readyB T xs D n = false := by
  cases e : readyB T xs D n
  · rfl
  · have := readyB_iff.1 e _ (List.getElem_mem hi) k hk
    rw [h] at this
    cases this

set_option maxHeartbeats 2000000 in
set_option maxRecDepth 100000 in
theorem l5Ready_any (lo : Nat) (Ao : Option Addr) (co n gd : Nat) (T : Nat → Nat → Bool) (D : Nat → Bool) (xs : List Int) (rs : List Nat) (v : Value) (w : World) (h : BGrid lo w n T Ao co rs) (hrn : rs.length = n) (hn : n ≤ 24) (hx : RdInts w w.heap.size v xs) (hxl : xs.length ≤ 24) (hxn : ∀ x ∈ xs, 0 ≤ x ∧ x < (n : Int)) (hd : w.rowIs gd 4 n (fun j => .bool (D j))) :
    Calls Tryd.prog 55 #[.slice Ao n co, v, .slice (some ⟨gd, 0, none⟩) n n] w fun e w' => e = .returned (.bool (readyB T xs D n)) ∧ w = w' := by
  have HG := Lib.hid h
  have HRN := Lib.hid hrn
  have HX := Lib.hid hx
  have HXN := Lib.hid hxn
  have HD := Lib.hid hd
  obtain ⟨A, c, rfl, hc, _⟩ := hx
  obtain ⟨R, hR⟩ : ∃ R, R = readyB T xs D n := ⟨_, rfl⟩
  have HR := Lib.hid hR
  rw [← hR]
  clear hR h hrn hxn hd
  have HH := Lib.hid (fun (x : Int) => l5Has_any (.slice A xs.length c) xs x w HX.out (by omega))
  go_enter Tryd.func55, Tryd.ntmps55
  go_wp2_with (fail)
  go_loop [7, 8] (fun i _ => ∃ j : Nat, j ≤ xs.length ∧ i = .int .i64 j ∧ ∀ m ∈ xs.take j, ∀ k, k < n → okAt T xs D m k = true) (fun i _ => xs.length - (intOf i).toNat)
  case atStart => exact ⟨0, Nat.zero_le _, rfl, by simp⟩
  case round =>
    obtain ⟨j, hj, rfl, hs⟩ := hrel
    have HS := Lib.hid hs
    clear hs
    by_cases hlt : j < xs.length
    · obtain ⟨b, o, rfl, hb, q0⟩ := RdInts.getG HX.out hlt
      obtain ⟨z0, z1⟩ := HXN.out _ (List.getElem_mem hlt)
      obtain ⟨q, hq⟩ : ∃ q : Nat, xs[j] = (q : Int) := ⟨xs[j].toNat, by omega⟩
      have HQ := Lib.hid hq
      rw [hq] at q0 z0 z1
      have hqn : q < n := by omega
      have hqs : q < rs.length := by rw [HRN.out]; exact hqn
      obtain ⟨g, rfl, hg⟩ := HG.out.form (by omega)
      obtain ⟨rq, hrq⟩ : ∃ rq, rq = rs[q] := ⟨_, rfl⟩
      have x1 : w.cell? ⟨g, q, none⟩ = some (.slice (some ⟨rq, 0, none⟩) n n) := by rw [hrq]; exact HG.out.head hqs
      have HROW := Lib.hid (show w.rowIs rq 4 n (fun k => .bool (T q k)) by rw [hrq]; exact HG.out.rows q hqs)
      clear hq hrq hb hg
      go_wp2_with (fail)
      go_loop [8] (fun i => ∃ k : Nat, k ≤ n ∧ i = .int .i64 k ∧ ∀ k', k' < k → okAt T xs D xs[j] k' = true) (fun i => n - (intOf i).toNat)
      case atStart => exact ⟨0, Nat.zero_le _, rfl, fun k' hk' => absurd hk' (by omega)⟩
      case round =>
        obtain ⟨k, hk, rfl, hs⟩ := hrel
        have HS2 := Lib.hid hs
        clear hs
        by_cases hlk : k < n
        · have hki : (k : Int) < (n : Int) := by omega
          obtain ⟨tb, htb⟩ : ∃ tb, tb = T q k := ⟨_, rfl⟩
          obtain ⟨db, hdb⟩ : ∃ db, db = D k := ⟨_, rfl⟩
          obtain ⟨hv, hhv⟩ : ∃ hv, hv = decide ((k : Int) ∈ xs) := ⟨_, rfl⟩
          have x2 : w.cell? ⟨rq, k, none⟩ = some (.bool tb) := by rw [HROW.out.cell hlk, htb]
          have x3 : w.cell? ⟨gd, k, none⟩ = some (.bool db) := by rw [HD.out.cell hlk, hdb]
          have HOK := Lib.hid (show okAt T xs D xs[j] k = !(tb && (!db && !hv)) by unfold okAt; rw [HQ.out, Int.toNat_natCast, ← htb, ← hdb, ← hhv])
          have CH := Lib.hid (HH.out (k : Int))
          rw [← hhv] at CH
          have HNX := Lib.hid (show okAt T xs D xs[j] k = true → ∀ k', k' < k + 1 → okAt T xs D xs[j] k' = true from fun hh k' hk' => by
            by_cases e : k' = k
            · rw [e]; exact hh
            · exact HS2.out k' (by omega))
          have HNO := Lib.hid (readyB_not (T := T) (D := D) hlt hlk)
          clear htb hdb hhv
          cases tb
          · have HN := Lib.hid (HNX.out (by rw [HOK.out]; rfl))
            go_wp2_with (fail)
            go_round
            case rel => exact ⟨k + 1, by omega, by go_num, HN.out⟩
            case measure => simp [intOf]; omega
          · cases db
            · cases hv
              · have HE := Lib.hid (show false = R by rw [HR.out, HNO.out (by rw [HOK.out]; rfl)])
                go_wp2_with (go_at_call 73; refine CH.out.mono ?_; rintro e w1 ⟨rfl, rfl⟩)
                go_ret
                exact ⟨ret_bool HE.out, rfl⟩
              · have HN := Lib.hid (HNX.out (by rw [HOK.out]; rfl))
                go_wp2_with (go_at_call 73; refine CH.out.mono ?_; rintro e w1 ⟨rfl, rfl⟩)
                go_round
                case rel => exact ⟨k + 1, by omega, by go_num, HN.out⟩
                case measure => simp [intOf]; omega
            · have HN := Lib.hid (HNX.out (by rw [HOK.out]; cases hv <;> rfl))
              go_wp2_with (fail)
              go_round
              case rel => exact ⟨k + 1, by omega, by go_num, HN.out⟩
              case measure => simp [intOf]; omega
        · have HN := Lib.hid (show ∀ m ∈ xs.take (j + 1), ∀ k, k < n → okAt T xs D m k = true from fun m hm k' hk' => by
            rw [take_snoc xs j hlt, List.mem_append, List.mem_singleton] at hm
            rcases hm with hm | rfl
            · exact HS.out m hm k' hk'
            · exact HS2.out k' (by omega))
          go_wp2_with (fail)
          go_round
          case rel => exact ⟨j + 1, by omega, by go_num, HN.out⟩
          case measure => simp [intOf]; omega
    · have HE := Lib.hid (show true = R by rw [HR.out]; symm; rw [readyB_iff]; have := HS.out; rw [show j = xs.length by omega, List.take_length] at this; exact this)
      go_wp2_with (fail)
      go_ret
      exact ⟨ret_bool HE.out, rfl⟩

end Go.Proofs.YtcoelmhlkfignaaDoor
/-
  The order of the groups: plain mathematics. No walk.
-/
namespace Go.Proofs.YtcoelmhlkfignaaDoor
open Go.RowKit

/-- What is reached over others is reached. -/
def TrT (T : Nat → Nat → Bool) (n : Nat) : Prop := ∀ a b c, b < n → T a b = true → T b c = true → T a c = true
section
variable {T : Nat → Nat → Bool} {n p q i : Nat} {D : Nat → Bool}
theorem inG_iff : inG T p i = true ↔ i = p ∨ (T i p = true ∧ T p i = true) := by simp [inG]
theorem inG_refl (T : Nat → Nat → Bool) (p : Nat) : inG T p p = true := inG_iff.2 (.inl rfl)
theorem inG_symm (h : inG T p i = true) : inG T i p = true := by
  rw [inG_iff] at h ⊢
  rcases h with rfl | ⟨h1, h2⟩
  · exact .inl rfl
  · exact .inr ⟨h2, h1⟩
theorem inG_trans (hT : TrT T n) (hi : i < n) (h : inG T p i = true) (h2 : inG T i q = true) : inG T p q = true := by
  rw [inG_iff] at h h2 ⊢
  rcases h with rfl | ⟨a1, a2⟩
  · exact h2
  · rcases h2 with rfl | ⟨b1, b2⟩
    · exact .inr ⟨a1, a2⟩
    · exact .inr ⟨hT q i p hi b1 a1, hT p i q hi a2 b2⟩
theorem grpI_mem {x : Int} : x ∈ grpI T p n ↔ ∃ i : Nat, i < n ∧ inG T p i = true ∧ x = (i : Int) := by
  unfold grpI grpN
  rw [List.mem_map]
  constructor
  · rintro ⟨i, hi, rfl⟩
    rw [List.mem_filter, List.mem_range] at hi
    exact ⟨i, hi.1, hi.2, rfl⟩
  · rintro ⟨i, h1, h2, rfl⟩
    exact ⟨i, List.mem_filter.2 ⟨List.mem_range.2 h1, h2⟩, rfl⟩
theorem grpI_mem_nat {i : Nat} : (i : Int) ∈ grpI T p n ↔ i < n ∧ inG T p i = true := by
  rw [grpI_mem]
  constructor
  · rintro ⟨j, h1, h2, e⟩
    have : i = j := by omega
    subst this
    exact ⟨h1, h2⟩
  · rintro ⟨h1, h2⟩
    exact ⟨i, h1, h2, rfl⟩
theorem inG_same (hT : TrT T n) (hp : p < n) (hq : q < n) (h : inG T p q = true) (i : Nat) : inG T p i = inG T q i := by
  cases e1 : inG T p i <;> cases e2 : inG T q i <;> try rfl
  · have := inG_trans hT hq h e2
    rw [e1] at this
    exact this
  · have := inG_trans hT hp (inG_symm h) e1
    rw [e2] at this
    cases this
theorem grp_same (hT : TrT T n) (hp : p < n) (hq : q < n) (h : inG T p q = true) : grpI T p n = grpI T q n := by
  unfold grpI grpN
  rw [List.filter_congr fun i _ => inG_same hT hp hq h i]

/-- Told is a union of groups. -/
def ClG (T : Nat → Nat → Bool) (n : Nat) (D : Nat → Bool) : Prop := ∀ a b, a < n → b < n → inG T a b = true → D a = D b
/-- A group that can be told next. -/
def goodB (T : Nat → Nat → Bool) (n : Nat) (D : Nat → Bool) (p : Nat) : Bool := !D p && readyB T (grpI T p n) D n
theorem good_same (hT : TrT T n) (hc : ClG T n D) (hp : p < n) (hq : q < n) (h : inG T p q = true) : goodB T n D p = goodB T n D q := by
  unfold goodB
  rw [hc p q hp hq h, grp_same hT hp hq h]
theorem ready_iff : readyB T (grpI T p n) D n = true ↔ ∀ i, i < n → inG T p i = true → ∀ k, k < n → T i k = true → D k = true ∨ inG T p k = true := by
  rw [readyB_iff]
  constructor
  · intro h i hi hg k hk ht
    have h1 := h (i : Int) (grpI_mem_nat.2 ⟨hi, hg⟩) k hk
    unfold okAt at h1
    rw [Int.toNat_natCast, ht] at h1
    cases hd : D k
    · rw [hd] at h1
      have h2 : (k : Int) ∈ grpI T p n := by simpa using h1
      exact .inr (grpI_mem_nat.1 h2).2
    · exact .inl rfl
  · intro h m hm k hk
    obtain ⟨i, hi, hg, rfl⟩ := grpI_mem.1 hm
    unfold okAt
    rw [Int.toNat_natCast]
    cases ht : T i k
    · rfl
    · rcases h i hi hg k hk ht with h1 | h1
      · rw [h1]; rfl
      · rw [decide_eq_true (grpI_mem_nat.2 ⟨hk, h1⟩)]
        cases D k <;> rfl

/-- How many that are not told are reached, itself with them. -/
def restN (T : Nat → Nat → Bool) (n : Nat) (D : Nat → Bool) (q : Nat) : Nat := ((List.range n).filter fun x => (decide (x = q) || T q x) && !D x).length
theorem filter_less {α : Type} {f g : α → Bool} : ∀ (l : List α), (∀ x ∈ l, f x = true → g x = true) → (l.filter f).length ≤ (l.filter g).length
  | [], _ => Nat.le_refl _
  | x :: l, h => by
    have ih := filter_less l fun y hy => h y (List.mem_cons_of_mem _ hy)
    have hx := h x List.mem_cons_self
    cases e1 : f x <;> cases e2 : g x <;> simp only [List.filter_cons, e1, e2] <;> simp <;> first | omega | (rw [hx e1] at e2; cases e2)
theorem filter_lt {α : Type} {f g : α → Bool} : ∀ (l : List α) (y : α), y ∈ l → (∀ x ∈ l, f x = true → g x = true) → f y = false → g y = true → (l.filter f).length < (l.filter g).length
  | x :: l, y, hy, h, h1, h2 => by
    have hl := fun z hz => h z (List.mem_cons_of_mem x hz)
    rcases List.mem_cons.1 hy with rfl | hy
    · have := filter_less l hl
      simp only [List.filter_cons, h1, h2]
      simp
      omega
    · have ih := filter_lt l y hy hl h1 h2
      have hx := h x List.mem_cons_self
      cases e1 : f x <;> cases e2 : g x <;> simp only [List.filter_cons, e1, e2] <;> simp <;> first | omega | (rw [hx e1] at e2; cases e2)
theorem ready_ex (hT : TrT T n) : ∀ (c q : Nat), q < n → D q = false → restN T n D q ≤ c → ∃ p, p < n ∧ goodB T n D p = true := by
  intro c
  induction c with
  | zero =>
    intro q hq hd hc
    have : restN T n D q ≠ 0 := by
      unfold restN
      intro e
      have := List.eq_nil_of_length_eq_zero e
      have h2 : q ∈ (List.range n).filter fun x => (decide (x = q) || T q x) && !D x := List.mem_filter.2 ⟨List.mem_range.2 hq, by simp [hd]⟩
      rw [this] at h2
      cases h2
    omega
  | succ c ih =>
    intro q hq hd hc
    by_cases hr : readyB T (grpI T q n) D n = true
    · exact ⟨q, hq, by unfold goodB; rw [hd, hr]; rfl⟩
    · have : ∃ i, i < n ∧ inG T q i = true ∧ ∃ k, k < n ∧ T i k = true ∧ D k = false ∧ inG T q k = false := by
        apply Classical.byContradiction
        intro hno
        apply hr
        rw [ready_iff]
        intro i hi hg k hk ht
        apply Classical.byContradiction
        intro h3
        apply hno
        refine ⟨i, hi, hg, k, hk, ht, ?_, ?_⟩
        · cases e : D k
          · rfl
          · exact absurd (.inl e) h3
        · cases e : inG T q k
          · rfl
          · exact absurd (.inr e) h3
      obtain ⟨i, hi, hg, k, hk, ht, hdk, hnk⟩ := this
      have hqk : T q k = true := by
        rcases inG_iff.1 hg with rfl | ⟨_, h2⟩
        · exact ht
        · exact hT q i k hi h2 ht
      have hkq : T k q = false := by
        cases e : T k q
        · rfl
        · have := inG_iff.2 (Or.inr ⟨e, hqk⟩)
          rw [hnk] at this
          cases this
      have hne : q ≠ k := fun e => by
        subst e
        rw [inG_refl] at hnk
        cases hnk
      refine ih k hk hdk ?_
      have hlt : restN T n D k < restN T n D q := by
        refine filter_lt _ q (List.mem_range.2 hq) (fun x _ hx => ?_) ?_ ?_
        · simp only [Bool.and_eq_true, Bool.or_eq_true, decide_eq_true_eq] at hx ⊢
          refine ⟨.inr ?_, hx.2⟩
          rcases hx.1 with rfl | h5
          · exact hqk
          · exact hT q k x hk hqk h5
        · simp [hne, hkq]
        · simp [hd]
      omega
theorem good_ex (hT : TrT T n) (hq : q < n) (hd : D q = false) : ∃ p, p < n ∧ goodB T n D p = true := ready_ex hT _ q hq hd (Nat.le_refl _)

/-- The least one that is good. -/
def pickG (T : Nat → Nat → Bool) (n : Nat) (D : Nat → Bool) : Option Nat := (List.range n).find? (goodB T n D)
def addG (T : Nat → Nat → Bool) (D : Nat → Bool) (p : Nat) : Nat → Bool := fun j => D j || inG T p j
def cntD (n : Nat) (D : Nat → Bool) : Nat := ((List.range n).filter D).length
/-- The state behind r rounds: what is told, the groups' least members. -/
def runG (T : Nat → Nat → Bool) (n : Nat) : Nat → (Nat → Bool) × List Nat
  | 0 => (fun _ => false, [])
  | r + 1 => match pickG T n (runG T n r).1 with
    | some p => (addG T (runG T n r).1 p, (runG T n r).2 ++ [p])
    | none => runG T n r
theorem pickG_some (h : pickG T n D = some p) : p < n ∧ goodB T n D p = true ∧ ∀ i, i < p → goodB T n D i = false := by
  unfold pickG at h
  rw [List.find?_eq_some_iff_append] at h
  obtain ⟨h1, us, vs, e, h2⟩ := h
  have hm : p ∈ List.range n := by rw [e]; simp
  have hp := List.mem_range.1 hm
  refine ⟨hp, h1, fun i hi => ?_⟩
  have hlen : us.length = p := by
    have h3 : (List.range n)[us.length]? = some p := by rw [e]; simp
    rw [List.getElem?_range (by have := congrArg List.length e; simp at this; omega)] at h3
    simpa using h3
  have h4 : i ∈ us := by
    have h5 : (List.range n)[i]? = us[i]? := by rw [e, List.getElem?_append_left (by omega)]
    rw [List.getElem?_range (by omega)] at h5
    exact List.mem_of_getElem? h5.symm
  have := h2 i h4
  simpa using this
theorem pickG_is (hp : p < n) (h : goodB T n D p = true) (hl : ∀ i, i < p → goodB T n D i = false) : pickG T n D = some p := by
  cases e : pickG T n D with
  | none =>
    unfold pickG at e
    rw [List.find?_eq_none] at e
    exact absurd h (e p (List.mem_range.2 hp))
  | some q =>
    obtain ⟨h1, h2, h3⟩ := pickG_some e
    rcases Nat.lt_trichotomy p q with h4 | h4 | h4
    · have := h3 p h4
      rw [h] at this
      cases this
    · rw [h4]
    · have := hl q h4
      rw [h2] at this
      cases this
theorem addG_cl (hT : TrT T n) (hc : ClG T n D) (_hp : p < n) : ClG T n (addG T D p) := fun a b ha hb h => by
  unfold addG
  rw [hc a b ha hb h]
  congr 1
  cases e1 : inG T p a <;> cases e2 : inG T p b <;> try rfl
  · have := inG_trans hT hb e2 (inG_symm h)
    rw [e1] at this
    exact this
  · have := inG_trans hT ha e1 h
    rw [e2] at this
    cases this
theorem cnt_two {α : Type} {f g : α → Bool} : ∀ (l : List α), (∀ x ∈ l, f x = true → g x = false) → (l.filter fun x => f x || g x).length = (l.filter f).length + (l.filter g).length
  | [], _ => rfl
  | x :: l, h => by
    have ih := cnt_two l fun y hy => h y (List.mem_cons_of_mem _ hy)
    have hx := h x List.mem_cons_self
    cases e1 : f x <;> cases e2 : g x <;> simp only [List.filter_cons, e1, e2] <;> simp <;> first | omega | (rw [hx e1] at e2; cases e2)
theorem addG_cnt (hc : ClG T n D) (hp : p < n) (hd : D p = false) : cntD n (addG T D p) = cntD n D + (grpI T p n).length := by
  unfold cntD addG grpI grpN
  rw [List.length_map]
  refine cnt_two _ fun x hx h => ?_
  cases e : inG T p x
  · rfl
  · have := hc p x hp (List.mem_range.1 hx) e
    rw [hd, h] at this
    cases this
theorem grpI_pos (hp : p < n) : 0 < (grpI T p n).length := List.length_pos_of_mem (grpI_mem_nat.2 ⟨hp, inG_refl T p⟩)
theorem cntD_le (n : Nat) (D : Nat → Bool) : cntD n D ≤ n := by
  have := List.length_filter_le D (List.range n)
  simpa [cntD] using this
theorem cntD_all (h : cntD n D = n) : ∀ q, q < n → D q = true := fun q hq => by
  cases e : D q
  · have h1 := filter_lt (f := D) (g := fun _ => true) (List.range n) q (List.mem_range.2 hq) (fun _ _ _ => rfl) e rfl
    unfold cntD at h
    rw [h] at h1
    have h2 := List.length_filter_le (fun _ => true) (List.range n)
    rw [List.length_range] at h2
    omega
  · rfl
theorem cntD_lt (h : cntD n D < n) : ∃ q, q < n ∧ D q = false := by
  apply Classical.byContradiction
  intro hno
  have : (List.range n).filter D = List.range n := List.filter_eq_self.2 fun x hx => by
    cases e : D x
    · exact absurd ⟨x, List.mem_range.1 hx, e⟩ hno
    · rfl
  unfold cntD at h
  rw [this] at h
  simp at h
theorem runG_cl (hT : TrT T n) : ∀ r, ClG T n (runG T n r).1
  | 0 => fun _ _ _ _ _ => rfl
  | r + 1 => by
    unfold runG
    cases e : pickG T n (runG T n r).1 with
    | none => exact runG_cl hT r
    | some p => exact addG_cl hT (runG_cl hT r) (pickG_some e).1
theorem runG_next {r : Nat} (h : pickG T n (runG T n r).1 = some p) : runG T n (r + 1) = (addG T (runG T n r).1 p, (runG T n r).2 ++ [p]) := by
  rw [runG, h]
theorem runG_stay {r : Nat} (h : ∀ q, q < n → (runG T n r).1 q = true) : ∀ d, runG T n (r + d) = runG T n r
  | 0 => rfl
  | d + 1 => by
    have ih := runG_stay h d
    have e : pickG T n (runG T n (r + d)).1 = none := by
      rw [ih]
      unfold pickG
      rw [List.find?_eq_none]
      intro x hx
      unfold goodB
      rw [h x (List.mem_range.1 hx)]
      simp
    show runG T n (r + d + 1) = _
    rw [runG, e]
    exact ih
/-- The groups in their order. -/
def groupsG (T : Nat → Nat → Bool) (n : Nat) : List (List Int) := (runG T n n).2.map fun p => grpI T p n
/-- A group's head is its least member. -/
theorem grp_head (hp : p < n) : ∃ h0 : Nat, (grpI T p n)[0]? = some (h0 : Int) ∧ h0 ≤ p ∧ inG T p h0 = true := by
  unfold grpI grpN
  have hm : p ∈ (List.range n).filter (inG T p) := List.mem_filter.2 ⟨List.mem_range.2 hp, inG_refl T p⟩
  cases e : (List.range n).filter (inG T p) with
  | nil => rw [e] at hm; cases hm
  | cons x l =>
    have hx : x ∈ (List.range n).filter (inG T p) := by rw [e]; exact List.mem_cons_self
    have hs : ((List.range n).filter (inG T p)).Pairwise (· < ·) := List.Pairwise.filter _ List.pairwise_lt_range
    rw [e] at hs hm
    refine ⟨x, by simp, ?_, (List.mem_filter.1 hx).2⟩
    rcases List.mem_cons.1 hm with rfl | h1
    · exact Nat.le_refl _
    · exact Nat.le_of_lt ((List.pairwise_cons.1 hs).1 p h1)
end

end Go.Proofs.YtcoelmhlkfignaaDoor
/-
  The groups as the program has them, in words, and their order: plain mathematics. No walk.
-/
namespace Go.Proofs.YtcoelmhlkfignaaDoor
open Go.RowKit

/-- Words of groups and of what is reached fit a table. -/
structure WordsG (T : Nat → Nat → Bool) (n : Nat) (G Rw : Nat → Nat) (gs : List Nat) : Prop where
  tr : TrT T n
  grp : ∀ p, p < n → ∀ q, has (G p) q ↔ q < n ∧ inG T p q = true
  rch : ∀ p, p < n → ∀ q, has (Rw p) q ↔ q < n ∧ T p q = true
  all : ∀ p, p < n → G p ∈ gs
  own : ∀ g ∈ gs, ∃ q, q < n ∧ g = G q
  nodup : gs.Nodup
section
variable {T : Nat → Nat → Bool} {n p q i told : Nat} {D : Nat → Bool} {G Rw : Nat → Nat} {gs : List Nat}
theorem word_zero {x : Nat} : x = 0 ↔ ∀ j, ¬ has x j := by
  constructor
  · rintro rfl j
    simp [has]
  · intro h
    refine Nat.eq_of_testBit_eq fun j => ?_
    have := h j
    unfold has at this
    simp only [Nat.zero_testBit]
    cases e : x.testBit j
    · rfl
    · exact absurd e this
/-- What the program asks of a predicate. -/
def askW (G Rw : Nat → Nat) (told i : Nat) : Bool := (G i &&& told == 0) && (lessN (lessN (Rw i) (G i)) told == 0)
theorem askW_is (h : WordsG T n G Rw gs) (hc : ClG T n D) (ht : ∀ j, has told j ↔ j < n ∧ D j = true) (hi : i < n) : askW G Rw told i = goodB T n D i := by
  have h1 : (G i &&& told == 0) = !D i := by
    cases e : D i
    · show (G i &&& told == 0) = true
      rw [beq_iff_eq, word_zero]
      intro j hj
      unfold has at hj
      rw [Nat.testBit_and, Bool.and_eq_true] at hj
      obtain ⟨h2, h3⟩ := (h.grp i hi j).1 hj.1
      have h4 := ((ht j).1 hj.2).2
      rw [← hc i j hi h2 h3, e] at h4
      cases h4
    · show (G i &&& told == 0) = false
      rw [beq_eq_false_iff_ne]
      intro h0
      refine (word_zero.1 h0) i ?_
      unfold has
      rw [Nat.testBit_and, Bool.and_eq_true]
      exact ⟨(h.grp i hi i).2 ⟨hi, inG_refl T i⟩, (ht i).2 ⟨hi, e⟩⟩
  have h2 : (lessN (lessN (Rw i) (G i)) told == 0) = readyB T (grpI T i n) D n := by
    have key : lessN (lessN (Rw i) (G i)) told = 0 ↔ readyB T (grpI T i n) D n = true := by
      rw [word_zero, ready_iff]
      constructor
      · intro h0 m hm hg k hk hmk
        have hik : T i k = true := by
          rcases inG_iff.1 hg with rfl | ⟨_, a2⟩
          · exact hmk
          · exact h.tr i m k hm a2 hmk
        have h3 := h0 k
        rw [has_less, has_less, h.rch i hi, h.grp i hi, ht k] at h3
        cases e1 : D k
        · cases e2 : inG T i k
          · exact absurd ⟨⟨⟨hk, hik⟩, fun h4 => by rw [e2] at h4; exact absurd h4.2 (by decide)⟩, fun h4 => by rw [e1] at h4; exact absurd h4.2 (by decide)⟩ h3
          · exact .inr rfl
        · exact .inl rfl
      · intro h0 k hk
        rw [has_less, has_less, h.rch i hi, h.grp i hi, ht k] at hk
        obtain ⟨⟨⟨h3, h4⟩, h5⟩, h6⟩ := hk
        rcases h0 i hi (inG_refl T i) k h3 h4 with h7 | h7
        · exact h6 ⟨h3, h7⟩
        · exact h5 ⟨h3, h7⟩
    cases e : readyB T (grpI T i n) D n
    · rw [beq_eq_false_iff_ne]
      intro h0
      have := key.1 h0
      rw [e] at this
      cases this
    · rw [beq_iff_eq]
      exact key.2 e
  unfold askW goodB
  rw [h1, h2]

/-- The told groups among all. -/
def leftG (D : Nat → Bool) (G : Nat → Nat) (n : Nat) (gs : List Nat) : Nat := (gs.filter fun g => (List.range n).any fun q => (G q == g) && !D q).length
theorem grp_eq (h : WordsG T n G Rw gs) (hp : p < n) (hq : q < n) : G p = G q ↔ inG T p q = true := by
  constructor
  · intro e
    have := (h.grp q hq q).2 ⟨hq, inG_refl T q⟩
    rw [← e] at this
    exact ((h.grp p hp q).1 this).2
  · intro e
    refine Nat.eq_of_testBit_eq fun j => ?_
    have h1 := h.grp p hp j
    have h2 := h.grp q hq j
    have h3 := inG_same h.tr hp hq e j
    unfold has at h1 h2
    cases e1 : (G p).testBit j <;> cases e2 : (G q).testBit j <;> simp_all
theorem filter_one {gs : List Nat} {g0 : Nat} (hn : gs.Nodup) (h0 : g0 ∈ gs) : (gs.filter fun g => decide (g = g0)).length = 1 := by
  induction gs with
  | nil => cases h0
  | cons x l ih =>
    rw [List.nodup_cons] at hn
    by_cases e : x = g0
    · subst e
      have : l.filter (fun g => decide (g = x)) = [] := List.filter_eq_nil_iff.2 fun y hy h => hn.1 (by have := of_decide_eq_true h; rw [← this]; exact hy)
      simp [this]
    · have h1 : g0 ∈ l := by
        rcases List.mem_cons.1 h0 with h2 | h2
        · exact absurd h2.symm e
        · exact h2
      have := ih hn.2 h1
      simpa [List.filter_cons, e] using this
theorem left_add (h : WordsG T n G Rw gs) (hp : p < n) (hd : D p = false) : leftG D G n gs = leftG (addG T D p) G n gs + 1 := by
  have e : leftG D G n gs = (gs.filter fun g => (List.range n).any (fun q => (G q == g) && !addG T D p q) || decide (g = G p)).length := by
    unfold leftG
    congr 1
    refine List.filter_congr fun g hg => ?_
    obtain ⟨q0, hq0, rfl⟩ := h.own g hg
    rw [Bool.eq_iff_iff, Bool.or_eq_true, List.any_eq_true, List.any_eq_true, decide_eq_true_eq]
    constructor
    · rintro ⟨q, hq, h1⟩
      rw [Bool.and_eq_true, beq_iff_eq] at h1
      by_cases e2 : G q0 = G p
      · exact .inr e2
      · refine .inl ⟨q, hq, ?_⟩
        rw [Bool.and_eq_true, beq_iff_eq]
        refine ⟨h1.1, ?_⟩
        unfold addG
        have h3 : inG T p q = false := by
          cases e3 : inG T p q
          · rfl
          · exact absurd (by rw [← h1.1]; exact ((grp_eq h hp (List.mem_range.1 hq)).2 e3).symm) e2
        have h4 := h1.2
        simp only [Bool.not_eq_true'] at h4
        rw [h4, h3]
        rfl
    · rintro (⟨q, hq, h1⟩ | h1)
      · rw [Bool.and_eq_true, beq_iff_eq] at h1
        refine ⟨q, hq, ?_⟩
        rw [Bool.and_eq_true, beq_iff_eq]
        refine ⟨h1.1, ?_⟩
        have h2 := h1.2
        unfold addG at h2
        cases e1 : D q
        · rfl
        · rw [e1] at h2
          cases h2
      · exact ⟨p, List.mem_range.2 hp, by rw [h1, hd]; simp⟩
  rw [e, cnt_two]
  · rw [filter_one h.nodup (h.all p hp)]
    rfl
  · intro g _ h1
    rw [List.any_eq_true] at h1
    obtain ⟨q, hq, h2⟩ := h1
    rw [Bool.and_eq_true, beq_iff_eq] at h2
    rw [decide_eq_false_iff_not]
    intro h3
    have h4 := (grp_eq h hp (List.mem_range.1 hq)).1 (by rw [h2.1, h3])
    have h5 := h2.2
    unfold addG at h5
    rw [h4, Bool.or_true] at h5
    cases h5
theorem left_start (h : WordsG T n G Rw gs) : leftG (fun _ => false) G n gs = gs.length := by
  unfold leftG
  rw [List.filter_eq_self.2]
  intro g hg
  obtain ⟨q, hq, rfl⟩ := h.own g hg
  rw [List.any_eq_true]
  exact ⟨q, List.mem_range.2 hq, by simp⟩
theorem left_pos (hl : 0 < leftG D G n gs) : ∃ q, q < n ∧ D q = false := by
  unfold leftG at hl
  obtain ⟨g, hg⟩ := List.exists_mem_of_length_pos hl
  have h1 := (List.mem_filter.1 hg).2
  rw [List.any_eq_true] at h1
  obtain ⟨q, hq, h2⟩ := h1
  rw [Bool.and_eq_true] at h2
  exact ⟨q, List.mem_range.1 hq, by simpa using h2.2⟩
theorem left_none (h : WordsG T n G Rw gs) (hl : leftG D G n gs = 0) : ∀ q, q < n → D q = true := fun q hq => by
  cases e : D q
  · unfold leftG at hl
    have h1 := List.eq_nil_of_length_eq_zero hl
    have h2 : G q ∈ gs.filter fun g => (List.range n).any fun q => (G q == g) && !D q := List.mem_filter.2 ⟨h.all q hq, by rw [List.any_eq_true]; exact ⟨q, List.mem_range.2 hq, by rw [e]; simp⟩⟩
    rw [h1] at h2
    cases h2
  · rfl
theorem left_run (h : WordsG T n G Rw gs) : ∀ r, r ≤ gs.length → leftG (runG T n r).1 G n gs = gs.length - r
  | 0, _ => left_start h
  | r + 1, hr => by
    have ih := left_run h r (by omega)
    obtain ⟨q, hq, hd⟩ := left_pos (n := n) (G := G) (gs := gs) (D := (runG T n r).1) (by omega)
    obtain ⟨p, hp, hg⟩ := good_ex h.tr hq hd
    cases e : pickG T n (runG T n r).1 with
    | none =>
      unfold pickG at e
      rw [List.find?_eq_none] at e
      exact absurd hg (e p (List.mem_range.2 hp))
    | some p' =>
      obtain ⟨h1, h2, _⟩ := pickG_some e
      rw [runG_next e]
      show leftG (addG T (runG T n r).1 p') G n gs = _
      have hd' : (runG T n r).1 p' = false := by
        unfold goodB at h2
        rw [Bool.and_eq_true] at h2
        simpa using h2.1
      have := left_add h h1 hd'
      omega
/-- As long as groups are left there is a next one. -/
theorem pick_run (h : WordsG T n G Rw gs) {r : Nat} (hr : r < gs.length) : ∃ p, pickG T n (runG T n r).1 = some p := by
  have h1 := left_run h r (by omega)
  obtain ⟨q, hq, hd⟩ := left_pos (n := n) (G := G) (gs := gs) (D := (runG T n r).1) (by omega)
  obtain ⟨p, hp, hg⟩ := good_ex h.tr hq hd
  cases e : pickG T n (runG T n r).1 with
  | none =>
    unfold pickG at e
    rw [List.find?_eq_none] at e
    exact absurd hg (e p (List.mem_range.2 hp))
  | some p' => exact ⟨p', rfl⟩
theorem run_all (h : WordsG T n G Rw gs) (hl : gs.length ≤ n) : (runG T n gs.length).2 = (runG T n n).2 := by
  have h1 := left_none h (D := (runG T n gs.length).1) (by have := left_run h gs.length (Nat.le_refl _); omega)
  have h2 := runG_stay h1 (n - gs.length)
  rw [show gs.length + (n - gs.length) = n by omega] at h2
  rw [h2]
end

end Go.Proofs.YtcoelmhlkfignaaDoor
/-
  The specification's l5Groups, GroupsOf.
-/
namespace Go.Proofs.YtcoelmhlkfignaaDoor
open Go.RowKit

/-- A mark beside slices that are collected. -/
theorem ColS.mark {lo g n : Nat} {w wr : World} {xss : List (List Int)} {A : Option Addr} {c : Nat} {av : List Value} {f : Nat → Value} (h : ColS lo w wr xss A c av) (hr : wr.rowIs g 4 n f) (hg : w.heap.size ≤ g) (i : Nat) (u : Value) : ColS lo w (wr.setCell ⟨g, i, none⟩ u) xss A c av := by
  obtain ⟨cs, hb, _, _⟩ := hr
  have s1 : ∀ {v : Value} {m : Nat} {xs : List Value} {lo : Nat} {t : TypeId}, t ≠ 4 → wr.ownsRow lo t 1 v m xs → (wr.setCell ⟨g, i, none⟩ u).ownsRow lo t 1 v m xs := fun ht hr =>
    ownsRow_only hr (fun b hb2 => Below.heap_setCell _ _ _ _ (fun e => blk_ne_row hr (show Blk wr g 4 cs from hb) ht (by rw [hb2, e])))
  refine ⟨h.below.setCell hg _, h.len, fun j h1 h2 => ?_, s1 (by decide) h.row⟩
  have h0 := h.inn j h1 h2
  exact ⟨s1 (by decide) h0.1, by simpa using h0.2⟩
theorem trT_fw (p : LProg) (n : Nat) : TrT (fwM (askT p) n) n := fun a b c hb h1 h2 => fwM_trans n b a c hb h1 h2
theorem runG_cnt {T : Nat → Nat → Bool} {n : Nat} {r q : Nat} (hT : TrT T n) (h : pickG T n (runG T n r).1 = some q) : cntD n (runG T n (r + 1)).1 = cntD n (runG T n r).1 + (grpI T q n).length := by
  rw [runG_next h]
  obtain ⟨h1, h2, _⟩ := pickG_some h
  have hd : (runG T n r).1 q = false := by
    unfold goodB at h2
    rw [Bool.and_eq_true] at h2
    simpa using h2.1
  exact addG_cnt (runG_cl hT r) h1 hd
theorem runG_end {T : Nat → Nat → Bool} {n r : Nat} (hr : r ≤ n) (h : n ≤ cntD n (runG T n r).1) : (runG T n r).2 = (runG T n n).2 := by
  have h1 := cntD_all (n := n) (Nat.le_antisymm (cntD_le n _) h)
  have h2 := runG_stay h1 (n - r)
  rw [show r + (n - r) = n by omega] at h2
  rw [h2]

theorem cntD_zero (T : Nat → Nat → Bool) (n : Nat) : cntD n (runG T n 0).1 = 0 := by
  unfold cntD
  show ((List.range n).filter fun _ => false).length = 0
  rw [List.filter_eq_nil_iff.2 (fun _ _ h => by cases h)]
  rfl
theorem good_head {T : Nat → Nat → Bool} {n q h0 : Nat} {D : Nat → Bool} (hT : TrT T n) (hc : ClG T n D) (hq : q < n) (hl : ∀ i, i < q → goodB T n D i = false) (h1 : h0 ≤ q) (h2 : inG T q h0 = true) (hne : h0 ≠ q) : goodB T n D q = false := by
  rw [good_same hT hc hq (by omega) h2]
  exact hl h0 (by omega)
theorem lt_step {P : Nat → Prop} {q : Nat} (h : ∀ i, i < q → P i) (hq : P q) : ∀ i, i < q + 1 → P i := fun i hi => by
  by_cases e : i = q
  · rw [e]; exact hq
  · exact h i (by omega)

theorem runG_len (T : Nat → Nat → Bool) (n : Nat) : ∀ r, (runG T n r).2.length ≤ r
  | 0 => Nat.le_refl _
  | r + 1 => by
    have ih := runG_len T n r
    rw [runG]
    cases pickG T n (runG T n r).1 with
    | none => exact Nat.le_succ_of_le ih
    | some p => simp; omega

set_option maxHeartbeats 4000000 in
set_option maxRecDepth 100000 in
theorem l5Groups_any (v : Value) (p : LProg) (w : World) (h : RdProg w w.heap.size v p) (hs : szP p ≤ 1048576) (hn : p.1.length ≤ 24) (hf : ∀ x ∈ asksOf p.2, AskFits p.1.length x) :
    Calls Tryd.prog 38 #[v] w fun e w' => ∃ A c, e = .returned (.slice A (groupsG (fwM (askT p) p.1.length) p.1.length).length c) ∧ WkRows w' w.heap.size w'.heap.size (.slice A (groupsG (fwM (askT p) p.1.length) p.1.length).length c) (groupsG (fwM (askT p) p.1.length) p.1.length) ∧ Below w.heap.size w w' := by
  obtain ⟨i0, hi0, hz0, hz1, hz2⟩ := info_parts Tryd.infoIntS
  have HP := Lib.hid h
  obtain ⟨a, b, rfl, hA, hR⟩ := h
  obtain ⟨A, c, rfl, hcA, _⟩ := hA
  obtain ⟨A2, c2, rfl, hcR, _⟩ := hR
  obtain ⟨T, hTe⟩ : ∃ T, T = fwM (askT p) p.1.length := ⟨_, rfl⟩
  have HTR := Lib.hid (show TrT T p.1.length by rw [hTe]; exact trT_fw p _)
  have HL := Lib.hid (fun W (hW : Below w.heap.size w W) => l5Reach_any _ p W (HP.out.on hW) hs hn hf)
  rw [← hTe] at HL ⊢
  obtain ⟨n, hnn⟩ : ∃ n, n = p.1.length := ⟨_, rfl⟩
  rw [← hnn] at hcA hn HTR HL ⊢
  have hmk := run_make_row' (P := Tryd.prog) 53 4 (.bool false) 1 Tryd.underlying53 Tryd.infoBool rfl .i64 .i64 n (by omega) (by omega)
  clear hf hTe hnn
  go_enter Tryd.func38, Tryd.ntmps38
  go_upto_region 1 with fail
  obtain ⟨w1, hw1⟩ : ∃ w1, w1 = w.alloc (Obj.cells #[Value.slice A n c, Value.slice A2 p.2.length c2] 31) := ⟨_, rfl⟩
  have X1 : Blk w1 w.heap.size 31 #[.slice A n c, .slice A2 p.2.length c2] := by rw [hw1]; exact Blk.new _ _ _
  have B1 : Below w.heap.size w w1 := by rw [hw1]; exact below1 _ _
  rw [← hw1]
  clear hw1
  have x0 : w1.cell? ⟨w.heap.size, 0, none⟩ = some (.slice A n c) := X1.cell 0
  have x1 : w1.cell? ⟨w.heap.size, 1, none⟩ = some (.slice A2 p.2.length c2) := X1.cell 1
  go_upto_region 2 with (go_at_call 28; refine (HL.out _ B1).mono ?_; rintro e w4 ⟨Ao, co, rs, rfl, hrn, hbg, b4⟩; have HBG := Lib.hid hbg; have HRN := Lib.hid hrn; have HB4 := Lib.hid (bthen B1 b4); clear hbg b4)
  try rw [hrn]
  clear hrn x0 x1 X1 B1
  go_upto_region 3 with fail
  obtain ⟨gd, hgd⟩ : ∃ gd, gd = w4.heap.size := ⟨_, rfl⟩
  obtain ⟨w5, hw5⟩ : ∃ w5, w5 = w4.alloc (Obj.cells (madeCells #[Value.bool false] n) 4) := ⟨_, rfl⟩
  have HR5 := Lib.hid (show w5.rowIs gd 4 n (fun j => .bool ((runG T n 0).1 j)) from by rw [hw5, hgd]; exact World.rowIs_made _ _ _ _)
  have HB5 := Lib.hid (show Below w4.heap.size w4 w5 by rw [hw5]; exact below1 _ _)
  have HGD := Lib.hid hgd
  rw [← hw5, ← hgd]
  clear hw5 hgd hmk
  have HC0 := Lib.hid (ColS.empty (lo := w4.heap.size) HB5.out)
  go_wp2_with fail
  go_loopw [5, 6, 7, 8, 9] (fun o cn _ _ _ wr => ∃ (r : Nat) (A' : Option Addr) (c' : Nat) (av : List Value), cn = .int .i64 (cntD n (runG T n r).1 : Nat) ∧ r ≤ cntD n (runG T n r).1 ∧ o = .slice A' (runG T n r).2.length c' ∧ ColS w4.heap.size w4 wr ((runG T n r).2.map fun q => grpI T q n) A' c' av ∧ wr.rowIs gd 4 n (fun j => .bool ((runG T n r).1 j))) (fun _ cn _ _ _ _ => n - (intOf cn).toNat)
  case atStart => exact ⟨0, _, 0, [], by rw [cntD_zero]; rfl, Nat.zero_le _, rfl, HC0.out, HR5.out.alloc _⟩
  case round =>
    obtain ⟨r, A', c', av, rfl, hrc, rfl, hcol, hrow⟩ := hrel
    have HCL := Lib.hid (runG_cl HTR.out r)
    have HNX := Lib.hid (fun q (hq : pickG T n (runG T n r).1 = some q) => And.intro (runG_next hq) (runG_cnt HTR.out hq))
    obtain ⟨D, hD⟩ : ∃ D, D = (runG T n r).1 := ⟨_, rfl⟩
    obtain ⟨ps, hps⟩ : ∃ ps, ps = (runG T n r).2 := ⟨_, rfl⟩
    obtain ⟨cn, hcn⟩ : ∃ cn, cn = cntD n D := ⟨_, rfl⟩
    have HD := Lib.hid hD
    have HPS := Lib.hid hps
    have HCN := Lib.hid hcn
    rw [← hD] at hrc hrow HCL HNX
    rw [← hD]
    rw [← hps] at hcol HNX
    rw [← hps]
    rw [← hcn] at hrc HNX
    rw [← hcn]
    have hplr : ps.length ≤ r := by rw [hps]; exact runG_len T n r
    have HCOL := Lib.hid hcol
    have HROW := Lib.hid hrow
    have hcnn : cn ≤ n := by rw [hcn]; exact cntD_le n D
    have hpl : (ps.map fun q => grpI T q n).length = ps.length := by simp
    clear hcol hrow hD hps hcn
    by_cases hlt : cn < n
    · have hlti : (cn : Int) < (n : Int) := by omega
      have HEX := Lib.hid (show ∃ q, q < n ∧ goodB T n D q = true from by
        obtain ⟨q, hq, hd⟩ := cntD_lt (n := n) (D := D) (by rw [← HCN.out]; exact hlt)
        exact good_ex HTR.out hq hd)
      have HPL := Lib.hid hpl
      clear hpl
      go_wp2_with fail
      go_loopw [5, 6, 7, 8, 9] (fun o cx x _ _ wr => ∃ (q : Nat), q ≤ n ∧ x = .int .i64 q ∧ o = .slice A' ps.length c' ∧ cx = .int .i64 (cn : Int) ∧ (∀ i, i < q → goodB T n D i = false) ∧ ColS w4.heap.size w4 wr (ps.map fun q => grpI T q n) A' c' av ∧ wr.rowIs gd 4 n (fun j => .bool (D j))) (fun _ _ x _ _ _ => n - (intOf x).toNat)
      case atStart => exact ⟨0, Nat.zero_le _, rfl, rfl, rfl, fun i hi => absurd hi (by omega), HCOL.out, HROW.out⟩
      case round =>
        obtain ⟨q, hq, rfl, rfl, rfl, hl, hcol, hrow⟩ := hrel
        have HCOL := Lib.hid hcol
        have HROW := Lib.hid hrow
        have HLS := Lib.hid hl
        have hbe := hcol.below
        clear hcol hrow hl
        by_cases hqn : q < n
        · have hqi : (q : Int) < (n : Int) := by omega
          have CG := Lib.hid (l5Group_any _ Ao co n q T rs wr (HBG.out.below hbe) HRN.out hn hqn)
          obtain ⟨h0, hh0, hh1, hh2⟩ := grp_head (T := T) hqn
          have HH := Lib.hid (And.intro hh1 hh2)
          have hgl := grpI_len T q n
          have hgp := grpI_pos (T := T) hqn
          have HMM := Lib.hid (fun x (hx : x ∈ grpI T q n) => show 0 ≤ x ∧ x < (n : Int) from by
            obtain ⟨i, h1, _, rfl⟩ := grpI_mem.1 hx
            omega)
          obtain ⟨X, hX⟩ : ∃ X, X = grpI T q n := ⟨_, rfl⟩
          have HXE := Lib.hid hX
          rw [← hX] at CG hh0 hgl hgp HMM
          have HGB := Lib.hid (show goodB T n D q = (!D q && readyB T X D n) by unfold goodB; rw [hX])
          have HXH := Lib.hid (show X[0] = (h0 : Int) by rw [List.getElem?_eq_getElem hgp] at hh0; injection hh0)
          obtain ⟨dq, hdq⟩ : ∃ dq, dq = D q := ⟨_, rfl⟩
          have HDQ := Lib.hid hdq
          rw [← hdq] at HGB
          clear hX hh0 hh1 hh2 hdq
          go_upto_region 10 with (go_at_call 54; refine CG.out.mono ?_; rintro e w6 ⟨A6, c6, rfl, o6, b6⟩; have H6 := Lib.hid (And.intro o6 b6); clear o6 b6)
          have HC6 := Lib.hid (HCOL.out.on H6.out.2)
          have HR6 := Lib.hid (HROW.out.of_block (H6.out.2.block gd HROW.out.lt))
          have q0 : w6.cell? ⟨gd, q, none⟩ = some (.bool dq) := by rw [HR6.out.cell hqn, HDQ.out]
          obtain ⟨b6, o6, rfl, _, q1⟩ := RdInts.getG H6.out.1.rd hgp
          rw [HXH.out] at q1
          simp only [Nat.add_zero] at q1
          have hgpi : (0 : Int) < (X.length : Int) := by omega
          cases dq
          · by_cases he : h0 = q
            · subst he
              obtain ⟨rb, hrb⟩ : ∃ rb, rb = readyB T X D n := ⟨_, rfl⟩
              have CRD := Lib.hid (l5Ready_any _ Ao co n gd T D X rs (.slice (some ⟨b6, o6, none⟩) X.length c6) w6 ((HBG.out.below hbe).below H6.out.2) HRN.out hn H6.out.1.rd (by omega) HMM.out HR6.out)
              rw [← hrb] at CRD HGB
              clear hrb
              cases rb
              · have HN := Lib.hid (lt_step HLS.out (show goodB T n D h0 = false by rw [HGB.out]; rfl))
                go_wp2_with (go_at_call 55; refine CRD.out.mono ?_; rintro e w7 ⟨rfl, rfl⟩)
                go_roundw
                case rel => exact ⟨h0 + 1, by omega, by go_num, rfl, rfl, HN.out, HC6.out, HR6.out⟩
                case measure => simp [intOf]; omega
              · have HNN := Lib.hid (HNX.out h0 (pickG_is hqn (by rw [HGB.out]; rfl) HLS.out))
                have hgdl : gd < wr.heap.size := HROW.out.lt
                have hwz := H6.out.2.size
                have h4z := hbe.size
                go_upto_region 12 with (first
                  | (go_at_call 55; refine CRD.out.mono ?_; rintro e w7 ⟨rfl, rfl⟩)
                  | (at_builtin; go_loud (refine wpList_append_lies _ rfl (.tmp 47) (.tmp 49) 38 rfl w4.heap.size 22 i0 (.slice none 0 0) 1 24 Tryd.underlying38 hi0 hz0 hz1 hz2 rfl (by decide) (.slice A' ps.length c') ps.length av rfl ?c1 ⟨w6.heap.size, 0, none⟩ 1 1 [.slice (some ⟨b6, o6, none⟩) X.length c6] rfl rfl (news1 _ _ _) ?c2 (by omega) (by unfold maxLen; omega) (by omega) ?c3 _ rfl ?_)))
                case c1 => have h9 := HC6.out.row; rw [HPL.out] at h9; exact h9.alloc _
                case c2 => intro u hu; simp at hu; subst hu; rfl
                case c3 => simp; omega
                intro g3 cap3 w8 hown hgr _ _
                have hg' := grown_from_alloc hgr
                have hpush := HC6.out.push (xs := X) (xss' := (ps ++ [h0]).map fun q => grpI T q n) (u := .slice (some ⟨b6, o6, none⟩) X.length c6) (g := g3) (cap := cap3) (by rw [HXE.out]; simp) (Below.refl _ _) (H6.out.1.mono (by omega) (Nat.le_refl _)) (by rw [HPL.out]; exact hgr) (by rw [HPL.out]; exact hown)
                have HC8 := Lib.hid hpush.1
                have hrow6 := HC6.out.row
                rw [HPL.out] at hrow6
                have HR8 := Lib.hid (HR6.out.of_block (hg'.block gd HR6.out.lt fun e => by
                  obtain ⟨cs, hb, _, _⟩ := HR6.out
                  exact blk_ne_row hrow6 (show Blk w6 gd 4 cs from hb) (by decide) e.symm))
                have HX8 := Lib.hid ((H6.out.1.kept fun b hb => hg'.block b (H6.out.1.lt hb).2.2 (fun e => rowsI_ne hrow6 e.symm H6.out.1 hb)).mono (Nat.le_refl _) hg'.size)
                clear hpush hown hgr hg' hrow6 q0 q1
                go_wp2_with fail
                go_loopw [9] (fun x wy => ∃ k : Nat, k ≤ X.length ∧ x = .int .i64 k ∧ ColS w4.heap.size w4 wy ((ps ++ [h0]).map fun q => grpI T q n) (some ⟨g3, 0, none⟩) cap3 (av ++ [.slice (some ⟨b6, o6, none⟩) X.length c6]) ∧ wy.rowIs gd 4 n (fun j => .bool (D j || decide ((j : Int) ∈ X.take k))) ∧ Only gd (gd + 1) w8 wy) (fun x _ => X.length - (intOf x).toNat)
                case atStart => exact ⟨0, Nat.zero_le _, rfl, HC8.out, HR8.out.congr fun j _ => by simp, Only.refl _ _ _⟩
                case round =>
                  obtain ⟨k, hk, rfl, hcol, hrow, hon⟩ := hrel
                  have HC9 := Lib.hid hcol
                  have HR9 := Lib.hid hrow
                  have HON := Lib.hid hon
                  clear hcol hrow hon
                  by_cases hkl : k < X.length
                  · have ho9 := HX8.out.offG HON.out hgdl
                    obtain ⟨b9, o9, e9, _, q1⟩ := RdInts.getG ho9.rd hkl
                    injection e9 with e9
                    injection e9 with e9 e10 _
                    subst e9 e10
                    obtain ⟨z0, z1⟩ := HMM.out _ (List.getElem_mem hkl)
                    obtain ⟨y, hy⟩ : ∃ y : Nat, X[k] = (y : Int) := ⟨X[k].toNat, by omega⟩
                    rw [hy] at q1 z0 z1
                    have hyn : y < n := by omega
                    have c9 := HR9.out.cell hyn
                    have f9 := HR9.out.frozen y
                    have hki : (k : Int) < (X.length : Int) := by omega
                    have HNW := Lib.hid (show ColS w4.heap.size w4 (wr.setCell ⟨gd, y, none⟩ (.bool true)) ((ps ++ [h0]).map fun q => grpI T q n) (some ⟨g3, 0, none⟩) cap3 (av ++ [.slice (some ⟨b6, o6, none⟩) X.length c6]) ∧ (wr.setCell ⟨gd, y, none⟩ (.bool true)).rowIs gd 4 n (fun j => .bool (D j || decide ((j : Int) ∈ X.take (k + 1)))) ∧ Only gd (gd + 1) w8 (wr.setCell ⟨gd, y, none⟩ (.bool true)) from by
                      refine ⟨HC9.out.mark HR9.out (by rw [HGD.out]; exact Nat.le_refl _) _ _, (HR9.out.set y (.bool true)).congr fun j _ => ?_, HON.out.trans ((Only.refl _ _ _).setCell (by simp) _)⟩
                      rw [take_snoc X k hkl, hy]
                      by_cases e : j = y
                      · simp [e]
                      · have : ¬ ((j : Int) = (y : Int)) := by omega
                        simp [e, this])
                    clear hy z0 z1 ho9
                    go_wp2_with fail
                    go_roundw
                    case rel => exact ⟨k + 1, by omega, by go_num, HNW.out⟩
                    case measure => simp [intOf]; omega
                  · have hkx : k = X.length := by omega
                    have HRE := Lib.hid (show wr.rowIs gd 4 n (fun j => .bool ((runG T n (r + 1)).1 j)) from HR9.out.congr fun j hj => by
                      rw [HNN.out.1, hkx, List.take_length]
                      unfold addG
                      congr 2
                      rw [HXE.out]
                      cases e : inG T h0 j
                      · rw [decide_eq_false (fun hh => by have := (grpI_mem_nat.1 hh).2; rw [e] at this; cases this)]
                      · exact decide_eq_true (grpI_mem_nat.2 ⟨hj, e⟩))
                    have HRN2 := Lib.hid (show (runG T n (r + 1)).2 = ps ++ [h0] by rw [HNN.out.1])
                    have HCN2 := Lib.hid (show cntD n (runG T n (r + 1)).1 = cn + X.length by rw [HNN.out.2, HXE.out])
                    have hcn2 : cn + X.length ≤ n := by rw [← HCN2.out]; exact cntD_le n _
                    have HPL2 := Lib.hid (show (ps ++ [h0]).length = ps.length + 1 by simp)
                    clear hkx
                    go_wp2_with fail
                    go_roundw
                    case rel => exact ⟨r + 1, _, _, _, by rw [HCN2.out]; go_num, by rw [HCN2.out]; omega, by rw [HRN2.out, HPL2.out], by rw [HRN2.out]; exact HC9.out, HRE.out⟩
                    case measure => simp [intOf]; omega
            · have he0 : ((h0 : Int) != (q : Int)) = true := by rw [bne_iff_ne]; omega
              have he1 : ((h0 : Int) == (q : Int)) = false := by rw [beq_eq_false_iff_ne]; omega
              have HN := Lib.hid (lt_step HLS.out (good_head HTR.out HCL.out hqn HLS.out HH.out.1 HH.out.2 he))
              clear he
              go_wp2_with fail
              go_roundw
              case rel => exact ⟨q + 1, by omega, by go_num, rfl, rfl, HN.out, HC6.out, HR6.out⟩
              case measure => simp [intOf]; omega
          · have HN := Lib.hid (lt_step HLS.out (show goodB T n D q = false by rw [HGB.out]; rfl))
            go_wp2_with fail
            go_roundw
            case rel => exact ⟨q + 1, by omega, by go_num, rfl, rfl, HN.out, HC6.out, HR6.out⟩
            case measure => simp [intOf]; omega
        · exfalso
          obtain ⟨q', hq', hg'⟩ := HEX.out
          have := HLS.out q' (by omega)
          rw [hg'] at this
          cases this
    · have HE := Lib.hid (show ps = (runG T n n).2 by rw [HPS.out]; exact runG_end (by omega) (by rw [← HD.out, ← HCN.out]; omega))
      have HR := Lib.hid (HCOL.out.rows (Nat.le_refl _))
      have HBX := Lib.hid HCOL.out.below
      rw [hpl] at HR
      clear hpl
      go_wp2_with fail
      go_ret
      refine ⟨A', c', ?_, ?_, bthen HB4.out HBX.out⟩
      · have e : (groupsG T n).length = ps.length := by unfold groupsG; rw [← HE.out]; simp
        rw [e]
        rfl
      · have e : groupsG T n = ps.map fun q => grpI T q n := by unfold groupsG; rw [← HE.out]
        rw [e, List.length_map]
        exact HR.out.mono HB4.out.size (Nat.le_refl _)

/-- The groups of a program. -/
def groupsOfL (p : LProg) : List (List Int) := if progOk p = true then groupsG (fwM (askT p) p.1.length) p.1.length else []

set_option maxHeartbeats 1000000 in
set_option maxRecDepth 100000 in
theorem specGroupsOf_any (v : Value) (p : LProg) (w : World) (h : RdProg w w.heap.size v p) (hs : szP p ≤ 1048576) :
    Calls Tryd.prog 15 #[v] w fun e w' => ∃ A c, e = .returned (.slice A (groupsOfL p).length c) ∧ WkRows w' w.heap.size w'.heap.size (.slice A (groupsOfL p).length c) (groupsOfL p) ∧ Below w.heap.size w w' := by
  have HP := Lib.hid h
  obtain ⟨a, b, rfl, hA, hR⟩ := h
  obtain ⟨A, c, rfl, hcA, _⟩ := hA
  obtain ⟨A2, c2, rfl, hcR, _⟩ := hR
  obtain ⟨po, hpo⟩ : ∃ po, po = progOk p := ⟨_, rfl⟩
  have HPO := Lib.hid hpo
  obtain ⟨R, hRR⟩ : ∃ R, R = groupsOfL p := ⟨_, rfl⟩
  have HRR := Lib.hid hRR
  rw [← hRR]
  obtain ⟨n, hn⟩ : ∃ n, n = p.1.length := ⟨_, rfl⟩
  have HNE := Lib.hid hn
  rw [← hn] at hcA ⊢
  clear hpo hRR hn
  go_enter Tryd.func15, Tryd.ntmps15
  go_upto_region 1 with fail
  obtain ⟨w1, hw1⟩ : ∃ w1, w1 = w.alloc (Obj.cells #[Value.slice A n c, Value.slice A2 p.2.length c2] 31) := ⟨_, rfl⟩
  have X1 : Blk w1 w.heap.size 31 #[.slice A n c, .slice A2 p.2.length c2] := by rw [hw1]; exact Blk.new _ _ _
  have B1 : Below w.heap.size w w1 := by rw [hw1]; exact below1 _ _
  rw [← hw1]
  clear hw1
  have x0 : w1.cell? ⟨w.heap.size, 0, none⟩ = some (.slice A n c) := X1.cell 0
  have x1 : w1.cell? ⟨w.heap.size, 1, none⟩ = some (.slice A2 p.2.length c2) := X1.cell 1
  have HX1 := Lib.hid X1
  have CP := Lib.hid ((specProgramOk_any _ p w1 (HP.out.on B1) hs).mono fun e w' (hh : e = .returned (.bool (progOk p)) ∧ Below w1.heap.size w1 w') => (⟨by rw [hh.1, HPO.out], hh.2⟩ : e = .returned (.bool po) ∧ Below w1.heap.size w1 w'))
  rw [← HNE.out] at CP
  clear X1
  cases po
  · have HE := Lib.hid (show R = [] by rw [HRR.out]; unfold groupsOfL; rw [if_neg (by rw [← HPO.out]; decide)])
    go_wp2_with (go_at_call 27; refine CP.out.mono ?_; rintro e w2 ⟨rfl, b2⟩; have B2 := Lib.hid (bthen B1 b2); clear b2)
    go_ret
    rw [HE.out]
    exact ⟨none, 0, rfl, ⟨[], ⟨rfl, fun i h => absurd h (by simp)⟩, World.ownsRow_nil _ _ _ _, fun g hg => by cases hg⟩, B2.out⟩
  · obtain ⟨hn24, hf⟩ := asksOf_fits HPO.out.symm
    have HL := Lib.hid (fun W (hW : Below w.heap.size w W) => l5Groups_any _ p W (HP.out.on hW) hs hn24 hf)
    have HE := Lib.hid (show groupsG (fwM (askT p) p.1.length) p.1.length = R by rw [HRR.out]; unfold groupsOfL; rw [if_pos HPO.out.symm])
    rw [HE.out, ← HNE.out] at HL
    clear hf
    go_wp2_with (first
      | (go_at_call 27; refine CP.out.mono ?_; rintro e w2 ⟨rfl, b2⟩; have B2 := Lib.hid (bthen B1 b2); have HX2 := Lib.hid (HX1.out.below b2 HX1.out.lt); have x20 : w2.cell? ⟨w.heap.size, 0, none⟩ = some (.slice A n c) := HX2.out.cell 0; have x21 : w2.cell? ⟨w.heap.size, 1, none⟩ = some (.slice A2 p.2.length c2) := HX2.out.cell 1; clear b2)
      | (go_at_call 38; refine (HL.out _ B2.out).mono ?_; rintro e w4 ⟨A4, c4, rfl, o4, b4⟩; have H4 := Lib.hid (And.intro o4 b4); clear o4 b4))
    go_ret
    exact ⟨_, _, rfl, H4.out.1.mono B2.out.size (Nat.le_refl _), bthen B2.out H4.out.2⟩

end Go.Proofs.YtcoelmhlkfignaaDoor
/-
  Layers: the least ones, group by group; plain mathematics.
-/
namespace Go.Proofs.YtcoelmhlkfignaaDoor

def maxTo (f : Nat → Nat) (l : List Nat) (b : Nat) : Nat := l.foldl (fun m x => max m (f x)) b
theorem maxTo_snoc (f : Nat → Nat) (l : List Nat) (x b : Nat) : maxTo f (l ++ [x]) b = max (maxTo f l b) (f x) := by simp [maxTo]
theorem maxTo_le {f : Nat → Nat} {c : Nat} : ∀ {l : List Nat} {b : Nat}, b ≤ c → (∀ x ∈ l, f x ≤ c) → maxTo f l b ≤ c
  | [], _, h, _ => h
  | x :: l, b, h, hx => by
    show maxTo f l (max b (f x)) ≤ c
    exact maxTo_le (Nat.max_le.2 ⟨h, hx x List.mem_cons_self⟩) fun y hy => hx y (List.mem_cons_of_mem _ hy)
theorem maxTo_base {f : Nat → Nat} : ∀ (l : List Nat) (b : Nat), b ≤ maxTo f l b
  | [], _ => Nat.le_refl _
  | x :: l, b => by
    show b ≤ maxTo f l (max b (f x))
    exact Nat.le_trans (Nat.le_max_left _ _) (maxTo_base l _)
theorem maxTo_ge {f : Nat → Nat} : ∀ {l : List Nat} {b x : Nat}, x ∈ l → f x ≤ maxTo f l b
  | y :: l, b, x, h => by
    show f x ≤ maxTo f l (max b (f y))
    rcases List.mem_cons.1 h with rfl | h
    · exact Nat.le_trans (Nat.le_max_right _ _) (maxTo_base l _)
    · exact maxTo_ge h
/-- The least layer of a predicate, by layers of those that it asks. -/
def leastL (yw nw : Nat → Nat) (lay : List Nat) (p : Nat) : Nat := maxTo (fun x => lay.getD x 0 + 1) (bitsN (nw p)) (maxTo (fun x => lay.getD x 0) (bitsN (yw p)) 0)
/-- A predicate of the group denies one of it. -/
def denies (nw : Nat → Nat) (g p : Nat) : Bool := nw p &&& g != 0
def groupL (yw nw : Nat → Nat) (lay : List Nat) (g : Nat) : Option (List Nat) :=
  if (bitsN g).any (denies nw g) then none else some (setAll lay (bitsN g) (maxTo (leastL yw nw lay) (bitsN g) 0))
def groupsL (yw nw : Nat → Nat) : List Nat → List Nat → Option (List Nat)
  | [], lay => some lay
  | g :: gs, lay => match groupL yw nw lay g with
    | none => none
    | some l => groupsL yw nw gs l
/-- Layers that fit. -/
def FitLay (yw nw : Nat → Nat) (n : Nat) (f : Nat → Nat) : Prop := ∀ u, u < n → (∀ x, has (yw u) x → f x ≤ f u) ∧ ∀ x, has (nw u) x → f x < f u
theorem FitLay.rch {yw nw ask : Nat → Nat} {n : Nat} {f : Nat → Nat} (h : FitLay yw nw n f) (ha : ∀ u x, has (ask u) x → has (yw u) x ∨ has (nw u) x) (hn : ∀ u x, has (ask u) x → x < n) : ∀ {u v : Nat}, u < n → Rch ask u v → f v ≤ f u := by
  have hstep : ∀ {u v : Nat}, u < n → has (ask u) v → f v ≤ f u := fun {u v} hu hv => by
    rcases ha u v hv with h1 | h1
    · exact (h u hu).1 v h1
    · exact Nat.le_of_lt ((h u hu).2 v h1)
  intro u v hu hr
  induction hr with
  | one h1 => exact hstep hu h1
  | step h1 _ ih => exact Nat.le_trans (ih (hn _ _ h1)) (hstep hu h1)
/-- After some of the groups. -/
structure LayInv (yw nw : Nat → Nat) (n : Nat) (gs : List Nat) (lay : List Nat) : Prop where
  len : lay.length = n
  fit : ∀ g ∈ gs, ∀ u, has g u → (∀ x, has (yw u) x → lay.getD x 0 ≤ lay.getD u 0) ∧ ∀ x, has (nw u) x → lay.getD x 0 < lay.getD u 0
  least : ∀ f, FitLay yw nw n f → ∀ g ∈ gs, ∀ u, has g u → lay.getD u 0 ≤ f u
  few : ∀ u, lay.getD u 0 ≤ gs.length
  zero : ∀ u, (∀ g ∈ gs, ¬ has g u) → lay.getD u 0 = 0
theorem LayInv.start (yw nw : Nat → Nat) (n : Nat) : LayInv yw nw n [] (List.replicate n 0) where
  len := by simp
  fit g hg := by cases hg
  least f _ g hg := by cases hg
  few u := by simp [List.getD_eq_getElem?_getD, List.getElem?_replicate]
              split <;> simp
  zero u _ := by simp [List.getD_eq_getElem?_getD, List.getElem?_replicate]
                 split <;> simp
/-- What the groups are to the links. -/
structure GroupsOk (yw nw ask : Nat → Nat) (n : Nat) (gs : List Nat) : Prop where
  asks : ∀ u x, has (ask u) x ↔ has (yw u) x ∨ has (nw u) x
  lim : ∀ u x, has (ask u) x → x < n
  n64 : n ≤ 24
  mem : ∀ g ∈ gs, ∀ u, has g u → u < n
  some : ∀ g ∈ gs, ∃ u, has g u
  tied : ∀ g ∈ gs, ∀ u v, has g u → has g v → u = v ∨ Rch ask u v
  apart : gs.Pairwise Apart
  order : ∀ i (h : i < gs.length) u x, has gs[i] u → has (ask u) x → ∃ j, ∃ h : j < gs.length, j ≤ i ∧ has gs[j] x
theorem denies_iff {nw : Nat → Nat} {g p : Nat} : denies nw g p = true ↔ ∃ x, has (nw p) x ∧ has g x := by
  unfold denies
  rw [bne_iff_ne]
  constructor
  · intro h
    apply Classical.byContradiction
    intro hc
    refine h (Nat.eq_of_testBit_eq fun i => ?_)
    rw [Nat.testBit_and, Nat.zero_testBit]
    cases h1 : (nw p).testBit i
    · rfl
    · cases h2 : g.testBit i
      · rfl
      · exact absurd ⟨i, h1, h2⟩ hc
  · rintro ⟨x, h1, h2⟩ e
    have := congrArg (fun y => y.testBit x) e
    simp only [Nat.testBit_and, Nat.zero_testBit] at this
    rw [h1, h2] at this
    cases this
section
variable {yw nw ask : Nat → Nat} {n : Nat} {gs : List Nat} {lay : List Nat}
theorem groupL_step (h : GroupsOk yw nw ask n gs) {k : Nat} (hk : k < gs.length) (hi : LayInv yw nw n (gs.take k) lay) : (∀ l, groupL yw nw lay gs[k] = some l → LayInv yw nw n (gs.take (k + 1)) l) ∧ (groupL yw nw lay gs[k] = none → ∀ f, ¬ FitLay yw nw n f) := by
  have hgm : gs[k] ∈ gs := List.getElem_mem hk
  have hb : ∀ u, u ∈ bitsN gs[k] ↔ has gs[k] u := fun u => by
    rw [bitsN_mem]
    exact ⟨fun h => h.2, fun hu => ⟨by have := h.mem _ hgm u hu; have := h.n64; omega, hu⟩⟩
  have hyb : ∀ u x, x ∈ bitsN (yw u) ↔ has (yw u) x := fun u x => by
    rw [bitsN_mem]
    exact ⟨fun h => h.2, fun hu => ⟨by have := h.lim u x ((h.asks u x).2 (.inl hu)); have := h.n64; omega, hu⟩⟩
  have hnb : ∀ u x, x ∈ bitsN (nw u) ↔ has (nw u) x := fun u x => by
    rw [bitsN_mem]
    exact ⟨fun h => h.2, fun hu => ⟨by have := h.lim u x ((h.asks u x).2 (.inr hu)); have := h.n64; omega, hu⟩⟩
  have htake : ∀ g, g ∈ gs.take (k + 1) ↔ g ∈ gs.take k ∨ g = gs[k] := fun g => by
    rw [List.take_succ_eq_append_getElem hk, List.mem_append, List.mem_singleton]
  -- the groups ahead are apart from this one
  have hap : ∀ g ∈ gs.take k, Apart g gs[k] := fun g hg => by
    obtain ⟨j, hj, e⟩ := List.getElem_of_mem hg
    rw [List.getElem_take] at e
    rw [← e]
    simp only [List.length_take] at hj
    exact List.pairwise_iff_getElem.1 h.apart j k (by omega) hk (by omega)
  have hz : ∀ u, has gs[k] u → lay.getD u 0 = 0 := fun u hu => hi.zero u fun g hg hgu => hap g hg u hgu hu
  have hask : ∀ u x, has gs[k] u → has (ask u) x → (∃ g ∈ gs.take k, has g x) ∨ has gs[k] x := fun u x hu hx => by
    obtain ⟨j, hj, hjk, hjx⟩ := h.order k hk u x hu hx
    by_cases e : j = k
    · subst e; exact .inr hjx
    · exact .inl ⟨gs[j], by
        have : j < (gs.take k).length := by simp; omega
        have e2 : (gs.take k)[j] = gs[j] := List.getElem_take
        exact e2 ▸ List.getElem_mem this, hjx⟩
  constructor
  · intro l hl
    unfold groupL at hl
    split at hl
    · cases hl
    · rename_i hd
      obtain ⟨m, hm⟩ : ∃ m, m = maxTo (leastL yw nw lay) (bitsN gs[k]) 0 := ⟨_, rfl⟩
      rw [← hm] at hl
      obtain rfl : setAll lay (bitsN gs[k]) m = l := by simpa using hl
      have hno : ∀ u, has gs[k] u → ∀ x, has (nw u) x → ¬ has gs[k] x := fun u hu x hx hgx => hd (List.any_eq_true.2 ⟨u, (hb u).2 hu, denies_iff.2 ⟨x, hx, hgx⟩⟩)
      have hat : ∀ u, u < n → (setAll lay (bitsN gs[k]) m).getD u 0 = if has gs[k] u then m else lay.getD u 0 := fun u hu => by
        rw [setAll_at m u _ _ (by rw [hi.len]; exact hu)]
        by_cases e : has gs[k] u
        · rw [if_pos ((hb u).2 e), if_pos e]
        · rw [if_neg (fun e2 => e ((hb u).1 e2)), if_neg e]
      have hge : ∀ u, ¬ u < n → (setAll lay (bitsN gs[k]) m).getD u 0 = 0 := fun u hu => by
        rw [List.getD_eq_getElem?_getD, List.getElem?_eq_none (by rw [setAll_len, hi.len]; omega)]
        rfl
      have hin : ∀ g ∈ gs.take k, ∀ u, has g u → u < n ∧ ¬ has gs[k] u := fun g hg u hu => ⟨h.mem g (List.mem_of_mem_take hg) u hu, fun e => hap g hg u hu e⟩
      have hold : ∀ g ∈ gs.take k, ∀ u, has g u → (setAll lay (bitsN gs[k]) m).getD u 0 = lay.getD u 0 := fun g hg u hu => by
        obtain ⟨h1, h2⟩ := hin g hg u hu
        rw [hat u h1, if_neg h2]
      have hmL : ∀ u, has gs[k] u → leastL yw nw lay u ≤ m := fun u hu => by rw [hm]; exact maxTo_ge ((hb u).2 hu)
      have hY : ∀ u x, has (yw u) x → lay.getD x 0 ≤ leastL yw nw lay u := fun u x hx => by
        unfold leastL
        exact Nat.le_trans (maxTo_ge (f := fun x => lay.getD x 0) ((hyb u x).2 hx)) (maxTo_base _ _)
      have hN : ∀ u x, has (nw u) x → lay.getD x 0 + 1 ≤ leastL yw nw lay u := fun u x hx => by
        unfold leastL
        exact maxTo_ge (f := fun x => lay.getD x 0 + 1) ((hnb u x).2 hx)
      refine ⟨by rw [setAll_len, hi.len], fun g hg u hu => ?_, fun f hf g hg u hu => ?_, fun u => ?_, fun u hu => ?_⟩
      · rcases (htake g).1 hg with hg | rfl
        · rw [hold g hg u hu]
          have hu' := hin g hg u hu
          obtain ⟨j0, hj0, e0⟩ := List.getElem_of_mem hg
          have hasked : ∀ x, has (ask u) x → ∃ g' ∈ gs.take k, has g' x := fun x hx => by
            rw [List.getElem_take] at e0
            simp only [List.length_take] at hj0
            obtain ⟨j, hj, hjk, hjx⟩ := h.order j0 (by omega) u x (by rw [e0]; exact hu) hx
            exact ⟨gs[j], by
              have : j < (gs.take k).length := by simp; omega
              have e2 : (gs.take k)[j] = gs[j] := List.getElem_take
              exact e2 ▸ List.getElem_mem this, hjx⟩
          obtain ⟨f1, f2⟩ := hi.fit g hg u hu
          refine ⟨fun x hx => ?_, fun x hx => ?_⟩
          · obtain ⟨g', hg', hgx⟩ := hasked x ((h.asks u x).2 (.inl hx))
            rw [hold g' hg' x hgx]
            exact f1 x hx
          · obtain ⟨g', hg', hgx⟩ := hasked x ((h.asks u x).2 (.inr hx))
            rw [hold g' hg' x hgx]
            exact f2 x hx
        · have hun := h.mem _ hgm u hu
          rw [hat u hun, if_pos hu]
          refine ⟨fun x hx => ?_, fun x hx => ?_⟩
          · rcases hask u x hu ((h.asks u x).2 (.inl hx)) with ⟨g', hg', hgx⟩ | hgx
            · rw [hold g' hg' x hgx]
              exact Nat.le_trans (hY u x hx) (hmL u hu)
            · rw [hat x (h.mem _ hgm x hgx), if_pos hgx]
              exact Nat.le_refl _
          · rcases hask u x hu ((h.asks u x).2 (.inr hx)) with ⟨g', hg', hgx⟩ | hgx
            · rw [hold g' hg' x hgx]
              exact Nat.lt_of_lt_of_le (Nat.lt_succ_self _) (Nat.le_trans (hN u x hx) (hmL u hu))
            · exact absurd hgx (hno u hu x hx)
      · rcases (htake g).1 hg with hg | rfl
        · rw [hold g hg u hu]
          exact hi.least f hf g hg u hu
        · have hun := h.mem _ hgm u hu
          rw [hat u hun, if_pos hu, hm]
          have hsame : ∀ v, has gs[k] v → f v ≤ f u := fun v hv => by
            rcases h.tied _ hgm u v hu hv with rfl | hr
            · exact Nat.le_refl _
            · exact hf.rch (fun u x hx => (h.asks u x).1 hx) h.lim hun hr
          refine maxTo_le (Nat.zero_le _) fun v hv => Nat.le_trans ?_ (hsame v ((hb v).1 hv))
          have hv' := (hb v).1 hv
          have hvn := h.mem _ hgm v hv'
          unfold leastL
          refine maxTo_le (maxTo_le (Nat.zero_le _) fun x hx => ?_) fun x hx => ?_
          · have hx' := (hyb v x).1 hx
            rcases hask v x hv' ((h.asks v x).2 (.inl hx')) with ⟨g', hg', hgx⟩ | hgx
            · exact Nat.le_trans (hi.least f hf g' hg' x hgx) ((hf v hvn).1 x hx')
            · show lay.getD x 0 ≤ f v
              rw [hz x hgx]
              exact Nat.zero_le _
          · have hx' := (hnb v x).1 hx
            rcases hask v x hv' ((h.asks v x).2 (.inr hx')) with ⟨g', hg', hgx⟩ | hgx
            · exact Nat.lt_of_le_of_lt (hi.least f hf g' hg' x hgx) ((hf v hvn).2 x hx')
            · exact absurd hgx (hno v hv' x hx')
      · have hlen : (gs.take (k + 1)).length = k + 1 := by simp; omega
        have hlen2 : (gs.take k).length = k := by simp; omega
        rw [hlen]
        by_cases hu : u < n
        · rw [hat u hu]
          split
          · rw [hm]
            refine maxTo_le (Nat.zero_le _) fun v hv => ?_
            unfold leastL
            have := hi.few
            rw [hlen2] at this
            exact maxTo_le (maxTo_le (Nat.zero_le _) fun x _ => Nat.le_succ_of_le (this x)) fun x _ => Nat.succ_le_succ (this x)
          · have := hi.few u
            omega
        · rw [hge u hu]
          omega
      · by_cases hun : u < n
        · rw [hat u hun, if_neg (hu gs[k] ((htake _).2 (.inr rfl)))]
          exact hi.zero u fun g hg => hu g ((htake g).2 (.inl hg))
        · exact hge u hun
  · intro hnone f hf
    unfold groupL at hnone
    split at hnone
    · rename_i hd
      obtain ⟨u, hu, hdu⟩ := List.any_eq_true.1 hd
      obtain ⟨x, hx, hgx⟩ := denies_iff.1 hdu
      have hu' := (hb u).1 hu
      have h1 := (hf u (h.mem _ hgm u hu')).2 x hx
      have h2 : f u ≤ f x := by
        rcases h.tied _ hgm x u hgx hu' with rfl | hr
        · exact Nat.le_refl _
        · exact hf.rch (fun u x hx => (h.asks u x).1 hx) h.lim (h.mem _ hgm x hgx) hr
      omega
    · cases hnone
theorem groupsL_from (h : GroupsOk yw nw ask n gs) : ∀ (d k : Nat) (lay : List Nat), d = gs.length - k → k ≤ gs.length → LayInv yw nw n (gs.take k) lay →
    (∀ l, groupsL yw nw (gs.drop k) lay = some l → LayInv yw nw n gs l) ∧ (groupsL yw nw (gs.drop k) lay = none → ∀ f, ¬ FitLay yw nw n f)
  | 0, k, lay, hd, hk, hi => by
    have e : k = gs.length := by omega
    subst e
    rw [List.drop_length]
    rw [List.take_length] at hi
    refine ⟨fun l hl => ?_, fun hl => by cases hl⟩
    obtain rfl : lay = l := by simpa [groupsL] using hl
    exact hi
  | d + 1, k, lay, hd, hk, hi => by
    have hlt : k < gs.length := by omega
    rw [List.drop_eq_getElem_cons hlt]
    obtain ⟨h1, h2⟩ := groupL_step h hlt hi
    show (∀ l, (match groupL yw nw lay gs[k] with | none => none | some l => groupsL yw nw (gs.drop (k + 1)) l) = some l → _) ∧ _
    have hcase : groupsL yw nw (gs[k] :: gs.drop (k + 1)) lay = match groupL yw nw lay gs[k] with | none => none | some l => groupsL yw nw (gs.drop (k + 1)) l := rfl
    rw [hcase]
    cases hg : groupL yw nw lay gs[k] with
    | none =>
      refine ⟨fun l hl => (by cases hl), fun _ => h2 hg⟩
    | some l1 => exact groupsL_from h d (k + 1) l1 (by omega) hlt (h1 l1 hg)
end

end Go.Proofs.YtcoelmhlkfignaaDoor
/-
  The least layers of a program: by its groups, and as what rounds over its links come to. Plain mathematics.
-/
namespace Go.Proofs.YtcoelmhlkfignaaDoor
open Go.RowKit

/-- The words of what heads ask, by a LitYes and by a LitNo. -/
def ywP (p : LProg) (u : Nat) : Nat := (askWords 0 (asksOf p.2)).getD u 0
def nwP (p : LProg) (u : Nat) : Nat := (askWords 1 (asksOf p.2)).getD u 0
def grpP (p : LProg) : List Nat := (walkF (askP p) p.1.length p.1.length).groups
def layL (p : LProg) : Option (List Nat) := groupsL (ywP p) (nwP p) (grpP p) (List.replicate p.1.length 0)

theorem layers_groups {p : LProg} (h : progOk p = true) : GroupsOk (ywP p) (nwP p) (askP p) p.1.length (grpP p) := by
  obtain ⟨hn, hf⟩ := asksOf_fits h
  obtain ⟨hi, hd, _⟩ := walk_all hn (askP_lt hf)
  have hdone : ∀ g ∈ grpP p, ∀ u, has g u → has (walkF (askP p) p.1.length p.1.length).done u := fun g hg u hu => (hi.told u).2 ⟨g, hg, hu⟩
  have hlt : ∀ g ∈ grpP p, ∀ u, has g u → u < p.1.length := fun g hg u hu => hi.lim u ((hi.sub u).2 (.inl (hdone g hg u hu)))
  refine ⟨fun u x => ?_, fun u x hx => askP_lt hf u x hx, hn, hlt, fun g hg => (hi.own g hg).1, fun g hg u v hu hv => ?_, hi.apartG, hi.order⟩
  · unfold askP askF
    exact has_or
  · have e := (hi.own g hg).2 u hu
    have h2 := (hi.grp u v (hdone g hg u hu)).1 (by rw [e]; exact hv)
    rcases h2 with h2 | h2
    · exact .inl h2.symm
    · exact .inr h2.1
theorem lay_told {p : LProg} (h : progOk p = true) {u : Nat} (hu : u < p.1.length) : ∃ g ∈ grpP p, has g u := by
  obtain ⟨hn, hf⟩ := asksOf_fits h
  obtain ⟨hi, hd, _⟩ := walk_all hn (askP_lt hf)
  exact (hi.told u).1 (hd u hu)
theorem lay_inv {p : LProg} (h : progOk p = true) : (∀ l, layL p = some l → LayInv (ywP p) (nwP p) p.1.length (grpP p) l) ∧ (layL p = none → ∀ f, ¬ FitLay (ywP p) (nwP p) p.1.length f) := by
  have := groupsL_from (layers_groups h) (grpP p).length 0 (List.replicate p.1.length 0) (by omega) (Nat.zero_le _) (by simpa using LayInv.start (ywP p) (nwP p) p.1.length)
  simpa [layL] using this
theorem lay_fit {p : LProg} (h : progOk p = true) {l : List Nat} (hl : layL p = some l) : FitLay (ywP p) (nwP p) p.1.length (fun u => l.getD u 0) := fun u hu => by
  obtain ⟨g, hg, hgu⟩ := lay_told h hu
  exact ((lay_inv h).1 l hl).fit g hg u hgu
theorem lay_least {p : LProg} (h : progOk p = true) {l : List Nat} (hl : layL p = some l) {f : Nat → Nat} (hf : FitLay (ywP p) (nwP p) p.1.length f) {u : Nat} (hu : u < p.1.length) : l.getD u 0 ≤ f u := by
  obtain ⟨g, hg, hgu⟩ := lay_told h hu
  exact ((lay_inv h).1 l hl).least f hf g hg u hgu
theorem grp_few {p : LProg} (h : progOk p = true) : (grpP p).length ≤ p.1.length := by
  obtain ⟨hn, hf⟩ := asksOf_fits h
  exact (walk_all hn (askP_lt hf)).1.groupsN
theorem lay_few {p : LProg} (h : progOk p = true) {l : List Nat} (hl : layL p = some l) (u : Nat) : l.getD u 0 ≤ p.1.length := by
  have h1 := ((lay_inv h).1 l hl).few u
  have h2 := grp_few h
  omega
theorem lay_len {p : LProg} (h : progOk p = true) {l : List Nat} (hl : layL p = some l) : l.length = p.1.length := ((lay_inv h).1 l hl).len

-- rounds over links
/-- What the rounds keep: at most whatever fits. -/
def LayUp (p : LProg) (out : List Nat) : Prop := out.length = p.1.length ∧ ∀ f, FitLay (ywP p) (nwP p) p.1.length f → ∀ u, u < p.1.length → out.getD u 0 ≤ f u
/-- What a predicate needs above another one. -/
def needL (p : LProg) (out : List Nat) (i k : Nat) : Nat := out.getD k 0 + (if 1 < cellV (asksOf p.2) i k then 1 else 0)
theorem cell_has {p : LProg} (h : progOk p = true) {i k : Nat} (hi : i < p.1.length) : (has (ywP p i) k ↔ asked 0 (asksOf p.2) i k = true) ∧ (has (nwP p i) k ↔ asked 1 (asksOf p.2) i k = true) := by
  obtain ⟨hn, hf⟩ := asksOf_fits h
  unfold ywP nwP
  rw [askWords_at (by omega), askWords_at (by omega)]
  exact ⟨has_mask (.inl rfl) i k _ hf, has_mask (.inr rfl) i k _ hf⟩
theorem cell_pos (ps : List LAsk) (i k : Nat) : (0 < cellV ps i k ↔ asked 0 ps i k = true ∨ asked 1 ps i k = true) ∧ (1 < cellV ps i k ↔ asked 1 ps i k = true) := by
  unfold cellV
  cases asked 0 ps i k <;> cases asked 1 ps i k <;> simp
theorem need_le {p : LProg} (h : progOk p = true) {f : Nat → Nat} (hf : FitLay (ywP p) (nwP p) p.1.length f) {out : List Nat} {i k : Nat} (hi : i < p.1.length) (hk : out.getD k 0 ≤ f k) (hc : 0 < cellV (asksOf p.2) i k) : needL p out i k ≤ f i := by
  obtain ⟨c1, c2⟩ := cell_has h (k := k) hi
  obtain ⟨d1, d2⟩ := cell_pos (asksOf p.2) i k
  unfold needL
  by_cases e : 1 < cellV (asksOf p.2) i k
  · rw [if_pos e]
    have := (hf i hi).2 k (c2.2 (d2.1 e))
    omega
  · rw [if_neg e]
    rcases d1.1 hc with e1 | e1
    · have := (hf i hi).1 k (c1.2 e1)
      omega
    · exact absurd (d2.2 e1) e
theorem LayUp.raise {p : LProg} (h : progOk p = true) {out : List Nat} (hu : LayUp p out) {i k : Nat} (hi : i < p.1.length) (hk : k < p.1.length) (hc : 0 < cellV (asksOf p.2) i k) : LayUp p (out.set i (needL p out i k)) := by
  refine ⟨by rw [List.length_set]; exact hu.1, fun f hf u hun => ?_⟩
  have hl := hu.1
  by_cases e : u = i
  · subst e
    rw [List.getD_eq_getElem?_getD, List.getElem?_set_self (by omega)]
    exact need_le h hf hi (hu.2 f hf k hk) hc
  · rw [List.getD_eq_getElem?_getD, List.getElem?_set_ne (Ne.symm e), ← List.getD_eq_getElem?_getD]
    exact hu.2 f hf u hun
theorem LayUp.zero (p : LProg) : LayUp p (List.replicate p.1.length 0) := ⟨by simp, fun f _ u hu => by simp [List.getD_eq_getElem?_getD, hu]⟩
/-- Past the predicates' number there are no layers. -/
theorem LayUp.none {p : LProg} (h : progOk p = true) {out : List Nat} (hu : LayUp p out) {i : Nat} (hi : i < p.1.length) (hg : p.1.length < out.getD i 0) : layL p = none := by
  cases hl : layL p with
  | none => rfl
  | some l =>
    have h1 := hu.2 _ (lay_fit h hl) i hi
    have h2 := lay_few h hl i
    omega
/-- Where nothing is to be raised there are the least layers. -/
theorem LayUp.done {p : LProg} (h : progOk p = true) {out : List Nat} (hu : LayUp p out) (hfit : ∀ i, i < p.1.length → ∀ k, k < p.1.length → 0 < cellV (asksOf p.2) i k → needL p out i k ≤ out.getD i 0) : layL p = some out := by
  obtain ⟨hn, hf⟩ := asksOf_fits h
  have hF : FitLay (ywP p) (nwP p) p.1.length (fun u => out.getD u 0) := fun u hun => by
    refine ⟨fun x hx => ?_, fun x hx => ?_⟩
    · have ha := ((cell_has h hun).1).1 hx
      have hxn := (asked_lt (.inl rfl) hf ha).2
      have h1 := hfit u hun x hxn ((cell_pos _ u x).1.2 (.inl ha))
      unfold needL at h1
      show out.getD x 0 ≤ out.getD u 0
      omega
    · have ha := ((cell_has h hun).2).1 hx
      have hxn := (asked_lt (.inr rfl) hf ha).2
      have h1 := hfit u hun x hxn ((cell_pos _ u x).1.2 (.inr ha))
      unfold needL at h1
      rw [if_pos ((cell_pos _ u x).2.2 ha)] at h1
      show out.getD x 0 < out.getD u 0
      omega
  cases hl : layL p with
  | none => exact absurd hF ((lay_inv h).2 hl _)
  | some l =>
    have e : l = out := by
      apply List.ext_getElem
      · rw [lay_len h hl, hu.1]
      · intro u h1 h2
        have hun : u < p.1.length := by rw [← hu.1]; exact h2
        have k1 := hu.2 _ (lay_fit h hl) u hun
        have k2 := lay_least h hl hF hun
        simp only [List.getD_eq_getElem?_getD, List.getElem?_eq_getElem h1, List.getElem?_eq_getElem h2, Option.getD_some] at k1 k2
        omega
    rw [e]

end Go.Proofs.YtcoelmhlkfignaaDoor
/-
  The walk of leastLayer.
-/
namespace Go.Proofs.YtcoelmhlkfignaaDoor
open Go.RowKit

theorem bitsOf_nats (x : Nat) : bitsOf x = (bitsN x).map fun j : Nat => (j : Int) := rfl
theorem maxTo_take {f : Nat → Nat} {l : List Nat} {k b : Nat} (h : k < l.length) : maxTo f (l.take (k + 1)) b = max (maxTo f (l.take k) b) (f l[k]) := by rw [take_snoc l k h, maxTo_snoc]

set_option maxHeartbeats 2000000 in
set_option maxRecDepth 100000 in
theorem leastLayer_any (g gl n p y z : Nat) (lay : List Nat) (w : World) (cY : w.cell? ⟨g, p, none⟩ = some (wd64 y)) (cN : w.cell? ⟨g, 24 + p, none⟩ = some (wd64 z)) (hrow : w.rowIs gl 3 n (fun j => .int .i64 ((lay.getD j 0 : Nat) : Int))) (hp : p < 24)
    (hy : ∀ x ∈ bitsN y, x < n) (hz : ∀ x ∈ bitsN z, x < n) (hyl : y < 16777216) (hzl : z < 16777216) (hf : ∀ u, lay.getD u 0 ≤ 64) (hT : Tab w) :
    Calls Tryd.prog 41 #[.pointer (some ⟨g, 0, none⟩), .int .i64 (p : Int), .slice (some ⟨gl, 0, none⟩) n n] w fun e w' => e = .returned (.int .i64 ((maxTo (fun x => lay.getD x 0 + 1) (bitsN z) (maxTo (fun x => lay.getD x 0) (bitsN y) 0) : Nat) : Int)) ∧ Below w.heap.size w w' := by
  have HROW := Lib.hid hrow
  have HT := Lib.hid hT
  have HF := Lib.hid hf
  have hpi : (p : Int) < 24 := by omega
  obtain ⟨B, hB⟩ : ∃ B, B = bitsN y := ⟨_, rfl⟩
  obtain ⟨C, hC⟩ : ∃ C, C = bitsN z := ⟨_, rfl⟩
  obtain ⟨ms, hms⟩ : ∃ ms, ms = bitsOf y := ⟨_, rfl⟩
  obtain ⟨ns, hns⟩ : ∃ ns, ns = bitsOf z := ⟨_, rfl⟩
  have HMS := Lib.hid (show ms = B.map fun j : Nat => (j : Int) by rw [hms, hB]; rfl)
  have HNS := Lib.hid (show ns = C.map fun j : Nat => (j : Int) by rw [hns, hC]; rfl)
  have HML := Lib.hid (show ms.length = B.length by rw [HMS.out]; simp)
  have HNL := Lib.hid (show ns.length = C.length by rw [HNS.out]; simp)
  have hmsl : ms.length ≤ 64 := by rw [hms]; exact bitsOf_length _
  have hnsl : ns.length ≤ 64 := by rw [hns]; exact bitsOf_length _
  have CB := Lib.hid (bitNumbers_any y (by omega) w hT)
  have CC := Lib.hid (fun W (hW : Below w.heap.size w W) => bitNumbers_any z (by omega) W (HT.out.below hW))
  rw [← hms] at CB
  rw [← hns] at CC
  rw [← hB] at hy ⊢
  rw [← hC] at hz ⊢
  have HY := Lib.hid hy
  have HZ := Lib.hid hz
  obtain ⟨D, hD⟩ : ∃ D, D = maxTo (fun x => lay.getD x 0) B 0 := ⟨_, rfl⟩
  rw [← hD]
  have HD := Lib.hid hD
  clear hD
  have cY' : w.cell? ⟨g, p, none⟩ = some (.int .u64 (y : Int)) := cY
  have HCN := Lib.hid (show w.cell? ⟨g, 24 + p, none⟩ = some (.int .u64 (z : Int)) from cN)
  clear hrow hT hf hy hz hms hns hB hC cY cN
  go_enter Tryd.func41, Tryd.ntmps41
  go_wp2_with (go_at_call 32; refine CB.out.mono ?_; rintro e w1 ⟨A1, c1, rfl, o1, b1⟩; have HO1 := Lib.hid o1; have B1 := Lib.hid b1; clear o1 b1)
  go_loop [7, 20] (fun m i => ∃ (k : Nat) (q : Int), k ≤ ms.length ∧ i = .int .i64 k ∧ m = .int .i64 q ∧ q = ((maxTo (fun x => lay.getD x 0) (B.take k) 0 : Nat) : Int)) (fun _ i => ms.length - (intOf i).toNat)
  case atStart => exact ⟨0, 0, Nat.zero_le _, rfl, rfl, rfl⟩
  case round =>
    obtain ⟨k, q, hk, rfl, rfl, hq⟩ := hrel
    by_cases hlt : k < ms.length
    · have hkB : k < B.length := by rw [← HML.out]; exact hlt
      obtain ⟨bb, oo, rfl, hbb, k0⟩ := HO1.out.rd.at_ hlt
      obtain ⟨x, hx⟩ : ∃ x, x = B[k] := ⟨_, rfl⟩
      have hxk : ms[k] = (x : Int) := by rw [hx]; simp [HMS.out]
      rw [hxk] at k0
      have hxn : x < n := by rw [hx]; exact HY.out _ (List.getElem_mem hkB)
      have hxi : (x : Int) < (n : Int) := by omega
      have k1 := (HROW.out.of_block (B1.out.block gl HROW.out.lt)).cell hxn
      obtain ⟨d, hd⟩ : ∃ d, d = lay.getD x 0 := ⟨_, rfl⟩
      rw [← hd] at k1
      have HN := Lib.hid (show (if q < (d : Int) then (d : Int) else q) = ((maxTo (fun x => lay.getD x 0) (B.take (k + 1)) 0 : Nat) : Int) from by
        rw [maxTo_take hkB, ← hx, ← hd, hq]
        omega)
      clear hx hxk hd hq hbb
      go_wp2_with (fail)
      go_round
      case rel => exact ⟨k + 1, _, by omega, by go_num, rfl, HN.out⟩
      case measure => simp [intOf]; omega
    · have hkn : k = B.length := by rw [← HML.out]; omega
      have hqD : q = (D : Int) := by rw [hq, hkn, List.take_length, HD.out]
      subst hqD
      have hnk : w1.cell? ⟨g, 24 + p, none⟩ = some (.int .u64 (z : Int)) := (B1.out.cell (p := ⟨g, 24 + p, none⟩) (World.block_lt_of_cell? _ _ HCN.out)).trans HCN.out
      clear hq hkn
      go_wp2_with (go_at_call 32; refine (CC.out _ B1.out).mono ?_; rintro e w2 ⟨A2, c2, rfl, o2, b2⟩; have HO2 := Lib.hid o2; have B2 := Lib.hid (bthen B1.out b2); clear o2 b2)
      go_loop [7, 39] (fun m i => ∃ (k : Nat) (q : Int), k ≤ ns.length ∧ i = .int .i64 k ∧ m = .int .i64 q ∧ q = ((maxTo (fun x => lay.getD x 0 + 1) (C.take k) D : Nat) : Int)) (fun _ i => ns.length - (intOf i).toNat)
      case atStart => exact ⟨0, (D : Int), Nat.zero_le _, rfl, rfl, rfl⟩
      case round =>
        obtain ⟨k, q, hk, rfl, rfl, hq⟩ := hrel
        by_cases hlt : k < ns.length
        · have hkB : k < C.length := by rw [← HNL.out]; exact hlt
          obtain ⟨bb, oo, rfl, hbb, k0⟩ := HO2.out.rd.at_ hlt
          obtain ⟨x, hx⟩ : ∃ x, x = C[k] := ⟨_, rfl⟩
          have hxk : ns[k] = (x : Int) := by rw [hx]; simp [HNS.out]
          rw [hxk] at k0
          have hxn : x < n := by rw [hx]; exact HZ.out _ (List.getElem_mem hkB)
          have hxi : (x : Int) < (n : Int) := by omega
          have k1 := (HROW.out.of_block (B2.out.block gl HROW.out.lt)).cell hxn
          have hd64 := HF.out x
          obtain ⟨d, hd⟩ : ∃ d, d = lay.getD x 0 := ⟨_, rfl⟩
          rw [← hd] at k1 hd64
          have HN := Lib.hid (show (if q < (d : Int) + 1 then (d : Int) + 1 else q) = ((maxTo (fun x => lay.getD x 0 + 1) (C.take (k + 1)) D : Nat) : Int) from by
            rw [maxTo_take hkB, ← hx, ← hd, hq]
            omega)
          clear hx hxk hd hq hbb
          go_wp2_with (fail)
          go_round
          case rel => exact ⟨k + 1, _, by omega, by go_num, rfl, HN.out⟩
          case measure => simp [intOf]; omega
        · have HE := Lib.hid (show q = ((maxTo (fun x => lay.getD x 0 + 1) C D : Nat) : Int) by rw [hq, show k = C.length by rw [← HNL.out]; omega, List.take_length])
          clear hq
          go_wp2_with (fail)
          go_ret
          exact ⟨ret_int HE.out, B2.out⟩

end Go.Proofs.YtcoelmhlkfignaaDoor
/-
  The walk of the program's LayersOf.
-/
namespace Go.Proofs.YtcoelmhlkfignaaDoor
open Go.RowKit

/-- What LayersOf answers. -/
def layOk (p : LProg) : Bool := progOk p && (layL p).isSome
def layR (p : LProg) : List Int := if progOk p = true then ((layL p).getD []).map (fun n : Nat => (n : Int)) else []
theorem layR_few (p : LProg) : (layR p).length ≤ 24 := by
  unfold layR
  split
  · rename_i h
    cases hl : layL p with
    | none => simp
    | some l =>
      have h1 := lay_len h hl
      have h2 := (asksOf_fits h).1
      simp [h1]
      omega
  · simp
theorem layR_yes {p : LProg} (h : progOk p = true) {l : List Nat} (hl : layL p = some l) : layR p = l.map (fun n : Nat => (n : Int)) ∧ layOk p = true := by
  unfold layR layOk
  rw [if_pos h, hl, h]
  exact ⟨rfl, rfl⟩
theorem layR_no {p : LProg} (h : progOk p = false ∨ layL p = none) : layR p = [] ∧ layOk p = false := by
  unfold layR layOk
  rcases h with h | h
  · rw [if_neg (by rw [h]; decide), h]
    exact ⟨rfl, rfl⟩
  · rw [h]
    constructor
    · split <;> rfl
    · cases progOk p <;> rfl
theorem natRow (l : List Nat) (j : Nat) : (l.map (fun n : Nat => (n : Int))).getD j 0 = ((l.getD j 0 : Nat) : Int) := by
  rw [List.getD_eq_getElem?_getD, List.getD_eq_getElem?_getD, List.getElem?_map]
  cases l[j]? <;> rfl
theorem and24 {a b : Nat} (ha : a < 16777216) (hb : b < 16777216) : bits .and .u64 (a : Int) (b : Int) = ((a &&& b : Nat) : Int) := bits_and_u64_nat a b (by omega) (by omega)
theorem setAll_take {l B : List Nat} {m k : Nat} (h : k < B.length) : setAll l (B.take (k + 1)) m = (setAll l (B.take k) m).set B[k] m := by
  rw [take_snoc B k h]
  unfold setAll
  rw [List.foldl_append]
  rfl

set_option maxHeartbeats 4000000 in
set_option maxRecDepth 100000 in
theorem implLayersNo_any (v : Value) (p : LProg) (w : World) (hpo : progOk p = false) (h : RdProg w w.heap.size v p) (hs : szP p ≤ 1048576) :
    Calls Tryd.prog 21 #[v] w fun e w' => e = .returned (.tuple #[.slice none 0 0, .bool false]) ∧ Below w.heap.size w w' := by
  have HP := Lib.hid h
  obtain ⟨a, b, rfl, hA, hR⟩ := h
  obtain ⟨A, c, rfl, hcA, _⟩ := hA
  obtain ⟨A2, c2, rfl, hcR, _⟩ := hR
  obtain ⟨n, hn⟩ : ∃ n, n = p.1.length := ⟨_, rfl⟩
  have HNE := Lib.hid hn
  rw [← hn] at hcA ⊢
  clear hn
  go_enter Tryd.func21, Tryd.ntmps21
  go_upto_region 1 with fail
  obtain ⟨w1, hw1⟩ : ∃ w1, w1 = w.alloc (Obj.cells #[Value.slice A n c, Value.slice A2 p.2.length c2] 31) := ⟨_, rfl⟩
  have X1 : Blk w1 w.heap.size 31 #[.slice A n c, .slice A2 p.2.length c2] := by rw [hw1]; exact Blk.new _ _ _
  have B1 : Below w.heap.size w w1 := by rw [hw1]; exact below1 _ _
  rw [← hw1]
  clear hw1
  have x0 : w1.cell? ⟨w.heap.size, 0, none⟩ = some (.slice A n c) := X1.cell 0
  have x1 : w1.cell? ⟨w.heap.size, 1, none⟩ = some (.slice A2 p.2.length c2) := X1.cell 1
  have CW := Lib.hid (walkOf_no _ p w1 hpo (HP.out.on B1) hs)
  rw [← HNE.out] at CW
  clear X1
  go_wp2_with (go_at_call 31; refine CW.out.mono ?_; rintro e w2 ⟨rfl, b2⟩; have B2 := Lib.hid (bthen B1 b2); clear b2)
  refine bodyPost_ret (v := .tuple #[.slice none 0 0, .bool false]) (by simp [results, Tryd.results21, go_sem]) rfl ?_
  exact ⟨rfl, B2.out⟩

set_option maxHeartbeats 4000000 in
set_option maxRecDepth 100000 in
theorem implLayersYes_any (v : Value) (p : LProg) (w : World) (hpo : progOk p = true) (h : RdProg w w.heap.size v p) (hs : szP p ≤ 1048576) (hT : Tab w) :
    Calls Tryd.prog 21 #[v] w fun e w' => ∃ A' c', e = .returned (.tuple #[.slice A' (layR p).length c', .bool (layOk p)]) ∧ OwnInts w' w.heap.size w'.heap.size (.slice A' (layR p).length c') (layR p) ∧ Below w.heap.size w w' := by
  have HP := Lib.hid h
  have HT := Lib.hid hT
  have HPO := Lib.hid hpo
  obtain ⟨a, b, rfl, hA, hR⟩ := h
  obtain ⟨A, c, rfl, hcA, _⟩ := hA
  obtain ⟨A2, c2, rfl, hcR, _⟩ := hR
  obtain ⟨hn24, hfit⟩ := asksOf_fits hpo
  have hmk := run_make_row' (P := Tryd.prog) 22 3 (.int .i64 0) 8 Tryd.underlying22 Tryd.infoInt rfl .i64 .i64 p.1.length (by omega) (by omega)
  have CW0 := Lib.hid (fun W (hW : Below w.heap.size w W) => walkOf_yes _ p W hpo (HP.out.on hW) hs (HT.out.below hW))
  have HGO := Lib.hid (layers_groups hpo)
  have HLIM := Lib.hid (askP_lim hn24 hfit)
  have HLL := Lib.hid (show layL p = groupsL (ywP p) (nwP p) ((grpP p).drop 0) (List.replicate p.1.length 0) from rfl)
  have HI0 := Lib.hid (show LayInv (ywP p) (nwP p) p.1.length ((grpP p).take 0) (List.replicate p.1.length 0) from by simpa using LayInv.start (ywP p) (nwP p) p.1.length)
  have HGN := Lib.hid (grp_few hpo)
  obtain ⟨F, hF⟩ : ∃ F, F = walkF (askP p) p.1.length p.1.length := ⟨_, rfl⟩
  have HGS := Lib.hid (show F.groups = grpP p by rw [hF]; rfl)
  rw [← hF] at CW0
  obtain ⟨R, hR⟩ : ∃ R, R = layR p := ⟨_, rfl⟩
  obtain ⟨ok, hok⟩ : ∃ ok, ok = layOk p := ⟨_, rfl⟩
  rw [← hR, ← hok]
  have HR := Lib.hid (And.intro hR hok)
  obtain ⟨n, hn⟩ : ∃ n, n = p.1.length := ⟨_, rfl⟩
  have HNE := Lib.hid hn
  rw [← hn] at hcA hn24 hmk CW0 HGO HLL HI0 HGN ⊢
  clear hn hT hpo hF hfit hR hok
  go_enter Tryd.func21, Tryd.ntmps21
  go_upto_region 1 with fail
  obtain ⟨w1, hw1⟩ : ∃ w1, w1 = w.alloc (Obj.cells #[Value.slice A n c, Value.slice A2 p.2.length c2] 31) := ⟨_, rfl⟩
  have X1 : Blk w1 w.heap.size 31 #[.slice A n c, .slice A2 p.2.length c2] := by rw [hw1]; exact Blk.new _ _ _
  have B1 : Below w.heap.size w w1 := by rw [hw1]; exact below1 _ _
  rw [← hw1]
  clear hw1
  have x0 : w1.cell? ⟨w.heap.size, 0, none⟩ = some (.slice A n c) := X1.cell 0
  have x1 : w1.cell? ⟨w.heap.size, 1, none⟩ = some (.slice A2 p.2.length c2) := X1.cell 1
  have HX1 := Lib.hid X1
  have CW := Lib.hid (CW0.out w1 B1)
  clear X1 CW0
  go_upto_region 4 with (go_at_call 31; refine CW.out.mono ?_; rintro e w2 ⟨g, Ap, cp, Ag, cg, rfl, hgg, hgw, b2⟩; have B2 := Lib.hid (bthen B1 b2); have HG2 := Lib.hid hgw; have HX2 := Lib.hid (HX1.out.below b2 HX1.out.lt); have x20 : w2.cell? ⟨w.heap.size, 0, none⟩ = some (.slice A n c) := HX2.out.cell 0; clear b2 hgw)
  clear x0 x1
  have hg2 : g < w2.heap.size := HG2.out.lt
  go_upto_region 5 with fail
  obtain ⟨w3, hw3⟩ : ∃ w3, w3 = w2.alloc (Obj.cells (madeCells #[Value.int .i64 0] n) 3) := ⟨_, rfl⟩
  obtain ⟨gl, hgl⟩ : ∃ gl, gl = w2.heap.size := ⟨_, rfl⟩
  have HR3 := Lib.hid (show w3.rowIs gl 3 n (fun j => .int .i64 (((List.replicate n 0).getD j 0 : Nat) : Int)) from by
    rw [hw3, hgl]
    exact (World.rowIs_made _ _ _ _).congr fun j hj => by simp [List.getD_eq_getElem?_getD, hj])
  have HW3 := Lib.hid (show Below gl w2 w3 by rw [hw3, hgl]; exact below1 _ _)
  have k52 : w3.cell? ⟨g, 52, none⟩ = some (.slice Ag F.groups.length cg) := by
    rw [hw3]
    exact ((HG2.out.on (below1 _ _)).cellGroups)
  have hggl : g < gl := by rw [hgl]; exact hg2
  have hwgl : w.heap.size < gl := by rw [hgl]; exact HX2.out.lt
  rw [← hw3, ← hgl]
  have HGL := Lib.hid hgl
  clear hw3 hgl hg2 x20
  go_wp2_with fail
  go_loopw [31] (fun i wr => ∃ (k : Nat) (lay : List Nat), k ≤ F.groups.length ∧ i = .int .i64 k ∧ wr.rowIs gl 3 n (fun j => .int .i64 ((lay.getD j 0 : Nat) : Int)) ∧ (layL p = groupsL (ywP p) (nwP p) (F.groups.drop k) lay ∧ LayInv (ywP p) (nwP p) n (F.groups.take k) lay) ∧ Below gl w2 wr) (fun i _ => F.groups.length - (intOf i).toNat)
  case atStart => exact ⟨0, _, Nat.zero_le _, rfl, HR3.out, by rw [HGS.out]; exact ⟨HLL.out, HI0.out⟩, HW3.out⟩
  case round =>
    obtain ⟨k, lay, hk, rfl, hrow, hin, hbe⟩ := hrel
    have HROW := Lib.hid hrow
    have HIN := Lib.hid hin
    have HBE := Lib.hid hbe
    have HGW := Lib.hid (HG2.out.on (by rw [← HGL.out]; exact hbe))
    have HTW := Lib.hid (HT.out.below (bthen B2.out (by rw [← HGL.out]; exact hbe)))
    clear hrow hin hbe k52
    have hFl : F.groups.length ≤ 24 := by have h2 := HGN.out; rw [← HGS.out] at h2; omega
    by_cases hlt : k < F.groups.length
    · have hgr := HGW.out.groups
      obtain ⟨gx, cap, e, _, hgx⟩ := hgr.form (by omega)
      injection e with e1 e2 e3
      clear e2 e3
      subst e1
      obtain ⟨x, hx⟩ : ∃ x, x = F.groups[k] := ⟨_, rfl⟩
      have kx : wr.cell? ⟨gx, k, none⟩ = some (.int .u64 (x : Int)) := by
        rw [hgr.cellAt k (by omega), List.getElem?_map, List.getElem?_eq_getElem hlt, hx]
        rfl
      have hgk : k < (grpP p).length := by rw [← HGS.out]; exact hlt
      have hxg : x = (grpP p)[k] := by rw [hx]; simp only [HGS.out]
      have hxm : x ∈ grpP p := by rw [hxg]; exact List.getElem_mem hgk
      have hx24 : x < 16777216 := HGW.out.lim.groups x (by rw [hx]; exact List.getElem_mem hlt)
      have HMEM := Lib.hid (show ∀ u ∈ bitsN x, u < n from fun u hu => HGO.out.mem x hxm u (bitsN_mem.1 hu).2)
      have HST := Lib.hid (show (∀ l, groupL (ywP p) (nwP p) lay x = some l → LayInv (ywP p) (nwP p) n (F.groups.take (k + 1)) l) from by
        have h1 := (groupL_step HGO.out hgk (lay := lay) (by rw [← HGS.out]; exact HIN.out.2)).1
        rw [← hxg, ← HGS.out] at h1
        exact h1)
      have HNX := Lib.hid (show layL p = match groupL (ywP p) (nwP p) lay x with | none => none | some l => groupsL (ywP p) (nwP p) (F.groups.drop (k + 1)) l from by
        have h1 := HIN.out.1
        rw [List.drop_eq_getElem_cons hlt, ← hx] at h1
        exact h1)
      have HFEW := Lib.hid (show ∀ u, lay.getD u 0 ≤ 24 from fun u => by
        have h1 := HIN.out.2.few u
        have h2 := HGN.out
        rw [← HGS.out] at h2
        simp only [List.length_take] at h1
        omega)
      obtain ⟨B, hB⟩ : ∃ B, B = bitsN x := ⟨_, rfl⟩
      obtain ⟨ms, hms⟩ : ∃ ms, ms = bitsOf x := ⟨_, rfl⟩
      have HMS := Lib.hid (show ms = B.map fun j : Nat => (j : Int) by rw [hms, hB]; rfl)
      have HML := Lib.hid (show ms.length = B.length by rw [HMS.out]; simp)
      have hmsl : ms.length ≤ 64 := by rw [hms]; exact bitsOf_length _
      have HGL2 := Lib.hid (show groupL (ywP p) (nwP p) lay x = if B.any (denies (nwP p) x) then none else some (setAll lay B (maxTo (leastL (ywP p) (nwP p) lay) B 0)) by rw [hB]; rfl)
      have CB := Lib.hid (bitNumbers_any x (by omega) wr HTW.out)
      rw [← hms] at CB
      rw [← hB] at HMEM
      clear hgr hgx hx hxg hxm hgk hB hms
      go_wp2_with (go_at_call 32; refine CB.out.mono ?_; rintro e w4 ⟨A4, c4, rfl, o4, b4⟩; have HO4 := Lib.hid o4; have HB4 := Lib.hid (HBE.out.trans (b4.mono (Nat.le_of_lt HROW.out.lt))); have HR4 := Lib.hid (HROW.out.of_block (b4.block gl HROW.out.lt)); have HG4 := Lib.hid (HGW.out.on b4); have HT4 := Lib.hid (HTW.out.below b4); clear o4 b4)
      go_loopw [10, 39] (fun m i ws => ∃ (j : Nat) (q : Int), j ≤ ms.length ∧ i = .int .i64 j ∧ m = .int .i64 q ∧ q = ((maxTo (leastL (ywP p) (nwP p) lay) (B.take j) 0 : Nat) : Int) ∧ (B.take j).any (denies (nwP p) x) = false ∧ Below w4.heap.size w4 ws) (fun _ i _ => ms.length - (intOf i).toNat)
      case atStart => exact ⟨0, 0, Nat.zero_le _, rfl, rfl, rfl, rfl, Below.refl _ _⟩
      case round =>
        obtain ⟨j, q, hj, rfl, rfl, hq, hdn, hbt⟩ := hrel
        have HBT := Lib.hid hbt
        have HR5 := Lib.hid (HR4.out.of_block (hbt.block gl HR4.out.lt))
        have HG5 := Lib.hid (HG4.out.on hbt)
        have HT5 := Lib.hid (HT4.out.below hbt)
        have HDN := Lib.hid hdn
        clear hbt hdn
        by_cases hltj : j < ms.length
        · have hjB : j < B.length := by rw [← HML.out]; exact hltj
          obtain ⟨bb, oo, rfl, hbb, k0⟩ := (HO4.out.rd.on HBT.out).at_ hltj
          obtain ⟨P, hP⟩ : ∃ P, P = B[j] := ⟨_, rfl⟩
          have hPk : ms[j] = (P : Int) := by rw [hP]; simp [HMS.out]
          rw [hPk] at k0
          have hPn : P < n := by rw [hP]; exact HMEM.out _ (List.getElem_mem hjB)
          have hP24 : P < 24 := by omega
          have hPi : (P : Int) < 24 := by omega
          obtain ⟨y, hy⟩ : ∃ y, y = ywP p P := ⟨_, rfl⟩
          obtain ⟨z, hz⟩ : ∃ z, z = nwP p P := ⟨_, rfl⟩
          have hyl : y < 16777216 := by rw [hy]; exact HLIM.out.y P hP24
          have hzl : z < 16777216 := by rw [hz]; exact HLIM.out.n P hP24
          have cY : wr.cell? ⟨g, P, none⟩ = some (wd64 y) := by rw [hy]; exact HG5.out.cellYes hP24
          have cN : wr.cell? ⟨g, 24 + P, none⟩ = some (wd64 z) := by rw [hz]; exact HG5.out.cellNo hP24
          have cN' : wr.cell? ⟨g, 24 + P, none⟩ = some (.int .u64 (z : Int)) := cN
          have hyb : ∀ x ∈ bitsN y, x < n := fun x hx => HGO.out.lim P x ((HGO.out.asks P x).2 (.inl (by rw [← hy]; exact (bitsN_mem.1 hx).2)))
          have hzb : ∀ x ∈ bitsN z, x < n := fun x hx => HGO.out.lim P x ((HGO.out.asks P x).2 (.inr (by rw [← hz]; exact (bitsN_mem.1 hx).2)))
          have CL := leastLayer_any g gl n P y z lay wr cY cN HR5.out hP24 hyb hzb hyl hzl (fun u => by have := HFEW.out u; omega) HT5.out
          obtain ⟨m, hm⟩ : ∃ m, m = leastL (ywP p) (nwP p) lay P := ⟨_, rfl⟩
          rw [show maxTo (fun x => lay.getD x 0 + 1) (bitsN z) (maxTo (fun x => lay.getD x 0) (bitsN y) 0) = m by rw [hm, hy, hz]; rfl] at CL
          have HCL := Lib.hid CL
          have hband := and24 hzl hx24
          have HTK := Lib.hid (show maxTo (leastL (ywP p) (nwP p) lay) (B.take (j + 1)) 0 = max (maxTo (leastL (ywP p) (nwP p) lay) (B.take j) 0) m by rw [maxTo_take hjB, ← hP, hm])
          have HANY := Lib.hid (show (B.take (j + 1)).any (denies (nwP p) x) = (z &&& x != 0) by rw [take_snoc B j hjB, List.any_append, HDN.out, ← hP]; simp [denies, hz])
          have HMB := Lib.hid (show P ∈ B by rw [hP]; exact List.getElem_mem hjB)
          have HZ := Lib.hid hz
          clear cY cN hyb hzb CL hm hP hPk hbb hy hz
          by_cases hd : z &&& x = 0
          · have hd1 : (((z &&& x : Nat) : Int) != 0) = false := by simp [hd]
            have HN := Lib.hid (show (if q < (m : Int) then (m : Int) else q) = ((maxTo (leastL (ywP p) (nwP p) lay) (B.take (j + 1)) 0 : Nat) : Int) ∧ (B.take (j + 1)).any (denies (nwP p) x) = false from ⟨by rw [HTK.out, hq]; omega, by rw [HANY.out, hd]; rfl⟩)
            clear hq hd
            go_wp2_with (go_at_call 41; refine HCL.out.mono ?_; rintro e w6 ⟨rfl, b6⟩; have HB6 := Lib.hid (bthen HBT.out b6); clear b6)
            go_roundw
            case rel => exact ⟨j + 1, _, by omega, by go_num, rfl, HN.out.1, HN.out.2, HB6.out⟩
            case measure => simp [intOf]; omega
          · have hd1 : (((z &&& x : Nat) : Int) != 0) = true := by simp [hd]
            have HE := Lib.hid (show R = [] ∧ ok = false from by
              have h1 : B.any (denies (nwP p) x) = true := List.any_eq_true.2 ⟨P, HMB.out, by unfold denies; rw [← HZ.out]; simp [hd]⟩
              have h2 := HNX.out
              rw [HGL2.out, if_pos h1] at h2
              have h3 := layR_no (p := p) (.inr h2)
              rw [HR.out.1, HR.out.2]
              exact h3)
            have HBW := Lib.hid (show Below w.heap.size w wr from bthen B2.out (by rw [← HGL.out]; exact HB4.out.trans (HBT.out.mono (by have := HB4.out.size; have := HR4.out.lt; omega))))
            clear hq hd
            go_wp2_with fail
            refine bodyPost_ret (v := .tuple #[.slice none 0 0, .bool false]) (by simp [results, Tryd.results21, go_sem]) rfl ?_
            rw [HE.out.1, HE.out.2]
            exact ⟨none, 0, rfl, ⟨World.ownsRow_nil _ _ _ _, fun g hg => by cases hg⟩, HBW.out⟩
        · have hjB : j = B.length := by rw [← HML.out]; omega
          obtain ⟨m, hm⟩ : ∃ m, m = maxTo (leastL (ywP p) (nwP p) lay) B 0 := ⟨_, rfl⟩
          have hqm : q = (m : Int) := by rw [hq, hjB, List.take_length, hm]
          subst hqm
          have HANY := Lib.hid (show B.any (denies (nwP p) x) = false by have := HDN.out; rw [hjB, List.take_length] at this; exact this)
          have HLN := Lib.hid (show groupL (ywP p) (nwP p) lay x = some (setAll lay B m) by rw [HGL2.out, if_neg (by rw [HANY.out]; decide), hm])
          have HLE := Lib.hid (show lay.length = n from HIN.out.2.len)
          clear hq hjB hm
          obtain ⟨wo, rfl⟩ : ∃ wo, wo = wr := ⟨_, rfl⟩
          have HBO := Lib.hid (show Below gl w2 wo from HB4.out.trans (HBT.out.mono (by have := HB4.out.size; have := HR4.out.lt; omega)))
          go_wp2_with fail
          go_loopw [64] (fun i ws => ∃ (j : Nat), j ≤ ms.length ∧ i = .int .i64 j ∧ ws.rowIs gl 3 n (fun u => .int .i64 (((setAll lay (B.take j) m).getD u 0 : Nat) : Int)) ∧ (Below gl w2 ws ∧ Only gl (gl + 1) wo ws)) (fun i _ => ms.length - (intOf i).toNat)
          case atStart => exact ⟨0, Nat.zero_le _, rfl, HR5.out, HBO.out, Only.refl _ _ _⟩
          case round =>
            obtain ⟨j, hj, rfl, hr6, hb6, ho6⟩ := hrel
            by_cases hltj : j < ms.length
            · have hjB : j < B.length := by rw [← HML.out]; exact hltj
              have hrd4 := (HO4.out.rd.on HBT.out)
              obtain ⟨bb, oo, e4, hbb, k0⟩ := hrd4.at_ hltj
              have hbg : bb ≠ gl := fun e => by
                have h1 := (HO4.out.1.lt bb (by rw [e4]; rfl))
                have h2 := HROW.out.lt
                omega
              subst e4
              obtain ⟨P, hP⟩ : ∃ P, P = B[j] := ⟨_, rfl⟩
              have hPk : ms[j] = (P : Int) := by rw [hP]; simp [HMS.out]
              rw [hPk] at k0
              have k1 : wr.cell? ⟨bb, oo + j, none⟩ = some (.int .i64 (P : Int)) := (World.cell?_of_block (ho6.block bb hbb (by omega))).trans k0
              have hPn : P < n := by rw [hP]; exact HMEM.out _ (List.getElem_mem hjB)
              have hPi : (P : Int) < (n : Int) := by omega
              have c1 := hr6.cell hPn
              have f1 := hr6.frozen P
              have HN := Lib.hid (show (wr.setCell ⟨gl, P, none⟩ (.int .i64 (m : Int))).rowIs gl 3 n (fun u => .int .i64 (((setAll lay (B.take (j + 1)) m).getD u 0 : Nat) : Int)) ∧ Below gl w2 (wr.setCell ⟨gl, P, none⟩ (.int .i64 (m : Int))) ∧ Only gl (gl + 1) wo (wr.setCell ⟨gl, P, none⟩ (.int .i64 (m : Int))) from by
                refine ⟨(hr6.set P _).congr fun u hu => ?_, hb6.setCell (Nat.le_refl _) _, ho6.setCell (by simp) _⟩
                rw [setAll_take hjB, ← hP]
                by_cases e : u = P
                · subst e
                  rw [if_pos rfl, List.getD_eq_getElem?_getD, List.getElem?_set_self (by rw [setAll_len, HLE.out]; exact hPn)]
                  rfl
                · rw [if_neg e, List.getD_eq_getElem?_getD, List.getD_eq_getElem?_getD, List.getElem?_set_ne (Ne.symm e)])
              clear hr6 hb6 ho6 k0 hbb hbg hrd4 hPk hP
              go_wp2_with fail
              go_roundw
              case rel => exact ⟨j + 1, by omega, by go_num, HN.out.1, HN.out.2.1, HN.out.2.2⟩
              case measure => simp [intOf]; omega
            · have hjB : j = B.length := by rw [← HML.out]; omega
              have HN := Lib.hid (show wr.rowIs gl 3 n (fun u => .int .i64 (((setAll lay B m).getD u 0 : Nat) : Int)) ∧ (layL p = groupsL (ywP p) (nwP p) (F.groups.drop (k + 1)) (setAll lay B m) ∧ LayInv (ywP p) (nwP p) n (F.groups.take (k + 1)) (setAll lay B m)) ∧ Below gl w2 wr from by
                rw [hjB, List.take_length] at hr6
                have h2 := HNX.out
                rw [HLN.out] at h2
                exact ⟨hr6, ⟨h2, HST.out _ HLN.out⟩, hb6⟩)
              clear hr6 hb6 ho6 hjB
              go_wp2_with fail
              go_roundw
              case rel => exact ⟨k + 1, _, by omega, by go_num, HN.out.1, HN.out.2.1, HN.out.2.2⟩
              case measure => simp [intOf]; omega
    · have hkn : k = F.groups.length := by omega
      have HE := Lib.hid (show R = lay.map (fun n : Nat => (n : Int)) ∧ ok = true from by
        have h1 := HIN.out.1
        rw [hkn, List.drop_length] at h1
        have h2 := layR_yes HPO.out h1
        rw [HR.out.1, HR.out.2]
        exact h2)
      have HLE := Lib.hid (show R.length = n by rw [HE.out.1, List.length_map]; exact HIN.out.2.len)
      have HO := Lib.hid (show OwnInts wr w.heap.size wr.heap.size (.slice (some ⟨gl, 0, none⟩) n n) R from by
        have h1 : wr.rowIs gl 3 R.length (fun j => .int .i64 (R.getD j 0)) := by
          rw [HLE.out]
          exact HROW.out.congr fun j _ => by rw [HE.out.1, natRow]
        have h2 := OwnInts.of_rowIs h1 (Nat.le_of_lt hwgl) HROW.out.lt (by rw [HLE.out]; unfold maxLen; omega)
        rw [HLE.out] at h2
        exact h2)
      have HBW := Lib.hid (show Below w.heap.size w wr from bthen B2.out (by rw [← HGL.out]; exact HBE.out))
      clear hkn
      go_wp2_with fail
      refine bodyPost_ret (v := .tuple #[.slice (some ⟨gl, 0, none⟩) n n, .bool true]) (by simp [results, Tryd.results21, go_sem]) rfl ?_
      rw [HE.out.2, HLE.out]
      exact ⟨_, n, rfl, HO.out, HBW.out⟩

theorem implLayersOf_any (v : Value) (p : LProg) (w : World) (h : RdProg w w.heap.size v p) (hs : szP p ≤ 1048576) (hT : Tab w) :
    Calls Tryd.prog 21 #[v] w fun e w' => ∃ A' c', e = .returned (.tuple #[.slice A' (layR p).length c', .bool (layOk p)]) ∧ OwnInts w' w.heap.size w'.heap.size (.slice A' (layR p).length c') (layR p) ∧ Below w.heap.size w w' := by
  cases hpo : progOk p
  · refine (implLayersNo_any v p w hpo h hs).mono ?_
    rintro e w' ⟨rfl, hb⟩
    obtain ⟨h1, h2⟩ := layR_no (p := p) (.inl hpo)
    rw [h1, h2]
    exact ⟨none, 0, rfl, ⟨World.ownsRow_nil _ _ _ _, fun g hg => by cases hg⟩, hb⟩
  · exact implLayersYes_any v p w hpo h hs hT

end Go.Proofs.YtcoelmhlkfignaaDoor
/-
  A row of slices that make laid and a loop fills (as FillS, for seats without Solutions).
-/
namespace Go.Proofs.YtcoelmhlkfignaaDoor
open Go.RowKit

/-- A row of slices that make laid and a loop fills: k of them stand. -/
structure FillG (g n : Nat) (wr : World) (xss : List (List Int)) (av : List Value) : Prop where
  args : OwnArgs wr (g + 1) wr.heap.size av xss
  row : ∃ cur, wr.heap[g]? = some (.cells cur 22 (0, 0)) ∧ cur.size = n ∧ cur.toList.take xss.length = av
theorem FillG.start (w : World) (cs : Array Value) (n : Nat) (h : cs.size = n) : FillG w.heap.size n (w.alloc (.cells cs 22)) [] [] :=
  ⟨OwnArgs.nil, cs, heap_alloc_new w _, h, by simp⟩
theorem FillG.lt {g n : Nat} {wr : World} {xss : List (List Int)} {av : List Value} (h : FillG g n wr xss av) : g < wr.heap.size := by
  obtain ⟨_, cur, hg, _⟩ := h
  exact Blk.lt hg
theorem FillG.on {g n : Nat} {wr w4 : World} {xss : List (List Int)} {av : List Value} (h : FillG g n wr xss av) (hb : Below wr.heap.size wr w4) : FillG g n w4 xss av := by
  have hlt := h.lt
  obtain ⟨ha, cur, hg, h1, h2⟩ := h
  exact ⟨(ha.below hb (Nat.le_refl _)).mono (Nat.le_refl _) hb.size, cur, (hb.block g hlt).trans hg, h1, h2⟩
theorem FillG.free {g n : Nat} {wr : World} {xss : List (List Int)} {av : List Value} (h : FillG g n wr xss av) {k : Nat} (hk : k < n) : (∃ x, wr.cell? ⟨g, k, none⟩ = some x) ∧ wr.frozen? ⟨g, k, none⟩ = false := by
  obtain ⟨_, cur, hg, h1, _⟩ := h
  exact ⟨⟨cur[k]'(by omega), by rw [Blk.cell hg, Array.getElem?_eq_getElem]⟩, Blk.frozen hg k⟩
theorem FillG.step {g n k : Nat} {wr w4 : World} {xss : List (List Int)} {xs : List Int} {av : List Value} {u : Value} (h : FillG g n wr xss av) (hk : xss.length = k) (hkn : k < n) (hb : Below wr.heap.size wr w4) (hu : OwnInts w4 wr.heap.size w4.heap.size u xs) :
    FillG g n (w4.setCell ⟨g, k, none⟩ u) (xss ++ [xs]) (av ++ [u]) := by
  have hlt := h.lt
  have hl := h.args.len
  have h4 := (h.args.below hb (Nat.le_refl _)).snoc hu (by omega) hb.size
  obtain ⟨_, cur, hg, h1, h2⟩ := h
  have hg4 : Blk w4 g 22 cur := (hb.block g hlt).trans hg
  refine ⟨by simpa using h4.set (p := ⟨g, k, none⟩) (.inl (Nat.lt_succ_self g)) u, _, hg4.set_ k u, by simpa using h1, ?_⟩
  have hlen : (xss ++ [xs]).length = k + 1 := by simp [hk]
  rw [hlen, Array.toList_setIfInBounds]
  rw [hk] at h2
  apply List.ext_getElem?
  intro j
  by_cases hj : j < k
  · rw [List.getElem?_take_of_lt (by omega), List.getElem?_set_ne (by omega), List.getElem?_append_left (by omega), ← h2, List.getElem?_take_of_lt hj]
  · by_cases hj2 : j = k
    · subst hj2
      rw [List.getElem?_take_of_lt (by omega), List.getElem?_set_self (by simp; omega), List.getElem?_append_right (by omega)]
      simp [hl, hk]
    · rw [List.getElem?_eq_none (by simp; omega), List.getElem?_eq_none (by simp; omega)]
theorem FillG.done {g n : Nat} {wr : World} {xss : List (List Int)} {av : List Value} (h : FillG g n wr xss av) (hn : xss.length = n) (hm : n ≤ maxLen) : OwnRows wr g wr.heap.size (.slice (some ⟨g, 0, none⟩) xss.length n) xss := by
  have hlt := h.lt
  have hl := h.args.len
  obtain ⟨ha, cur, hg, h1, h2⟩ := h
  exact ⟨av, ha.mono (by omega) (Nat.le_refl _), ⟨by omega, .inr ⟨g, n, cur, rfl, Nat.le_refl _, hg, by omega, hm, by omega, by rw [Nat.mul_one]; exact h2⟩⟩, fun g' hg' => by simp [Value.ownBlock] at hg'; omega⟩


end Go.Proofs.YtcoelmhlkfignaaDoor
