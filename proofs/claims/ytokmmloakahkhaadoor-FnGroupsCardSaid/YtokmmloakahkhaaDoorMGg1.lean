/-
  Texts that the claim's last one imports, laid together: part 1 of 2. No condition of its own.
-/
import Derived.Test.YtokmmloakahkhaaDoorMLk8
import Derived.Test.YtokmmloakahkhaaDoorMLk1
import Derived.Test.YtokmmloakahkhaaDoorMLk5
import Derived.Test.YtokmmloakahkhaaDoorMLk2
import Derived.Test.YtokmmloakahkhaaDoorMLk7
import Derived.Test.YtokmmloakahkhaaDoorMLy1
/-
  The specification's l5Group, l5Ready: the groups of what is reached.
-/
namespace Go.Proofs.YtokmmloakahkhaaDoor
open Go.RowKit

/-- i stands in p's group. -/
def inG (T : Nat → Nat → Bool) (p i : Nat) : Bool := decide (i = p) || (T i p && T p i)
def grpN (T : Nat → Nat → Bool) (p k : Nat) : List Nat := (List.range k).filter (inG T p)
def grpI (T : Nat → Nat → Bool) (p k : Nat) : List Int := (grpN T p k).map (fun i : Nat => (i : Int))
theorem grpN_yes {T : Nat → Nat → Bool} {p k : Nat} (h : inG T p k = true) : grpI T p (k + 1) = grpI T p k ++ [(k : Int)] := by simp [grpI, grpN, List.range_succ, List.filter_append, h]
theorem grpN_no {T : Nat → Nat → Bool} {p k : Nat} (h : inG T p k = false) : grpI T p (k + 1) = grpI T p k := by simp [grpI, grpN, List.range_succ, List.filter_append, h]
theorem grpI_len (T : Nat → Nat → Bool) (p k : Nat) : (grpI T p k).length ≤ k := by
  have := List.length_filter_le (inG T p) (List.range k)
  simpa [grpI, grpN] using this

set_option maxHeartbeats 2000000 in
set_option maxRecDepth 100000 in
theorem l5Group_any (lo : Nat) (Ao : Option Addr) (co n p : Nat) (T : Nat → Nat → Bool) (rs : List Nat) (w : World) (h : BGrid lo w n T Ao co rs) (hrn : rs.length = n) (hn : n ≤ 24) (hp : p < n) :
    Calls Tryd.prog 80 #[.slice Ao n co, .int .i64 (p : Int)] w fun e w' => ∃ A' c', e = .returned (.slice A' (grpI T p n).length c') ∧ OwnInts w' w.heap.size w'.heap.size (.slice A' (grpI T p n).length c') (grpI T p n) ∧ Below w.heap.size w w' := by
  obtain ⟨i0, hi0, hz0, hz1, hz2⟩ := info_parts Tryd.infoInt
  have HG := Lib.hid h
  have HRN := Lib.hid hrn
  obtain ⟨g, rfl, hg⟩ := h.form (by omega)
  have C0 := Lib.hid (ColI.empty (Below.refl w.heap.size w))
  clear h hrn
  go_enter Tryd.func80, Tryd.ntmps80
  go_wp2_with (fail)
  go_loopw [5, 6] (fun o i wr => ∃ (k : Nat) (A' : Option Addr) (c' : Nat), k ≤ n ∧ i = .int .i64 k ∧ o = .slice A' (grpI T p k).length c' ∧ ColI w wr (grpI T p k) A' c') (fun _ i _ => n - (intOf i).toNat)
  case atStart => exact ⟨0, _, 0, Nat.zero_le _, rfl, rfl, C0.out⟩
  case round =>
    obtain ⟨k, A', c', hk, rfl, rfl, hcol⟩ := hrel
    have HC := Lib.hid hcol
    have HBE := Lib.hid hcol.below
    clear hcol
    have hgl := grpI_len T p k
    by_cases hlt : k < n
    · have hks : k < rs.length := by rw [HRN.out]; exact hlt
      have hps : p < rs.length := by rw [HRN.out]; exact hp
      have hbg := HG.out.below HBE.out
      obtain ⟨rk, hrk⟩ : ∃ rk, rk = rs[k] := ⟨_, rfl⟩
      obtain ⟨rp, hrp⟩ : ∃ rp, rp = rs[p] := ⟨_, rfl⟩
      obtain ⟨b1, hb1⟩ : ∃ b1, b1 = T k p := ⟨_, rfl⟩
      obtain ⟨b2, hb2⟩ : ∃ b2, b2 = T p k := ⟨_, rfl⟩
      have z1 : wr.cell? ⟨g, k, none⟩ = some (.slice (some ⟨rk, 0, none⟩) n n) := by rw [hrk]; exact hbg.head hks
      have z2 : wr.cell? ⟨rk, p, none⟩ = some (.bool b1) := by rw [hrk, (hbg.rows k hks).cell hp, hb1]
      have z3 : wr.cell? ⟨g, p, none⟩ = some (.slice (some ⟨rp, 0, none⟩) n n) := by rw [hrp]; exact hbg.head hps
      have z4 : wr.cell? ⟨rp, k, none⟩ = some (.bool b2) := by rw [hrp, (hbg.rows p hps).cell hlt, hb2]
      have hki : (k : Int) < (n : Int) := by omega
      have hpi : (p : Int) < (n : Int) := by omega
      have HIN := Lib.hid (show inG T p k = (decide (k = p) || (b1 && b2)) by unfold inG; rw [← hb1, ← hb2])
      have HY := Lib.hid (grpN_yes (T := T) (p := p) (k := k))
      have HN := Lib.hid (grpN_no (T := T) (p := p) (k := k))
      obtain ⟨Q, hQ⟩ : ∃ Q, Q = grpI T p k := ⟨_, rfl⟩
      rw [← hQ] at HC hgl HY HN ⊢
      clear hbg hrk hrp hb1 hb2 hQ
      have push : Hid (inG T p k = true) → ∀ (g2 cap : Nat) (w4 : World), w4.ownsRow w.heap.size 3 1 (.slice (some ⟨g2, 0, none⟩) (Q.length + 1) cap) (Q.length + 1) (Q.map (Value.int .i64) ++ [.int .i64 (k : Int)]) → (wr.alloc (.cells #[.int .i64 (k : Int)] 3)).grownBy w4 (Value.slice A' Q.length c').ownBlock → Hid (ColI w w4 (grpI T p (k + 1)) (some ⟨g2, 0, none⟩) cap ∧ Q.length + 1 = (grpI T p (k + 1)).length) := fun hh g2 cap w4 hown hgr => by
        rw [HY.out hh.out]
        exact ⟨HC.out.push (Below.refl _ _) hgr hown, by simp⟩
      by_cases he : k = p
      · have he0 : ((k : Int) == (p : Int)) = true := by simp [he]
        have HT := Lib.hid (show inG T p k = true by rw [HIN.out]; simp [he])
        have HE := Lib.hid he
        clear he
        go_wp2_with (at_builtin; refine wpList_append_lies _ rfl (.tmp 35) (.tmp 37) 23 rfl w.heap.size 3 i0 (.int .i64 0) 1 8 Tryd.underlying23 hi0 hz0 hz1 hz2 rfl (by decide) (.slice A' Q.length c') Q.length (Q.map (Value.int .i64)) rfl ?c1 ⟨wr.heap.size, 0, none⟩ 1 1 [.int .i64 (k : Int)] rfl rfl (news1 _ _ _) ?c2 (by omega) (by unfold maxLen; omega) (by omega) ?c3 _ rfl ?_)
        case c1 => exact HC.out.own.1.alloc _
        case c2 => intro u hu; simp at hu; subst hu; rfl
        case c3 => have := HC.out.below.size; simp; omega
        intro g2 cap w4 hown hgr _ _
        have HPU := push HT g2 cap w4 hown hgr
        clear hown hgr push
        rw [HPU.out.2]
        go_wp2_with (fail)
        go_roundw
        case rel => exact ⟨k + 1, _, _, by omega, by go_num, rfl, HPU.out.1⟩
        case measure => simp [intOf]; omega
      · have he0 : ((k : Int) == (p : Int)) = false := by rw [beq_eq_false_iff_ne]; omega
        have HIN2 := Lib.hid (show inG T p k = (b1 && b2) by rw [HIN.out]; simp [he])
        clear he
        by_cases hbb : (b1 && b2) = true
        · have HT := Lib.hid (show inG T p k = true by rw [HIN2.out, hbb])
          rw [Bool.and_eq_true] at hbb
          obtain ⟨rfl, rfl⟩ := hbb
          go_wp2_with (at_builtin; refine wpList_append_lies _ rfl (.tmp 35) (.tmp 37) 23 rfl w.heap.size 3 i0 (.int .i64 0) 1 8 Tryd.underlying23 hi0 hz0 hz1 hz2 rfl (by decide) (.slice A' Q.length c') Q.length (Q.map (Value.int .i64)) rfl ?c1 ⟨wr.heap.size, 0, none⟩ 1 1 [.int .i64 (k : Int)] rfl rfl (news1 _ _ _) ?c2 (by omega) (by unfold maxLen; omega) (by omega) ?c3 _ rfl ?_)
          case c1 => exact HC.out.own.1.alloc _
          case c2 => intro u hu; simp at hu; subst hu; rfl
          case c3 => have := HC.out.below.size; simp; omega
          intro g2 cap w4 hown hgr _ _
          have HPU := push HT g2 cap w4 hown hgr
          clear hown hgr push
          rw [HPU.out.2]
          go_wp2_with (fail)
          go_roundw
          case rel => exact ⟨k + 1, _, _, by omega, by go_num, rfl, HPU.out.1⟩
          case measure => simp [intOf]; omega
        · have hbf : (b1 && b2) = false := by simpa using hbb
          have HF := Lib.hid (HN.out (by rw [HIN2.out, hbf]))
          clear hbb push
          cases b1
          · clear hbf
            go_wp2_with (fail)
            go_roundw
            case rel => exact ⟨k + 1, _, _, by omega, by go_num, by rw [HF.out], by rw [HF.out]; exact HC.out⟩
            case measure => simp [intOf]; omega
          · cases b2
            · clear hbf
              go_wp2_with (fail)
              go_roundw
              case rel => exact ⟨k + 1, _, _, by omega, by go_num, by rw [HF.out], by rw [HF.out]; exact HC.out⟩
              case measure => simp [intOf]; omega
            · cases hbf
    · have hkn : k = n := by omega
      subst hkn
      go_wp2_with (fail)
      go_ret
      exact ⟨_, _, rfl, HC.out.own, HBE.out⟩

theorem RdInts.getG {w : World} {B n c : Nat} {A : Option Addr} {xs : List Int} (h : RdInts w B (.slice A n c) xs) {k : Nat} (hk : k < xs.length) : ∃ b o, A = some ⟨b, o, none⟩ ∧ b < B ∧ w.cell? ⟨b, o + k, none⟩ = some (.int .i64 xs[k]) := by
  obtain ⟨A', c', e, hc, h⟩ := h
  injection e with e1 e2 e3
  subst e1
  obtain ⟨b, o, rfl, hb, hx⟩ := h (by omega)
  exact ⟨b, o, rfl, hb, hx k hk⟩
theorem mem_take_step {xs : List Int} {x : Int} {k : Nat} (hk : k < xs.length) (h : x ∉ xs.take k) (e : xs[k] ≠ x) : x ∉ xs.take (k + 1) := by
  rw [take_snoc xs k hk, List.mem_append, List.mem_singleton]
  rintro (h1 | h1)
  · exact h h1
  · exact e h1.symm

set_option maxRecDepth 100000 in
theorem l5Has_any (v : Value) (xs : List Int) (x : Int) (w : World) (h : RdInts w w.heap.size v xs) (hl : xs.length ≤ 1048576) :
    Calls Tryd.prog 84 #[v, .int .i64 x] w fun e w' => e = .returned (.bool (decide (x ∈ xs))) ∧ w = w' := by
  have H := Lib.hid h
  obtain ⟨A, c, rfl, hc, _⟩ := h
  obtain ⟨R, hR⟩ : ∃ R, R = decide (x ∈ xs) := ⟨_, rfl⟩
  have HR := Lib.hid hR
  rw [← hR]
  clear hR
  go_enter Tryd.func84, Tryd.ntmps84
  go_wp2_with (fail)
  go_loop [5] (fun i => ∃ k : Nat, k ≤ xs.length ∧ i = .int .i64 k ∧ x ∉ xs.take k) (fun i => xs.length - (intOf i).toNat)
  case atStart => exact ⟨0, Nat.zero_le _, rfl, by simp⟩
  case round =>
    obtain ⟨k, hk, rfl, hs⟩ := hrel
    have HS := Lib.hid hs
    clear hs
    by_cases hlt : k < xs.length
    · obtain ⟨b, o, rfl, hb, q0⟩ := RdInts.getG H.out hlt
      obtain ⟨y, hy⟩ : ∃ y, y = xs[k] := ⟨_, rfl⟩
      rw [← hy] at q0
      have HY := Lib.hid hy
      clear hy hb
      by_cases he : y = x
      · have he0 : (y == x) = true := by simp [he]
        have HE := Lib.hid (show true = R by rw [HR.out]; symm; simp; rw [← he, HY.out]; exact List.getElem_mem hlt)
        clear he
        go_wp2_with (fail)
        go_ret
        exact ⟨ret_bool HE.out, rfl⟩
      · have he0 : (y == x) = false := by simp [he]
        have HN := Lib.hid (mem_take_step hlt HS.out (by rw [← HY.out]; exact he))
        clear he
        go_wp2_with (fail)
        go_round
        case rel => exact ⟨k + 1, by omega, by go_num, HN.out⟩
        case measure => simp [intOf]; omega
    · have HE := Lib.hid (show false = R by rw [HR.out]; have := HS.out; rw [show k = xs.length by omega, List.take_length] at this; simp [this])
      go_wp2_with (fail)
      go_ret
      exact ⟨ret_bool HE.out, rfl⟩

/-- Every one that a group reaches is told, or stands in it. -/
def okAt (T : Nat → Nat → Bool) (xs : List Int) (D : Nat → Bool) (m : Int) (k : Nat) : Bool := !(T m.toNat k && (!D k && !decide ((k : Int) ∈ xs)))
def readyB (T : Nat → Nat → Bool) (xs : List Int) (D : Nat → Bool) (n : Nat) : Bool := xs.all fun m => (List.range n).all fun k => okAt T xs D m k

theorem readyB_iff {T : Nat → Nat → Bool} {xs : List Int} {D : Nat → Bool} {n : Nat} : readyB T xs D n = true ↔ ∀ m ∈ xs, ∀ k, k < n → okAt T xs D m k = true := by
  unfold readyB
  simp only [List.all_eq_true, List.mem_range]
theorem readyB_not {T : Nat → Nat → Bool} {xs : List Int} {D : Nat → Bool} {n i k : Nat} (hi : i < xs.length) (hk : k < n) (h : okAt T xs D xs[i] k = false) : readyB T xs D n = false := by
  cases e : readyB T xs D n
  · rfl
  · have := readyB_iff.1 e _ (List.getElem_mem hi) k hk
    rw [h] at this
    cases this

set_option maxHeartbeats 2000000 in
set_option maxRecDepth 100000 in
theorem l5Ready_any (lo : Nat) (Ao : Option Addr) (co n gd : Nat) (T : Nat → Nat → Bool) (D : Nat → Bool) (xs : List Int) (rs : List Nat) (v : Value) (w : World) (h : BGrid lo w n T Ao co rs) (hrn : rs.length = n) (hn : n ≤ 24) (hx : RdInts w w.heap.size v xs) (hxl : xs.length ≤ 24) (hxn : ∀ x ∈ xs, 0 ≤ x ∧ x < (n : Int)) (hd : w.rowIs gd 4 n (fun j => .bool (D j))) :
    Calls Tryd.prog 81 #[.slice Ao n co, v, .slice (some ⟨gd, 0, none⟩) n n] w fun e w' => e = .returned (.bool (readyB T xs D n)) ∧ w = w' := by
  have HG := Lib.hid h
  have HRN := Lib.hid hrn
  have HX := Lib.hid hx
  have HXN := Lib.hid hxn
  have HD := Lib.hid hd
  obtain ⟨A, c, rfl, hc, _⟩ := hx
  obtain ⟨R, hR⟩ : ∃ R, R = readyB T xs D n := ⟨_, rfl⟩
  have HR := Lib.hid hR
  rw [← hR]
  clear hR h hrn hxn hd
  have HH := Lib.hid (fun (x : Int) => l5Has_any (.slice A xs.length c) xs x w HX.out (by omega))
  go_enter Tryd.func81, Tryd.ntmps81
  go_wp2_with (fail)
  go_loop [7, 8] (fun i _ => ∃ j : Nat, j ≤ xs.length ∧ i = .int .i64 j ∧ ∀ m ∈ xs.take j, ∀ k, k < n → okAt T xs D m k = true) (fun i _ => xs.length - (intOf i).toNat)
  case atStart => exact ⟨0, Nat.zero_le _, rfl, by simp⟩
  case round =>
    obtain ⟨j, hj, rfl, hs⟩ := hrel
    have HS := Lib.hid hs
    clear hs
    by_cases hlt : j < xs.length
    · obtain ⟨b, o, rfl, hb, q0⟩ := RdInts.getG HX.out hlt
      obtain ⟨z0, z1⟩ := HXN.out _ (List.getElem_mem hlt)
      obtain ⟨q, hq⟩ : ∃ q : Nat, xs[j] = (q : Int) := ⟨xs[j].toNat, by omega⟩
      have HQ := Lib.hid hq
      rw [hq] at q0 z0 z1
      have hqn : q < n := by omega
      have hqs : q < rs.length := by rw [HRN.out]; exact hqn
      obtain ⟨g, rfl, hg⟩ := HG.out.form (by omega)
      obtain ⟨rq, hrq⟩ : ∃ rq, rq = rs[q] := ⟨_, rfl⟩
      have x1 : w.cell? ⟨g, q, none⟩ = some (.slice (some ⟨rq, 0, none⟩) n n) := by rw [hrq]; exact HG.out.head hqs
      have HROW := Lib.hid (show w.rowIs rq 4 n (fun k => .bool (T q k)) by rw [hrq]; exact HG.out.rows q hqs)
      clear hq hrq hb hg
      go_wp2_with (fail)
      go_loop [8] (fun i => ∃ k : Nat, k ≤ n ∧ i = .int .i64 k ∧ ∀ k', k' < k → okAt T xs D xs[j] k' = true) (fun i => n - (intOf i).toNat)
      case atStart => exact ⟨0, Nat.zero_le _, rfl, fun k' hk' => absurd hk' (by omega)⟩
      case round =>
        obtain ⟨k, hk, rfl, hs⟩ := hrel
        have HS2 := Lib.hid hs
        clear hs
        by_cases hlk : k < n
        · have hki : (k : Int) < (n : Int) := by omega
          obtain ⟨tb, htb⟩ : ∃ tb, tb = T q k := ⟨_, rfl⟩
          obtain ⟨db, hdb⟩ : ∃ db, db = D k := ⟨_, rfl⟩
          obtain ⟨hv, hhv⟩ : ∃ hv, hv = decide ((k : Int) ∈ xs) := ⟨_, rfl⟩
          have x2 : w.cell? ⟨rq, k, none⟩ = some (.bool tb) := by rw [HROW.out.cell hlk, htb]
          have x3 : w.cell? ⟨gd, k, none⟩ = some (.bool db) := by rw [HD.out.cell hlk, hdb]
          have HOK := Lib.hid (show okAt T xs D xs[j] k = !(tb && (!db && !hv)) by unfold okAt; rw [HQ.out, Int.toNat_natCast, ← htb, ← hdb, ← hhv])
          have CH := Lib.hid (HH.out (k : Int))
          rw [← hhv] at CH
          have HNX := Lib.hid (show okAt T xs D xs[j] k = true → ∀ k', k' < k + 1 → okAt T xs D xs[j] k' = true from fun hh k' hk' => by
            by_cases e : k' = k
            · rw [e]; exact hh
            · exact HS2.out k' (by omega))
          have HNO := Lib.hid (readyB_not (T := T) (D := D) hlt hlk)
          clear htb hdb hhv
          cases tb
          · have HN := Lib.hid (HNX.out (by rw [HOK.out]; rfl))
            go_wp2_with (fail)
            go_round
            case rel => exact ⟨k + 1, by omega, by go_num, HN.out⟩
            case measure => simp [intOf]; omega
          · cases db
            · cases hv
              · have HE := Lib.hid (show false = R by rw [HR.out, HNO.out (by rw [HOK.out]; rfl)])
                go_wp2_with (go_at_call 84; refine CH.out.mono ?_; rintro e w1 ⟨rfl, rfl⟩)
                go_ret
                exact ⟨ret_bool HE.out, rfl⟩
              · have HN := Lib.hid (HNX.out (by rw [HOK.out]; rfl))
                go_wp2_with (go_at_call 84; refine CH.out.mono ?_; rintro e w1 ⟨rfl, rfl⟩)
                go_round
                case rel => exact ⟨k + 1, by omega, by go_num, HN.out⟩
                case measure => simp [intOf]; omega
            · have HN := Lib.hid (HNX.out (by rw [HOK.out]; cases hv <;> rfl))
              go_wp2_with (fail)
              go_round
              case rel => exact ⟨k + 1, by omega, by go_num, HN.out⟩
              case measure => simp [intOf]; omega
        · have HN := Lib.hid (show ∀ m ∈ xs.take (j + 1), ∀ k, k < n → okAt T xs D m k = true from fun m hm k' hk' => by
            rw [take_snoc xs j hlt, List.mem_append, List.mem_singleton] at hm
            rcases hm with hm | rfl
            · exact HS.out m hm k' hk'
            · exact HS2.out k' (by omega))
          go_wp2_with (fail)
          go_round
          case rel => exact ⟨j + 1, by omega, by go_num, HN.out⟩
          case measure => simp [intOf]; omega
    · have HE := Lib.hid (show true = R by rw [HR.out]; symm; rw [readyB_iff]; have := HS.out; rw [show j = xs.length by omega, List.take_length] at this; exact this)
      go_wp2_with (fail)
      go_ret
      exact ⟨ret_bool HE.out, rfl⟩

end Go.Proofs.YtokmmloakahkhaaDoor
/-
  The order of the groups: plain mathematics. No walk.
-/
namespace Go.Proofs.YtokmmloakahkhaaDoor
open Go.RowKit

/-- What is reached over others is reached. -/
def TrT (T : Nat → Nat → Bool) (n : Nat) : Prop := ∀ a b c, b < n → T a b = true → T b c = true → T a c = true
section
variable {T : Nat → Nat → Bool} {n p q i : Nat} {D : Nat → Bool}
theorem inG_iff : inG T p i = true ↔ i = p ∨ (T i p = true ∧ T p i = true) := by simp [inG]
theorem inG_refl (T : Nat → Nat → Bool) (p : Nat) : inG T p p = true := inG_iff.2 (.inl rfl)
theorem inG_symm (h : inG T p i = true) : inG T i p = true := by
  rw [inG_iff] at h ⊢
  rcases h with rfl | ⟨h1, h2⟩
  · exact .inl rfl
  · exact .inr ⟨h2, h1⟩
theorem inG_trans (hT : TrT T n) (hi : i < n) (h : inG T p i = true) (h2 : inG T i q = true) : inG T p q = true := by
  rw [inG_iff] at h h2 ⊢
  rcases h with rfl | ⟨a1, a2⟩
  · exact h2
  · rcases h2 with rfl | ⟨b1, b2⟩
    · exact .inr ⟨a1, a2⟩
    · exact .inr ⟨hT q i p hi b1 a1, hT p i q hi a2 b2⟩
theorem grpI_mem {x : Int} : x ∈ grpI T p n ↔ ∃ i : Nat, i < n ∧ inG T p i = true ∧ x = (i : Int) := by
  unfold grpI grpN
  rw [List.mem_map]
  constructor
  · rintro ⟨i, hi, rfl⟩
    rw [List.mem_filter, List.mem_range] at hi
    exact ⟨i, hi.1, hi.2, rfl⟩
  · rintro ⟨i, h1, h2, rfl⟩
    exact ⟨i, List.mem_filter.2 ⟨List.mem_range.2 h1, h2⟩, rfl⟩
theorem grpI_mem_nat {i : Nat} : (i : Int) ∈ grpI T p n ↔ i < n ∧ inG T p i = true := by
  rw [grpI_mem]
  constructor
  · rintro ⟨j, h1, h2, e⟩
    have : i = j := by omega
    subst this
    exact ⟨h1, h2⟩
  · rintro ⟨h1, h2⟩
    exact ⟨i, h1, h2, rfl⟩
theorem inG_same (hT : TrT T n) (hp : p < n) (hq : q < n) (h : inG T p q = true) (i : Nat) : inG T p i = inG T q i := by
  cases e1 : inG T p i <;> cases e2 : inG T q i <;> try rfl
  · have := inG_trans hT hq h e2
    rw [e1] at this
    exact this
  · have := inG_trans hT hp (inG_symm h) e1
    rw [e2] at this
    cases this
theorem grp_same (hT : TrT T n) (hp : p < n) (hq : q < n) (h : inG T p q = true) : grpI T p n = grpI T q n := by
  unfold grpI grpN
  rw [List.filter_congr fun i _ => inG_same hT hp hq h i]

/-- Told is a union of groups. -/
def ClG (T : Nat → Nat → Bool) (n : Nat) (D : Nat → Bool) : Prop := ∀ a b, a < n → b < n → inG T a b = true → D a = D b
/-- A group that can be told next. -/
def goodB (T : Nat → Nat → Bool) (n : Nat) (D : Nat → Bool) (p : Nat) : Bool := !D p && readyB T (grpI T p n) D n
theorem good_same (hT : TrT T n) (hc : ClG T n D) (hp : p < n) (hq : q < n) (h : inG T p q = true) : goodB T n D p = goodB T n D q := by
  unfold goodB
  rw [hc p q hp hq h, grp_same hT hp hq h]
theorem ready_iff : readyB T (grpI T p n) D n = true ↔ ∀ i, i < n → inG T p i = true → ∀ k, k < n → T i k = true → D k = true ∨ inG T p k = true := by
  rw [readyB_iff]
  constructor
  · intro h i hi hg k hk ht
    have h1 := h (i : Int) (grpI_mem_nat.2 ⟨hi, hg⟩) k hk
    unfold okAt at h1
    rw [Int.toNat_natCast, ht] at h1
    cases hd : D k
    · rw [hd] at h1
      have h2 : (k : Int) ∈ grpI T p n := by simpa using h1
      exact .inr (grpI_mem_nat.1 h2).2
    · exact .inl rfl
  · intro h m hm k hk
    obtain ⟨i, hi, hg, rfl⟩ := grpI_mem.1 hm
    unfold okAt
    rw [Int.toNat_natCast]
    cases ht : T i k
    · rfl
    · rcases h i hi hg k hk ht with h1 | h1
      · rw [h1]; rfl
      · rw [decide_eq_true (grpI_mem_nat.2 ⟨hk, h1⟩)]
        cases D k <;> rfl

/-- How many that are not told are reached, itself with them. -/
def restN (T : Nat → Nat → Bool) (n : Nat) (D : Nat → Bool) (q : Nat) : Nat := ((List.range n).filter fun x => (decide (x = q) || T q x) && !D x).length
theorem filter_less {α : Type} {f g : α → Bool} : ∀ (l : List α), (∀ x ∈ l, f x = true → g x = true) → (l.filter f).length ≤ (l.filter g).length
  | [], _ => Nat.le_refl _
  | x :: l, h => by
    have ih := filter_less l fun y hy => h y (List.mem_cons_of_mem _ hy)
    have hx := h x List.mem_cons_self
    cases e1 : f x <;> cases e2 : g x <;> simp only [List.filter_cons, e1, e2] <;> simp <;> first | omega | (rw [hx e1] at e2; cases e2)
theorem filter_lt {α : Type} {f g : α → Bool} : ∀ (l : List α) (y : α), y ∈ l → (∀ x ∈ l, f x = true → g x = true) → f y = false → g y = true → (l.filter f).length < (l.filter g).length
  | x :: l, y, hy, h, h1, h2 => by
    have hl := fun z hz => h z (List.mem_cons_of_mem x hz)
    rcases List.mem_cons.1 hy with rfl | hy
    · have := filter_less l hl
      simp only [List.filter_cons, h1, h2]
      simp
      omega
    · have ih := filter_lt l y hy hl h1 h2
      have hx := h x List.mem_cons_self
      cases e1 : f x <;> cases e2 : g x <;> simp only [List.filter_cons, e1, e2] <;> simp <;> first | omega | (rw [hx e1] at e2; cases e2)
theorem ready_ex (hT : TrT T n) : ∀ (c q : Nat), q < n → D q = false → restN T n D q ≤ c → ∃ p, p < n ∧ goodB T n D p = true := by
  intro c
  induction c with
  | zero =>
    intro q hq hd hc
    have : restN T n D q ≠ 0 := by
      unfold restN
      intro e
      have := List.eq_nil_of_length_eq_zero e
      have h2 : q ∈ (List.range n).filter fun x => (decide (x = q) || T q x) && !D x := List.mem_filter.2 ⟨List.mem_range.2 hq, by simp [hd]⟩
      rw [this] at h2
      cases h2
    omega
  | succ c ih =>
    intro q hq hd hc
    by_cases hr : readyB T (grpI T q n) D n = true
    · exact ⟨q, hq, by unfold goodB; rw [hd, hr]; rfl⟩
    · have : ∃ i, i < n ∧ inG T q i = true ∧ ∃ k, k < n ∧ T i k = true ∧ D k = false ∧ inG T q k = false := by
        apply Classical.byContradiction
        intro hno
        apply hr
        rw [ready_iff]
        intro i hi hg k hk ht
        apply Classical.byContradiction
        intro h3
        apply hno
        refine ⟨i, hi, hg, k, hk, ht, ?_, ?_⟩
        · cases e : D k
          · rfl
          · exact absurd (.inl e) h3
        · cases e : inG T q k
          · rfl
          · exact absurd (.inr e) h3
      obtain ⟨i, hi, hg, k, hk, ht, hdk, hnk⟩ := this
      have hqk : T q k = true := by
        rcases inG_iff.1 hg with rfl | ⟨_, h2⟩
        · exact ht
        · exact hT q i k hi h2 ht
      have hkq : T k q = false := by
        cases e : T k q
        · rfl
        · have := inG_iff.2 (Or.inr ⟨e, hqk⟩)
          rw [hnk] at this
          cases this
      have hne : q ≠ k := fun e => by
        subst e
        rw [inG_refl] at hnk
        cases hnk
      refine ih k hk hdk ?_
      have hlt : restN T n D k < restN T n D q := by
        refine filter_lt _ q (List.mem_range.2 hq) (fun x _ hx => ?_) ?_ ?_
        · simp only [Bool.and_eq_true, Bool.or_eq_true, decide_eq_true_eq] at hx ⊢
          refine ⟨.inr ?_, hx.2⟩
          rcases hx.1 with rfl | h5
          · exact hqk
          · exact hT q k x hk hqk h5
        · simp [hne, hkq]
        · simp [hd]
      omega
theorem good_ex (hT : TrT T n) (hq : q < n) (hd : D q = false) : ∃ p, p < n ∧ goodB T n D p = true := ready_ex hT _ q hq hd (Nat.le_refl _)

/-- The least one that is good. -/
def pickG (T : Nat → Nat → Bool) (n : Nat) (D : Nat → Bool) : Option Nat := (List.range n).find? (goodB T n D)
def addG (T : Nat → Nat → Bool) (D : Nat → Bool) (p : Nat) : Nat → Bool := fun j => D j || inG T p j
def cntD (n : Nat) (D : Nat → Bool) : Nat := ((List.range n).filter D).length
/-- The state behind r rounds: what is told, the groups' least members. -/
def runG (T : Nat → Nat → Bool) (n : Nat) : Nat → (Nat → Bool) × List Nat
  | 0 => (fun _ => false, [])
  | r + 1 => match pickG T n (runG T n r).1 with
    | some p => (addG T (runG T n r).1 p, (runG T n r).2 ++ [p])
    | none => runG T n r
theorem pickG_some (h : pickG T n D = some p) : p < n ∧ goodB T n D p = true ∧ ∀ i, i < p → goodB T n D i = false := by
  unfold pickG at h
  rw [List.find?_eq_some_iff_append] at h
  obtain ⟨h1, us, vs, e, h2⟩ := h
  have hm : p ∈ List.range n := by rw [e]; simp
  have hp := List.mem_range.1 hm
  refine ⟨hp, h1, fun i hi => ?_⟩
  have hlen : us.length = p := by
    have h3 : (List.range n)[us.length]? = some p := by rw [e]; simp
    rw [List.getElem?_range (by have := congrArg List.length e; simp at this; omega)] at h3
    simpa using h3
  have h4 : i ∈ us := by
    have h5 : (List.range n)[i]? = us[i]? := by rw [e, List.getElem?_append_left (by omega)]
    rw [List.getElem?_range (by omega)] at h5
    exact List.mem_of_getElem? h5.symm
  have := h2 i h4
  simpa using this
theorem pickG_is (hp : p < n) (h : goodB T n D p = true) (hl : ∀ i, i < p → goodB T n D i = false) : pickG T n D = some p := by
  cases e : pickG T n D with
  | none =>
    unfold pickG at e
    rw [List.find?_eq_none] at e
    exact absurd h (e p (List.mem_range.2 hp))
  | some q =>
    obtain ⟨h1, h2, h3⟩ := pickG_some e
    rcases Nat.lt_trichotomy p q with h4 | h4 | h4
    · have := h3 p h4
      rw [h] at this
      cases this
    · rw [h4]
    · have := hl q h4
      rw [h2] at this
      cases this
theorem addG_cl (hT : TrT T n) (hc : ClG T n D) (_hp : p < n) : ClG T n (addG T D p) := fun a b ha hb h => by
  unfold addG
  rw [hc a b ha hb h]
  congr 1
  cases e1 : inG T p a <;> cases e2 : inG T p b <;> try rfl
  · have := inG_trans hT hb e2 (inG_symm h)
    rw [e1] at this
    exact this
  · have := inG_trans hT ha e1 h
    rw [e2] at this
    cases this
theorem cnt_two {α : Type} {f g : α → Bool} : ∀ (l : List α), (∀ x ∈ l, f x = true → g x = false) → (l.filter fun x => f x || g x).length = (l.filter f).length + (l.filter g).length
  | [], _ => rfl
  | x :: l, h => by
    have ih := cnt_two l fun y hy => h y (List.mem_cons_of_mem _ hy)
    have hx := h x List.mem_cons_self
    cases e1 : f x <;> cases e2 : g x <;> simp only [List.filter_cons, e1, e2] <;> simp <;> first | omega | (rw [hx e1] at e2; cases e2)
theorem addG_cnt (hc : ClG T n D) (hp : p < n) (hd : D p = false) : cntD n (addG T D p) = cntD n D + (grpI T p n).length := by
  unfold cntD addG grpI grpN
  rw [List.length_map]
  refine cnt_two _ fun x hx h => ?_
  cases e : inG T p x
  · rfl
  · have := hc p x hp (List.mem_range.1 hx) e
    rw [hd, h] at this
    cases this
theorem grpI_pos (hp : p < n) : 0 < (grpI T p n).length := List.length_pos_of_mem (grpI_mem_nat.2 ⟨hp, inG_refl T p⟩)
theorem cntD_le (n : Nat) (D : Nat → Bool) : cntD n D ≤ n := by
  have := List.length_filter_le D (List.range n)
  simpa [cntD] using this
theorem cntD_all (h : cntD n D = n) : ∀ q, q < n → D q = true := fun q hq => by
  cases e : D q
  · have h1 := filter_lt (f := D) (g := fun _ => true) (List.range n) q (List.mem_range.2 hq) (fun _ _ _ => rfl) e rfl
    unfold cntD at h
    rw [h] at h1
    have h2 := List.length_filter_le (fun _ => true) (List.range n)
    rw [List.length_range] at h2
    omega
  · rfl
theorem cntD_lt (h : cntD n D < n) : ∃ q, q < n ∧ D q = false := by
  apply Classical.byContradiction
  intro hno
  have : (List.range n).filter D = List.range n := List.filter_eq_self.2 fun x hx => by
    cases e : D x
    · exact absurd ⟨x, List.mem_range.1 hx, e⟩ hno
    · rfl
  unfold cntD at h
  rw [this] at h
  simp at h
theorem runG_cl (hT : TrT T n) : ∀ r, ClG T n (runG T n r).1
  | 0 => fun _ _ _ _ _ => rfl
  | r + 1 => by
    unfold runG
    cases e : pickG T n (runG T n r).1 with
    | none => exact runG_cl hT r
    | some p => exact addG_cl hT (runG_cl hT r) (pickG_some e).1
theorem runG_next {r : Nat} (h : pickG T n (runG T n r).1 = some p) : runG T n (r + 1) = (addG T (runG T n r).1 p, (runG T n r).2 ++ [p]) := by
  rw [runG, h]
theorem runG_stay {r : Nat} (h : ∀ q, q < n → (runG T n r).1 q = true) : ∀ d, runG T n (r + d) = runG T n r
  | 0 => rfl
  | d + 1 => by
    have ih := runG_stay h d
    have e : pickG T n (runG T n (r + d)).1 = none := by
      rw [ih]
      unfold pickG
      rw [List.find?_eq_none]
      intro x hx
      unfold goodB
      rw [h x (List.mem_range.1 hx)]
      simp
    show runG T n (r + d + 1) = _
    rw [runG, e]
    exact ih
/-- The groups in their order. -/
def groupsG (T : Nat → Nat → Bool) (n : Nat) : List (List Int) := (runG T n n).2.map fun p => grpI T p n
/-- A group's head is its least member. -/
theorem grp_head (hp : p < n) : ∃ h0 : Nat, (grpI T p n)[0]? = some (h0 : Int) ∧ h0 ≤ p ∧ inG T p h0 = true := by
  unfold grpI grpN
  have hm : p ∈ (List.range n).filter (inG T p) := List.mem_filter.2 ⟨List.mem_range.2 hp, inG_refl T p⟩
  cases e : (List.range n).filter (inG T p) with
  | nil => rw [e] at hm; cases hm
  | cons x l =>
    have hx : x ∈ (List.range n).filter (inG T p) := by rw [e]; exact List.mem_cons_self
    have hs : ((List.range n).filter (inG T p)).Pairwise (· < ·) := List.Pairwise.filter _ List.pairwise_lt_range
    rw [e] at hs hm
    refine ⟨x, by simp, ?_, (List.mem_filter.1 hx).2⟩
    rcases List.mem_cons.1 hm with rfl | h1
    · exact Nat.le_refl _
    · exact Nat.le_of_lt ((List.pairwise_cons.1 hs).1 p h1)
end

end Go.Proofs.YtokmmloakahkhaaDoor
/-
  The specification's l5Groups, GroupsOf.
-/
namespace Go.Proofs.YtokmmloakahkhaaDoor
open Go.RowKit

/-- A mark beside slices that are collected. -/
theorem ColS.mark {lo g n : Nat} {w wr : World} {xss : List (List Int)} {A : Option Addr} {c : Nat} {av : List Value} {f : Nat → Value} (h : ColS lo w wr xss A c av) (hr : wr.rowIs g 4 n f) (hg : w.heap.size ≤ g) (i : Nat) (u : Value) : ColS lo w (wr.setCell ⟨g, i, none⟩ u) xss A c av := by
  obtain ⟨cs, hb, _, _⟩ := hr
  have s1 : ∀ {v : Value} {m : Nat} {xs : List Value} {lo : Nat} {t : TypeId}, t ≠ 4 → wr.ownsRow lo t 1 v m xs → (wr.setCell ⟨g, i, none⟩ u).ownsRow lo t 1 v m xs := fun ht hr =>
    ownsRow_only hr (fun b hb2 => Below.heap_setCell _ _ _ _ (fun e => blk_ne_row hr (show Blk wr g 4 cs from hb) ht (by rw [hb2, e])))
  refine ⟨h.below.setCell hg _, h.len, fun j h1 h2 => ?_, s1 (by decide) h.row⟩
  have h0 := h.inn j h1 h2
  exact ⟨s1 (by decide) h0.1, by simpa using h0.2⟩
theorem trT_fw (p : LProg) (n : Nat) : TrT (fwM (askT p) n) n := fun a b c hb h1 h2 => fwM_trans n b a c hb h1 h2
theorem runG_cnt {T : Nat → Nat → Bool} {n : Nat} {r q : Nat} (hT : TrT T n) (h : pickG T n (runG T n r).1 = some q) : cntD n (runG T n (r + 1)).1 = cntD n (runG T n r).1 + (grpI T q n).length := by
  rw [runG_next h]
  obtain ⟨h1, h2, _⟩ := pickG_some h
  have hd : (runG T n r).1 q = false := by
    unfold goodB at h2
    rw [Bool.and_eq_true] at h2
    simpa using h2.1
  exact addG_cnt (runG_cl hT r) h1 hd
theorem runG_end {T : Nat → Nat → Bool} {n r : Nat} (hr : r ≤ n) (h : n ≤ cntD n (runG T n r).1) : (runG T n r).2 = (runG T n n).2 := by
  have h1 := cntD_all (n := n) (Nat.le_antisymm (cntD_le n _) h)
  have h2 := runG_stay h1 (n - r)
  rw [show r + (n - r) = n by omega] at h2
  rw [h2]

theorem cntD_zero (T : Nat → Nat → Bool) (n : Nat) : cntD n (runG T n 0).1 = 0 := by
  unfold cntD
  show ((List.range n).filter fun _ => false).length = 0
  rw [List.filter_eq_nil_iff.2 (fun _ _ h => by cases h)]
  rfl
theorem good_head {T : Nat → Nat → Bool} {n q h0 : Nat} {D : Nat → Bool} (hT : TrT T n) (hc : ClG T n D) (hq : q < n) (hl : ∀ i, i < q → goodB T n D i = false) (h1 : h0 ≤ q) (h2 : inG T q h0 = true) (hne : h0 ≠ q) : goodB T n D q = false := by
  rw [good_same hT hc hq (by omega) h2]
  exact hl h0 (by omega)
theorem lt_step {P : Nat → Prop} {q : Nat} (h : ∀ i, i < q → P i) (hq : P q) : ∀ i, i < q + 1 → P i := fun i hi => by
  by_cases e : i = q
  · rw [e]; exact hq
  · exact h i (by omega)

theorem runG_len (T : Nat → Nat → Bool) (n : Nat) : ∀ r, (runG T n r).2.length ≤ r
  | 0 => Nat.le_refl _
  | r + 1 => by
    have ih := runG_len T n r
    rw [runG]
    cases pickG T n (runG T n r).1 with
    | none => exact Nat.le_succ_of_le ih
    | some p => simp; omega

set_option maxHeartbeats 4000000 in
set_option maxRecDepth 100000 in
theorem l5Groups_any (v : Value) (p : LProg) (w : World) (h : RdProg w w.heap.size v p) (hs : szP p ≤ 1048576) (hn : p.1.length ≤ 24) (hf : ∀ x ∈ asksOf p.2, AskFits p.1.length x) :
    Calls Tryd.prog 56 #[v] w fun e w' => ∃ A c, e = .returned (.slice A (groupsG (fwM (askT p) p.1.length) p.1.length).length c) ∧ WkRows w' w.heap.size w'.heap.size (.slice A (groupsG (fwM (askT p) p.1.length) p.1.length).length c) (groupsG (fwM (askT p) p.1.length) p.1.length) ∧ Below w.heap.size w w' := by
  obtain ⟨i0, hi0, hz0, hz1, hz2⟩ := info_parts Tryd.infoIntS
  have HP := Lib.hid h
  obtain ⟨a, b, rfl, hA, hR⟩ := h
  obtain ⟨A, c, rfl, hcA, _⟩ := hA
  obtain ⟨A2, c2, rfl, hcR, _⟩ := hR
  obtain ⟨T, hTe⟩ : ∃ T, T = fwM (askT p) p.1.length := ⟨_, rfl⟩
  have HTR := Lib.hid (show TrT T p.1.length by rw [hTe]; exact trT_fw p _)
  have HL := Lib.hid (fun W (hW : Below w.heap.size w W) => l5Reach_any _ p W (HP.out.on hW) hs hn hf)
  rw [← hTe] at HL ⊢
  obtain ⟨n, hnn⟩ : ∃ n, n = p.1.length := ⟨_, rfl⟩
  rw [← hnn] at hcA hn HTR HL ⊢
  have hmk := run_make_row' (P := Tryd.prog) 38 4 (.bool false) 1 Tryd.underlying38 Tryd.infoBool rfl .i64 .i64 n (by omega) (by omega)
  clear hf hTe hnn
  go_enter Tryd.func56, Tryd.ntmps56
  go_upto_region 1 with fail
  obtain ⟨w1, hw1⟩ : ∃ w1, w1 = w.alloc (Obj.cells #[Value.slice A n c, Value.slice A2 p.2.length c2] 26) := ⟨_, rfl⟩
  have X1 : Blk w1 w.heap.size 26 #[.slice A n c, .slice A2 p.2.length c2] := by rw [hw1]; exact Blk.new _ _ _
  have B1 : Below w.heap.size w w1 := by rw [hw1]; exact below1 _ _
  rw [← hw1]
  clear hw1
  have x0 : w1.cell? ⟨w.heap.size, 0, none⟩ = some (.slice A n c) := X1.cell 0
  have x1 : w1.cell? ⟨w.heap.size, 1, none⟩ = some (.slice A2 p.2.length c2) := X1.cell 1
  go_upto_region 2 with (go_at_call 57; refine (HL.out _ B1).mono ?_; rintro e w4 ⟨Ao, co, rs, rfl, hrn, hbg, b4⟩; have HBG := Lib.hid hbg; have HRN := Lib.hid hrn; have HB4 := Lib.hid (bthen B1 b4); clear hbg b4)
  try rw [hrn]
  clear hrn x0 x1 X1 B1
  go_upto_region 3 with fail
  obtain ⟨gd, hgd⟩ : ∃ gd, gd = w4.heap.size := ⟨_, rfl⟩
  obtain ⟨w5, hw5⟩ : ∃ w5, w5 = w4.alloc (Obj.cells (madeCells #[Value.bool false] n) 4) := ⟨_, rfl⟩
  have HR5 := Lib.hid (show w5.rowIs gd 4 n (fun j => .bool ((runG T n 0).1 j)) from by rw [hw5, hgd]; exact World.rowIs_made _ _ _ _)
  have HB5 := Lib.hid (show Below w4.heap.size w4 w5 by rw [hw5]; exact below1 _ _)
  have HGD := Lib.hid hgd
  rw [← hw5, ← hgd]
  clear hw5 hgd hmk
  have HC0 := Lib.hid (ColS.empty (lo := w4.heap.size) HB5.out)
  go_wp2_with fail
  go_loopw [5, 6, 7, 8, 9] (fun o cn _ _ _ wr => ∃ (r : Nat) (A' : Option Addr) (c' : Nat) (av : List Value), cn = .int .i64 (cntD n (runG T n r).1 : Nat) ∧ r ≤ cntD n (runG T n r).1 ∧ o = .slice A' (runG T n r).2.length c' ∧ ColS w4.heap.size w4 wr ((runG T n r).2.map fun q => grpI T q n) A' c' av ∧ wr.rowIs gd 4 n (fun j => .bool ((runG T n r).1 j))) (fun _ cn _ _ _ _ => n - (intOf cn).toNat)
  case atStart => exact ⟨0, _, 0, [], by rw [cntD_zero]; rfl, Nat.zero_le _, rfl, HC0.out, HR5.out.alloc _⟩
  case round =>
    obtain ⟨r, A', c', av, rfl, hrc, rfl, hcol, hrow⟩ := hrel
    have HCL := Lib.hid (runG_cl HTR.out r)
    have HNX := Lib.hid (fun q (hq : pickG T n (runG T n r).1 = some q) => And.intro (runG_next hq) (runG_cnt HTR.out hq))
    obtain ⟨D, hD⟩ : ∃ D, D = (runG T n r).1 := ⟨_, rfl⟩
    obtain ⟨ps, hps⟩ : ∃ ps, ps = (runG T n r).2 := ⟨_, rfl⟩
    obtain ⟨cn, hcn⟩ : ∃ cn, cn = cntD n D := ⟨_, rfl⟩
    have HD := Lib.hid hD
    have HPS := Lib.hid hps
    have HCN := Lib.hid hcn
    rw [← hD] at hrc hrow HCL HNX
    rw [← hD]
    rw [← hps] at hcol HNX
    rw [← hps]
    rw [← hcn] at hrc HNX
    rw [← hcn]
    have hplr : ps.length ≤ r := by rw [hps]; exact runG_len T n r
    have HCOL := Lib.hid hcol
    have HROW := Lib.hid hrow
    have hcnn : cn ≤ n := by rw [hcn]; exact cntD_le n D
    have hpl : (ps.map fun q => grpI T q n).length = ps.length := by simp
    clear hcol hrow hD hps hcn
    by_cases hlt : cn < n
    · have hlti : (cn : Int) < (n : Int) := by omega
      have HEX := Lib.hid (show ∃ q, q < n ∧ goodB T n D q = true from by
        obtain ⟨q, hq, hd⟩ := cntD_lt (n := n) (D := D) (by rw [← HCN.out]; exact hlt)
        exact good_ex HTR.out hq hd)
      have HPL := Lib.hid hpl
      clear hpl
      go_wp2_with fail
      go_loopw [5, 6, 7, 8, 9] (fun o cx x _ _ wr => ∃ (q : Nat), q ≤ n ∧ x = .int .i64 q ∧ o = .slice A' ps.length c' ∧ cx = .int .i64 (cn : Int) ∧ (∀ i, i < q → goodB T n D i = false) ∧ ColS w4.heap.size w4 wr (ps.map fun q => grpI T q n) A' c' av ∧ wr.rowIs gd 4 n (fun j => .bool (D j))) (fun _ _ x _ _ _ => n - (intOf x).toNat)
      case atStart => exact ⟨0, Nat.zero_le _, rfl, rfl, rfl, fun i hi => absurd hi (by omega), HCOL.out, HROW.out⟩
      case round =>
        obtain ⟨q, hq, rfl, rfl, rfl, hl, hcol, hrow⟩ := hrel
        have HCOL := Lib.hid hcol
        have HROW := Lib.hid hrow
        have HLS := Lib.hid hl
        have hbe := hcol.below
        clear hcol hrow hl
        by_cases hqn : q < n
        · have hqi : (q : Int) < (n : Int) := by omega
          have CG := Lib.hid (l5Group_any _ Ao co n q T rs wr (HBG.out.below hbe) HRN.out hn hqn)
          obtain ⟨h0, hh0, hh1, hh2⟩ := grp_head (T := T) hqn
          have HH := Lib.hid (And.intro hh1 hh2)
          have hgl := grpI_len T q n
          have hgp := grpI_pos (T := T) hqn
          have HMM := Lib.hid (fun x (hx : x ∈ grpI T q n) => show 0 ≤ x ∧ x < (n : Int) from by
            obtain ⟨i, h1, _, rfl⟩ := grpI_mem.1 hx
            omega)
          obtain ⟨X, hX⟩ : ∃ X, X = grpI T q n := ⟨_, rfl⟩
          have HXE := Lib.hid hX
          rw [← hX] at CG hh0 hgl hgp HMM
          have HGB := Lib.hid (show goodB T n D q = (!D q && readyB T X D n) by unfold goodB; rw [hX])
          have HXH := Lib.hid (show X[0] = (h0 : Int) by rw [List.getElem?_eq_getElem hgp] at hh0; injection hh0)
          obtain ⟨dq, hdq⟩ : ∃ dq, dq = D q := ⟨_, rfl⟩
          have HDQ := Lib.hid hdq
          rw [← hdq] at HGB
          clear hX hh0 hh1 hh2 hdq
          go_upto_region 10 with (go_at_call 80; refine CG.out.mono ?_; rintro e w6 ⟨A6, c6, rfl, o6, b6⟩; have H6 := Lib.hid (And.intro o6 b6); clear o6 b6)
          have HC6 := Lib.hid (HCOL.out.on H6.out.2)
          have HR6 := Lib.hid (HROW.out.of_block (H6.out.2.block gd HROW.out.lt))
          have q0 : w6.cell? ⟨gd, q, none⟩ = some (.bool dq) := by rw [HR6.out.cell hqn, HDQ.out]
          obtain ⟨b6, o6, rfl, _, q1⟩ := RdInts.getG H6.out.1.rd hgp
          rw [HXH.out] at q1
          simp only [Nat.add_zero] at q1
          have hgpi : (0 : Int) < (X.length : Int) := by omega
          cases dq
          · by_cases he : h0 = q
            · subst he
              obtain ⟨rb, hrb⟩ : ∃ rb, rb = readyB T X D n := ⟨_, rfl⟩
              have CRD := Lib.hid (l5Ready_any _ Ao co n gd T D X rs (.slice (some ⟨b6, o6, none⟩) X.length c6) w6 ((HBG.out.below hbe).below H6.out.2) HRN.out hn H6.out.1.rd (by omega) HMM.out HR6.out)
              rw [← hrb] at CRD HGB
              clear hrb
              cases rb
              · have HN := Lib.hid (lt_step HLS.out (show goodB T n D h0 = false by rw [HGB.out]; rfl))
                go_wp2_with (go_at_call 81; refine CRD.out.mono ?_; rintro e w7 ⟨rfl, rfl⟩)
                go_roundw
                case rel => exact ⟨h0 + 1, by omega, by go_num, rfl, rfl, HN.out, HC6.out, HR6.out⟩
                case measure => simp [intOf]; omega
              · have HNN := Lib.hid (HNX.out h0 (pickG_is hqn (by rw [HGB.out]; rfl) HLS.out))
                have hgdl : gd < wr.heap.size := HROW.out.lt
                have hwz := H6.out.2.size
                have h4z := hbe.size
                go_upto_region 12 with (first
                  | (go_at_call 81; refine CRD.out.mono ?_; rintro e w7 ⟨rfl, rfl⟩)
                  | (at_builtin; go_loud (refine wpList_append_lies _ rfl (.tmp 47) (.tmp 49) 43 rfl w4.heap.size 23 i0 (.slice none 0 0) 1 24 Tryd.underlying43 hi0 hz0 hz1 hz2 rfl (by decide) (.slice A' ps.length c') ps.length av rfl ?c1 ⟨w6.heap.size, 0, none⟩ 1 1 [.slice (some ⟨b6, o6, none⟩) X.length c6] rfl rfl (news1 _ _ _) ?c2 (by omega) (by unfold maxLen; omega) (by omega) ?c3 _ rfl ?_)))
                case c1 => have h9 := HC6.out.row; rw [HPL.out] at h9; exact h9.alloc _
                case c2 => intro u hu; simp at hu; subst hu; rfl
                case c3 => simp; omega
                intro g3 cap3 w8 hown hgr _ _
                have hg' := grown_from_alloc hgr
                have hpush := HC6.out.push (xs := X) (xss' := (ps ++ [h0]).map fun q => grpI T q n) (u := .slice (some ⟨b6, o6, none⟩) X.length c6) (g := g3) (cap := cap3) (by rw [HXE.out]; simp) (Below.refl _ _) (H6.out.1.mono (by omega) (Nat.le_refl _)) (by rw [HPL.out]; exact hgr) (by rw [HPL.out]; exact hown)
                have HC8 := Lib.hid hpush.1
                have hrow6 := HC6.out.row
                rw [HPL.out] at hrow6
                have HR8 := Lib.hid (HR6.out.of_block (hg'.block gd HR6.out.lt fun e => by
                  obtain ⟨cs, hb, _, _⟩ := HR6.out
                  exact blk_ne_row hrow6 (show Blk w6 gd 4 cs from hb) (by decide) e.symm))
                have HX8 := Lib.hid ((H6.out.1.kept fun b hb => hg'.block b (H6.out.1.lt hb).2.2 (fun e => rowsI_ne hrow6 e.symm H6.out.1 hb)).mono (Nat.le_refl _) hg'.size)
                clear hpush hown hgr hg' hrow6 q0 q1
                go_wp2_with fail
                go_loopw [9] (fun x wy => ∃ k : Nat, k ≤ X.length ∧ x = .int .i64 k ∧ ColS w4.heap.size w4 wy ((ps ++ [h0]).map fun q => grpI T q n) (some ⟨g3, 0, none⟩) cap3 (av ++ [.slice (some ⟨b6, o6, none⟩) X.length c6]) ∧ wy.rowIs gd 4 n (fun j => .bool (D j || decide ((j : Int) ∈ X.take k))) ∧ Only gd (gd + 1) w8 wy) (fun x _ => X.length - (intOf x).toNat)
                case atStart => exact ⟨0, Nat.zero_le _, rfl, HC8.out, HR8.out.congr fun j _ => by simp, Only.refl _ _ _⟩
                case round =>
                  obtain ⟨k, hk, rfl, hcol, hrow, hon⟩ := hrel
                  have HC9 := Lib.hid hcol
                  have HR9 := Lib.hid hrow
                  have HON := Lib.hid hon
                  clear hcol hrow hon
                  by_cases hkl : k < X.length
                  · have ho9 := HX8.out.offG HON.out hgdl
                    obtain ⟨b9, o9, e9, _, q1⟩ := RdInts.getG ho9.rd hkl
                    injection e9 with e9
                    injection e9 with e9 e10 _
                    subst e9 e10
                    obtain ⟨z0, z1⟩ := HMM.out _ (List.getElem_mem hkl)
                    obtain ⟨y, hy⟩ : ∃ y : Nat, X[k] = (y : Int) := ⟨X[k].toNat, by omega⟩
                    rw [hy] at q1 z0 z1
                    have hyn : y < n := by omega
                    have c9 := HR9.out.cell hyn
                    have f9 := HR9.out.frozen y
                    have hki : (k : Int) < (X.length : Int) := by omega
                    have HNW := Lib.hid (show ColS w4.heap.size w4 (wr.setCell ⟨gd, y, none⟩ (.bool true)) ((ps ++ [h0]).map fun q => grpI T q n) (some ⟨g3, 0, none⟩) cap3 (av ++ [.slice (some ⟨b6, o6, none⟩) X.length c6]) ∧ (wr.setCell ⟨gd, y, none⟩ (.bool true)).rowIs gd 4 n (fun j => .bool (D j || decide ((j : Int) ∈ X.take (k + 1)))) ∧ Only gd (gd + 1) w8 (wr.setCell ⟨gd, y, none⟩ (.bool true)) from by
                      refine ⟨HC9.out.mark HR9.out (by rw [HGD.out]; exact Nat.le_refl _) _ _, (HR9.out.set y (.bool true)).congr fun j _ => ?_, HON.out.trans ((Only.refl _ _ _).setCell (by simp) _)⟩
                      rw [take_snoc X k hkl, hy]
                      by_cases e : j = y
                      · simp [e]
                      · have : ¬ ((j : Int) = (y : Int)) := by omega
                        simp [e, this])
                    clear hy z0 z1 ho9
                    go_wp2_with fail
                    go_roundw
                    case rel => exact ⟨k + 1, by omega, by go_num, HNW.out⟩
                    case measure => simp [intOf]; omega
                  · have hkx : k = X.length := by omega
                    have HRE := Lib.hid (show wr.rowIs gd 4 n (fun j => .bool ((runG T n (r + 1)).1 j)) from HR9.out.congr fun j hj => by
                      rw [HNN.out.1, hkx, List.take_length]
                      unfold addG
                      congr 2
                      rw [HXE.out]
                      cases e : inG T h0 j
                      · rw [decide_eq_false (fun hh => by have := (grpI_mem_nat.1 hh).2; rw [e] at this; cases this)]
                      · exact decide_eq_true (grpI_mem_nat.2 ⟨hj, e⟩))
                    have HRN2 := Lib.hid (show (runG T n (r + 1)).2 = ps ++ [h0] by rw [HNN.out.1])
                    have HCN2 := Lib.hid (show cntD n (runG T n (r + 1)).1 = cn + X.length by rw [HNN.out.2, HXE.out])
                    have hcn2 : cn + X.length ≤ n := by rw [← HCN2.out]; exact cntD_le n _
                    have HPL2 := Lib.hid (show (ps ++ [h0]).length = ps.length + 1 by simp)
                    clear hkx
                    go_wp2_with fail
                    go_roundw
                    case rel => exact ⟨r + 1, _, _, _, by rw [HCN2.out]; go_num, by rw [HCN2.out]; omega, by rw [HRN2.out, HPL2.out], by rw [HRN2.out]; exact HC9.out, HRE.out⟩
                    case measure => simp [intOf]; omega
            · have he0 : ((h0 : Int) != (q : Int)) = true := by rw [bne_iff_ne]; omega
              have he1 : ((h0 : Int) == (q : Int)) = false := by rw [beq_eq_false_iff_ne]; omega
              have HN := Lib.hid (lt_step HLS.out (good_head HTR.out HCL.out hqn HLS.out HH.out.1 HH.out.2 he))
              clear he
              go_wp2_with fail
              go_roundw
              case rel => exact ⟨q + 1, by omega, by go_num, rfl, rfl, HN.out, HC6.out, HR6.out⟩
              case measure => simp [intOf]; omega
          · have HN := Lib.hid (lt_step HLS.out (show goodB T n D q = false by rw [HGB.out]; rfl))
            go_wp2_with fail
            go_roundw
            case rel => exact ⟨q + 1, by omega, by go_num, rfl, rfl, HN.out, HC6.out, HR6.out⟩
            case measure => simp [intOf]; omega
        · exfalso
          obtain ⟨q', hq', hg'⟩ := HEX.out
          have := HLS.out q' (by omega)
          rw [hg'] at this
          cases this
    · have HE := Lib.hid (show ps = (runG T n n).2 by rw [HPS.out]; exact runG_end (by omega) (by rw [← HD.out, ← HCN.out]; omega))
      have HR := Lib.hid (HCOL.out.rows (Nat.le_refl _))
      have HBX := Lib.hid HCOL.out.below
      rw [hpl] at HR
      clear hpl
      go_wp2_with fail
      go_ret
      refine ⟨A', c', ?_, ?_, bthen HB4.out HBX.out⟩
      · have e : (groupsG T n).length = ps.length := by unfold groupsG; rw [← HE.out]; simp
        rw [e]
        rfl
      · have e : groupsG T n = ps.map fun q => grpI T q n := by unfold groupsG; rw [← HE.out]
        rw [e, List.length_map]
        exact HR.out.mono HB4.out.size (Nat.le_refl _)

/-- The groups of a program. -/
def groupsOfL (p : LProg) : List (List Int) := if progOk p = true then groupsG (fwM (askT p) p.1.length) p.1.length else []

set_option maxHeartbeats 1000000 in
set_option maxRecDepth 100000 in
theorem specGroupsOf_any (v : Value) (p : LProg) (w : World) (h : RdProg w w.heap.size v p) (hs : szP p ≤ 1048576) :
    Calls Tryd.prog 22 #[v] w fun e w' => ∃ A c, e = .returned (.slice A (groupsOfL p).length c) ∧ WkRows w' w.heap.size w'.heap.size (.slice A (groupsOfL p).length c) (groupsOfL p) ∧ Below w.heap.size w w' := by
  have HP := Lib.hid h
  obtain ⟨a, b, rfl, hA, hR⟩ := h
  obtain ⟨A, c, rfl, hcA, _⟩ := hA
  obtain ⟨A2, c2, rfl, hcR, _⟩ := hR
  obtain ⟨po, hpo⟩ : ∃ po, po = progOk p := ⟨_, rfl⟩
  have HPO := Lib.hid hpo
  obtain ⟨R, hRR⟩ : ∃ R, R = groupsOfL p := ⟨_, rfl⟩
  have HRR := Lib.hid hRR
  rw [← hRR]
  obtain ⟨n, hn⟩ : ∃ n, n = p.1.length := ⟨_, rfl⟩
  have HNE := Lib.hid hn
  rw [← hn] at hcA ⊢
  clear hpo hRR hn
  go_enter Tryd.func22, Tryd.ntmps22
  go_upto_region 1 with fail
  obtain ⟨w1, hw1⟩ : ∃ w1, w1 = w.alloc (Obj.cells #[Value.slice A n c, Value.slice A2 p.2.length c2] 26) := ⟨_, rfl⟩
  have X1 : Blk w1 w.heap.size 26 #[.slice A n c, .slice A2 p.2.length c2] := by rw [hw1]; exact Blk.new _ _ _
  have B1 : Below w.heap.size w w1 := by rw [hw1]; exact below1 _ _
  rw [← hw1]
  clear hw1
  have x0 : w1.cell? ⟨w.heap.size, 0, none⟩ = some (.slice A n c) := X1.cell 0
  have x1 : w1.cell? ⟨w.heap.size, 1, none⟩ = some (.slice A2 p.2.length c2) := X1.cell 1
  have HX1 := Lib.hid X1
  have CP := Lib.hid ((specProgramOk_any _ p w1 (HP.out.on B1) hs).mono fun e w' (hh : e = .returned (.bool (progOk p)) ∧ Below w1.heap.size w1 w') => (⟨by rw [hh.1, HPO.out], hh.2⟩ : e = .returned (.bool po) ∧ Below w1.heap.size w1 w'))
  rw [← HNE.out] at CP
  clear X1
  cases po
  · have HE := Lib.hid (show R = [] by rw [HRR.out]; unfold groupsOfL; rw [if_neg (by rw [← HPO.out]; decide)])
    go_wp2_with (go_at_call 13; refine CP.out.mono ?_; rintro e w2 ⟨rfl, b2⟩; have B2 := Lib.hid (bthen B1 b2); clear b2)
    go_ret
    rw [HE.out]
    exact ⟨none, 0, rfl, ⟨[], ⟨rfl, fun i h => absurd h (by simp)⟩, World.ownsRow_nil _ _ _ _, fun g hg => by cases hg⟩, B2.out⟩
  · obtain ⟨hn24, hf⟩ := asksOf_fits HPO.out.symm
    have HL := Lib.hid (fun W (hW : Below w.heap.size w W) => l5Groups_any _ p W (HP.out.on hW) hs hn24 hf)
    have HE := Lib.hid (show groupsG (fwM (askT p) p.1.length) p.1.length = R by rw [HRR.out]; unfold groupsOfL; rw [if_pos HPO.out.symm])
    rw [HE.out, ← HNE.out] at HL
    clear hf
    go_wp2_with (first
      | (go_at_call 13; refine CP.out.mono ?_; rintro e w2 ⟨rfl, b2⟩; have B2 := Lib.hid (bthen B1 b2); have HX2 := Lib.hid (HX1.out.below b2 HX1.out.lt); have x20 : w2.cell? ⟨w.heap.size, 0, none⟩ = some (.slice A n c) := HX2.out.cell 0; have x21 : w2.cell? ⟨w.heap.size, 1, none⟩ = some (.slice A2 p.2.length c2) := HX2.out.cell 1; clear b2)
      | (go_at_call 56; refine (HL.out _ B2.out).mono ?_; rintro e w4 ⟨A4, c4, rfl, o4, b4⟩; have H4 := Lib.hid (And.intro o4 b4); clear o4 b4))
    go_ret
    exact ⟨_, _, rfl, H4.out.1.mono B2.out.size (Nat.le_refl _), bthen B2.out H4.out.2⟩

end Go.Proofs.YtokmmloakahkhaaDoor
/-
  The groups of a program: each predicate stands in one, behind all that it asks. Plain mathematics.
-/
namespace Go.Proofs.YtokmmloakahkhaaDoor
open Go.RowKit

section
variable {T : Nat → Nat → Bool} {n : Nat}
/-- What holds behind some rounds. -/
structure RunOk (T : Nat → Nat → Bool) (n : Nat) (D : Nat → Bool) (ps : List Nat) : Prop where
  lim : ∀ p ∈ ps, p < n
  told : ∀ q, q < n → (D q = true ↔ ∃ p ∈ ps, inG T p q = true)
  apart : ∀ (i j : Nat) (hi : i < ps.length) (hj : j < ps.length), i < j → inG T ps[i] ps[j] = false
  order : ∀ (j : Nat) (hj : j < ps.length) (i k : Nat), i < n → k < n → inG T ps[j] i = true → T i k = true → ∃ (j2 : Nat) (h2 : j2 < ps.length), j2 ≤ j ∧ inG T ps[j2] k = true
  many : cntD n D = (ps.map fun p => (grpI T p n).length).sum
theorem runOk (hT : TrT T n) : ∀ r, RunOk T n (runG T n r).1 (runG T n r).2
  | 0 => ⟨fun p hp => (by cases hp), fun q _ => by simp [runG], fun i j hi => by simp [runG] at hi, fun j hj => by simp [runG] at hj, by simp [runG, cntD]⟩
  | r + 1 => by
    have ih := runOk hT r
    cases e : pickG T n (runG T n r).1 with
    | none =>
      have e2 : runG T n (r + 1) = runG T n r := by rw [runG, e]
      rw [e2]
      exact ih
    | some p =>
      obtain ⟨hp, hg, _⟩ := pickG_some e
      rw [runG_next e]
      obtain ⟨D, ps, hD⟩ : ∃ D ps, runG T n r = (D, ps) := ⟨_, _, rfl⟩
      have hc := runG_cl hT r
      rw [hD] at ih hg hc ⊢
      simp only at ih hg hc ⊢
      have hg2 : D p = false ∧ readyB T (grpI T p n) D n = true := by simpa [goodB] using hg
      have hlen : (ps ++ [p]).length = ps.length + 1 := by simp
      refine ⟨fun q hq => ?_, fun q hq => ?_, fun i j hi hj hij => ?_, fun j hj i k hi hk hji hik => ?_, ?_⟩
      · rcases List.mem_append.1 hq with h | h
        · exact ih.lim q h
        · rw [List.mem_singleton.1 h]; exact hp
      · unfold addG
        rw [Bool.or_eq_true, ih.told q hq]
        constructor
        · rintro (⟨x, hx, h⟩ | h)
          · exact ⟨x, List.mem_append_left _ hx, h⟩
          · exact ⟨p, by simp, h⟩
        · rintro ⟨x, hx, h⟩
          rcases List.mem_append.1 hx with h1 | h1
          · exact .inl ⟨x, h1, h⟩
          · rw [List.mem_singleton.1 h1] at h; exact .inr h
      · by_cases hjl : j < ps.length
        · rw [List.getElem_append_left hjl, List.getElem_append_left (by omega)]
          exact ih.apart i j (by omega) hjl hij
        · have hje : j = ps.length := by omega
          subst hje
          rw [List.getElem_append_left (by omega), List.getElem_concat_length rfl]
          cases e3 : inG T ps[i] p with
          | false => rfl
          | true =>
            have := (ih.told p hp).2 ⟨ps[i], List.getElem_mem _, e3⟩
            rw [hg2.1] at this
            cases this
      · by_cases hjl : j < ps.length
        · rw [List.getElem_append_left hjl] at hji
          obtain ⟨j2, h2, h3, h4⟩ := ih.order j hjl i k hi hk hji hik
          exact ⟨j2, by omega, h3, by rw [List.getElem_append_left h2]; exact h4⟩
        · have hje : j = ps.length := by omega
          subst hje
          rw [List.getElem_concat_length rfl] at hji
          rcases ready_iff.1 hg2.2 i hi hji k hk hik with h | h
          · obtain ⟨x, hx, h1⟩ := (ih.told k hk).1 h
            obtain ⟨j2, h2, rfl⟩ := List.getElem_of_mem hx
            exact ⟨j2, by omega, by omega, by rw [List.getElem_append_left h2]; exact h1⟩
          · exact ⟨ps.length, by omega, Nat.le_refl _, by rw [List.getElem_concat_length rfl]; exact h⟩
      · rw [addG_cnt hc hp hg2.1, ih.many, List.map_append, List.sum_append]
        simp
theorem run_cnt (hT : TrT T n) : ∀ r, Nat.min r n ≤ cntD n (runG T n r).1
  | 0 => by simp
  | r + 1 => by
    have ih := run_cnt hT r
    have hc := runG_cl hT r
    by_cases hlt : cntD n (runG T n r).1 < n
    · obtain ⟨q, hq, hd⟩ := cntD_lt hlt
      obtain ⟨p, hp, hg⟩ := good_ex hT hq hd
      cases e : pickG T n (runG T n r).1 with
      | none =>
        unfold pickG at e
        rw [List.find?_eq_none] at e
        exact absurd hg (e p (List.mem_range.2 hp))
      | some p2 =>
        obtain ⟨hp2, hg2, _⟩ := pickG_some e
        rw [runG_next e]
        have hdd : (runG T n r).1 p2 = false := by
          unfold goodB at hg2
          simp at hg2
          exact hg2.1
        show _ ≤ cntD n (addG T (runG T n r).1 p2)
        rw [addG_cnt hc hp2 hdd]
        have := grpI_pos (T := T) hp2
        have h1 : Nat.min (r + 1) n ≤ Nat.min r n + 1 := by simp only [Nat.min_def]; split <;> split <;> omega
        omega
    · have h1 : cntD n (runG T n r).1 ≤ cntD n (runG T n (r + 1)).1 := by
        cases e : pickG T n (runG T n r).1 with
        | none =>
          have e2 : runG T n (r + 1) = runG T n r := by rw [runG, e]
          rw [e2]
          exact Nat.le_refl _
        | some p2 =>
          obtain ⟨hp2, hg2, _⟩ := pickG_some e
          rw [runG_next e]
          have hdd : (runG T n r).1 p2 = false := by
            unfold goodB at hg2
            simp at hg2
            exact hg2.1
          show _ ≤ cntD n (addG T (runG T n r).1 p2)
          rw [addG_cnt hc hp2 hdd]
          omega
      have h2 : Nat.min (r + 1) n ≤ n := Nat.min_le_right _ _
      omega
theorem run_all_told (hT : TrT T n) : cntD n (runG T n n).1 = n := by
  have h1 := run_cnt hT n
  have h2 := cntD_le n (runG T n n).1
  have h3 : Nat.min n n = n := Nat.min_self n
  omega
end

/-- What stands of a program's groups. -/
structure GroupsAre (p : LProg) (G : List (List Int)) : Prop where
  lim : ∀ g ∈ G, ∀ x ∈ g, 0 ≤ x ∧ x.toNat < p.1.length
  one : ∀ (i j : Nat) (hi : i < G.length) (hj : j < G.length), ∀ x ∈ G[i], x ∈ G[j] → i = j
  all : ∀ q : Nat, q < p.1.length → ∃ (i : Nat) (hi : i < G.length), (q : Int) ∈ G[i]
  many : (G.map List.length).sum = p.1.length
  order : ∀ (i j : Nat) (hi : i < G.length) (hj : j < G.length) (a b : Nat), (a : Int) ∈ G[i] → (b : Int) ∈ G[j] → fwM (askT p) p.1.length a b = true → j ≤ i
  same : ∀ (i j : Nat) (hi : i < G.length) (hj : j < G.length) (a b : Nat), (a : Int) ∈ G[i] → (b : Int) ∈ G[j] → a ≠ b → (i = j ↔ fwM (askT p) p.1.length a b = true ∧ fwM (askT p) p.1.length b a = true)

theorem groups_are {p : LProg} (h : progOk p = true) : GroupsAre p (groupsOfL p) := by
  obtain ⟨n, hn⟩ : ∃ n, n = p.1.length := ⟨_, rfl⟩
  obtain ⟨T, hTT⟩ : ∃ T, T = fwM (askT p) p.1.length := ⟨_, rfl⟩
  have hT : TrT T n := by rw [hTT, hn]; exact trT_fw p _
  have hG : groupsOfL p = (runG T n n).2.map fun q => grpI T q n := by
    unfold groupsOfL
    rw [if_pos h, ← hTT, ← hn]
    rfl
  have hR := runOk hT n
  have hA := run_all_told hT
  obtain ⟨D, ps, hD⟩ : ∃ D ps, runG T n n = (D, ps) := ⟨_, _, rfl⟩
  rw [hD] at hG hR hA
  simp only at hG hR hA
  rw [hG]
  have hat : ∀ (i : Nat) (hi : i < (ps.map fun q => grpI T q n).length), (ps.map fun q => grpI T q n)[i] = grpI T (ps[i]'(by simpa using hi)) n := fun i hi => by simp
  have hone : ∀ (i j : Nat) (hi : i < ps.length) (hj : j < ps.length) (q : Nat), q < n → inG T ps[i] q = true → inG T ps[j] q = true → i = j := fun i j hi hj q hq h1 h2 => by
    have hs := inG_trans hT hq h1 (inG_symm h2)
    rcases Nat.lt_trichotomy i j with h3 | h3 | h3
    · have := hR.apart i j hi hj h3
      rw [hs] at this; cases this
    · exact h3
    · have := hR.apart j i hj hi h3
      rw [inG_symm hs] at this; cases this
  refine ⟨fun g hg x hx => ?_, fun i j hi hj x h1 h2 => ?_, fun q hq => ?_, ?_, fun i j hi hj a b h1 h2 h3 => ?_, fun i j hi hj a b h1 h2 hne => ?_⟩
  · obtain ⟨q, hq, rfl⟩ := List.mem_map.1 hg
    obtain ⟨i, hi, _, rfl⟩ := grpI_mem.1 hx
    exact ⟨Int.natCast_nonneg i, by simp; omega⟩
  · rw [hat] at h1 h2
    obtain ⟨q, hq, h3, rfl⟩ := grpI_mem.1 h1
    have h4 := (grpI_mem_nat.1 h2).2
    exact hone i j (by simpa using hi) (by simpa using hj) q hq h3 h4
  · have hd := cntD_all hA q (by omega)
    obtain ⟨x, hx, h1⟩ := (hR.told q (by omega)).1 hd
    obtain ⟨i, hi, rfl⟩ := List.getElem_of_mem hx
    refine ⟨i, by simpa using hi, ?_⟩
    rw [hat]
    exact grpI_mem_nat.2 ⟨by omega, h1⟩
  · rw [List.map_map]
    have := hR.many
    rw [hA] at this
    rw [← hn]
    exact this.symm
  · rw [hat] at h1 h2
    obtain ⟨ha, ha2⟩ := grpI_mem_nat.1 h1
    obtain ⟨hb, hb2⟩ := grpI_mem_nat.1 h2
    rw [← hTT] at h3
    obtain ⟨j2, hj2, h4, h5⟩ := hR.order i (by simpa using hi) a b ha hb ha2 h3
    have := hone j2 j hj2 (by simpa using hj) b hb h5 hb2
    omega
  · rw [hat] at h1 h2
    obtain ⟨ha, ha2⟩ := grpI_mem_nat.1 h1
    obtain ⟨hb, hb2⟩ := grpI_mem_nat.1 h2
    rw [← hTT]
    constructor
    · rintro rfl
      have := inG_trans hT (hR.lim _ (List.getElem_mem (by simpa using hi))) (inG_symm ha2) hb2
      rcases inG_iff.1 this with h5 | ⟨h5, h6⟩
      · exact absurd h5.symm hne
      · exact ⟨h6, h5⟩
    · rintro ⟨h5, h6⟩
      have : inG T a b = true := inG_iff.2 (.inr ⟨h6, h5⟩)
      exact hone i j (by simpa using hi) (by simpa using hj) b hb (inG_trans hT ha ha2 this) hb2
theorem groups_no {p : LProg} (h : progOk p = false) : groupsOfL p = [] := by
  unfold groupsOfL
  rw [if_neg (by rw [h]; decide)]
theorem rec_self {p : LProg} (h : progOk p = true) {i : Nat} (hi : i < p.1.length) : recL p (i : Int) = fwM (askT p) p.1.length i i := by
  unfold recL
  rw [h]
  have h1 : decide ((0 : Int) ≤ (i : Int)) = true := by simp
  have h2 : decide ((i : Int) < (p.1.length : Int)) = true := by simp; omega
  rw [h1, h2, Bool.true_and, Bool.true_and, Bool.true_and, Int.toNat_natCast]
  exact reach_fw h hi i

end Go.Proofs.YtokmmloakahkhaaDoor
/-
  The groups as the program has them, in words, and their order: plain mathematics. No walk.
-/
namespace Go.Proofs.YtokmmloakahkhaaDoor
open Go.RowKit

/-- Words of groups and of what is reached fit a table. -/
structure WordsG (T : Nat → Nat → Bool) (n : Nat) (G Rw : Nat → Nat) (gs : List Nat) : Prop where
  tr : TrT T n
  grp : ∀ p, p < n → ∀ q, has (G p) q ↔ q < n ∧ inG T p q = true
  rch : ∀ p, p < n → ∀ q, has (Rw p) q ↔ q < n ∧ T p q = true
  all : ∀ p, p < n → G p ∈ gs
  own : ∀ g ∈ gs, ∃ q, q < n ∧ g = G q
  nodup : gs.Nodup
section
variable {T : Nat → Nat → Bool} {n p q i told : Nat} {D : Nat → Bool} {G Rw : Nat → Nat} {gs : List Nat}
theorem word_zero {x : Nat} : x = 0 ↔ ∀ j, ¬ has x j := by
  constructor
  · rintro rfl j
    simp [has]
  · intro h
    refine Nat.eq_of_testBit_eq fun j => ?_
    have := h j
    unfold has at this
    simp only [Nat.zero_testBit]
    cases e : x.testBit j
    · rfl
    · exact absurd e this
/-- What the program asks of a predicate. -/
def askW (G Rw : Nat → Nat) (told i : Nat) : Bool := (G i &&& told == 0) && (lessN (lessN (Rw i) (G i)) told == 0)
theorem askW_is (h : WordsG T n G Rw gs) (hc : ClG T n D) (ht : ∀ j, has told j ↔ j < n ∧ D j = true) (hi : i < n) : askW G Rw told i = goodB T n D i := by
  have h1 : (G i &&& told == 0) = !D i := by
    cases e : D i
    · show (G i &&& told == 0) = true
      rw [beq_iff_eq, word_zero]
      intro j hj
      unfold has at hj
      rw [Nat.testBit_and, Bool.and_eq_true] at hj
      obtain ⟨h2, h3⟩ := (h.grp i hi j).1 hj.1
      have h4 := ((ht j).1 hj.2).2
      rw [← hc i j hi h2 h3, e] at h4
      cases h4
    · show (G i &&& told == 0) = false
      rw [beq_eq_false_iff_ne]
      intro h0
      refine (word_zero.1 h0) i ?_
      unfold has
      rw [Nat.testBit_and, Bool.and_eq_true]
      exact ⟨(h.grp i hi i).2 ⟨hi, inG_refl T i⟩, (ht i).2 ⟨hi, e⟩⟩
  have h2 : (lessN (lessN (Rw i) (G i)) told == 0) = readyB T (grpI T i n) D n := by
    have key : lessN (lessN (Rw i) (G i)) told = 0 ↔ readyB T (grpI T i n) D n = true := by
      rw [word_zero, ready_iff]
      constructor
      · intro h0 m hm hg k hk hmk
        have hik : T i k = true := by
          rcases inG_iff.1 hg with rfl | ⟨_, a2⟩
          · exact hmk
          · exact h.tr i m k hm a2 hmk
        have h3 := h0 k
        rw [has_less, has_less, h.rch i hi, h.grp i hi, ht k] at h3
        cases e1 : D k
        · cases e2 : inG T i k
          · exact absurd ⟨⟨⟨hk, hik⟩, fun h4 => by rw [e2] at h4; exact absurd h4.2 (by decide)⟩, fun h4 => by rw [e1] at h4; exact absurd h4.2 (by decide)⟩ h3
          · exact .inr rfl
        · exact .inl rfl
      · intro h0 k hk
        rw [has_less, has_less, h.rch i hi, h.grp i hi, ht k] at hk
        obtain ⟨⟨⟨h3, h4⟩, h5⟩, h6⟩ := hk
        rcases h0 i hi (inG_refl T i) k h3 h4 with h7 | h7
        · exact h6 ⟨h3, h7⟩
        · exact h5 ⟨h3, h7⟩
    cases e : readyB T (grpI T i n) D n
    · rw [beq_eq_false_iff_ne]
      intro h0
      have := key.1 h0
      rw [e] at this
      cases this
    · rw [beq_iff_eq]
      exact key.2 e
  unfold askW goodB
  rw [h1, h2]

/-- The told groups among all. -/
def leftG (D : Nat → Bool) (G : Nat → Nat) (n : Nat) (gs : List Nat) : Nat := (gs.filter fun g => (List.range n).any fun q => (G q == g) && !D q).length
theorem grp_eq (h : WordsG T n G Rw gs) (hp : p < n) (hq : q < n) : G p = G q ↔ inG T p q = true := by
  constructor
  · intro e
    have := (h.grp q hq q).2 ⟨hq, inG_refl T q⟩
    rw [← e] at this
    exact ((h.grp p hp q).1 this).2
  · intro e
    refine Nat.eq_of_testBit_eq fun j => ?_
    have h1 := h.grp p hp j
    have h2 := h.grp q hq j
    have h3 := inG_same h.tr hp hq e j
    unfold has at h1 h2
    cases e1 : (G p).testBit j <;> cases e2 : (G q).testBit j <;> simp_all
theorem filter_one {gs : List Nat} {g0 : Nat} (hn : gs.Nodup) (h0 : g0 ∈ gs) : (gs.filter fun g => decide (g = g0)).length = 1 := by
  induction gs with
  | nil => cases h0
  | cons x l ih =>
    rw [List.nodup_cons] at hn
    by_cases e : x = g0
    · subst e
      have : l.filter (fun g => decide (g = x)) = [] := List.filter_eq_nil_iff.2 fun y hy h => hn.1 (by have := of_decide_eq_true h; rw [← this]; exact hy)
      simp [this]
    · have h1 : g0 ∈ l := by
        rcases List.mem_cons.1 h0 with h2 | h2
        · exact absurd h2.symm e
        · exact h2
      have := ih hn.2 h1
      simpa [List.filter_cons, e] using this
theorem left_add (h : WordsG T n G Rw gs) (hp : p < n) (hd : D p = false) : leftG D G n gs = leftG (addG T D p) G n gs + 1 := by
  have e : leftG D G n gs = (gs.filter fun g => (List.range n).any (fun q => (G q == g) && !addG T D p q) || decide (g = G p)).length := by
    unfold leftG
    congr 1
    refine List.filter_congr fun g hg => ?_
    obtain ⟨q0, hq0, rfl⟩ := h.own g hg
    rw [Bool.eq_iff_iff, Bool.or_eq_true, List.any_eq_true, List.any_eq_true, decide_eq_true_eq]
    constructor
    · rintro ⟨q, hq, h1⟩
      rw [Bool.and_eq_true, beq_iff_eq] at h1
      by_cases e2 : G q0 = G p
      · exact .inr e2
      · refine .inl ⟨q, hq, ?_⟩
        rw [Bool.and_eq_true, beq_iff_eq]
        refine ⟨h1.1, ?_⟩
        unfold addG
        have h3 : inG T p q = false := by
          cases e3 : inG T p q
          · rfl
          · exact absurd (by rw [← h1.1]; exact ((grp_eq h hp (List.mem_range.1 hq)).2 e3).symm) e2
        have h4 := h1.2
        simp only [Bool.not_eq_true'] at h4
        rw [h4, h3]
        rfl
    · rintro (⟨q, hq, h1⟩ | h1)
      · rw [Bool.and_eq_true, beq_iff_eq] at h1
        refine ⟨q, hq, ?_⟩
        rw [Bool.and_eq_true, beq_iff_eq]
        refine ⟨h1.1, ?_⟩
        have h2 := h1.2
        unfold addG at h2
        cases e1 : D q
        · rfl
        · rw [e1] at h2
          cases h2
      · exact ⟨p, List.mem_range.2 hp, by rw [h1, hd]; simp⟩
  rw [e, cnt_two]
  · rw [filter_one h.nodup (h.all p hp)]
    rfl
  · intro g _ h1
    rw [List.any_eq_true] at h1
    obtain ⟨q, hq, h2⟩ := h1
    rw [Bool.and_eq_true, beq_iff_eq] at h2
    rw [decide_eq_false_iff_not]
    intro h3
    have h4 := (grp_eq h hp (List.mem_range.1 hq)).1 (by rw [h2.1, h3])
    have h5 := h2.2
    unfold addG at h5
    rw [h4, Bool.or_true] at h5
    cases h5
theorem left_start (h : WordsG T n G Rw gs) : leftG (fun _ => false) G n gs = gs.length := by
  unfold leftG
  rw [List.filter_eq_self.2]
  intro g hg
  obtain ⟨q, hq, rfl⟩ := h.own g hg
  rw [List.any_eq_true]
  exact ⟨q, List.mem_range.2 hq, by simp⟩
theorem left_pos (hl : 0 < leftG D G n gs) : ∃ q, q < n ∧ D q = false := by
  unfold leftG at hl
  obtain ⟨g, hg⟩ := List.exists_mem_of_length_pos hl
  have h1 := (List.mem_filter.1 hg).2
  rw [List.any_eq_true] at h1
  obtain ⟨q, hq, h2⟩ := h1
  rw [Bool.and_eq_true] at h2
  exact ⟨q, List.mem_range.1 hq, by simpa using h2.2⟩
theorem left_none (h : WordsG T n G Rw gs) (hl : leftG D G n gs = 0) : ∀ q, q < n → D q = true := fun q hq => by
  cases e : D q
  · unfold leftG at hl
    have h1 := List.eq_nil_of_length_eq_zero hl
    have h2 : G q ∈ gs.filter fun g => (List.range n).any fun q => (G q == g) && !D q := List.mem_filter.2 ⟨h.all q hq, by rw [List.any_eq_true]; exact ⟨q, List.mem_range.2 hq, by rw [e]; simp⟩⟩
    rw [h1] at h2
    cases h2
  · rfl
theorem left_run (h : WordsG T n G Rw gs) : ∀ r, r ≤ gs.length → leftG (runG T n r).1 G n gs = gs.length - r
  | 0, _ => left_start h
  | r + 1, hr => by
    have ih := left_run h r (by omega)
    obtain ⟨q, hq, hd⟩ := left_pos (n := n) (G := G) (gs := gs) (D := (runG T n r).1) (by omega)
    obtain ⟨p, hp, hg⟩ := good_ex h.tr hq hd
    cases e : pickG T n (runG T n r).1 with
    | none =>
      unfold pickG at e
      rw [List.find?_eq_none] at e
      exact absurd hg (e p (List.mem_range.2 hp))
    | some p' =>
      obtain ⟨h1, h2, _⟩ := pickG_some e
      rw [runG_next e]
      show leftG (addG T (runG T n r).1 p') G n gs = _
      have hd' : (runG T n r).1 p' = false := by
        unfold goodB at h2
        rw [Bool.and_eq_true] at h2
        simpa using h2.1
      have := left_add h h1 hd'
      omega
/-- As long as groups are left there is a next one. -/
theorem pick_run (h : WordsG T n G Rw gs) {r : Nat} (hr : r < gs.length) : ∃ p, pickG T n (runG T n r).1 = some p := by
  have h1 := left_run h r (by omega)
  obtain ⟨q, hq, hd⟩ := left_pos (n := n) (G := G) (gs := gs) (D := (runG T n r).1) (by omega)
  obtain ⟨p, hp, hg⟩ := good_ex h.tr hq hd
  cases e : pickG T n (runG T n r).1 with
  | none =>
    unfold pickG at e
    rw [List.find?_eq_none] at e
    exact absurd hg (e p (List.mem_range.2 hp))
  | some p' => exact ⟨p', rfl⟩
theorem run_all (h : WordsG T n G Rw gs) (hl : gs.length ≤ n) : (runG T n gs.length).2 = (runG T n n).2 := by
  have h1 := left_none h (D := (runG T n gs.length).1) (by have := left_run h gs.length (Nat.le_refl _); omega)
  have h2 := runG_stay h1 (n - gs.length)
  rw [show gs.length + (n - gs.length) = n by omega] at h2
  rw [h2]
end

end Go.Proofs.YtokmmloakahkhaaDoor
/-
  A row of slices that make laid and a loop fills (as FillS, for seats without Solutions).
-/
namespace Go.Proofs.YtokmmloakahkhaaDoor
open Go.RowKit

/-- A row of slices that make laid and a loop fills: k of them stand. -/
structure FillG (g n : Nat) (wr : World) (xss : List (List Int)) (av : List Value) : Prop where
  args : OwnArgs wr (g + 1) wr.heap.size av xss
  row : ∃ cur, wr.heap[g]? = some (.cells cur 23 (0, 0)) ∧ cur.size = n ∧ cur.toList.take xss.length = av
theorem FillG.start (w : World) (cs : Array Value) (n : Nat) (h : cs.size = n) : FillG w.heap.size n (w.alloc (.cells cs 23)) [] [] :=
  ⟨OwnArgs.nil, cs, heap_alloc_new w _, h, by simp⟩
theorem FillG.lt {g n : Nat} {wr : World} {xss : List (List Int)} {av : List Value} (h : FillG g n wr xss av) : g < wr.heap.size := by
  obtain ⟨_, cur, hg, _⟩ := h
  exact Blk.lt hg
theorem FillG.on {g n : Nat} {wr w4 : World} {xss : List (List Int)} {av : List Value} (h : FillG g n wr xss av) (hb : Below wr.heap.size wr w4) : FillG g n w4 xss av := by
  have hlt := h.lt
  obtain ⟨ha, cur, hg, h1, h2⟩ := h
  exact ⟨(ha.below hb (Nat.le_refl _)).mono (Nat.le_refl _) hb.size, cur, (hb.block g hlt).trans hg, h1, h2⟩
theorem FillG.free {g n : Nat} {wr : World} {xss : List (List Int)} {av : List Value} (h : FillG g n wr xss av) {k : Nat} (hk : k < n) : (∃ x, wr.cell? ⟨g, k, none⟩ = some x) ∧ wr.frozen? ⟨g, k, none⟩ = false := by
  obtain ⟨_, cur, hg, h1, _⟩ := h
  exact ⟨⟨cur[k]'(by omega), by rw [Blk.cell hg, Array.getElem?_eq_getElem]⟩, Blk.frozen hg k⟩
theorem FillG.step {g n k : Nat} {wr w4 : World} {xss : List (List Int)} {xs : List Int} {av : List Value} {u : Value} (h : FillG g n wr xss av) (hk : xss.length = k) (hkn : k < n) (hb : Below wr.heap.size wr w4) (hu : OwnInts w4 wr.heap.size w4.heap.size u xs) :
    FillG g n (w4.setCell ⟨g, k, none⟩ u) (xss ++ [xs]) (av ++ [u]) := by
  have hlt := h.lt
  have hl := h.args.len
  have h4 := (h.args.below hb (Nat.le_refl _)).snoc hu (by omega) hb.size
  obtain ⟨_, cur, hg, h1, h2⟩ := h
  have hg4 : Blk w4 g 23 cur := (hb.block g hlt).trans hg
  refine ⟨by simpa using h4.set (p := ⟨g, k, none⟩) (.inl (Nat.lt_succ_self g)) u, _, hg4.set_ k u, by simpa using h1, ?_⟩
  have hlen : (xss ++ [xs]).length = k + 1 := by simp [hk]
  rw [hlen, Array.toList_setIfInBounds]
  rw [hk] at h2
  apply List.ext_getElem?
  intro j
  by_cases hj : j < k
  · rw [List.getElem?_take_of_lt (by omega), List.getElem?_set_ne (by omega), List.getElem?_append_left (by omega), ← h2, List.getElem?_take_of_lt hj]
  · by_cases hj2 : j = k
    · subst hj2
      rw [List.getElem?_take_of_lt (by omega), List.getElem?_set_self (by simp; omega), List.getElem?_append_right (by omega)]
      simp [hl, hk]
    · rw [List.getElem?_eq_none (by simp; omega), List.getElem?_eq_none (by simp; omega)]
theorem FillG.done {g n : Nat} {wr : World} {xss : List (List Int)} {av : List Value} (h : FillG g n wr xss av) (hn : xss.length = n) (hm : n ≤ maxLen) : OwnRows wr g wr.heap.size (.slice (some ⟨g, 0, none⟩) xss.length n) xss := by
  have hlt := h.lt
  have hl := h.args.len
  obtain ⟨ha, cur, hg, h1, h2⟩ := h
  exact ⟨av, ha.mono (by omega) (Nat.le_refl _), ⟨by omega, .inr ⟨g, n, cur, rfl, Nat.le_refl _, hg, by omega, hm, by omega, by rw [Nat.mul_one]; exact h2⟩⟩, fun g' hg' => by simp [Value.ownBlock] at hg'; omega⟩


end Go.Proofs.YtokmmloakahkhaaDoor
/-
  Rows of slices of integers as results of laws: compared, marked, held.
-/
namespace Go.Proofs.YtokmmloakahkhaaDoor
open Go.RowKit

def totSS (xss : List (List Int)) : Nat := (xss.map List.length).sum
def szRows (xss : List (List Int)) : Nat := xss.length + totSS xss
theorem totSS_at : ∀ (xss : List (List Int)) (k : Nat) (h : k < xss.length), xss[k].length ≤ totSS xss
  | x :: xss, 0, _ => by simp [totSS]
  | x :: xss, k + 1, h => by
    have := totSS_at xss k (by simpa using h)
    simp only [totSS, List.map_cons, List.sum_cons, List.getElem_cons_succ] at this ⊢
    omega
theorem totSS_take (xss : List (List Int)) (k : Nat) (h : k < xss.length) : totSS (xss.take (k + 1)) = totSS (xss.take k) + xss[k].length := by
  unfold totSS
  rw [take_snoc xss k h, List.map_append, List.sum_append]
  simp
theorem totSS_take_le : ∀ (xss : List (List Int)) (k : Nat), totSS (xss.take k) ≤ totSS xss
  | [], k => by simp
  | x :: xss, 0 => by simp [totSS]
  | x :: xss, k + 1 => by
    have := totSS_take_le xss k
    simp only [totSS, List.take_succ_cons, List.map_cons, List.sum_cons] at this ⊢
    omega
theorem totSS_few {xss : List (List Int)} {n m : Nat} (hn : xss.length ≤ n) (hm : ∀ x ∈ xss, x.length ≤ m) : totSS xss ≤ n * m := by
  have key : ∀ (l : List (List Int)), (∀ x ∈ l, x.length ≤ m) → totSS l ≤ l.length * m := by
    intro l
    induction l with
    | nil => intro _; simp [totSS]
    | cons x l ih =>
      intro h
      have h1 := h x List.mem_cons_self
      have h2 := ih fun y hy => h y (List.mem_cons_of_mem _ hy)
      simp only [totSS, List.map_cons, List.sum_cons, List.length_cons, Nat.add_mul] at h2 ⊢
      omega
  exact Nat.le_trans (key xss hm) (Nat.mul_le_mul_right m hn)

set_option maxHeartbeats 1000000 in
set_option maxRecDepth 100000 in
theorem eqIntSS_any (va vb : Value) (xs ys : List (List Int)) (w : World) (ha : RdRows w w.heap.size va xs) (hb : RdRows w w.heap.size vb ys) (hxy : xs = ys) (h1 : szRows xs ≤ 1048576) :
    Calls Tryd.prog 33 #[va, vb] w fun e w' => e = .returned (.bool (decide (xs = ys))) ∧ Below w.heap.size w w' := by
  subst hxy
  rw [decide_eq_true (rfl : xs = xs)]
  unfold szRows at h1
  have HA := Lib.hid ha
  have HB := Lib.hid hb
  obtain ⟨A, c, rfl, hc, _⟩ := ha
  obtain ⟨A2, c2, rfl, hc2, _⟩ := hb
  have hl1 : ((xs.length : Int) != (xs.length : Int)) = false := by simp
  go_enter Tryd.func33, Tryd.ntmps33
  go_wp2_with fail
  go_loopw [5] (fun i wr => ∃ k : Nat, k ≤ xs.length ∧ i = .int .i64 k ∧ Below w.heap.size w wr) (fun i _ => xs.length - (intOf i).toNat)
  case atStart => exact ⟨0, Nat.zero_le _, rfl, Below.refl _ _⟩
  case round =>
    obtain ⟨k, hk, rfl, hbe⟩ := hrel
    by_cases hlt : k < xs.length
    · obtain ⟨b, o, A3, c3, rfl, hbB, k0, r0⟩ := (HA.out.on hbe).get hlt
      obtain ⟨b2, o2, A4, c4, rfl, hbB2, k2, r2⟩ := (HB.out.on hbe).get hlt
      have hln := totSS_at xs k hlt
      have M0 := later_cell k0
      have M1 := later_cell k2
      have CE := Lib.hid (fun q : Later wr => (eqIntS_any (.slice A3 xs[k].length c3) (.slice A4 xs[k].length c4) xs[k] xs[k] q.val (r0.on q.2) (r2.on q.2) (by omega) (by omega)))
      simp only [decide_true] at CE
      clear k0 k2 r0 r2
      go_wp2_with fail
      refine wp_region_later (by kernel_rfl) (by kernel_rfl) ?_
      repeat (go_big_quiet_step ((go_at_call 67; exact later_of (CE.out _))))
      refine wpQuiet_nil ?_
      rintro _ ⟨xq, rfl⟩
      go_wp2_with fail
      go_roundw
      case rel => exact ⟨k + 1, by omega, by go_num, bthen hbe xq.2⟩
      case measure => simp [intOf]; omega
    · go_wp2_with fail
      go_ret
      exact ⟨rfl, hbe⟩

/-- The rows that marks from k on leave. -/
def markR : Int → List (List Int) → List (List Int)
  | _, [] => []
  | k, x :: xs => seqI k x.length :: markR (k + (x.length : Int)) xs
theorem markR_length : ∀ (k : Int) (xs : List (List Int)), (markR k xs).length = xs.length
  | _, [] => rfl
  | k, x :: xs => by simp [markR, markR_length _ xs]
theorem markR_snoc : ∀ (k : Int) (xs : List (List Int)) (x : List Int), markR k (xs ++ [x]) = markR k xs ++ [seqI (k + (totSS xs : Int)) x.length]
  | k, [], x => by simp [markR, totSS]
  | k, y :: xs, x => by
    have h := markR_snoc (k + (y.length : Int)) xs x
    have e : k + (y.length : Int) + (totSS xs : Int) = k + (totSS (y :: xs) : Int) := by simp [totSS]; omega
    rw [e] at h
    simp [markR, h]
theorem markR_at {xss : List (List Int)} {k : Int} {j : Nat} (h : j < xss.length) (h' : j < (markR k xss).length) : (markR k xss)[j] = seqI (k + (totSS (xss.take j) : Int)) xss[j].length := by
  have hp : ∀ (xs ys : List (List Int)) (k : Int), ∃ zs, markR k (xs ++ ys) = markR k xs ++ zs := by
    intro xs
    induction xs with
    | nil => intro ys k; exact ⟨_, rfl⟩
    | cons x xs ih =>
      intro ys k
      obtain ⟨zs, hz⟩ := ih ys (k + (x.length : Int))
      exact ⟨zs, by simp [markR, hz]⟩
  have e : xss = xss.take (j + 1) ++ xss.drop (j + 1) := (List.take_append_drop _ _).symm
  have hl : (markR k (xss.take j)).length = j := by rw [markR_length]; simp; omega
  obtain ⟨zs, hz⟩ := hp (xss.take (j + 1)) (xss.drop (j + 1)) k
  rw [← e, take_snoc xss j h, markR_snoc] at hz
  have : (markR k xss)[j]? = some (seqI (k + (totSS (xss.take j) : Int)) xss[j].length) := by
    rw [hz, List.append_assoc, List.getElem?_append_right (by omega), hl]
    simp
  rw [List.getElem?_eq_getElem h'] at this
  exact Option.some.inj this
/-- The first j are marked. -/
def markedR (xss : List (List Int)) (k : Int) (j : Nat) : List (List Int) := markR k (xss.take j) ++ xss.drop j
theorem markedR_step {xss : List (List Int)} {k : Int} {j : Nat} (h : j < xss.length) : (markedR xss k j).set j (seqI (k + (totSS (xss.take j) : Int)) xss[j].length) = markedR xss k (j + 1) := by
  have hl : (markR k (xss.take j)).length = j := by rw [markR_length]; simp; omega
  unfold markedR
  rw [List.drop_eq_getElem_cons h, List.set_append_right _ _ (by omega), hl, Nat.sub_self, List.set_cons_zero, take_snoc xss j h, markR_snoc]
  simp
theorem markedR_at {xss : List (List Int)} {k : Int} {j : Nat} (h : j < xss.length) (h' : j < (markedR xss k j).length) : (markedR xss k j)[j] = xss[j] := by
  have hl : (markR k (xss.take j)).length = j := by rw [markR_length]; simp; omega
  have e : (markedR xss k j)[j]? = some xss[j] := by
    unfold markedR
    rw [List.getElem?_append_right (by omega), hl]
    simp [h]
  rw [List.getElem?_eq_getElem h'] at e
  exact Option.some.inj e
theorem markedR_length {xss : List (List Int)} {k : Int} {j : Nat} (h : j ≤ xss.length) : (markedR xss k j).length = xss.length := by simp [markedR, markR_length]; omega

/-- A row of slices of the call's own, the slices named. -/
structure OwnRA (w : World) (lo hi : Nat) (v : Value) (xss : List (List Int)) (av : List Value) : Prop where
  args : OwnArgs w lo hi av xss
  row : w.ownsRow lo 23 1 v xss.length av
  lt : ∀ g, v.ownBlock = some g → g < hi
theorem OwnRA.step {w w3 : World} {lo hi j : Nat} {v : Value} {xss : List (List Int)} {av : List Value} {ys : List Int} (h : OwnRA w lo hi v xss av) (hj : j < xss.length) (hja : j < av.length)
    (hI : OwnInts w3 lo hi av[j] ys) (hg : w.grownBy w3 av[j].ownBlock) : OwnRA w3 lo hi v (xss.set j ys) av := by
  obtain ⟨ha, hr, hlt⟩ := h
  have hlen := ha.len
  have hapart : ∀ i i' (hi' : i < av.length) (hi'' : i' < av.length), i ≠ i' → ∀ b, av[i].ownBlock = some b → av[i'].ownBlock ≠ some b := by
    intro i i' h1 h2 hne b hb hb'
    have hp := List.pairwise_iff_getElem.1 ha.apart
    rcases Nat.lt_or_gt_of_ne hne with hl | hl
    · exact hp i i' h1 h2 hl b hb hb'
    · exact hp i' i h2 h1 hl b hb' hb
  refine ⟨⟨by simp [hlen], fun i h1 h2 => ?_, ha.apart⟩, ?_, hlt⟩
  · by_cases e : i = j
    · subst e
      simpa using hI
    · have h0 := ha.own i (by simpa using h1) h2
      rw [List.getElem_set_ne (Ne.symm e)]
      exact h0.kept fun b hb => hg.block b (h0.lt hb).2.2 fun e2 => hapart i j h2 hja e b hb e2.symm
  · rw [List.length_set]
    exact ownsRow_only hr fun b hb => hg.block b (hr.lt b hb).2 fun e2 => rowsI_ne hr hb (ha.own j hj hja) e2.symm

/-- The marks from k on stand in a row of slices, and end at z. -/
def HdRows (w : World) (lo hi : Nat) (v : Value) (xss : List (List Int)) (k z : Int) : Prop := OwnRows w lo hi v (markR k xss) ∧ z = k + (totSS xss : Int) ∧ 0 ≤ k ∧ k ≤ 4294967296 ∧ szRows xss ≤ 1073741824
theorem HdRows.below {w w' : World} {lo hi B : Nat} {v : Value} {xss : List (List Int)} {k z : Int} (h : HdRows w lo hi v xss k z) (hb : Below B w w') (hB : hi ≤ B) : HdRows w' lo hi v xss k z := ⟨h.1.below hb hB, h.2⟩
theorem HdRows.only {w w' : World} {lo hi lo' hi' : Nat} {v : Value} {xss : List (List Int)} {k z : Int} (h : HdRows w lo hi v xss k z) (ho : Only lo' hi' w w') (hd : hi ≤ lo' ∨ hi' ≤ lo) : HdRows w' lo hi v xss k z := ⟨h.1.only ho hd, h.2⟩

set_option maxHeartbeats 1000000 in
set_option maxRecDepth 100000 in
theorem um_rows {v : Value} {xss : List (List Int)} {lo hi : Nat} {w : World} (k : Int) (h : OwnRows w lo hi v xss) (hk0 : 0 ≤ k) (hk : k ≤ 4294967296) (hs : szRows xss ≤ 1073741824) :
    Calls Tryd.prog 36 #[v, .int .i64 k] w fun e w' => ∃ z, e = .returned (.int .i64 z) ∧ k ≤ z ∧ z ≤ k + szRows xss ∧ HdRows w' lo hi v xss k z ∧ Only lo hi w w' := by
  have HS := Lib.hid hs
  unfold szRows at hs
  obtain ⟨A, c, rfl⟩ := h.form
  obtain ⟨av, h1, h2, h3⟩ := h
  have H := Lib.hid (show OwnRA w lo hi (.slice A xss.length c) xss av from ⟨h1, h2, h3⟩)
  have hal := h1.len
  have HAL := Lib.hid hal
  clear h1 h2 h3 hal
  go_enter Tryd.func36, Tryd.ntmps36
  go_wp2_with fail
  go_loopw [1, 5] (fun m i wr => ∃ (j : Nat) (z : Int), j ≤ xss.length ∧ i = .int .i64 j ∧ m = .int .i64 z ∧ z = k + (totSS (xss.take j) : Int) ∧ OwnRA wr lo hi (.slice A xss.length c) (markedR xss k j) av ∧ Only lo hi w wr) (fun _ i _ => xss.length - (intOf i).toNat)
  case atStart =>
    have e : markedR xss k 0 = xss := by simp [markedR, markR]
    exact ⟨0, k, Nat.zero_le _, rfl, rfl, by simp [totSS], by rw [e]; exact H.out, Only.refl _ _ _⟩
  case round =>
    obtain ⟨j, z, hj, rfl, rfl, hz, ho, hon⟩ := hrel
    by_cases hlt : j < xss.length
    · have hml := markedR_length (k := k) (Nat.le_of_lt hlt)
      have hja : j < av.length := by rw [HAL.out]; exact hlt
      have hoj := ho.args.own j (by omega) hja
      rw [markedR_at hlt (by omega)] at hoj
      obtain ⟨A2, c2, hav⟩ := hoj.form
      have hcell : ∃ g, A = some ⟨g, 0, none⟩ ∧ wr.cell? ⟨g, j, none⟩ = some (.slice A2 xss[j].length c2) := by
        have hcells := @World.ownsRow.cells wr lo 23 1 _ _ av ho.row
        rcases ho.row.2 with ⟨e, e0⟩ | ⟨g, cap, cur, e, _⟩
        · omega
        · injection e with e1 _ _
          refine ⟨g, e1, ?_⟩
          have := hcells (g := g) (by rw [e1]; rfl) j (av[j]'hja) (by simp [hja])
          rw [Go.WideShapes.add_plain, Nat.zero_add, hav] at this
          exact this
      obtain ⟨g, rfl, hck⟩ := hcell
      have hln := totSS_at xss j hlt
      have hlt2 := totSS_take_le xss j
      have hst := totSS_take xss j hlt
      have HO := Lib.hid ho
      have HN := Lib.hid hon
      have CM := Lib.hid (markIntS_any (.slice A2 xss[j].length c2) xss[j] z lo hi wr (hav ▸ hoj) (by omega) (by omega))
      have HZ := Lib.hid hz
      have HAV := Lib.hid hav
      have HJ := Lib.hid hoj
      have HST := Lib.hid hst
      clear ho hon hoj hz hav hml hst
      go_wp2_with (go_at_call 69; refine CM.out.mono ?_; rintro e w2 ⟨rfl, o2, g2⟩; have H2 := Lib.hid (And.intro o2 g2); clear o2 g2)
      have HF := Lib.hid (show OwnRA w2 lo hi (.slice (some ⟨g, 0, none⟩) xss.length c) (markedR xss k (j + 1)) av ∧ Only lo hi w w2 from by
        obtain ⟨o2, g2⟩ := H2.out
        have hml := markedR_length (k := k) (Nat.le_of_lt hlt)
        have hs2 := HO.out.step (by omega) hja (by rw [HAV.out]; exact o2) (by rw [HAV.out]; exact g2)
        rw [HZ.out, markedR_step hlt] at hs2
        exact ⟨hs2, HN.out.trans (Only.of_grown g2 fun b hb => by have := HJ.out.lt (g := b) (by rw [HAV.out]; exact hb); omega)⟩)
      go_roundw
      case rel => exact ⟨j + 1, _, by omega, by go_num, rfl, by rw [HST.out, HZ.out]; omega, HF.out.1, HF.out.2⟩
      case measure => simp [intOf]; omega
    · have hjn : j = xss.length := by omega
      have HF := Lib.hid (show HdRows wr lo hi (.slice A xss.length c) xss k z ∧ Only lo hi w wr ∧ k ≤ z ∧ z ≤ k + szRows xss from by
        rw [hjn, List.take_length] at hz
        rw [hjn] at ho
        have e : markedR xss k xss.length = markR k xss := by simp [markedR]
        rw [e] at ho
        exact ⟨⟨⟨av, ho.args, ho.row, ho.lt⟩, hz, hk0, hk, HS.out⟩, hon, by omega, by unfold szRows; omega⟩)
      clear hjn hz ho hon
      go_wp2_with fail
      go_ret
      exact ⟨z, rfl, HF.out.2.2.1, HF.out.2.2.2, HF.out.1, HF.out.2.1⟩

set_option maxHeartbeats 1000000 in
set_option maxRecDepth 100000 in
theorem uh_rows {v : Value} {xss : List (List Int)} {lo hi : Nat} {w : World} {k z : Int} (h : HdRows w lo hi v xss k z) (hh : hi ≤ w.heap.size) :
    Calls Tryd.prog 37 #[v, .int .i64 k] w fun e w' => e = .returned (.int .i64 z) ∧ Below w.heap.size w w' := by
  obtain ⟨ho, hz, hk0, hk, hs⟩ := h
  unfold szRows at hs
  have hml := markR_length k xss
  have H := Lib.hid (ho.rd.more hh)
  obtain ⟨A, c, rfl⟩ := ho.form
  have HML := Lib.hid hml
  have HZ := Lib.hid hz
  rw [hml] at H ⊢
  clear ho hml hz
  go_enter Tryd.func37, Tryd.ntmps37
  go_wp2_with fail
  go_loopw [1, 5] (fun m i wr => ∃ (j : Nat) (y : Int), j ≤ xss.length ∧ i = .int .i64 j ∧ m = .int .i64 y ∧ y = k + (totSS (xss.take j) : Int) ∧ wr = w) (fun _ i _ => xss.length - (intOf i).toNat)
  case atStart => exact ⟨0, k, by simp [totSS]⟩
  case round =>
    obtain ⟨j, y, hj, rfl, rfl, hy, rfl⟩ := hrel
    by_cases hlt : j < xss.length
    · have hlt' : j < (markR k xss).length := by rw [HML.out]; exact hlt
      have hat := H.out
      rw [← HML.out] at hat
      obtain ⟨b, o, A2, c2, rfl, hbB, k0, r0⟩ := hat.get hlt'
      rw [markR_at hlt hlt', seqI_length] at k0
      rw [markR_at hlt hlt', ← hy, seqI_length] at r0
      have hln := totSS_at xss j hlt
      have hlt2 := totSS_take_le xss j
      have CM := Lib.hid (heldIntS_any (.slice A2 xss[j].length c2) xss[j].length y wr r0 (by omega) (by omega))
      have HST := Lib.hid (totSS_take xss j hlt)
      have HY := Lib.hid hy
      have hneg : decide (y + (xss[j].length : Int) < 0) = false := decide_eq_false (by omega)
      clear r0 hat hy
      go_wp2_with (go_at_call 70; refine CM.out.mono ?_; rintro e w2 ⟨rfl, rfl⟩)
      go_roundw
      case rel => exact ⟨j + 1, _, by omega, by go_num, rfl, by rw [HST.out, HY.out]; omega, by first | trivial | rfl⟩
      case measure => simp [intOf]; omega
    · have HF := Lib.hid (show y = z by rw [HZ.out, hy, show j = xss.length by omega, List.take_length])
      clear hy
      go_wp2_with fail
      go_ret
      exact ⟨ret_int HF.out, Below.refl _ _⟩

end Go.Proofs.YtokmmloakahkhaaDoor
/-
  The program's nextGroup; its words of groups.
-/
namespace Go.Proofs.YtokmmloakahkhaaDoor
open Go.RowKit

theorem rch_lt8 {ask : Nat → Nat} {n : Nat} (hask : ∀ u x, has (ask u) x → x < n) {u v : Nat} (h : Rch ask u v) : v < n := by
  induction h with
  | one h => exact hask _ _ h
  | step _ _ ih => exact ih
/-- The program's words. -/
def gW (p : LProg) (i : Nat) : Nat := (walkF (askP p) p.1.length p.1.length).group.getD i 0
theorem wordsG_of {p : LProg} (hpo : progOk p = true) : WordsG (fwM (askT p) p.1.length) p.1.length (gW p) (reachP p) (grpP p) := by
  obtain ⟨hn, hf⟩ := asksOf_fits hpo
  obtain ⟨hi, hd, _⟩ := walk_all hn (askP_lt hf)
  have hgo := layers_groups hpo
  have hR : ∀ i, i < p.1.length → ∀ k, Rch (askP p) i k ↔ fwM (askT p) p.1.length i k = true := fun i hi2 k => by
    rw [← reach_fw hpo hi2 k]
    exact (hi.rch i k (hd i hi2)).symm
  have hlt : ∀ {u v : Nat}, Rch (askP p) u v → v < p.1.length := fun h => rch_lt8 (askP_lt hf) h
  have hgrp : ∀ i, i < p.1.length → ∀ q, has (gW p i) q ↔ q < p.1.length ∧ inG (fwM (askT p) p.1.length) i q = true := fun i hi2 q => by
    unfold gW
    rw [hi.grp i q (hd i hi2), inG_iff]
    constructor
    · rintro (rfl | ⟨h1, h2⟩)
      · exact ⟨hi2, .inl rfl⟩
      · exact ⟨hlt h1, .inr ⟨(hR q (hlt h1) i).1 h2, (hR i hi2 q).1 h1⟩⟩
    · rintro ⟨h0, h1 | ⟨h1, h2⟩⟩
      · exact .inl h1
      · exact .inr ⟨(hR i hi2 q).2 h2, (hR q h0 i).2 h1⟩
  refine ⟨trT_fw p _, hgrp, fun i hi2 q => ?_, fun i hi2 => ?_, fun g hg => ?_, ?_⟩
  · have h1 := hi.rch i q (hd i hi2)
    constructor
    · intro h
      have h2 := h1.1 h
      exact ⟨hlt h2, (hR i hi2 q).1 h2⟩
    · intro h
      exact h1.2 ((hR i hi2 q).2 h.2)
  · obtain ⟨g, hg, hgi⟩ := (hi.told i).1 (hd i hi2)
    have := (hi.own g hg).2 i hgi
    unfold gW
    rw [this]
    exact hg
  · obtain ⟨q, hq⟩ := hgo.some g hg
    exact ⟨q, hgo.mem g hg q hq, by unfold gW; exact ((hi.own g hg).2 q hq).symm⟩
  · refine List.Pairwise.imp_of_mem (fun {x y} hx _ h => ?_) hgo.apart
    obtain ⟨q, hq⟩ := hgo.some x hx
    intro e
    subst e
    exact h q hq hq
theorem gW_lt {p : LProg} (hpo : progOk p = true) {i : Nat} (hi : i < p.1.length) : gW p i < 16777216 := by
  obtain ⟨hn, _⟩ := asksOf_fits hpo
  refine Nat.lt_of_lt_of_le (Nat.lt_pow_two_of_testBit (n := 24) _ fun j hj => ?_) (by decide)
  cases e : (gW p i).testBit j
  · rfl
  · have := (((wordsG_of hpo).grp i hi j).1 e).1
    omega
theorem rW_lt {p : LProg} (hpo : progOk p = true) {i : Nat} (hi : i < p.1.length) : reachP p i < 16777216 := by
  obtain ⟨hn, _⟩ := asksOf_fits hpo
  refine Nat.lt_of_lt_of_le (Nat.lt_pow_two_of_testBit (n := 24) _ fun j hj => ?_) (by decide)
  cases e : (reachP p i).testBit j
  · rfl
  · have := (((wordsG_of hpo).rch i hi j).1 e).1
    omega

set_option maxHeartbeats 2000000 in
set_option maxRecDepth 100000 in
theorem nextGroup_any (g n told q : Nat) (Y N : List Nat) (s : GW) (Ap Ag : Option Addr) (cp cg : Nat) (w : World) (hg : GWAt w g Y N n s Ap cp Ag cg) (hn : n ≤ 24) (ht : told < 16777216) (hG : ∀ i, i < n → s.group.getD i 0 < 16777216) (hRl : ∀ i, i < n → s.reach.getD i 0 < 16777216)
    (hq : q < n) (h1 : askW (fun i => s.group.getD i 0) (fun i => s.reach.getD i 0) told q = true) (hl : ∀ i, i < q → askW (fun i => s.group.getD i 0) (fun i => s.reach.getD i 0) told i = false) :
    Calls Tryd.prog 55 #[.pointer (some ⟨g, 0, none⟩), .int .u64 (told : Int)] w fun e w' => e = .returned (.int .u64 ((s.group.getD q 0 : Nat) : Int)) ∧ w = w' := by
  have HG := Lib.hid hg
  have HGL := Lib.hid hG
  have HRL := Lib.hid hRl
  have H1 := Lib.hid h1
  have HL := Lib.hid hl
  have k48 := hg.cellN
  obtain ⟨R, hR⟩ : ∃ R, R = s.group.getD q 0 := ⟨_, rfl⟩
  have HR := Lib.hid hR
  rw [← hR]
  clear hR
  clear hg hG hRl h1 hl
  go_enter Tryd.func55, Tryd.ntmps55
  go_wp2_with (fail)
  go_loop [11] (fun i => ∃ k : Nat, k ≤ q ∧ i = .int .i64 k) (fun i => n - (intOf i).toNat)
  case atStart => exact ⟨0, Nat.zero_le _, rfl⟩
  case round =>
    obtain ⟨k, hk, rfl⟩ := hrel
    have hkn : k < n := by omega
    have hkni : (k : Int) < (n : Int) := by omega
    have hk24 : k < 24 := by omega
    have hk24i : (k : Int) < 24 := by omega
    obtain ⟨x, hx⟩ : ∃ x, x = s.group.getD k 0 := ⟨_, rfl⟩
    obtain ⟨y, hy⟩ : ∃ y, y = s.reach.getD k 0 := ⟨_, rfl⟩
    have c1 : w.cell? ⟨g, 53 + k, none⟩ = some (.int .u64 (x : Int)) := by rw [hx]; exact HG.out.cellGroup hk24
    have c2 : w.cell? ⟨g, 77 + k, none⟩ = some (.int .u64 (y : Int)) := by rw [hy]; exact HG.out.cellReach hk24
    have hxl : x < 16777216 := by rw [hx]; exact HGL.out k hkn
    have hyl : y < 16777216 := by rw [hy]; exact HRL.out k hkn
    have hb1 := and24 hxl ht
    have hb2 := andNot_less (a := y) (b := x) (by omega) (by omega)
    have hb3 := andNot_less (a := lessN y x) (b := told) (by have := less24 (b := x) hyl; omega) (by omega)
    have HA := Lib.hid (show askW (fun i => s.group.getD i 0) (fun i => s.reach.getD i 0) told k = ((x &&& told == 0) && (lessN (lessN y x) told == 0)) by unfold askW; rw [hx, hy])
    have HX := Lib.hid hx
    clear hx hy
    obtain ⟨u1, hu1⟩ : ∃ u1, u1 = (x &&& told == 0) := ⟨_, rfl⟩
    obtain ⟨u2, hu2⟩ : ∃ u2, u2 = (lessN (lessN y x) told == 0) := ⟨_, rfl⟩
    have e1 : (((x &&& told : Nat) : Int) == 0) = u1 := by rw [hu1]; rw [Bool.eq_iff_iff]; simp
    have e2 : (((lessN (lessN y x) told : Nat) : Int) == 0) = u2 := by rw [hu2]; rw [Bool.eq_iff_iff]; simp
    rw [← hu1, ← hu2] at HA
    clear hu1 hu2
    by_cases he : k = q
    · have h3 := H1.out
      rw [← he, HA.out, Bool.and_eq_true] at h3
      obtain ⟨rfl, rfl⟩ := h3
      have HE := Lib.hid (show R = x by rw [HR.out, ← he, HX.out])
      clear he
      go_wp2_with (fail)
      go_ret
      exact ⟨by rw [HE.out]; rfl, rfl⟩
    · have h3 := HL.out k (by omega)
      rw [HA.out] at h3
      have hkq : k + 1 ≤ q := by omega
      clear he
      cases u1
      · clear h3
        go_wp2_with (fail)
        go_round
        case rel => exact ⟨k + 1, hkq, by go_num⟩
        case measure => simp [intOf]; omega
      · cases u2
        · clear h3
          go_wp2_with (fail)
          go_round
          case rel => exact ⟨k + 1, hkq, by go_num⟩
          case measure => simp [intOf]; omega
        · cases h3

theorem range_filter {n : Nat} {f : Nat → Bool} (hn : n ≤ 64) (h : ∀ j, n ≤ j → f j = false) : (List.range 64).filter f = (List.range n).filter f := by
  obtain ⟨m, hm⟩ : ∃ m, 64 = n + m := ⟨64 - n, by omega⟩
  have hz : ((List.range m).map (n + ·)).filter f = [] := List.filter_eq_nil_iff.2 fun x hx => by
    obtain ⟨y, _, rfl⟩ := List.mem_map.1 hx
    rw [h _ (Nat.le_add_right _ _)]
    decide
  rw [hm, List.range_add, List.filter_append, hz, List.append_nil]
theorem bitsOf_grp {T : Nat → Nat → Bool} {n p : Nat} {G Rw : Nat → Nat} {gs : List Nat} (h : WordsG T n G Rw gs) (hn : n ≤ 24) (hp : p < n) : bitsOf (G p) = grpI T p n := by
  unfold bitsOf grpI grpN
  rw [range_filter (n := n) (by omega) fun j hj => by
    cases e : (G p).testBit j
    · rfl
    · have := ((h.grp p hp j).1 e).1
      omega]
  congr 1
  refine List.filter_congr fun j hj => ?_
  have h1 := h.grp p hp j
  have h2 := List.mem_range.1 hj
  unfold has at h1
  cases e1 : (G p).testBit j <;> cases e2 : inG T p j <;> simp_all
theorem runG_lenE {T : Nat → Nat → Bool} {n : Nat} {G Rw : Nat → Nat} {gs : List Nat} (h : WordsG T n G Rw gs) : ∀ r, r ≤ gs.length → (runG T n r).2.length = r
  | 0, _ => rfl
  | r + 1, hr => by
    obtain ⟨p, hp⟩ := pick_run h (r := r) (by omega)
    rw [runG_next hp]
    simp [runG_lenE h r (by omega)]
/-- What is told, in a word. -/
def ToldW (T : Nat → Nat → Bool) (n r told : Nat) : Prop := told < 16777216 ∧ ∀ j, has told j ↔ j < n ∧ (runG T n r).1 j = true
theorem ToldW.zero (T : Nat → Nat → Bool) (n : Nat) : ToldW T n 0 0 := ⟨by decide, fun j => ⟨fun h => by simp [has] at h, fun h => by cases h.2⟩⟩
theorem ToldW.next {T : Nat → Nat → Bool} {n r told p : Nat} {G Rw : Nat → Nat} {gs : List Nat} (h : WordsG T n G Rw gs) (ht : ToldW T n r told) (hp : pickG T n (runG T n r).1 = some p) (hg : G p < 16777216) : ToldW T n (r + 1) (told ||| G p) := by
  refine ⟨or24 ht.1 hg, fun j => ?_⟩
  rw [has_or, ht.2 j, h.grp p (pickG_some hp).1 j, runG_next hp]
  show _ ↔ j < n ∧ addG T (runG T n r).1 p j = true
  unfold addG
  rw [Bool.or_eq_true]
  constructor
  · rintro (⟨a, b⟩ | ⟨a, b⟩)
    · exact ⟨a, .inl b⟩
    · exact ⟨a, .inr b⟩
  · rintro ⟨a, b | b⟩
    · exact .inl ⟨a, b⟩
    · exact .inr ⟨a, b⟩

set_option maxHeartbeats 4000000 in
set_option maxRecDepth 100000 in
theorem implGroupsYes_any (v : Value) (p : LProg) (w : World) (hpo : progOk p = true) (h : RdProg w w.heap.size v p) (hs : szP p ≤ 1048576) (hT : Tab w) :
    Calls Tryd.prog 20 #[v] w fun e w' => ∃ A' c', e = .returned (.slice A' (groupsOfL p).length c') ∧ OwnRows w' w.heap.size w'.heap.size (.slice A' (groupsOfL p).length c') (groupsOfL p) ∧ Below w.heap.size w w' := by
  obtain ⟨i0, hi0, hz0, hz1, hzb⟩ := info_parts Tryd.infoIntS
  have HP := Lib.hid h
  have HT := Lib.hid hT
  have HPO := Lib.hid hpo
  obtain ⟨a, b, rfl, hA, hR⟩ := h
  obtain ⟨A, c, rfl, hcA, _⟩ := hA
  obtain ⟨A2, c2, rfl, hcR, _⟩ := hR
  obtain ⟨hn24, hfit⟩ := asksOf_fits hpo
  have CW0 := Lib.hid (fun W (hW : Below w.heap.size w W) => walkOf_yes _ p W hpo (HP.out.on hW) hs (HT.out.below hW))
  have HWG := Lib.hid (wordsG_of hpo)
  have HGN := Lib.hid (grp_few hpo)
  have HGW := Lib.hid (fun i hi => gW_lt hpo (i := i) hi)
  have HRW := Lib.hid (fun i hi => rW_lt hpo (i := i) hi)
  obtain ⟨F, hF⟩ : ∃ F, F = walkF (askP p) p.1.length p.1.length := ⟨_, rfl⟩
  have HGS := Lib.hid (show F.groups = grpP p by rw [hF]; rfl)
  have HFG := Lib.hid (show ∀ i, F.group.getD i 0 = gW p i from fun i => by rw [hF]; rfl)
  have HFR := Lib.hid (show ∀ i, F.reach.getD i 0 = reachP p i from fun i => by rw [hF]; rfl)
  rw [← hF] at CW0
  obtain ⟨R, hR⟩ : ∃ R, R = groupsOfL p := ⟨_, rfl⟩
  rw [← hR]
  have HR := Lib.hid (show R = groupsG (fwM (askT p) p.1.length) p.1.length by rw [hR]; unfold groupsOfL; rw [if_pos hpo])
  obtain ⟨T, hTe⟩ : ∃ T, T = fwM (askT p) p.1.length := ⟨_, rfl⟩
  rw [← hTe] at HWG HR
  obtain ⟨n, hn⟩ : ∃ n, n = p.1.length := ⟨_, rfl⟩
  have HNE := Lib.hid hn
  rw [← hn] at hcA hn24 CW0 HWG HGN HGW HRW HR ⊢
  have hfl : F.groups.length ≤ 24 := by have h2 := HGN.out; rw [← HGS.out] at h2; omega
  have hmk := fun W => run_make_rowN (P := Tryd.prog) 43 23 i0 (.slice none 0 0) Tryd.underlying43 hi0 hz0 .i64 .i64 F.groups.length F.groups.length (Nat.le_refl _) (by rw [hzb]; omega) (by omega) W
  rw [hz1] at hmk
  simp only [Value.cells, Nat.mul_one] at hmk
  obtain ⟨cs, hcs⟩ : ∃ cs, cs = madeCells #[Value.slice none 0 0] F.groups.length := ⟨_, rfl⟩
  have hcsz : cs.size = F.groups.length := by rw [hcs]; simp [madeCells]
  rw [← hcs] at hmk
  clear hn hT hpo hF hfit hR hTe hcs
  go_enter Tryd.func20, Tryd.ntmps20
  go_upto_region 1 with fail
  obtain ⟨w1, hw1⟩ : ∃ w1, w1 = w.alloc (Obj.cells #[Value.slice A n c, Value.slice A2 p.2.length c2] 26) := ⟨_, rfl⟩
  have X1 : Blk w1 w.heap.size 26 #[.slice A n c, .slice A2 p.2.length c2] := by rw [hw1]; exact Blk.new _ _ _
  have B1 : Below w.heap.size w w1 := by rw [hw1]; exact below1 _ _
  rw [← hw1]
  clear hw1
  have x0 : w1.cell? ⟨w.heap.size, 0, none⟩ = some (.slice A n c) := X1.cell 0
  have x1 : w1.cell? ⟨w.heap.size, 1, none⟩ = some (.slice A2 p.2.length c2) := X1.cell 1
  have CW := Lib.hid (CW0.out w1 B1)
  clear X1 CW0
  go_upto_region 4 with (go_at_call 38; refine CW.out.mono ?_; rintro e w2 ⟨g, Ap, cp, Ag, cg, rfl, hgg, hgw, b2⟩; have B2 := Lib.hid (bthen B1 b2); have HG2 := Lib.hid hgw; clear b2 hgw)
  clear x0 x1
  have hg2 : g < w2.heap.size := HG2.out.lt
  have k52 : w2.cell? ⟨g, 52, none⟩ = some (.slice Ag F.groups.length cg) := HG2.out.cellGroups
  go_upto_region 5 with fail
  obtain ⟨w3, hw3⟩ : ∃ w3, w3 = w2.alloc (Obj.cells cs 23) := ⟨_, rfl⟩
  have HB3 := Lib.hid (show Below w2.heap.size w2 w3 by rw [hw3]; exact below1 _ _)
  have HF0 := Lib.hid (show FillG w2.heap.size F.groups.length w3 [] [] by rw [hw3]; exact FillG.start w2 cs _ hcsz)
  rw [← hw3]
  clear hw3 hmk hg2 k52
  go_wp2_with fail
  go_loopw [6, 24] (fun t i wr => ∃ (k told : Nat) (av : List Value), k ≤ F.groups.length ∧ i = .int .i64 k ∧ t = .int .u64 (told : Int) ∧ ToldW T n k told ∧ FillG w2.heap.size F.groups.length wr ((runG T n k).2.map fun q => grpI T q n) av ∧ Below w2.heap.size w2 wr) (fun _ i _ => F.groups.length - (intOf i).toNat)
  case atStart => exact ⟨0, 0, [], Nat.zero_le _, rfl, rfl, ToldW.zero T n, HF0.out, HB3.out⟩
  case round =>
    obtain ⟨k, told, av, hk, rfl, rfl, htw, hfi, hbe⟩ := hrel
    by_cases hlt : k < F.groups.length
    · have hkg : k < (grpP p).length := by rw [← HGS.out]; exact hlt
      obtain ⟨q, hq⟩ := pick_run HWG.out hkg
      obtain ⟨hq1, hq2, hq3⟩ := pickG_some hq
      have e1 : (fun i => F.group.getD i 0) = gW p := funext HFG.out
      have e2 : (fun i => F.reach.getD i 0) = reachP p := funext HFR.out
      have haw : ∀ i, i < n → askW (fun i => F.group.getD i 0) (fun i => F.reach.getD i 0) told i = goodB T n (runG T n k).1 i := fun i hi => by
        rw [e1, e2]
        exact askW_is HWG.out (runG_cl HWG.out.tr k) htw.2 hi
      have CN := nextGroup_any g n told q _ _ F Ap Ag cp cg wr (HG2.out.on hbe) hn24 htw.1 (fun i hi => by rw [HFG.out]; exact HGW.out i hi) (fun i hi => by rw [HFR.out]; exact HRW.out i hi) hq1 (by rw [haw q hq1]; exact hq2) (fun i hi => by rw [haw i (by omega)]; exact hq3 i hi)
      rw [HFG.out] at CN
      obtain ⟨x, hx⟩ : ∃ x, x = gW p q := ⟨_, rfl⟩
      have hxl : x < 16777216 := by rw [hx]; exact HGW.out q hq1
      have htl : told < 16777216 := htw.1
      rw [← hx] at CN
      have HCN := Lib.hid CN
      have CB := Lib.hid (bitNumbers_any x (by omega) wr (HT.out.below (bthen B2.out hbe)))
      obtain ⟨X, hX⟩ : ∃ X, X = bitsOf x := ⟨_, rfl⟩
      have HXE := Lib.hid (show X = grpI T q n by rw [hX, hx]; exact bitsOf_grp HWG.out hn24 hq1)
      rw [← hX] at CB
      have HTW := Lib.hid (show ToldW T n (k + 1) (told ||| x) by rw [hx]; exact htw.next HWG.out hq (by rw [← hx]; exact hxl))
      have HRN := Lib.hid (show ((runG T n (k + 1)).2.map fun q => grpI T q n) = ((runG T n k).2.map fun q => grpI T q n) ++ [X] by rw [runG_next hq, HXE.out]; simp)
      have HLE := Lib.hid (show ((runG T n k).2.map fun q => grpI T q n).length = k by rw [List.length_map]; exact runG_lenE HWG.out k (by omega))
      have hor : bits .or .u64 (told : Int) (x : Int) = ((told ||| x : Nat) : Int) := u64_or_nat told x (by omega) (by omega)
      have HFI := Lib.hid hfi
      have HBE := Lib.hid hbe
      clear hx hX CN haw e1 e2 hq hq1 hq2 hq3 htw hfi hbe
      go_upto_region 10 with (go_at_call 55; refine HCN.out.mono ?_; rintro e w6 ⟨rfl, rfl⟩)
      go_wp2_with (go_at_call 39; refine CB.out.mono ?_; rintro e w7 ⟨A8, c8, rfl, o8, b8⟩
                   obtain ⟨⟨x7, hx7⟩, hf7⟩ := (HFI.out.on b8).free hlt
                   have HST := Lib.hid (HFI.out.step HLE.out hlt b8 o8)
                   have HB7 := Lib.hid (bthen HBE.out b8)
                   clear o8 b8)
      go_roundw
      case rel => exact ⟨k + 1, _, _, by omega, by go_num, rfl, HTW.out, by rw [HRN.out]; exact HST.out, HB7.out.setCell (Nat.le_refl _) _⟩
      case measure => simp [intOf]; omega
    · have hkn : k = F.groups.length := by omega
      have HRE := Lib.hid (show ((runG T n k).2.map fun q => grpI T q n) = R by
        rw [HR.out]
        unfold groupsG
        rw [hkn, HGS.out, run_all HWG.out HGN.out])
      have HLE := Lib.hid (show R.length = F.groups.length by rw [← HRE.out, List.length_map, hkn]; rw [HGS.out]; exact runG_lenE HWG.out _ (Nat.le_refl _))
      rw [HRE.out] at hfi
      have HD := Lib.hid (hfi.done HLE.out (by unfold maxLen; omega))
      have HBE := Lib.hid hbe
      clear hkn hfi hbe
      rw [HLE.out] at HD
      go_wp2_with fail
      go_ret
      rw [HLE.out]
      exact ⟨_, _, rfl, HD.out.mono (by have := B2.out.size; omega) (Nat.le_refl _), bthen B2.out HBE.out⟩

set_option maxHeartbeats 1000000 in
set_option maxRecDepth 100000 in
theorem implGroupsOf_any (v : Value) (p : LProg) (w : World) (h : RdProg w w.heap.size v p) (hs : szP p ≤ 1048576) (hT : Tab w) :
    Calls Tryd.prog 20 #[v] w fun e w' => ∃ A' c', e = .returned (.slice A' (groupsOfL p).length c') ∧ OwnRows w' w.heap.size w'.heap.size (.slice A' (groupsOfL p).length c') (groupsOfL p) ∧ Below w.heap.size w w' := by
  cases hpo : progOk p
  · have HP := Lib.hid h
    obtain ⟨a, b, rfl, hA, hR⟩ := h
    obtain ⟨A, c, rfl, hcA, _⟩ := hA
    obtain ⟨A2, c2, rfl, hcR, _⟩ := hR
    have HE := Lib.hid (show groupsOfL p = [] by unfold groupsOfL; rw [if_neg (by rw [hpo]; decide)])
    rw [HE.out]
    obtain ⟨n, hn⟩ : ∃ n, n = p.1.length := ⟨_, rfl⟩
    have HNE := Lib.hid hn
    rw [← hn] at hcA ⊢
    clear hn
    go_enter Tryd.func20, Tryd.ntmps20
    go_upto_region 1 with fail
    obtain ⟨w1, hw1⟩ : ∃ w1, w1 = w.alloc (Obj.cells #[Value.slice A n c, Value.slice A2 p.2.length c2] 26) := ⟨_, rfl⟩
    have X1 : Blk w1 w.heap.size 26 #[.slice A n c, .slice A2 p.2.length c2] := by rw [hw1]; exact Blk.new _ _ _
    have B1 : Below w.heap.size w w1 := by rw [hw1]; exact below1 _ _
    rw [← hw1]
    clear hw1
    have x0 : w1.cell? ⟨w.heap.size, 0, none⟩ = some (.slice A n c) := X1.cell 0
    have x1 : w1.cell? ⟨w.heap.size, 1, none⟩ = some (.slice A2 p.2.length c2) := X1.cell 1
    have CW := Lib.hid (walkOf_no _ p w1 hpo (HP.out.on B1) hs)
    rw [← HNE.out] at CW
    clear X1
    go_wp2_with (go_at_call 38; refine CW.out.mono ?_; rintro e w2 ⟨rfl, b2⟩; have B2 := Lib.hid (bthen B1 b2); clear b2)
    go_ret
    exact ⟨none, 0, rfl, ⟨[], OwnArgs.nil, World.ownsRow_nil _ _ _ _, fun g hg => by cases hg⟩, B2.out⟩
  · exact implGroupsYes_any v p w hpo h hs hT
theorem groupsOfL_sz (p : LProg) : szRows (groupsOfL p) ≤ 1048576 := by
  unfold groupsOfL
  split
  · rename_i h
    obtain ⟨hn, _⟩ := asksOf_fits h
    have h1 := runG_len (fwM (askT p) p.1.length) p.1.length p.1.length
    have h2 : (groupsG (fwM (askT p) p.1.length) p.1.length).length ≤ 24 := by unfold groupsG; rw [List.length_map]; omega
    have h3 := totSS_few h2 (m := 24) fun x hx => by
      unfold groupsG at hx
      obtain ⟨q, _, rfl⟩ := List.mem_map.1 hx
      exact Nat.le_trans (grpI_len _ q _) hn
    unfold szRows
    omega
  · simp [szRows, totSS]

end Go.Proofs.YtokmmloakahkhaaDoor
/-
  Rows of Booleans as results of laws: compared and marked.
-/
namespace Go.Proofs.YtokmmloakahkhaaDoor
open Go.RowKit

/-- What a mark leaves in a row of Booleans. -/
def mk3 (k : Nat) : Bool := decide (k % 3 = 0)
end Go.Proofs.YtokmmloakahkhaaDoor
/-
  Rows of rows of Booleans as results of laws: compared, marked, held.
-/
namespace Go.Proofs.YtokmmloakahkhaaDoor
open Go.RowKit

theorem BGrid.row {lo n co i : Nat} {w w' : World} {T T' : Nat → Nat → Bool} {Ao : Option Addr} {rs : List Nat} (h : BGrid lo w n T Ao co rs) (hi : i < rs.length) (hr : w'.rowIs rs[i] 4 n (fun b => .bool (T' i b))) (ho : Only rs[i] (rs[i] + 1) w w') (hT : ∀ a b, a ≠ i → T' a b = T a b) : BGrid lo w' n T' Ao co rs := by
  have hk : ∀ b, b < w.heap.size → b ≠ rs[i] → w'.heap[b]? = w.heap[b]? := fun b hb hne => ho.block b hb (by omega)
  refine ⟨ownsRow_only h.heads fun b hb => hk b (h.heads.lt b hb).2 (fun e => (h.lo _ (List.getElem_mem hi)).2 (by rw [hb, e])), fun j hj => ?_, h.lo, h.nodup⟩
  by_cases e : j = i
  · subst e
    exact hr
  · exact ((h.rows j hj).of_block (hk _ (h.rows j hj).lt (fun e2 => e (nodup_inj h.nodup hj hi e2)))).congr fun b _ => by rw [hT j b e]

end Go.Proofs.YtokmmloakahkhaaDoor
/-
  A table of Booleans as the result of a law: owned, compared, marked, held.
-/
namespace Go.Proofs.YtokmmloakahkhaaDoor
open Go.RowKit

/-- A table: so many rows, each of so many Booleans. -/
structure GR where
  length : Nat
  n : Nat
  T : Nat → Nat → Bool
def OwnGrid (w : World) (lo hi : Nat) (v : Value) (R : GR) : Prop :=
  ∃ Ao co rs, v = .slice Ao R.length co ∧ rs.length = R.length ∧ BGrid lo w R.n R.T Ao co rs ∧ (∀ g, (Value.slice Ao rs.length co).ownBlock = some g → g < hi) ∧ ∀ r ∈ rs, r < hi
section
variable {w w' : World} {lo hi lo' hi' B : Nat} {v : Value} {R : GR}
theorem OwnGrid.below (h : OwnGrid w lo hi v R) (hb : Below B w w') (hB : hi ≤ B) : OwnGrid w' lo hi v R := by
  obtain ⟨Ao, co, rs, e, hl, hg, h1, h2⟩ := h
  exact ⟨Ao, co, rs, e, hl, hg.keep fun b hb' => hb.block b (by rcases hb' with h | h; exact Nat.lt_of_lt_of_le (h2 b h) hB; exact Nat.lt_of_lt_of_le (h1 b h) hB), h1, h2⟩
theorem OwnGrid.only (h : OwnGrid w lo hi v R) (ho : Only lo' hi' w w') (hd : hi ≤ lo' ∨ hi' ≤ lo) : OwnGrid w' lo hi v R := by
  obtain ⟨Ao, co, rs, e, hl, hg, h1, h2⟩ := h
  refine ⟨Ao, co, rs, e, hl, hg.keep fun b hb' => ?_, h1, h2⟩
  rcases hb' with h | h
  · exact ho.block b (hg.lt b h) (by have := h2 b h; have := (hg.lo b h).1; omega)
  · exact ho.block b (hg.heads.lt b h).2 (by have := h1 b h; have := (hg.heads.lt b h).1; omega)
theorem OwnGrid.mono (h : OwnGrid w lo hi v R) (h1 : lo' ≤ lo) (h2 : hi ≤ hi') : OwnGrid w lo' hi' v R := by
  obtain ⟨Ao, co, rs, e, hl, hg, k1, k2⟩ := h
  exact ⟨Ao, co, rs, e, hl, ⟨ownsRow_mono hg.heads h1, hg.rows, fun r hr => ⟨Nat.le_trans h1 (hg.lo r hr).1, (hg.lo r hr).2⟩, hg.nodup⟩, fun g hg2 => Nat.lt_of_lt_of_le (k1 g hg2) h2, fun r hr => Nat.lt_of_lt_of_le (k2 r hr) h2⟩
theorem OwnGrid.of {Ao : Option Addr} {co m n : Nat} {T : Nat → Nat → Bool} {rs : List Nat} (hm : rs.length = m) (h : BGrid lo w n T Ao co rs) : OwnGrid w lo w.heap.size (.slice Ao m co) ⟨m, n, T⟩ :=
  ⟨Ao, co, rs, rfl, hm, h, fun g hg => (h.heads.lt g hg).2, h.lt⟩
end
/-- What Reaches answers. -/
def reachG (p : LProg) : GR := if progOk p = true then ⟨p.1.length, p.1.length, fwM (askT p) p.1.length⟩ else ⟨0, 0, fun _ _ => false⟩
theorem reachG_few (p : LProg) : (reachG p).length ≤ 24 ∧ (reachG p).n ≤ 24 := by
  unfold reachG
  split
  · rename_i h
    exact ⟨(asksOf_fits h).1, (asksOf_fits h).1⟩
  · exact ⟨by simp, by simp⟩
theorem ReachOut.own {lo : Nat} {w : World} {p : LProg} {v : Value} (h : ReachOut lo w p v) : ∃ A c, v = .slice A (reachG p).length c ∧ OwnGrid w lo w.heap.size (.slice A (reachG p).length c) (reachG p) := by
  rcases h with ⟨h, rfl⟩ | ⟨h, Ao, co, rs, rfl, hn, hg⟩
  · have e : reachG p = ⟨0, 0, fun _ _ => false⟩ := by unfold reachG; rw [if_neg (by rw [h]; decide)]
    rw [e]
    exact ⟨none, 0, rfl, none, 0, [], rfl, rfl, ⟨World.ownsRow_nil _ _ _ _, fun i h => absurd h (by simp), fun r h => absurd h (by simp), by simp⟩, fun g hg => by simp [Value.ownBlock] at hg, fun r h => absurd h (by simp)⟩
  · have e : reachG p = ⟨p.1.length, p.1.length, fwM (askT p) p.1.length⟩ := by unfold reachG; rw [if_pos h]
    rw [e]
    refine ⟨Ao, co, by rw [hn], ?_⟩
    exact OwnGrid.of hn hg
theorem specReachesG_any (v : Value) (p : LProg) (w : World) (h : RdProg w w.heap.size v p) (hs : szP p ≤ 1048576) :
    Calls Tryd.prog 23 #[v] w fun e w' => ∃ A' c', e = .returned (.slice A' (reachG p).length c') ∧ OwnGrid w' w.heap.size w'.heap.size (.slice A' (reachG p).length c') (reachG p) ∧ Below w.heap.size w w' := by
  refine (specReaches_any v p w h hs).mono ?_
  rintro e w' ⟨u, rfl, hr, hb⟩
  obtain ⟨A, c, rfl, ho⟩ := hr.own
  exact ⟨A, c, rfl, ho, hb⟩
theorem implReachesG_any (v : Value) (p : LProg) (w : World) (h : RdProg w w.heap.size v p) (hs : szP p ≤ 1048576) (hT : Tab w) :
    Calls Tryd.prog 14 #[v] w fun e w' => ∃ A' c', e = .returned (.slice A' (reachG p).length c') ∧ OwnGrid w' w.heap.size w'.heap.size (.slice A' (reachG p).length c') (reachG p) ∧ Below w.heap.size w w' := by
  refine (implReaches_all v p w h hs hT).mono ?_
  rintro e w' ⟨u, rfl, hr, hb⟩
  obtain ⟨A, c, rfl, ho⟩ := hr.own
  exact ⟨A, c, rfl, ho, hb⟩

/-- The marks from k on stand in a table, and end at z. -/
def HdGrid (w : World) (lo hi : Nat) (v : Value) (R : GR) (k z : Int) : Prop := ∃ K : Nat, (k = K ∧ z = ((K + R.length * R.n : Nat) : Int) ∧ K ≤ 1048576 ∧ R.length ≤ 24 ∧ R.n ≤ 24) ∧ OwnGrid w lo hi v ⟨R.length, R.n, fun i j => mk3 (K + i * R.n + j)⟩
theorem HdGrid.below {w w' : World} {lo hi B : Nat} {v : Value} {R : GR} {k z : Int} (h : HdGrid w lo hi v R k z) (hb : Below B w w') (hB : hi ≤ B) : HdGrid w' lo hi v R k z := by
  obtain ⟨K, h1, h2⟩ := h
  exact ⟨K, h1, h2.below hb hB⟩
end Go.Proofs.YtokmmloakahkhaaDoor
/-
  The walk of the plain laws' wrRows, at two rows that read alike.
-/
namespace Go.Proofs.YtokmmloakahkhaaDoor
open Go.RowKit

set_option maxHeartbeats 4000000 in
set_option maxRecDepth 100000 in
theorem wrRows_any (va vb : Value) (R : List (List Int)) (w : World) (ha : RdRows w w.heap.size va R) (hb : RdRows w w.heap.size vb R) (hs : R.length ≤ 1048576) (hx : ∀ r ∈ R, r.length ≤ 1048576) :
    Calls Tryd.prog 21 #[va, vb] w fun e w' => e = .returned (.bool true) ∧ Below w.heap.size w w' := by
  have HX := Lib.hid ha
  have HY := Lib.hid hb
  have HS := Lib.hid hx
  obtain ⟨A, c, rfl, hc, _⟩ := ha
  obtain ⟨A2, c2, rfl, hc2, _⟩ := hb
  have hl1 : ((R.length : Int) != (R.length : Int)) = false := by simp
  clear hx
  go_enter Tryd.func21, Tryd.ntmps21
  go_wp2_with (fail)
  go_loopw [13] (fun i wr => ∃ k : Nat, k ≤ R.length ∧ i = .int .i64 k ∧ Below w.heap.size w wr) (fun i _ => R.length - (intOf i).toNat)
  case atStart => exact ⟨0, Nat.zero_le _, rfl, Below.refl _ _⟩
  case round =>
    obtain ⟨k, hk, rfl, hbe⟩ := hrel
    by_cases hlt : k < R.length
    · obtain ⟨b, o, A3, c3, rfl, hbB, k0, r3⟩ := (HX.out.on hbe).get hlt
      obtain ⟨b2, o2, A4, c4, rfl, hbB2, m0, r4⟩ := (HY.out.on hbe).get hlt
      have M0 := later_cell k0
      have M1 := later_cell m0
      have hsl := HS.out _ (List.getElem_mem hlt)
      have D1 := Lib.hid (fun x : Later wr => later_of (show Calls Tryd.prog 11 #[.slice A3 R[k].length c3, .slice A4 R[k].length c4] x.val fun e w' => e = .returned (.bool true) ∧ Below x.val.heap.size x.val w' from by
        have := wrInts_any (.slice A3 R[k].length c3) (.slice A4 R[k].length c4) R[k] R[k] x.val (r3.on x.2) (r4.on x.2) hsl hsl
        rw [show decide (R[k] = R[k]) = true by simp] at this
        exact this))
      have HBE := Lib.hid hbe
      clear k0 m0 hbe r3 r4
      go_upto_region 6 with fail
      go_cut [25] (fun s wx => s = .bool false ∧ Below wr.heap.size wr wx)
      case first =>
        refine wp_region_later (by kernel_rfl) (by kernel_rfl) ?_
        repeat (go_big_quiet_step ((go_at_call 11; exact D1.out _)))
        refine wpQuiet_nil ?_
        rintro _ ⟨xq, rfl⟩
        go_wp2_with (fail)
        go_meet
        exact ⟨rfl, xq.2⟩
      case rest =>
        obtain ⟨rfl, b8⟩ := hcut
        have HB8 := Lib.hid (bthen HBE.out b8)
        clear b8 M0 M1
        go_wp2_with fail
        go_roundw
        case rel => exact ⟨k + 1, by omega, by go_num, HB8.out⟩
        case measure => simp [intOf]; omega
    · go_wp2_with fail
      go_ret
      exact ⟨rfl, hbe⟩

end Go.Proofs.YtokmmloakahkhaaDoor
