/-
  Texts that the claim's last one imports, laid together: part 8 of 9. No condition of its own.
-/
import Derived.Test.YtokmmloakahkhaaDoorMLk2
import Derived.Test.YtokmmloakahkhaaDoorMLk5
import Derived.Test.YtokmmloakahkhaaDoorMLk6
import Derived.Test.YtokmmloakahkhaaDoorMLk7
/-
  The specification's table of what is reached: the walk of l5Reach.
-/
namespace Go.Proofs.YtokmmloakahkhaaDoor
open Go.RowKit

theorem Tryd.infoBoolS : (Tryd.prog.info? 38).map (fun i => (i.zero, i.size, i.bytes)) = some (some (.slice none 0 0), 1, 24) := by kernel_rfl
theorem nodup_inj {l : List Nat} (h : l.Nodup) {i j : Nat} (hi : i < l.length) (hj : j < l.length) (e : l[i] = l[j]) : i = j := by
  have h2 := List.pairwise_iff_getElem.1 h
  rcases Nat.lt_trichotomy i j with h3 | h3 | h3
  · exact absurd e (h2 i j hi hj h3)
  · exact h3
  · exact absurd e.symm (h2 j i hj hi h3)
def bRow (n r : Nat) : Value := .slice (some ⟨r, 0, none⟩) n n
/-- Rows of Booleans that grow: rs are the rows' blocks. -/
structure BGrid (lo : Nat) (w : World) (n : Nat) (T : Nat → Nat → Bool) (Ao : Option Addr) (co : Nat) (rs : List Nat) : Prop where
  heads : w.ownsRow lo 38 1 (.slice Ao rs.length co) rs.length (rs.map (bRow n))
  rows : ∀ i (h : i < rs.length), w.rowIs rs[i] 4 n (fun k => .bool (T i k))
  lo : ∀ r ∈ rs, lo ≤ r ∧ (Value.slice Ao rs.length co).ownBlock ≠ some r
  nodup : rs.Nodup
section
variable {lo n co : Nat} {w w' w4 : World} {T T' : Nat → Nat → Bool} {Ao : Option Addr} {rs : List Nat}
theorem BGrid.lt (h : BGrid lo w n T Ao co rs) : ∀ r ∈ rs, r < w.heap.size := fun r hr => by
  obtain ⟨i, hi, rfl⟩ := List.getElem_of_mem hr
  exact (h.rows i hi).lt
theorem BGrid.keep (h : BGrid lo w n T Ao co rs) (hk : ∀ b, b ∈ rs ∨ (Value.slice Ao rs.length co).ownBlock = some b → w'.heap[b]? = w.heap[b]?) : BGrid lo w' n T Ao co rs :=
  ⟨ownsRow_only h.heads fun b hb => hk b (.inr hb), fun i hi => (h.rows i hi).of_block (hk _ (.inl (List.getElem_mem hi))), h.lo, h.nodup⟩
theorem BGrid.below (h : BGrid lo w n T Ao co rs) (hb : Below w.heap.size w w') : BGrid lo w' n T Ao co rs :=
  h.keep fun b hb' => hb.block b (hb'.elim (h.lt b) fun h2 => (h.heads.lt b h2).2)
theorem BGrid.only {r : Nat} (h : BGrid lo w n T Ao co rs) (ho : Only r (r + 1) w w') (hr : w.heap.size ≤ r) : BGrid lo w' n T Ao co rs :=
  h.keep fun b hb' => by
    have hl : b < w.heap.size := hb'.elim (h.lt b) fun h2 => (h.heads.lt b h2).2
    exact ho.block b hl (by omega)
theorem BGrid.congr (h : BGrid lo w n T Ao co rs) (e : ∀ i k, i < rs.length → k < n → T i k = T' i k) : BGrid lo w n T' Ao co rs :=
  ⟨h.heads, fun i hi => (h.rows i hi).congr fun k hk => by rw [e i k hi hk], h.lo, h.nodup⟩
theorem BGrid.set {i k : Nat} (h : BGrid lo w n T Ao co rs) (hi : i < rs.length) (x : Bool) (hT : ∀ a b, T' a b = if a = i ∧ b = k then x else T a b) : BGrid lo (w.setCell ⟨rs[i], k, none⟩ (.bool x)) n T' Ao co rs := by
  refine ⟨ownsRow_only h.heads fun b hb => Below.heap_setCell _ _ _ _ (fun e => (h.lo _ (List.getElem_mem hi)).2 (by rw [hb, e])), fun j hj => ?_, h.lo, h.nodup⟩
  by_cases e : j = i
  · subst e
    refine ((h.rows j hj).set k (.bool x)).congr fun b _ => ?_
    rw [hT]
    by_cases e2 : b = k <;> simp [e2]
  · refine ((h.rows j hj).setOther (a := ⟨rs[i], k, none⟩) (fun e2 => e (nodup_inj h.nodup hj hi e2)) _).congr fun b _ => ?_
    rw [hT, if_neg (fun h => e h.1)]
theorem BGrid.push {r g2 cap : Nat} {o : Obj} (h : BGrid lo w n T Ao co rs) (hrow : w.rowIs r 4 n (fun k => .bool (T rs.length k))) (hr : lo ≤ r ∧ r ∉ rs ∧ (Value.slice Ao rs.length co).ownBlock ≠ some r)
    (hgr : (w.alloc o).grownBy w4 (Value.slice Ao rs.length co).ownBlock) (hat : (Value.slice Ao rs.length co).ownBlock = some g2 ∨ g2 = (w.alloc o).heap.size)
    (hown : w4.ownsRow lo 38 1 (.slice (some ⟨g2, 0, none⟩) (rs.length + 1) cap) (rs.length + 1) (rs.map (bRow n) ++ [bRow n r])) : BGrid lo w4 n T (some ⟨g2, 0, none⟩) cap (rs ++ [r]) := by
  have hg2 := grown_from_alloc hgr
  have hne : ∀ b, b ∈ rs ∨ b = r → b < w.heap.size ∧ (Value.slice Ao rs.length co).ownBlock ≠ some b := fun b hb => by
    rcases hb with hb | rfl
    · exact ⟨h.lt b hb, (h.lo b hb).2⟩
    · exact ⟨hrow.lt, hr.2.2⟩
  have hk : ∀ b, b ∈ rs ∨ b = r → w4.heap[b]? = w.heap[b]? := fun b hb => hg2.block b (hne b hb).1 (fun e => (hne b hb).2 e.symm)
  have hl : (rs ++ [r]).length = rs.length + 1 := by simp
  refine ⟨by rw [hl, List.map_append]; exact hown, fun i hi => ?_, fun b hb => ?_, ?_⟩
  · by_cases e : i < rs.length
    · rw [List.getElem_append_left e]
      exact (h.rows i e).of_block (hk _ (.inl (List.getElem_mem e)))
    · have e2 : i = rs.length := by omega
      subst e2
      rw [List.getElem_append_right (Nat.le_refl _)]
      simp only [Nat.sub_self, List.getElem_cons_zero]
      exact hrow.of_block (hk r (.inr rfl))
  · have hb' : b ∈ rs ∨ b = r := by simpa using hb
    refine ⟨hb'.elim (fun h1 => (h.lo b h1).1) fun e => e ▸ hr.1, fun e => ?_⟩
    have e1 : g2 = b := by simpa [Value.ownBlock] using e
    rcases hat with hat | hat
    · exact (hne b hb').2 (by rw [hat, e1])
    · have := (hne b hb').1
      simp at hat
      omega
  · rw [List.nodup_append]
    exact ⟨h.nodup, by simp, fun a ha b hb e => by rw [List.mem_singleton] at hb; exact hr.2.1 (by rw [← hb, ← e]; exact ha)⟩
theorem BGrid.head {g : Nat} (h : BGrid lo w n T (some ⟨g, 0, none⟩) co rs) {i : Nat} (hi : i < rs.length) : w.cell? ⟨g, i, none⟩ = some (.slice (some ⟨rs[i], 0, none⟩) n n) := by
  rw [h.heads.cellAt i (by omega), List.getElem?_map, List.getElem?_eq_getElem hi]
  rfl
theorem BGrid.form (h : BGrid lo w n T Ao co rs) (hn : 0 < rs.length) : ∃ g, Ao = some ⟨g, 0, none⟩ ∧ g < w.heap.size := by
  obtain ⟨g2, cap, e, _, h2⟩ := h.heads.form hn
  injection e with e1 _ _
  exact ⟨g2, e1, h2⟩
end

end Go.Proofs.YtokmmloakahkhaaDoor
/-
  The walk of l5Reach.
-/
namespace Go.Proofs.YtokmmloakahkhaaDoor
open Go.RowKit

set_option maxHeartbeats 4000000 in
set_option maxRecDepth 100000 in
theorem l5Reach_any (v : Value) (p : LProg) (w : World) (h : RdProg w w.heap.size v p) (hs : szP p ≤ 1048576) (hn : p.1.length ≤ 24) (hf : ∀ x ∈ asksOf p.2, AskFits p.1.length x) :
    Calls Tryd.prog 57 #[v] w fun e w' => ∃ Ao co rs, e = .returned (.slice Ao rs.length co) ∧ rs.length = p.1.length ∧ BGrid w.heap.size w' p.1.length (fwM (askT p) p.1.length) Ao co rs ∧ Below w.heap.size w w' := by
  obtain ⟨i0, hi0, hz0, hz1, hz2⟩ := info_parts Tryd.infoBoolS
  have HP := Lib.hid h
  obtain ⟨a, b, rfl, hA, hR⟩ := h
  obtain ⟨A, c, rfl, hcA, _⟩ := hA
  obtain ⟨A2, c2, rfl, hcR, _⟩ := hR
  have hmk2 := fun W => run_make_row' (P := Tryd.prog) 38 4 (.bool false) 1 Tryd.underlying38 Tryd.infoBool rfl .i64 .i64 p.1.length (by omega) (by omega) W
  have HL5 := Lib.hid (fun W (hW : Below w.heap.size w W) => l5Links_any _ p W (HP.out.on hW) hs hn hf)
  obtain ⟨T, hT⟩ : ∃ T, T = askT p := ⟨_, rfl⟩
  have HTC := Lib.hid (show ∀ i k, T i k = decide (0 < cellV (asksOf p.2) i k) from fun i k => by rw [hT]; rfl)
  obtain ⟨cv, hcv⟩ : ∃ cv, cv = cellV (asksOf p.2) := ⟨_, rfl⟩
  rw [← hcv] at HTC HL5
  obtain ⟨n, hne⟩ : ∃ n, n = p.1.length := ⟨_, rfl⟩
  rw [← hT]
  rw [← hne] at hmk2 hcA hn HL5 ⊢
  clear hne hT hcv hf
  go_enter Tryd.func57, Tryd.ntmps57
  go_upto_region 1 with fail
  obtain ⟨w1, hw1⟩ : ∃ w1, w1 = w.alloc (Obj.cells #[Value.slice A n c, Value.slice A2 p.2.length c2] 26) := ⟨_, rfl⟩
  have X1 : Blk w1 w.heap.size 26 #[.slice A n c, .slice A2 p.2.length c2] := by rw [hw1]; exact Blk.new _ _ _
  have B1 : Below w.heap.size w w1 := by rw [hw1]; exact below1 _ _
  rw [← hw1]
  clear hw1
  have x0 : w1.cell? ⟨w.heap.size, 0, none⟩ = some (.slice A n c) := X1.cell 0
  have x1 : w1.cell? ⟨w.heap.size, 1, none⟩ = some (.slice A2 p.2.length c2) := X1.cell 1
  have C1 := Lib.hid (HL5.out w1 B1)
  clear HL5 X1
  go_upto_region 2 with (go_at_call 54; refine C1.out.mono ?_; rintro e w2 ⟨g, rfl, g2, hwg, hgw, b2⟩; have HG2 := Lib.hid g2; have B2 := Lib.hid (bthen B1 b2); clear g2 b2)
  have hwg2 : w.heap.size ≤ g := Nat.le_trans B1.size hwg
  clear x0 x1 C1
  go_upto_region 3 with fail
  obtain ⟨w3, hw3⟩ : ∃ w3, w3 = w2.alloc (Obj.cells #[] 38) := ⟨_, rfl⟩
  obtain ⟨lo, hlo⟩ : ∃ lo, lo = w2.heap.size := ⟨_, rfl⟩
  have HB3 := Lib.hid (show BGrid lo w3 n T (some ⟨lo, 0, none⟩) 0 [] from by
    rw [hw3, hlo]
    exact ⟨World.ownsRow_made w2 #[] 0 (Nat.le_refl _) (by decide) rfl, fun i h => absurd h (Nat.not_lt_zero _), fun r hr => (by cases hr), List.nodup_nil⟩)
  have B3 : Below lo w2 w3 := by rw [hw3, hlo]; exact below1 _ _
  have hs3 : w3.heap.size = lo + 1 := by rw [hw3, hlo]; simp
  rw [← hw3, ← hlo]
  have hglo : g + 1 + n ≤ lo := by rw [hlo]; exact hgw
  have HG3 := Lib.hid (HG2.out.below B3 hglo)
  have hwlo : w.heap.size ≤ lo := by rw [hlo]; exact B2.out.size
  have HB23 := Lib.hid (show Below w.heap.size w w3 from B2.out.trans (B3.mono hwlo))
  clear hw3 hlo B3 HG2 hgw hwg
  go_wp2_with fail
  go_loopw [4, 5] (fun o i wr => ∃ (k : Nat) (Ao : Option Addr) (co : Nat) (rs : List Nat), k ≤ n ∧ i = .int .i64 k ∧ o = .slice Ao rs.length co ∧ rs.length = k ∧ BGrid lo wr n T Ao co rs ∧ Below lo w3 wr) (fun _ i _ => n - (intOf i).toNat)
  case atStart => exact ⟨0, some ⟨lo, 0, none⟩, 0, [], Nat.zero_le _, rfl, rfl, rfl, HB3.out, Below.refl _ _⟩
  case round =>
    obtain ⟨k, Ao, co, rs, hk, rfl, rfl, hrl, hbg, hbe⟩ := hrel
    have HBG := Lib.hid hbg
    have HBE := Lib.hid hbe
    have HRL := Lib.hid hrl
    have hsz := hbe.size
    clear hbg hbe hrl
    by_cases hlt : k < n
    · obtain ⟨wo, rfl⟩ : ∃ wo, wo = wr := ⟨_, rfl⟩
      go_upto_region 7 with fail
      obtain ⟨wa, hwa⟩ : ∃ wa, wa = wo.alloc (Obj.cells (madeCells #[Value.bool false] n) 4) := ⟨_, rfl⟩
      obtain ⟨r, hr⟩ : ∃ r, r = wo.heap.size := ⟨_, rfl⟩
      have RA : wa.rowIs r 4 n (fun _ => .bool false) := by rw [hwa, hr]; exact World.rowIs_made _ _ _ _
      have BA : Below wo.heap.size wo wa := by rw [hwa]; exact below1 _ _
      have hsa : wa.heap.size = r + 1 := by rw [hwa, hr]; simp
      rw [← hwa, ← hr]
      have HBGA := Lib.hid (HBG.out.below BA)
      have HBA := Lib.hid BA
      have HR := Lib.hid hr
      have HRA := Lib.hid RA
      have hlor : lo < r := by omega
      clear hwa hr RA BA
      go_wp2_with fail
      go_loopw [7] (fun i wr => ∃ m : Nat, m ≤ n ∧ i = .int .i64 m ∧ wr.rowIs r 4 n (fun j => if j < m then .bool (T k j) else .bool false) ∧ Only r (r + 1) wa wr) (fun i _ => n - (intOf i).toNat)
      case atStart => exact ⟨0, Nat.zero_le _, rfl, HRA.out.congr (fun j _ => by simp), Only.refl _ _ _⟩
      case round =>
        obtain ⟨m, hm, rfl, hrow, hon⟩ := hrel
        have HON := Lib.hid hon
        have HROW := Lib.hid hrow
        by_cases hlm : m < n
        · have BWR : Below lo w3 wr := HBE.out.trans ((HBA.out.mono (by omega)).trans (hon.below (by omega) (by omega)))
          have HGR := HG3.out.below (B := lo) BWR hglo
          have z2 : wr.cell? ⟨g, k, none⟩ = some (.slice (some ⟨g + 1 + k, 0, none⟩) n n) := HGR.head hlt
          have z3 : wr.cell? ⟨g + 1 + k, m, none⟩ = some (.int .i64 ((cv k m : Nat) : Int)) := HGR.cell hlt hlm
          have q1 := hrow.cell hlm
          rw [if_neg (Nat.lt_irrefl m)] at q1
          have f1 := hrow.frozen m
          obtain ⟨t, ht⟩ : ∃ t, t = cv k m := ⟨_, rfl⟩
          rw [← ht] at z3
          have hbt : decide (0 < t) = T k m := by rw [HTC.out, ht]
          have HN := Lib.hid (show (wr.setCell ⟨r, m, none⟩ (.bool (decide (0 < t)))).rowIs r 4 n (fun j => if j < m + 1 then .bool (T k j) else .bool false) ∧ Only r (r + 1) wa (wr.setCell ⟨r, m, none⟩ (.bool (decide (0 < t)))) from by
            refine ⟨(hrow.set m (.bool (decide (0 < t)))).congr fun j _ => ?_, hon.setCell ⟨Nat.le_refl _, Nat.lt_succ_self _⟩ _⟩
            by_cases e : j = m
            · subst e
              rw [if_pos rfl, if_pos (by omega), hbt]
            · rw [if_neg e]
              by_cases e2 : j < m
              · rw [if_pos e2, if_pos (by omega)]
              · rw [if_neg e2, if_neg (by omega)])
          clear hrow hon HGR BWR hbt ht
          go_wp2_with fail
          go_roundw
          case rel => exact ⟨m + 1, by omega, by go_num, HN.out.1, HN.out.2⟩
          case measure => simp [intOf]; omega
        · have HROW2 := Lib.hid (show wr.rowIs r 4 n (fun j => .bool (T k j)) from hrow.congr fun j hj => by rw [if_pos (by omega)])
          have HBG2 := Lib.hid (HBGA.out.keep (w' := wr) fun b hb => by
            have hl : b < wo.heap.size := hb.elim (HBG.out.lt b) fun h2 => (HBG.out.heads.lt b h2).2
            have := HR.out
            have := HBA.out.size
            exact hon.block b (by omega) (.inl (by omega)))
          have HLR := Lib.hid (show lo ≤ r ∧ r ∉ rs ∧ (Value.slice Ao rs.length co).ownBlock ≠ some r from by
            have := HR.out
            exact ⟨by omega, fun e => by have := HBG.out.lt r e; omega, fun e => by have := (HBG.out.heads.lt r e).2; omega⟩)
          have hrn : rs.length ≤ 24 := by have := HRL.out; omega
          have hszr : r < wr.heap.size := hrow.lt
          obtain ⟨w4, rfl⟩ : ∃ w4, w4 = wr := ⟨_, rfl⟩
          clear hrow hon
          go_wp2_with (at_builtin; refine wpList_append_lies _ rfl (.tmp 40) (.tmp 42) 32 rfl lo 38 i0 (.slice none 0 0) 1 24 Tryd.underlying32 hi0 hz0 hz1 hz2 rfl (by decide) (.slice Ao rs.length co) rs.length (rs.map (bRow n)) rfl ?c1 ⟨w4.heap.size, 0, none⟩ 1 1 [bRow n r] rfl rfl (cell_one_new _ _ _) ?c2 (by omega) (by unfold maxLen; omega) (by omega) ?c3 _ rfl ?_)
          case c1 => exact HBG2.out.heads.alloc _
          case c2 => intro u hu; simp at hu; subst hu; rfl
          case c3 => simp; omega
          intro g5 cap w6 hown hgr hat _
          have HPU := Lib.hid (HBG2.out.push (T := T) (by have := HROW2.out; rw [HRL.out]; exact this) HLR.out hgr (by simpa using hat) hown)
          have HB6 := Lib.hid (show Below lo w4 w6 from by
            have hg2 := grown_from_alloc hgr
            have hnl := HBG2.out.heads.lt
            exact ⟨hg2.os, hg2.tape, hg2.output, hg2.size, fun b hb => hg2.block b (by have := hszr; omega) (fun e => by have := (hnl b e.symm).1; omega)⟩)
          clear hown hgr hat
          go_wp2_with fail
          go_roundw
          case rel =>
            refine ⟨k + 1, _, _, rs ++ [r], by omega, by go_num, by simp, by rw [List.length_append, HRL.out]; rfl, HPU.out, ?_⟩
            exact HBE.out.trans ((HBA.out.mono (by omega)).trans ((HON.out.below (by omega) (by have := HBA.out.size; omega)).trans HB6.out))
          case measure => simp [intOf]; omega
    · have hkn : k = n := by omega
      have HRN := Lib.hid (show rs.length = n from HRL.out.trans hkn)
      obtain ⟨w7, rfl⟩ : ∃ w7, w7 = wr := ⟨_, rfl⟩
      clear hk
      go_wp2_with fail
      go_loopw [8] (fun i wr => ∃ m : Nat, m ≤ n ∧ i = .int .i64 m ∧ BGrid lo wr n (fwM T m) Ao co rs ∧ Below lo w7 wr) (fun i _ => n - (intOf i).toNat)
      case atStart => exact ⟨0, Nat.zero_le _, rfl, HBG.out, Below.refl _ _⟩
      case round =>
        obtain ⟨m, hm, rfl, hbg, hbe⟩ := hrel
        have HBM := Lib.hid hbg
        have HBEM := Lib.hid hbe
        clear hbg hbe
        by_cases hlm : m < rs.length
        · have hmn : m < n := by have := HRN.out; omega
          obtain ⟨gx, rfl, hgx⟩ := HBM.out.form (by omega)
          obtain ⟨w8, rfl⟩ : ∃ w8, w8 = wr := ⟨_, rfl⟩
          obtain ⟨M, hM⟩ : ∃ M, M = fwM T m := ⟨_, rfl⟩
          have HM := Lib.hid hM
          rw [← hM] at HBM
          clear hM hgx
          go_wp2_with fail
          go_loopw [9] (fun i wr => ∃ a : Nat, a ≤ n ∧ i = .int .i64 a ∧ BGrid lo wr n (fwU M m a 0) (some ⟨gx, 0, none⟩) co rs ∧ Below lo w7 wr) (fun i _ => n - (intOf i).toNat)
          case atStart => exact ⟨0, Nat.zero_le _, rfl, by rw [fwU_zero]; exact HBM.out, HBEM.out⟩
          case round =>
            obtain ⟨a, ha, rfl, hba, hea⟩ := hrel
            have HBA := Lib.hid hba
            have HEA := Lib.hid hea
            clear hba hea
            by_cases hla : a < rs.length
            · have han : a < n := by have := HRN.out; omega
              obtain ⟨w9, rfl⟩ : ∃ w9, w9 = wr := ⟨_, rfl⟩
              obtain ⟨ra, hra⟩ : ∃ ra, ra = rs[a] := ⟨_, rfl⟩
              obtain ⟨rm, hrm⟩ : ∃ rm, rm = rs[m] := ⟨_, rfl⟩
              have HRA := Lib.hid hra
              have HRM := Lib.hid hrm
              have hlra : lo ≤ ra := by rw [hra]; exact (HBA.out.lo _ (List.getElem_mem hla)).1
              obtain ⟨b1, hb1⟩ : ∃ b1, b1 = M a m := ⟨_, rfl⟩
              have HB1 := Lib.hid hb1
              clear hra hrm hb1
              go_wp2_with fail
              go_loopw [10] (fun i wr => ∃ b : Nat, b ≤ n ∧ i = .int .i64 b ∧ BGrid lo wr n (fwU M m a b) (some ⟨gx, 0, none⟩) co rs ∧ Below lo w7 wr) (fun i _ => n - (intOf i).toNat)
              case atStart => exact ⟨0, Nat.zero_le _, rfl, HBA.out, HEA.out⟩
              case round =>
                obtain ⟨b, hb, rfl, hbb, heb⟩ := hrel
                have HBB := Lib.hid hbb
                have HEB := Lib.hid heb
                by_cases hlb : b < rs.length
                · have hbn : b < n := by have := HRN.out; omega
                  obtain ⟨b2, hb2⟩ : ∃ b2, b2 = M m b := ⟨_, rfl⟩
                  have z1 : wr.cell? ⟨gx, a, none⟩ = some (.slice (some ⟨ra, 0, none⟩) n n) := by rw [HRA.out]; exact hbb.head hla
                  have z2 : wr.cell? ⟨ra, m, none⟩ = some (.bool b1) := by rw [HRA.out, (hbb.rows a hla).cell hmn, fwU_left, HB1.out]
                  have z3 : wr.cell? ⟨gx, m, none⟩ = some (.slice (some ⟨rm, 0, none⟩) n n) := by rw [HRM.out]; exact hbb.head hlm
                  have z4 : wr.cell? ⟨rm, b, none⟩ = some (.bool b2) := by rw [HRM.out, (hbb.rows m hlm).cell hbn, fwU_right, hb2]
                  obtain ⟨u0, z5⟩ : ∃ u0, wr.cell? ⟨ra, b, none⟩ = some (.bool u0) := ⟨_, by rw [HRA.out]; exact (hbb.rows a hla).cell hbn⟩
                  have f5 : wr.frozen? ⟨ra, b, none⟩ = false := by rw [HRA.out]; exact (hbb.rows a hla).frozen b
                  have HB2 := Lib.hid hb2
                  clear hbb heb hb2
                  cases b1
                  · have HSK := Lib.hid (fwU_skip (T := M) (m := m) (i := a) (k := b) (by rw [← HB1.out, Bool.false_and]))
                    go_wp2_with fail
                    go_roundw
                    case rel => exact ⟨b + 1, by omega, by go_num, by rw [HSK.out]; exact HBB.out, HEB.out⟩
                    case measure => simp [intOf]; omega
                  · cases b2
                    · have HSK := Lib.hid (fwU_skip (T := M) (m := m) (i := a) (k := b) (by rw [← HB2.out, Bool.and_false]))
                      go_wp2_with fail
                      go_roundw
                      case rel => exact ⟨b + 1, by omega, by go_num, by rw [HSK.out]; exact HBB.out, HEB.out⟩
                      case measure => simp [intOf]; omega
                    · have HST := Lib.hid (show BGrid lo (wr.setCell ⟨ra, b, none⟩ (.bool true)) n (fwU M m a (b + 1)) (some ⟨gx, 0, none⟩) co rs ∧ Below lo w7 (wr.setCell ⟨ra, b, none⟩ (.bool true)) from by
                        refine ⟨?_, HEB.out.setCell (by show lo ≤ ra; exact hlra) _⟩
                        rw [HRA.out]
                        exact HBB.out.set hla true fun x y => by rw [fwU_step, ← HB1.out, ← HB2.out]; simp)
                      go_wp2_with fail
                      go_roundw
                      case rel => exact ⟨b + 1, by omega, by go_num, HST.out.1, HST.out.2⟩
                      case measure => simp [intOf]; omega
                · have HBN := Lib.hid (show BGrid lo wr n (fwU M m (a + 1) 0) (some ⟨gx, 0, none⟩) co rs from by
                    obtain rfl : b = n := by have := HRN.out; omega
                    exact hbb.congr fun x y _ hy => fwU_row x y hy)
                  clear hbb heb
                  go_wp2_with fail
                  go_roundw
                  case rel => exact ⟨a + 1, by omega, by go_num, HBN.out, HEB.out⟩
                  case measure => simp [intOf]; omega
            · have HBN := Lib.hid (show BGrid lo wr n (fwM T (m + 1)) (some ⟨gx, 0, none⟩) co rs from by
                obtain rfl : a = n := by have := HRN.out; omega
                exact HBA.out.congr fun x y hx _ => by rw [HM.out]; exact fwU_all x y (by have := HRN.out; omega))
              go_wp2_with fail
              go_roundw
              case rel => exact ⟨m + 1, by omega, by go_num, HBN.out, HEA.out⟩
              case measure => simp [intOf]; omega
        · have hme : m = n := by have := HRN.out; omega
          have HBN := Lib.hid (show BGrid lo wr n (fwM T n) Ao co rs from by
            have e : fwM T n = fwM T m := by rw [hme]
            rw [e]
            exact HBM.out)
          clear hme
          go_wp2_with fail
          go_ret
          refine ⟨Ao, co, rs, rfl, HRN.out, ?_, HB23.out.trans ((HBE.out.trans HBEM.out).mono hwlo)⟩
          have hfin := HBN.out
          exact ⟨ownsRow_mono hfin.heads hwlo, hfin.rows, fun r hr => ⟨Nat.le_trans hwlo (hfin.lo r hr).1, (hfin.lo r hr).2⟩, hfin.nodup⟩

end Go.Proofs.YtokmmloakahkhaaDoor
/-
  The walk of the specification's Recursive.
-/
namespace Go.Proofs.YtokmmloakahkhaaDoor
open Go.RowKit

set_option maxHeartbeats 4000000 in
set_option maxRecDepth 100000 in
theorem specRecursive_any (v : Value) (p : LProg) (x : Int) (w : World) (h : RdProg w w.heap.size v p) (hs : szP p ≤ 1048576) :
    Calls Tryd.prog 26 #[v, .int .i64 x] w fun e w' => e = .returned (.bool (recL p x)) ∧ Below w.heap.size w w' := by
  have HP := Lib.hid h
  obtain ⟨a, b, rfl, hA, hR⟩ := h
  obtain ⟨A, c, rfl, hcA, _⟩ := hA
  obtain ⟨A2, c2, rfl, hcR, _⟩ := hR
  have hn0 : p.1.length ≤ 1048576 := by unfold szP at hs; omega
  obtain ⟨R, hRR⟩ : ∃ R, R = recL p x := ⟨_, rfl⟩
  have HRR := Lib.hid hRR
  rw [← hRR]
  clear hRR
  obtain ⟨po, hpo⟩ : ∃ po, po = progOk p := ⟨_, rfl⟩
  have HPO := Lib.hid hpo
  obtain ⟨n, hn⟩ : ∃ n, n = p.1.length := ⟨_, rfl⟩
  have HNE := Lib.hid hn
  rw [← hn] at hcA hn0 ⊢
  clear hpo hn
  go_enter Tryd.func26, Tryd.ntmps26
  go_upto_region 1 with fail
  obtain ⟨w1, hw1⟩ : ∃ w1, w1 = w.alloc (Obj.cells #[Value.slice A n c, Value.slice A2 p.2.length c2] 26) := ⟨_, rfl⟩
  have X1 : Blk w1 w.heap.size 26 #[.slice A n c, .slice A2 p.2.length c2] := by rw [hw1]; exact Blk.new _ _ _
  have B1 : Below w.heap.size w w1 := by rw [hw1]; exact below1 _ _
  rw [← hw1]
  clear hw1
  have x0 : w1.cell? ⟨w.heap.size, 0, none⟩ = some (.slice A n c) := X1.cell 0
  have x1 : w1.cell? ⟨w.heap.size, 1, none⟩ = some (.slice A2 p.2.length c2) := X1.cell 1
  have HX1 := Lib.hid X1
  have CP := Lib.hid ((specProgramOk_any _ p w1 (HP.out.on B1) hs).mono fun e w' (hh : e = .returned (.bool (progOk p)) ∧ Below w1.heap.size w1 w') => (⟨by rw [hh.1, HPO.out], hh.2⟩ : e = .returned (.bool po) ∧ Below w1.heap.size w1 w'))
  rw [← HNE.out] at CP
  have hwr : IntKind.i64.wrap ((n : Int) - 1) = (n : Int) - 1 := by unfold IntKind.wrap; simp [IntKind.bits, IntKind.signed]; omega
  clear X1
  cases po
  · go_wp2_with (go_at_call 13; refine CP.out.mono ?_; rintro e w2 ⟨rfl, b2⟩; have B2 := Lib.hid (bthen B1 b2); clear b2)
    go_ret
    exact ⟨ret_bool (by rw [HRR.out]; unfold recL; rw [← HPO.out]; rfl), B2.out⟩
  · obtain ⟨hn24, hf⟩ := asksOf_fits HPO.out.symm
    have HL := Lib.hid (fun W (hW : Below w.heap.size w W) => l5Reach_any _ p W (HP.out.on hW) hs hn24 hf)
    rw [← HNE.out] at HL hn24
    have HR2 := Lib.hid (show R = (decide (0 ≤ x) && (decide (x < (n : Int)) && (reachP p x.toNat).testBit x.toNat)) by rw [HRR.out, HNE.out]; unfold recL; rw [← HPO.out]; rfl)
    clear hf
    obtain ⟨b0, hb0⟩ : ∃ b0, b0 = decide (0 ≤ x ∧ x ≤ (n : Int) - 1) := ⟨_, rfl⟩
    have HB0 := Lib.hid hb0
    have CI := Lib.hid (fun W => (l1In_any x 0 ((n : Int) - 1) W).mono fun e w' (hh : e = .returned (.bool (decide (0 ≤ x ∧ x ≤ (n : Int) - 1))) ∧ W = w') => (⟨by rw [hh.1, hb0], hh.2⟩ : e = .returned (.bool b0) ∧ W = w'))
    clear hb0
    cases b0
    · go_wp2_with (first
        | (go_at_call 13; refine CP.out.mono ?_; rintro e w2 ⟨rfl, b2⟩; have B2 := Lib.hid (bthen B1 b2); have HX2 := Lib.hid (HX1.out.below b2 HX1.out.lt); have x20 : w2.cell? ⟨w.heap.size, 0, none⟩ = some (.slice A n c) := HX2.out.cell 0; clear b2)
        | (go_at_call 58; refine (CI.out _).mono ?_; rintro e w3 ⟨rfl, rfl⟩))
      go_ret
      refine ⟨ret_bool ?_, B2.out⟩
      rw [HR2.out]
      have := HB0.out
      simp at this ⊢
      intro h1 h2
      have := this h1
      omega
    · have hx : 0 ≤ x ∧ x ≤ (n : Int) - 1 := of_decide_eq_true HB0.out.symm
      obtain ⟨q, rfl⟩ : ∃ q : Nat, x = (q : Int) := ⟨x.toNat, by omega⟩
      have hqn : q < n := by omega
      obtain ⟨u, hu⟩ : ∃ u, u = (reachP p q).testBit q := ⟨_, rfl⟩
      have HU := Lib.hid hu
      have HUF := Lib.hid (show u = fwM (askT p) n q q by rw [hu, HNE.out]; exact reach_fw HPO.out.symm (by rw [← HNE.out]; exact hqn) q)
      clear hu hx
      go_wp2_with (first
        | (go_at_call 13; refine CP.out.mono ?_; rintro e w2 ⟨rfl, b2⟩; have B2 := Lib.hid (bthen B1 b2); have HX2 := Lib.hid (HX1.out.below b2 HX1.out.lt); have x20 : w2.cell? ⟨w.heap.size, 0, none⟩ = some (.slice A n c) := HX2.out.cell 0; have x21 : w2.cell? ⟨w.heap.size, 1, none⟩ = some (.slice A2 p.2.length c2) := HX2.out.cell 1; clear b2)
        | (go_at_call 58; refine (CI.out _).mono ?_; rintro e w3 ⟨rfl, rfl⟩)
        | (go_at_call 57; refine (HL.out _ B2.out).mono ?_; rintro e w4 ⟨Ao, co, rs, rfl, hrn, hbg, b4⟩
           have hqr : q < rs.length := (by omega)
           obtain ⟨gx, rfl, hgx⟩ := hbg.form (by omega)
           obtain ⟨rq, hrq⟩ : ∃ rq, rq = rs[q] := ⟨_, rfl⟩
           have z1 : w4.cell? ⟨gx, q, none⟩ = some (.slice (some ⟨rq, 0, none⟩) n n) := (by rw [hrq]; exact hbg.head hqr)
           have z2 : w4.cell? ⟨rq, q, none⟩ = some (.bool u) := (by rw [hrq, (hbg.rows q hqr).cell hqn, HUF.out])
           have B4 := Lib.hid (bthen B2.out b4)
           clear hrn hbg b4 hrq))
      go_ret
      refine ⟨ret_bool ?_, B4.out⟩
      rw [HR2.out, HU.out]
      simp [hqn]

end Go.Proofs.YtokmmloakahkhaaDoor
/-
  Layers: the least ones, group by group; plain mathematics.
-/
namespace Go.Proofs.YtokmmloakahkhaaDoor

def maxTo (f : Nat → Nat) (l : List Nat) (b : Nat) : Nat := l.foldl (fun m x => max m (f x)) b
theorem maxTo_snoc (f : Nat → Nat) (l : List Nat) (x b : Nat) : maxTo f (l ++ [x]) b = max (maxTo f l b) (f x) := by simp [maxTo]
theorem maxTo_le {f : Nat → Nat} {c : Nat} : ∀ {l : List Nat} {b : Nat}, b ≤ c → (∀ x ∈ l, f x ≤ c) → maxTo f l b ≤ c
  | [], _, h, _ => h
  | x :: l, b, h, hx => by
    show maxTo f l (max b (f x)) ≤ c
    exact maxTo_le (Nat.max_le.2 ⟨h, hx x List.mem_cons_self⟩) fun y hy => hx y (List.mem_cons_of_mem _ hy)
theorem maxTo_base {f : Nat → Nat} : ∀ (l : List Nat) (b : Nat), b ≤ maxTo f l b
  | [], _ => Nat.le_refl _
  | x :: l, b => by
    show b ≤ maxTo f l (max b (f x))
    exact Nat.le_trans (Nat.le_max_left _ _) (maxTo_base l _)
theorem maxTo_ge {f : Nat → Nat} : ∀ {l : List Nat} {b x : Nat}, x ∈ l → f x ≤ maxTo f l b
  | y :: l, b, x, h => by
    show f x ≤ maxTo f l (max b (f y))
    rcases List.mem_cons.1 h with rfl | h
    · exact Nat.le_trans (Nat.le_max_right _ _) (maxTo_base l _)
    · exact maxTo_ge h
/-- The least layer of a predicate, by layers of those that it asks. -/
def leastL (yw nw : Nat → Nat) (lay : List Nat) (p : Nat) : Nat := maxTo (fun x => lay.getD x 0 + 1) (bitsN (nw p)) (maxTo (fun x => lay.getD x 0) (bitsN (yw p)) 0)
/-- A predicate of the group denies one of it. -/
def denies (nw : Nat → Nat) (g p : Nat) : Bool := nw p &&& g != 0
def groupL (yw nw : Nat → Nat) (lay : List Nat) (g : Nat) : Option (List Nat) :=
  if (bitsN g).any (denies nw g) then none else some (setAll lay (bitsN g) (maxTo (leastL yw nw lay) (bitsN g) 0))
def groupsL (yw nw : Nat → Nat) : List Nat → List Nat → Option (List Nat)
  | [], lay => some lay
  | g :: gs, lay => match groupL yw nw lay g with
    | none => none
    | some l => groupsL yw nw gs l
/-- Layers that fit. -/
def FitLay (yw nw : Nat → Nat) (n : Nat) (f : Nat → Nat) : Prop := ∀ u, u < n → (∀ x, has (yw u) x → f x ≤ f u) ∧ ∀ x, has (nw u) x → f x < f u
theorem FitLay.rch {yw nw ask : Nat → Nat} {n : Nat} {f : Nat → Nat} (h : FitLay yw nw n f) (ha : ∀ u x, has (ask u) x → has (yw u) x ∨ has (nw u) x) (hn : ∀ u x, has (ask u) x → x < n) : ∀ {u v : Nat}, u < n → Rch ask u v → f v ≤ f u := by
  have hstep : ∀ {u v : Nat}, u < n → has (ask u) v → f v ≤ f u := fun {u v} hu hv => by
    rcases ha u v hv with h1 | h1
    · exact (h u hu).1 v h1
    · exact Nat.le_of_lt ((h u hu).2 v h1)
  intro u v hu hr
  induction hr with
  | one h1 => exact hstep hu h1
  | step h1 _ ih => exact Nat.le_trans (ih (hn _ _ h1)) (hstep hu h1)
/-- After some of the groups. -/
structure LayInv (yw nw : Nat → Nat) (n : Nat) (gs : List Nat) (lay : List Nat) : Prop where
  len : lay.length = n
  fit : ∀ g ∈ gs, ∀ u, has g u → (∀ x, has (yw u) x → lay.getD x 0 ≤ lay.getD u 0) ∧ ∀ x, has (nw u) x → lay.getD x 0 < lay.getD u 0
  least : ∀ f, FitLay yw nw n f → ∀ g ∈ gs, ∀ u, has g u → lay.getD u 0 ≤ f u
  few : ∀ u, lay.getD u 0 ≤ gs.length
  zero : ∀ u, (∀ g ∈ gs, ¬ has g u) → lay.getD u 0 = 0
theorem LayInv.start (yw nw : Nat → Nat) (n : Nat) : LayInv yw nw n [] (List.replicate n 0) where
  len := by simp
  fit g hg := by cases hg
  least f _ g hg := by cases hg
  few u := by simp [List.getD_eq_getElem?_getD, List.getElem?_replicate]
              split <;> simp
  zero u _ := by simp [List.getD_eq_getElem?_getD, List.getElem?_replicate]
                 split <;> simp
/-- What the groups are to the links. -/
structure GroupsOk (yw nw ask : Nat → Nat) (n : Nat) (gs : List Nat) : Prop where
  asks : ∀ u x, has (ask u) x ↔ has (yw u) x ∨ has (nw u) x
  lim : ∀ u x, has (ask u) x → x < n
  n64 : n ≤ 24
  mem : ∀ g ∈ gs, ∀ u, has g u → u < n
  some : ∀ g ∈ gs, ∃ u, has g u
  tied : ∀ g ∈ gs, ∀ u v, has g u → has g v → u = v ∨ Rch ask u v
  apart : gs.Pairwise Apart
  order : ∀ i (h : i < gs.length) u x, has gs[i] u → has (ask u) x → ∃ j, ∃ h : j < gs.length, j ≤ i ∧ has gs[j] x
theorem denies_iff {nw : Nat → Nat} {g p : Nat} : denies nw g p = true ↔ ∃ x, has (nw p) x ∧ has g x := by
  unfold denies
  rw [bne_iff_ne]
  constructor
  · intro h
    apply Classical.byContradiction
    intro hc
    refine h (Nat.eq_of_testBit_eq fun i => ?_)
    rw [Nat.testBit_and, Nat.zero_testBit]
    cases h1 : (nw p).testBit i
    · rfl
    · cases h2 : g.testBit i
      · rfl
      · exact absurd ⟨i, h1, h2⟩ hc
  · rintro ⟨x, h1, h2⟩ e
    have := congrArg (fun y => y.testBit x) e
    simp only [Nat.testBit_and, Nat.zero_testBit] at this
    rw [h1, h2] at this
    cases this
section
variable {yw nw ask : Nat → Nat} {n : Nat} {gs : List Nat} {lay : List Nat}
theorem groupL_step (h : GroupsOk yw nw ask n gs) {k : Nat} (hk : k < gs.length) (hi : LayInv yw nw n (gs.take k) lay) : (∀ l, groupL yw nw lay gs[k] = some l → LayInv yw nw n (gs.take (k + 1)) l) ∧ (groupL yw nw lay gs[k] = none → ∀ f, ¬ FitLay yw nw n f) := by
  have hgm : gs[k] ∈ gs := List.getElem_mem hk
  have hb : ∀ u, u ∈ bitsN gs[k] ↔ has gs[k] u := fun u => by
    rw [bitsN_mem]
    exact ⟨fun h => h.2, fun hu => ⟨by have := h.mem _ hgm u hu; have := h.n64; omega, hu⟩⟩
  have hyb : ∀ u x, x ∈ bitsN (yw u) ↔ has (yw u) x := fun u x => by
    rw [bitsN_mem]
    exact ⟨fun h => h.2, fun hu => ⟨by have := h.lim u x ((h.asks u x).2 (.inl hu)); have := h.n64; omega, hu⟩⟩
  have hnb : ∀ u x, x ∈ bitsN (nw u) ↔ has (nw u) x := fun u x => by
    rw [bitsN_mem]
    exact ⟨fun h => h.2, fun hu => ⟨by have := h.lim u x ((h.asks u x).2 (.inr hu)); have := h.n64; omega, hu⟩⟩
  have htake : ∀ g, g ∈ gs.take (k + 1) ↔ g ∈ gs.take k ∨ g = gs[k] := fun g => by
    rw [List.take_succ_eq_append_getElem hk, List.mem_append, List.mem_singleton]
  -- the groups ahead are apart from this one
  have hap : ∀ g ∈ gs.take k, Apart g gs[k] := fun g hg => by
    obtain ⟨j, hj, e⟩ := List.getElem_of_mem hg
    rw [List.getElem_take] at e
    rw [← e]
    simp only [List.length_take] at hj
    exact List.pairwise_iff_getElem.1 h.apart j k (by omega) hk (by omega)
  have hz : ∀ u, has gs[k] u → lay.getD u 0 = 0 := fun u hu => hi.zero u fun g hg hgu => hap g hg u hgu hu
  have hask : ∀ u x, has gs[k] u → has (ask u) x → (∃ g ∈ gs.take k, has g x) ∨ has gs[k] x := fun u x hu hx => by
    obtain ⟨j, hj, hjk, hjx⟩ := h.order k hk u x hu hx
    by_cases e : j = k
    · subst e; exact .inr hjx
    · exact .inl ⟨gs[j], by
        have : j < (gs.take k).length := by simp; omega
        have e2 : (gs.take k)[j] = gs[j] := List.getElem_take
        exact e2 ▸ List.getElem_mem this, hjx⟩
  constructor
  · intro l hl
    unfold groupL at hl
    split at hl
    · cases hl
    · rename_i hd
      obtain ⟨m, hm⟩ : ∃ m, m = maxTo (leastL yw nw lay) (bitsN gs[k]) 0 := ⟨_, rfl⟩
      rw [← hm] at hl
      obtain rfl : setAll lay (bitsN gs[k]) m = l := by simpa using hl
      have hno : ∀ u, has gs[k] u → ∀ x, has (nw u) x → ¬ has gs[k] x := fun u hu x hx hgx => hd (List.any_eq_true.2 ⟨u, (hb u).2 hu, denies_iff.2 ⟨x, hx, hgx⟩⟩)
      have hat : ∀ u, u < n → (setAll lay (bitsN gs[k]) m).getD u 0 = if has gs[k] u then m else lay.getD u 0 := fun u hu => by
        rw [setAll_at m u _ _ (by rw [hi.len]; exact hu)]
        by_cases e : has gs[k] u
        · rw [if_pos ((hb u).2 e), if_pos e]
        · rw [if_neg (fun e2 => e ((hb u).1 e2)), if_neg e]
      have hge : ∀ u, ¬ u < n → (setAll lay (bitsN gs[k]) m).getD u 0 = 0 := fun u hu => by
        rw [List.getD_eq_getElem?_getD, List.getElem?_eq_none (by rw [setAll_len, hi.len]; omega)]
        rfl
      have hin : ∀ g ∈ gs.take k, ∀ u, has g u → u < n ∧ ¬ has gs[k] u := fun g hg u hu => ⟨h.mem g (List.mem_of_mem_take hg) u hu, fun e => hap g hg u hu e⟩
      have hold : ∀ g ∈ gs.take k, ∀ u, has g u → (setAll lay (bitsN gs[k]) m).getD u 0 = lay.getD u 0 := fun g hg u hu => by
        obtain ⟨h1, h2⟩ := hin g hg u hu
        rw [hat u h1, if_neg h2]
      have hmL : ∀ u, has gs[k] u → leastL yw nw lay u ≤ m := fun u hu => by rw [hm]; exact maxTo_ge ((hb u).2 hu)
      have hY : ∀ u x, has (yw u) x → lay.getD x 0 ≤ leastL yw nw lay u := fun u x hx => by
        unfold leastL
        exact Nat.le_trans (maxTo_ge (f := fun x => lay.getD x 0) ((hyb u x).2 hx)) (maxTo_base _ _)
      have hN : ∀ u x, has (nw u) x → lay.getD x 0 + 1 ≤ leastL yw nw lay u := fun u x hx => by
        unfold leastL
        exact maxTo_ge (f := fun x => lay.getD x 0 + 1) ((hnb u x).2 hx)
      refine ⟨by rw [setAll_len, hi.len], fun g hg u hu => ?_, fun f hf g hg u hu => ?_, fun u => ?_, fun u hu => ?_⟩
      · rcases (htake g).1 hg with hg | rfl
        · rw [hold g hg u hu]
          have hu' := hin g hg u hu
          obtain ⟨j0, hj0, e0⟩ := List.getElem_of_mem hg
          have hasked : ∀ x, has (ask u) x → ∃ g' ∈ gs.take k, has g' x := fun x hx => by
            rw [List.getElem_take] at e0
            simp only [List.length_take] at hj0
            obtain ⟨j, hj, hjk, hjx⟩ := h.order j0 (by omega) u x (by rw [e0]; exact hu) hx
            exact ⟨gs[j], by
              have : j < (gs.take k).length := by simp; omega
              have e2 : (gs.take k)[j] = gs[j] := List.getElem_take
              exact e2 ▸ List.getElem_mem this, hjx⟩
          obtain ⟨f1, f2⟩ := hi.fit g hg u hu
          refine ⟨fun x hx => ?_, fun x hx => ?_⟩
          · obtain ⟨g', hg', hgx⟩ := hasked x ((h.asks u x).2 (.inl hx))
            rw [hold g' hg' x hgx]
            exact f1 x hx
          · obtain ⟨g', hg', hgx⟩ := hasked x ((h.asks u x).2 (.inr hx))
            rw [hold g' hg' x hgx]
            exact f2 x hx
        · have hun := h.mem _ hgm u hu
          rw [hat u hun, if_pos hu]
          refine ⟨fun x hx => ?_, fun x hx => ?_⟩
          · rcases hask u x hu ((h.asks u x).2 (.inl hx)) with ⟨g', hg', hgx⟩ | hgx
            · rw [hold g' hg' x hgx]
              exact Nat.le_trans (hY u x hx) (hmL u hu)
            · rw [hat x (h.mem _ hgm x hgx), if_pos hgx]
              exact Nat.le_refl _
          · rcases hask u x hu ((h.asks u x).2 (.inr hx)) with ⟨g', hg', hgx⟩ | hgx
            · rw [hold g' hg' x hgx]
              exact Nat.lt_of_lt_of_le (Nat.lt_succ_self _) (Nat.le_trans (hN u x hx) (hmL u hu))
            · exact absurd hgx (hno u hu x hx)
      · rcases (htake g).1 hg with hg | rfl
        · rw [hold g hg u hu]
          exact hi.least f hf g hg u hu
        · have hun := h.mem _ hgm u hu
          rw [hat u hun, if_pos hu, hm]
          have hsame : ∀ v, has gs[k] v → f v ≤ f u := fun v hv => by
            rcases h.tied _ hgm u v hu hv with rfl | hr
            · exact Nat.le_refl _
            · exact hf.rch (fun u x hx => (h.asks u x).1 hx) h.lim hun hr
          refine maxTo_le (Nat.zero_le _) fun v hv => Nat.le_trans ?_ (hsame v ((hb v).1 hv))
          have hv' := (hb v).1 hv
          have hvn := h.mem _ hgm v hv'
          unfold leastL
          refine maxTo_le (maxTo_le (Nat.zero_le _) fun x hx => ?_) fun x hx => ?_
          · have hx' := (hyb v x).1 hx
            rcases hask v x hv' ((h.asks v x).2 (.inl hx')) with ⟨g', hg', hgx⟩ | hgx
            · exact Nat.le_trans (hi.least f hf g' hg' x hgx) ((hf v hvn).1 x hx')
            · show lay.getD x 0 ≤ f v
              rw [hz x hgx]
              exact Nat.zero_le _
          · have hx' := (hnb v x).1 hx
            rcases hask v x hv' ((h.asks v x).2 (.inr hx')) with ⟨g', hg', hgx⟩ | hgx
            · exact Nat.lt_of_le_of_lt (hi.least f hf g' hg' x hgx) ((hf v hvn).2 x hx')
            · exact absurd hgx (hno v hv' x hx')
      · have hlen : (gs.take (k + 1)).length = k + 1 := by simp; omega
        have hlen2 : (gs.take k).length = k := by simp; omega
        rw [hlen]
        by_cases hu : u < n
        · rw [hat u hu]
          split
          · rw [hm]
            refine maxTo_le (Nat.zero_le _) fun v hv => ?_
            unfold leastL
            have := hi.few
            rw [hlen2] at this
            exact maxTo_le (maxTo_le (Nat.zero_le _) fun x _ => Nat.le_succ_of_le (this x)) fun x _ => Nat.succ_le_succ (this x)
          · have := hi.few u
            omega
        · rw [hge u hu]
          omega
      · by_cases hun : u < n
        · rw [hat u hun, if_neg (hu gs[k] ((htake _).2 (.inr rfl)))]
          exact hi.zero u fun g hg => hu g ((htake g).2 (.inl hg))
        · exact hge u hun
  · intro hnone f hf
    unfold groupL at hnone
    split at hnone
    · rename_i hd
      obtain ⟨u, hu, hdu⟩ := List.any_eq_true.1 hd
      obtain ⟨x, hx, hgx⟩ := denies_iff.1 hdu
      have hu' := (hb u).1 hu
      have h1 := (hf u (h.mem _ hgm u hu')).2 x hx
      have h2 : f u ≤ f x := by
        rcases h.tied _ hgm x u hgx hu' with rfl | hr
        · exact Nat.le_refl _
        · exact hf.rch (fun u x hx => (h.asks u x).1 hx) h.lim (h.mem _ hgm x hgx) hr
      omega
    · cases hnone
theorem groupsL_from (h : GroupsOk yw nw ask n gs) : ∀ (d k : Nat) (lay : List Nat), d = gs.length - k → k ≤ gs.length → LayInv yw nw n (gs.take k) lay →
    (∀ l, groupsL yw nw (gs.drop k) lay = some l → LayInv yw nw n gs l) ∧ (groupsL yw nw (gs.drop k) lay = none → ∀ f, ¬ FitLay yw nw n f)
  | 0, k, lay, hd, hk, hi => by
    have e : k = gs.length := by omega
    subst e
    rw [List.drop_length]
    rw [List.take_length] at hi
    refine ⟨fun l hl => ?_, fun hl => by cases hl⟩
    obtain rfl : lay = l := by simpa [groupsL] using hl
    exact hi
  | d + 1, k, lay, hd, hk, hi => by
    have hlt : k < gs.length := by omega
    rw [List.drop_eq_getElem_cons hlt]
    obtain ⟨h1, h2⟩ := groupL_step h hlt hi
    show (∀ l, (match groupL yw nw lay gs[k] with | none => none | some l => groupsL yw nw (gs.drop (k + 1)) l) = some l → _) ∧ _
    have hcase : groupsL yw nw (gs[k] :: gs.drop (k + 1)) lay = match groupL yw nw lay gs[k] with | none => none | some l => groupsL yw nw (gs.drop (k + 1)) l := rfl
    rw [hcase]
    cases hg : groupL yw nw lay gs[k] with
    | none =>
      refine ⟨fun l hl => (by cases hl), fun _ => h2 hg⟩
    | some l1 => exact groupsL_from h d (k + 1) l1 (by omega) hlt (h1 l1 hg)
end

end Go.Proofs.YtokmmloakahkhaaDoor
/-
  The least layers of a program: by its groups, and as what rounds over its links come to. Plain mathematics.
-/
namespace Go.Proofs.YtokmmloakahkhaaDoor
open Go.RowKit

/-- The words of what heads ask, by a LitYes and by a LitNo. -/
def ywP (p : LProg) (u : Nat) : Nat := (askWords 0 (asksOf p.2)).getD u 0
def nwP (p : LProg) (u : Nat) : Nat := (askWords 1 (asksOf p.2)).getD u 0
def grpP (p : LProg) : List Nat := (walkF (askP p) p.1.length p.1.length).groups
def layL (p : LProg) : Option (List Nat) := groupsL (ywP p) (nwP p) (grpP p) (List.replicate p.1.length 0)

theorem layers_groups {p : LProg} (h : progOk p = true) : GroupsOk (ywP p) (nwP p) (askP p) p.1.length (grpP p) := by
  obtain ⟨hn, hf⟩ := asksOf_fits h
  obtain ⟨hi, hd, _⟩ := walk_all hn (askP_lt hf)
  have hdone : ∀ g ∈ grpP p, ∀ u, has g u → has (walkF (askP p) p.1.length p.1.length).done u := fun g hg u hu => (hi.told u).2 ⟨g, hg, hu⟩
  have hlt : ∀ g ∈ grpP p, ∀ u, has g u → u < p.1.length := fun g hg u hu => hi.lim u ((hi.sub u).2 (.inl (hdone g hg u hu)))
  refine ⟨fun u x => ?_, fun u x hx => askP_lt hf u x hx, hn, hlt, fun g hg => (hi.own g hg).1, fun g hg u v hu hv => ?_, hi.apartG, hi.order⟩
  · unfold askP askF
    exact has_or
  · have e := (hi.own g hg).2 u hu
    have h2 := (hi.grp u v (hdone g hg u hu)).1 (by rw [e]; exact hv)
    rcases h2 with h2 | h2
    · exact .inl h2.symm
    · exact .inr h2.1
theorem lay_told {p : LProg} (h : progOk p = true) {u : Nat} (hu : u < p.1.length) : ∃ g ∈ grpP p, has g u := by
  obtain ⟨hn, hf⟩ := asksOf_fits h
  obtain ⟨hi, hd, _⟩ := walk_all hn (askP_lt hf)
  exact (hi.told u).1 (hd u hu)
theorem lay_inv {p : LProg} (h : progOk p = true) : (∀ l, layL p = some l → LayInv (ywP p) (nwP p) p.1.length (grpP p) l) ∧ (layL p = none → ∀ f, ¬ FitLay (ywP p) (nwP p) p.1.length f) := by
  have := groupsL_from (layers_groups h) (grpP p).length 0 (List.replicate p.1.length 0) (by omega) (Nat.zero_le _) (by simpa using LayInv.start (ywP p) (nwP p) p.1.length)
  simpa [layL] using this
theorem lay_fit {p : LProg} (h : progOk p = true) {l : List Nat} (hl : layL p = some l) : FitLay (ywP p) (nwP p) p.1.length (fun u => l.getD u 0) := fun u hu => by
  obtain ⟨g, hg, hgu⟩ := lay_told h hu
  exact ((lay_inv h).1 l hl).fit g hg u hgu
theorem lay_least {p : LProg} (h : progOk p = true) {l : List Nat} (hl : layL p = some l) {f : Nat → Nat} (hf : FitLay (ywP p) (nwP p) p.1.length f) {u : Nat} (hu : u < p.1.length) : l.getD u 0 ≤ f u := by
  obtain ⟨g, hg, hgu⟩ := lay_told h hu
  exact ((lay_inv h).1 l hl).least f hf g hg u hgu
theorem grp_few {p : LProg} (h : progOk p = true) : (grpP p).length ≤ p.1.length := by
  obtain ⟨hn, hf⟩ := asksOf_fits h
  exact (walk_all hn (askP_lt hf)).1.groupsN
theorem lay_few {p : LProg} (h : progOk p = true) {l : List Nat} (hl : layL p = some l) (u : Nat) : l.getD u 0 ≤ p.1.length := by
  have h1 := ((lay_inv h).1 l hl).few u
  have h2 := grp_few h
  omega
theorem lay_len {p : LProg} (h : progOk p = true) {l : List Nat} (hl : layL p = some l) : l.length = p.1.length := ((lay_inv h).1 l hl).len

-- rounds over links
/-- What the rounds keep: at most whatever fits. -/
def LayUp (p : LProg) (out : List Nat) : Prop := out.length = p.1.length ∧ ∀ f, FitLay (ywP p) (nwP p) p.1.length f → ∀ u, u < p.1.length → out.getD u 0 ≤ f u
/-- What a predicate needs above another one. -/
def needL (p : LProg) (out : List Nat) (i k : Nat) : Nat := out.getD k 0 + (if 1 < cellV (asksOf p.2) i k then 1 else 0)
theorem cell_has {p : LProg} (h : progOk p = true) {i k : Nat} (hi : i < p.1.length) : (has (ywP p i) k ↔ asked 0 (asksOf p.2) i k = true) ∧ (has (nwP p i) k ↔ asked 1 (asksOf p.2) i k = true) := by
  obtain ⟨hn, hf⟩ := asksOf_fits h
  unfold ywP nwP
  rw [askWords_at (by omega), askWords_at (by omega)]
  exact ⟨has_mask (.inl rfl) i k _ hf, has_mask (.inr rfl) i k _ hf⟩
theorem cell_pos (ps : List LAsk) (i k : Nat) : (0 < cellV ps i k ↔ asked 0 ps i k = true ∨ asked 1 ps i k = true) ∧ (1 < cellV ps i k ↔ asked 1 ps i k = true) := by
  unfold cellV
  cases asked 0 ps i k <;> cases asked 1 ps i k <;> simp
theorem need_le {p : LProg} (h : progOk p = true) {f : Nat → Nat} (hf : FitLay (ywP p) (nwP p) p.1.length f) {out : List Nat} {i k : Nat} (hi : i < p.1.length) (hk : out.getD k 0 ≤ f k) (hc : 0 < cellV (asksOf p.2) i k) : needL p out i k ≤ f i := by
  obtain ⟨c1, c2⟩ := cell_has h (k := k) hi
  obtain ⟨d1, d2⟩ := cell_pos (asksOf p.2) i k
  unfold needL
  by_cases e : 1 < cellV (asksOf p.2) i k
  · rw [if_pos e]
    have := (hf i hi).2 k (c2.2 (d2.1 e))
    omega
  · rw [if_neg e]
    rcases d1.1 hc with e1 | e1
    · have := (hf i hi).1 k (c1.2 e1)
      omega
    · exact absurd (d2.2 e1) e
theorem LayUp.raise {p : LProg} (h : progOk p = true) {out : List Nat} (hu : LayUp p out) {i k : Nat} (hi : i < p.1.length) (hk : k < p.1.length) (hc : 0 < cellV (asksOf p.2) i k) : LayUp p (out.set i (needL p out i k)) := by
  refine ⟨by rw [List.length_set]; exact hu.1, fun f hf u hun => ?_⟩
  have hl := hu.1
  by_cases e : u = i
  · subst e
    rw [List.getD_eq_getElem?_getD, List.getElem?_set_self (by omega)]
    exact need_le h hf hi (hu.2 f hf k hk) hc
  · rw [List.getD_eq_getElem?_getD, List.getElem?_set_ne (Ne.symm e), ← List.getD_eq_getElem?_getD]
    exact hu.2 f hf u hun
theorem LayUp.zero (p : LProg) : LayUp p (List.replicate p.1.length 0) := ⟨by simp, fun f _ u hu => by simp [List.getD_eq_getElem?_getD, hu]⟩
/-- Past the predicates' number there are no layers. -/
theorem LayUp.none {p : LProg} (h : progOk p = true) {out : List Nat} (hu : LayUp p out) {i : Nat} (hi : i < p.1.length) (hg : p.1.length < out.getD i 0) : layL p = none := by
  cases hl : layL p with
  | none => rfl
  | some l =>
    have h1 := hu.2 _ (lay_fit h hl) i hi
    have h2 := lay_few h hl i
    omega
/-- Where nothing is to be raised there are the least layers. -/
theorem LayUp.done {p : LProg} (h : progOk p = true) {out : List Nat} (hu : LayUp p out) (hfit : ∀ i, i < p.1.length → ∀ k, k < p.1.length → 0 < cellV (asksOf p.2) i k → needL p out i k ≤ out.getD i 0) : layL p = some out := by
  obtain ⟨hn, hf⟩ := asksOf_fits h
  have hF : FitLay (ywP p) (nwP p) p.1.length (fun u => out.getD u 0) := fun u hun => by
    refine ⟨fun x hx => ?_, fun x hx => ?_⟩
    · have ha := ((cell_has h hun).1).1 hx
      have hxn := (asked_lt (.inl rfl) hf ha).2
      have h1 := hfit u hun x hxn ((cell_pos _ u x).1.2 (.inl ha))
      unfold needL at h1
      show out.getD x 0 ≤ out.getD u 0
      omega
    · have ha := ((cell_has h hun).2).1 hx
      have hxn := (asked_lt (.inr rfl) hf ha).2
      have h1 := hfit u hun x hxn ((cell_pos _ u x).1.2 (.inr ha))
      unfold needL at h1
      rw [if_pos ((cell_pos _ u x).2.2 ha)] at h1
      show out.getD x 0 < out.getD u 0
      omega
  cases hl : layL p with
  | none => exact absurd hF ((lay_inv h).2 hl _)
  | some l =>
    have e : l = out := by
      apply List.ext_getElem
      · rw [lay_len h hl, hu.1]
      · intro u h1 h2
        have hun : u < p.1.length := by rw [← hu.1]; exact h2
        have k1 := hu.2 _ (lay_fit h hl) u hun
        have k2 := lay_least h hl hF hun
        simp only [List.getD_eq_getElem?_getD, List.getElem?_eq_getElem h1, List.getElem?_eq_getElem h2, Option.getD_some] at k1 k2
        omega
    rw [e]

end Go.Proofs.YtokmmloakahkhaaDoor
/-
  The walk of the program's Reaches.
-/
namespace Go.Proofs.YtokmmloakahkhaaDoor
open Go.RowKit

theorem Rch.lt {ask : Nat → Nat} {n a b : Nat} (h : Rch ask a b) (hask : ∀ u x, has (ask u) x → x < n) : b < n := by
  induction h with
  | one e => exact hask _ _ e
  | step _ _ ih => exact ih
theorem reachP_lt {p : LProg} (h : progOk p = true) {i k : Nat} (hi : i < p.1.length) (hk : has (reachP p i) k) : k < p.1.length := by
  obtain ⟨hn24, hf⟩ := asksOf_fits h
  obtain ⟨h1, h2, _⟩ := walk_all hn24 (askP_lt hf)
  exact ((h1.rch i k (h2 i hi)).1 hk).lt (askP_lt hf)

/-- Rows of Booleans in a row that has been made: the first of them are laid. -/
structure BPart (lo : Nat) (w : World) (n : Nat) (T : Nat → Nat → Bool) (gh : Nat) (rs : List Nat) : Prop where
  heads : w.rowIs gh 38 n (fun j => (rs.map (bRow n)).getD j (.slice none 0 0))
  rows : ∀ i (h : i < rs.length), w.rowIs rs[i] 4 n (fun k => .bool (T i k))
  loh : lo ≤ gh
  lor : ∀ r ∈ rs, lo ≤ r ∧ r ≠ gh
  nodup : rs.Nodup
section
variable {lo n gh : Nat} {w w' : World} {T T' : Nat → Nat → Bool} {rs : List Nat}
theorem BPart.lt (h : BPart lo w n T gh rs) : ∀ r ∈ rs, r < w.heap.size := fun r hr => by
  obtain ⟨i, hi, rfl⟩ := List.getElem_of_mem hr
  exact (h.rows i hi).lt
theorem BPart.below (h : BPart lo w n T gh rs) (hb : Below w.heap.size w w') : BPart lo w' n T gh rs :=
  ⟨h.heads.of_block (hb.block _ h.heads.lt), fun i hi => (h.rows i hi).of_block (hb.block _ (h.lt _ (List.getElem_mem hi))), h.loh, h.lor, h.nodup⟩
theorem BPart.set {i k : Nat} (h : BPart lo w n T gh rs) (hi : i < rs.length) (x : Bool) (hT : ∀ a b, T' a b = if a = i ∧ b = k then x else T a b) : BPart lo (w.setCell ⟨rs[i], k, none⟩ (.bool x)) n T' gh rs := by
  refine ⟨h.heads.setOther (a := ⟨rs[i], k, none⟩) (fun e => (h.lor _ (List.getElem_mem hi)).2 e.symm) _, fun j hj => ?_, h.loh, h.lor, h.nodup⟩
  by_cases e : j = i
  · subst e
    refine ((h.rows j hj).set k (.bool x)).congr fun b _ => ?_
    rw [hT]
    by_cases e2 : b = k <;> simp [e2]
  · refine ((h.rows j hj).setOther (a := ⟨rs[i], k, none⟩) (fun e2 => e (nodup_inj h.nodup hj hi e2)) _).congr fun b _ => ?_
    rw [hT, if_neg (fun h => e h.1)]
theorem BPart.congr (h : BPart lo w n T gh rs) (e : ∀ i k, i < rs.length → k < n → T i k = T' i k) : BPart lo w n T' gh rs :=
  ⟨h.heads, fun i hi => (h.rows i hi).congr fun k hk => by rw [e i k hi hk], h.loh, h.lor, h.nodup⟩
theorem BPart.push (h : BPart lo w n T gh rs) (hl : lo ≤ w.heap.size) (_hrs : rs.length < n) (hT : ∀ b, T rs.length b = false) :
    BPart lo ((w.alloc (Obj.cells (madeCells #[Value.bool false] n) 4)).setCell ⟨gh, rs.length, none⟩ (bRow n w.heap.size)) n T gh (rs ++ [w.heap.size]) := by
  have hgl := h.heads.lt
  refine ⟨((h.heads.alloc _).set rs.length (bRow n w.heap.size)).congr fun j hj => ?_, fun i hi => ?_, h.loh, fun r hr => ?_, ?_⟩
  · by_cases e : j = rs.length
    · subst e
      simp [List.getD_eq_getElem?_getD]
    · rw [if_neg e, List.map_append]
      by_cases e2 : j < rs.length
      · simp [List.getD_eq_getElem?_getD, List.getElem?_append_left, e2]
      · rw [List.getD_eq_getElem?_getD, List.getD_eq_getElem?_getD, List.getElem?_eq_none (by simp; omega), List.getElem?_eq_none (by simp; omega)]
  · by_cases e : i < rs.length
    · rw [List.getElem_append_left e]
      exact ((h.rows i e).alloc _).setOther (a := ⟨gh, rs.length, none⟩) (h.lor _ (List.getElem_mem e)).2 _
    · have e2 : i = rs.length := by simp at hi; omega
      subst e2
      rw [List.getElem_append_right (Nat.le_refl _)]
      simp only [Nat.sub_self, List.getElem_cons_zero]
      refine ((World.rowIs_made w (.bool false) n 4).setOther (a := ⟨gh, rs.length, none⟩) (by show w.heap.size ≠ gh; omega) _).congr fun b _ => by rw [hT]
  · rcases List.mem_append.1 hr with h1 | h1
    · exact h.lor r h1
    · rw [List.mem_singleton] at h1
      subst h1
      exact ⟨hl, by omega⟩
  · rw [List.nodup_append]
    exact ⟨h.nodup, by simp, fun a ha b hb e => by rw [List.mem_singleton] at hb; have := h.lt a ha; omega⟩
theorem BPart.head (h : BPart lo w n T gh rs) {i : Nat} (hi : i < rs.length) (hn : rs.length ≤ n) : w.cell? ⟨gh, i, none⟩ = some (.slice (some ⟨rs[i], 0, none⟩) n n) := by
  rw [h.heads.cell (by omega)]
  simp [List.getD_eq_getElem?_getD, hi, bRow]
/-- All rows are laid. -/
theorem BPart.grid (h : BPart lo w n T gh rs) (hn : rs.length = n) (h24 : n ≤ 1048576) : BGrid lo w n T (some ⟨gh, 0, none⟩) n rs := by
  refine ⟨⟨by simp, .inr ?_⟩, h.rows, fun r hr => ⟨(h.lor r hr).1, fun e => (h.lor r hr).2 (by simpa [Value.ownBlock] using e.symm)⟩, h.nodup⟩
  obtain ⟨c, hb, hs, hc⟩ := h.heads
  subst hn
  refine ⟨gh, rs.length, c, rfl, h.loh, hb, Nat.le_refl _, by unfold maxLen; omega, by simp [hs], ?_⟩
  apply List.ext_getElem?
  intro j
  by_cases hj : j < rs.length
  · rw [List.getElem?_take_of_lt (by omega), Array.getElem?_toList, hc j hj]
    simp [hj]
  · rw [List.getElem?_eq_none (by simp; omega), List.getElem?_eq_none (by simp; omega)]
end

set_option maxHeartbeats 4000000 in
set_option maxRecDepth 100000 in
theorem implReaches_any (v : Value) (p : LProg) (w : World) (hpo : progOk p = true) (h : RdProg w w.heap.size v p) (hs : szP p ≤ 1048576) (hT : Tab w) :
    Calls Tryd.prog 14 #[v] w fun e w' => ∃ Ao co rs, e = .returned (.slice Ao rs.length co) ∧ rs.length = p.1.length ∧ BGrid w.heap.size w' p.1.length (fwM (askT p) p.1.length) Ao co rs ∧ Below w.heap.size w w' := by
  have HP := Lib.hid h
  have HT := Lib.hid hT
  have HPO := Lib.hid hpo
  obtain ⟨a, b, rfl, hA, hR⟩ := h
  obtain ⟨A, c, rfl, hcA, _⟩ := hA
  obtain ⟨A2, c2, rfl, hcR, _⟩ := hR
  obtain ⟨hn24, _⟩ := asksOf_fits hpo
  have hmk1 := fun W => run_make_row' (P := Tryd.prog) 32 38 (.slice none 0 0) 24 Tryd.underlying32 Tryd.infoBoolS rfl .i64 .i64 p.1.length (by omega) (by omega) W
  have hmk2 := fun W => run_make_row' (P := Tryd.prog) 38 4 (.bool false) 1 Tryd.underlying38 Tryd.infoBool rfl .i64 .i64 p.1.length (by omega) (by omega) W
  obtain ⟨T, hTT⟩ : ∃ T : Nat → Nat → Bool, T = fwM (askT p) p.1.length := ⟨_, rfl⟩
  have HRE := Lib.hid (show ∀ i, i < p.1.length → ∀ k, (reachP p i).testBit k = T i k from fun i hi k => by rw [hTT]; exact reach_fw hpo hi k)
  have HRL := Lib.hid (show ∀ i, i < p.1.length → ∀ k, has (reachP p i) k → k < p.1.length from fun i hi k hk => reachP_lt hpo hi hk)
  have CW0 := Lib.hid (fun W (hW : Below w.heap.size w W) => walkOf_yes _ p W hpo (HP.out.on hW) hs (HT.out.below hW))
  have HRP := Lib.hid (show ∀ i, reachP p i = (walkF (askP p) p.1.length p.1.length).reach.getD i 0 from fun _ => rfl)
  obtain ⟨F, hF⟩ : ∃ F, F = walkF (askP p) p.1.length p.1.length := ⟨_, rfl⟩
  rw [← hF] at CW0 HRP
  rw [← hTT]
  obtain ⟨n, hn⟩ : ∃ n, n = p.1.length := ⟨_, rfl⟩
  rw [← hn] at hcA hn24 hmk1 hmk2 HRE HRL CW0 ⊢
  clear hn hTT hT hpo hF
  go_enter Tryd.func14, Tryd.ntmps14
  go_upto_region 1 with fail
  obtain ⟨w1, hw1⟩ : ∃ w1, w1 = w.alloc (Obj.cells #[Value.slice A n c, Value.slice A2 p.2.length c2] 26) := ⟨_, rfl⟩
  have X1 : Blk w1 w.heap.size 26 #[.slice A n c, .slice A2 p.2.length c2] := by rw [hw1]; exact Blk.new _ _ _
  have B1 : Below w.heap.size w w1 := by rw [hw1]; exact below1 _ _
  rw [← hw1]
  clear hw1
  have x0 : w1.cell? ⟨w.heap.size, 0, none⟩ = some (.slice A n c) := X1.cell 0
  have x1 : w1.cell? ⟨w.heap.size, 1, none⟩ = some (.slice A2 p.2.length c2) := X1.cell 1
  have HX1 := Lib.hid X1
  have CW := Lib.hid (CW0.out w1 B1)
  clear X1 CW0
  go_upto_region 4 with (go_at_call 38; refine CW.out.mono ?_; rintro e w2 ⟨g, Ap, cp, Ag, cg, rfl, hgg, hgw, b2⟩; have B2 := Lib.hid (bthen B1 b2); have HG2 := Lib.hid hgw; have HX2 := Lib.hid (HX1.out.below b2 HX1.out.lt); have x20 : w2.cell? ⟨w.heap.size, 0, none⟩ = some (.slice A n c) := HX2.out.cell 0; clear b2 hgw)
  clear x0 x1
  have hg2 : g < w2.heap.size := HG2.out.lt
  go_upto_region 5 with fail
  obtain ⟨w3, hw3⟩ : ∃ w3, w3 = w2.alloc (Obj.cells (madeCells #[Value.slice none 0 0] n) 38) := ⟨_, rfl⟩
  obtain ⟨gh, hgh⟩ : ∃ gh, gh = w2.heap.size := ⟨_, rfl⟩
  have HB3 := Lib.hid (show BPart gh w3 n T gh [] from by
    rw [hw3, hgh]
    exact ⟨(World.rowIs_made _ _ _ _).congr fun j _ => by simp, fun i h => absurd h (Nat.not_lt_zero _), Nat.le_refl _, fun r hr => (by cases hr), List.nodup_nil⟩)
  have HW3 := Lib.hid (show Below gh w2 w3 by rw [hw3, hgh]; exact below1 _ _)
  have hs3 : w3.heap.size = gh + 1 := by rw [hw3, hgh]; simp
  rw [← hw3, ← hgh]
  have hggh : g < gh := by rw [hgh]; exact hg2
  have hwgh : w.heap.size < gh := by rw [hgh]; exact HX2.out.lt
  have HGH := Lib.hid hgh
  clear hw3 hgh hg2 x20
  go_wp2_with fail
  go_loopw [22] (fun i wr => ∃ (k : Nat) (rs : List Nat), k ≤ n ∧ i = .int .i64 k ∧ rs.length = k ∧ BPart gh wr n T gh rs ∧ Below gh w2 wr) (fun i _ => n - (intOf i).toNat)
  case atStart => exact ⟨0, [], Nat.zero_le _, rfl, rfl, HB3.out, HW3.out⟩
  case round =>
    obtain ⟨k, rs, hk, rfl, hrl, hbp, hbe⟩ := hrel
    have HBP := Lib.hid hbp
    have HBE := Lib.hid hbe
    have HRSL := Lib.hid hrl
    have hghr : gh < wr.heap.size := hbp.heads.lt
    clear hbp hbe hrl
    have e0 : wr.cell? ⟨w.heap.size, 0, none⟩ = some (.slice A n c) := (HBE.out.cell (p := ⟨w.heap.size, 0, none⟩) hwgh).trans (HX2.out.cell 0)
    by_cases hlt : k < n
    · have hk24 : k < 24 := by omega
      obtain ⟨wo, rfl⟩ : ∃ wo, wo = wr := ⟨_, rfl⟩
      obtain ⟨r, hr⟩ : ∃ r, r = wo.heap.size := ⟨_, rfl⟩
      have c0 : (wo.alloc (Obj.cells (madeCells #[Value.bool false] n) 4)).cell? ⟨gh, k, none⟩ = some (.slice none 0 0) := by
        rw [(HBP.out.heads.alloc _).cell hlt, List.getD_eq_getElem?_getD, List.getElem?_eq_none (by simp; have := HRSL.out; omega)]
        rfl
      have f0 : (wo.alloc (Obj.cells (madeCells #[Value.bool false] n) 4)).frozen? ⟨gh, k, none⟩ = false := (HBP.out.heads.alloc _).frozen k
      obtain ⟨wb, hwb⟩ : ∃ wb, wb = (wo.setCell ⟨gh, k, none⟩ (.slice (some ⟨wo.heap.size, 0, none⟩) n n)).alloc (Obj.cells (madeCells #[Value.bool false] n) 4) := ⟨_, rfl⟩
      have hcm := World.setCell_alloc_past (w := wo) (Obj.cells (madeCells #[Value.bool false] n) 4) gh k (.slice (some ⟨wo.heap.size, 0, none⟩) n n) hghr
      have HPB := Lib.hid (show BPart gh wb n (fun a b => if a = k then false else T a b) gh (rs ++ [r]) from by
        have hl := HRSL.out
        have h1 := (HBP.out.congr (T' := fun a b => if a = k then false else T a b) (fun i x hi _ => by rw [if_neg (by omega)])).push (Nat.le_of_lt hghr) (by omega) (fun b => by rw [if_pos hl])
        rw [hl] at h1
        rw [hwb, hr, ← hcm]
        exact h1)
      have HBB := Lib.hid (show Below gh w2 wb from by rw [hwb, ← hcm]; exact (HBE.out.alloc (Nat.le_of_lt hghr) _).setCell (Nat.le_refl _) _)
      have hsb : wb.heap.size = r + 1 := by rw [hwb, hr]; simp
      have HSB := Lib.hid hsb
      have hrge : gh < r := by rw [hr]; exact hghr
      clear hsb
      go_upto_region 9 with fail
      rw [← hwb]
      clear hwb c0 f0 e0 hcm hr
      obtain ⟨u, hu⟩ : ∃ u, u = reachP p k := ⟨_, rfl⟩
      have hgwb := HG2.out.on (show Below w2.heap.size w2 wb by rw [← HGH.out]; exact HBB.out)
      have k77 : wb.cell? ⟨g, 77 + k, none⟩ = some (.int .u64 ((u : Nat) : Int)) := by rw [hu, HRP.out]; exact hgwb.cellReach hk24
      have hu24 : u < 16777216 := by
        rw [hu, HRP.out]
        have hl : k < F.reach.length := by rw [hgwb.len.r]; exact hk24
        rw [List.getD_eq_getElem?_getD, List.getElem?_eq_getElem hl]
        exact hgwb.lim.reach _ (List.getElem_mem hl)
      have hgb : g < wb.heap.size := hgwb.lt
      have hki : (k : Int) < 24 := by omega
      obtain ⟨ts, hts⟩ : ∃ ts, ts = bitsOf u := ⟨_, rfl⟩
      obtain ⟨B, hB⟩ : ∃ B, B = bitsN u := ⟨_, rfl⟩
      have HTS := Lib.hid (show ts = B.map fun j : Nat => (j : Int) by rw [hts, hB]; rfl)
      have HTL := Lib.hid (show ts.length = B.length by rw [HTS.out]; simp)
      have htl : ts.length ≤ 64 := by rw [hts]; exact bitsOf_length _
      have HBN := Lib.hid (show ∀ x ∈ B, x < n from fun x hx => by rw [hB, hu] at hx; exact HRL.out k hlt x (bitsN_mem.1 hx).2)
      have HBT := Lib.hid (show ∀ b, b < n → decide (b ∈ B) = T k b from fun b hb => by
        rw [← HRE.out k hlt b, hB, ← hu, Bool.eq_iff_iff, decide_eq_true_eq, bitsN_mem]
        exact ⟨fun h => h.2, fun h => ⟨by omega, h⟩⟩)
      have CB := Lib.hid (bitNumbers_any u (by omega) wb (HT.out.below (B2.out.trans (HBB.out.mono (Nat.le_of_lt hwgh)))))
      rw [← hts] at CB
      clear hts hB hu hgwb
      go_wp2_with (go_at_call 39; refine CB.out.mono ?_; rintro e wc ⟨A6, c6, rfl, o6, b6⟩; have HO6 := Lib.hid o6; have B6 := Lib.hid b6; clear o6 b6)
      have HPC := Lib.hid (HPB.out.below B6.out)
      have hsc := B6.out.size
      go_loopw [40] (fun i wr => ∃ m : Nat, m ≤ ts.length ∧ i = .int .i64 m ∧ BPart gh wr n (fun a b => if a = k then decide (b ∈ B.take m) else T a b) gh (rs ++ [r]) ∧ Only r (r + 1) wc wr) (fun i _ => ts.length - (intOf i).toNat)
      case atStart => exact ⟨0, Nat.zero_le _, rfl, HPC.out.congr (fun a b _ _ => by simp), Only.refl _ _ _⟩
      case round =>
        obtain ⟨m, hm, rfl, hpm, hon⟩ := hrel
        have HPM := Lib.hid hpm
        have HON := Lib.hid hon
        by_cases hlm : m < ts.length
        · have hmB : m < B.length := by rw [← HTL.out]; exact hlm
          obtain ⟨bb, oo, q0, hbb, k0⟩ := (HO6.out.only hon (.inr (by have := HSB.out; omega))).rd.at_ hlm
          subst q0
          obtain ⟨x, hx⟩ : ∃ x, x = B[m] := ⟨_, rfl⟩
          have hxk : ts[m] = (x : Int) := by rw [hx]; simp [HTS.out]
          rw [hxk] at k0
          have HX := Lib.hid hx
          have hxn : x < n := by rw [hx]; exact HBN.out _ (List.getElem_mem hmB)
          have hkl : k < (rs ++ [r]).length := by simp; have := HRSL.out; omega
          have hre : (rs ++ [r])[k] = r := by
            have h1 := HRSL.out
            simp [h1]
          have hln : (rs ++ [r]).length ≤ n := by simp; have := HRSL.out; omega
          have z1 : wr.cell? ⟨gh, k, none⟩ = some (.slice (some ⟨r, 0, none⟩) n n) := by have h1 := hpm.head hkl hln; rw [hre] at h1; exact h1
          have hrow := hpm.rows k hkl
          rw [hre] at hrow
          obtain ⟨u0, z2⟩ : ∃ u0, wr.cell? ⟨r, x, none⟩ = some (.bool u0) := ⟨_, hrow.cell hxn⟩
          have f2 : wr.frozen? ⟨r, x, none⟩ = false := hrow.frozen x
          have HNX := Lib.hid (show BPart gh (wr.setCell ⟨r, x, none⟩ (.bool true)) n (fun a b => if a = k then decide (b ∈ B.take (m + 1)) else T a b) gh (rs ++ [r]) from by
            have h1 := hpm.set (T' := fun a b => if a = k then decide (b ∈ B.take (m + 1)) else T a b) hkl true (k := x) (fun a b => by
              by_cases ea : a = k
              · subst ea
                simp only [if_true, true_and]
                rw [take_snoc B m hmB, ← hx]
                by_cases eb : b = x <;> simp [eb]
              · rw [if_neg ea, if_neg (fun h => ea h.1), if_neg ea])
            rw [hre] at h1
            exact h1)
          clear hpm hon hrow hx hxk hre hkl hln
          go_wp2_with fail
          go_roundw
          case rel => exact ⟨m + 1, by omega, by go_num, HNX.out, HON.out.setCell ⟨Nat.le_refl _, Nat.lt_succ_self _⟩ _⟩
          case measure => simp [intOf]; omega
        · have HPE := Lib.hid (show BPart gh wr n T gh (rs ++ [r]) from hpm.congr fun a b _ hb => by
            by_cases ea : a = k
            · subst ea
              rw [if_pos rfl, show m = B.length by have := HTL.out; omega, List.take_length, HBT.out b hb]
            · rw [if_neg ea])
          have HBF := Lib.hid (show Below gh w2 wr from by
            have hs1 := HBB.out.size
            have hs2 := HSB.out
            exact HBB.out.trans ((B6.out.mono (by omega)).trans (hon.below (Nat.le_of_lt hrge) (by omega))))
          clear hpm hon
          go_wp2_with fail
          go_roundw
          case rel => exact ⟨k + 1, rs ++ [r], by omega, by go_num, by rw [List.length_append, HRSL.out]; rfl, HPE.out, HBF.out⟩
          case measure => simp [intOf]; omega
    · have HFIN := Lib.hid (HBP.out.grid (by have := HRSL.out; omega) (by omega))
      have hkn : rs.length = n := by have := HRSL.out; omega
      have HKN := Lib.hid hkn
      clear hkn
      go_wp2_with fail
      go_ret
      refine ⟨some ⟨gh, 0, none⟩, n, rs, by rw [HKN.out]; rfl, HKN.out, ?_, B2.out.trans (HBE.out.mono (Nat.le_of_lt hwgh))⟩
      have hfin := HFIN.out
      exact ⟨ownsRow_mono hfin.heads (Nat.le_of_lt hwgh), hfin.rows, fun r hr => ⟨Nat.le_trans (Nat.le_of_lt hwgh) (hfin.lo r hr).1, (hfin.lo r hr).2⟩, hfin.nodup⟩

end Go.Proofs.YtokmmloakahkhaaDoor
/-
  The walk of leastLayer.
-/
namespace Go.Proofs.YtokmmloakahkhaaDoor
open Go.RowKit

theorem bitsOf_nats (x : Nat) : bitsOf x = (bitsN x).map fun j : Nat => (j : Int) := rfl
theorem maxTo_take {f : Nat → Nat} {l : List Nat} {k b : Nat} (h : k < l.length) : maxTo f (l.take (k + 1)) b = max (maxTo f (l.take k) b) (f l[k]) := by rw [take_snoc l k h, maxTo_snoc]

set_option maxHeartbeats 2000000 in
set_option maxRecDepth 100000 in
theorem leastLayer_any (g gl n p y z : Nat) (lay : List Nat) (w : World) (cY : w.cell? ⟨g, p, none⟩ = some (wd64 y)) (cN : w.cell? ⟨g, 24 + p, none⟩ = some (wd64 z)) (hrow : w.rowIs gl 3 n (fun j => .int .i64 ((lay.getD j 0 : Nat) : Int))) (hp : p < 24)
    (hy : ∀ x ∈ bitsN y, x < n) (hz : ∀ x ∈ bitsN z, x < n) (hyl : y < 16777216) (hzl : z < 16777216) (hf : ∀ u, lay.getD u 0 ≤ 64) (hT : Tab w) :
    Calls Tryd.prog 40 #[.pointer (some ⟨g, 0, none⟩), .int .i64 (p : Int), .slice (some ⟨gl, 0, none⟩) n n] w fun e w' => e = .returned (.int .i64 ((maxTo (fun x => lay.getD x 0 + 1) (bitsN z) (maxTo (fun x => lay.getD x 0) (bitsN y) 0) : Nat) : Int)) ∧ Below w.heap.size w w' := by
  have HROW := Lib.hid hrow
  have HT := Lib.hid hT
  have HF := Lib.hid hf
  have hpi : (p : Int) < 24 := by omega
  obtain ⟨B, hB⟩ : ∃ B, B = bitsN y := ⟨_, rfl⟩
  obtain ⟨C, hC⟩ : ∃ C, C = bitsN z := ⟨_, rfl⟩
  obtain ⟨ms, hms⟩ : ∃ ms, ms = bitsOf y := ⟨_, rfl⟩
  obtain ⟨ns, hns⟩ : ∃ ns, ns = bitsOf z := ⟨_, rfl⟩
  have HMS := Lib.hid (show ms = B.map fun j : Nat => (j : Int) by rw [hms, hB]; rfl)
  have HNS := Lib.hid (show ns = C.map fun j : Nat => (j : Int) by rw [hns, hC]; rfl)
  have HML := Lib.hid (show ms.length = B.length by rw [HMS.out]; simp)
  have HNL := Lib.hid (show ns.length = C.length by rw [HNS.out]; simp)
  have hmsl : ms.length ≤ 64 := by rw [hms]; exact bitsOf_length _
  have hnsl : ns.length ≤ 64 := by rw [hns]; exact bitsOf_length _
  have CB := Lib.hid (bitNumbers_any y (by omega) w hT)
  have CC := Lib.hid (fun W (hW : Below w.heap.size w W) => bitNumbers_any z (by omega) W (HT.out.below hW))
  rw [← hms] at CB
  rw [← hns] at CC
  rw [← hB] at hy ⊢
  rw [← hC] at hz ⊢
  have HY := Lib.hid hy
  have HZ := Lib.hid hz
  obtain ⟨D, hD⟩ : ∃ D, D = maxTo (fun x => lay.getD x 0) B 0 := ⟨_, rfl⟩
  rw [← hD]
  have HD := Lib.hid hD
  clear hD
  have cY' : w.cell? ⟨g, p, none⟩ = some (.int .u64 (y : Int)) := cY
  have HCN := Lib.hid (show w.cell? ⟨g, 24 + p, none⟩ = some (.int .u64 (z : Int)) from cN)
  clear hrow hT hf hy hz hms hns hB hC cY cN
  go_enter Tryd.func40, Tryd.ntmps40
  go_wp2_with (go_at_call 39; refine CB.out.mono ?_; rintro e w1 ⟨A1, c1, rfl, o1, b1⟩; have HO1 := Lib.hid o1; have B1 := Lib.hid b1; clear o1 b1)
  go_loop [7, 20] (fun m i => ∃ (k : Nat) (q : Int), k ≤ ms.length ∧ i = .int .i64 k ∧ m = .int .i64 q ∧ q = ((maxTo (fun x => lay.getD x 0) (B.take k) 0 : Nat) : Int)) (fun _ i => ms.length - (intOf i).toNat)
  case atStart => exact ⟨0, 0, Nat.zero_le _, rfl, rfl, rfl⟩
  case round =>
    obtain ⟨k, q, hk, rfl, rfl, hq⟩ := hrel
    by_cases hlt : k < ms.length
    · have hkB : k < B.length := by rw [← HML.out]; exact hlt
      obtain ⟨bb, oo, rfl, hbb, k0⟩ := HO1.out.rd.at_ hlt
      obtain ⟨x, hx⟩ : ∃ x, x = B[k] := ⟨_, rfl⟩
      have hxk : ms[k] = (x : Int) := by rw [hx]; simp [HMS.out]
      rw [hxk] at k0
      have hxn : x < n := by rw [hx]; exact HY.out _ (List.getElem_mem hkB)
      have hxi : (x : Int) < (n : Int) := by omega
      have k1 := (HROW.out.of_block (B1.out.block gl HROW.out.lt)).cell hxn
      obtain ⟨d, hd⟩ : ∃ d, d = lay.getD x 0 := ⟨_, rfl⟩
      rw [← hd] at k1
      have HN := Lib.hid (show (if q < (d : Int) then (d : Int) else q) = ((maxTo (fun x => lay.getD x 0) (B.take (k + 1)) 0 : Nat) : Int) from by
        rw [maxTo_take hkB, ← hx, ← hd, hq]
        omega)
      clear hx hxk hd hq hbb
      go_wp2_with (fail)
      go_round
      case rel => exact ⟨k + 1, _, by omega, by go_num, rfl, HN.out⟩
      case measure => simp [intOf]; omega
    · have hkn : k = B.length := by rw [← HML.out]; omega
      have hqD : q = (D : Int) := by rw [hq, hkn, List.take_length, HD.out]
      subst hqD
      have hnk : w1.cell? ⟨g, 24 + p, none⟩ = some (.int .u64 (z : Int)) := (B1.out.cell (p := ⟨g, 24 + p, none⟩) (World.block_lt_of_cell? _ _ HCN.out)).trans HCN.out
      clear hq hkn
      go_wp2_with (go_at_call 39; refine (CC.out _ B1.out).mono ?_; rintro e w2 ⟨A2, c2, rfl, o2, b2⟩; have HO2 := Lib.hid o2; have B2 := Lib.hid (bthen B1.out b2); clear o2 b2)
      go_loop [7, 39] (fun m i => ∃ (k : Nat) (q : Int), k ≤ ns.length ∧ i = .int .i64 k ∧ m = .int .i64 q ∧ q = ((maxTo (fun x => lay.getD x 0 + 1) (C.take k) D : Nat) : Int)) (fun _ i => ns.length - (intOf i).toNat)
      case atStart => exact ⟨0, (D : Int), Nat.zero_le _, rfl, rfl, rfl⟩
      case round =>
        obtain ⟨k, q, hk, rfl, rfl, hq⟩ := hrel
        by_cases hlt : k < ns.length
        · have hkB : k < C.length := by rw [← HNL.out]; exact hlt
          obtain ⟨bb, oo, rfl, hbb, k0⟩ := HO2.out.rd.at_ hlt
          obtain ⟨x, hx⟩ : ∃ x, x = C[k] := ⟨_, rfl⟩
          have hxk : ns[k] = (x : Int) := by rw [hx]; simp [HNS.out]
          rw [hxk] at k0
          have hxn : x < n := by rw [hx]; exact HZ.out _ (List.getElem_mem hkB)
          have hxi : (x : Int) < (n : Int) := by omega
          have k1 := (HROW.out.of_block (B2.out.block gl HROW.out.lt)).cell hxn
          have hd64 := HF.out x
          obtain ⟨d, hd⟩ : ∃ d, d = lay.getD x 0 := ⟨_, rfl⟩
          rw [← hd] at k1 hd64
          have HN := Lib.hid (show (if q < (d : Int) + 1 then (d : Int) + 1 else q) = ((maxTo (fun x => lay.getD x 0 + 1) (C.take (k + 1)) D : Nat) : Int) from by
            rw [maxTo_take hkB, ← hx, ← hd, hq]
            omega)
          clear hx hxk hd hq hbb
          go_wp2_with (fail)
          go_round
          case rel => exact ⟨k + 1, _, by omega, by go_num, rfl, HN.out⟩
          case measure => simp [intOf]; omega
        · have HE := Lib.hid (show q = ((maxTo (fun x => lay.getD x 0 + 1) C D : Nat) : Int) by rw [hq, show k = C.length by rw [← HNL.out]; omega, List.take_length])
          clear hq
          go_wp2_with (fail)
          go_ret
          exact ⟨ret_int HE.out, B2.out⟩

end Go.Proofs.YtokmmloakahkhaaDoor
/-
  The walk of the program's LayersOf.
-/
namespace Go.Proofs.YtokmmloakahkhaaDoor
open Go.RowKit

/-- What LayersOf answers. -/
def layOk (p : LProg) : Bool := progOk p && (layL p).isSome
def layR (p : LProg) : List Int := if progOk p = true then ((layL p).getD []).map (fun n : Nat => (n : Int)) else []
theorem layR_few (p : LProg) : (layR p).length ≤ 24 := by
  unfold layR
  split
  · rename_i h
    cases hl : layL p with
    | none => simp
    | some l =>
      have h1 := lay_len h hl
      have h2 := (asksOf_fits h).1
      simp [h1]
      omega
  · simp
theorem layR_yes {p : LProg} (h : progOk p = true) {l : List Nat} (hl : layL p = some l) : layR p = l.map (fun n : Nat => (n : Int)) ∧ layOk p = true := by
  unfold layR layOk
  rw [if_pos h, hl, h]
  exact ⟨rfl, rfl⟩
theorem layR_no {p : LProg} (h : progOk p = false ∨ layL p = none) : layR p = [] ∧ layOk p = false := by
  unfold layR layOk
  rcases h with h | h
  · rw [if_neg (by rw [h]; decide), h]
    exact ⟨rfl, rfl⟩
  · rw [h]
    constructor
    · split <;> rfl
    · cases progOk p <;> rfl
theorem natRow (l : List Nat) (j : Nat) : (l.map (fun n : Nat => (n : Int))).getD j 0 = ((l.getD j 0 : Nat) : Int) := by
  rw [List.getD_eq_getElem?_getD, List.getD_eq_getElem?_getD, List.getElem?_map]
  cases l[j]? <;> rfl
theorem and24 {a b : Nat} (ha : a < 16777216) (hb : b < 16777216) : bits .and .u64 (a : Int) (b : Int) = ((a &&& b : Nat) : Int) := bits_and_u64_nat a b (by omega) (by omega)
theorem setAll_take {l B : List Nat} {m k : Nat} (h : k < B.length) : setAll l (B.take (k + 1)) m = (setAll l (B.take k) m).set B[k] m := by
  rw [take_snoc B k h]
  unfold setAll
  rw [List.foldl_append]
  rfl

set_option maxHeartbeats 4000000 in
set_option maxRecDepth 100000 in
theorem implLayersNo_any (v : Value) (p : LProg) (w : World) (hpo : progOk p = false) (h : RdProg w w.heap.size v p) (hs : szP p ≤ 1048576) :
    Calls Tryd.prog 9 #[v] w fun e w' => e = .returned (.tuple #[.slice none 0 0, .bool false]) ∧ Below w.heap.size w w' := by
  have HP := Lib.hid h
  obtain ⟨a, b, rfl, hA, hR⟩ := h
  obtain ⟨A, c, rfl, hcA, _⟩ := hA
  obtain ⟨A2, c2, rfl, hcR, _⟩ := hR
  obtain ⟨n, hn⟩ : ∃ n, n = p.1.length := ⟨_, rfl⟩
  have HNE := Lib.hid hn
  rw [← hn] at hcA ⊢
  clear hn
  go_enter Tryd.func9, Tryd.ntmps9
  go_upto_region 1 with fail
  obtain ⟨w1, hw1⟩ : ∃ w1, w1 = w.alloc (Obj.cells #[Value.slice A n c, Value.slice A2 p.2.length c2] 26) := ⟨_, rfl⟩
  have X1 : Blk w1 w.heap.size 26 #[.slice A n c, .slice A2 p.2.length c2] := by rw [hw1]; exact Blk.new _ _ _
  have B1 : Below w.heap.size w w1 := by rw [hw1]; exact below1 _ _
  rw [← hw1]
  clear hw1
  have x0 : w1.cell? ⟨w.heap.size, 0, none⟩ = some (.slice A n c) := X1.cell 0
  have x1 : w1.cell? ⟨w.heap.size, 1, none⟩ = some (.slice A2 p.2.length c2) := X1.cell 1
  have CW := Lib.hid (walkOf_no _ p w1 hpo (HP.out.on B1) hs)
  rw [← HNE.out] at CW
  clear X1
  go_wp2_with (go_at_call 38; refine CW.out.mono ?_; rintro e w2 ⟨rfl, b2⟩; have B2 := Lib.hid (bthen B1 b2); clear b2)
  refine bodyPost_ret (v := .tuple #[.slice none 0 0, .bool false]) (by simp [results, Tryd.results9, go_sem]) rfl ?_
  exact ⟨rfl, B2.out⟩

set_option maxHeartbeats 4000000 in
set_option maxRecDepth 100000 in
theorem implLayersYes_any (v : Value) (p : LProg) (w : World) (hpo : progOk p = true) (h : RdProg w w.heap.size v p) (hs : szP p ≤ 1048576) (hT : Tab w) :
    Calls Tryd.prog 9 #[v] w fun e w' => ∃ A' c', e = .returned (.tuple #[.slice A' (layR p).length c', .bool (layOk p)]) ∧ OwnInts w' w.heap.size w'.heap.size (.slice A' (layR p).length c') (layR p) ∧ Below w.heap.size w w' := by
  have HP := Lib.hid h
  have HT := Lib.hid hT
  have HPO := Lib.hid hpo
  obtain ⟨a, b, rfl, hA, hR⟩ := h
  obtain ⟨A, c, rfl, hcA, _⟩ := hA
  obtain ⟨A2, c2, rfl, hcR, _⟩ := hR
  obtain ⟨hn24, hfit⟩ := asksOf_fits hpo
  have hmk := run_make_row' (P := Tryd.prog) 23 3 (.int .i64 0) 8 Tryd.underlying23 Tryd.infoInt rfl .i64 .i64 p.1.length (by omega) (by omega)
  have CW0 := Lib.hid (fun W (hW : Below w.heap.size w W) => walkOf_yes _ p W hpo (HP.out.on hW) hs (HT.out.below hW))
  have HGO := Lib.hid (layers_groups hpo)
  have HLIM := Lib.hid (askP_lim hn24 hfit)
  have HLL := Lib.hid (show layL p = groupsL (ywP p) (nwP p) ((grpP p).drop 0) (List.replicate p.1.length 0) from rfl)
  have HI0 := Lib.hid (show LayInv (ywP p) (nwP p) p.1.length ((grpP p).take 0) (List.replicate p.1.length 0) from by simpa using LayInv.start (ywP p) (nwP p) p.1.length)
  have HGN := Lib.hid (grp_few hpo)
  obtain ⟨F, hF⟩ : ∃ F, F = walkF (askP p) p.1.length p.1.length := ⟨_, rfl⟩
  have HGS := Lib.hid (show F.groups = grpP p by rw [hF]; rfl)
  rw [← hF] at CW0
  obtain ⟨R, hR⟩ : ∃ R, R = layR p := ⟨_, rfl⟩
  obtain ⟨ok, hok⟩ : ∃ ok, ok = layOk p := ⟨_, rfl⟩
  rw [← hR, ← hok]
  have HR := Lib.hid (And.intro hR hok)
  obtain ⟨n, hn⟩ : ∃ n, n = p.1.length := ⟨_, rfl⟩
  have HNE := Lib.hid hn
  rw [← hn] at hcA hn24 hmk CW0 HGO HLL HI0 HGN ⊢
  clear hn hT hpo hF hfit hR hok
  go_enter Tryd.func9, Tryd.ntmps9
  go_upto_region 1 with fail
  obtain ⟨w1, hw1⟩ : ∃ w1, w1 = w.alloc (Obj.cells #[Value.slice A n c, Value.slice A2 p.2.length c2] 26) := ⟨_, rfl⟩
  have X1 : Blk w1 w.heap.size 26 #[.slice A n c, .slice A2 p.2.length c2] := by rw [hw1]; exact Blk.new _ _ _
  have B1 : Below w.heap.size w w1 := by rw [hw1]; exact below1 _ _
  rw [← hw1]
  clear hw1
  have x0 : w1.cell? ⟨w.heap.size, 0, none⟩ = some (.slice A n c) := X1.cell 0
  have x1 : w1.cell? ⟨w.heap.size, 1, none⟩ = some (.slice A2 p.2.length c2) := X1.cell 1
  have HX1 := Lib.hid X1
  have CW := Lib.hid (CW0.out w1 B1)
  clear X1 CW0
  go_upto_region 4 with (go_at_call 38; refine CW.out.mono ?_; rintro e w2 ⟨g, Ap, cp, Ag, cg, rfl, hgg, hgw, b2⟩; have B2 := Lib.hid (bthen B1 b2); have HG2 := Lib.hid hgw; have HX2 := Lib.hid (HX1.out.below b2 HX1.out.lt); have x20 : w2.cell? ⟨w.heap.size, 0, none⟩ = some (.slice A n c) := HX2.out.cell 0; clear b2 hgw)
  clear x0 x1
  have hg2 : g < w2.heap.size := HG2.out.lt
  go_upto_region 5 with fail
  obtain ⟨w3, hw3⟩ : ∃ w3, w3 = w2.alloc (Obj.cells (madeCells #[Value.int .i64 0] n) 3) := ⟨_, rfl⟩
  obtain ⟨gl, hgl⟩ : ∃ gl, gl = w2.heap.size := ⟨_, rfl⟩
  have HR3 := Lib.hid (show w3.rowIs gl 3 n (fun j => .int .i64 (((List.replicate n 0).getD j 0 : Nat) : Int)) from by
    rw [hw3, hgl]
    exact (World.rowIs_made _ _ _ _).congr fun j hj => by simp [List.getD_eq_getElem?_getD, hj])
  have HW3 := Lib.hid (show Below gl w2 w3 by rw [hw3, hgl]; exact below1 _ _)
  have k52 : w3.cell? ⟨g, 52, none⟩ = some (.slice Ag F.groups.length cg) := by
    rw [hw3]
    exact ((HG2.out.on (below1 _ _)).cellGroups)
  have hggl : g < gl := by rw [hgl]; exact hg2
  have hwgl : w.heap.size < gl := by rw [hgl]; exact HX2.out.lt
  rw [← hw3, ← hgl]
  have HGL := Lib.hid hgl
  clear hw3 hgl hg2 x20
  go_wp2_with fail
  go_loopw [31] (fun i wr => ∃ (k : Nat) (lay : List Nat), k ≤ F.groups.length ∧ i = .int .i64 k ∧ wr.rowIs gl 3 n (fun j => .int .i64 ((lay.getD j 0 : Nat) : Int)) ∧ (layL p = groupsL (ywP p) (nwP p) (F.groups.drop k) lay ∧ LayInv (ywP p) (nwP p) n (F.groups.take k) lay) ∧ Below gl w2 wr) (fun i _ => F.groups.length - (intOf i).toNat)
  case atStart => exact ⟨0, _, Nat.zero_le _, rfl, HR3.out, by rw [HGS.out]; exact ⟨HLL.out, HI0.out⟩, HW3.out⟩
  case round =>
    obtain ⟨k, lay, hk, rfl, hrow, hin, hbe⟩ := hrel
    have HROW := Lib.hid hrow
    have HIN := Lib.hid hin
    have HBE := Lib.hid hbe
    have HGW := Lib.hid (HG2.out.on (by rw [← HGL.out]; exact hbe))
    have HTW := Lib.hid (HT.out.below (bthen B2.out (by rw [← HGL.out]; exact hbe)))
    clear hrow hin hbe k52
    have hFl : F.groups.length ≤ 24 := by have h2 := HGN.out; rw [← HGS.out] at h2; omega
    by_cases hlt : k < F.groups.length
    · have hgr := HGW.out.groups
      obtain ⟨gx, cap, e, _, hgx⟩ := hgr.form (by omega)
      injection e with e1 e2 e3
      clear e2 e3
      subst e1
      obtain ⟨x, hx⟩ : ∃ x, x = F.groups[k] := ⟨_, rfl⟩
      have kx : wr.cell? ⟨gx, k, none⟩ = some (.int .u64 (x : Int)) := by
        rw [hgr.cellAt k (by omega), List.getElem?_map, List.getElem?_eq_getElem hlt, hx]
        rfl
      have hgk : k < (grpP p).length := by rw [← HGS.out]; exact hlt
      have hxg : x = (grpP p)[k] := by rw [hx]; simp only [HGS.out]
      have hxm : x ∈ grpP p := by rw [hxg]; exact List.getElem_mem hgk
      have hx24 : x < 16777216 := HGW.out.lim.groups x (by rw [hx]; exact List.getElem_mem hlt)
      have HMEM := Lib.hid (show ∀ u ∈ bitsN x, u < n from fun u hu => HGO.out.mem x hxm u (bitsN_mem.1 hu).2)
      have HST := Lib.hid (show (∀ l, groupL (ywP p) (nwP p) lay x = some l → LayInv (ywP p) (nwP p) n (F.groups.take (k + 1)) l) from by
        have h1 := (groupL_step HGO.out hgk (lay := lay) (by rw [← HGS.out]; exact HIN.out.2)).1
        rw [← hxg, ← HGS.out] at h1
        exact h1)
      have HNX := Lib.hid (show layL p = match groupL (ywP p) (nwP p) lay x with | none => none | some l => groupsL (ywP p) (nwP p) (F.groups.drop (k + 1)) l from by
        have h1 := HIN.out.1
        rw [List.drop_eq_getElem_cons hlt, ← hx] at h1
        exact h1)
      have HFEW := Lib.hid (show ∀ u, lay.getD u 0 ≤ 24 from fun u => by
        have h1 := HIN.out.2.few u
        have h2 := HGN.out
        rw [← HGS.out] at h2
        simp only [List.length_take] at h1
        omega)
      obtain ⟨B, hB⟩ : ∃ B, B = bitsN x := ⟨_, rfl⟩
      obtain ⟨ms, hms⟩ : ∃ ms, ms = bitsOf x := ⟨_, rfl⟩
      have HMS := Lib.hid (show ms = B.map fun j : Nat => (j : Int) by rw [hms, hB]; rfl)
      have HML := Lib.hid (show ms.length = B.length by rw [HMS.out]; simp)
      have hmsl : ms.length ≤ 64 := by rw [hms]; exact bitsOf_length _
      have HGL2 := Lib.hid (show groupL (ywP p) (nwP p) lay x = if B.any (denies (nwP p) x) then none else some (setAll lay B (maxTo (leastL (ywP p) (nwP p) lay) B 0)) by rw [hB]; rfl)
      have CB := Lib.hid (bitNumbers_any x (by omega) wr HTW.out)
      rw [← hms] at CB
      rw [← hB] at HMEM
      clear hgr hgx hx hxg hxm hgk hB hms
      go_wp2_with (go_at_call 39; refine CB.out.mono ?_; rintro e w4 ⟨A4, c4, rfl, o4, b4⟩; have HO4 := Lib.hid o4; have HB4 := Lib.hid (HBE.out.trans (b4.mono (Nat.le_of_lt HROW.out.lt))); have HR4 := Lib.hid (HROW.out.of_block (b4.block gl HROW.out.lt)); have HG4 := Lib.hid (HGW.out.on b4); have HT4 := Lib.hid (HTW.out.below b4); clear o4 b4)
      go_loopw [10, 39] (fun m i ws => ∃ (j : Nat) (q : Int), j ≤ ms.length ∧ i = .int .i64 j ∧ m = .int .i64 q ∧ q = ((maxTo (leastL (ywP p) (nwP p) lay) (B.take j) 0 : Nat) : Int) ∧ (B.take j).any (denies (nwP p) x) = false ∧ Below w4.heap.size w4 ws) (fun _ i _ => ms.length - (intOf i).toNat)
      case atStart => exact ⟨0, 0, Nat.zero_le _, rfl, rfl, rfl, rfl, Below.refl _ _⟩
      case round =>
        obtain ⟨j, q, hj, rfl, rfl, hq, hdn, hbt⟩ := hrel
        have HBT := Lib.hid hbt
        have HR5 := Lib.hid (HR4.out.of_block (hbt.block gl HR4.out.lt))
        have HG5 := Lib.hid (HG4.out.on hbt)
        have HT5 := Lib.hid (HT4.out.below hbt)
        have HDN := Lib.hid hdn
        clear hbt hdn
        by_cases hltj : j < ms.length
        · have hjB : j < B.length := by rw [← HML.out]; exact hltj
          obtain ⟨bb, oo, rfl, hbb, k0⟩ := (HO4.out.rd.on HBT.out).at_ hltj
          obtain ⟨P, hP⟩ : ∃ P, P = B[j] := ⟨_, rfl⟩
          have hPk : ms[j] = (P : Int) := by rw [hP]; simp [HMS.out]
          rw [hPk] at k0
          have hPn : P < n := by rw [hP]; exact HMEM.out _ (List.getElem_mem hjB)
          have hP24 : P < 24 := by omega
          have hPi : (P : Int) < 24 := by omega
          obtain ⟨y, hy⟩ : ∃ y, y = ywP p P := ⟨_, rfl⟩
          obtain ⟨z, hz⟩ : ∃ z, z = nwP p P := ⟨_, rfl⟩
          have hyl : y < 16777216 := by rw [hy]; exact HLIM.out.y P hP24
          have hzl : z < 16777216 := by rw [hz]; exact HLIM.out.n P hP24
          have cY : wr.cell? ⟨g, P, none⟩ = some (wd64 y) := by rw [hy]; exact HG5.out.cellYes hP24
          have cN : wr.cell? ⟨g, 24 + P, none⟩ = some (wd64 z) := by rw [hz]; exact HG5.out.cellNo hP24
          have cN' : wr.cell? ⟨g, 24 + P, none⟩ = some (.int .u64 (z : Int)) := cN
          have hyb : ∀ x ∈ bitsN y, x < n := fun x hx => HGO.out.lim P x ((HGO.out.asks P x).2 (.inl (by rw [← hy]; exact (bitsN_mem.1 hx).2)))
          have hzb : ∀ x ∈ bitsN z, x < n := fun x hx => HGO.out.lim P x ((HGO.out.asks P x).2 (.inr (by rw [← hz]; exact (bitsN_mem.1 hx).2)))
          have CL := leastLayer_any g gl n P y z lay wr cY cN HR5.out hP24 hyb hzb hyl hzl (fun u => by have := HFEW.out u; omega) HT5.out
          obtain ⟨m, hm⟩ : ∃ m, m = leastL (ywP p) (nwP p) lay P := ⟨_, rfl⟩
          rw [show maxTo (fun x => lay.getD x 0 + 1) (bitsN z) (maxTo (fun x => lay.getD x 0) (bitsN y) 0) = m by rw [hm, hy, hz]; rfl] at CL
          have HCL := Lib.hid CL
          have hband := and24 hzl hx24
          have HTK := Lib.hid (show maxTo (leastL (ywP p) (nwP p) lay) (B.take (j + 1)) 0 = max (maxTo (leastL (ywP p) (nwP p) lay) (B.take j) 0) m by rw [maxTo_take hjB, ← hP, hm])
          have HANY := Lib.hid (show (B.take (j + 1)).any (denies (nwP p) x) = (z &&& x != 0) by rw [take_snoc B j hjB, List.any_append, HDN.out, ← hP]; simp [denies, hz])
          have HMB := Lib.hid (show P ∈ B by rw [hP]; exact List.getElem_mem hjB)
          have HZ := Lib.hid hz
          clear cY cN hyb hzb CL hm hP hPk hbb hy hz
          by_cases hd : z &&& x = 0
          · have hd1 : (((z &&& x : Nat) : Int) != 0) = false := by simp [hd]
            have HN := Lib.hid (show (if q < (m : Int) then (m : Int) else q) = ((maxTo (leastL (ywP p) (nwP p) lay) (B.take (j + 1)) 0 : Nat) : Int) ∧ (B.take (j + 1)).any (denies (nwP p) x) = false from ⟨by rw [HTK.out, hq]; omega, by rw [HANY.out, hd]; rfl⟩)
            clear hq hd
            go_wp2_with (go_at_call 40; refine HCL.out.mono ?_; rintro e w6 ⟨rfl, b6⟩; have HB6 := Lib.hid (bthen HBT.out b6); clear b6)
            go_roundw
            case rel => exact ⟨j + 1, _, by omega, by go_num, rfl, HN.out.1, HN.out.2, HB6.out⟩
            case measure => simp [intOf]; omega
          · have hd1 : (((z &&& x : Nat) : Int) != 0) = true := by simp [hd]
            have HE := Lib.hid (show R = [] ∧ ok = false from by
              have h1 : B.any (denies (nwP p) x) = true := List.any_eq_true.2 ⟨P, HMB.out, by unfold denies; rw [← HZ.out]; simp [hd]⟩
              have h2 := HNX.out
              rw [HGL2.out, if_pos h1] at h2
              have h3 := layR_no (p := p) (.inr h2)
              rw [HR.out.1, HR.out.2]
              exact h3)
            have HBW := Lib.hid (show Below w.heap.size w wr from bthen B2.out (by rw [← HGL.out]; exact HB4.out.trans (HBT.out.mono (by have := HB4.out.size; have := HR4.out.lt; omega))))
            clear hq hd
            go_wp2_with fail
            refine bodyPost_ret (v := .tuple #[.slice none 0 0, .bool false]) (by simp [results, Tryd.results9, go_sem]) rfl ?_
            rw [HE.out.1, HE.out.2]
            exact ⟨none, 0, rfl, ⟨World.ownsRow_nil _ _ _ _, fun g hg => by cases hg⟩, HBW.out⟩
        · have hjB : j = B.length := by rw [← HML.out]; omega
          obtain ⟨m, hm⟩ : ∃ m, m = maxTo (leastL (ywP p) (nwP p) lay) B 0 := ⟨_, rfl⟩
          have hqm : q = (m : Int) := by rw [hq, hjB, List.take_length, hm]
          subst hqm
          have HANY := Lib.hid (show B.any (denies (nwP p) x) = false by have := HDN.out; rw [hjB, List.take_length] at this; exact this)
          have HLN := Lib.hid (show groupL (ywP p) (nwP p) lay x = some (setAll lay B m) by rw [HGL2.out, if_neg (by rw [HANY.out]; decide), hm])
          have HLE := Lib.hid (show lay.length = n from HIN.out.2.len)
          clear hq hjB hm
          obtain ⟨wo, rfl⟩ : ∃ wo, wo = wr := ⟨_, rfl⟩
          have HBO := Lib.hid (show Below gl w2 wo from HB4.out.trans (HBT.out.mono (by have := HB4.out.size; have := HR4.out.lt; omega)))
          go_wp2_with fail
          go_loopw [64] (fun i ws => ∃ (j : Nat), j ≤ ms.length ∧ i = .int .i64 j ∧ ws.rowIs gl 3 n (fun u => .int .i64 (((setAll lay (B.take j) m).getD u 0 : Nat) : Int)) ∧ (Below gl w2 ws ∧ Only gl (gl + 1) wo ws)) (fun i _ => ms.length - (intOf i).toNat)
          case atStart => exact ⟨0, Nat.zero_le _, rfl, HR5.out, HBO.out, Only.refl _ _ _⟩
          case round =>
            obtain ⟨j, hj, rfl, hr6, hb6, ho6⟩ := hrel
            by_cases hltj : j < ms.length
            · have hjB : j < B.length := by rw [← HML.out]; exact hltj
              have hrd4 := (HO4.out.rd.on HBT.out)
              obtain ⟨bb, oo, e4, hbb, k0⟩ := hrd4.at_ hltj
              have hbg : bb ≠ gl := fun e => by
                have h1 := (HO4.out.1.lt bb (by rw [e4]; rfl))
                have h2 := HROW.out.lt
                omega
              subst e4
              obtain ⟨P, hP⟩ : ∃ P, P = B[j] := ⟨_, rfl⟩
              have hPk : ms[j] = (P : Int) := by rw [hP]; simp [HMS.out]
              rw [hPk] at k0
              have k1 : wr.cell? ⟨bb, oo + j, none⟩ = some (.int .i64 (P : Int)) := (World.cell?_of_block (ho6.block bb hbb (by omega))).trans k0
              have hPn : P < n := by rw [hP]; exact HMEM.out _ (List.getElem_mem hjB)
              have hPi : (P : Int) < (n : Int) := by omega
              have c1 := hr6.cell hPn
              have f1 := hr6.frozen P
              have HN := Lib.hid (show (wr.setCell ⟨gl, P, none⟩ (.int .i64 (m : Int))).rowIs gl 3 n (fun u => .int .i64 (((setAll lay (B.take (j + 1)) m).getD u 0 : Nat) : Int)) ∧ Below gl w2 (wr.setCell ⟨gl, P, none⟩ (.int .i64 (m : Int))) ∧ Only gl (gl + 1) wo (wr.setCell ⟨gl, P, none⟩ (.int .i64 (m : Int))) from by
                refine ⟨(hr6.set P _).congr fun u hu => ?_, hb6.setCell (Nat.le_refl _) _, ho6.setCell (by simp) _⟩
                rw [setAll_take hjB, ← hP]
                by_cases e : u = P
                · subst e
                  rw [if_pos rfl, List.getD_eq_getElem?_getD, List.getElem?_set_self (by rw [setAll_len, HLE.out]; exact hPn)]
                  rfl
                · rw [if_neg e, List.getD_eq_getElem?_getD, List.getD_eq_getElem?_getD, List.getElem?_set_ne (Ne.symm e)])
              clear hr6 hb6 ho6 k0 hbb hbg hrd4 hPk hP
              go_wp2_with fail
              go_roundw
              case rel => exact ⟨j + 1, by omega, by go_num, HN.out.1, HN.out.2.1, HN.out.2.2⟩
              case measure => simp [intOf]; omega
            · have hjB : j = B.length := by rw [← HML.out]; omega
              have HN := Lib.hid (show wr.rowIs gl 3 n (fun u => .int .i64 (((setAll lay B m).getD u 0 : Nat) : Int)) ∧ (layL p = groupsL (ywP p) (nwP p) (F.groups.drop (k + 1)) (setAll lay B m) ∧ LayInv (ywP p) (nwP p) n (F.groups.take (k + 1)) (setAll lay B m)) ∧ Below gl w2 wr from by
                rw [hjB, List.take_length] at hr6
                have h2 := HNX.out
                rw [HLN.out] at h2
                exact ⟨hr6, ⟨h2, HST.out _ HLN.out⟩, hb6⟩)
              clear hr6 hb6 ho6 hjB
              go_wp2_with fail
              go_roundw
              case rel => exact ⟨k + 1, _, by omega, by go_num, HN.out.1, HN.out.2.1, HN.out.2.2⟩
              case measure => simp [intOf]; omega
    · have hkn : k = F.groups.length := by omega
      have HE := Lib.hid (show R = lay.map (fun n : Nat => (n : Int)) ∧ ok = true from by
        have h1 := HIN.out.1
        rw [hkn, List.drop_length] at h1
        have h2 := layR_yes HPO.out h1
        rw [HR.out.1, HR.out.2]
        exact h2)
      have HLE := Lib.hid (show R.length = n by rw [HE.out.1, List.length_map]; exact HIN.out.2.len)
      have HO := Lib.hid (show OwnInts wr w.heap.size wr.heap.size (.slice (some ⟨gl, 0, none⟩) n n) R from by
        have h1 : wr.rowIs gl 3 R.length (fun j => .int .i64 (R.getD j 0)) := by
          rw [HLE.out]
          exact HROW.out.congr fun j _ => by rw [HE.out.1, natRow]
        have h2 := OwnInts.of_rowIs h1 (Nat.le_of_lt hwgl) HROW.out.lt (by rw [HLE.out]; unfold maxLen; omega)
        rw [HLE.out] at h2
        exact h2)
      have HBW := Lib.hid (show Below w.heap.size w wr from bthen B2.out (by rw [← HGL.out]; exact HBE.out))
      clear hkn
      go_wp2_with fail
      refine bodyPost_ret (v := .tuple #[.slice (some ⟨gl, 0, none⟩) n n, .bool true]) (by simp [results, Tryd.results9, go_sem]) rfl ?_
      rw [HE.out.2, HLE.out]
      exact ⟨_, n, rfl, HO.out, HBW.out⟩

theorem implLayersOf_any (v : Value) (p : LProg) (w : World) (h : RdProg w w.heap.size v p) (hs : szP p ≤ 1048576) (hT : Tab w) :
    Calls Tryd.prog 9 #[v] w fun e w' => ∃ A' c', e = .returned (.tuple #[.slice A' (layR p).length c', .bool (layOk p)]) ∧ OwnInts w' w.heap.size w'.heap.size (.slice A' (layR p).length c') (layR p) ∧ Below w.heap.size w w' := by
  cases hpo : progOk p
  · refine (implLayersNo_any v p w hpo h hs).mono ?_
    rintro e w' ⟨rfl, hb⟩
    obtain ⟨h1, h2⟩ := layR_no (p := p) (.inl hpo)
    rw [h1, h2]
    exact ⟨none, 0, rfl, ⟨World.ownsRow_nil _ _ _ _, fun g hg => by cases hg⟩, hb⟩
  · exact implLayersYes_any v p w hpo h hs hT

end Go.Proofs.YtokmmloakahkhaaDoor
/-
  Layers and links: what fits, what is least, and when there are none. Plain mathematics.
-/
namespace Go.Proofs.YtokmmloakahkhaaDoor
open Go.RowKit

theorem link_mem {p : LProg} (h : progOk p = true) {x : LLink} : x ∈ linksOf p ↔ ∃ i k : Nat, i < p.1.length ∧ k < p.1.length ∧ x.1 = (i : Int) ∧ x.2.1 = (k : Int) ∧ asked (if x.2.2 then 1 else 0) (asksOf p.2) i k = true := by
  obtain ⟨a, b, c⟩ := x
  unfold linksOf
  rw [if_pos h]
  unfold linksL linksFrom linkAt
  simp only [List.mem_flatMap, List.mem_range, List.mem_append]
  constructor
  · rintro ⟨i, hi, k, hk, hx⟩
    refine ⟨i, k, hi, hk, ?_⟩
    rcases hx with hx | hx
    · split at hx
      · rename_i ha
        obtain ⟨rfl, rfl, rfl⟩ : a = (i : Int) ∧ b = (k : Int) ∧ c = false := by simpa using hx
        exact ⟨rfl, rfl, ha⟩
      · cases hx
    · split at hx
      · rename_i ha
        obtain ⟨rfl, rfl, rfl⟩ : a = (i : Int) ∧ b = (k : Int) ∧ c = true := by simpa using hx
        exact ⟨rfl, rfl, ha⟩
      · cases hx
  · rintro ⟨i, k, hi, hk, rfl, rfl, ha⟩
    refine ⟨i, hi, k, hk, ?_⟩
    cases c
    · left
      rw [if_pos (by simpa using ha)]
      simp
    · right
      rw [if_pos (by simpa using ha)]
      simp
theorem link_none {p : LProg} (h : progOk p = false) : linksOf p = [] := by
  unfold linksOf
  rw [if_neg (by rw [h]; decide)]
/-- Each literal that asks has its link. -/
theorem link_lit {p : LProg} (h : progOk p = true) {r : LRule} (hr : r ∈ p.2) {l : LLit} (hl : l ∈ r.2) (hk : l.1 = 0 ∨ l.1 = 1) : (r.1.1, l.2.1, decide (l.1 = 1)) ∈ linksOf p := by
  have hm : (r.1.1, l) ∈ asksOf p.2 := by
    unfold asksOf
    exact List.mem_flatMap.2 ⟨r, hr, List.mem_map.2 ⟨l, hl, rfl⟩⟩
  have hf := (asksOf_fits h).2 _ hm
  obtain ⟨⟨h1, h2⟩, h3⟩ := hf
  obtain ⟨h4, h5⟩ := h3 hk
  simp only at h1 h2 h4 h5
  refine (link_mem h).2 ⟨r.1.1.toNat, l.2.1.toNat, by omega, by omega, by simp; omega, by simp; omega, ?_⟩
  unfold asked
  refine List.any_eq_true.2 ⟨_, hm, decide_eq_true ⟨by simp; omega, ?_, by simp; omega⟩⟩
  rcases hk with e | e <;> simp [e]

theorem getD_toNat (ls : List Int) (u : Nat) (h : u < ls.length) : ls.getD u 0 = ls[u] := by
  rw [List.getD_eq_getElem?_getD, List.getElem?_eq_getElem h]
  rfl
theorem fit_links {p : LProg} {ls : List Int} (h : layersFit p ls = true) : progOk p = true ∧ ls.length = p.1.length ∧ (∀ x ∈ ls, 0 ≤ x) ∧ ∀ x ∈ linksOf p, linkBad ls x = false := by
  simp only [layersFit, Bool.and_eq_true, decide_eq_true_eq, List.all_eq_true, Bool.not_eq_true', List.any_eq_false] at h
  exact ⟨h.1.1, h.1.2, h.2.1, fun x hx => by simpa using h.2.2 x hx⟩
/-- Along a link the numbers fit. -/
theorem fit_link {p : LProg} {ls : List Int} (h : layersFit p ls = true) {x : LLink} (hx : x ∈ linksOf p) : 0 ≤ x.1 ∧ x.1.toNat < ls.length ∧ 0 ≤ x.2.1 ∧ x.2.1.toNat < ls.length ∧ ls.getD x.2.1.toNat 0 ≤ ls.getD x.1.toNat 0 ∧ (x.2.2 = true → ls.getD x.2.1.toNat 0 ≠ ls.getD x.1.toNat 0) := by
  obtain ⟨h1, h2, h3, h4⟩ := fit_links h
  obtain ⟨i, k, hi, hk, e1, e2, _⟩ := (link_mem h1).1 hx
  have h5 := h4 x hx
  simp only [linkBad, Bool.or_eq_false_iff, decide_eq_false_iff_not, Bool.and_eq_false_iff] at h5
  refine ⟨by omega, by omega, by omega, by omega, by omega, fun hc => ?_⟩
  rcases h5.2 with h6 | h6
  · exact h6
  · rw [hc] at h6; cases h6
theorem fit_lay {p : LProg} {ls : List Int} (h : layersFit p ls = true) : FitLay (ywP p) (nwP p) p.1.length fun u => (ls.getD u 0).toNat := by
  obtain ⟨h1, h2, h3, h4⟩ := fit_links h
  obtain ⟨hn, hf⟩ := asksOf_fits h1
  have hnn : ∀ u, u < p.1.length → 0 ≤ ls.getD u 0 := fun u hu => by
    rw [getD_toNat ls u (by omega)]
    exact h3 _ (List.getElem_mem _)
  intro u hu
  refine ⟨fun x hx => ?_, fun x hx => ?_⟩
  · have ha := (cell_has h1 hu).1.1 hx
    have hxn := (asked_lt (.inl rfl) hf ha).2
    have hm : ((u : Int), (x : Int), false) ∈ linksOf p := (link_mem h1).2 ⟨u, x, hu, hxn, rfl, rfl, by simpa using ha⟩
    have h5 := (fit_link h hm).2.2.2.2.1
    simp only [Int.toNat_natCast] at h5
    show (ls.getD x 0).toNat ≤ (ls.getD u 0).toNat
    have := hnn u hu
    omega
  · have ha := (cell_has h1 hu).2.1 hx
    have hxn := (asked_lt (.inr rfl) hf ha).2
    have hm : ((u : Int), (x : Int), true) ∈ linksOf p := (link_mem h1).2 ⟨u, x, hu, hxn, rfl, rfl, by simpa using ha⟩
    have h5 := (fit_link h hm).2.2.2.2
    simp only [Int.toNat_natCast] at h5
    show (ls.getD x 0).toNat < (ls.getD u 0).toNat
    have h6 := h5.2 trivial
    have := hnn u hu
    have := hnn x hxn
    omega
theorem layR_at {p : LProg} (h : progOk p = true) {l : List Nat} (hl : layL p = some l) : (layR p).length = p.1.length ∧ ∀ u, (layR p).getD u 0 = ((l.getD u 0 : Nat) : Int) := by
  rw [(layR_yes h hl).1]
  refine ⟨by rw [List.length_map, lay_len h hl], fun u => ?_⟩
  simp only [List.getD_eq_getElem?_getD, List.getElem?_map]
  cases l[u]? <;> simp
/-- Numbers that fit are never below the least ones. -/
theorem fit_least {p : LProg} {ls : List Int} (h : layersFit p ls = true) : layOk p = true ∧ (layR p).length = ls.length ∧ ∀ u, u < ls.length → (layR p).getD u 0 ≤ ls.getD u 0 := by
  obtain ⟨h1, h2, h3, _⟩ := fit_links h
  have hF := fit_lay h
  cases hl : layL p with
  | none => exact absurd hF ((lay_inv h1).2 hl _)
  | some l =>
    obtain ⟨k1, k2⟩ := layR_at h1 hl
    refine ⟨(layR_yes h1 hl).2, by omega, fun u hu => ?_⟩
    have h4 := lay_least h1 hl hF (u := u) (by omega)
    rw [k2]
    have : 0 ≤ ls.getD u 0 := by
      rw [getD_toNat ls u (by omega)]
      exact h3 _ (List.getElem_mem _)
    omega
/-- The least ones fit. -/
theorem layR_fits {p : LProg} (h : layOk p = true) : layersFit p (layR p) = true := by
  obtain ⟨h1, h2⟩ : progOk p = true ∧ (layL p).isSome = true := by simpa [layOk] using h
  obtain ⟨l, hl⟩ := Option.isSome_iff_exists.1 h2
  obtain ⟨k1, k2⟩ := layR_at h1 hl
  have hF := lay_fit h1 hl
  simp only [layersFit, Bool.and_eq_true, decide_eq_true_eq, List.all_eq_true, Bool.not_eq_true', List.any_eq_false]
  refine ⟨⟨h1, k1⟩, fun x hx => ?_, fun x hx => ?_⟩
  · rw [(layR_yes h1 hl).1] at hx
    obtain ⟨y, _, rfl⟩ := List.mem_map.1 hx
    exact Int.natCast_nonneg y
  · obtain ⟨i, k, hi, hk, e1, e2, ha⟩ := (link_mem h1).1 hx
    unfold linkBad
    rw [e1, e2]
    simp only [Int.toNat_natCast, k2]
    cases hc : x.2.2
    · rw [hc] at ha
      have := (hF i hi).1 k ((cell_has h1 hi).1.2 (by simpa using ha))
      simp only at this
      simp
      simp only [List.getD_eq_getElem?_getD] at this
      omega
    · rw [hc] at ha
      have := (hF i hi).2 k ((cell_has h1 hi).2.2 (by simpa using ha))
      simp only at this
      simp
      simp only [List.getD_eq_getElem?_getD] at this
      omega
/-- None of them can be less. -/
theorem layR_less {p : LProg} {i : Nat} (hi : i < (layR p).length) : layersFit p ((layR p).set i ((layR p)[i] - 1)) = false := by
  cases hx : layersFit p ((layR p).set i ((layR p)[i] - 1)) with
  | false => rfl
  | true =>
    have h1 := (fit_least hx).2.2 i (by simpa using hi)
    rw [getD_toNat _ i hi, getD_toNat _ i (by simpa using hi), List.getElem_set_self] at h1
    omega
theorem fw_rch {p : LProg} (h : progOk p = true) {a : Nat} (ha : a < p.1.length) (b : Nat) : fwM (askT p) p.1.length a b = true ↔ Rch (askP p) a b := by
  obtain ⟨hn24, hf⟩ := asksOf_fits h
  obtain ⟨h1, h2, _⟩ := walk_all hn24 (askP_lt hf)
  have h3 := h1.rch a b (h2 a ha)
  rw [← reach_fw h ha b]
  exact h3
theorem groupsL_none {yw nw : Nat → Nat} : ∀ (gs lay : List Nat), groupsL yw nw gs lay = none → ∃ g ∈ gs, ∃ u ∈ bitsN g, denies nw g u = true
  | [], lay, h => by cases h
  | g :: gs, lay, h => by
    have hcase : groupsL yw nw (g :: gs) lay = match groupL yw nw lay g with | none => none | some l => groupsL yw nw gs l := rfl
    rw [hcase] at h
    cases hg : groupL yw nw lay g with
    | none =>
      unfold groupL at hg
      split at hg
      · rename_i hd
        obtain ⟨u, hu, hdu⟩ := List.any_eq_true.1 hd
        exact ⟨g, List.mem_cons_self .., u, hu, hdu⟩
      · cases hg
    | some l =>
      rw [hg] at h
      obtain ⟨g', hg', h'⟩ := groupsL_none gs l h
      exact ⟨g', List.mem_cons_of_mem _ hg', h'⟩
/-- A link that denies one that asks it. -/
def badLink (p : LProg) (x : LLink) : Bool := x.2.2 && (fwM (askT p) p.1.length x.2.1.toNat x.1.toNat || decide (x.2.1 = x.1))
/-- There are no layers just if a predicate denies one that asks it. -/
theorem lay_bad {p : LProg} (h : progOk p = true) : (linksOf p).any (badLink p) = !layOk p := by
  obtain ⟨hn, hf⟩ := asksOf_fits h
  have hG := layers_groups h
  have hasks : ∀ i k, i < p.1.length → (asked 1 (asksOf p.2) i k = true ↔ has (nwP p i) k) := fun i k hi => (cell_has h hi).2.symm
  have hrch : ∀ a b, a < p.1.length → (fwM (askT p) p.1.length a b = true ↔ Rch (askP p) a b) := fun a b ha => fw_rch h ha b
  cases hl : layL p with
  | none =>
    rw [(layR_no (.inr hl)).2]
    obtain ⟨g, hg, u, hu, hdu⟩ := groupsL_none _ _ hl
    obtain ⟨x, hx, hgx⟩ := denies_iff.1 hdu
    have hgu : has g u := ((bitsN_mem ..).1 hu).2
    have hun := hG.mem g hg u hgu
    have hxn := hG.mem g hg x hgx
    refine List.any_eq_true.2 ⟨((u : Int), (x : Int), true), (link_mem h).2 ⟨u, x, hun, hxn, rfl, rfl, by simpa using (hasks u x hun).2 hx⟩, ?_⟩
    unfold badLink
    simp only [Int.toNat_natCast, Bool.true_and, Bool.or_eq_true, decide_eq_true_eq]
    rcases hG.tied g hg x u hgx hgu with e | e
    · right; rw [e]
    · left; exact (hrch x u hxn).2 e
  | some l =>
    rw [(layR_yes h hl).2]
    refine List.any_eq_false.2 fun y hy => ?_
    obtain ⟨i, k, hi, hk, e1, e2, ha⟩ := (link_mem h).1 hy
    have hF := lay_fit h hl
    unfold badLink
    cases hc : y.2.2
    · simp
    · rw [hc] at ha
      have hd := (hF i hi).2 k ((hasks i k hi).1 (by simpa using ha))
      rw [e1, e2]
      simp only [Int.toNat_natCast, Bool.true_and, Bool.or_eq_true, decide_eq_true_eq]
      rintro (e | e)
      · have := hF.rch (fun u x hx => (hG.asks u x).1 hx) hG.lim hk ((hrch k i hk).1 e)
        simp only at this hd
        omega
      · have e : k = i := by omega
        subst e
        simp only at hd
        omega

end Go.Proofs.YtokmmloakahkhaaDoor
/-
  A slice of bytes that came in.
-/
namespace Go.Proofs.YtokmmloakahkhaaDoor
open Go.ChangeShapes Go.WideShapes Go.ChangeAt Go.RowKit Go.Joins Go.Deep

theorem Tryd.cells5 : Tryd.prog.cellsOf 5 = 1 := by kernel_rfl

/-- What is known of a slice of bytes that came in. -/
def InBytes (W : World) (v : Value) (bs : List Nat) : Prop := RdBytes W W.heap.size v bs ∧ bs.length ≤ maxLen ∧ ∀ b ∈ bs, b < 256

theorem byte_of_wf {n : Int} (h : (Lit.int .u8 n).wf = true) : 0 ≤ n ∧ n < 256 := by
  simp only [Lit.wf, Bool.and_eq_true, decide_eq_true_eq] at h
  have h1 : IntKind.u8.min = 0 := by decide
  have h2 : IntKind.u8.max = 255 := by decide
  omega

set_option maxRecDepth 100000 in
theorem open_inBytes {H : Type} {enc : TypeId × Value → H} {W : World} {v : Value} {d : DataW H} {p : List MemPlace} {b0 : Nat} (hv : Value.okWide Tryd.prog W .any b0 22 v) (h : DataW.Trod enc Tryd.prog W 0 (fun _ => true) true 22 v d p) :
    ∃ bs, InBytes W v bs := by
  obtain ⟨a, len, cap, rfl⟩ := okWide_slice Tryd.underlying22 hv
  obtain ⟨fuel, hf⟩ := h
  have hf : DataW.trod enc Tryd.prog W 0 (fun _ => true) true fuel 22 [.slice a len cap] = some (d, p) := by simpa [Value.cells] using hf
  rcases open_ints Tryd.underlying22 Tryd.underlying5 Tryd.cells5 hf with ⟨hcs, _⟩ | ⟨a, len, cap, zs, hcs, _, hl, hm, hz, _, hcell, hwz⟩
  · simp at hcs
    obtain ⟨rfl, rfl, rfl⟩ := hcs
    exact ⟨[], ⟨none, 0, rfl, by simp, fun h => absurd h (by simp)⟩, by simp, by simp⟩
  · simp at hcs
    obtain ⟨rfl, rfl, rfl⟩ := hcs
    simp at hz
    refine ⟨(zs.take len).map Int.toNat, ⟨some a, cap, ?_, by simp; omega, fun hn => ?_⟩, by simp; omega, ?_⟩
    · congr 1
      simp
      omega
    · have hlen : (zs.take len).length = len := by simp; omega
      simp only [List.length_map, hlen] at hn
      obtain ⟨b, o, rfl, hc⟩ := ints_at hcell (by omega)
      refine ⟨b, o, rfl, World.block_lt_of_cell? _ _ (hc 0 (by omega)), fun k hk => ?_⟩
      simp only [List.length_map, hlen] at hk
      have hw := byte_of_wf (hwz zs[k] (List.getElem_mem (by omega)))
      rw [hc k (by omega)]
      simp [show k < zs.length by omega]
      omega
    · intro b hb
      rw [List.mem_map] at hb
      obtain ⟨z, hz1, rfl⟩ := hb
      have := byte_of_wf (hwz z (List.mem_of_mem_take hz1))
      omega

end Go.Proofs.YtokmmloakahkhaaDoor
/-
  Links compared, marked, held: in the one form that the laws' walks ask.
-/
namespace Go.Proofs.YtokmmloakahkhaaDoor
open Go.RowKit

def linkV (l : LLink) : Value := .agg #[.int .i64 l.1, .int .i64 l.2.1, .bool l.2.2]
theorem RdLinks.at_ {w : World} {B c : Nat} {A : Option Addr} {ls : List LLink} (h : RdLinks w B (.slice A ls.length c) ls) {k : Nat} (hk : k < ls.length) :
    ∃ b o, A = some ⟨b, o, none⟩ ∧ b < B ∧ w.cell? ⟨b, o + k * 3, none⟩ = some (.int .i64 ls[k].1) ∧ w.cell? ⟨b, o + k * 3 + 1, none⟩ = some (.int .i64 ls[k].2.1) ∧ w.cell? ⟨b, o + k * 3 + 2, none⟩ = some (.bool ls[k].2.2) := by
  obtain ⟨b, o, u0, u1, u2, e, hb, k0, k1, k2, rfl, rfl, rfl⟩ := RdRow.get (Q := QLink) h hk
  exact ⟨b, o, e, hb, k0, k1, k2⟩

/-- The links that the marks from k on make. -/
def markK (k : Int) (i : Nat) : LLink := (k + 3 * (i : Int), k + 3 * (i : Int) + 1, (k + 3 * (i : Int) + 1 + 1) % 3 == 0)
def marksK (k : Int) (n : Nat) : List LLink := (List.range n).map (markK k)
theorem marksK_len (k : Int) (n : Nat) : (marksK k n).length = n := by simp [marksK]
theorem marksK_at {k : Int} {n j : Nat} (h : j < (marksK k n).length) : (marksK k n)[j] = markK k j := by simp [marksK]
/-- The first j are marked. -/
def markTo (k : Int) (ls : List LLink) (j : Nat) : List LLink := marksK k j ++ ls.drop j
theorem markTo_len {k : Int} {ls : List LLink} {j : Nat} (h : j ≤ ls.length) : (markTo k ls j).length = ls.length := by simp [markTo, marksK_len]; omega
theorem flatK_len (ls : List LLink) : (flatK ls).length = ls.length * 3 := by
  induction ls with
  | nil => rfl
  | cons l ls ih =>
    have e : flatK (l :: ls) = .int .i64 l.1 :: .int .i64 l.2.1 :: .bool l.2.2 :: flatK ls := rfl
    rw [e]
    simp only [List.length_cons, ih]
    omega
theorem flatK_app (a b : List LLink) : flatK (a ++ b) = flatK a ++ flatK b := by simp [flatK]
theorem markTo_step {k : Int} {ls : List LLink} {j : Nat} (h : j < ls.length) :
    (((flatK (markTo k ls j)).set (j * 3) (.int .i64 (markK k j).1)).set (j * 3 + 1) (.int .i64 (markK k j).2.1)).set (j * 3 + 2) (.bool (markK k j).2.2) = flatK (markTo k ls (j + 1)) := by
  unfold markTo
  have e1 : marksK k (j + 1) = marksK k j ++ [markK k j] := by simp [marksK, List.range_succ]
  have e2 : ls.drop j = ls[j] :: ls.drop (j + 1) := List.drop_eq_getElem_cons h
  have hl : (flatK (marksK k j)).length = j * 3 := by rw [flatK_len, marksK_len]
  rw [e1, e2, flatK_app, List.append_assoc, flatK_app]
  have e3 : flatK (ls[j] :: ls.drop (j + 1)) = .int .i64 ls[j].1 :: .int .i64 ls[j].2.1 :: .bool ls[j].2.2 :: flatK (ls.drop (j + 1)) := rfl
  have e4 : flatK ([markK k j] ++ ls.drop (j + 1)) = .int .i64 (markK k j).1 :: .int .i64 (markK k j).2.1 :: .bool (markK k j).2.2 :: flatK (ls.drop (j + 1)) := rfl
  rw [e3, e4, List.set_append_right _ _ (by omega), List.set_append_right _ _ (by omega), List.set_append_right _ _ (by omega), hl]
  have d0 : j * 3 - j * 3 = 0 := by omega
  have d1 : j * 3 + 1 - j * 3 = 1 := by omega
  have d2 : j * 3 + 2 - j * 3 = 2 := by omega
  rw [d0, d1, d2]
  rfl

/-- The marks from k on stand in a row of links, and end at z. -/
def HdLinks (w : World) (lo hi : Nat) (v : Value) (ls : List LLink) (k z : Int) : Prop := OwnLinks w lo hi v (marksK k ls.length) ∧ z = k + 3 * (ls.length : Int) ∧ 0 ≤ k ∧ k ≤ 4294967296 ∧ ls.length ≤ 1073741824
theorem HdLinks.below {w w' : World} {lo hi B : Nat} {v : Value} {ls : List LLink} {k z : Int} (h : HdLinks w lo hi v ls k z) (hb : Below B w w') (hB : hi ≤ B) : HdLinks w' lo hi v ls k z := ⟨h.1.below hb hB, h.2⟩
theorem HdLinks.only {w w' : World} {lo hi lo' hi' : Nat} {v : Value} {ls : List LLink} {k z : Int} (h : HdLinks w lo hi v ls k z) (ho : Only lo' hi' w w') (hd : hi ≤ lo' ∨ hi' ≤ lo) : HdLinks w' lo hi v ls k z := ⟨h.1.only ho hd, h.2⟩
end Go.Proofs.YtokmmloakahkhaaDoor
