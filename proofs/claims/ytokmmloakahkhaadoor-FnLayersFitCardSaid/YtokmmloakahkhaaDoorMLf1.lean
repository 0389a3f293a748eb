/-
  The law FnLayersFit: for every input the call returns true, and each argument reads behind it as it read before. Conditions: none but the row's own.
-/
import Derived.Test.YtokmmloakahkhaaDoorMLk5
import Derived.Test.YtokmmloakahkhaaDoorMLy1
import Derived.Test.YtokmmloakahkhaaDoorMLk2
import Derived.Test.YtokmmloakahkhaaDoorMLk6
import Derived.Test.YtokmmloakahkhaaDoorMLk3
import Derived.Test.YtokmmloakahkhaaDoorRows
import Derived.Test.YtokmmloakahkhaaDoorMLk1
import Derived.Test.YtokmmloakahkhaaDoorCards
import Derived.Test.YtokmmloakahkhaaDoorTie
import Derived.Lay
import Derived.SevenTiedAt
/-
  The draw of DrawLayersFit: a program, and numbers for its predicates.
-/
namespace Go.Proofs.YtokmmloakahkhaaDoor
open Go.RowKit

theorem Only.grownF {lo hi : Nat} {w4 w3 w5 : World} {row : Option Nat} (h : Only lo hi w4 w3) (hg : w3.grownBy w5 row) (hr : ∀ b, row = some b → w4.heap.size ≤ b) : Only lo hi w4 w5 :=
  ⟨hg.os.trans h.os, hg.tape.trans h.tape, hg.output.trans h.output, Nat.le_trans h.size hg.size, fun k hk ho => (hg.block k (Nat.lt_of_lt_of_le hk h.size) (fun e => by have := hr k e.symm; omega)).trans (h.block k hk ho)⟩
def lenV : Value → Nat
  | .slice _ n _ => n
  | _ => 0
theorem Only.setHigh {lo hi : Nat} {w4 wr : World} (h : Only lo hi w4 wr) {p : Addr} (hp : w4.heap.size ≤ p.block) (u : Value) : Only lo hi w4 (wr.setCell p u) :=
  ⟨h.os, h.tape, h.output, by simpa using h.size, fun k hk ho => (Below.heap_setCell _ _ _ k (by omega)).trans (h.block k hk ho)⟩
/-- The numbers so far: in a row of the call's own; the reader has gone on. -/
structure LFit (g : Nat) (bs : List Nat) (w4 wr : World) (q : Nat) (A : Option Addr) (c : Nat) (xs : List Int) : Prop where
  own : OwnInts wr w4.heap.size wr.heap.size (.slice A xs.length c) xs
  rdr : Rdr wr g bs q
  only : Only g (g + 1) w4 wr
theorem LFit.push {g : Nat} {bs : List Nat} {w4 wr w3 w5 : World} {q q2 : Nat} {A : Option Addr} {c g2 cap : Nat} {xs : List Int} {x : Int} (h : LFit g bs w4 wr q A c xs) (hg : g < w4.heap.size) (ho : Only g (g + 1) wr w3) (hr : Rdr w3 g bs q2)
    (hgr : w3.grownBy w5 (Value.slice A xs.length c).ownBlock) (hown : w5.ownsRow w4.heap.size 3 1 (.slice (some ⟨g2, 0, none⟩) (xs.length + 1) cap) (xs.length + 1) (xs.map (Value.int .i64) ++ [.int .i64 x])) : LFit g bs w4 w5 q2 (some ⟨g2, 0, none⟩) cap (xs ++ [x]) := by
  have hb : ∀ b, (Value.slice A xs.length c).ownBlock = some b → w4.heap.size ≤ b := fun b hb => (h.own.lt hb).1
  refine ⟨⟨?_, fun b hb => (hown.lt b (by simpa using hb)).2⟩, hr.same fun k hk => hgr.block k (by have := hr.lt; omega) (fun e => by have := hb k e.symm; omega), (h.only.trans ho).grownF hgr hb⟩
  have e : (xs ++ [x]).length = xs.length + 1 := by simp
  rw [e, List.map_append]
  exact hown

set_option maxHeartbeats 4000000 in
set_option maxRecDepth 100000 in
theorem drawLayersFit_any (v : Value) (code : List Nat) (w : World) (h : RdBytes w w.heap.size v code) (hby : ∀ b ∈ code, b < 256) (hn : code.length ≤ 1073741824) :
    Calls Tryd.prog 17 #[v] w fun e w' => ∃ (u : Value) (p : LProg) (A' : Option Addr) (c' : Nat) (ls : List Int), e = .returned (.tuple #[u, .slice A' ls.length c']) ∧ DrawnP w.heap.size w' u p ∧ RdInts w' w'.heap.size (.slice A' ls.length c') ls ∧ ls.length ≤ 30 ∧ Below w.heap.size w w' := by
  obtain ⟨i0, hi0, hz0, hz1, hz2⟩ := info_parts Tryd.infoInt
  have HV := Lib.hid h
  clear h
  go_enter Tryd.func17, Tryd.ntmps17
  go_upto_region 1 with fail
  obtain ⟨w0, hw0⟩ : ∃ w0, w0 = w.alloc (Obj.cells #[Value.slice none 0 0, Value.slice none 0 0] 26) := ⟨_, rfl⟩
  have HRA := Lib.hid (show Blk w0 w.heap.size 26 #[.slice none 0 0, .slice none 0 0] by rw [hw0]; exact Blk.new _ _ _)
  have HB0 := Lib.hid (show Below w.heap.size w w0 by rw [hw0]; exact below1 _ _)
  have HS0 := Lib.hid (show w0.heap.size = w.heap.size + 1 by rw [hw0]; simp)
  rw [← hw0]
  clear hw0
  obtain ⟨g, hg⟩ : ∃ g, g = w0.heap.size := ⟨_, rfl⟩
  go_upto_region 3 with (first
    | (go_at_call 49; refine (l40Open_any v code w0 (HV.out.onM HB0.out) hby hn).mono ?_
       rintro e w1 ⟨rfl, hr1, hb1⟩
       rw [← hg] at hr1 ⊢
       have hg1 : g < w1.heap.size := hr1.lt
       have HG := Lib.hid (show w.heap.size < g by rw [hg, HS0.out]; omega)
       have HB1 := Lib.hid (bthen HB0.out hb1)
       have HR1 := Lib.hid hr1
       have HRA1 := Lib.hid (HRA.out.below hb1 HRA.out.lt)
       obtain ⟨bs, hbs⟩ : ∃ bs, bs = code.take 2000 := ⟨_, rfl⟩
       rw [← hbs] at HR1
       clear hb1 hr1 hbs hg)
    | (go_at_call 50; refine (l2Any_any g bs 0 2 w1 HR1.out (by omega)).mono ?_
       rintro e w2 ⟨A, Ar, c, cr, B, q, ar, es, rfl, hok, hq, hB, hB2, h1, h2, h3, h4⟩
       have HOK := Lib.hid hok
       have HQ := Lib.hid (And.intro hB (And.intro hB2 (And.intro h1 (And.intro h2 (And.intro h3 h4)))))
       have HRA2 := Lib.hid (HRA1.out.only h4 (.inl HG.out))
       have hg2 : g < w2.heap.size := h3.lt
       clear hok hB hB2 h1 h2 h3 h4))
  obtain ⟨w3, hw3⟩ : ∃ w3, w3 = w2.alloc (.cells #[.slice A ar.length c, .slice Ar es.length cr] 26) := ⟨_, rfl⟩
  have b23 : Below w2.heap.size w2 w3 := by rw [hw3]; exact below1 _ _
  have XD : Blk w3 w2.heap.size 26 #[.slice A ar.length c, .slice Ar es.length cr] := by rw [hw3]; exact Blk.new _ _ _
  rw [← hw3]
  clear hw3
  have hal : ar.length ≤ 5 := HOK.out.2.1
  obtain ⟨p, hp⟩ : ∃ p : LProg, p = (ar, es.map (·.1)) := ⟨_, rfl⟩
  have HD := Lib.hid (show DrawnP w1.heap.size w2 (.agg #[.slice A ar.length c, .slice Ar es.length cr]) p from by
    obtain ⟨hB, hB2, h1, h2, _⟩ := HQ.out
    rw [hp]
    exact ⟨A, Ar, c, cr, B, es, rfl, rfl, HOK.out, hB, hB2, h1, h2⟩)
  have HPR := Lib.hid (show ∀ W, Below w2.heap.size w2 W → RdProg W W.heap.size (.agg #[.slice A ar.length c, .slice Ar es.length cr]) p from fun W hW => by
    obtain ⟨A', A2', c', c2', e, r1, r2⟩ := HD.out.rd
    rw [e]
    exact ⟨_, _, rfl, r1.on hW, r2.on hW⟩)
  have HSZ := Lib.hid (show szP p ≤ 1048576 by have := HD.out.sz; omega)
  have CL := Lib.hid (specLayersOf_any _ p w3 (HPR.out _ b23) HSZ.out)
  obtain ⟨L, hL⟩ : ∃ L, L = layR p := ⟨_, rfl⟩
  have hLl : L.length ≤ 24 := by rw [hL]; exact layR_few p
  rw [← hL] at CL
  have HB23 := Lib.hid b23
  have HXD := Lib.hid XD
  have x0 : w3.cell? ⟨w2.heap.size, 0, none⟩ = some (.slice A ar.length c) := XD.cell 0
  have x1 : w3.cell? ⟨w2.heap.size, 1, none⟩ = some (.slice Ar es.length cr) := XD.cell 1
  clear hL hp b23 XD
  go_upto_region 4 with (go_at_call 10; refine CL.out.mono ?_; rintro e w4 ⟨A4, c4, rfl, o4, b4⟩)
  have HB4 := Lib.hid b4
  have HX4 := Lib.hid (HXD.out.below b4 HXD.out.lt)
  have CC := Lib.hid (l3Copy_any (.slice A4 L.length c4) L w4 o4.rd (by omega))
  have hg4 : g < w4.heap.size := by have := HB23.out.size; have := b4.size; omega
  have HR4 := Lib.hid ((HQ.out.2.2.2.2.1.below HB23.out hg2).below b4 (by have := HB23.out.size; omega))
  clear o4 b4 x0 x1
  go_wp2_with (go_at_call 51; refine CC.out.mono ?_; rintro e w5 ⟨P, q5, rfl, o5, b5⟩
               have HF := Lib.hid (show LFit g bs w4 w5 q P q5 L from ⟨o5, HR4.out.below b5 hg4, Only.of_below b5⟩)
               clear o5 b5)
  have hne : g ≠ w2.heap.size := by omega
  have hdl : w2.heap.size < w4.heap.size := HX4.out.lt
  go_loopw [8] (fun o wr => ∃ (xs : List Int) (A' : Option Addr) (c' q' : Nat), o = .slice A' xs.length c' ∧ LFit g bs w4 wr q' A' c' xs ∧ xs.length ≤ 24 ∧ q' ≤ q + xs.length) (fun o _ => ar.length - lenV o)
  case atStart => exact ⟨L, P, q5, q, rfl, HF.out, hLl, by omega⟩
  case round =>
    obtain ⟨xs, A', c', q', rfl, hf, hxl, hq'⟩ := hrel
    have HF := Lib.hid hf
    have hX := hf.only.blk HX4.out (by omega)
    have x0 : wr.cell? ⟨w2.heap.size, 0, none⟩ = some (.slice A ar.length c) := hX.cell 0
    have x1 : wr.cell? ⟨w2.heap.size, 1, none⟩ = some (.slice Ar es.length cr) := hX.cell 1
    clear hX hf
    by_cases hlt : xs.length < ar.length
    · go_wp2_with (first
        | (go_at_call 52; refine (pick_any g bs q' 3 wr HF.out.rdr (by omega) (by omega)).mono ?_
           rintro e w6 ⟨⟨x, rfl, hx⟩, hpk⟩
           have O6 := Lib.hid hpk.2
           have R6 := Lib.hid hpk.1
           clear hpk hx)
        | (at_builtin; refine wpList_append_lies _ rfl (.tmp 26) (.tmp 29) 23 rfl w4.heap.size 3 i0 (.int .i64 0) 1 8 Tryd.underlying23 hi0 hz0 hz1 hz2 rfl (by decide) (.slice A' xs.length c') xs.length (xs.map (Value.int .i64)) rfl ?c1 ⟨w6.heap.size, 0, none⟩ 1 1 [.int .i64 x] rfl rfl (news1s _ _ _ _ rfl) ?c2 (by omega) (by unfold maxLen; omega) (by omega) ?c3 _ rfl ?_))
      case c1 => exact (HF.out.own.only O6.out (.inr (by omega))).1.alloc _
      case c2 => first | (intro u hu; simp at hu; subst hu; rfl) | rfl
      case c3 => have := HF.out.only.size; have := O6.out.size; simp; omega
      intro g3 cap w7 hown hgr _ _
      have HN := Lib.hid (HF.out.push hg4 (O6.out.trans (Only.of_below (below1 _ _))) (R6.out.below (below1 _ _) R6.out.lt) hgr hown)
      have HLX := Lib.hid (show (xs ++ [x]).length = xs.length + 1 by simp)
      clear hown hgr x0 x1
      go_wp2_with fail
      go_roundw
      case rel => exact ⟨xs ++ [x], _, _, q' + 1, by rw [HLX.out], HN.out, by rw [HLX.out]; omega, by rw [HLX.out]; omega⟩
      case measure => simp [lenV]; omega
    · have HEND := Lib.hid (show ∀ (W : World) (q2 : Nat) (A9 : Option Addr) (c9 : Nat) (ys : List Int), LFit g bs w4 W q2 A9 c9 ys → W.cell? ⟨w2.heap.size, 0, none⟩ = some (.slice A ar.length c) ∧ W.cell? ⟨w2.heap.size, 1, none⟩ = some (.slice Ar es.length cr) ∧ W.cell? ⟨w.heap.size, 0, none⟩ = some (.slice none 0 0) ∧ W.cell? ⟨w.heap.size, 1, none⟩ = some (.slice none 0 0) ∧ W.frozen? ⟨w.heap.size, 0, none⟩ = false ∧ W.frozen? ⟨w.heap.size, 1, none⟩ = false from fun W q2 A9 c9 ys hf => by
        have hX := hf.only.blk HX4.out (by omega)
        have hR := hf.only.blk ((HRA2.out.below HB23.out HRA2.out.lt).below HB4.out (HRA2.out.below HB23.out HRA2.out.lt).lt) (by have := HG.out; omega)
        exact ⟨hX.cell 0, hX.cell 1, hR.cell 0, hR.cell 1, hR.frozen 0, hR.frozen 1⟩)
      have HX := Lib.hid (show A' = A' ∧ xs.length ≤ 24 from ⟨rfl, hxl⟩)
      go_upto_region 7 with fail
      clear x0 x1 hlt
      go_cut [38] (fun s wx => ∃ (bb : Bool) (q2 : Nat), s = .bool bb ∧ (bb = true → 0 < xs.length) ∧ LFit g bs w4 wx q2 A' c' xs ∧ q2 ≤ q' + 1)
      case first =>
        by_cases h0 : 0 < xs.length
        · have hd : decide ((0 : Int) < (xs.length : Int)) = true := by simp; omega
          have hd2 : decide (0 < xs.length) = true := by simp; omega
          go_wp2_with (go_at_call 52; refine (pick_any g bs q' 2 wr HF.out.rdr (by omega) (by omega)).mono ?_
                       rintro e w6 ⟨⟨x, rfl, hx⟩, hpk⟩
                       have O6 := Lib.hid hpk.2
                       have R6 := Lib.hid hpk.1
                       clear hpk hx)
          go_meet
          exact ⟨_, q' + 1, rfl, fun _ => h0, ⟨(HF.out.own.only O6.out (.inr (by omega))).mono (Nat.le_refl _) O6.out.size, R6.out, HF.out.only.trans O6.out⟩, Nat.le_refl _⟩
        · have hd : decide ((0 : Int) < (xs.length : Int)) = false := decide_eq_false (by omega)
          have hd2 : decide (0 < xs.length) = false := decide_eq_false h0
          go_wp2_with fail
          go_meet
          exact ⟨false, q', rfl, fun h => (by cases h), HF.out, by omega⟩
      case rest =>
        obtain ⟨bb, q2, rfl, hbb, hf2, hq2⟩ := hcut
        have HF2 := Lib.hid hf2
        have HBB := Lib.hid hbb
        rename World => w6
        clear hf2 hbb
        go_upto_if 38 with fail
        go_cut [] (fun wx => ∃ (ys : List Int) (q3 : Nat), LFit g bs w4 wx q3 A' c' ys ∧ ys.length = xs.length ∧ q3 ≤ q2 + 2)
        case first =>
          cases bb
          · go_wp2_with fail
            go_meet
            exact ⟨xs, q2, HF2.out, rfl, by omega⟩
          · have h0 := HBB.out rfl
            obtain ⟨gx, rfl, hgx1, hgx2, hgx3, _, _⟩ := HF2.out.own.at_ h0
            go_wp2_with (first
              | (go_at_call 52; refine (pick_any g bs q2 (xs.length : Int) w6 HF2.out.rdr (by omega) (by omega)).mono ?_
                 rintro e w7 ⟨⟨x, rfl, hx⟩, hpk⟩
                 have hxr := hx.1 (by omega)
                 obtain ⟨i, rfl⟩ : ∃ i : Nat, x = (i : Int) := ⟨x.toNat, by omega⟩
                 have hi : i < xs.length := by omega
                 have hiI : (i : Int) < (xs.length : Int) := by omega
                 have O7 := Lib.hid hpk.2
                 have R7 := Lib.hid hpk.1
                 clear hpk hx)
              | (go_at_call 53; refine (num_any g bs (q2 + 1) w7.heap.size _ [0, 1, 2, 5, -1] 5 _ (R7.out.below (below1 _ _) R7.out.lt) (by omega) (Blk.new w7 3 #[.int .i64 0, .int .i64 1, .int .i64 2, .int .i64 5, .int .i64 (-1)]) rfl (by have := R7.out.lt; omega) rfl (by simp) (by simp)).mono ?_
                 rintro e w8 ⟨⟨z, rfl, hz⟩, hpn⟩
                 have O8 := Lib.hid (show Only g (g + 1) w6 w8 from O7.out.trans ((Only.of_below (below1 _ _)).trans hpn.2))
                 have R8 := Lib.hid hpn.1
                 have HO8 := Lib.hid ((HF2.out.own.only O8.out (.inr (by omega))).mono (Nat.le_refl _) O8.out.size)
                 obtain ⟨_, _, _, t4, t5⟩ := HO8.out.atG h0
                 have k0 := t4 i hi
                 have k1 := t5 i
                 clear t4 t5 hpn hz))
            go_meet
            have hst := HO8.out.store rfl hi z
            refine ⟨xs.set i z, q2 + 2, ⟨?_, R8.out.same fun k hk => Below.heap_setCell _ _ _ k (by show k ≠ gx; omega), (HF2.out.only.trans O8.out).setHigh (by show w4.heap.size ≤ gx; omega) _⟩, by rw [List.length_set], Nat.le_refl _⟩
            rw [List.length_set]
            exact hst.mono (Nat.le_refl _) (by simp)
        case rest =>
          obtain ⟨ys, q3, hf3, hyl, hq3⟩ := hcut
          have HF3 := Lib.hid hf3
          have HYL := Lib.hid hyl
          rename World => w7
          clear hf3 hyl
          go_upto_if 50 with (go_at_call 52; refine (pick_any g bs q3 20 w7 HF3.out.rdr (by omega) (by omega)).mono ?_
                              rintro e w8 ⟨⟨x, rfl, hx⟩, hpk⟩
                              have HF8 := Lib.hid (show LFit g bs w4 w8 (q3 + 1) A' c' ys from ⟨(HF3.out.own.only hpk.2 (.inr (by omega))).mono (Nat.le_refl _) hpk.2.size, hpk.1, HF3.out.only.trans hpk.2⟩)
                              clear hpk hx)
          obtain ⟨bx, hbx⟩ : ∃ b, (x == 0) = b := ⟨_, rfl⟩
          go_cut [8] (fun o wx => ∃ (zs : List Int) (A9 : Option Addr) (c9 q4 : Nat), o = .slice A9 zs.length c9 ∧ LFit g bs w4 wx q4 A9 c9 zs ∧ zs.length ≤ 25)
          case first =>
            cases bx
            · go_wp2_with fail
              go_meet
              exact ⟨ys, A', c', q3 + 1, by rw [HYL.out], HF8.out, by rw [HYL.out]; omega⟩
            · go_wp2_with (at_builtin; refine wpList_append_lies _ rfl (.tmp 51) (.tmp 52) 23 rfl w4.heap.size 3 i0 (.int .i64 0) 1 8 Tryd.underlying23 hi0 hz0 hz1 hz2 rfl (by decide) (.slice A' xs.length c') xs.length (ys.map (Value.int .i64)) rfl ?c1 ⟨w8.heap.size, 0, none⟩ 1 1 [.int .i64 0] rfl rfl (news1s _ _ _ _ rfl) ?c2 (by omega) (by unfold maxLen; omega) (by omega) ?c3 _ rfl ?_)
              case c1 => rw [← HYL.out]; exact HF8.out.own.1.alloc _
              case c2 => first | (intro u hu; simp at hu; subst hu; rfl) | rfl
              case c3 => have := HF8.out.only.size; simp; omega
              intro g3 cap w9 hown hgr _ _
              rw [← HYL.out] at hown hgr
              have HN := Lib.hid (HF8.out.push hg4 (Only.of_below (below1 _ _)) (HF8.out.rdr.below (below1 _ _) HF8.out.rdr.lt) hgr hown)
              have HLX := Lib.hid (show (ys ++ [(0 : Int)]).length = xs.length + 1 by rw [List.length_append, HYL.out]; rfl)
              clear hown hgr
              go_wp2_with fail
              go_meet
              exact ⟨ys ++ [0], _, _, q3 + 1, by rw [HLX.out], HN.out, by rw [HLX.out]; omega⟩
          case rest =>
            obtain ⟨zs, A9, c9, q4, rfl, hf4, hzl⟩ := hcut
            rename World => w9
            obtain ⟨x0, x1, j0, j1, l0, l1⟩ := HEND.out _ _ _ _ _ hf4
            have HF4 := Lib.hid hf4
            clear hf4 hbx
            go_wp2_with fail
            obtain ⟨W, hW⟩ : ∃ W, W = (w9.setCell ⟨w.heap.size, 0, none⟩ (.slice A ar.length c)).setCell ⟨w.heap.size, 1, none⟩ (.slice Ar es.length cr) := ⟨_, rfl⟩
            rw [← hW]
            have hgg := HG.out
            have hRA4 := HF4.out.only.blk ((HRA2.out.below HB23.out HRA2.out.lt).below HB4.out (HRA2.out.below HB23.out HRA2.out.lt).lt) (.inl (by omega))
            have hbk := (hRA4.set_ 0 (.slice A ar.length c)).set_ 1 (.slice Ar es.length cr)
            rw [← hW] at hbk
            have d0 : W.cell? ⟨w.heap.size, 0, none⟩ = some (.slice A ar.length c) := by rw [hbk.cell 0]; simp
            have d1 : W.cell? ⟨w.heap.size, 1, none⟩ = some (.slice Ar es.length cr) := by rw [hbk.cell 1]; simp
            have hsz : w9.heap.size = W.heap.size := by rw [hW]; simp
            have hk3 : ∀ k, k ≠ w.heap.size → W.heap[k]? = w9.heap[k]? := fun k hne => by
              rw [hW]
              exact (Below.heap_setCell _ _ _ k hne).trans (Below.heap_setCell _ _ _ k hne)
            have s2 := HB23.out.size
            have s4 := HB4.out.size
            have s9 := HF4.out.only.size
            have hk : ∀ k, w1.heap.size ≤ k → k < w2.heap.size → W.heap[k]? = w2.heap[k]? := fun k k1 k2 =>
              (((hk3 k (by omega)).trans (HF4.out.only.block k (by omega) (by omega))).trans (HB4.out.block k (by omega))).trans (HB23.out.block k k2)
            have hB4 : Below w.heap.size w w4 := bthen (bthen (Only.then_ HB1.out HQ.out.2.2.2.2.2 (by omega)) HB23.out) HB4.out
            have hBW : Below w.heap.size w W := by rw [hW]; exact ((Only.then_ hB4 HF4.out.only (by omega)).setCell (Nat.le_refl _) _).setCell (Nat.le_refl _) _
            refine bodyPost_ret (v := .tuple #[.agg #[.slice A ar.length c, .slice Ar es.length cr], .slice A9 zs.length c9]) (by simp [results, Tryd.results17, go_sem, d0, d1]) rfl ?_
            refine ⟨_, p, A9, c9, zs, rfl, (HD.out.keep (by omega) hk).mono (by omega), ?_, by omega, hBW⟩
            exact ((HF4.out.own.keep fun k k1 k2 => hk3 k (by omega)).rd).more (by omega)

end Go.Proofs.YtokmmloakahkhaaDoor
/-
  The walk of the specification's LayersFit.
-/
namespace Go.Proofs.YtokmmloakahkhaaDoor
open Go.RowKit

def rowFits (ls : List Int) (ps : List LAsk) (n i : Nat) : Bool := decide (0 ≤ ls.getD i 0) && (List.range n).all fun k => !fitBad ls ps i k
theorem layersFit_rows (p : LProg) (ls : List Int) : layersFit p ls = ((progOk p && decide (ls.length = p.1.length)) && (List.range p.1.length).all (rowFits ls (asksOf p.2) p.1.length)) := by
  unfold layersFit
  cases h1 : progOk p
  · rfl
  by_cases h2 : ls.length = p.1.length
  · simp only [h2, decide_true, Bool.true_and]
    rw [links_bad h1, Bool.eq_iff_iff]
    simp only [Bool.and_eq_true, List.all_eq_true, Bool.not_eq_true', List.any_eq_false, List.mem_range, rowFits, decide_eq_true_eq]
    constructor
    · rintro ⟨ha, hb⟩ i hi
      refine ⟨?_, fun k hk => ?_⟩
      · rw [getD_at (by omega)]
        exact ha _ (List.getElem_mem (by omega))
      · cases e : fitBad ls (asksOf p.2) i k
        · rfl
        · exact absurd (List.any_eq_true.2 ⟨k, List.mem_range.2 hk, e⟩) (hb i hi)
    · intro h
      refine ⟨fun x hx => ?_, fun i hi => ?_⟩
      · obtain ⟨i, hi, rfl⟩ := List.getElem_of_mem hx
        have := (h i (by omega)).1
        rwa [getD_at hi] at this
      · intro hany
        obtain ⟨k, hk, hb⟩ := List.any_eq_true.1 hany
        have := (h i hi).2 k (List.mem_range.1 hk)
        rw [this] at hb
        cases hb
  · simp [h2]

set_option maxHeartbeats 4000000 in
set_option maxRecDepth 100000 in
theorem specLayersFit_any (v v2 : Value) (p : LProg) (ls : List Int) (w : World) (h : RdProg w w.heap.size v p) (h2 : RdInts w w.heap.size v2 ls) (hs : szP p ≤ 1048576) (hl : ls.length ≤ 1048576) :
    Calls Tryd.prog 18 #[v, v2] w fun e w' => e = .returned (.bool (layersFit p ls)) ∧ Below w.heap.size w w' := by
  have HP := Lib.hid h
  have H2 := Lib.hid h2
  obtain ⟨a, b, rfl, hA, hR⟩ := h
  obtain ⟨A, c, rfl, hcA, _⟩ := hA
  obtain ⟨A2, c2, rfl, hcR, _⟩ := hR
  obtain ⟨A3, c3, rfl, hc3, _⟩ := h2
  obtain ⟨po, hpo⟩ : ∃ po, po = progOk p := ⟨_, rfl⟩
  obtain ⟨R, hRR⟩ : ∃ R, R = layersFit p ls := ⟨_, rfl⟩
  have HRR := Lib.hid (show R = ((po && decide (ls.length = p.1.length)) && (List.range p.1.length).all (rowFits ls (asksOf p.2) p.1.length)) by rw [hRR, hpo, layersFit_rows])
  rw [← hRR]
  clear hRR
  go_enter Tryd.func18, Tryd.ntmps18
  go_upto_region 1 with fail
  obtain ⟨w1, hw1⟩ : ∃ w1, w1 = w.alloc (Obj.cells #[Value.slice A p.1.length c, Value.slice A2 p.2.length c2] 26) := ⟨_, rfl⟩
  have X1 : Blk w1 w.heap.size 26 #[.slice A p.1.length c, .slice A2 p.2.length c2] := by rw [hw1]; exact Blk.new _ _ _
  have B1 : Below w.heap.size w w1 := by rw [hw1]; exact below1 _ _
  rw [← hw1]
  clear hw1
  have x0 : w1.cell? ⟨w.heap.size, 0, none⟩ = some (.slice A p.1.length c) := X1.cell 0
  have x1 : w1.cell? ⟨w.heap.size, 1, none⟩ = some (.slice A2 p.2.length c2) := X1.cell 1
  have CP := Lib.hid ((specProgramOk_any _ p w1 (HP.out.on B1) hs).mono fun e w' (hh : e = .returned (.bool (progOk p)) ∧ Below w1.heap.size w1 w') => (⟨by rw [hh.1, hpo], hh.2⟩ : e = .returned (.bool po) ∧ Below w1.heap.size w1 w'))
  have HPO := Lib.hid hpo
  have HX1 := Lib.hid X1
  clear hpo X1
  cases po
  · go_wp2_with (go_at_call 13; refine CP.out.mono ?_; rintro e w2 ⟨rfl, b2⟩; have B2 := Lib.hid (bthen B1 b2); clear b2)
    go_ret
    exact ⟨ret_bool (by rw [HRR.out]; rfl), B2.out⟩
  by_cases hll : ls.length = p.1.length
  · have hne : ((ls.length : Int) != (p.1.length : Int)) = false := by simp [hll]
    have HLL := Lib.hid hll
    obtain ⟨hn24, hfit⟩ := asksOf_fits HPO.out.symm
    have CL := Lib.hid (fun W (hW : Below w.heap.size w W) => l5Links_any _ p W (HP.out.on hW) hs hn24 hfit)
    have HR2 := Lib.hid (show R = (List.range p.1.length).all (rowFits ls (asksOf p.2) p.1.length) by rw [HRR.out, hll]; simp)
    obtain ⟨ps, hps⟩ : ∃ ps, ps = asksOf p.2 := ⟨_, rfl⟩
    rw [← hps] at CL HR2
    have hcV := fun i k => cellV_le ps i k
    clear hll hfit hps
    go_upto_region 4 with (first
      | (go_at_call 13; refine CP.out.mono ?_; rintro e w2 ⟨rfl, b2⟩; have B2 := Lib.hid (bthen B1 b2)
         have HX2 := Lib.hid (HX1.out.below b2 HX1.out.lt)
         have x20 : w2.cell? ⟨w.heap.size, 0, none⟩ = some (.slice A p.1.length c) := HX2.out.cell 0
         have x21 : w2.cell? ⟨w.heap.size, 1, none⟩ = some (.slice A2 p.2.length c2) := HX2.out.cell 1
         clear b2)
      | (go_at_call 54; refine (CL.out _ B2.out).mono ?_; rintro e w3 ⟨g, rfl, hg, h4, h5, b3⟩; have H3 := Lib.hid (And.intro hg (And.intro h4 (And.intro h5 (bthen B2.out b3)))); clear hg h4 h5 b3))
    obtain ⟨hg, hg1, hg2, B3⟩ := H3.out
    have HG := Lib.hid hg
    have HB3 := Lib.hid B3
    clear hg B3 H3 x0 x1 x20 x21
    go_wp2_with fail
    go_loopw [6] (fun i wr => ∃ k : Nat, k ≤ p.1.length ∧ i = .int .i64 k ∧ (∀ j, j < k → rowFits ls ps p.1.length j = true) ∧ Below w3.heap.size w3 wr) (fun i _ => p.1.length - (intOf i).toNat)
    case atStart => exact ⟨0, Nat.zero_le _, rfl, fun j h => absurd h (Nat.not_lt_zero _), Below.refl _ _⟩
    case round =>
      obtain ⟨k, hk, rfl, hrows, hbe⟩ := hrel
      have HBE := Lib.hid hbe
      by_cases hlt : k < p.1.length
      · have hkl : k < ls.length := by rw [HLL.out]; exact hlt
        obtain ⟨A7, c7, e7, _, hx⟩ := H2.out
        injection e7 with e7 e9 e8
        clear e9
        subst e7 e8
        obtain ⟨b7, o7, rfl, hb7, hx⟩ := hx (by omega)
        have HCELL := Lib.hid (show ∀ W, Below w3.heap.size w3 W → ∀ j (hj : j < ls.length), W.cell? ⟨b7, o7 + j, none⟩ = some (.int .i64 ls[j]) from fun W hW j hj => ((bthen HB3.out hW).cell (p := ⟨b7, o7 + j, none⟩) hb7).trans (hx j hj))
        have hck : wr.cell? ⟨b7, o7 + k, none⟩ = some (.int .i64 ls[k]) := HCELL.out wr hbe k hkl
        have HROW := Lib.hid hrows
        clear hx hrows hbe
        by_cases hneg : ls[k] < 0
        · have HE := Lib.hid (show R = false by
            rw [HR2.out, List.all_eq_false]
            refine ⟨k, List.mem_range.2 hlt, ?_⟩
            unfold rowFits
            rw [getD_at hkl, decide_eq_false (by omega), Bool.false_and]
            decide)
          go_wp2_with fail
          go_ret
          exact ⟨ret_bool HE.out.symm, bthen HB3.out HBE.out⟩
        · have hng : decide (ls[k] < 0) = false := by simpa using hneg
          go_upto_region 10 with fail
          rename World => wk
          go_loopw [7] (fun i wr => ∃ m : Nat, m ≤ p.1.length ∧ i = .int .i64 m ∧ (∀ j, j < m → fitBad ls ps k j = false) ∧ Below w3.heap.size w3 wr) (fun i _ => p.1.length - (intOf i).toNat)
          case atStart => exact ⟨0, Nat.zero_le _, rfl, fun j h => absurd h (Nat.not_lt_zero _), HBE.out⟩
          case round =>
            obtain ⟨m, hm, rfl, hcs, hbe⟩ := hrel
            have HBE2 := Lib.hid hbe
            by_cases hltm : m < p.1.length
            · have hml : m < ls.length := by rw [HLL.out]; exact hltm
              have hbk : Below w3.heap.size w3 wr := hbe
              have hcm : wr.cell? ⟨b7, o7 + m, none⟩ = some (.int .i64 ls[m]) := HCELL.out wr hbk m hml
              have hck2 : wr.cell? ⟨b7, o7 + k, none⟩ = some (.int .i64 ls[k]) := HCELL.out wr hbk k hkl
              obtain ⟨t, ht⟩ : ∃ t, t = cellV ps k m := ⟨_, rfl⟩
              have hgr := HG.out.below hbe hg2
              have z0 : wr.cell? ⟨g, k, none⟩ = some (.slice (some ⟨g + 1 + k, 0, none⟩) p.1.length p.1.length) := hgr.head hlt
              have z1 : wr.cell? ⟨g + 1 + k, m, none⟩ = some (.int .i64 ((t : Nat) : Int)) := by rw [ht]; exact hgr.cell hlt hltm
              have ht3 : t ≤ 3 := by rw [ht]; exact hcV k m
              have HFB := Lib.hid (show fitBad ls ps k m = ((decide (0 < t) && decide (ls[k] < ls[m])) || (decide (1 < t) && decide (ls[m] = ls[k]))) by
                unfold fitBad
                rw [← ht, getD_at hkl, getD_at hml])
              obtain ⟨x, hxe⟩ : ∃ x, x = ls[k] := ⟨_, rfl⟩
              obtain ⟨y, hye⟩ : ∃ y, y = ls[m] := ⟨_, rfl⟩
              rw [← hxe] at hck2
              rw [← hye] at hcm
              rw [← hxe, ← hye] at HFB
              have d0 : wr.drew.cell? ⟨g, k, none⟩ = some (.slice (some ⟨g + 1 + k, 0, none⟩) p.1.length p.1.length) := z0
              have d1 : wr.drew.cell? ⟨g + 1 + k, m, none⟩ = some (.int .i64 ((t : Nat) : Int)) := z1
              have d2 : wr.drew.cell? ⟨b7, o7 + m, none⟩ = some (.int .i64 y) := hcm
              have d3 : wr.drew.cell? ⟨b7, o7 + k, none⟩ = some (.int .i64 x) := hck2
              have HCS := Lib.hid hcs
              have hx0 := ht
              clear ht hgr hxe hye hbk hck
              by_cases t0 : 0 < t
              · have c1 : decide ((0 : Int) < (t : Int)) = true := by simp; omega
                by_cases xy : x < y
                · have c2 : decide (x < y) = true := by simp [xy]
                  clear hx0 hcs hbe
                  have HE := Lib.hid (show R = false by
                    rw [HR2.out, List.all_eq_false]
                    refine ⟨k, List.mem_range.2 hlt, ?_⟩
                    unfold rowFits
                    rw [Bool.not_eq_true, Bool.and_eq_false_iff]
                    right
                    rw [List.all_eq_false]
                    exact ⟨m, List.mem_range.2 hltm, by rw [HFB.out]; simp [t0, xy]⟩)
                  go_upto_region 12 with fail
                  go_big_region
                  go_wp2_with fail
                  go_ret
                  exact ⟨ret_bool HE.out.symm, bthen HB3.out HBE2.out.drew⟩
                · have c2 : decide (x < y) = false := by simp [xy]
                  by_cases t1 : 1 < t
                  · have c3 : decide ((1 : Int) < (t : Int)) = true := by simp; omega
                    by_cases ye : y = x
                    · have c4 : (y == x) = true := by simp [ye]
                      clear hx0 hcs hbe
                      have HE := Lib.hid (show R = false by
                        rw [HR2.out, List.all_eq_false]
                        refine ⟨k, List.mem_range.2 hlt, ?_⟩
                        unfold rowFits
                        rw [Bool.not_eq_true, Bool.and_eq_false_iff]
                        right
                        rw [List.all_eq_false]
                        exact ⟨m, List.mem_range.2 hltm, by rw [HFB.out]; simp [t0, t1, ye]⟩)
                      go_upto_region 12 with fail
                      go_big_region
                      go_wp2_with fail
                      go_ret
                      exact ⟨ret_bool HE.out.symm, bthen HB3.out HBE2.out.drew⟩
                    · have c4 : (y == x) = false := by simp [ye]
                      clear hx0 hcs hbe
                      have HE := Lib.hid (show fitBad ls ps k m = false by rw [HFB.out]; simp [xy, t1, ye])
                      go_upto_region 12 with fail
                      go_big_region
                      go_wp2_with fail
                      go_roundw
                      case rel => exact ⟨m + 1, by omega, by go_num, fun j hj => by
                        by_cases e : j = m
                        · subst e; exact HE.out
                        · exact HCS.out j (by omega), HBE2.out.drew⟩
                      case measure => simp [intOf]; omega
                  · have c3 : decide ((1 : Int) < (t : Int)) = false := by simp; omega
                    clear hx0 hcs hbe
                    have HE := Lib.hid (show fitBad ls ps k m = false by rw [HFB.out]; simp [xy, t1])
                    go_upto_region 12 with fail
                    go_big_region
                    go_wp2_with fail
                    go_roundw
                    case rel => exact ⟨m + 1, by omega, by go_num, fun j hj => by
                      by_cases e : j = m
                      · subst e; exact HE.out
                      · exact HCS.out j (by omega), HBE2.out.drew⟩
                    case measure => simp [intOf]; omega
              · have c1 : decide ((0 : Int) < (t : Int)) = false := by simp; omega
                have c3 : decide ((1 : Int) < (t : Int)) = false := by simp; omega
                have t1 : ¬ 1 < t := by omega
                clear hx0 hcs hbe
                have HE := Lib.hid (show fitBad ls ps k m = false by rw [HFB.out]; simp [t0, t1])
                go_upto_region 12 with fail
                go_big_region
                go_wp2_with fail
                go_roundw
                case rel => exact ⟨m + 1, by omega, by go_num, fun j hj => by
                  by_cases e : j = m
                  · subst e; exact HE.out
                  · exact HCS.out j (by omega), HBE2.out.drew⟩
                case measure => simp [intOf]; omega
            · have HE := Lib.hid (show rowFits ls ps p.1.length k = true by
                unfold rowFits
                rw [getD_at hkl, Bool.and_eq_true, decide_eq_true_eq, List.all_eq_true]
                refine ⟨by omega, fun j hj => ?_⟩
                rw [hcs j (by have := List.mem_range.1 hj; omega)]
                rfl)
              clear hcs hbe
              go_wp2_with fail
              go_roundw
              case rel => exact ⟨k + 1, by omega, by go_num, fun j hj => by
                by_cases e : j = k
                · subst e; exact HE.out
                · exact HROW.out j (by omega), HBE2.out⟩
              case measure => simp [intOf]; omega
      · have HE := Lib.hid (show R = true by
          rw [HR2.out, List.all_eq_true]
          exact fun j hj => hrows j (by have := List.mem_range.1 hj; omega))
        clear hrows hbe
        go_wp2_with fail
        go_ret
        exact ⟨ret_bool HE.out.symm, bthen HB3.out HBE.out⟩
  · have hne : ((ls.length : Int) != (p.1.length : Int)) = true := by simp; omega
    have HE := Lib.hid (show R = false by rw [HRR.out, decide_eq_false hll]; rfl)
    clear hll
    go_wp2_with (go_at_call 13; refine CP.out.mono ?_; rintro e w2 ⟨rfl, b2⟩; have B2 := Lib.hid (bthen B1 b2)
                 have HX2 := Lib.hid (HX1.out.below b2 HX1.out.lt)
                 have x20 : w2.cell? ⟨w.heap.size, 0, none⟩ = some (.slice A p.1.length c) := HX2.out.cell 0
                 clear b2)
    go_ret
    exact ⟨ret_bool HE.out.symm, B2.out⟩

end Go.Proofs.YtokmmloakahkhaaDoor
/-
  The walk of the law FnLayersFit.
-/
namespace Go.Proofs.YtokmmloakahkhaaDoor
open Go.RowKit

set_option maxHeartbeats 8000000 in
set_option maxRecDepth 100000 in
theorem lawPlainLayersFit_any (v : Value) (code : List Nat) (w : World) (hr : RdBytes w w.heap.size v code) (_ : code.length ≤ maxLen) (hby : ∀ b ∈ code, b < 256) (hT : Tab w) :
    Calls Tryd.prog 4 #[v] w fun e w' => e = .returned (.bool true) ∧ Below w.heap.size w w' := by
  have HV := Lib.hid hr
  have HT := Lib.hid hT
  obtain ⟨Av, cv, rfl, hcv, _⟩ := hr
  clear hT
  go_enter Tryd.func4, Tryd.ntmps4
  by_cases hbig : 1048576 < code.length
  · have hd : decide ((1048576 : Int) < code.length) = true := by simp; omega
    go_wp2_with (fail)
    go_ret
    exact ⟨rfl, Below.refl _ _⟩
  have hd : decide ((1048576 : Int) < code.length) = false := by simp; omega
  have hbn : code.length ≤ 1073741824 := by omega
  go_upto_region 4 with (go_at_call 17; refine (drawLayersFit_any _ code w HV.out hby hbn).mono ?_
                         rintro e w1 ⟨u, p, A9, c9, ls, rfl, hdp, rl, hls, B1⟩
                         obtain ⟨A, A2, c, c2, rfl, ra, rr⟩ := hdp.rd
                         have hsz := hdp.sz
                         clear hdp)
  have HSZ := Lib.hid (show szP p ≤ 1048576 by omega)
  obtain ⟨w2, hw2⟩ : ∃ w2, w2 = w1.alloc (Obj.cells #[Value.slice A p.1.length c, Value.slice A2 p.2.length c2] 26) := ⟨_, rfl⟩
  have b2 : Below w1.heap.size w1 w2 := by rw [hw2]; exact below1 _ _
  have BX : Blk w2 w1.heap.size 26 #[.slice A p.1.length c, .slice A2 p.2.length c2] := by rw [hw2]; exact Blk.new _ _ _
  rw [← hw2]
  clear hw2
  obtain ⟨D, hD⟩ : ∃ D, D = w1.heap.size := ⟨_, rfl⟩
  rw [← hD] at BX ⊢
  clear hD
  have B2 := Lib.hid (bthen B1 b2)
  have HPR := Lib.hid (show ∀ W, Below w2.heap.size w2 W → RdProg W W.heap.size (.agg #[.slice A p.1.length c, .slice A2 p.2.length c2]) p from fun W hW => ⟨_, _, rfl, (ra.on b2).on hW, (rr.on b2).on hW⟩)
  have HLS := Lib.hid (show ∀ W, Below w2.heap.size w2 W → RdInts W W.heap.size (.slice A9 ls.length c9) ls from fun W hW => (rl.on b2).on hW)
  have HBX := Lib.hid (show ∀ W, Below w2.heap.size w2 W → W.cell? ⟨D, 0, none⟩ = some (.slice A p.1.length c) ∧ W.cell? ⟨D, 1, none⟩ = some (.slice A2 p.2.length c2) from fun W hW => ⟨(BX.below hW BX.lt).cell 0, (BX.below hW BX.lt).cell 1⟩)
  have HTT := Lib.hid (show ∀ W, Below w2.heap.size w2 W → Tab W from fun W hW => HT.out.below (bthen B2.out hW))
  obtain ⟨x0, x1⟩ := HBX.out _ (Below.refl _ _)
  have hDl := BX.lt
  obtain ⟨is, his⟩ : ∃ is, is = layersFit p ls := ⟨_, rfl⟩
  have HIS := Lib.hid his
  have CI := Lib.hid (implLayersFit_any (.agg #[.slice A p.1.length c, .slice A2 p.2.length c2]) (.slice A9 ls.length c9) p ls w2 (HPR.out _ (Below.refl _ _)) (HLS.out _ (Below.refl _ _)) HSZ.out (by omega) (HTT.out _ (Below.refl _ _)))
  rw [← his] at CI
  clear his BX b2 B1 ra rr rl hsz
  go_upto_region 5 with (go_at_call 16; refine CI.out.mono ?_; rintro e w3 ⟨rfl, b3⟩; have B3 := Lib.hid b3; clear b3)
  clear x0 x1
  obtain ⟨x0, x1⟩ := HBX.out _ B3.out
  have M0 := later_cell x0
  have M1 := later_cell x1
  obtain ⟨po, hpo⟩ : ∃ po, po = progOk p := ⟨_, rfl⟩
  have D1 := Lib.hid (fun x : Later w3 => later_of (show Calls Tryd.prog 18 #[.agg #[.slice A p.1.length c, .slice A2 p.2.length c2], .slice A9 ls.length c9] x.val fun e w' => e = .returned (.bool is) ∧ Below x.val.heap.size x.val w' from by
    have := specLayersFit_any (.agg #[.slice A p.1.length c, .slice A2 p.2.length c2]) (.slice A9 ls.length c9) p ls x.val (HPR.out _ (bthen B3.out x.2)) (HLS.out _ (bthen B3.out x.2)) HSZ.out (by omega)
    rw [← HIS.out] at this
    exact this))
  have D2 := Lib.hid (fun x : Later w3 => later_of (implProgramOk_any (.agg #[.slice A p.1.length c, .slice A2 p.2.length c2]) p x.val (HPR.out _ (bthen B3.out x.2)) HSZ.out))
  have D3 := Lib.hid (fun x : Later w3 => later_of (specProgramOk_any (.agg #[.slice A p.1.length c, .slice A2 p.2.length c2]) p x.val (HPR.out _ (bthen B3.out x.2)) HSZ.out))
  rw [← hpo] at D2 D3
  clear hpo x0 x1
  have hn1 : (is != is) = false := by simp
  have hn2 : (po != po) = false := by simp
  go_cut [34] (fun s wx => s = .bool false ∧ Below w3.heap.size w3 wx)
  case first =>
    refine wp_region_later (by kernel_rfl) (by kernel_rfl) ?_
    repeat (go_big_quiet_step (first | (go_at_call 18; exact D1.out _) | (go_at_call 12; exact D2.out _) | (go_at_call 13; exact D3.out _)))
    refine wpQuiet_nil ?_
    rintro _ ⟨xq, rfl⟩
    go_wp2_with (fail)
    go_meet
    exact ⟨rfl, xq.2⟩
  case rest =>
    obtain ⟨rfl, b4⟩ := hcut
    rename World => w4
    have B4 := Lib.hid (bthen B3.out b4)
    clear M0 M1 b4 hn1 hn2
    obtain ⟨x0, x1⟩ := HBX.out _ B4.out
    obtain ⟨L, hL⟩ : ∃ L, L = layR p := ⟨_, rfl⟩
    obtain ⟨ok, hok⟩ : ∃ ok, ok = layOk p := ⟨_, rfl⟩
    have CL := Lib.hid (implLayersOf_any _ p w4 (HPR.out _ B4.out) HSZ.out (HTT.out _ B4.out))
    rw [← hL, ← hok] at CL
    have HL := Lib.hid hL
    have HOK := Lib.hid hok
    clear hL hok
    go_upto_region 8 with (go_at_call 9; refine CL.out.mono ?_; rintro e w5 ⟨A5, c5, rfl, o5, b5⟩)
    have B5 := Lib.hid (bthen B4.out b5)
    have HL5 := Lib.hid o5.rd
    clear x0 x1 o5 b5
    cases is
    · go_wp2_with fail
      go_ret
      exact ⟨rfl, bthen B2.out B5.out⟩
    · have HFT := Lib.hid HIS.out.symm
      obtain ⟨k1, k2, k3⟩ := fit_least HFT.out
      rw [← HOK.out] at k1
      rw [← HL.out] at k2 k3
      subst k1
      have HK2 := Lib.hid k2
      have HK3 := Lib.hid k3
      clear k2 k3
      go_wp2_with fail
      go_loopw [44] (fun i wr => ∃ k : Nat, k ≤ ls.length ∧ i = .int .i64 k ∧ Below w5.heap.size w5 wr) (fun i _ => ls.length - (intOf i).toNat)
      case atStart => exact ⟨0, Nat.zero_le _, rfl, Below.refl _ _⟩
      case round =>
        obtain ⟨k, hk, rfl, hbe⟩ := hrel
        have BE := Lib.hid hbe
        by_cases hlt : k < ls.length
        · obtain ⟨bb, oo, hA9, hbb, k0⟩ := (HLS.out _ (bthen B5.out hbe)).at_ hlt
          subst hA9
          have hlL : k < L.length := by rw [HK2.out]; exact hlt
          obtain ⟨bc, oc, hA5, hbc, j0⟩ := (HL5.out.on hbe).at_ hlL
          subst hA5
          have hge := HK3.out k hlt
          rw [getD_toNat _ _ hlL, getD_toNat _ _ hlt] at hge
          obtain ⟨x, hx⟩ : ∃ x, x = ls[k] := ⟨_, rfl⟩
          obtain ⟨y, hy⟩ : ∃ y, y = L[k] := ⟨_, rfl⟩
          rw [← hx] at k0 hge
          rw [← hy] at j0 hge
          have hnl : decide (x < y) = false := decide_eq_false (by omega)
          clear hx hy hbe hge
          go_wp2_with fail
          go_roundw
          case rel => exact ⟨k + 1, by omega, by go_num, BE.out⟩
          case measure => simp [intOf]; omega
        · have B6 := Lib.hid (bthen B5.out hbe)
          clear hbe
          obtain ⟨wa, hwa⟩ : ∃ wa, wa = wr := ⟨_, rfl⟩
          rw [← hwa] at B6 ⊢
          clear hwa BE
          obtain ⟨x0, x1⟩ := HBX.out _ B6.out
          obtain ⟨K, hK⟩ : ∃ K, K = linksOf p := ⟨_, rfl⟩
          have HKK := Lib.hid hK
          have hkl : K.length ≤ 1152 := by rw [hK]; exact links_few p
          have CK := Lib.hid (implLinksOf_any _ p wa (HPR.out _ B6.out) HSZ.out (HTT.out _ B6.out))
          rw [← hK] at CK
          clear hK
          go_wp2_with (go_at_call 15; refine CK.out.mono ?_; rintro e w8 ⟨A8, c8, rfl, o8, b8⟩
                       have B8 := Lib.hid (bthen B6.out b8)
                       have HK8 := Lib.hid o8.rd
                       clear o8 b8)
          clear x0 x1
          go_loopw [63] (fun i wr => ∃ k : Nat, k ≤ K.length ∧ i = .int .i64 k ∧ Below w8.heap.size w8 wr) (fun i _ => K.length - (intOf i).toNat)
          case atStart => exact ⟨0, Nat.zero_le _, rfl, Below.refl _ _⟩
          case round =>
            obtain ⟨k, hk, rfl, hbe⟩ := hrel
            have HBE := Lib.hid hbe
            by_cases hlt : k < K.length
            · obtain ⟨bb, oo, hA8, hbb, k0, k1, k2⟩ := (HK8.out.on hbe).at_ hlt
              subst hA8
              have hfl := fit_link HFT.out (show K[k] ∈ linksOf p by rw [← HKK.out]; exact List.getElem_mem hlt)
              obtain ⟨i1, e0⟩ : ∃ i1 : Nat, K[k].1 = (i1 : Int) := ⟨K[k].1.toNat, by omega⟩
              obtain ⟨m1, e1⟩ : ∃ m1 : Nat, K[k].2.1 = (m1 : Int) := ⟨K[k].2.1.toNat, by omega⟩
              obtain ⟨a2, ha2⟩ : ∃ a2, a2 = K[k].2.2 := ⟨_, rfl⟩
              rw [e0] at k0
              rw [e1] at k1
              rw [← ha2] at k2
              rw [e0, e1, ← ha2] at hfl
              simp only [Int.toNat_natCast] at hfl
              obtain ⟨_, f1, _, f2, f3, f4⟩ := hfl
              rw [getD_toNat _ _ f1, getD_toNat _ _ f2] at f3 f4
              obtain ⟨b5, o5, hA9, hb5, _⟩ := (HLS.out _ (bthen B8.out hbe)).at_ f1
              subst hA9
              obtain ⟨b5', o5', hA9, hb5', q1⟩ := (HLS.out _ (bthen B8.out hbe)).at_ f1
              injection hA9 with hA9
              injection hA9 with h1 h2
              subst h1 h2
              obtain ⟨b6', o6', hA9, hb6', q2⟩ := (HLS.out _ (bthen B8.out hbe)).at_ f2
              injection hA9 with hA9
              injection hA9 with h1 h2
              subst h1 h2
              obtain ⟨x, hx⟩ : ∃ x, x = ls[i1] := ⟨_, rfl⟩
              obtain ⟨y, hy⟩ : ∃ y, y = ls[m1] := ⟨_, rfl⟩
              rw [← hx] at q1 f3 f4
              rw [← hy] at q2 f3 f4
              have hin : (i1 : Int) < (ls.length : Int) := by omega
              have hmn : (m1 : Int) < (ls.length : Int) := by omega
              clear hx hy ha2 e0 e1 hbe
              go_upto_region 19 with fail
              obtain ⟨wl, hwl⟩ : ∃ wl, wl = wr.alloc (Obj.cells #[Value.int IntKind.i64 (i1 : Int), Value.int IntKind.i64 (m1 : Int), Value.bool a2] 37) := ⟨_, rfl⟩
              have bl : Below wr.heap.size wr wl := by rw [hwl]; exact below1 _ _
              have Y : Blk wl wr.heap.size 37 #[.int .i64 (i1 : Int), .int .i64 (m1 : Int), .bool a2] := by rw [hwl]; exact Blk.new _ _ _
              rw [← hwl]
              clear hwl
              have M0 := later_cell (Y.cell 0 : wl.cell? ⟨wr.heap.size, 0, none⟩ = some (.int .i64 (i1 : Int)))
              have M1 := later_cell (Y.cell 1 : wl.cell? ⟨wr.heap.size, 1, none⟩ = some (.int .i64 (m1 : Int)))
              have M2 := later_cell (Y.cell 2 : wl.cell? ⟨wr.heap.size, 2, none⟩ = some (.bool a2))
              have HQ1 := Lib.hid (show wl.cell? ⟨b5, o5 + i1, none⟩ = some (.int .i64 x) from (bl.cell (p := ⟨b5, o5 + i1, none⟩) hb5).trans q1)
              have M4 := later_cell (show wl.cell? ⟨b5, o5 + m1, none⟩ = some (.int .i64 y) from (bl.cell (p := ⟨b5, o5 + m1, none⟩) hb5).trans q2)
              have HBL := Lib.hid (bthen HBE.out bl)
              have hgt : decide (x < y) = false := decide_eq_false (by omega)
              have HEQ := Lib.hid (show a2 = true → (y == x) = false from fun h => by rw [beq_eq_false_iff_ne]; exact f4 h)
              clear k0 k1 k2 q1 q2 Y bl f3 f4
              go_cut [94] (fun s wx => s = .bool false ∧ Below wl.heap.size wl wx)
              case first =>
                by_cases hsame : m1 = i1
                · subst hsame
                  have hxy : x = y := by
                    have h1 := HQ1.out
                    have h2 : wl.cell? ⟨b5, o5 + m1, none⟩ = some (.int .i64 y) := M4 ⟨wl, Below.refl _ _⟩
                    rw [h1] at h2
                    injection h2 with h2
                    injection h2
                  subst hxy
                  cases a2
                  · refine wp_region_later (by kernel_rfl) (by kernel_rfl) ?_
                    repeat (go_big_quiet_step (fail))
                    refine wpQuiet_nil ?_
                    rintro _ ⟨xq, rfl⟩
                    go_wp2_with (fail)
                    go_meet
                    exact ⟨rfl, xq.2⟩
                  · have := HEQ.out rfl
                    simp at this
                · have M3 := later_cell HQ1.out
                  cases a2
                  · refine wp_region_later (by kernel_rfl) (by kernel_rfl) ?_
                    repeat (go_big_quiet_step (fail))
                    refine wpQuiet_nil ?_
                    rintro _ ⟨xq, rfl⟩
                    go_wp2_with (fail)
                    go_meet
                    exact ⟨rfl, xq.2⟩
                  · have heq := HEQ.out rfl
                    refine wp_region_later (by kernel_rfl) (by kernel_rfl) ?_
                    repeat (go_big_quiet_step (fail))
                    refine wpQuiet_nil ?_
                    rintro _ ⟨xq, rfl⟩
                    go_wp2_with (fail)
                    go_meet
                    exact ⟨rfl, xq.2⟩
              case rest =>
                obtain ⟨rfl, b9⟩ := hcut
                have HB9 := Lib.hid (bthen HBL.out b9)
                clear b9 M0 M1 M2 M4
                go_wp2_with fail
                go_roundw
                case rel => exact ⟨k + 1, by omega, by go_num, HB9.out⟩
                case measure => simp [intOf]; omega
            · go_wp2_with fail
              go_ret
              exact ⟨rfl, bthen B2.out (bthen B8.out hbe)⟩

theorem lawPlainLayersFit_in (v : Value) (bs : List Nat) (w : World) (h : InBytes w v bs) (hT : Tab w) : Calls Tryd.prog 4 #[v] w fun e w' => e = .returned (.bool true) ∧ Below w.heap.size w w' :=
  lawPlainLayersFit_any v bs w h.1 h.2.1 h.2.2 hT

end Go.Proofs.YtokmmloakahkhaaDoor
namespace Go.Proofs.YtokmmloakahkhaaDoor
open Go.ChangeShapes Go.WideShapes Go.ChangeAt Go.RowKit

set_option maxRecDepth 100000 in
theorem fnLayersFit_lifted (os : Os) (started : os.Started) (H : Type) (enc : TypeId × Value → H) :
    ReturnsInHanded {} Tryd.checked os 4 .any (fun w args => (Rows.fnLayersFitSpec.pre enc Tryd.prog Tryd.f4 [] false w args ∧ laidMetH Tryd.prog laidTabs w) ∧ sizedMet enc Tryd.prog Tryd.f4 (OpenSpec.ofChange Rows.fnLayersFitSpec) false w args) (Rows.fnLayersFitSpec.post enc Tryd.prog Tryd.f4 false true false false) := by
  refine returnsInHanded_of_change_and (C := Tryd.checked) (X := fun w _ => laidMetH Tryd.prog laidTabs w) (fun _ _ _ hh h => h.of_heap hh) Tryd.own started (by kernel_rfl) Tryd.func4
    (ChangeSpec.witness_shaped (enc := enc) (C := Tryd.checked) (os := os) (X := fun w _ => laidMetH Tryd.prog laidTabs w) false (World.laidAll Tryd.prog os laidTabs) #[.slice none 0 0] 8 (World.laidAll_os _ _ _)
      (World.shaped_of_ZipB (by kernel_rfl) (by kernel_rfl)) (by kernel_rfl) (by kernel_rfl) (by kernel_rfl)
      (by rw [MakeChecks.laidMetH_plain _ _ _ (by kernel_rfl)]; exact laidMet_laidAll _ (by kernel_rfl) (by kernel_rfl))) ?_
  intro W base args ds gs before hval0 hW _ _ hL _
  have hval : ∀ (j : Nat) t v, Tryd.f4.params[j]? = some t → args[j]? = some v → Value.okWide Tryd.prog W .any base t v := hval0
  have hW' := hW
  obtain ⟨p, q, hA0, hV, rfl, hfz, hnd⟩ := hW
  have hA : DataW.TrodAll enc Tryd.prog W 0 (fun _ => true) true Tryd.f4.params.toList args.toList ds p := hA0
  rw [Tryd.params4] at hA hval
  obtain ⟨v0, vs0, d0, ds0, p0, q0, hargs, rfl, rfl, h0, r0⟩ := trodAll_cons hA
  obtain ⟨rfl, rfl, rfl⟩ := trodAll_nil r0
  obtain rfl : args = #[v0] := by cases args; simp_all
  obtain ⟨rfl, rfl⟩ := trodVars_none hV
  have lt0 : ∀ x ∈ p0, x.block < W.heap.size := by obtain ⟨m, hm⟩ := h0; exact DataW.trod_lt m _ _ _ hm
  obtain ⟨x0, w0⟩ := open_inBytes (hval 0 22 v0 rfl rfl) h0
  clear hA0 hval0
  refine (lawPlainLayersFit_in v0 x0 W w0 (tab_of_laid hL)).mono fun e W' ⟨he, bel⟩ => ?_
  subst he
  exact ⟨_, rfl, _, _, _, [], _, [], hW', trodAll_mk1 (shut_bool Tryd.underlying4 _), (trodAll_cons_mk (Below.trod Tryd.laidOut (by kernel_rfl) (of_decide_eq_true (by kernel_rfl)) h0 bel lt0) trodAll_mk0), rfl, bel.frame _, fun h => by cases h⟩

theorem fnLayersFit_holds : Rows.FnLayersFitSaid :=
  OpenClaim.holds_of_wide 4 Tryd.f4 rfl rfl rfl rfl rfl rfl rfl ⟨rfl, rfl, rfl, rfl, rfl⟩ rfl rfl rfl rfl rfl (by kernel_rfl) Tryd.func4 (by kernel_rfl)
    (of_decide_eq_true (by kernel_rfl)) (by unfold Func.isWrapper; rw [if_neg (of_decide_eq_false (by kernel_rfl))]; exact ⟨rfl, rfl⟩)
    (fun os started H enc _ => fnLayersFit_lifted os started H enc)

theorem fnLayersFitCard_holds : Rows.FnLayersFitCardSaid :=
  Claim7.holds_tied_plain_at .later [] [.data, .data] true (true, "6f994bc4384506fd34f3e771ee476e4cc97137f52f82e071fdf92e8a01e60b8a") false fnLayersFit_holds (fun _ h => by cases h) (by kernel_rfl) (fun _ h => by cases h) fnLayersFit_row_tie rfl ⟨rfl, rfl⟩ (by kernel_rfl) rfl
    (fun f fn hf hfn => by
      obtain rfl : f = 4 := Option.some.inj ((show Tryd.prog.funcNamed "loop.example/wholerules/laws.FnLayersFit" = some 4 by kernel_rfl).symm.trans hf) |>.symm
      obtain rfl : fn = Tryd.f4 := (Option.some.inj (Tryd.func4.symm.trans hfn)).symm
      exact ⟨by kernel_rfl, fun j t ht => by
        rw [Tryd.params4] at ht
        have hm : t ∈ [22] := by simpa using Array.mem_of_getElem? ht
        have hall : ([22].all fun u => !Tryd.prog.wantsStandIn u) = true := by kernel_rfl
        exact (show Tryd.prog.wantsStandIn t = false by simpa using List.all_eq_true.1 hall t hm)⟩)
    (by kernel_rfl)

end Go.Proofs.YtokmmloakahkhaaDoor
