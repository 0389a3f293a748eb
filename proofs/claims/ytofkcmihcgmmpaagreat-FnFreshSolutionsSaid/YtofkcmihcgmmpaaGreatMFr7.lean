/-
  Texts that the claim's last one imports, laid together: part 7 of 13. No condition of its own.
-/
import Derived.Deep.LoopGhost
import Derived.Sort.LotA
import Derived.Sort.LotB
import Derived.Sort.LotC
import Derived.Sort.LotD3
import Derived.Test.YtofkcmihcgmmpaaGreatChecked
import Derived.CellFam
import Derived.WalkKit
import Derived.RegionTactic
import Derived.Deep.Draws
import Derived.Deep.QuietTactic
import Derived.BigCall
import Derived.BigGuard
import Derived.BigQuiet
import Derived.Deep.Cut
import Derived.Test.YtofkcmihcgmmpaaGreatMFr1
import Derived.Test.YtofkcmihcgmmpaaGreatMFr2
import Derived.Test.YtofkcmihcgmmpaaGreatMFr3
import Derived.Test.YtofkcmihcgmmpaaGreatMFr5
import Derived.Test.YtofkcmihcgmmpaaGreatMFr6
/-
  The draw of DrawFreshSolutions: facts of two lists, none in both, and the body of a rule of a drawn program.
-/
namespace Go.Proofs.YtofkcmihcgmmpaaGreat
open Go.RowKit

/-- The first k facts drawn lie in two rows. -/
structure SplitAt (B hi : Nat) (wb wr : World) (g : Nat) (bs : List Nat) (q : Nat) (fs : List LFact) (k : Nat) (v v2 : Value) (fr rs : List LFact) (av av2 : List Value) : Prop where
  one : PickF B hi wb wr v fr av
  two : PickF B hi wb wr v2 rs av2
  apart : ∀ b, v.ownBlock = some b → v2.ownBlock ≠ some b
  perm : (fr ++ rs).Perm (fs.take k)
  rdr : Rdr wr g bs (q + k)
  only : Only g (g + 1) wb wr
section
variable {B hi : Nat} {wb wr w4 w5 : World} {g q : Nat} {bs : List Nat} {fs : List LFact} {k : Nat} {v v2 v' a : Value} {fr rs : List LFact} {av av2 : List Value} {o : Obj}
/-- Behind a pick. -/
theorem SplitAt.pick (h : SplitAt B hi wb wr g bs q fs k v v2 fr rs av av2) (hp : Picked wr w4 g bs (q + k)) (hg : g < wb.heap.size) : PickF B hi wb w4 v fr av ∧ PickF B hi wb w4 v2 rs av2 ∧ Rdr w4 g bs (q + (k + 1)) ∧ Only g (g + 1) wb w4 :=
  ⟨h.one.far fun b hb => hp.2.block b (h.one.lt hb).2 (.inr (by have := (h.one.lt hb).1; omega)), h.two.far fun b hb => hp.2.block b (h.two.lt hb).2 (.inr (by have := (h.two.lt hb).1; omega)), hp.1, h.only.trans hp.2⟩
/-- One more in a row; what lies apart from it stays. -/
theorem pick_push (h1 : PickF B hi wb w4 v fr av) (h2 : PickF B hi wb w4 v2 rs av2) (ha : ∀ b, v.ownBlock = some b → v2.ownBlock ≠ some b) (hr : Rdr w4 g bs q) (ho : Only g (g + 1) wb w4) (hg : g < wb.heap.size) {f : LFact} (hf : OwnInts wb B hi a f.2)
    (hown : w5.ownsRow wb.heap.size 35 2 v' (fr.length + 1) (flat fr av ++ [.int .i64 f.1, a])) (hgr : (w4.alloc o).grownBy w5 v.ownBlock) (hat : ∀ b, v'.ownBlock = some b → v.ownBlock = some b ∨ w4.heap.size ≤ b) :
    PickF B hi wb w5 v' (fr ++ [f]) (av ++ [a]) ∧ PickF B hi wb w5 v2 rs av2 ∧ (∀ b, v'.ownBlock = some b → v2.ownBlock ≠ some b) ∧ Rdr w5 g bs q ∧ Only g (g + 1) wb w5 := by
  have hg' := grown_from_alloc hgr
  refine ⟨h1.push hf hown, h2.far fun b hb => hg'.block b (h2.lt hb).2 fun e => ha b e.symm hb, fun b hb hb2 => ?_, hr.same fun k hk => hg'.block k (by have := hr.lt; omega) fun e => by have := (h1.lt e.symm).1; omega, ⟨?_, ?_, ?_, ?_, ?_⟩⟩
  · rcases hat b hb with h | h
    · exact ha b h hb2
    · have := (h2.lt hb2).2
      omega
  · exact hg'.os.trans ho.os
  · exact hg'.tape.trans ho.tape
  · exact hg'.output.trans ho.output
  · exact Nat.le_trans ho.size hg'.size
  · exact fun k hk hn => (hg'.block k (Nat.lt_of_lt_of_le hk ho.size) fun e => by have := (h1.lt e.symm).1; omega).trans (ho.block k hk hn)
end
theorem tot_perm {l m : List LFact} (h : l.Perm m) : tot l = tot m := by
  unfold tot
  exact List.Perm.sum_nat (h.map fun f => f.2.length)
theorem perm_one {fr rs L : List LFact} (h : (fr ++ rs).Perm L) (f : LFact) : ((fr ++ [f]) ++ rs).Perm (L ++ [f]) := by
  rw [List.append_assoc]
  refine (List.Perm.append_left fr (List.perm_append_comm (l₁ := [f]) (l₂ := rs))).trans ?_
  rw [← List.append_assoc]
  exact h.append_right [f]
theorem perm_two {fr rs L : List LFact} (h : (fr ++ rs).Perm L) (f : LFact) : (fr ++ (rs ++ [f])).Perm (L ++ [f]) := by
  rw [← List.append_assoc]
  exact h.append_right [f]
theorem perm_apart {fr rs fs : List LFact} (h : (fr ++ rs).Perm fs) (hn : fs.Nodup) : ∀ f ∈ rs, f ∉ fr := fun f hf hf2 => by
  have := h.symm.nodup hn
  rw [List.nodup_append] at this
  exact this.2.2 f hf2 f hf rfl

set_option maxHeartbeats 4000000 in
set_option maxRecDepth 100000 in
theorem drawFreshSolutions_any (v : Value) (code : List Nat) (w : World) (h : RdBytes w w.heap.size v code) (hby : ∀ b ∈ code, b < 256) (hn : code.length ≤ 1073741824) :
    Calls Tryz.prog 4 #[v] w fun e w' => ∃ (A1 A2 Al : Option Addr) (c1 c2 cl : Nat) (rs fr : List LFact) (ls : List LLit), e = .returned (.tuple #[.slice A1 rs.length c1, .slice A2 fr.length c2, .slice Al ls.length cl]) ∧
      (RdFacts w' w'.heap.size (.slice A1 rs.length c1) rs ∧ RdFacts w' w'.heap.size (.slice A2 fr.length c2) fr ∧ RdLits w' w'.heap.size (.slice Al ls.length cl) ls) ∧ (∀ f ∈ rs, f ∉ fr) ∧ rs.length + fr.length ≤ 7 ∧ tot rs + tot fr ≤ 21 ∧ ls.length + totL ls ≤ 16 ∧ Below w.heap.size w w' := by
  obtain ⟨i0, hi0, hz0, hz1, hz2⟩ := info_parts Tryz.infoFact
  have HV := Lib.hid h
  clear h
  go_enter Tryz.func4, Tryz.ntmps4
  obtain ⟨g, hg⟩ : ∃ g, g = w.heap.size := ⟨_, rfl⟩
  go_upto_region 3 with (first
    | (go_at_call 13; refine (l40Open_any v code w HV.out hby hn).mono ?_
       rintro e w0 ⟨rfl, hr1, hb1⟩
       rw [← hg] at hr1 ⊢
       have hg1 : g < w0.heap.size := hr1.lt
       have HG := Lib.hid hg
       have HB1 := Lib.hid hb1
       have HR1 := Lib.hid hr1
       obtain ⟨bs, hbs⟩ : ∃ bs, bs = code.take 2000 := ⟨_, rfl⟩
       rw [← hbs] at HR1
       clear hb1 hr1 hbs hg)
    | (go_at_call 14; refine (l3CaseN_any g bs 0 7 1 w0 HR1.out (by omega) (by omega)).mono ?_
       rintro e w1 ⟨A, Ar, Af, c, cr, cf, B, q, ar, es, fs, rfl, hok, hf1, hf2, hq, hB, hB2, h1, h2, h3, h4, h5⟩
       have HOK := Lib.hid hok
       have HF := Lib.hid (And.intro hf1 hf2)
       have HQ := Lib.hid (And.intro h2 (And.intro h3 (And.intro h4 h5)))
       have HBB := Lib.hid (And.intro hB hB2)
       clear hok hB hB2 h1 h2 h3 h4 h5 hf1 hf2))
  obtain ⟨w2, hw2⟩ : ∃ w2, w2 = w1.alloc (.cells #[.slice A ar.length c, .slice Ar es.length cr] 45) := ⟨_, rfl⟩
  have b12 : Below w1.heap.size w1 w2 := by rw [hw2]; exact below1 _ _
  have XD : Blk w2 w1.heap.size 45 #[.slice A ar.length c, .slice Ar es.length cr] := by rw [hw2]; exact Blk.new _ _ _
  rw [← hw2]
  clear hw2
  have hn1 : 0 < es.length := HOK.out.2.2.2.1
  have h2 := HQ.out.1
  obtain ⟨gr, rfl, hgr1, hgr2⟩ := h2.form hn1
  have hgw : g < w1.heap.size := HQ.out.2.2.1.lt
  have hb0 := HBB.out.1
  have hb1 := HBB.out.2
  have hneg : g ≠ gr := by omega
  have HCE := Lib.hid (show es.length ≤ cr from h2.capOk)
  have hel : es.length ≤ 4 := HOK.out.2.2.2.2.1
  have hfl7 : fs.length ≤ 7 := HF.out.1.2
  obtain ⟨SS, hSS⟩ : ∃ SS : World → Prop, SS = (fun W => W.cell? ⟨w1.heap.size, 1, none⟩ = some (.slice (some ⟨gr, 0, none⟩) es.length cr) ∧ ∀ i (_ : i < es.length), W.cell? ⟨gr, i * 3 + 2, none⟩ = some es[i].2.2) := ⟨_, rfl⟩
  have HB := Lib.hid (show ∀ W, SS W → (W.cell? ⟨w1.heap.size, 1, none⟩ = some (.slice (some ⟨gr, 0, none⟩) es.length cr) ∧ ∀ i (_ : i < es.length), W.cell? ⟨gr, i * 3 + 2, none⟩ = some es[i].2.2) from by rw [hSS]; exact fun W hW => hW)
  have HS := Lib.hid (show ∀ W, Only g (g + 1) w2 W → SS W from by
    rw [hSS]
    intro W hW
    have y := hW.blk XD (by omega)
    have hr2 : ∀ j, W.cell? ⟨gr, j, none⟩ = w1.cell? ⟨gr, j, none⟩ := fun j => World.cell?_of_block ((hW.block gr (by have := b12.size; omega) (by omega)).trans (b12.block gr hgr2))
    refine ⟨y.cell 1, fun i hi => ?_⟩
    rw [hr2]
    exact (h2.at_ hi).2.2)
  have HAT := Lib.hid (show ∀ W, Only g (g + 1) w2 W → ∀ k (hk : k < fs.length), ∃ b A3 c3, Af = some ⟨b, 0, none⟩ ∧ b < W.heap.size ∧ W.cell? ⟨b, k * 2, none⟩ = some (.int .i64 fs[k].1) ∧ W.cell? ⟨b, k * 2 + 1, none⟩ = some (.slice A3 fs[k].2.length c3) ∧ OwnInts w2 B w1.heap.size (.slice A3 fs[k].2.length c3) fs[k].2 from by
    intro W hW k hk
    have hof := HQ.out.2.1
    obtain ⟨b, A3, c3, e1, e2, e3, e4, e5, e6⟩ := hof.place hk
    have hs2 := b12.size
    have hsw := hW.size
    have hcell : ∀ j, W.cell? ⟨b, j, none⟩ = w1.cell? ⟨b, j, none⟩ := fun j => World.cell?_of_block ((hW.block b (by omega) (by omega)).trans (b12.block b e3))
    exact ⟨b, A3, c3, e1, by omega, (hcell _).trans e4, (hcell _).trans e5, e6.below b12 (Nat.le_refl _)⟩)
  have O12 := Lib.hid (And.intro b12 (show Rdr w2 g bs q from HQ.out.2.2.1.below b12 hgw))
  have hg2 : g < w2.heap.size := O12.out.2.lt
  have hq2 : q ≤ 100000 := by omega
  have hcf : fs.length ≤ cf := by
    obtain ⟨A', c', e, hc, _⟩ := HQ.out.2.1.rd
    injection e with _ _ e3
    omega
  clear hSS b12 XD h2
  obtain ⟨w3, hw3⟩ : ∃ w3, w3 = (w2.alloc (.cells #[] 35)).alloc (.cells #[] 35) := ⟨_, rfl⟩
  have HST := Lib.hid (show SplitAt B w1.heap.size w2 w3 g bs q fs 0 (.slice (some ⟨w2.heap.size, 0, none⟩) 0 0) (.slice (some ⟨w2.heap.size + 1, 0, none⟩) 0 0) [] [] [] [] from by
    rw [hw3]
    have p1 := PickF.empty B w1.heap.size (wb := w2) (wr := w2) (Nat.le_refl _)
    have p2 := PickF.empty B w1.heap.size (wb := w2) (wr := w2.alloc (.cells #[] 35)) (by simp)
    have e1 : (w2.alloc (.cells #[] 35)).heap.size = w2.heap.size + 1 := by simp
    rw [e1] at p2
    refine ⟨p1.far fun b hb => Below.heap_alloc _ _ _ (p1.lt hb).2, p2, fun b hb hb2 => ?_, by simp, ?_, ?_⟩
    · simp [Value.ownBlock] at hb hb2
      omega
    · exact O12.out.2.below (below2 w2 _ _) hg2
    · exact Only.of_below (below2 w2 _ _))
  go_wp2_with (fail)
  rw [← hw3]
  clear hw3
  go_loopw [8, 9, 10] (fun o1 o2 i wr => ∃ (k : Nat) (fr rs : List LFact) (A1 A2 : Option Addr) (c1 c2 : Nat) (av av2 : List Value), k ≤ fs.length ∧ i = .int .i64 k ∧ o1 = .slice A1 fr.length c1 ∧ o2 = .slice A2 rs.length c2 ∧ SplitAt B w1.heap.size w2 wr g bs q fs k (.slice A1 fr.length c1) (.slice A2 rs.length c2) fr rs av av2) (fun _ _ i _ => fs.length - (intOf i).toNat)
  case atStart => exact ⟨0, [], [], _, _, 0, 0, [], [], Nat.zero_le _, rfl, rfl, rfl, HST.out⟩
  case round =>
    obtain ⟨k, fr, rs, A1, A2, c1, c2, av, av2, hk, rfl, rfl, rfl, hsp⟩ := hrel
    have HSP := Lib.hid hsp
    have hpl : fr.length + rs.length = k := by
      have := hsp.perm.length_eq
      rw [List.length_append, List.length_take] at this
      omega
    have hrw := hsp.rdr
    by_cases hlt : k < fs.length
    · have HPL := Lib.hid hpl
      have hfr7 : fr.length ≤ 7 := by omega
      have hrs7 : rs.length ≤ 7 := by omega
      clear hpl hsp
      go_wp2_with (fail)
      refine (pick_any g bs (q + k) 2 wr hrw (by omega) (by omega)).mono ?_
      rintro e w4 ⟨⟨x, rfl, _⟩, hpk⟩
      have H4 := Lib.hid (HSP.out.pick hpk hg2)
      obtain ⟨b, A3, c3, rfl, hbl, d0, d1, hoi⟩ := HAT.out w4 H4.out.2.2.2 k hlt
      have HOI := Lib.hid hoi
      have hs4 := H4.out.2.2.2.size
      clear hpk hrw hoi
      obtain ⟨f, hf⟩ : ∃ f, f = fs[k]'hlt := ⟨_, rfl⟩
      rw [← hf] at d0 d1 HOI
      have HTK := Lib.hid (show fs.take (k + 1) = fs.take k ++ [f] by rw [hf]; exact take_snoc fs k hlt)
      clear hf
      by_cases hx : x = 0
      · have hxb : (x == 0) = true := by simp [hx]
        clear hx
        go_wp2_with (at_builtin; refine wpList_append_lies _ rfl (.tmp 29) (.tmp 34) 23 rfl w2.heap.size 35 i0 (.agg #[.int .i64 0, .slice none 0 0]) 2 32 Tryz.underlying23 hi0 hz0 hz1 hz2 rfl (by decide) (.slice A1 fr.length c1) fr.length (flat fr av) rfl ?c1 ⟨w4.heap.size, 0, none⟩ 1 1 [.int .i64 f.1, .slice A3 f.2.length c3] rfl rfl (news2 _ _ _ _) ?c2 (by omega) (by unfold maxLen; omega) (by omega) ?c3 _ rfl ?_)
        case c1 => exact H4.out.1.row.alloc _
        case c2 => intro u hu; simp at hu; rcases hu with rfl | rfl <;> rfl
        case c3 => simp; omega
        intro gn cap w5 hown hgr hat _
        have HN := Lib.hid (pick_push H4.out.1 H4.out.2.1 HSP.out.apart H4.out.2.2.1 H4.out.2.2.2 hg2 HOI.out hown hgr fun b hb => by
          have hb' : gn = b := by simpa [Value.ownBlock] using hb
          subst hb'
          rcases hat with h | h
          · exact .inl h
          · exact .inr (by first | omega | (simp at h; omega)))
        obtain ⟨fn, hfn⟩ : ∃ l, l = fr ++ [f] := ⟨_, rfl⟩
        have hlen : fr.length + 1 = fn.length := by rw [hfn]; simp
        rw [← hfn, hlen] at HN
        rw [hlen]
        have HPM := Lib.hid (show (fn ++ rs).Perm (fs.take (k + 1)) from by rw [HTK.out, hfn]; exact perm_one HSP.out.perm f)
        clear hfn hlen hown hgr hat
        go_wp2_with (fail)
        go_roundw
        case rel => exact ⟨k + 1, fn, rs, _, _, _, _, _, _, by omega, by go_num, rfl, rfl, ⟨HN.out.1, HN.out.2.1, HN.out.2.2.1, HPM.out, HN.out.2.2.2.1, HN.out.2.2.2.2⟩⟩
        case measure => simp [intOf]; omega
      · have hxb : (x == 0) = false := by simp [hx]
        clear hx
        go_wp2_with (at_builtin; refine wpList_append_lies _ rfl (.tmp 36) (.tmp 41) 23 rfl w2.heap.size 35 i0 (.agg #[.int .i64 0, .slice none 0 0]) 2 32 Tryz.underlying23 hi0 hz0 hz1 hz2 rfl (by decide) (.slice A2 rs.length c2) rs.length (flat rs av2) rfl ?c1 ⟨w4.heap.size, 0, none⟩ 1 1 [.int .i64 f.1, .slice A3 f.2.length c3] rfl rfl (news2 _ _ _ _) ?c2 (by omega) (by unfold maxLen; omega) (by omega) ?c3 _ rfl ?_)
        case c1 => exact H4.out.2.1.row.alloc _
        case c2 => intro u hu; simp at hu; rcases hu with rfl | rfl <;> rfl
        case c3 => simp; omega
        intro gn cap w5 hown hgr hat _
        have HN := Lib.hid (pick_push H4.out.2.1 H4.out.1 (fun b h1 h2 => HSP.out.apart b h2 h1) H4.out.2.2.1 H4.out.2.2.2 hg2 HOI.out hown hgr fun b hb => by
          have hb' : gn = b := by simpa [Value.ownBlock] using hb
          subst hb'
          rcases hat with h | h
          · exact .inl h
          · exact .inr (by first | omega | (simp at h; omega)))
        obtain ⟨rn, hrn⟩ : ∃ l, l = rs ++ [f] := ⟨_, rfl⟩
        have hlen : rs.length + 1 = rn.length := by rw [hrn]; simp
        rw [← hrn, hlen] at HN
        rw [hlen]
        have HPM := Lib.hid (show (fr ++ rn).Perm (fs.take (k + 1)) from by rw [HTK.out, hrn]; exact perm_two HSP.out.perm f)
        clear hrn hlen hown hgr hat
        go_wp2_with (fail)
        go_roundw
        case rel => exact ⟨k + 1, fr, rn, _, _, _, _, _, _, by omega, by go_num, rfl, rfl, ⟨HN.out.2.1, HN.out.1, fun b h1 h2 => HN.out.2.2.1 b h2 h1, HPM.out, HN.out.2.2.2.1, HN.out.2.2.2.2⟩⟩
        case measure => simp [intOf]; omega
    · have hkn : k = fs.length := by omega
      have HPM := Lib.hid (show (fr ++ rs).Perm fs from by
        have := hsp.perm
        rw [hkn, List.take_length] at this
        exact this)
      have hqk : q + k ≤ 100010 := by omega
      clear hkn hsp hpl hrw
      go_upto_region 11 with (fail)
      refine wp_region_rel SS 14 15 (by kernel_rfl) rfl ?_
      obtain ⟨wy, hwy⟩ : ∃ wy, wy = wr.drew := ⟨_, rfl⟩
      have HY := Lib.hid (show PickF B w1.heap.size w2 wy (.slice A1 fr.length c1) fr av ∧ PickF B w1.heap.size w2 wy (.slice A2 rs.length c2) rs av2 ∧ Rdr wy g bs (q + k) ∧ Only g (g + 1) w2 wy by rw [hwy]; exact ⟨HSP.out.one.far fun _ _ => rfl, HSP.out.two.far fun _ _ => rfl, HSP.out.rdr, ⟨HSP.out.only.os, HSP.out.only.tape, HSP.out.only.output, HSP.out.only.size, HSP.out.only.block⟩⟩)
      have RY := HY.out.2.2.1
      rw [← hwy]
      clear hwy
      have S0 := HS.out _ HY.out.2.2.2
      refine wpAnyR_pure (i := 0) (oi := _) ?va0 rfl rfl (by kernel_rfl) (by decide) (fun _ _ _ h => h) rfl ?hya0 (fun _ => S0) ?resta0
      case hya0 => (intro W; go_simp; (try with_reducible rfl))
      try simp only [List.setIfInBounds_toArray, List.set_cons_zero, List.set_cons_succ]
      refine wpAnyR_pure (i := 1) (oi := _) ?va1 rfl rfl (by kernel_rfl) (by decide) (fun _ _ _ h => h) rfl ?hya1 (fun _ => S0) ?resta1
      case hya1 => (intro W; go_simp; (try with_reducible rfl))
      try simp only [List.setIfInBounds_toArray, List.set_cons_zero, List.set_cons_succ]
      refine wpAnyR_pure (i := 2) (oi := _) ?va2 rfl rfl (by kernel_rfl) (by decide) (fun _ _ _ h => h) rfl ?hya2 (fun _ => S0) ?resta2
      case hya2 => (intro W; go_simp; (try with_reducible rfl))
      try simp only [List.setIfInBounds_toArray, List.set_cons_zero, List.set_cons_succ]
      refine wpAnyR_take (i := 3) (oi := _) ?va3 rfl rfl (by kernel_rfl) (fun _ _ _ h => h) rfl ?hya3 S0 ?resta3
      case hya3 => (intro W hW; obtain ⟨d0, _⟩ := HB.out W hW; go_simp; (try with_reducible rfl))
      try simp only [List.setIfInBounds_toArray, List.set_cons_zero, List.set_cons_succ]
      refine wpAnyR_pure (i := 4) (oi := _) ?va4 rfl rfl (by kernel_rfl) (by decide) (fun _ _ _ h => h) rfl ?hya4 (fun _ => S0) ?resta4
      case hya4 => (intro W; go_simp; (try with_reducible rfl))
      try simp only [List.setIfInBounds_toArray, List.set_cons_zero, List.set_cons_succ]
      refine wpAnyR_pure (i := 5) (oi := _) ?va5 rfl rfl (by kernel_rfl) (by decide) (fun _ _ _ h => h) rfl ?hya5 (fun _ => S0) ?resta5
      case hya5 => (intro W; go_simp; (try with_reducible rfl))
      try simp only [List.setIfInBounds_toArray, List.set_cons_zero, List.set_cons_succ]
      refine wpAnyR_take (i := 6) (oi := _) ?va6 rfl rfl (by kernel_rfl) (fun _ _ _ h => h) rfl ?hya6 S0 ?resta6
      case hya6 => (intro W hW; obtain ⟨d0, _⟩ := HB.out W hW; go_simp; (try with_reducible rfl))
      try simp only [List.setIfInBounds_toArray, List.set_cons_zero, List.set_cons_succ]
      refine wpAnyR_pure (i := 7) (oi := _) ?va7 rfl rfl (by kernel_rfl) (by decide) (fun _ _ _ h => h) rfl ?hya7 (fun _ => S0) ?resta7
      case hya7 => (intro W; go_simp; (try with_reducible rfl))
      try simp only [List.setIfInBounds_toArray, List.set_cons_zero, List.set_cons_succ]
      refine wpAnyR_one (i := 8) (by kernel_rfl) rfl (fun K hK => ?_)
      try rw [if_pos (show Region.wanted _ _ = true from rfl)]
      go_simp
      refine (pick_any g bs (q + k) (es.length : Int) wy RY (by omega) (by omega)).mono ?_
      rintro e w9 ⟨⟨x, rfl, hx⟩, hpk⟩
      have hxr := hx.1 (by omega)
      obtain ⟨i, rfl⟩ : ∃ i : Nat, x = (i : Int) := ⟨x.toNat, by omega⟩
      have hi : i < es.length := by omega
      have H9 := Lib.hid (show PickF B w1.heap.size w2 w9 (.slice A1 fr.length c1) fr av ∧ PickF B w1.heap.size w2 w9 (.slice A2 rs.length c2) rs av2 ∧ Only g (g + 1) w2 w9 from ⟨HY.out.1.far fun b hb => hpk.2.block b (HY.out.1.lt hb).2 (.inr (by have := (HY.out.1.lt hb).1; omega)), HY.out.2.1.far fun b hb => hpk.2.block b (HY.out.2.1.lt hb).2 (.inr (by have := (HY.out.2.1.lt hb).1; omega)), HY.out.2.2.2.trans hpk.2⟩)
      have S1 := HS.out _ H9.out.2.2
      clear hx hpk
      refine hK.out _ _ (fun _ => S1) ?_
      clear hK K
      try simp only [List.setIfInBounds_toArray, List.set_cons_zero, List.set_cons_succ, Act.put]
      obtain ⟨lo1, hi1, lo2, hi2, e1, e2, e3, e4, _, _, e7, e8⟩ := HQ.out.1.own i hi
      obtain ⟨A3, c3, e10⟩ := e8.form
      rw [e10] at e8
      have HEI := Lib.hid (And.intro e1 (And.intro e2 (And.intro e3 (And.intro e4 e8))))
      have HRW := Lib.hid e10
      have HKE := Lib.hid (show es[i].1.2.length ≤ 4 ∧ totL es[i].1.2 ≤ 8 from by
        have := HOK.out.2.2.2.2.2 _ (List.getElem_mem hi)
        exact ⟨this.2.1, this.2.2.1⟩)
      clear e1 e2 e3 e4 e7 e8 e10
      refine wpAnyR_pure (i := 9) (oi := _) (.pointer (some ⟨gr, i * 3, none⟩)) rfl rfl (by kernel_rfl) (by decide) (fun _ _ _ h => h) rfl ?hyb9 (fun _ => S1) ?restb9
      case hyb9 => (intro W; go_simp; (try simp))
      try simp only [List.setIfInBounds_toArray, List.set_cons_zero, List.set_cons_succ]
      refine wpAnyR_pure (i := 10) (oi := _) (.pointer (some ⟨gr, i * 3 + 2, none⟩)) rfl rfl (by kernel_rfl) (by decide) (fun _ _ _ h => h) rfl ?hyb10 (fun _ => S1) ?restb10
      case hyb10 => (intro W; go_simp; (try simp))
      try simp only [List.setIfInBounds_toArray, List.set_cons_zero, List.set_cons_succ]
      refine wpAnyR_take (i := 11) (oi := _) (.slice A3 es[i].1.2.length c3) rfl rfl (by kernel_rfl) (fun _ _ _ h => h) rfl ?hyb11 S1 ?restb11
      case hyb11 =>
        intro W hW
        obtain ⟨_, hall⟩ := HB.out W hW
        have d2 := hall i hi
        rw [HRW.out] at d2
        clear hall
        go_simp
        try with_reducible rfl
      try simp only [List.setIfInBounds_toArray, List.set_cons_zero, List.set_cons_succ]
      refine wpAnyR_one (i := 12) (by kernel_rfl) rfl (fun K hK => ?_)
      try rw [if_pos (show Region.wanted _ _ = true from rfl)]
      go_simp
      refine hK.out _ _ (fun _ => S1) ?_
      clear hK K
      try simp only [List.setIfInBounds_toArray, List.set_cons_zero, List.set_cons_succ, Act.put]
      refine wpAnyR_one (i := 13) (by kernel_rfl) rfl (fun K hK => ?_)
      try rw [if_pos (show Region.wanted _ _ = true from rfl)]
      go_simp
      refine hK.out _ _ (fun _ => S1) ?_
      clear hK K
      try simp only [List.setIfInBounds_toArray, List.set_cons_zero, List.set_cons_succ, Act.put]
      refine wpAnyR_one (i := 14) (by kernel_rfl) rfl (fun K hK => ?_)
      go_simp
      refine hK.out _ _ (fun hf => absurd hf (by decide)) ?_
      clear hK K
      refine wpAnyR_done (by kernel_rfl) ?_
      go_wp2_with fail
      refine bodyPost_ret (v := .tuple #[.slice A2 rs.length c2, .slice A1 fr.length c1, .slice A3 es[i].1.2.length c3]) (by simp [results, Tryz.results4, go_sem]) rfl ?_
      have s12 := O12.out.1.size
      obtain ⟨P1, P2, O9⟩ := H9.out
      have s9 := O9.size
      have hk9 : ∀ k, g < k → k < w1.heap.size → w9.heap[k]? = w1.heap[k]? := fun k k1 k2 => (O9.block k (by omega) (by omega)).trans (O12.out.1.block k k2)
      obtain ⟨e1, e2, e3, e4, e8⟩ := HEI.out
      have hBW : Below w.heap.size w w9 := by
        have h1 : Below w.heap.size w w1 := Only.then_ HB1.out HQ.out.2.2.2 (by have := HG.out; omega)
        exact Only.then_ (bthen h1 O12.out.1) O9 (by have := HG.out; omega)
      have hpl := HPM.out.length_eq
      rw [List.length_append] at hpl
      have hpt := tot_perm HPM.out
      rw [tot_append] at hpt
      have hft := HF.out.2
      refine ⟨A2, A1, A3, c2, c1, c3, rs, fr, es[i].1.2, rfl, ⟨P2.rd O9 (by omega) s12, P1.rd O9 (by omega) s12, ((e8.keep fun k k1 k2 => hk9 k (by omega) (by omega)).rd).more (by omega)⟩, perm_apart HPM.out HF.out.1.1, by omega, by omega, by have := HKE.out; omega, hBW⟩

end Go.Proofs.YtofkcmihcgmmpaaGreat
/-
  Rows of slices of integers: one that is read, one of the call's own; the relation of a loop that collects them.
-/
namespace Go.Proofs.YtofkcmihcgmmpaaGreat
open Go.RowKit

theorem Tryz.infoIntS : (Tryz.prog.info? 33).map (fun i => (i.zero, i.size, i.bytes)) = some (some (.slice none 0 0), 1, 24) := by kernel_rfl

/-- A row of slices of integers that is read. -/
def RdRows (w : World) (B : Nat) (v : Value) (xss : List (List Int)) : Prop :=
  ∃ A c, v = .slice A xss.length c ∧ xss.length ≤ c ∧ (0 < xss.length → ∃ b o, A = some ⟨b, o, none⟩ ∧ b < B ∧ ∀ k (h : k < xss.length), ∃ u, w.cell? ⟨b, o + k, none⟩ = some u ∧ RdInts w B u xss[k])
/-- A row of slices of integers in blocks from lo on and below hi; weak: two of them may share a block. -/
def WkRows (w : World) (lo hi : Nat) (v : Value) (xss : List (List Int)) : Prop :=
  ∃ av : List Value, (av.length = xss.length ∧ ∀ i (h : i < xss.length) (h' : i < av.length), OwnInts w lo hi av[i] xss[i]) ∧ w.ownsRow lo 33 1 v xss.length av ∧ ∀ g, v.ownBlock = some g → g < hi
/-- And no two share one. -/
def OwnRows (w : World) (lo hi : Nat) (v : Value) (xss : List (List Int)) : Prop :=
  ∃ av, OwnArgs w lo hi av xss ∧ w.ownsRow lo 33 1 v xss.length av ∧ ∀ g, v.ownBlock = some g → g < hi

section
variable {w w' : World} {lo hi lo' hi' B B' : Nat} {v : Value} {xss : List (List Int)}
theorem RdRows.below (h : RdRows w B v xss) (hb : Below B' w w') (hB : B ≤ B') : RdRows w' B v xss := by
  obtain ⟨A, c, rfl, hc, h⟩ := h
  refine ⟨A, c, rfl, hc, fun hn => ?_⟩
  obtain ⟨b, o, rfl, hlt, hk⟩ := h hn
  refine ⟨b, o, rfl, hlt, fun k hkl => ?_⟩
  obtain ⟨u, h1, h2⟩ := hk k hkl
  exact ⟨u, (hb.cell (p := ⟨b, o + k, none⟩) (by show b < B'; omega)).trans h1, h2.below hb hB⟩
theorem RdRows.more (h : RdRows w B v xss) (hB : B ≤ B') : RdRows w B' v xss := by
  obtain ⟨A, c, rfl, hc, h⟩ := h
  refine ⟨A, c, rfl, hc, fun hn => ?_⟩
  obtain ⟨b, o, rfl, hlt, hk⟩ := h hn
  refine ⟨b, o, rfl, by omega, fun k hkl => ?_⟩
  obtain ⟨u, h1, h2⟩ := hk k hkl
  exact ⟨u, h1, h2.more hB⟩
theorem RdRows.on (h : RdRows w w.heap.size v xss) (hb : Below w.heap.size w w') : RdRows w' w'.heap.size v xss := (h.below hb (Nat.le_refl _)).more hb.size
theorem RdRows.get {A : Option Addr} {c : Nat} (h : RdRows w B (.slice A xss.length c) xss) {k : Nat} (hk : k < xss.length) :
    ∃ b o A2 c2, A = some ⟨b, o, none⟩ ∧ b < B ∧ w.cell? ⟨b, o + k, none⟩ = some (.slice A2 xss[k].length c2) ∧ RdInts w B (.slice A2 xss[k].length c2) xss[k] := by
  obtain ⟨A', c', e, _, h⟩ := h
  injection e with e1 _ _
  subst e1
  obtain ⟨b, o, rfl, hb, hx⟩ := h (by omega)
  obtain ⟨u, h1, h2⟩ := hx k hk
  have h3 := h2
  obtain ⟨A2, c2, rfl, _⟩ := h2
  exact ⟨b, o, A2, c2, rfl, hb, h1, h3⟩
theorem OwnRows.weak (h : OwnRows w lo hi v xss) : WkRows w lo hi v xss := by
  obtain ⟨av, h1, h2, h3⟩ := h
  exact ⟨av, ⟨h1.len, h1.own⟩, h2, h3⟩
theorem WkRows.form (h : WkRows w lo hi v xss) : ∃ A c, v = .slice A xss.length c := by
  obtain ⟨_, _, h, _⟩ := h
  rcases h.2 with ⟨rfl, h0⟩ | ⟨g, cap, _, rfl, _⟩
  · exact ⟨none, 0, by rw [h0]⟩
  · exact ⟨_, _, rfl⟩
theorem WkRows.below (h : WkRows w lo hi v xss) (hb : Below B w w') (hB : hi ≤ B) : WkRows w' lo hi v xss := by
  obtain ⟨av, ⟨h0, h1⟩, h2, h3⟩ := h
  exact ⟨av, ⟨h0, fun i a b => (h1 i a b).below hb hB⟩, ownsRow_below h2 h3 hb hB, h3⟩
theorem WkRows.mono (h : WkRows w lo hi v xss) (h1 : lo' ≤ lo) (h2 : hi ≤ hi') : WkRows w lo' hi' v xss := by
  obtain ⟨av, ⟨h0, ha⟩, hr, hlt⟩ := h
  exact ⟨av, ⟨h0, fun i a b => (ha i a b).mono h1 h2⟩, ownsRow_mono hr h1, fun g hg => by have := hlt g hg; omega⟩
theorem WkRows.only (h : WkRows w lo hi v xss) (ho : Only lo' hi' w w') (hd : hi ≤ lo' ∨ hi' ≤ lo) : WkRows w' lo hi v xss := by
  obtain ⟨av, ⟨h0, ha⟩, hr, hlt⟩ := h
  exact ⟨av, ⟨h0, fun i a b => (ha i a b).only ho hd⟩, ownsRow_only hr fun g hg => ho.block g (hr.lt g hg).2 (by have := hr.lt g hg; have := hlt g hg; omega), hlt⟩
theorem WkRows.rd (h : WkRows w lo hi v xss) : RdRows w hi v xss := by
  obtain ⟨av, ⟨h0, ha⟩, hr, hlt⟩ := h
  have hcells := @World.ownsRow.cells w lo 33 1 v xss.length av hr
  obtain ⟨hlen, hr⟩ := hr
  rcases hr with ⟨rfl, e0⟩ | ⟨g, cap, cur, rfl, hb, hg, hn, hm, hs, ht⟩
  · have : xss = [] := List.eq_nil_of_length_eq_zero e0
    subst this
    exact ⟨none, 0, rfl, by simp, fun h => absurd h (by simp)⟩
  · refine ⟨_, cap, rfl, hn, fun _ => ⟨g, 0, rfl, hlt g rfl, fun k hk => ⟨av[k]'(by omega), ?_, (ha k hk (by omega)).rd⟩⟩⟩
    have := hcells (g := g) rfl k (av[k]'(by omega)) (by simp [show k < av.length by omega])
    rwa [Go.WideShapes.add_plain] at this
theorem OwnRows.below (h : OwnRows w lo hi v xss) (hb : Below B w w') (hB : hi ≤ B) : OwnRows w' lo hi v xss := by
  obtain ⟨av, h1, h2, h3⟩ := h
  exact ⟨av, h1.below hb hB, ownsRow_below h2 h3 hb hB, h3⟩
theorem OwnRows.mono (h : OwnRows w lo hi v xss) (h1 : lo' ≤ lo) (h2 : hi ≤ hi') : OwnRows w lo' hi' v xss := by
  obtain ⟨av, ha, hr, hlt⟩ := h
  exact ⟨av, ha.mono h1 h2, ownsRow_mono hr h1, fun g hg => by have := hlt g hg; omega⟩
theorem OwnRows.only (h : OwnRows w lo hi v xss) (ho : Only lo' hi' w w') (hd : hi ≤ lo' ∨ hi' ≤ lo) : OwnRows w' lo hi v xss := by
  obtain ⟨av, ha, hr, hlt⟩ := h
  exact ⟨av, ⟨ha.len, fun i a b => (ha.own i a b).only ho hd, ha.apart⟩, ownsRow_only hr fun g hg => ho.block g (hr.lt g hg).2 (by have := hr.lt g hg; have := hlt g hg; omega), hlt⟩
theorem OwnRows.rd (h : OwnRows w lo hi v xss) : RdRows w hi v xss := h.weak.rd
theorem OwnRows.form (h : OwnRows w lo hi v xss) : ∃ A c, v = .slice A xss.length c := h.weak.form
end

/-- The block of a row of integers is no block of a row of slices. -/
theorem rowsI_ne {w : World} {lo hi lo' g : Nat} {n : Nat} {v a : Value} {zs : List Value} {xs : List Int} (hr : w.ownsRow lo' 33 1 v n zs) (hv : v.ownBlock = some g) (ha : OwnInts w lo hi a xs) : a.ownBlock ≠ some g := by
  rcases hr.2 with ⟨rfl, _⟩ | ⟨g1, c1, cur1, rfl, _, h1, _⟩
  · cases hv
  · have e : g1 = g := by simpa [Value.ownBlock] using hv
    subst e
    exact blk_ne_row ha.1 (show Blk w g1 33 cur1 from h1) (by decide)

theorem WkRows.get {w : World} {lo hi c : Nat} {A : Option Addr} {xss : List (List Int)} (h : WkRows w lo hi (.slice A xss.length c) xss) {k : Nat} (hk : k < xss.length) :
    ∃ g A2 c2, A = some ⟨g, 0, none⟩ ∧ g < w.heap.size ∧ w.cell? ⟨g, k, none⟩ = some (.slice A2 xss[k].length c2) ∧ OwnInts w lo hi (.slice A2 xss[k].length c2) xss[k] := by
  obtain ⟨av, ⟨h0, ha⟩, hr, hlt⟩ := h
  have hcells := @World.ownsRow.cells w lo 33 1 _ xss.length av hr
  obtain ⟨hlen, hr2⟩ := hr
  rcases hr2 with ⟨e, e0⟩ | ⟨g, cap, cur, e, hb, hg, _⟩
  · omega
  · injection e with e1 _ _
    subst e1
    have h1 := ha k hk (by omega)
    obtain ⟨A2, c2, e2⟩ := h1.form
    have := hcells (g := g) rfl k (av[k]'(by omega)) (by simp [show k < av.length by omega])
    rw [Go.WideShapes.add_plain, Nat.zero_add, e2] at this
    exact ⟨g, A2, c2, rfl, Blk.lt hg, this, e2 ▸ h1⟩

/-- The relation of a loop that collects slices of integers: these lie from lo on, the row is new. -/
structure ColS (lo : Nat) (w wr : World) (xss : List (List Int)) (A : Option Addr) (c : Nat) (av : List Value) : Prop where
  below : Below w.heap.size w wr
  len : av.length = xss.length
  inn : ∀ i (h : i < xss.length) (h' : i < av.length), OwnInts wr lo wr.heap.size av[i] xss[i]
  row : wr.ownsRow w.heap.size 33 1 (.slice A xss.length c) xss.length av
theorem ColS.empty {lo : Nat} {w wr : World} (hb : Below w.heap.size w wr) : ColS lo w (wr.alloc (.cells #[] 33)) [] (some ⟨wr.heap.size, 0, none⟩) 0 [] :=
  ⟨hb.alloc hb.size _, rfl, fun i h => absurd h (by simp), World.ownsRow_made wr #[] 0 hb.size (by decide) rfl⟩
theorem ColS.on {lo : Nat} {w wr w2 : World} {xss : List (List Int)} {A : Option Addr} {c : Nat} {av : List Value} (h : ColS lo w wr xss A c av) (hb : Below wr.heap.size wr w2) : ColS lo w w2 xss A c av :=
  ⟨bthen h.below hb, h.len, fun i a b => ((h.inn i a b).below hb (Nat.le_refl _)).mono (Nat.le_refl _) hb.size, ownsRow_below h.row (fun g hg => (h.row.lt g hg).2) hb (Nat.le_refl _)⟩
theorem ColS.rows {lo : Nat} {w wr : World} {xss : List (List Int)} {A : Option Addr} {c : Nat} {av : List Value} (h : ColS lo w wr xss A c av) (hl : lo ≤ w.heap.size) : WkRows wr lo wr.heap.size (.slice A xss.length c) xss :=
  ⟨av, ⟨h.len, h.inn⟩, ownsRow_mono h.row hl, fun g hg => (h.row.lt g hg).2⟩
theorem ColS.push {lo : Nat} {w wr w2 w4 : World} {xss xss' : List (List Int)} {A : Option Addr} {c g cap : Nat} {xs : List Int} {u : Value} {o : Obj} {av : List Value} (h : ColS lo w wr xss A c av) (e : xss' = xss ++ [xs]) (hb : Below wr.heap.size wr w2) (hu : OwnInts w2 lo w2.heap.size u xs)
    (hg : (w2.alloc o).grownBy w4 (Value.slice A xss.length c).ownBlock) (hown : w4.ownsRow w.heap.size 33 1 (.slice (some ⟨g, 0, none⟩) (xss.length + 1) cap) (xss.length + 1) (av ++ [u])) :
    ColS lo w w4 xss' (some ⟨g, 0, none⟩) cap (av ++ [u]) ∧ xss.length + 1 = xss'.length := by
  subst e
  have h2 := h.on hb
  have hg' := grown_from_alloc hg
  have hl : (xss ++ [xs]).length = xss.length + 1 := by simp
  refine ⟨⟨(h2.below.alloc h2.below.size _).grown hg (by have := h2.below.size; simp; omega) (fun k hk => (h2.row.lt k hk).1), by simp [h.len], fun i h1 h3 => ?_, by rw [hl]; exact hown⟩, hl.symm⟩
  have keep : ∀ {a : Value} {ys : List Int}, OwnInts w2 lo w2.heap.size a ys → OwnInts w4 lo w4.heap.size a ys := fun {a ys} h0 =>
    (h0.kept fun b hbk => hg'.block b (h0.lt hbk).2.2 (fun e => rowsI_ne h2.row e.symm h0 hbk)).mono (Nat.le_refl _) hg'.size
  by_cases e : i < xss.length
  · rw [List.getElem_append_left (by rw [h.len]; exact e), List.getElem_append_left e]
    exact keep (h2.inn i e (by rw [h.len]; exact e))
  · have e2 : i = xss.length := by simp at h1; omega
    subst e2
    have := h.len
    simp [← this]
    exact keep hu

end Go.Proofs.YtofkcmihcgmmpaaGreat
/-
  The program's HeadOf.
-/
namespace Go.Proofs.YtofkcmihcgmmpaaGreat
open Go.RowKit

theorem areConstants_is {xs : List Int} {b : Bool} (e : xs.all constOk = b) (v : Value) (B : Nat) (w : World) (h : RdInts w B v xs) (hr : xs.length ≤ 1048576) :
    Calls Tryz.prog 38 #[v] w fun e w' => e = .returned (.bool b) ∧ w = w' := e ▸ areConstants_any v xs B w h hr

end Go.Proofs.YtofkcmihcgmmpaaGreat
/-
  Both Holds.
-/
namespace Go.Proofs.YtofkcmihcgmmpaaGreat
open Go.RowKit

/-- LitSame, LitLess: both have constants, and are the same, or the first is less. -/
def cmpB (k a b : Int) : Bool := (decide (0 ≤ a) && decide (0 ≤ b)) && (if k = 2 then decide (a = b) else decide (a < b))
def litHolds (fs : List LFact) (l : LLit) (bs : List Int) : Bool :=
  if l.1 = 2 ∨ l.1 = 3 then decide (l.2.2.length = 2) && cmpB l.1 (termVal bs (l.2.2.getD 0 0)) (termVal bs (l.2.2.getD 1 0))
  else (headOk l.2 bs && decide (0 ≤ l.1 ∧ l.1 ≤ 1)) && (factsHas fs (headOf l.2 bs) == decide (l.1 = 0))
def holdsB (fs : List LFact) (l : LLit) (bs : List Int) : Bool := (bindOk bs && l.2.2.all termOk) && litHolds fs l bs

theorem cmpB_neg {k a b : Int} (h : a < 0) : cmpB k a b = false := by unfold cmpB; rw [decide_eq_false (show ¬ 0 ≤ a by omega)]; rfl
theorem cmpB_neg2 {k a b : Int} (h : b < 0) : cmpB k a b = false := by unfold cmpB; rw [decide_eq_false (show ¬ 0 ≤ b by omega), Bool.and_false]; rfl
theorem cmpB_same {a b : Int} (h : 0 ≤ a) (h2 : 0 ≤ b) : cmpB 2 a b = decide (a = b) := by unfold cmpB; rw [decide_eq_true h, decide_eq_true h2]; simp
theorem cmpB_less {a b : Int} (h : 0 ≤ a) (h2 : 0 ≤ b) : cmpB 3 a b = decide (a < b) := by unfold cmpB; rw [decide_eq_true h, decide_eq_true h2]; simp

theorem comparison_any (k a b : Int) (hk : k = 2 ∨ k = 3) (w : World) :
    Calls Tryz.prog 147 #[.int .i64 k, .int .i64 a, .int .i64 b] w fun e w' => e = .returned (.bool (cmpB k a b)) ∧ w = w' := by
  by_cases h1 : a < 0
  · have HE := Lib.hid (cmpB_neg (k := k) (b := b) h1)
    go_enter Tryz.func147, Tryz.ntmps147
    go_wp2_with (fail)
    go_ret
    exact ⟨ret_bool HE.out.symm, rfl⟩
  · have hd1 : decide (a < 0) = false := by simpa using h1
    by_cases h2 : b < 0
    · have HE := Lib.hid (cmpB_neg2 (k := k) (a := a) h2)
      go_enter Tryz.func147, Tryz.ntmps147
      go_wp2_with (fail)
      go_ret
      exact ⟨ret_bool HE.out.symm, rfl⟩
    · have hd2 : decide (b < 0) = false := by simpa using h2
      rcases hk with rfl | rfl
      · by_cases h3 : a = b
        · have HE := Lib.hid (show cmpB 2 a b = true by rw [cmpB_same (by omega) (by omega)]; exact decide_eq_true h3)
          have hd3 : (a == b) = true := by simpa using h3
          clear h3
          go_enter Tryz.func147, Tryz.ntmps147
          go_wp2_with (fail)
          go_ret
          exact ⟨ret_bool HE.out.symm, rfl⟩
        · have HE := Lib.hid (show cmpB 2 a b = false by rw [cmpB_same (by omega) (by omega)]; exact decide_eq_false h3)
          have hd3 : (a == b) = false := by simpa using h3
          clear h3
          go_enter Tryz.func147, Tryz.ntmps147
          go_wp2_with (fail)
          go_ret
          exact ⟨ret_bool HE.out.symm, rfl⟩
      · by_cases h3 : a < b
        · have HE := Lib.hid (show cmpB 3 a b = true by rw [cmpB_less (by omega) (by omega)]; exact decide_eq_true h3)
          go_enter Tryz.func147, Tryz.ntmps147
          go_wp2_with (fail)
          go_ret
          exact ⟨ret_bool HE.out.symm, rfl⟩
        · have HE := Lib.hid (show cmpB 3 a b = false by rw [cmpB_less (by omega) (by omega)]; exact decide_eq_false h3)
          have hd3 : decide (a < b) = false := by simpa using h3
          go_enter Tryz.func147, Tryz.ntmps147
          go_wp2_with (fail)
          go_ret
          exact ⟨ret_bool HE.out.symm, rfl⟩

/-- Two values, and what a comparison of them answers. -/
theorem cmpB_cases (k a b : Int) (hk : k = 2 ∨ k = 3) : (a < 0 ∧ cmpB k a b = false) ∨ (0 ≤ a ∧ b < 0 ∧ cmpB k a b = false) ∨ (0 ≤ a ∧ 0 ≤ b ∧ cmpB k a b = (if k = 2 then a == b else decide (a < b))) := by
  rcases Int.lt_or_le a 0 with h | h
  · exact .inl ⟨h, cmpB_neg h⟩
  · rcases Int.lt_or_le b 0 with h2 | h2
    · exact .inr (.inl ⟨h, h2, cmpB_neg2 h2⟩)
    · refine .inr (.inr ⟨h, h2, ?_⟩)
      rcases hk with rfl | rfl
      · rw [cmpB_same h h2]
        rfl
      · rw [cmpB_less h h2]
        rfl

set_option maxHeartbeats 2000000 in
set_option maxRecDepth 100000 in
theorem l3HoldsCmp_any (v v3 : Value) (l : LLit) (bs : List Int) (v0 : Value) (w : World) (hkd : l.1 = 2 ∨ l.1 = 3) (h2 : RdLit w w.heap.size v l) (h3 : RdInts w w.heap.size v3 bs) (hb : bs.length = 4) (ht : l.2.2.all termOk = true) :
    Calls Tryz.prog 110 #[v0, v, v3] w fun e w' => e = .returned (.bool (decide (l.2.2.length = 2) && cmpB l.1 (termVal bs (l.2.2.getD 0 0)) (termVal bs (l.2.2.getD 1 0)))) ∧ Below w.heap.size w w' := by
  obtain ⟨kd, p, xs⟩ := l
  obtain ⟨u, rfl, A, c, rfl, hc, hx⟩ := h2
  simp only at hkd hx hc ht
  have H3 := Lib.hid h3
  obtain ⟨A3, c3, rfl, hc3, _⟩ := h3
  have HB := Lib.hid hb
  clear hb
  have y0 := Blk.new w 38 #[.int .i64 kd, .int .i64 p, .slice A xs.length c]
  by_cases hl : xs.length = 2
  · obtain ⟨s, t, rfl⟩ : ∃ s t, xs = [s, t] := by
      match xs, hl with
      | [s, t], _ => exact ⟨s, t, rfl⟩
    obtain ⟨b, o, rfl, hbB, hx⟩ := hx (by simp)
    have hs := List.all_eq_true.1 ht s (by simp)
    have htt := List.all_eq_true.1 ht t (by simp)
    have c0 : ∀ O, (w.alloc O).cell? ⟨b, o, none⟩ = some (.int .i64 s) := fun O => (World.cell?_alloc_lt w O ⟨b, o, none⟩ hbB).trans (hx 0 (by simp))
    have c1 : ∀ O, (w.alloc O).cell? ⟨b, o + 1, none⟩ = some (.int .i64 t) := fun O => (World.cell?_alloc_lt w O ⟨b, o + 1, none⟩ hbB).trans (hx 1 (by simp))
    have T1 := Lib.hid (fun O => l3Term_any (.slice A3 bs.length c3) bs s _ (w.alloc O) (H3.out.on (below1 w O)) HB.out hs)
    have T2 := Lib.hid (fun O => l3Term_any (.slice A3 bs.length c3) bs t _ (w.alloc O) (H3.out.on (below1 w O)) HB.out htt)
    obtain ⟨R, hR⟩ : ∃ R, R = cmpB kd (termVal bs s) (termVal bs t) := ⟨_, rfl⟩
    have HR := Lib.hid hR
    have HX := Lib.hid (cmpB_cases kd (termVal bs s) (termVal bs t) hkd)
    rw [← hR] at HX
    obtain ⟨av, hav⟩ : ∃ av, av = termVal bs s := ⟨_, rfl⟩
    obtain ⟨bv, hbv⟩ : ∃ bv, bv = termVal bs t := ⟨_, rfl⟩
    rw [← hav] at T1 HX
    rw [← hbv] at T2 HX
    have HG := Lib.hid (show (decide ([s, t].length = 2) && cmpB kd (termVal bs ([s, t].getD 0 0)) (termVal bs ([s, t].getD 1 0))) = R by rw [hR]; rfl)
    show Calls _ _ _ _ fun e w' => e = .returned (.bool (decide ([s, t].length = 2) && cmpB kd (termVal bs ([s, t].getD 0 0)) (termVal bs ([s, t].getD 1 0)))) ∧ _
    rw [HG.out]
    clear hR hav hbv hs htt ht hx hl HR
    have q0 := y0.cell 0
    have q1 := y0.cell 1
    have q2 := y0.cell 2
    simp only [List.length_cons, List.length_nil] at q2
    rcases hkd with rfl | rfl
    · rcases HX.out with ⟨h1, e⟩ | ⟨h1, h2, e⟩ | ⟨h1, h2, e⟩
      · have hd1 : decide (0 ≤ av) = false := by simp; omega
        have HE := Lib.hid e
        clear e
        go_enter Tryz.func110, Tryz.ntmps110
        go_wp2_with (fail)
        refine (T1.out _).mono ?_
        rintro e w' ⟨rfl, rfl⟩
        go_wp2_with (fail)
        refine (T2.out _).mono ?_
        rintro e w' ⟨rfl, rfl⟩
        go_wp2_with (fail)
        go_ret
        exact ⟨ret_bool HE.out.symm, below1 _ _⟩
      · have hd2 : decide (0 ≤ bv) = false := by simp; omega
        have HE := Lib.hid e
        clear e
        go_enter Tryz.func110, Tryz.ntmps110
        go_wp2_with (fail)
        refine (T1.out _).mono ?_
        rintro e w' ⟨rfl, rfl⟩
        go_wp2_with (fail)
        refine (T2.out _).mono ?_
        rintro e w' ⟨rfl, rfl⟩
        go_wp2_with (fail)
        go_ret
        exact ⟨ret_bool HE.out.symm, below1 _ _⟩
      · have e' : R = (av == bv) := e
        clear e
        by_cases h3 : av = bv
        · have hd3 : (av == bv) = true := by simpa using h3
          have HE := Lib.hid (show R = true by rw [e', hd3])
          clear e' h3
          go_enter Tryz.func110, Tryz.ntmps110
          go_wp2_with (fail)
          refine (T1.out _).mono ?_
          rintro e w' ⟨rfl, rfl⟩
          go_wp2_with (fail)
          refine (T2.out _).mono ?_
          rintro e w' ⟨rfl, rfl⟩
          go_wp2_with (fail)
          go_ret
          exact ⟨ret_bool HE.out.symm, below1 _ _⟩
        · have hd3 : (av == bv) = false := by simpa using h3
          have HE := Lib.hid (show R = false by rw [e', hd3])
          clear e' h3
          go_enter Tryz.func110, Tryz.ntmps110
          go_wp2_with (fail)
          refine (T1.out _).mono ?_
          rintro e w' ⟨rfl, rfl⟩
          go_wp2_with (fail)
          refine (T2.out _).mono ?_
          rintro e w' ⟨rfl, rfl⟩
          go_wp2_with (fail)
          go_ret
          exact ⟨ret_bool HE.out.symm, below1 _ _⟩
    · rcases HX.out with ⟨h1, e⟩ | ⟨h1, h2, e⟩ | ⟨h1, h2, e⟩
      · have hd1 : decide (0 ≤ av) = false := by simp; omega
        have HE := Lib.hid e
        clear e
        go_enter Tryz.func110, Tryz.ntmps110
        go_wp2_with (fail)
        refine (T1.out _).mono ?_
        rintro e w' ⟨rfl, rfl⟩
        go_wp2_with (fail)
        refine (T2.out _).mono ?_
        rintro e w' ⟨rfl, rfl⟩
        go_wp2_with (fail)
        go_ret
        exact ⟨ret_bool HE.out.symm, below1 _ _⟩
      · have hd2 : decide (0 ≤ bv) = false := by simp; omega
        have HE := Lib.hid e
        clear e
        go_enter Tryz.func110, Tryz.ntmps110
        go_wp2_with (fail)
        refine (T1.out _).mono ?_
        rintro e w' ⟨rfl, rfl⟩
        go_wp2_with (fail)
        refine (T2.out _).mono ?_
        rintro e w' ⟨rfl, rfl⟩
        go_wp2_with (fail)
        go_ret
        exact ⟨ret_bool HE.out.symm, below1 _ _⟩
      · have e' : R = decide (av < bv) := e
        clear e
        by_cases h3 : av < bv
        · have HE := Lib.hid (show R = true by rw [e']; exact decide_eq_true h3)
          clear e'
          go_enter Tryz.func110, Tryz.ntmps110
          go_wp2_with (fail)
          refine (T1.out _).mono ?_
          rintro e w' ⟨rfl, rfl⟩
          go_wp2_with (fail)
          refine (T2.out _).mono ?_
          rintro e w' ⟨rfl, rfl⟩
          go_wp2_with (fail)
          go_ret
          exact ⟨ret_bool HE.out.symm, below1 _ _⟩
        · have hd3 : decide (av < bv) = false := by simpa using h3
          have HE := Lib.hid (show R = false by rw [e', hd3])
          clear e'
          go_enter Tryz.func110, Tryz.ntmps110
          go_wp2_with (fail)
          refine (T1.out _).mono ?_
          rintro e w' ⟨rfl, rfl⟩
          go_wp2_with (fail)
          refine (T2.out _).mono ?_
          rintro e w' ⟨rfl, rfl⟩
          go_wp2_with (fail)
          go_ret
          exact ⟨ret_bool HE.out.symm, below1 _ _⟩
  · have hl1 : ((xs.length : Int) != 2) = true := by simp; omega
    have HG := Lib.hid (show (decide (xs.length = 2) && cmpB kd (termVal bs (xs.getD 0 0)) (termVal bs (xs.getD 1 0))) = false by rw [decide_eq_false hl]; rfl)
    show Calls _ _ _ _ fun e w' => e = .returned (.bool (decide (xs.length = 2) && cmpB kd (termVal bs (xs.getD 0 0)) (termVal bs (xs.getD 1 0)))) ∧ _
    rw [HG.out]
    clear hx hl
    have q0 := y0.cell 0
    have q2 := y0.cell 2
    rcases hkd with rfl | rfl
    all_goals
      go_enter Tryz.func110, Tryz.ntmps110
      go_wp2_with (fail)
      go_ret
      exact ⟨rfl, below1 _ _⟩

end Go.Proofs.YtofkcmihcgmmpaaGreat
/-
  Both Holds: literals that an atom holds, or does not.
-/
namespace Go.Proofs.YtofkcmihcgmmpaaGreat
open Go.RowKit

theorem l1In_is {n lo hi : Int} {b : Bool} (h : decide (lo ≤ n ∧ n ≤ hi) = b) (w : World) : Calls Tryz.prog 28 #[.int .i64 n, .int .i64 lo, .int .i64 hi] w fun e w' => e = .returned (.bool b) ∧ w = w' := h ▸ l1In_any n lo hi w

set_option maxHeartbeats 2000000 in
set_option maxRecDepth 100000 in
theorem l3HoldsAsk_any (v0 v v3 : Value) (fs : List LFact) (l : LLit) (bs : List Int) (w : World) (hkd : ¬ (l.1 = 2 ∨ l.1 = 3)) (h1 : RdFacts w w.heap.size v0 fs) (h2 : RdLit w w.heap.size v l) (h3 : RdInts w w.heap.size v3 bs)
    (hn : fs.length ≤ 1048576) (htt : tot fs ≤ 1048576) (hr : l.2.2.length ≤ 1048576) (hr2 : bs.length ≤ 1048576) :
    Calls Tryz.prog 110 #[v0, v, v3] w fun e w' => e = .returned (.bool ((headOk l.2 bs && decide (0 ≤ l.1 ∧ l.1 ≤ 1)) && (factsHas fs (headOf l.2 bs) == decide (l.1 = 0)))) ∧ Below w.heap.size w w' := by
  obtain ⟨kd, a⟩ := l
  obtain ⟨u, rfl, h2⟩ := h2
  have H1 := Lib.hid h1
  have H2 := Lib.hid h2
  have H3 := Lib.hid h3
  obtain ⟨A1, c1, rfl, hc1, _⟩ := h1
  obtain ⟨A, c, rfl, hc, _⟩ := h2
  obtain ⟨A3, c3, rfl, hc3, _⟩ := h3
  simp only at hkd hc hr
  obtain ⟨F, hF⟩ : ∃ F, F = headOf a bs := ⟨_, rfl⟩
  obtain ⟨ok, hok⟩ : ∃ ok, ok = headOk a bs := ⟨_, rfl⟩
  obtain ⟨hs, hhs⟩ : ∃ hs, hs = factsHas fs F := ⟨_, rfl⟩
  obtain ⟨R, hR⟩ : ∃ R, R = ((ok && decide (0 ≤ kd ∧ kd ≤ 1)) && (hs == decide (kd = 0))) := ⟨_, rfl⟩
  show Calls _ _ _ _ fun e w' => e = .returned (.bool ((headOk a bs && decide (0 ≤ kd ∧ kd ≤ 1)) && (factsHas fs (headOf a bs) == decide (kd = 0)))) ∧ _
  rw [← hF, ← hok, ← hhs, ← hR]
  have HR := Lib.hid hR
  have HF := Lib.hid (And.intro hF hok)
  have HFL := Lib.hid (show F.2.length ≤ 1048576 by have := headOf_length a bs; rw [hF]; omega)
  have HH := Lib.hid hhs
  clear hR hF hok hhs
  have k2 : (kd == 2) = false := by have h : kd ≠ 2 := fun e => hkd (.inl e); simpa using h
  have k3 : (kd == 3) = false := by have h : kd ≠ 3 := fun e => hkd (.inr e); simpa using h
  have y0 := Blk.new w 38 #[.int .i64 kd, .int .i64 a.1, .slice A a.2.length c]
  have q0 := y0.cell 0
  have q1 := y0.cell 1
  have q2 := y0.cell 2
  go_enter Tryz.func110, Tryz.ntmps110
  go_wp2_with (fail)
  obtain ⟨w1, hw1⟩ : ∃ w1, w1 = w.alloc (Obj.cells #[Value.int IntKind.i64 kd, Value.int IntKind.i64 a.1, Value.slice A a.2.length c] 38) := ⟨_, rfl⟩
  have B1 : Below w.heap.size w w1 := by rw [hw1]; exact below1 _ _
  rw [← hw1] at y0 ⊢
  clear hw1 q0 q1 q2
  refine (specHeadOf_any _ _ a bs _ ⟨_, rfl, H2.out.on B1⟩ (H3.out.on B1) hr hr2).mono ?_
  rw [← HF.out.1, ← HF.out.2]
  rintro e w2 ⟨A', c', rfl, ho, hb2⟩
  have B2 := bthen B1 hb2
  have y2 := y0.below hb2 y0.lt
  have HO := Lib.hid ho
  clear ho y0
  go_wp2_with (fail)
  obtain ⟨w3, hw3⟩ : ∃ w3, w3 = w2.alloc (Obj.cells #[Value.int IntKind.i64 F.1, Value.slice A' F.2.length c'] 35) := ⟨_, rfl⟩
  have B23 : Below w2.heap.size w2 w3 := by rw [hw3]; exact below1 _ _
  have f3 : Blk w3 w2.heap.size 35 #[.int .i64 F.1, .slice A' F.2.length c'] := by rw [hw3]; exact Blk.new _ _ _
  rw [← hw3]
  clear hw3
  have y3 := y2.below B23 y2.lt
  have B3 := bthen B2 B23
  have RF := Lib.hid (show RdFact w3 w3.heap.size (.agg #[.int .i64 F.1, .slice A' F.2.length c']) F from ⟨_, rfl, HO.out.rd.on B23⟩)
  have L0 := later_cell (y3.cell 0 : w3.cell? ⟨w.heap.size, 0, none⟩ = some (.int .i64 kd))
  have L1 := later_cell (f3.cell 0 : w3.cell? ⟨w2.heap.size, 0, none⟩ = some (.int .i64 F.1))
  have L2 := later_cell (f3.cell 1 : w3.cell? ⟨w2.heap.size, 1, none⟩ = some (.slice A' F.2.length c'))
  have CF := Lib.hid (fun x : Later w3 => (specFactsHas_any _ _ fs F x.val ((H1.out.on B3).on x.2) (RF.out.on x.2) hn htt HFL.out))
  rw [← HH.out] at CF
  clear y2 y3 f3
  cases ok
  · have HE := Lib.hid (show R = false by rw [HR.out]; rfl)
    refine wp_region_later (by kernel_rfl) (by kernel_rfl) ?_
    repeat (go_big_quiet_step (fail))
    refine wpQuiet_nil ?_
    rintro _ ⟨xq, rfl⟩
    go_wp2_with (fail)
    go_ret
    exact ⟨ret_bool HE.out.symm, bthen B3 xq.2⟩
  · by_cases hin : 0 ≤ kd ∧ kd ≤ 1
    · have CI := Lib.hid (fun W => l1In_yes hin W)
      have HD := Lib.hid (show R = (hs == decide (kd = 0)) by rw [HR.out, decide_eq_true hin]; rfl)
      by_cases h0 : kd = 0
      · have k0 : (kd == 0) = true := by simpa using h0
        have HE := Lib.hid (show R = (hs == true) by rw [HD.out, decide_eq_true h0])
        clear h0 hin
        cases hs
        all_goals
          refine wp_region_later (by kernel_rfl) (by kernel_rfl) ?_
          repeat (go_big_quiet_step (first | (go_at_call 28; exact later_same (CI.out _)) | (go_at_call 87; exact later_of (CF.out _))))
          refine wpQuiet_nil ?_
          rintro _ ⟨xq, rfl⟩
          go_wp2_with (fail)
          go_ret
          exact ⟨ret_bool (by rw [HE.out]; rfl), bthen B3 xq.2⟩
      · have k0 : (kd == 0) = false := by simpa using h0
        have HE := Lib.hid (show R = (hs == false) by rw [HD.out, decide_eq_false h0])
        clear h0 hin
        cases hs
        all_goals
          refine wp_region_later (by kernel_rfl) (by kernel_rfl) ?_
          repeat (go_big_quiet_step (first | (go_at_call 28; exact later_same (CI.out _)) | (go_at_call 87; exact later_of (CF.out _))))
          refine wpQuiet_nil ?_
          rintro _ ⟨xq, rfl⟩
          go_wp2_with (fail)
          go_ret
          exact ⟨ret_bool (by rw [HE.out]; rfl), bthen B3 xq.2⟩
    · have CI := Lib.hid (fun W => l1In_no hin W)
      have HE := Lib.hid (show R = false by rw [HR.out, decide_eq_false hin]; rfl)
      clear hin
      refine wp_region_later (by kernel_rfl) (by kernel_rfl) ?_
      repeat (go_big_quiet_step (first | (go_at_call 28; exact later_same (CI.out _))))
      refine wpQuiet_nil ?_
      rintro _ ⟨xq, rfl⟩
      go_wp2_with (fail)
      go_ret
      exact ⟨ret_bool HE.out.symm, bthen B3 xq.2⟩

theorem l3Holds_any (v0 v v3 : Value) (fs : List LFact) (l : LLit) (bs : List Int) (w : World) (h1 : RdFacts w w.heap.size v0 fs) (h2 : RdLit w w.heap.size v l) (h3 : RdInts w w.heap.size v3 bs)
    (hb : bs.length = 4) (ht : l.2.2.all termOk = true) (hn : fs.length ≤ 1048576) (htt : tot fs ≤ 1048576) (hr : l.2.2.length ≤ 1048576) :
    Calls Tryz.prog 110 #[v0, v, v3] w fun e w' => e = .returned (.bool (litHolds fs l bs)) ∧ Below w.heap.size w w' := by
  by_cases h : l.1 = 2 ∨ l.1 = 3
  · have := l3HoldsCmp_any v v3 l bs v0 w h h2 h3 hb ht
    unfold litHolds
    rw [if_pos h]
    exact this
  · have := l3HoldsAsk_any v0 v v3 fs l bs w h h1 h2 h3 hn htt hr (by omega)
    unfold litHolds
    rw [if_neg h]
    exact this

end Go.Proofs.YtofkcmihcgmmpaaGreat
/-
  The specification's l3Row, l3None, l3Try.
-/
namespace Go.Proofs.YtofkcmihcgmmpaaGreat
open Go.RowKit

set_option maxHeartbeats 1000000 in
set_option maxRecDepth 100000 in
theorem l3Row_any (v v2 : Value) (xs ys : List Int) (w : World) (h : RdInts w w.heap.size v xs) (h2 : RdInts w w.heap.size v2 ys) (hn : xs.length ≤ 1048576) (hn2 : ys.length ≤ 1048576) :
    Calls Tryz.prog 111 #[v, v2] w fun e w' => e = .returned (.int .i64 (cmpL xs ys)) ∧ Below w.heap.size w w' := by
  obtain ⟨A, c, rfl, hc, ha⟩ := h
  obtain ⟨A2, c2, rfl, hc2, hb⟩ := h2
  go_enter Tryz.func111, Tryz.ntmps111
  go_wp2_with (fail)
  go_loopw [5] (fun i wr => ∃ k : Nat, k ≤ xs.length ∧ k ≤ ys.length ∧ i = .int .i64 k ∧ CmpTo xs ys k ∧ Below w.heap.size w wr) (fun i _ => xs.length - (intOf i).toNat)
  case atStart => exact ⟨0, Nat.zero_le _, Nat.zero_le _, rfl, rfl, Below.refl _ _⟩
  case round =>
    obtain ⟨k, hk, hk2, rfl, hs, hbe⟩ := hrel
    by_cases hlt : k < xs.length
    · have hd : decide ((k : Int) < (xs.length : Int)) = true := by simp; omega
      by_cases hlt2 : k < ys.length
      · obtain ⟨b, o, rfl, hbB, hx⟩ := ha (by omega)
        obtain ⟨b2, o2, rfl, hbB2, hx2⟩ := hb (by omega)
        have hck : wr.cell? ⟨b, o + k, none⟩ = some (.int .i64 xs[k]) := (hbe.cell (p := ⟨b, o + k, none⟩) hbB).trans (hx k hlt)
        have hck2 : wr.cell? ⟨b2, o2 + k, none⟩ = some (.int .i64 ys[k]) := (hbe.cell (p := ⟨b2, o2 + k, none⟩) hbB2).trans (hx2 k hlt2)
        clear hx hx2 ha hb
        by_cases he : xs[k] = ys[k]
        · have HS := Lib.hid (show CmpTo xs ys (k + 1) by unfold CmpTo at hs ⊢; rw [hs, cmpL_at hlt hlt2, if_pos he])
          have h0 : (xs[k] != ys[k]) = false := by simp [he]
          clear he hs
          go_wp2_with (fail)
          go_quiet (fail)
          go_wp2_with (fail)
          go_roundw
          case rel => exact ⟨k + 1, by omega, by omega, by go_num, HS.out, bdrewN hbe _⟩
          case measure => simp [intOf]; omega
        · have HS := Lib.hid (show cmpL xs ys = cmpI xs[k] ys[k] by unfold CmpTo at hs; rw [hs, cmpL_at hlt hlt2, if_neg he])
          have h0 : (xs[k] != ys[k]) = true := by simp [he]
          clear he hs
          go_wp2_with (fail)
          go_quiet (fail)
          go_wp2_with (fail)
          go_quiet ((go_at_call 125; exact quiet_add_left (l1Way_any _ _ _)))
          go_wp2_with (fail)
          go_ret
          exact ⟨ret_int HS.out.symm, bdrewN (bdrewN hbe _) _⟩
      · have HS := Lib.hid (show cmpL xs ys = cmpI xs.length ys.length by
          unfold CmpTo at hs
          rw [hs, cmpL_long hlt (by omega), cmpI, if_neg (by omega), if_pos (by omega)])
        clear hs ha hb
        go_wp2_with (go_at_call 125; refine (l1Way_any _ _ _).mono ?_; rintro e w' ⟨rfl, rfl⟩)
        go_ret
        exact ⟨ret_int HS.out.symm, hbe⟩
    · have hd : decide ((k : Int) < (xs.length : Int)) = false := by simp; omega
      have HS := Lib.hid (show cmpL xs ys = cmpI xs.length ys.length by
        unfold CmpTo at hs
        by_cases h3 : xs.length < ys.length
        · rw [hs, cmpL_short (by omega) (by omega), cmpI, if_pos (by omega)]
        · rw [hs, cmpL_end (by omega) (by omega), cmpI, if_neg (by omega), if_neg (by omega)])
      clear hs ha hb
      go_wp2_with (go_at_call 125; refine (l1Way_any _ _ _).mono ?_; rintro e w' ⟨rfl, rfl⟩)
      go_ret
      exact ⟨ret_int HS.out.symm, hbe⟩

set_option maxHeartbeats 1000000 in
set_option maxRecDepth 100000 in
theorem l3None_any (w : World) :
    Calls Tryz.prog 82 #[] w fun e w' => ∃ A' c', e = .returned (.slice A' 4 c') ∧ OwnInts w' w.heap.size w'.heap.size (.slice A' 4 c') noneB ∧ Below w.heap.size w w' := by
  obtain ⟨i0, hi0, hz0, hz1, hz2⟩ := info_parts Tryz.infoInt
  have C0 := Lib.hid (ColI.empty (Below.refl w.heap.size w))
  go_enter Tryz.func82, Tryz.ntmps82
  go_wp2_with (fail)
  go_loopw [1, 2] (fun o i wr => ∃ (k : Nat) (A' : Option Addr) (c' : Nat), k ≤ 4 ∧ i = .int .i64 k ∧ o = .slice A' (List.replicate k (-1 : Int)).length c' ∧ ColI w wr (List.replicate k (-1)) A' c') (fun _ i _ => 4 - (intOf i).toNat)
  case atStart => exact ⟨0, _, 0, Nat.zero_le _, rfl, rfl, C0.out⟩
  case round =>
    obtain ⟨k, A', c', hk, rfl, rfl, hr'⟩ := hrel
    by_cases hlt : k < 4
    · have HS := Lib.hid (show List.replicate (k + 1) (-1 : Int) = List.replicate k (-1) ++ [-1] from List.replicate_succ')
      have HP := Lib.hid hr'
      clear hr'
      obtain ⟨zs, hzs⟩ : ∃ zs, zs = List.replicate k (-1 : Int) := ⟨_, rfl⟩
      have hln : zs.length ≤ 4 := by rw [hzs]; simp; omega
      have HZ := Lib.hid hzs
      rw [← hzs] at HP ⊢
      clear hzs
      go_wp2_with (at_builtin; refine wpList_append_lies _ rfl (.tmp 8) (.tmp 9) 33 rfl w.heap.size 3 i0 (.int .i64 0) 1 8 Tryz.underlying33 hi0 hz0 hz1 hz2 rfl (by decide) (.slice A' zs.length c') zs.length (zs.map (Value.int .i64)) rfl ?c1 ⟨_, 0, none⟩ 1 1 [.int .i64 (-1)] rfl rfl (news1s _ _ _ _ (by simp)) ?c2 (by omega) (by unfold maxLen; omega) (by omega) ?c3 _ rfl ?_)
      case c1 => exact HP.out.own.1.alloc _
      case c2 => first | rfl | (intro u hu; simp at hu; subst hu; rfl)
      case c3 => have := HP.out.below.size; simp; omega
      intro g cap w4 hown hg _ _
      have hcol := HP.out.push (Below.refl _ _) hg hown
      rw [HZ.out, ← HS.out] at hcol
      have hlen : zs.length + 1 = (List.replicate (k + 1) (-1 : Int)).length := by rw [HZ.out]; simp
      rw [hlen]
      have HC := Lib.hid hcol
      clear hcol hlen hown hg
      go_wp2_with (fail)
      go_roundw
      case rel => exact ⟨k + 1, _, _, by omega, by go_num, rfl, HC.out⟩
      case measure => simp [intOf]; omega
    · have hkn : k = 4 := by omega
      subst hkn
      have HP := Lib.hid hr'
      clear hr'
      go_wp2_with (fail)
      go_ret
      exact ⟨_, _, rfl, HP.out.own, HP.out.below⟩

set_option maxHeartbeats 1000000 in
set_option maxRecDepth 100000 in
theorem l3Try_any (v0 v v3 : Value) (fs : List LFact) (ls : List LLit) (bs : List Int) (R : Bool) (hR : R = ls.all fun l => litHolds fs l bs) (w : World) (h1 : RdFacts w w.heap.size v0 fs) (h2 : RdLits w w.heap.size v ls) (h3 : RdInts w w.heap.size v3 bs)
    (hb : bs.length = 4) (ht : ∀ l ∈ ls, l.2.2.all termOk = true) (hn : fs.length ≤ 1048576) (htt : tot fs ≤ 1048576) (hl : ls.length ≤ 1048576) (hr : totL ls ≤ 1048576) :
    Calls Tryz.prog 84 #[v0, v, v3] w fun e w' => e = .returned (.bool R) ∧ Below w.heap.size w w' := by
  have H1 := Lib.hid h1
  have H2 := Lib.hid h2
  have H3 := Lib.hid h3
  have HT := Lib.hid ht
  have HB := Lib.hid hb
  have HR := Lib.hid hR
  obtain ⟨A1, c1, rfl, hc1, _⟩ := h1
  obtain ⟨A, c, rfl, hc, _⟩ := h2
  obtain ⟨A3, c3, rfl, hc3, _⟩ := h3
  clear hR ht hb
  go_enter Tryz.func84, Tryz.ntmps84
  go_wp2_with (fail)
  go_loopw [7] (fun i wr => ∃ k : Nat, k ≤ ls.length ∧ i = .int .i64 k ∧ (∀ j (h : j < ls.length), j < k → litHolds fs ls[j] bs = true) ∧ Below w.heap.size w wr) (fun i _ => ls.length - (intOf i).toNat)
  case atStart => exact ⟨0, Nat.zero_le _, rfl, fun j _ h => absurd h (by omega), Below.refl _ _⟩
  case round =>
    obtain ⟨k, hk, rfl, hs, hbe⟩ := hrel
    by_cases hlt : k < ls.length
    · obtain ⟨b, o, u0, u1, u2, rfl, hbB, k0, k1, k2, rfl, rfl, p3⟩ := (H2.out.on hbe).get hlt
      have hln := len_le_totL ls k hlt
      have hlen : ls[k].2.2.length ≤ 1048576 := by omega
      have htk := HT.out _ (List.getElem_mem hlt)
      have hRL : RdLit wr wr.heap.size (.agg #[.int .i64 ls[k].1, .int .i64 ls[k].2.1, u2]) ls[k] := ⟨_, rfl, p3⟩
      obtain ⟨A4, c4, rfl, hc4, _⟩ := p3
      have CH := Lib.hid (l3Holds_any _ _ _ fs ls[k] bs wr (H1.out.on hbe) hRL (H3.out.on hbe) HB.out htk hn htt hlen)
      have HS := Lib.hid hs
      have HBE := Lib.hid hbe
      clear hRL hs hbe htk
      cases hh : litHolds fs ls[k] bs
      · rw [hh] at CH
        have HE := Lib.hid (show R = false by
          rw [HR.out, List.all_eq_false]
          exact ⟨ls[k], List.getElem_mem hlt, by rw [hh]; simp⟩)
        go_wp2_with (go_at_call 110; refine CH.out.mono ?_; rintro e w2 ⟨rfl, hb2⟩; have HB2 := Lib.hid hb2; clear hb2)
        go_ret
        exact ⟨ret_bool HE.out.symm, bthen HBE.out HB2.out⟩
      · rw [hh] at CH
        have HH := Lib.hid hh
        clear hh
        go_wp2_with (go_at_call 110; refine CH.out.mono ?_; rintro e w2 ⟨rfl, hb2⟩; have HB2 := Lib.hid hb2; clear hb2)
        go_roundw
        case rel => exact ⟨k + 1, by omega, by go_num, fun j h hj => by
          by_cases e : j = k
          · subst e; exact HH.out
          · exact HS.out j h (by omega), bthen HBE.out HB2.out⟩
        case measure => simp [intOf]; omega
    · have HE := Lib.hid (show R = true by
        rw [HR.out, List.all_eq_true]
        intro l hl
        obtain ⟨j, hj, rfl⟩ := List.getElem_of_mem hl
        exact hs j hj (by omega))
      have HBE := Lib.hid hbe
      clear hs hbe
      go_wp2_with (fail)
      go_ret
      exact ⟨ret_bool HE.out.symm, HBE.out⟩

end Go.Proofs.YtofkcmihcgmmpaaGreat
/-
  Words of what variables have: cutting them to some variables, laying them over one another; bindingMask.
-/
namespace Go.Proofs.YtofkcmihcgmmpaaGreat
open Go.RowKit

theorem nib_or {x y a b : Nat} (ha : a < 16) (hb : b < 16) : (x * 16 + a) ||| (y * 16 + b) = (x ||| y) * 16 + (a ||| b) := by
  apply Nat.eq_of_testBit_eq
  intro i
  have h := fun (p q : Nat) (hq : q < 16) => Nat.testBit_two_pow_mul_add p (i := 4) (b := q) (by omega) i
  rw [Nat.testBit_or, Nat.mul_comm x, Nat.mul_comm y, Nat.mul_comm (x ||| y)]
  rw [show (16 : Nat) = 2 ^ 4 from rfl, h x a ha, h y b hb, h (x ||| y) (a ||| b) (Nat.or_lt_two_pow (n := 4) ha hb), Nat.testBit_or, Nat.testBit_or]
  split <;> rfl
theorem nib_and {x y a b : Nat} (ha : a < 16) (hb : b < 16) : (x * 16 + a) &&& (y * 16 + b) = (x &&& y) * 16 + (a &&& b) := by
  apply Nat.eq_of_testBit_eq
  intro i
  have h := fun (p q : Nat) (hq : q < 16) => Nat.testBit_two_pow_mul_add p (i := 4) (b := q) (by omega) i
  rw [Nat.testBit_and, Nat.mul_comm x, Nat.mul_comm y, Nat.mul_comm (x &&& y)]
  rw [show (16 : Nat) = 2 ^ 4 from rfl, h x a ha, h y b hb, h (x &&& y) (a &&& b) (Nat.and_lt_two_pow (n := 4) a hb), Nat.testBit_and, Nat.testBit_and]
  split <;> rfl

/-- What some variables have, the others nothing. -/
def restr (V : Nat) (b : List Int) : List Int := [if V.testBit 0 then b.getD 0 (-1) else -1, if V.testBit 1 then b.getD 1 (-1) else -1, if V.testBit 2 then b.getD 2 (-1) else -1, if V.testBit 3 then b.getD 3 (-1) else -1]
def over1 (x y : Int) : Int := if x = -1 then y else x
/-- One over the other. -/
def over (a b : List Int) : List Int := [over1 (a.getD 0 (-1)) (b.getD 0 (-1)), over1 (a.getD 1 (-1)) (b.getD 1 (-1)), over1 (a.getD 2 (-1)) (b.getD 2 (-1)), over1 (a.getD 3 (-1)) (b.getD 3 (-1))]
def bit15 (b : Bool) : Nat := if b then 15 else 0
def maskW (V : Nat) : Nat := ((bit15 (V.testBit 0) * 16 + bit15 (V.testBit 1)) * 16 + bit15 (V.testBit 2)) * 16 + bit15 (V.testBit 3)

theorem bit15_lt (b : Bool) : bit15 b < 16 := by cases b <;> decide
theorem maskW_lt (V : Nat) : maskW V < 65536 := by
  have := bit15_lt (V.testBit 0); have := bit15_lt (V.testBit 1); have := bit15_lt (V.testBit 2); have := bit15_lt (V.testBit 3)
  unfold maskW
  omega
theorem bind_at {b : List Int} (h : bindOk b = true) {v : Nat} (hv : v < 4) : -1 ≤ b.getD v (-1) ∧ b.getD v (-1) ≤ 5 := by
  have hl := bindOk_len h
  have hk : v < b.length := by omega
  rw [List.getD_eq_getElem?_getD, List.getElem?_eq_getElem hk]
  exact bindOk_at h hk
theorem bindOk_four {a b c d : Int} (h0 : -1 ≤ a ∧ a ≤ 5) (h1 : -1 ≤ b ∧ b ≤ 5) (h2 : -1 ≤ c ∧ c ≤ 5) (h3 : -1 ≤ d ∧ d ≤ 5) : bindOk [a, b, c, d] = true := by
  refine bindOk_iff rfl ?_
  simp only [List.all_cons, List.all_nil, Bool.and_true, Bool.and_eq_true, hasB, decide_eq_true_eq]
  exact ⟨h0, h1, h2, h3⟩
theorem restr_ok {b : List Int} (h : bindOk b = true) (V : Nat) : bindOk (restr V b) = true := by
  have key : ∀ v, v < 4 → -1 ≤ (if V.testBit v then b.getD v (-1) else -1) ∧ (if V.testBit v then b.getD v (-1) else -1) ≤ 5 := fun v hv => by
    have := bind_at h hv
    split <;> omega
  exact bindOk_four (key 0 (by omega)) (key 1 (by omega)) (key 2 (by omega)) (key 3 (by omega))
theorem over_ok {a b : List Int} (h : bindOk a = true) (h2 : bindOk b = true) : bindOk (over a b) = true := by
  have key : ∀ v, v < 4 → -1 ≤ over1 (a.getD v (-1)) (b.getD v (-1)) ∧ over1 (a.getD v (-1)) (b.getD v (-1)) ≤ 5 := fun v hv => by
    have := bind_at h hv
    have := bind_at h2 hv
    unfold over1
    split <;> omega
  exact bindOk_four (key 0 (by omega)) (key 1 (by omega)) (key 2 (by omega)) (key 3 (by omega))
theorem restr_at {V : Nat} {b : List Int} {v : Nat} (hv : v < 4) : (restr V b).getD v (-1) = if V.testBit v then b.getD v (-1) else -1 := by
  match v, hv with
  | 0, _ => rfl
  | 1, _ => rfl
  | 2, _ => rfl
  | 3, _ => rfl
theorem over_at {a b : List Int} {v : Nat} (hv : v < 4) : (over a b).getD v (-1) = over1 (a.getD v (-1)) (b.getD v (-1)) := by
  match v, hv with
  | 0, _ => rfl
  | 1, _ => rfl
  | 2, _ => rfl
  | 3, _ => rfl
theorem bind_ext {a b : List Int} (h : bindOk a = true) (h2 : bindOk b = true) (e : ∀ v, v < 4 → a.getD v (-1) = b.getD v (-1)) : a = b := by
  obtain ⟨a0, a1, a2, a3, rfl⟩ := list4 (bindOk_len h)
  obtain ⟨b0, b1, b2, b3, rfl⟩ := list4 (bindOk_len h2)
  have e0 := e 0 (by omega)
  have e1 := e 1 (by omega)
  have e2 := e 2 (by omega)
  have e3 := e 3 (by omega)
  simp only [List.getD_cons_zero, List.getD_cons_succ] at e0 e1 e2 e3
  rw [e0, e1, e2, e3]

theorem and15 : ∀ a : Fin 7, ∀ t : Bool, (a.val &&& bit15 t) = if t then a.val else 0 := by decide
theorem nib_mask {x : Int} (h : -1 ≤ x ∧ x ≤ 5) (t : Bool) : ((x + 1).toNat &&& bit15 t) = ((if t then x else -1) + 1).toNat := by
  obtain ⟨a, e, rfl⟩ := fin7 h
  rw [e, and15]
  cases t <;> simp
theorem nib_over {x y : Int} (h : -1 ≤ x ∧ x ≤ 5) (h2 : -1 ≤ y ∧ y ≤ 5) (hc : x = -1 ∨ y = -1 ∨ x = y) : ((x + 1).toNat ||| (y + 1).toNat) = (over1 x y + 1).toNat := by
  unfold over1
  rcases hc with rfl | rfl | rfl
  · simp
  · by_cases e : x = -1
    · simp [e]
    · simp [e]
  · simp
theorem nib_lt {x : Int} (h : -1 ≤ x ∧ x ≤ 5) : (x + 1).toNat < 16 := by omega

theorem enc_restr {b : List Int} (h : bindOk b = true) (V : Nat) : encB b &&& maskW V = encB (restr V b) := by
  have k0 := bind_at h (v := 0) (by omega)
  have k1 := bind_at h (v := 1) (by omega)
  have k2 := bind_at h (v := 2) (by omega)
  have k3 := bind_at h (v := 3) (by omega)
  unfold encB maskW
  rw [nib_and (nib_lt k3) (bit15_lt _), nib_and (nib_lt k2) (bit15_lt _), nib_and (nib_lt k1) (bit15_lt _), nib_mask k0, nib_mask k1, nib_mask k2, nib_mask k3]
  rfl
theorem enc_over {a b : List Int} (h : bindOk a = true) (h2 : bindOk b = true) (hc : ∀ v, v < 4 → a.getD v (-1) = -1 ∨ b.getD v (-1) = -1 ∨ a.getD v (-1) = b.getD v (-1)) : encB a ||| encB b = encB (over a b) := by
  have k0 := bind_at h (v := 0) (by omega)
  have k1 := bind_at h (v := 1) (by omega)
  have k2 := bind_at h (v := 2) (by omega)
  have k3 := bind_at h (v := 3) (by omega)
  have l0 := bind_at h2 (v := 0) (by omega)
  have l1 := bind_at h2 (v := 1) (by omega)
  have l2 := bind_at h2 (v := 2) (by omega)
  have l3 := bind_at h2 (v := 3) (by omega)
  unfold encB
  rw [nib_or (nib_lt k3) (nib_lt l3), nib_or (nib_lt k2) (nib_lt l2), nib_or (nib_lt k1) (nib_lt l1), nib_over k0 l0 (hc 0 (by omega)), nib_over k1 l1 (hc 1 (by omega)), nib_over k2 l2 (hc 2 (by omega)), nib_over k3 l3 (hc 3 (by omega))]
  rfl

theorem and_word32 {a b : Nat} (ha : a < 65536) (hb : b < 65536) : bits .and .u32 (a : Int) (b : Int) = ((a &&& b : Nat) : Int) := u32_and_nat a b (by omega) (by omega)
theorem mask_bit : ∀ V : Fin 16, ∀ k : Fin 4, (bits .and .u64 ((V.val : Nat) : Int) (((2 ^ k.val : Nat) : Nat) : Int) != 0) = V.val.testBit k.val := by decide +kernel

/-- The mask of the first k variables. -/
def maskTo (V k : Nat) : Nat := maskW (V &&& (2 ^ k - 1))
theorem maskTo_all : ∀ V : Fin 16, maskTo V.val 4 = maskW V.val := by decide +kernel
theorem maskTo_zero (V : Nat) : maskTo V 0 = 0 := by simp [maskTo, maskW, bit15]
theorem maskTo_step : ∀ V : Fin 16, ∀ k : Fin 4, maskTo V.val (k.val + 1) = if V.val.testBit k.val then maskTo V.val k.val ||| (15 * 2 ^ ((3 - k.val) * 4)) else maskTo V.val k.val := by decide +kernel

theorem maskT (V : Nat) (hV : V < 16) {k : Nat} (hk : k < 4) (h : (bits .and .u64 ((V : Nat) : Int) (((2 ^ k : Nat) : Nat) : Int) != 0) = true) : bits .or .u32 ((maskTo V k : Nat) : Int) ((15 * 2 ^ ((3 - k) * 4) : Nat) : Int) = ((maskTo V (k + 1) : Nat) : Int) := by
  have hb := mask_bit ⟨V, hV⟩ ⟨k, hk⟩
  have hs := maskTo_step ⟨V, hV⟩ ⟨k, hk⟩
  simp only at hb hs
  rw [hb] at h
  rw [h, if_pos rfl] at hs
  have hlt : maskTo V k < 65536 := maskW_lt (V &&& (2 ^ k - 1))
  have h2 : 15 * 2 ^ ((3 - k) * 4) < 65536 := by
    rcases (show k = 0 ∨ k = 1 ∨ k = 2 ∨ k = 3 by omega) with rfl | rfl | rfl | rfl <;> decide
  rw [hs]
  exact or_word32 hlt h2
theorem maskF (V : Nat) (hV : V < 16) {k : Nat} (hk : k < 4) (h : (bits .and .u64 ((V : Nat) : Int) (((2 ^ k : Nat) : Nat) : Int) != 0) = false) : ((maskTo V k : Nat) : Int) = ((maskTo V (k + 1) : Nat) : Int) := by
  have hb := mask_bit ⟨V, hV⟩ ⟨k, hk⟩
  have hs := maskTo_step ⟨V, hV⟩ ⟨k, hk⟩
  simp only at hb hs
  rw [hb] at h
  rw [h] at hs
  rw [hs]
  rfl

set_option maxHeartbeats 1000000 in
set_option maxRecDepth 100000 in
theorem bindingMask_any (V : Nat) (hV : V < 16) (w : World) :
    Calls Tryz.prog 128 #[.int .u64 (V : Nat)] w fun e w' => e = .returned (.int .u32 ((maskW V : Nat) : Int)) ∧ w = w' := by
  go_enter Tryz.func128, Tryz.ntmps128
  go_wp2_with (fail)
  go_loopg [3, 4, 5] 4 (fun q m _ i wr => ∃ k : Nat, k ≤ 4 ∧ q = 4 - k ∧ i = .int .i64 k ∧ m = .int .u32 ((maskTo V k : Nat) : Int) ∧ wr = w)
  case atStart => exact ⟨0, by omega, by omega, rfl, by rw [maskTo_zero]; rfl, rfl⟩
  case round =>
    obtain ⟨k, hk, hq, rfl, rfl, rfl⟩ := hrel
    have hlt := maskW_lt (V &&& (2 ^ k - 1))
    by_cases h4 : k < 4
    · rcases (show k = 0 ∨ k = 1 ∨ k = 2 ∨ k = 3 by omega) with rfl | rfl | rfl | rfl
      · have HT := Lib.hid (fun h => maskT V hV (k := 0) (by omega) h)
        have HF := Lib.hid (fun h => maskF V hV (k := 0) (by omega) h)
        clear hlt
        go_wp2_with (go_at_call 108; refine (shift_any _ (by omega) (by omega) _).mono ?_; rintro e w' ⟨rfl, rfl⟩)
        · have ht : (bits .and .u64 ((V : Nat) : Int) (1 : Int) != 0) = true := by assumption
          go_roundg 3
          case measure => omega
          case rel => exact ⟨1, by omega, by omega, rfl, congrArg (Value.int .u32) (HT.out ht), rfl⟩
        · have ht : (bits .and .u64 ((V : Nat) : Int) (1 : Int) != 0) = false := by assumption
          go_roundg 3
          case measure => omega
          case rel => exact ⟨1, by omega, by omega, rfl, congrArg (Value.int .u32) (HF.out ht), rfl⟩
      · have HT := Lib.hid (fun h => maskT V hV (k := 1) (by omega) h)
        have HF := Lib.hid (fun h => maskF V hV (k := 1) (by omega) h)
        clear hlt
        go_wp2_with (go_at_call 108; refine (shift_any _ (by omega) (by omega) _).mono ?_; rintro e w' ⟨rfl, rfl⟩)
        · have ht : (bits .and .u64 ((V : Nat) : Int) (2 : Int) != 0) = true := by assumption
          go_roundg 2
          case measure => omega
          case rel => exact ⟨2, by omega, by omega, rfl, congrArg (Value.int .u32) (HT.out ht), rfl⟩
        · have ht : (bits .and .u64 ((V : Nat) : Int) (2 : Int) != 0) = false := by assumption
          go_roundg 2
          case measure => omega
          case rel => exact ⟨2, by omega, by omega, rfl, congrArg (Value.int .u32) (HF.out ht), rfl⟩
      · have HT := Lib.hid (fun h => maskT V hV (k := 2) (by omega) h)
        have HF := Lib.hid (fun h => maskF V hV (k := 2) (by omega) h)
        clear hlt
        go_wp2_with (go_at_call 108; refine (shift_any _ (by omega) (by omega) _).mono ?_; rintro e w' ⟨rfl, rfl⟩)
        · have ht : (bits .and .u64 ((V : Nat) : Int) (4 : Int) != 0) = true := by assumption
          go_roundg 1
          case measure => omega
          case rel => exact ⟨3, by omega, by omega, rfl, congrArg (Value.int .u32) (HT.out ht), rfl⟩
        · have ht : (bits .and .u64 ((V : Nat) : Int) (4 : Int) != 0) = false := by assumption
          go_roundg 1
          case measure => omega
          case rel => exact ⟨3, by omega, by omega, rfl, congrArg (Value.int .u32) (HF.out ht), rfl⟩
      · have HT := Lib.hid (fun h => maskT V hV (k := 3) (by omega) h)
        have HF := Lib.hid (fun h => maskF V hV (k := 3) (by omega) h)
        clear hlt
        go_wp2_with (go_at_call 108; refine (shift_any _ (by omega) (by omega) _).mono ?_; rintro e w' ⟨rfl, rfl⟩)
        · have ht : (bits .and .u64 ((V : Nat) : Int) (8 : Int) != 0) = true := by assumption
          go_roundg 0
          case measure => omega
          case rel => exact ⟨4, by omega, by omega, rfl, congrArg (Value.int .u32) (HT.out ht), rfl⟩
        · have ht : (bits .and .u64 ((V : Nat) : Int) (8 : Int) != 0) = false := by assumption
          go_roundg 0
          case measure => omega
          case rel => exact ⟨4, by omega, by omega, rfl, congrArg (Value.int .u32) (HF.out ht), rfl⟩
    · obtain rfl : k = 4 := by omega
      have HM := Lib.hid (maskTo_all ⟨V, hV⟩)
      go_wp2_with (fail)
      go_ret
      exact ⟨ret_int (by rw [show maskTo V 4 = maskW V from HM.out]), rfl⟩

end Go.Proofs.YtofkcmihcgmmpaaGreat
/-
  What a match leaves is a list of what variables have.
-/
namespace Go.Proofs.YtofkcmihcgmmpaaGreat
open Go.RowKit

theorem matchTo_ok {bs xs ys : List Int} (hb : bindOk bs = true) (hy : ys.all constOk = true) : ∀ {k : Nat} {b : List Int}, k ≤ ys.length → matchTo bs xs ys k = some b → bindOk b = true
  | 0, b, _, e => by
    injection e with e
    rwa [← e]
  | k + 1, b, hk, e => by
    have e' : (matchTo bs xs ys k).bind (fun b => stepM b (xs.getD k 0) (ys.getD k 0)) = some b := e
    obtain ⟨c, h1, h2⟩ := Option.bind_eq_some_iff.1 e'
    refine stepM_ok (matchTo_ok hb hy (by omega) h1) ?_ h2
    have hlt : k < ys.length := by omega
    have := List.all_eq_true.1 hy _ (List.getElem_mem hlt)
    simp [constOk] at this
    simp [hlt]
    omega
theorem matchL_ok {a f : LFact} {bs b : List Int} (hb : bindOk bs = true) (hy : f.2.all constOk = true) (e : matchL a f bs = some b) : bindOk b = true := by
  unfold matchL at e
  split at e
  · rename_i h
    exact matchTo_ok hb hy (by omega) e
  · cases e

end Go.Proofs.YtofkcmihcgmmpaaGreat
/-
  What makes a literal hold, plain mathematics: matching, joining, denying.
-/
namespace Go.Proofs.YtofkcmihcgmmpaaGreat
open Go.RowKit

/-- Just the variables of K have something. -/
def DomB (b : List Int) (K : Nat) : Prop := ∀ v, v < 4 → (b.getD v (-1) ≠ -1 ↔ K.testBit v = true)

theorem maskFrom_bit {v : Nat} (hv : v < 4) : ∀ (xs : List Int) (m : Nat), (maskFrom m xs).testBit v = true ↔ m.testBit v = true ∨ (-1 - (v : Int)) ∈ xs
  | [], m => by simp [maskFrom]
  | t :: xs, m => by
    have e : maskFrom m (t :: xs) = maskFrom (orV m t) xs := rfl
    rw [e, maskFrom_bit hv xs]
    unfold orV
    by_cases ht : isVarB t = true
    · have hb : -4 ≤ t ∧ t ≤ -1 := by simpa [isVarB] using ht
      rw [if_pos ht, Nat.testBit_or, Nat.testBit_two_pow]
      simp only [Bool.or_eq_true, decide_eq_true_eq, List.mem_cons]
      constructor
      · rintro ((h | h) | h)
        · exact .inl h
        · exact .inr (.inl (by omega))
        · exact .inr (.inr h)
      · rintro (h | h | h)
        · exact .inl (.inl h)
        · exact .inl (.inr (by omega))
        · exact .inr h
    · have hb : ¬ (-4 ≤ t ∧ t ≤ -1) := by simpa [isVarB] using ht
      rw [if_neg ht, List.mem_cons]
      constructor
      · rintro (h | h)
        · exact .inl h
        · exact .inr (.inr h)
      · rintro (h | h | h)
        · exact .inl h
        · omega
        · exact .inr h
theorem maskOf_bit {v : Nat} (hv : v < 4) (xs : List Int) : (maskOf xs).testBit v = true ↔ (-1 - (v : Int)) ∈ xs := by
  unfold maskOf
  rw [maskFrom_bit hv]
  simp
/-- A term is a constant, or a variable. -/
theorem term_cases {t : Int} (h : termOk t = true) : (0 ≤ t ∧ t ≤ 5) ∨ ∃ v : Nat, v < 4 ∧ t = -1 - (v : Int) := by
  have := termOk_at h
  rcases Int.lt_or_le t 0 with h0 | h0
  · exact .inr ⟨(-1 - t).toNat, by omega, by omega⟩
  · exact .inl ⟨h0, this.2⟩
theorem termVal_v (b : List Int) (v : Nat) : termVal b (-1 - (v : Int)) = b.getD v (-1) := by
  rw [termVal_var (by omega)]
  congr 1
  omega
/-- Terms have the same in both where the variables do. -/
theorem termVal_same {b c : List Int} {t : Int} (h : termOk t = true) (e : ∀ v : Nat, v < 4 → t = -1 - (v : Int) → b.getD v (-1) = c.getD v (-1)) : termVal b t = termVal c t := by
  rcases term_cases h with h0 | ⟨v, hv, rfl⟩
  · rw [termVal_const h0.1, termVal_const h0.1]
  · rw [termVal_v, termVal_v]
    exact e v hv rfl
theorem orV_const {m : Nat} {t : Int} (h : 0 ≤ t) : orV m t = m := by
  unfold orV
  rw [if_neg]
  simp [isVarB]
  omega
theorem orV_var {m v : Nat} (hv : v < 4) : orV m (-1 - (v : Int)) = m ||| 2 ^ v := by
  unfold orV
  rw [if_pos (by simp [isVarB]; omega)]
  congr 2
  omega
theorem or_bit (m v u : Nat) : (m ||| 2 ^ v).testBit u = true ↔ m.testBit u = true ∨ v = u := by
  rw [Nat.testBit_or, Nat.testBit_two_pow]
  simp

theorem restr_dom {b : List Int} {K M : Nat} (h : DomB b K) (hs : ∀ v, v < 4 → M.testBit v = true → K.testBit v = true) : DomB (restr M b) M := fun v hv => by
  rw [restr_at hv]
  by_cases e : M.testBit v = true
  · rw [if_pos e]
    exact ⟨fun _ => e, fun _ => (h v hv).2 (hs v hv e)⟩
  · rw [if_neg e]
    exact ⟨fun h => absurd rfl h, fun h => absurd h e⟩
theorem restr_all {b : List Int} {K : Nat} (hb : bindOk b = true) (h : DomB b K) : restr K b = b := by
  refine bind_ext (restr_ok hb K) hb fun v hv => ?_
  rw [restr_at hv]
  by_cases e : K.testBit v = true
  · rw [if_pos e]
  · rw [if_neg e]
    rcases Decidable.em (b.getD v (-1) = -1) with h2 | h2
    · exact h2.symm
    · exact absurd ((h v hv).1 h2) e

theorem matchTo_iff {xs ys : List Int} (hl : xs.length = ys.length) (hx : xs.all termOk = true) (hy : ys.all constOk = true) : ∀ (k : Nat) (_hk : k ≤ xs.length) (b : List Int), matchTo noneB xs ys k = some b ↔
    (bindOk b = true ∧ DomB b (maskOf (xs.take k)) ∧ ∀ i (h : i < xs.length) (h2 : i < ys.length), i < k → termVal b xs[i] = ys[i])
  | 0, hk, b => by
    constructor
    · intro h
      injection h with h
      subst h
      refine ⟨noneB_ok, fun v hv => ?_, fun i _ _ h => absurd h (by omega)⟩
      have : (maskOf (xs.take 0)).testBit v = false := by simp [maskOf, maskFrom]
      rw [this]
      match v, hv with
      | 0, _ => simp [noneB]
      | 1, _ => simp [noneB]
      | 2, _ => simp [noneB]
      | 3, _ => simp [noneB]
    · rintro ⟨hb, hd, _⟩
      show some noneB = some b
      congr 1
      refine bind_ext noneB_ok hb fun v hv => ?_
      have h0 : (maskOf (xs.take 0)).testBit v = false := by simp [maskOf, maskFrom]
      have := hd v hv
      rw [h0] at this
      have hbv : b.getD v (-1) = -1 := by
        rcases Decidable.em (b.getD v (-1) = -1) with h2 | h2
        · exact h2
        · exact absurd (this.1 h2) (by simp)
      rw [hbv]
      match v, hv with
      | 0, _ => rfl
      | 1, _ => rfl
      | 2, _ => rfl
      | 3, _ => rfl
  | k + 1, hk, b => by
    have hkx : k < xs.length := by omega
    have hky : k < ys.length := by omega
    have ih := matchTo_iff hl hx hy k (by omega)
    have hM := maskOf_take hkx
    have hxk : termOk xs[k] = true := List.all_eq_true.1 hx _ (List.getElem_mem hkx)
    have hyk : 0 ≤ ys[k] ∧ ys[k] ≤ 5 := by simpa [constOk] using List.all_eq_true.1 hy _ (List.getElem_mem hky)
    obtain ⟨M, hMM⟩ : ∃ M, M = maskOf (xs.take k) := ⟨_, rfl⟩
    rw [← hMM] at hM ih
    rw [hM]
    have hin : ∀ (i : Nat) (h : i < xs.length) (v : Nat), i < k → v < 4 → xs[i] = -1 - (v : Int) → M.testBit v = true := fun i h v hik hv e => by
      rw [hMM, maskOf_bit hv, ← e]
      exact List.mem_take_iff_getElem.2 ⟨i, by omega, rfl⟩
    constructor
    · intro h
      cases h0 : matchTo noneB xs ys k with
      | none => rw [matchTo_none h0 (k + 1) (by omega)] at h; cases h
      | some b0 =>
        rw [matchTo_step h0 hkx hky] at h
        obtain ⟨hb0, hd0, hv0⟩ := (ih b0).1 h0
        unfold stepM at h
        split at h
        · rename_i e
          injection h with h
          subst h
          refine ⟨hb0, ?_, fun i h1 h2 hik => ?_⟩
          · rcases term_cases hxk with h0 | ⟨v, hv, hxv⟩
            · rw [orV_const h0.1]
              exact hd0
            · rw [hxv, orV_var hv]
              intro u hu
              rw [or_bit, hd0 u hu]
              constructor
              · exact fun h => .inl h
              · rintro (h | rfl)
                · exact h
                · refine (hd0 v hv).1 ?_
                  rw [hxv, termVal_v] at e
                  omega
          · by_cases ei : i = k
            · subst ei
              exact e
            · exact hv0 i h1 h2 (by omega)
        · split at h
          · rename_i e1 e2
            injection h with h
            rcases term_cases hxk with h0 | ⟨v, hv, hxv⟩
            · rw [termVal_const h0.1] at e2
              omega
            · rw [hxv, termVal_v] at e2
              have hj : (-1 - xs[k]).toNat = v := by omega
              rw [hj] at h
              have hl4 := bindOk_len hb0
              have hset : ∀ u, u < 4 → b.getD u (-1) = if u = v then ys[k] else b0.getD u (-1) := fun u hu => by
                rw [← h]
                simp only [List.getD_eq_getElem?_getD, List.getElem?_set]
                by_cases euv : v = u
                · subst euv
                  simp [hl4, hv]
                · rw [if_neg euv, if_neg (fun e => euv e.symm)]
              refine ⟨by rw [← h]; exact bindOk_set hb0 (by omega) _, fun u hu => ?_, fun i h1 h2 hik => ?_⟩
              · rw [hxv, orV_var hv, or_bit, hset u hu]
                by_cases euv : u = v
                · subst euv
                  simp
                  omega
                · rw [if_neg euv, hd0 u hu]
                  constructor
                  · exact fun h => .inl h
                  · rintro (h | h)
                    · exact h
                    · exact absurd h.symm euv
              · by_cases ei : i = k
                · subst ei
                  rw [hxv, termVal_v, hset v hv, if_pos rfl]
                · have hik' : i < k := by omega
                  rw [← hv0 i h1 h2 hik']
                  refine termVal_same (List.all_eq_true.1 hx _ (List.getElem_mem h1)) fun u hu eu => ?_
                  rw [hset u hu, if_neg]
                  rintro rfl
                  have := (hd0 u hu).2 (hin i h1 u hik' hu eu)
                  exact this e2
          · cases h
    · rintro ⟨hb, hd, hv⟩
      have hMK : ∀ v, v < 4 → M.testBit v = true → (orV M xs[k]).testBit v = true := fun v hv h => by
        rcases term_cases hxk with h0 | ⟨u, hu, hxu⟩
        · rw [orV_const h0.1]; exact h
        · rw [hxu, orV_var hu, or_bit]; exact .inl h
      have h0 : matchTo noneB xs ys k = some (restr M b) := by
        refine (ih _).2 ⟨restr_ok hb M, restr_dom hd hMK, fun i h1 h2 hik => ?_⟩
        rw [← hv i h1 h2 (by omega)]
        refine termVal_same (List.all_eq_true.1 hx _ (List.getElem_mem h1)) fun u hu eu => ?_
        rw [restr_at hu, if_pos (hin i h1 u hik hu eu)]
      rw [matchTo_step h0 hkx hky]
      have hvk := hv k hkx hky (by omega)
      rcases term_cases hxk with h0c | ⟨v, hv4, hxv⟩
      · rw [orV_const h0c.1] at hd
        rw [restr_all hb hd]
        exact stepM_same hvk
      · rw [hxv, orV_var hv4] at hd
        rw [hxv, termVal_v] at hvk
        rw [hxv]
        by_cases hMv : M.testBit v = true
        · have hd2 : DomB b M := fun u hu => by
            rw [hd u hu, or_bit]
            constructor
            · rintro (h | rfl)
              · exact h
              · exact hMv
            · exact fun h => .inl h
          rw [restr_all hb hd2]
          exact stepM_same (by rw [termVal_v]; exact hvk)
        · have hr : termVal (restr M b) (-1 - (v : Int)) = -1 := by rw [termVal_v, restr_at hv4, if_neg hMv]
          rw [stepM_new hr (by omega), show (-1 - (-1 - (v : Int))).toNat = v by omega]
          congr 1
          refine bind_ext (bindOk_set (restr_ok hb M) (by omega) _) hb fun u hu => ?_
          have hl4 := bindOk_len (restr_ok hb M)
          simp only [List.getD_eq_getElem?_getD, List.getElem?_set]
          by_cases euv : v = u
          · subst euv
            simp only [List.getD_eq_getElem?_getD] at hvk
            simp [hl4, hv4, hvk]
          · rw [if_neg euv, ← List.getD_eq_getElem?_getD, ← List.getD_eq_getElem?_getD, restr_at hu]
            by_cases hMu : M.testBit u = true
            · rw [if_pos hMu]
            · rw [if_neg hMu]
              rcases Decidable.em (b.getD u (-1) = -1) with h2 | h2
              · exact h2.symm
              · have := (hd u hu).1 h2
                rw [or_bit] at this
                rcases this with h | h
                · exact absurd h hMu
                · exact absurd h euv

/-- A match from nothing: what the atom's variables have, so that it is the fact. -/
theorem matchL_iff {a f : LFact} (ha : a.2.all termOk = true) (hf : f.2.all constOk = true) (b : List Int) : matchL a f noneB = some b ↔ bindOk b = true ∧ DomB b (maskOf a.2) ∧ f = (a.1, a.2.map (termVal b)) := by
  by_cases h1 : a.1 = f.1
  · by_cases h2 : a.2.length = f.2.length
    · rw [matchL_eq h1 h2, matchTo_iff h2 ha hf a.2.length (Nat.le_refl _) b, List.take_length]
      refine and_congr_right fun _ => and_congr_right fun _ => ?_
      constructor
      · intro h
        refine Prod.ext h1.symm (List.ext_getElem (by simp [h2]) fun i i1 i2 => ?_)
        simp at i2
        simpa using (h i i2 i1 i2).symm
      · intro h i i1 i2 _
        have e : f.2 = a.2.map (termVal b) := by rw [h]
        have := List.getElem_of_eq e i2
        simpa using this.symm
    · rw [matchL_len h2]
      constructor
      · intro h; cases h
      · rintro ⟨_, _, e⟩
        exact absurd (by rw [e]; simp) h2
  · rw [matchL_pred h1]
    constructor
    · intro h; cases h
    · rintro ⟨_, _, e⟩
      exact absurd (by rw [e]) h1

end Go.Proofs.YtofkcmihcgmmpaaGreat
/-
  The steps of the plain functions of a sort, as a walk takes them. Plain mathematics.
-/
namespace Go.Proofs.YtofkcmihcgmmpaaGreat
open Go.Sort

section
variable {α : Type} [Inhabited α] (lt : α → α → Bool)
/-- Insertion: one exchange. -/
theorem insStep {a j : Nat} {d : Array α} (hj : a < j) (hl : lt d[j]! d[j - 1]! = true) : insInner lt a j d = insInner lt a (j - 1) (Sort.swp d j (j - 1)) := by
  cases j with
  | zero => omega
  | succ k =>
    simp only [Nat.add_sub_cancel] at hl ⊢
    rw [insInner, if_pos (by simp [hj, hl])]
theorem insDone {a j : Nat} {d : Array α} (h : a < j → lt d[j]! d[j - 1]! = false) : insInner lt a j d = d := by
  cases j with
  | zero => rw [insInner]
  | succ k =>
    rw [insInner]
    by_cases hj : a < k + 1
    · have := h hj
      simp only [Nat.add_sub_cancel] at this
      rw [if_neg (by simp [this])]
    · rw [if_neg (by simp; omega)]

/-- The greater child. -/
def kid (d : Array α) (hi first root : Nat) : Nat := if (decide (2 * root + 2 < hi) && lt d[first + (2 * root + 1)]! d[first + (2 * root + 2)]!) = true then 2 * root + 2 else 2 * root + 1
theorem kid_lt {d : Array α} {hi first root : Nat} (h : 2 * root + 1 < hi) : kid lt d hi first root < hi ∧ root < kid lt d hi first root := by
  unfold kid
  split
  · rename_i e
    simp at e
    omega
  · omega
theorem siftEnd {d : Array α} {hi first root : Nat} (h : ¬ 2 * root + 1 < hi) : siftDown lt hi first root d = d := by
  rw [siftDown, dif_pos (by omega)]
theorem siftStop {d : Array α} {hi first root : Nat} (h : 2 * root + 1 < hi) (hl : lt d[first + root]! d[first + kid lt d hi first root]! = false) : siftDown lt hi first root d = d := by
  unfold kid at hl
  rw [siftDown, dif_neg (by omega)]
  split at hl
  · rename_i e
    rw [if_pos (by exact e), if_pos (by rw [hl]; rfl)]
  · rename_i e
    rw [if_neg (by exact e), if_pos (by rw [hl]; rfl)]
theorem siftStep {d : Array α} {hi first root : Nat} (h : 2 * root + 1 < hi) (hl : lt d[first + root]! d[first + kid lt d hi first root]! = true) :
    siftDown lt hi first root d = siftDown lt hi first (kid lt d hi first root) (Sort.swp d (first + root) (first + kid lt d hi first root)) := by
  unfold kid at hl ⊢
  rw [siftDown, dif_neg (by omega)]
  split at hl
  · rename_i e
    have e2 : 2 * root + 2 < hi := by simp at e; omega
    rw [if_pos (by exact e), if_neg (by rw [hl]; decide), dif_pos e2, if_pos e]
  · rename_i e
    rw [if_neg (by exact e), if_neg (by rw [hl]; decide), if_neg e]

/-- The scans. -/
theorem upStep {p : α → Bool} {d : Array α} {j i : Nat} (h : i ≤ j) (hp : p d[i]! = true) : scanUp p d j i = scanUp p d j (i + 1) := by rw [scanUp, if_pos (by simp [h, hp])]
theorem upDone {p : α → Bool} {d : Array α} {j i : Nat} (h : i ≤ j → p d[i]! = false) : scanUp p d j i = i := by
  rw [scanUp, if_neg]
  intro hc
  simp at hc
  rw [h hc.1] at hc
  exact absurd hc.2 (by simp)
theorem downStep {p : α → Bool} {d : Array α} {j i : Nat} (h : i ≤ j) (h0 : 0 < j) (hp : p d[j]! = true) : scanDown p d i j = scanDown p d i (j - 1) := by
  cases j with
  | zero => omega
  | succ k => rw [scanDown, if_pos (by simp [h, hp]), Nat.add_sub_cancel]
theorem downDone {p : α → Bool} {d : Array α} {j i : Nat} (h : i ≤ j → p d[j]! = false) : scanDown p d i j = j := by
  cases j with
  | zero => rfl
  | succ k =>
    rw [scanDown, if_neg]
    intro hc
    simp at hc
    rw [h hc.1] at hc
    exact absurd hc.2 (by simp)
/-- Where the two scans stand, they don't stand at one place. -/
theorem scans_apart (p q : α → Bool) (hq : ∀ x, q x = !p x) {d : Array α} {i j i2 j2 : Nat} (hi2 : scanUp p d j i = i2) (hj2 : scanDown q d i2 j = j2) (h : i2 ≤ j2) (h0 : 0 < i2) : i2 < j2 := by
  obtain ⟨u1, u2, u3, u4⟩ := scanUp_spec p d j _ i rfl
  obtain ⟨v1, v2, v3, v4⟩ := scanDown_spec q d i2 j
  rw [hi2] at u4
  rw [hj2] at v1 v4
  rcases Nat.lt_or_ge i2 j2 with hlt | hge
  · exact hlt
  · exfalso
    have e : j2 = i2 := by omega
    have f1 := u4 (by omega)
    have f2 := v4 h (by omega)
    rw [e, hq, f1] at f2
    cases f2
end
end Go.Proofs.YtofkcmihcgmmpaaGreat
/-
  A row of words (one uint32 a cell) in a block of the call's own; its loads, stores and exchanges.
-/
namespace Go.Proofs.YtofkcmihcgmmpaaGreat
open Go.RowKit Go.Sort

/-- From place o of block g, of c cells, the words d stand. -/
def URow (w : World) (g o c : Nat) (d : Array Int) : Prop :=
  ∃ cur, w.heap[g]? = some (.cells cur 61 (0, 0)) ∧ cur.size = c ∧ ∀ j, j < d.size → cur[o + j]? = some (.int .u32 d[j]!)

section
variable {w w' : World} {g o c lo hi : Nat} {d : Array Int}
theorem URow.lt (h : URow w g o c d) : g < w.heap.size := by
  obtain ⟨cur, hg, _⟩ := h
  exact Blk.lt hg
theorem URow.cell (h : URow w g o c d) {j : Nat} (hj : j < d.size) : w.cell? ⟨g, o + j, none⟩ = some (.int .u32 d[j]!) := by
  obtain ⟨cur, hg, _, hc⟩ := h
  rw [Blk.cell hg, hc j hj]
theorem URow.frozen (h : URow w g o c d) (j : Nat) : w.frozen? ⟨g, j, none⟩ = false := by
  obtain ⟨cur, hg, _⟩ := h
  exact Blk.frozen hg j
theorem URow.set (h : URow w g o c d) {i : Nat} (hi : i < d.size) (x : Int) : URow (w.setCell ⟨g, o + i, none⟩ (.int .u32 x)) g o c (d.setIfInBounds i x) := by
  obtain ⟨cur, hg, h1, hc⟩ := h
  refine ⟨cur.setIfInBounds (o + i) (.int .u32 x), Blk.set_ hg (o + i) _, by simpa using h1, fun j hj => ?_⟩
  have hj' : j < d.size := by simpa using hj
  by_cases e : i = j
  · subst e
    have hin : o + i < cur.size := by
      rcases Nat.lt_or_ge (o + i) cur.size with h | h
      · exact h
      · have := hc i hi
        rw [Array.getElem?_eq_none h] at this
        cases this
    rw [Array.getElem?_setIfInBounds, if_pos rfl, if_pos hin, getElem!_pos (d.setIfInBounds i x) i hj]
    simp
  · rw [Array.getElem?_setIfInBounds, if_neg (by omega), hc j hj', getElem!_pos (d.setIfInBounds i x) j hj, getElem!_pos d j hj', Array.getElem_setIfInBounds, if_neg e]

/-- The exchange of two places. -/
theorem URow.swp (h : URow w g o c d) {i j : Nat} (hi : i < d.size) (hj : j < d.size) : URow ((w.setCell ⟨g, o + i, none⟩ (.int .u32 d[j]!)).setCell ⟨g, o + j, none⟩ (.int .u32 d[i]!)) g o c (Sort.swp d i j) :=
  (h.set hi _).set (by simpa using hj) _
theorem URow.only (h : URow w g o c d) (ho : Only lo hi w w') (hd : g < lo ∨ hi ≤ g) : URow w' g o c d := by
  obtain ⟨cur, hg, r⟩ := h
  exact ⟨cur, (ho.block g (Blk.lt hg) hd).trans hg, r⟩
theorem URow.below {B : Nat} (h : URow w g o c d) (hb : Below B w w') (hg : g < B) : URow w' g o c d := by
  obtain ⟨cur, e, r⟩ := h
  exact ⟨cur, (hb.block g hg).trans e, r⟩
theorem Only.drew' (h : Only lo hi w w') : Only lo hi w w'.drew := ⟨h.os, h.tape, h.output, h.size, h.block⟩
theorem Only.drewN' (h : Only lo hi w w') (n : Nat) : Only lo hi w (w'.drewN n) := ⟨h.os, h.tape, h.output, h.size, h.block⟩
end

/-- In the world wr, which differs from w in block g alone, the row of n words is dk. -/
structure At (w : World) (g o c n : Nat) (wr : World) (dk : Array Int) : Prop where
  row : URow wr g o c dk
  size : dk.size = n
  only : Only g (g + 1) w wr

section
variable {w wr wr2 : World} {g o c n i j : Nat} {d dk : Array Int}
theorem At.start (h : URow w g o c d) (hn : d.size = n) : At w g o c n w d := ⟨h, hn, Only.refl _ _ _⟩
theorem At.drewN (h : At w g o c n wr dk) (m : Nat) : At w g o c n (wr.drewN m) dk := ⟨h.row, h.size, h.only.drewN' m⟩
theorem At.drew (h : At w g o c n wr dk) : At w g o c n wr.drew dk := ⟨h.row, h.size, h.only.drew'⟩
theorem At.then_ {d2 : Array Int} (h : At w g o c n wr dk) (k : At wr g o c n wr2 d2) : At w g o c n wr2 d2 := ⟨k.row, k.size, h.only.trans k.only⟩
/-- What turns blocks of the call's own alone leaves the row. -/
theorem At.aside {lo hi : Nat} (h : At w g o c n wr dk) (k : Only lo hi wr wr2) (hlo : w.heap.size ≤ lo) (hg : g < lo) : At w g o c n wr2 dk :=
  ⟨h.row.only k (.inl hg), h.size, k.os.trans h.only.os, k.tape.trans h.only.tape, k.output.trans h.only.output, Nat.le_trans h.only.size k.size,
    fun i hi' ho => (k.block i (Nat.lt_of_lt_of_le hi' h.only.size) (.inl (by omega))).trans (h.only.block i hi' ho)⟩
theorem At.lt (h : At w g o c n wr dk) : g < wr.heap.size := h.row.lt
theorem At.swp (h : At w g o c n wr dk) (hi : i < n) (hj : j < n) {x y : Value} (hx : x = .int .u32 dk[j]!) (hy : y = .int .u32 dk[i]!) :
    At w g o c n ((wr.setCell ⟨g, o + i, none⟩ x).setCell ⟨g, o + j, none⟩ y) (Sort.swp dk i j) := by
  subst hx hy
  exact ⟨h.row.swp (by have := h.size; omega) (by have := h.size; omega), by rw [Sort.size_swp]; exact h.size,
    Only.setCell (p := ⟨g, o + j, none⟩) (Only.setCell (p := ⟨g, o + i, none⟩) h.only ⟨Nat.le_refl _, Nat.lt_succ_self _⟩ _) ⟨Nat.le_refl _, Nat.lt_succ_self _⟩ _⟩
/-- The row's contents under a name of their own, as the walk's loads and stores want them. -/
theorem At.fam (h : At w g o c n wr dk) : ∃ G : Nat → Int, Hid (∀ t, G t = dk[t]!) ∧ (∀ t, t < n → wr.cell? ⟨g, o + t, none⟩ = some (.int .u32 (G t))) ∧ (∀ t, t < n → wr.frozen? ⟨g, o + t, none⟩ = false) :=
  ⟨fun t => dk[t]!, Lib.hid (fun _ => rfl), fun t ht => h.row.cell (by have := h.size; omega), fun t _ => h.row.frozen _⟩
/-- A store leaves the cell that it is in. -/
theorem At.still (h : At w g o c n wr dk) (hj : j < n) (p : Addr) (x : Value) : ∃ v, (wr.setCell p x).cell? ⟨g, o + j, none⟩ = some v :=
  cell?_setCell_some (h.row.cell (by have := h.size; omega))
end

/-- cmp.Less at words. -/
theorem cmpLess_any (x y : Int) (w : World) :
    Calls Tryz.prog 76 #[.int .u32 x, .int .u32 y] w fun e w' => e = .returned (.bool (ltInt x y)) ∧ w' = w := by
  go_enter Tryz.func76, Tryz.ntmps76
  go_wp2
  go_ret
  simp [ltInt]

end Go.Proofs.YtofkcmihcgmmpaaGreat
/-
  slices.insertionSortOrdered at words: the plain insertion sort.
-/
namespace Go.Proofs.YtofkcmihcgmmpaaGreat
open Go.RowKit Go.Sort

set_option maxHeartbeats 8000000 in
set_option maxRecDepth 100000 in
theorem insertU (g o c cap n a b : Nat) (d : Array Int) (w : World) (hu : URow w g o c d) (hn : d.size = n) (hab : a ≤ b) (hb : b ≤ n) (hsz : n < 4611686018427387904) :
    Calls Tryz.prog 70 #[.slice (some ⟨g, o, none⟩) n cap, .int .i64 a, .int .i64 b] w fun e w' =>
      e = .returned (.tuple #[]) ∧ At w g o c n w' (insertionSort ltInt d a b) := by
  have A0 := At.start hu hn
  have HA := Lib.hid A0
  clear hu A0 hn
  go_enter Tryz.func70, Tryz.ntmps70
  go_wp2
  go_loopw [6] (fun vi wr => ∃ (i : Nat) (dk : Array Int), vi = .int .i64 i ∧ a < i ∧ At w g o c n wr dk ∧ Hid (insOuter ltInt a b i dk = insertionSort ltInt d a b)) (fun vi _ => b - (intOf vi).toNat)
  case atStart => exact ⟨a + 1, d, by go_num, by omega, HA.out, Lib.hid rfl⟩
  case round =>
    obtain ⟨i, dk, rfl, hai, K, HE⟩ := hrel
    by_cases hib : i < b
    · go_wp2
      go_loopw [7] (fun vj wr2 => ∃ (j : Nat) (dj : Array Int), vj = .int .i64 j ∧ j ≤ i ∧ At w g o c n wr2 dj ∧ Hid (insInner ltInt a j dj = insInner ltInt a i dk)) (fun vj _ => (intOf vj).toNat)
      case atStart => exact ⟨i, dk, rfl, Nat.le_refl _, K, Lib.hid rfl⟩
      case round =>
        obtain ⟨j, dj, rfl, hji, KJ, HJ⟩ := hrel
        obtain ⟨G, HG, hc, hf⟩ := KJ.fam
        have HN := Lib.hid (show insInner ltInt a j dj = dj → insOuter ltInt a b (i + 1) dj = insertionSort ltInt d a b from fun e => by
          rw [← HE.out, insOuter.eq_def ltInt a b i dk, if_pos hib, ← HJ.out, e])
        by_cases hja : a < j
        · go_wp2_with (fail)
          go_big_quiet (first | (go_at_call 76; refine Calls.quiet_of_same (cmpLess_any _ _ _)))
          go_wp2
          · have hl : ltInt (G j) (G (j - 1)) = true := by assumption
            have KQ := Lib.hid (KJ.drewN nq)
            obtain ⟨v', hy'⟩ := KQ.out.still (j := j - 1) (by omega) ⟨g, o + j, none⟩ (.int .u32 (G (j - 1)))
            go_region
            all_goals go_wp2
            go_roundw
            case rel => exact ⟨j - 1, Sort.swp dj j (j - 1), by congr 1; omega, by omega, (KQ.out.swp (by omega) (by omega) (by rw [HG.out]) (by rw [HG.out])).drew, Lib.hid (by rw [← HJ.out, insStep ltInt hja (by rw [← HG.out, ← HG.out]; exact hl)])⟩
            case measure => simp [intOf]; omega
          · have hl : ltInt (G j) (G (j - 1)) = false := by assumption
            have hnext := HN.out (insDone ltInt (fun _ => by rw [← HG.out, ← HG.out]; exact hl))
            have HX := Lib.hid hnext
            clear hnext
            go_roundw
            case rel => exact ⟨i + 1, dj, by go_num, by omega, KJ.drewN nq, HX⟩
            case measure => simp [intOf]; omega
        · have HX := Lib.hid (HN.out (insDone ltInt (fun e => absurd e hja)))
          go_wp2_with (fail)
          go_big_quiet (fail)
          go_wp2
          go_roundw
          case rel => exact ⟨i + 1, dj, by go_num, by omega, KJ.drewN nq, HX⟩
          case measure => simp [intOf]; omega
    · go_wp2
      go_end0
      refine ⟨rfl, ?_⟩
      rw [← HE.out, insOuter.eq_def, if_neg hib]
      exact K

end Go.Proofs.YtofkcmihcgmmpaaGreat
/-
  slices.siftDownOrdered, slices.heapSortOrdered at words: the plain ones.
-/
namespace Go.Proofs.YtofkcmihcgmmpaaGreat
open Go.RowKit Go.Sort

set_option maxHeartbeats 8000000 in
set_option maxRecDepth 100000 in
theorem siftU (g o c cap n lo hi first : Nat) (d : Array Int) (w : World) (hu : URow w g o c d) (hn : d.size = n) (hb : first + hi ≤ n) (hsz : n < 1152921504606846976) (hlo : lo ≤ n) :
    Calls Tryz.prog 102 #[.slice (some ⟨g, o, none⟩) n cap, .int .i64 lo, .int .i64 hi, .int .i64 first] w fun e w' =>
      e = .returned (.tuple #[]) ∧ At w g o c n w' (siftDown ltInt hi first lo d) := by
  have HA := Lib.hid (At.start hu hn)
  clear hu hn
  go_enter Tryz.func102, Tryz.ntmps102
  go_wp2
  go_loopg [8] (hi - lo) (fun k vr wr => ∃ (root : Nat) (dk : Array Int), vr = .int .i64 root ∧ root ≤ n ∧ hi - root ≤ k ∧ At w g o c n wr dk ∧ Hid (siftDown ltInt hi first root dk = siftDown ltInt hi first lo d))
  case atStart => exact ⟨lo, d, rfl, hlo, Nat.le_refl _, HA.out, Lib.hid rfl⟩
  case round =>
    obtain ⟨root, dk, rfl, hrh, hgk, K, HE⟩ := hrel
    by_cases h1 : 2 * root + 1 < hi
    · have h1z : ¬ ((hi : Int) ≤ 2 * (root : Int) + 1) := by omega
      obtain ⟨G, HG, hc, hf⟩ := K.fam
      obtain ⟨kd, hkd⟩ : ∃ kd, kd = kid ltInt dk hi first root := ⟨_, rfl⟩
      obtain ⟨hk1, hk2⟩ := kid_lt ltInt (d := dk) (first := first) h1
      rw [← hkd] at hk1 hk2
      have HS1 := Lib.hid (fun h => (siftStop ltInt (d := dk) (first := first) h1 h).symm.trans HE.out)
      have HS2 := Lib.hid (fun h => (siftStep ltInt (d := dk) (first := first) h1 h).symm.trans HE.out)
      rw [← hkd] at HS1 HS2
      obtain ⟨B, hB⟩ : ∃ B, B = (decide (2 * root + 2 < hi) && ltInt (G (first + root * 2 + 1)) (G (first + root * 2 + 2))) := ⟨_, rfl⟩
      have HKC := Lib.hid (show kd = if B then 2 * root + 2 else 2 * root + 1 by
        rw [hkd, hB, HG.out, HG.out, show first + root * 2 + 1 = first + (2 * root + 1) by omega, show first + root * 2 + 2 = first + (2 * root + 2) by omega]
        rfl)
      have HB := Lib.hid hB
      have HK := Lib.hid K
      clear K hkd hB
      go_upto_region 3 with fail
      go_cut [36] from 11 (fun s36 wc => s36 = .bool B ∧ At w g o c n wc dk)
      case first =>
        by_cases h2 : 2 * root + 2 < hi
        · have h2z : 2 * (root : Int) + 1 + 1 < (hi : Int) := by omega
          go_big_quiet (first | (go_at_call 76; refine Calls.quiet_of_same (cmpLess_any _ _ _)))
          go_wp2_with fail
          go_meet
          case rel => exact ⟨by rw [HB.out, decide_eq_true h2, Bool.true_and]; congr 2 <;> congr 1 <;> omega, HK.out.drewN nq⟩
        · have h2z : decide (2 * (root : Int) + 1 + 1 < (hi : Int)) = false := decide_eq_false (by omega)
          go_big_quiet (first | (go_at_call 76; refine Calls.quiet_of_same (cmpLess_any _ _ _)))
          go_wp2_with fail
          go_meet
          case rel => exact ⟨by rw [HB.out]; simp [h2], HK.out.drewN nq⟩
      case rest =>
        obtain ⟨rfl, K2⟩ := hcut
        clear hc hf HB
        have HK2 := Lib.hid K2
        clear K2
        go_upto_if 36 with fail
        go_cut [9] from 11 (fun s9 wx => s9 = .int .i64 kd ∧ wx = wc)
        case first =>
          cases hB : B
          · have hkd : kd = 2 * root + 1 := by rw [HKC.out, hB]; rfl
            have HKD := Lib.hid hkd
            clear hkd
            go_wp2_with fail
            go_meet
            case rel => exact ⟨by rw [HKD.out]; go_num, rfl⟩
          · have hkd : kd = 2 * root + 2 := by rw [HKC.out, hB]; rfl
            have HKD := Lib.hid hkd
            clear hkd
            go_wp2_with fail
            go_meet
            case rel => exact ⟨by rw [HKD.out]; go_num, rfl⟩
        case rest =>
          obtain ⟨rfl, rfl⟩ := hcut
          obtain ⟨G2, HG2, hc, hf⟩ := HK2.out.fam
          go_wp2_with fail
          go_big_quiet (first | (go_at_call 76; refine Calls.quiet_of_same (cmpLess_any _ _ _)))
          go_wp2_with fail
          · have hl : (!ltInt (G2 (first + root)) (G2 (first + kd))) = true := by assumption
            (try simp only [Exit.inBlock, Exit.then]); refine bodyPost_ret (results_none rfl _ _ _) rfl ?_
            refine ⟨rfl, ?_⟩
            rw [← HS1.out (by rw [← HG2.out, ← HG2.out]; simpa using hl)]
            exact HK2.out.drewN nq
          · have hl : (!ltInt (G2 (first + root)) (G2 (first + kd))) = false := by assumption
            have HL := Lib.hid (HS2.out (by rw [← HG2.out, ← HG2.out]; simpa using hl))
            have KQ := Lib.hid (HK2.out.drewN nq)
            obtain ⟨v', hy'⟩ := KQ.out.still (j := first + kd) (by omega) ⟨g, o + (first + root), none⟩ (.int .u32 (G2 (first + kd)))
            clear hl
            go_region
            all_goals go_wp2
            go_roundg (hi - kd)
            case measure => omega
            case rel => exact ⟨kd, Sort.swp dk (first + root) (first + kd), rfl, by omega, Nat.le_refl _, (KQ.out.swp (by omega) (by omega) (by rw [HG2.out]) (by rw [HG2.out])).drew, Lib.hid HL.out⟩
    · have h1z : (hi : Int) ≤ 2 * (root : Int) + 1 := by omega
      go_wp2
      go_end0
      rw [← HE.out, siftEnd ltInt h1]
      exact ⟨rfl, K⟩

theorem halfU (a L : Nat) : (((a : Int) + (L : Int) - (a : Int) - 1).tdiv 2) = (((L - 1) / 2 + 1 : Nat) : Int) - 1 := by
  rw [show (a : Int) + (L : Int) - (a : Int) - 1 = (L : Int) - 1 by omega]
  rcases Nat.eq_zero_or_pos L with rfl | h
  · decide
  · rw [Int.tdiv_eq_ediv_of_nonneg (by omega)]
    omega

set_option maxHeartbeats 8000000 in
set_option maxRecDepth 100000 in
theorem heapU (g o c cap n a b : Nat) (d : Array Int) (w : World) (hu : URow w g o c d) (hn : d.size = n) (hab : a ≤ b) (hb : b ≤ n) (hsz : n < 1152921504606846976) :
    Calls Tryz.prog 71 #[.slice (some ⟨g, o, none⟩) n cap, .int .i64 a, .int .i64 b] w fun e w' =>
      e = .returned (.tuple #[]) ∧ At w g o c n w' (heapSort ltInt d a b) := by
  have HA := Lib.hid (At.start hu hn)
  obtain ⟨L, hL⟩ : ∃ L, b = a + L := ⟨b - a, by omega⟩
  subst hL
  clear hu hn
  go_enter Tryz.func71, Tryz.ntmps71
  go_wp2_with fail
  have hL0 : ((a + L : Nat) : Int) - (a : Int) = (L : Int) := by omega
  go_loopg [9] ((L - 1) / 2 + 1) (fun k vi wr => ∃ (dk : Array Int), vi = .int .i64 ((k : Int) - 1) ∧ k ≤ (L - 1) / 2 + 1 ∧ At w g o c n wr dk ∧ Hid (heapBuild ltInt L a k dk = heapBuild ltInt L a ((L - 1) / 2 + 1) d))
  case atStart => exact ⟨d, by rw [halfU], Nat.le_refl _, HA.out, Lib.hid rfl⟩
  case round =>
    obtain ⟨dk, rfl, hk, K, HE⟩ := hrel
    rcases Nat.eq_zero_or_pos gk with rfl | hk0
    · have HK := Lib.hid K
      clear K
      have h0 : ¬ ((((0 : Nat) : Int) - 1) ≥ 0) := by decide
      go_wp2_with fail
      go_loopg [10] L (fun k vi wr => ∃ (dj : Array Int), vi = .int .i64 ((k : Int) - 1) ∧ k ≤ L ∧ At w g o c n wr dj ∧ Hid (heapPop ltInt a k dj = heapPop ltInt a L dk))
      case atStart => exact ⟨dk, by congr 1; omega, Nat.le_refl _, HK.out, Lib.hid rfl⟩
      case round =>
        obtain ⟨dj, rfl, hk, KJ, HJ⟩ := hrel
        rcases Nat.eq_zero_or_pos gk with rfl | hk0
        · have h0 : ¬ ((((0 : Nat) : Int) - 1) ≥ 0) := by decide
          go_wp2_with fail
          go_end0
          refine ⟨rfl, ?_⟩
          have : heapSort ltInt d a (a + L) = dj := by
            unfold heapSort
            rw [Nat.add_sub_cancel_left, ← HE.out]
            exact HJ.out.symm
          rw [this]
          exact KJ
        · obtain ⟨m, rfl⟩ : ∃ m, gk = m + 1 := ⟨gk - 1, by omega⟩
          have hm : ((m + 1 : Nat) : Int) - 1 = (m : Int) := by omega
          rw [hm]
          obtain ⟨G, HG, hc, hf⟩ := KJ.fam
          obtain ⟨v', hy'⟩ := KJ.still (j := a + m) (by omega) ⟨g, o + a, none⟩ (.int .u32 (G (a + m)))
          have KS1 := Lib.hid (show At w g o c n (((wr.setCell ⟨g, o + a, none⟩ (.int .u32 (G (a + m)))).setCell ⟨g, o + (a + m), none⟩ (.int .u32 (G a))).drew) (Sort.swp dj a (a + m)) from (KJ.swp (by omega) (by omega) (by rw [HG.out]) (by rw [HG.out])).drew)
          clear KJ
          go_wp2_with fail
          go_region
          all_goals
            go_wp2_with (go_at_call 102; refine Calls.mono (siftU g o c cap n 0 m a (Sort.swp dj a (a + m)) _ KS1.out.row KS1.out.size (by omega) hsz (by omega)) ?_; rintro e w1 ⟨rfl, KS⟩)
            go_roundg m
            case measure => omega
            case rel => exact ⟨siftDown ltInt m a 0 (Sort.swp dj a (a + m)), rfl, by omega, KS1.out.then_ KS, Lib.hid (by rw [← HJ.out, heapPop])⟩
    · obtain ⟨m, rfl⟩ : ∃ m, gk = m + 1 := ⟨gk - 1, by omega⟩
      have hm : ((m + 1 : Nat) : Int) - 1 = (m : Int) := by omega
      rw [hm]
      have hmL : (a : Int) + (L : Int) - (a : Int) = (L : Int) := by omega
      have HK := Lib.hid K
      clear K
      have hsf := siftU g o c cap n m L a dk _ HK.out.row HK.out.size (by omega) hsz (by omega)
      rw [← hmL] at hsf
      have HSF := Lib.hid hsf
      clear hmL hsf
      go_wp2_with (go_at_call 102; refine Calls.mono HSF.out ?_; rintro e w1 ⟨rfl, KS⟩)
      go_roundg m
      case measure => omega
      case rel => exact ⟨siftDown ltInt L a m dk, rfl, by omega, HK.out.then_ KS, Lib.hid (by rw [← HE.out, heapBuild])⟩

end Go.Proofs.YtofkcmihcgmmpaaGreat
/-
  slices.reverseRangeOrdered at words: a permutation of the range.
-/
namespace Go.Proofs.YtofkcmihcgmmpaaGreat
open Go.RowKit Go.Sort

set_option maxHeartbeats 4000000 in
set_option maxRecDepth 100000 in
theorem reverseU (g o c cap n a b : Nat) (d : Array Int) (w : World) (hu : URow w g o c d) (hn : d.size = n) (hab : a ≤ b) (hb : b ≤ n) (hsz : n < 4611686018427387904) :
    Calls Tryz.prog 74 #[.slice (some ⟨g, o, none⟩) n cap, .int .i64 a, .int .i64 b] w fun e w' =>
      e = .returned (.tuple #[]) ∧ ∃ d', At w g o c n w' d' ∧ PermIn a b d d' := by
  have HA := Lib.hid (At.start hu hn)
  clear hu hn
  go_enter Tryz.func74, Tryz.ntmps74
  go_wp2
  go_loopw [6, 7] (fun vi vj wr => ∃ (i : Nat) (j : Int) (dk : Array Int), vi = .int .i64 i ∧ vj = .int .i64 j ∧ a ≤ i ∧ j < b ∧ -1 ≤ j ∧ i ≤ n + 1 ∧ At w g o c n wr dk ∧ Hid (PermIn a b d dk)) (fun vi vj _ => ((intOf vj) - (intOf vi)).toNat)
  case atStart => exact ⟨a, (b : Int) - 1, d, rfl, rfl, Nat.le_refl _, by omega, by omega, by omega, HA.out, Lib.hid (permIn_refl _ _ _)⟩
  case round =>
    obtain ⟨i, j, dk, rfl, rfl, hai, hjb, hj1, hin, K, HP⟩ := hrel
    by_cases hij : (i : Int) < j
    · obtain ⟨m, rfl⟩ : ∃ m : Nat, j = m := ⟨j.toNat, by omega⟩
      have hm : m < n := by omega
      have hi : i < n := by omega
      obtain ⟨G, HG, hc, hf⟩ := K.fam
      obtain ⟨v', hy'⟩ := K.still (j := m) hm ⟨g, o + i, none⟩ (.int .u32 (G m))
      have HK := Lib.hid K
      clear K
      go_wp2_with (fail)
      go_region
      all_goals go_wp2
      go_roundw
      case rel => exact ⟨i + 1, (m : Int) - 1, Sort.swp dk i m, by go_num, rfl, by omega, by omega, by omega, by omega, (HK.out.swp hi hm (by rw [HG.out]) (by rw [HG.out])).drew,
        Lib.hid (permIn_trans _ _ _ _ _ HP.out (swp_permIn dk a b i m hai (by omega) (by omega) (by omega) (by have := HK.out.size; omega)))⟩
      case measure => simp [intOf]; omega
    · go_wp2
      go_end0
      exact ⟨rfl, dk, K, HP.out⟩

end Go.Proofs.YtofkcmihcgmmpaaGreat
