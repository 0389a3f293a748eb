/-
  Texts that the claim's last one imports, laid together: part 5 of 9. No condition of its own.
-/
import Derived.Maps.AppendAt
import Derived.Deep.AppendLies
import Derived.Test.YtcceololijefiaaGreatDoorMCo1
import Derived.Test.YtcceololijefiaaGreatDoorMCo2
import Derived.Test.YtcceololijefiaaGreatDoorMCo3
import Derived.Test.YtcceololijefiaaGreatDoorMCo4
/-
  slices.pdqsortOrdered, slices.Sort at words: a permutation, ascending.
-/
namespace Go.Proofs.YtcceololijefiaaGreatDoor
open Go.RowKit Go.Sort Go.Shelf

set_option maxHeartbeats 16000000 in
set_option maxRecDepth 1000000 in
theorem pdqU (g o c cap n : Nat) (hsz : n < 1152921504606846976) : ∀ (N a b limit : Nat) (d : Array Int) (w : World), b - a < N → URow w g o c d → d.size = n → a ≤ b → b ≤ n → limit < 1152921504606846976 → Sort.Below ltInt a b d →
    Calls Tryz.prog 132 #[.slice (some ⟨g, o, none⟩) n cap, .int .i64 a, .int .i64 b, .int .i64 limit] w fun e w' =>
      e = .returned (.tuple #[]) ∧ ∃ d', At w g o c n w' d' ∧ PermIn a b d d' ∧ SortedIn ltInt a b d' := by
  intro N
  induction N with
  | zero => intro _ _ _ _ _ h; exact absurd h (Nat.not_lt_zero _)
  | succ N ih =>
    intro a b limit d w hN hu hn hab hb hlim hBel
    have KK := Lib.hid (At.start hu hn)
    have HB0 := Lib.hid hBel
    have IH := Lib.hid ih
    clear hu hn hBel ih
    go_enter Tryz.func132, Tryz.ntmps132
    go_wp2_with fail
    go_loopg [1, 2, 3, 8, 9] (b - a) (fun k s1 s2 s3 s8 s9 wr => ∃ (a' b' lim : Nat) (wb wp : Bool) (dk : Array Int), s1 = .int .i64 a' ∧ s2 = .int .i64 b' ∧ s3 = .int .i64 lim ∧ s8 = .bool wb ∧ s9 = .bool wp ∧
      a' ≤ b' ∧ b' ≤ n ∧ b' - a' ≤ k ∧ k ≤ b - a ∧ lim ≤ limit ∧ At w g o c n wr dk ∧ Hid (Sort.Below ltInt a' b' dk ∧ ∀ R, PermIn a' b' dk R → SortedIn ltInt a' b' R → PermIn a b d R ∧ SortedIn ltInt a b R))
    case atStart => exact ⟨a, b, limit, true, true, d, rfl, rfl, rfl, rfl, rfl, hab, hb, Nat.le_refl _, Nat.le_refl _, Nat.le_refl _, KK.out, HB0.out, fun R h1 h2 => ⟨h1, h2⟩⟩
    case round =>
      clear KK HB0
      obtain ⟨a', b', lim, wb, wp, dk, rfl, rfl, rfl, rfl, rfl, hab', hb', hgk, hgN, hlim', K, HB⟩ := hrel
      have KK := Lib.hid K
      have hds := K.size
      have HDS := Lib.hid hds
      clear K hds
      by_cases h12 : b' - a' ≤ 12
      · have h12z : (b' : Int) - (a' : Int) ≤ 12 := by omega
        have HC := Lib.hid (insertU g o c cap n a' b' dk wr KK.out.row HDS.out hab' hb' (by omega))
        have HR := Lib.hid (insertionSort_holds swo_ltInt dk a' b' hab' (by have := HDS.out; omega))
        go_wp2_with (go_at_call 146; refine Calls.mono HC.out ?_; rintro e w1 ⟨rfl, K1⟩)
        (try simp only [Exit.inBlock, Exit.then]); refine bodyPost_ret (results_none rfl _ _ _) rfl ?_
        exact ⟨rfl, _, KK.out.then_ K1, HB.out.2 _ HR.out.1 HR.out.2⟩
      · have h12z : ¬ ((b' : Int) - (a' : Int) ≤ 12) := by omega
        by_cases hl0 : lim = 0
        · subst hl0
          have HC := Lib.hid (heapU g o c cap n a' b' dk wr KK.out.row HDS.out hab' hb' hsz)
          have HR := Lib.hid (heapSort_holds swo_ltInt dk a' b' hab' (by have := HDS.out; omega))
          go_wp2_with (go_at_call 147; refine Calls.mono HC.out ?_; rintro e w1 ⟨rfl, K1⟩)
          (try simp only [Exit.inBlock, Exit.then]); refine bodyPost_ret (results_none rfl _ _ _) rfl ?_
          exact ⟨rfl, _, KK.out.then_ K1, HB.out.2 _ HR.out.1 HR.out.2⟩
        · have hl0z : ¬ ((lim : Int) = 0) := by omega
          obtain ⟨L, hL⟩ : ∃ L, b' = a' + L := ⟨b' - a', by omega⟩
          subst hL
          have hL12 : 12 < L := by omega
          go_upto_if 35 with fail
          go_cut [3] from 19 to 133 (fun s3 wc => ∃ (l : Nat) (d1 : Array Int), s3 = .int .i64 l ∧ l ≤ lim ∧ At w g o c n wc d1 ∧ Hid (PermIn a' (a' + L) dk d1))
          case first =>
            cases wb
            · have HC := Lib.hid (breakU g o c cap n a' L dk wr KK.out.row HDS.out hL12 hb' hsz)
              go_wp2_with (go_at_call 148; refine Calls.mono HC.out ?_; rintro e w1 ⟨rfl, d1, K1, P1⟩)
              go_meet
              case rel => exact ⟨lim - 1, d1, by congr 1; omega, by omega, KK.out.then_ K1, P1⟩
            · go_wp2_with fail
              go_meet
              case rel => exact ⟨lim, dk, rfl, Nat.le_refl _, KK.out, permIn_refl _ _ _⟩
          case rest =>
            obtain ⟨l, d1, rfl, hll, K1, HP1⟩ := hcut
            clear KK
            have KK := Lib.hid K1
            have HDS1 := Lib.hid K1.size
            have HLT := Lib.hid K1.only.size
            clear K1
            have HC := Lib.hid (pivotU g o c cap n a' L d1 wc KK.out.row HDS1.out hL12 hb' hsz)
            go_upto_if 50 with (go_at_call 149; refine Calls.mono HC.out ?_; rintro e w2 ⟨m, h, rfl, hm1, hm2, hh, B2⟩)
            have K2 := Lib.hid (KK.out.then_ (⟨KK.out.row.below B2 KK.out.lt, HDS1.out, Only.of_below B2⟩ : At wc g o c n w2 d1))
            clear KK HC B2
            go_cut [11, 12] from 19 to 133 (fun s11 s12 wc => ∃ (q h : Nat) (d2 : Array Int), s11 = .int .i64 q ∧ s12 = .int .i64 h ∧ a' ≤ q ∧ q < a' + L ∧ h ≤ 2 ∧ At w g o c n wc d2 ∧ Hid (PermIn a' (a' + L) dk d2))
            case first =>
              by_cases hh2 : h = 2
              · subst hh2
                have HC := Lib.hid (reverseU g o c cap n a' (a' + L) d1 w2 K2.out.row HDS1.out (by omega) hb' (by omega))
                go_wp2_with (go_at_call 150; refine Calls.mono HC.out ?_; rintro e w3 ⟨rfl, d2, K3, P3⟩)
                go_meet
                case rel => exact ⟨a' + L - 1 - (m - a'), 1, d2, by congr 1; omega, rfl, by omega, by omega, by omega, K2.out.then_ K3, permIn_trans _ _ _ _ _ HP1.out P3⟩
              · have hh2z : ¬ ((h : Int) = 2) := by omega
                go_wp2_with fail
                go_meet
                case rel => exact ⟨m, h, d1, rfl, rfl, hm1, hm2, hh, K2.out, HP1.out⟩
            case rest =>
              obtain ⟨q, h', d2, rfl, rfl, hq1, hq2, hh', K3, HP2⟩ := hcut
              clear K2
              have KK := Lib.hid K3
              have HDS2 := Lib.hid K3.size
              clear K3
              go_upto_region 15 with fail
              go_cut [68] from 19 to 133 (fun s68 wx => ∃ B, s68 = .bool B ∧ wx = wc)
              case first =>
                cases wb <;> cases wp <;>
                  (go_wp2_with fail
                   go_meet
                   exact ⟨_, rfl, rfl⟩)
              case rest =>
                obtain ⟨B, rfl, rfl⟩ := hcut
                have hsd2 : a' + L ≤ d2.size := by have := HDS2.out; omega
                have HBL := Lib.hid (show Sort.Below ltInt a' (a' + L) d2 from Sort.Below.perm HB.out.1 (by have := HDS.out; omega) HP2.out)
                go_upto_if 68 with fail
                go_cut [] from 19 to 133 (fun wx => ∃ d3 : Array Int, At w g o c n wx d3 ∧ Hid (PermIn a' (a' + L) dk d3))
                case first =>
                  cases B
                  · go_wp2_with fail
                    go_meet
                    case rel => exact ⟨d2, KK.out, HP2⟩
                  · have hc := partialU g o c cap n a' (a' + L) d2 wc KK.out.row HDS2.out (by omega) hb' hsz
                    have hr := partialInsertionSort_holds swo_ltInt d2 a' (a' + L) (by omega) hsd2 HBL.out
                    obtain ⟨d3, r, hp⟩ : ∃ d3 r, partialInsertionSort ltInt d2 a' (a' + L) = (d3, r) := ⟨_, _, rfl⟩
                    rw [hp] at hc hr
                    have HC := Lib.hid hc
                    have HR := Lib.hid hr
                    clear hc hr hp
                    cases r
                    · go_wp2_with (go_at_call 151; refine Calls.mono HC.out ?_; rintro e w3 ⟨rfl, K3⟩)
                      go_meet
                      case rel => exact ⟨d3, KK.out.then_ K3, permIn_trans _ _ _ _ _ HP2.out HR.out.1⟩
                    · go_wp2_with (go_at_call 151; refine Calls.mono HC.out ?_; rintro e w3 ⟨rfl, K3⟩)
                      (try simp only [Exit.inBlock, Exit.then]); refine bodyPost_ret (results_none rfl _ _ _) rfl ?_
                      exact ⟨rfl, _, KK.out.then_ K3, HB.out.2 _ (permIn_trans _ _ _ _ _ HP2.out HR.out.1) (HR.out.2 (by first | rfl | trivial))⟩
                case rest =>
                  obtain ⟨d3, K3, HP3⟩ := hcut
                  clear KK HBL
                  have KK := Lib.hid K3
                  have HDS3 := Lib.hid K3.size
                  clear K3
                  have hsd3 : a' + L ≤ d3.size := by have := HDS3.out; omega
                  have HBL := Lib.hid (show Sort.Below ltInt a' (a' + L) d3 from Sort.Below.perm HB.out.1 (by have := HDS.out; omega) HP3.out)
                  have HND := Lib.hid (fun R (h1 : PermIn a' (a' + L) d3 R) h2 => HB.out.2 R (permIn_trans _ _ _ _ _ HP3.out h1) h2)
                  obtain ⟨G, HG, hc, hf⟩ := KK.out.fam
                  go_upto_region 17 with fail
                  go_cut [87] from 19 to 133 (fun s87 wx => ∃ B, s87 = .bool B ∧ Hid (B = true → 0 < a' ∧ ltInt d3[a' - 1]! d3[q]! = false) ∧ At w g o c n wx d3)
                  case first =>
                    rcases Nat.eq_zero_or_pos a' with ha0 | ha0
                    · have ha0z : decide ((a' : Int) > 0) = false := decide_eq_false (by omega)
                      go_big_quiet (first | (go_at_call 134; refine Calls.quiet_of_same (cmpLess_any _ _ _)))
                      go_wp2_with fail
                      go_meet
                      case rel => exact ⟨_, rfl, fun h => (by cases h), KK.out.drewN nq⟩
                    · have ha0z : (a' : Int) > 0 := by omega
                      go_big_quiet (first | (go_at_call 134; refine Calls.quiet_of_same (cmpLess_any _ _ _)))
                      go_wp2_with fail
                      go_meet
                      case rel => exact ⟨_, rfl, fun h => ⟨ha0, by rw [← HG.out, ← HG.out]; simpa using h⟩, KK.out.drewN nq⟩
                  case rest =>
                    obtain ⟨B2, rfl, HB2, K4⟩ := hcut
                    clear KK hc hf HG
                    have KK := Lib.hid K4
                    clear K4
                    cases B2
                    · have hcp := partU g o c cap n a' (a' + L) q d3 wc KK.out.row HDS3.out hq1 hq2 hb' hsz
                      obtain ⟨mid, ap, d4, hx⟩ : ∃ mid ap d4, partition ltInt d3 a' (a' + L) q = (mid, ap, d4) := ⟨_, _, _, rfl⟩
                      obtain ⟨r1, r2, r3, r4, r5, r6, r7⟩ := round_part swo_ltInt (partition_holds ltInt) hq1 hq2 hsd3 HBL.out hx
                      rw [hx] at hcp
                      have HC := Lib.hid hcp
                      have HR := Lib.hid (And.intro r4 (And.intro r5 (And.intro r6 r7)))
                      clear hcp hx r4 r5 r6 r7 r3
                      go_upto_if 113 with (go_at_call 153; refine Calls.mono HC.out ?_; rintro e w5 ⟨rfl, K5⟩)
                      have KK2 := Lib.hid (KK.out.then_ K5)
                      clear KK K5 HC
                      by_cases h4 : mid - a' < a' + L - mid
                      · have h4z : (mid : Int) - (a' : Int) < (a' : Int) + (L : Int) - (mid : Int) := by omega
                        have HIH := Lib.hid (IH.out a' mid l d4 w5 (by omega) KK2.out.row KK2.out.size r1 (by omega) (by omega) HR.out.1)
                        go_wp2_with (go_at_call 132; refine Calls.mono HIH.out ?_; rintro e w6 ⟨rfl, d5, K6, P6, S6⟩)
                        have HX := Lib.hid (HR.out.2.2.1 d5 P6 S6)
                        clear P6 S6
                        go_roundg (a' + L - (mid + 1))
                        case measure => omega
                        case rel => exact ⟨mid + 1, a' + L, l, _, _, d5, by go_num, rfl, rfl, rfl, rfl, by omega, hb', Nat.le_refl _, by omega, by omega, KK2.out.then_ K6, HX.out.1, fun R h1 h2 => HND.out R (HX.out.2 R h1 h2).1 (HX.out.2 R h1 h2).2⟩
                      · have h4z : ¬ ((mid : Int) - (a' : Int) < (a' : Int) + (L : Int) - (mid : Int)) := by omega
                        have hih := IH.out (mid + 1) (a' + L) l d4 w5 (by omega) KK2.out.row KK2.out.size (by omega) hb' (by omega) HR.out.2.1
                        rw [show ((mid + 1 : Nat) : Int) = (mid : Int) + 1 by omega] at hih
                        have HIH := Lib.hid hih
                        clear hih
                        go_wp2_with (go_at_call 132; refine Calls.mono HIH.out ?_; rintro e w6 ⟨rfl, d5, K6, P6, S6⟩)
                        have HX := Lib.hid (HR.out.2.2.2 d5 P6 S6)
                        clear P6 S6
                        go_roundg (mid - a')
                        case measure => omega
                        case rel => exact ⟨a', mid, l, _, _, d5, rfl, rfl, rfl, rfl, rfl, r1, by omega, Nat.le_refl _, by omega, by omega, KK2.out.then_ K6, HX.out.1, fun R h1 h2 => HND.out R (HX.out.2 R h1 h2).1 (HX.out.2 R h1 h2).2⟩
                    · have hcp := partEqU g o c cap n a' (a' + L) q d3 wc KK.out.row HDS3.out hq1 hq2 hb' hsz
                      obtain ⟨mid, d4, hx⟩ : ∃ mid d4, partitionEqual ltInt d3 a' (a' + L) q = (mid, d4) := ⟨_, _, rfl⟩
                      obtain ⟨r1, r2, r3, r4, r5⟩ := round_eq swo_ltInt (partitionEqual_holds ltInt) (HB2.out rfl).1 hq1 hq2 hsd3 HBL.out (HB2.out rfl).2 hx
                      rw [hx] at hcp
                      have HC := Lib.hid hcp
                      have HR := Lib.hid (And.intro r4 r5)
                      clear hcp hx r4 r5 r3
                      go_wp2_with (go_at_call 152; refine Calls.mono HC.out ?_; rintro e w5 ⟨rfl, K5⟩)
                      go_roundg (a' + L - mid)
                      case measure => omega
                      case rel => exact ⟨mid, a' + L, l, _, _, d4, rfl, rfl, rfl, rfl, rfl, r2, hb', Nat.le_refl _, by omega, by omega, KK.out.then_ K5, HR.out.1, fun R h1 h2 => HND.out R (HR.out.2 R h1 h2).1 (HR.out.2 R h1 h2).2⟩

set_option maxHeartbeats 2000000 in
set_option maxRecDepth 100000 in
theorem sortU (g o c cap n : Nat) (d : Array Int) (w : World) (hu : URow w g o c d) (hn : d.size = n) (hsz : n < 1152921504606846976) :
    Calls Tryz.prog 121 #[.slice (some ⟨g, o, none⟩) n cap] w fun e w' =>
      e = .returned (.tuple #[]) ∧ ∃ d', At w g o c n w' d' ∧ PermIn 0 n d d' ∧ SortedIn ltInt 0 n d' := by
  have hlim : Lib.bitLen n < 1152921504606846976 := Nat.lt_of_le_of_lt (Lib.bitLen_le n 62 (by omega) (by omega)) (by omega)
  have hl : Calls Tryz.prog 130 #[.int .u64 (n : Int)] w fun e w' => e = .returned (.int .i64 (Lib.bitLen n : Nat)) ∧ w' = w := by
    have h := Any.bits_Len (SlLaysF0.n15.bits Tryz.bitsLen) (n : Int) w (by omega) (by omega)
    rwa [Int.toNat_natCast] at h
  have HP := Lib.hid (pdqU g o c cap n hsz (n + 1) 0 n (Lib.bitLen n) d w (by omega) hu hn (Nat.zero_le _) (Nat.le_refl _) hlim (Or.inl rfl))
  have HL := Lib.hid hl
  have wr : IntKind.u64.wrap (n : Int) = n := by simp [IntKind.wrap, IntKind.bits, IntKind.signed]; omega
  clear hu hn hl
  go_enter Tryz.func121, Tryz.ntmps121
  go_wp2_with (first
    | (go_at_call 130; refine Calls.mono HL.out ?_; rintro e w' ⟨rfl, rfl⟩)
    | (go_at_call 132; refine Calls.mono HP.out ?_; rintro e w1 ⟨rfl, d1, K1, P1, S1⟩))
  go_end0
  exact ⟨rfl, d1, K1, P1, S1⟩

end Go.Proofs.YtcceololijefiaaGreatDoor
/-
  Rows of words that stand for what variables have: a row of the call's own, a row that is read; a loop that collects them; the sort.
-/
namespace Go.Proofs.YtcceololijefiaaGreatDoor
open Go.RowKit Go.Sort

/-- The value of a word. -/
def wd (b : List Int) : Value := .int .u32 ((encB b : Nat) : Int)
def arrW (S : List (List Int)) : Array Int := (S.map fun b => ((encB b : Nat) : Int)).toArray
theorem arrW_size (S : List (List Int)) : (arrW S).size = S.length := by simp [arrW]
theorem arrW_at (S : List (List Int)) {j : Nat} (hj : j < S.length) : (arrW S)[j]! = ((encB S[j] : Nat) : Int) := by
  rw [getElem!_pos (arrW S) j (by rw [arrW_size]; exact hj)]
  simp [arrW]
theorem Tryz.infoWord : (Tryz.prog.info? 83).map (fun i => (i.zero, i.size, i.bytes)) = some (some (.int .u32 0), 1, 4) := by kernel_rfl

/-- A row of words that is read. -/
def RdW (w : World) (B : Nat) (v : Value) (S : List (List Int)) : Prop :=
  ∃ A c, v = .slice A S.length c ∧ S.length ≤ c ∧ (0 < S.length → ∃ b o, A = some ⟨b, o, none⟩ ∧ b < B ∧ ∀ k (h : k < S.length), w.cell? ⟨b, o + k, none⟩ = some (wd S[k]))
theorem RdW.below {w w' : World} {B B' : Nat} {v : Value} {S : List (List Int)} (h : RdW w B v S) (hb : Below B' w w') (hB : B ≤ B') : RdW w' B v S := by
  obtain ⟨A, c, rfl, hc, h⟩ := h
  refine ⟨A, c, rfl, hc, fun hn => ?_⟩
  obtain ⟨b, o, rfl, hlt, hk⟩ := h hn
  exact ⟨b, o, rfl, hlt, fun k hkl => (hb.cell (p := ⟨b, o + k, none⟩) (by show b < B'; omega)).trans (hk k hkl)⟩
theorem RdW.more {w : World} {B B' : Nat} {v : Value} {S : List (List Int)} (h : RdW w B v S) (hB : B ≤ B') : RdW w B' v S := by
  obtain ⟨A, c, rfl, hc, h⟩ := h
  refine ⟨A, c, rfl, hc, fun hn => ?_⟩
  obtain ⟨b, o, rfl, hlt, hk⟩ := h hn
  exact ⟨b, o, rfl, by omega, hk⟩
theorem RdW.on {w w' : World} {v : Value} {S : List (List Int)} (h : RdW w w.heap.size v S) (hb : Below w.heap.size w w') : RdW w' w'.heap.size v S := (h.below hb (Nat.le_refl _)).more hb.size

/-- A row of the call's own, of blocks from lo on and below hi. -/
def OwnW (w : World) (lo hi : Nat) (v : Value) (S : List (List Int)) : Prop :=
  w.ownsRow lo 83 1 v S.length (S.map wd) ∧ ∀ g, v.ownBlock = some g → g < hi

section
variable {w w' : World} {lo hi lo' hi' : Nat} {v : Value} {S : List (List Int)}
theorem OwnW.form (h : OwnW w lo hi v S) : ∃ A c, v = .slice A S.length c := by
  rcases h.1.2 with ⟨rfl, h0⟩ | ⟨g, cap, _, rfl, _⟩
  · exact ⟨none, 0, by rw [h0]⟩
  · exact ⟨_, _, rfl⟩
theorem OwnW.only (h : OwnW w lo hi v S) (ho : Only lo' hi' w w') (hd : hi ≤ lo' ∨ hi' ≤ lo) : OwnW w' lo hi v S := by
  obtain ⟨⟨hlen, h⟩, hlt⟩ := h
  refine ⟨⟨hlen, ?_⟩, hlt⟩
  rcases h with h | ⟨g, cap, cur, rfl, hbg, hg, r⟩
  · exact .inl h
  · have := hlt g rfl
    exact .inr ⟨g, cap, cur, rfl, hbg, by rw [ho.block g (Blk.lt hg) (by omega)]; exact hg, r⟩
theorem OwnW.below {B : Nat} (h : OwnW w lo hi v S) (hb : Below B w w') (hB : hi ≤ B) : OwnW w' lo hi v S := by
  obtain ⟨⟨hlen, h⟩, hlt⟩ := h
  refine ⟨⟨hlen, ?_⟩, hlt⟩
  rcases h with h | ⟨g, cap, cur, rfl, hbg, hg, r⟩
  · exact .inl h
  · exact .inr ⟨g, cap, cur, rfl, hbg, by rw [hb.block g (by have := hlt g rfl; omega)]; exact hg, r⟩
theorem OwnW.mono (h : OwnW w lo hi v S) (h1 : lo' ≤ lo) (h2 : hi ≤ hi') : OwnW w lo' hi' v S := by
  obtain ⟨⟨hlen, h⟩, hlt⟩ := h
  refine ⟨⟨hlen, ?_⟩, fun g hg => by have := hlt g hg; omega⟩
  rcases h with h | ⟨g, cap, cur, rfl, hbg, r⟩
  · exact .inl h
  · exact .inr ⟨g, cap, cur, rfl, by omega, r⟩
/-- A row with a block, as the sort takes it. -/
theorem OwnW.at_ (h : OwnW w lo hi v S) : (v = .slice none 0 0 ∧ S = []) ∨ ∃ g c, v = .slice (some ⟨g, 0, none⟩) S.length c ∧ lo ≤ g ∧ g < hi ∧ g < w.heap.size ∧ URow w g 0 c (arrW S) ∧ S.length ≤ c ∧ c ≤ maxLen := by
  obtain ⟨⟨hlen, h⟩, hlt⟩ := h
  rcases h with ⟨rfl, h0⟩ | ⟨g, cap, cur, rfl, hbg, hg, h1, h2, h3, h4⟩
  · exact .inl ⟨rfl, List.eq_nil_of_length_eq_zero h0⟩
  · refine .inr ⟨g, cap, rfl, hbg, hlt g rfl, Blk.lt hg, ⟨cur, hg, by omega, fun j hj => ?_⟩, h1, h2⟩
    have hjl : j < S.length := by rw [arrW_size] at hj; exact hj
    rw [Nat.zero_add, arrW_at S hjl, ← Array.getElem?_toList, ← List.getElem?_take_of_lt (show j < S.length * 1 by omega), h4]
    simp [hjl, wd]
/-- And back. -/
theorem OwnW.of {g c : Nat} (h : URow w g 0 c (arrW S)) (h1 : lo ≤ g) (h2 : g < hi) (h3 : S.length ≤ c) (h4 : c ≤ maxLen) : OwnW w lo hi (.slice (some ⟨g, 0, none⟩) S.length c) S := by
  obtain ⟨cur, hg, hs, hc⟩ := h
  refine ⟨⟨by simp, .inr ⟨g, c, cur, rfl, h1, hg, h3, h4, by omega, ?_⟩⟩, fun g' hg' => by simp [Value.ownBlock] at hg'; omega⟩
  apply List.ext_getElem?
  intro j
  by_cases hj : j < S.length
  · rw [List.getElem?_take_of_lt (by omega), Array.getElem?_toList]
    have := hc j (by rw [arrW_size]; exact hj)
    rw [Nat.zero_add] at this
    rw [this, arrW_at S hj]
    simp [hj, wd]
  · rw [List.getElem?_eq_none (by simp; omega), List.getElem?_eq_none (by simp; omega)]
theorem OwnW.rd (h : OwnW w lo hi v S) : RdW w hi v S := by
  rcases h.at_ with ⟨rfl, rfl⟩ | ⟨g, c, rfl, h1, h2, h3, h4, h5, h6⟩
  · exact ⟨none, 0, rfl, by simp, fun h => absurd h (by simp)⟩
  · refine ⟨_, c, rfl, h5, fun _ => ⟨g, 0, rfl, h2, fun k hk => ?_⟩⟩
    rw [h4.cell (by rw [arrW_size]; exact hk), arrW_at S hk]
    rfl
end

/-- A list of words that are those of a list, each once in other order. -/
theorem perm_arrW {S : List (List Int)} {d : Array Int} (h : d.toList.Perm (arrW S).toList) : ∃ S', S'.Perm S ∧ d = arrW S' := by
  have e : (arrW S).toList = S.map fun b => ((encB b : Nat) : Int) := by simp [arrW]
  rw [e] at h
  have key : ∀ (l : List Int) (T : List (List Int)), l.Perm (T.map fun b => ((encB b : Nat) : Int)) → ∃ S' : List (List Int), S'.Perm T ∧ l = S'.map fun b => ((encB b : Nat) : Int) := by
    intro l
    induction l with
    | nil => intro T hp; exact ⟨[], by
        have h0 := hp.length_eq
        rw [List.length_map] at h0
        rw [List.eq_nil_of_length_eq_zero h0.symm], rfl⟩
    | cons x l ih =>
      intro T hp
      have hx : x ∈ T.map fun b => ((encB b : Nat) : Int) := hp.mem_iff.1 (List.mem_cons_self)
      obtain ⟨b, hb, rfl⟩ := List.mem_map.1 hx
      obtain ⟨T1, T2, rfl⟩ := List.append_of_mem hb
      have hp2 : l.Perm ((T1 ++ T2).map fun b => ((encB b : Nat) : Int)) := by
        have h1 : ((T1 ++ b :: T2).map fun b => ((encB b : Nat) : Int)).Perm (((encB b : Nat) : Int) :: ((T1 ++ T2).map fun b => ((encB b : Nat) : Int))) := by
          exact (List.perm_middle (a := b) (l₁ := T1) (l₂ := T2)).map fun b => ((encB b : Nat) : Int)
        exact (hp.trans h1).cons_inv
      obtain ⟨S', h1, rfl⟩ := ih _ hp2
      exact ⟨b :: S', (h1.cons b).trans List.perm_middle.symm, rfl⟩
  obtain ⟨S', h1, h2⟩ := key d.toList S h
  exact ⟨S', h1, by rw [arrW, ← h2]⟩

/-- Words that ascend, doubles let in. -/
def UpW (S : List (List Int)) : Prop := S.Pairwise fun a b => encB a ≤ encB b

set_option maxHeartbeats 1000000 in
set_option maxRecDepth 100000 in
theorem pdqNil (l : Nat) (w : World) :
    Calls Tryz.prog 132 #[.slice none 0 0, .int .i64 0, .int .i64 0, .int .i64 l] w fun e w' => e = .returned (.tuple #[]) ∧ w' = w := by
  have HI : ∀ w, Calls Tryz.prog 146 #[.slice none 0 0, .int .i64 0, .int .i64 0] w fun e w' => e = .returned (.tuple #[]) ∧ w' = w := by
    intro w
    go_enter Tryz.func146, Tryz.ntmps146
    go_wp2_with fail
    go_loopg [6] 0 (fun _ vi wr => vi = .int .i64 1 ∧ wr = w)
    case atStart => exact ⟨rfl, rfl⟩
    case round =>
      obtain ⟨rfl, rfl⟩ := hrel
      go_wp2_with fail
      go_end0
      exact ⟨rfl, rfl⟩
  go_enter Tryz.func132, Tryz.ntmps132
  go_wp2_with fail
  go_loopg [1, 2] 0 (fun _ va vb wr => va = .int .i64 0 ∧ vb = .int .i64 0 ∧ wr = w)
  case atStart => exact ⟨rfl, rfl, rfl⟩
  case round =>
    obtain ⟨rfl, rfl, rfl⟩ := hrel
    go_wp2_with (go_at_call 146; refine Calls.mono (HI _) ?_; rintro e w1 ⟨rfl, rfl⟩)
    (try simp only [Exit.inBlock, Exit.then]); refine bodyPost_ret (results_none rfl _ _ _) rfl ?_
    exact ⟨rfl, rfl⟩

set_option maxHeartbeats 1000000 in
set_option maxRecDepth 100000 in
theorem sortNil (w : World) : Calls Tryz.prog 121 #[.slice none 0 0] w fun e w' => e = .returned (.tuple #[]) ∧ w' = w := by
  have hl : Calls Tryz.prog 130 #[.int .u64 0] w fun e w' => e = .returned (.int .i64 (Lib.bitLen 0 : Nat)) ∧ w' = w := by
    have h := Any.bits_Len (SlLaysF0.n15.bits Tryz.bitsLen) (0 : Int) w (by omega) (by omega)
    exact h
  have HL := Lib.hid hl
  clear hl
  go_enter Tryz.func121, Tryz.ntmps121
  go_wp2_with (first
    | (go_at_call 130; refine Calls.mono HL.out ?_; rintro e w' ⟨rfl, rfl⟩)
    | (go_at_call 132; refine Calls.mono (pdqNil _ _) ?_; rintro e w1 ⟨rfl, rfl⟩))
  go_end0
  exact ⟨rfl, rfl⟩

/-- slices.Sort of a row of words: the same words, ascending. -/
theorem sortW_any (lo hi : Nat) (v : Value) (S : List (List Int)) (w : World) (h : OwnW w lo hi v S) (hn : S.length ≤ 1048576) :
    Calls Tryz.prog 121 #[v] w fun e w' =>
      e = .returned (.tuple #[]) ∧ ∃ S', S'.Perm S ∧ UpW S' ∧ OwnW w' lo hi v S' ∧ Only lo hi w w' := by
  rcases h.at_ with ⟨rfl, rfl⟩ | ⟨g, c, rfl, h1, h2, h3, h4, h5, h6⟩
  · refine (sortNil w).mono ?_
    rintro e w' ⟨rfl, rfl⟩
    exact ⟨rfl, [], List.Perm.refl _, List.Pairwise.nil, h, Only.refl _ _ _⟩
  · refine (sortU g 0 c c S.length (arrW S) w h4 (arrW_size S) (by omega)).mono ?_
    rintro e w' ⟨rfl, d', K, hp, hs⟩
    have hp2 : d'.toList.Perm (arrW S).toList := by
      have := hp.2.2
      have e1 : d'.extract 0 S.length = d' := by rw [← K.size]; simp
      have e2 : (arrW S).extract 0 S.length = arrW S := by rw [← arrW_size S]; simp
      rwa [e1, e2] at this
    obtain ⟨S', hS, rfl⟩ := perm_arrW hp2
    have hl := hS.length_eq
    refine ⟨rfl, S', hS, ?_, ?_, ⟨K.only.os, K.only.tape, K.only.output, K.only.size, fun k hk ho => K.only.block k hk (by omega)⟩⟩
    · refine List.pairwise_iff_getElem.2 fun i j hi' hj' hij => ?_
      have := hs i j (Nat.zero_le _) hij (by omega)
      rw [arrW_at S' hj', arrW_at S' hi'] at this
      simp only [ltInt, decide_eq_false_iff_not] at this
      omega
    · rw [← hl]
      exact OwnW.of K.row h1 h2 (by omega) h6

end Go.Proofs.YtcceololijefiaaGreatDoor
/-
  slices.Compact of a row of words that ascends.
-/
namespace Go.Proofs.YtcceololijefiaaGreatDoor
open Go.RowKit Go.Sort

section
variable {w : World} {g c : Nat} {d0 d : Array Int}
theorem heap_put (w : World) (g q : Nat) (d : Array Int) (os : Array Obj) {cur : Array Value} {t : TypeId} (hg : w.heap[g]? = some (.cells cur t (0, 0))) :
    (Sort.grow (putRow (Value.int .u32) (Sort.ahead w q) g 0 d) os).heap[g]? = some (.cells (putCells (Value.int .u32) 0 d cur) t (0, 0)) := by
  have hlt : g < w.heap.size := Blk.lt (w := w) (t := t) (cs := cur) hg
  simp only [putRow, mapBlock, Sort.grow, Sort.ahead, Array.getElem?_append, Array.size_modify]
  rw [if_pos hlt, Array.getElem?_modify, if_pos rfl, hg]
  rfl
theorem URow.put (h : URow w g 0 c d0) (q : Nat) (d : Array Int) (hs : d.size = d0.size) (os : Array Obj) : URow (Sort.grow (putRow (Value.int .u32) (Sort.ahead w q) g 0 d) os) g 0 c d := by
  obtain ⟨cur, hg, hc, hx⟩ := h
  refine ⟨_, heap_put w g q d os hg, by simp [putCells, hc], fun j hj => ?_⟩
  have := hx j (by omega)
  rw [Nat.zero_add] at this ⊢
  simp only [putCells, Array.getElem?_mapIdx, this, Option.map_some]
  rw [if_pos ⟨Nat.zero_le _, by omega⟩, Nat.sub_zero]
theorem Only.put (w : World) (g q : Nat) (d : Array Int) (os : Array Obj) : Only g (g + 1) w (Sort.grow (putRow (Value.int .u32) (Sort.ahead w q) g 0 d) os) := by
  refine ⟨rfl, rfl, rfl, ?_, fun k hk ho => ?_⟩
  · simp [putRow, mapBlock, Sort.grow, Sort.ahead]
  · have hne : ¬ g = k := by omega
    simp only [putRow, mapBlock, Sort.grow, Sort.ahead, Array.getElem?_append, Array.size_modify, Array.getElem?_modify, hne, if_false]
    rw [if_pos hk]
theorem URow.take (h : URow w g 0 c d) {d2 : Array Int} (hs : d2.size ≤ d.size) (he : ∀ j, j < d2.size → d2[j]! = d[j]!) : URow w g 0 c d2 := by
  obtain ⟨cur, hg, hc, hx⟩ := h
  exact ⟨cur, hg, hc, fun j hj => by rw [hx j (by omega), he j hj]⟩
theorem URow.holds (h : URow w g 0 c d) : Holds (Value.int .u32) w g 0 d := fun _ hj => ⟨h.cell hj, h.frozen _⟩
theorem grow_none (w : World) : Sort.grow w #[] = w := by simp [Sort.grow]
theorem Only.wide {lo hi g : Nat} {w w' : World} (h : Only g (g + 1) w w') (h1 : lo ≤ g) (h2 : g < hi) : Only lo hi w w' := ⟨h.os, h.tape, h.output, h.size, fun k hk ho => h.block k hk (by omega)⟩
end

/-- Those that are kept. -/
def compW (S : List (List Int)) : List (List Int) := ((List.range S.length).filter (Lib.keeps (arrW S))).map fun i => S.getD i []
theorem compW_words (S : List (List Int)) : (compW S).map (fun b => ((encB b : Nat) : Int)) = Lib.compactUpTo (arrW S) (arrW S).size := by
  unfold compW Lib.compactUpTo
  rw [arrW_size, List.map_map]
  refine List.map_congr_left fun i hi => ?_
  have hlt : i < S.length := List.mem_range.1 (List.mem_filter.1 hi).1
  rw [arrW_at S hlt]
  simp [hlt]
theorem compW_up {S : List (List Int)} (h : UpW S) : (compW S).Pairwise fun a b => encB a < encB b := by
  unfold compW
  rw [List.pairwise_map]
  have hr : ((List.range S.length).filter (Lib.keeps (arrW S))).Pairwise (· < ·) := List.Pairwise.sublist List.filter_sublist List.pairwise_lt_range
  refine hr.imp_of_mem fun {i j} hi hj hij => ?_
  have hil : i < S.length := List.mem_range.1 (List.mem_filter.1 hi).1
  obtain ⟨hjl, hk⟩ := List.mem_filter.1 hj
  have hjl : j < S.length := List.mem_range.1 hjl
  have hne : (arrW S)[j]! ≠ (arrW S)[j - 1]! := by
    intro e
    rw [Lib.keeps_neg (by omega) e] at hk
    cases hk
  rw [arrW_at S hjl, arrW_at S (show j - 1 < S.length by omega)] at hne
  have h1 := List.pairwise_iff_getElem.1 h (j - 1) j (by omega) hjl (by omega)
  have h2 : encB S[i] ≤ encB (S[j - 1]'(by omega)) := by
    rcases Nat.lt_or_ge i (j - 1) with hlt | hge
    · exact List.pairwise_iff_getElem.1 h i (j - 1) hil (by omega) hlt
    · have : i = j - 1 := by omega
      subst this
      exact Nat.le_refl _
  simp only [List.getD_eq_getElem?_getD, List.getElem?_eq_getElem hil, List.getElem?_eq_getElem hjl, Option.getD_some]
  omega
theorem compW_mem {S : List (List Int)} (hok : ∀ b ∈ S, bindOk b = true) (b : List Int) : b ∈ compW S ↔ b ∈ S := by
  constructor
  · intro h
    obtain ⟨i, hi, rfl⟩ := List.mem_map.1 h
    have hil : i < S.length := List.mem_range.1 (List.mem_filter.1 hi).1
    simp [hil]
  · intro h
    obtain ⟨i, hi, rfl⟩ := List.getElem_of_mem h
    clear h
    induction i with
    | zero => exact List.mem_map.2 ⟨0, List.mem_filter.2 ⟨List.mem_range.2 hi, Lib.keeps_lt_one _ 0 (by omega)⟩, by simp [hi]⟩
    | succ i ih =>
      by_cases e : (arrW S)[i + 1]! = (arrW S)[i + 1 - 1]!
      · rw [Nat.add_sub_cancel, arrW_at S hi, arrW_at S (show i < S.length by omega)] at e
        have : S[i + 1] = S[i] := encB_inj (hok _ (List.getElem_mem hi)) (hok _ (List.getElem_mem (show i < S.length by omega))) (by omega)
        rw [this]
        exact ih (by omega)
      · exact List.mem_map.2 ⟨i + 1, List.mem_filter.2 ⟨List.mem_range.2 hi, Lib.keeps_pos e⟩, by simp [hi]⟩
theorem compW_length (S : List (List Int)) : (compW S).length ≤ S.length := by
  unfold compW
  rw [List.length_map]
  exact Nat.le_trans (List.length_filter_le _ _) (by simp)

set_option maxHeartbeats 1000000 in
set_option maxRecDepth 100000 in
theorem compactNil (w : World) : Calls Tryz.prog 122 #[.slice none 0 0] w fun e w' => e = .returned (.slice none 0 0) ∧ w' = w := by
  go_enter Tryz.func122, Tryz.ntmps122
  go_wp2_with fail
  go_ret
  exact ⟨rfl, rfl⟩

theorem compactW_any (lo hi : Nat) (v : Value) (S : List (List Int)) (w : World) (h : OwnW w lo hi v S) (hok : ∀ b ∈ S, bindOk b = true) (hup : UpW S) (hn : S.length ≤ 1048576) :
    Calls Tryz.prog 122 #[v] w fun e w' =>
      ∃ A c T, e = .returned (.slice A T.length c) ∧ OwnW w' lo hi (.slice A T.length c) T ∧ Only lo hi w w' ∧ (T.Pairwise fun a b => encB a < encB b) ∧ (∀ b, b ∈ T ↔ b ∈ S) ∧ T.length ≤ S.length := by
  rcases h.at_ with ⟨rfl, rfl⟩ | ⟨g, c, rfl, h1, h2, h3, h4, h5, h6⟩
  · refine (compactNil w).mono ?_
    rintro e w' ⟨rfl, rfl⟩
    exact ⟨none, 0, [], rfl, h, Only.refl _ _ _, List.Pairwise.nil, fun b => Iff.rfl, Nat.le_refl _⟩
  · have hcon := AnyE.slices_Compact Tryz.compactB (Value.int .u32) (fun _ => rfl) (EqlAt.intD _ _ .u32) (NeqAt.intD _ _ .u32) 0 Tryz.zeroValue83 g 0 c (arrW S) w h4.holds (by rw [arrW_size]; omega) (by rw [arrW_size]; omega)
    rw [arrW_size] at hcon
    refine Calls.mono hcon ?_
    rintro e w' ⟨rfl, q, rfl⟩
    have hw := compW_words S
    rw [arrW_size] at hw
    have hl : (Lib.compactUpTo (arrW S) S.length).length = (compW S).length := by rw [← hw, List.length_map]
    have hcl := compW_length S
    rw [hl, ← hw]
    have hu := h4.put q ((compW S).map (fun b => ((encB b : Nat) : Int)) ++ List.replicate (S.length - (compW S).length) 0).toArray (by simp [arrW_size]; omega) #[]
    have ho := Only.put w g q ((compW S).map (fun b => ((encB b : Nat) : Int)) ++ List.replicate (S.length - (compW S).length) 0).toArray #[]
    rw [grow_none] at hu ho
    refine ⟨_, c, compW S, rfl, OwnW.of (hu.take (by simp [arrW_size]) fun j hj => ?_) h1 h2 (by omega) h6, ho.wide h1 h2, compW_up hup, compW_mem hok, hcl⟩
    rw [arrW_size] at hj
    rw [arrW_at _ hj, getElem!_pos _ j (by simp; omega)]
    simp [hj]

end Go.Proofs.YtcceololijefiaaGreatDoor
/-
  slices.BinarySearch and slices.BinarySearchFunc of words; the order of what some variables have (joinRows' closure).
-/
namespace Go.Proofs.YtcceololijefiaaGreatDoor
open Go.RowKit Go.Sort

theorem RdW.get {w : World} {B c n : Nat} {A : Option Addr} {S : List (List Int)} (h : RdW w B (.slice A n c) S) {k : Nat} (hk : k < S.length) : ∃ b o, A = some ⟨b, o, none⟩ ∧ b < B ∧ w.cell? ⟨b, o + k, none⟩ = some (.int .u32 ((encB S[k] : Nat) : Int)) := by
  obtain ⟨A', c', e, hc, h⟩ := h
  injection e with e1 e2 e3
  subst e1
  obtain ⟨b, o, rfl, hb, hx⟩ := h (by omega)
  exact ⟨b, o, rfl, hb, hx k hk⟩

theorem cmpLess_is {x y : Int} {b : Bool} (h : ltInt x y = b) (w : World) :
    Calls Tryz.prog 134 #[.int .u32 x, .int .u32 y] w fun e w' => e = .returned (.bool b) ∧ w' = w := h ▸ cmpLess_any x y w

/-- The places ahead of i have less than m, by the key. -/
def LessN (key : List Int → Nat) (T : List (List Int)) (m i : Nat) : Prop := ∀ k (h : k < T.length), k < i → key T[k] < m
def FromN (key : List Int → Nat) (T : List (List Int)) (m j : Nat) : Prop := ∀ k (h : k < T.length), j ≤ k → m ≤ key T[k]
theorem lessN_mid {key : List Int → Nat} {T : List (List Int)} {m h : Nat} (hup : T.Pairwise fun a b => key a ≤ key b) (hh : h < T.length) (e : key T[h] < m) : LessN key T m (h + 1) := fun k hk hlt => by
  by_cases e2 : k = h
  · subst e2
    exact e
  · have := List.pairwise_iff_getElem.1 hup k h hk hh (by omega)
    omega
theorem fromN_mid {key : List Int → Nat} {T : List (List Int)} {m h : Nat} (hup : T.Pairwise fun a b => key a ≤ key b) (hh : h < T.length) (e : ¬ key T[h] < m) : FromN key T m h := fun k hk hle => by
  by_cases e2 : k = h
  · subst e2
    omega
  · have := List.pairwise_iff_getElem.1 hup h k hh hk (by omega)
    omega

set_option maxHeartbeats 2000000 in
set_option maxRecDepth 100000 in
theorem searchW_any (v : Value) (T : List (List Int)) (m B : Nat) (R : Bool) (hR : R = T.any fun b => encB b == m) (w : World) (h : RdW w B v T) (hup : T.Pairwise fun a b => encB a < encB b) (hn : T.length ≤ 1048576) :
    Calls Tryz.prog 125 #[v, .int .u32 (m : Nat)] w fun e w' =>
      (∃ i : Int, e = .returned (.tuple #[.int .i64 i, .bool R])) ∧ w' = w := by
  have hup2 : T.Pairwise fun a b => encB a ≤ encB b := hup.imp fun h => Nat.le_of_lt h
  have HU := Lib.hid hup2
  have HUS := Lib.hid hup
  have HR := Lib.hid hR
  have H := Lib.hid h
  obtain ⟨A, c, rfl, hc, _⟩ := h
  clear hR hup hup2
  go_enter Tryz.func125, Tryz.ntmps125
  go_wp2_with fail
  go_loopg [7, 8] T.length (fun q vi vj wr => ∃ i j : Nat, vi = .int .i64 i ∧ vj = .int .i64 j ∧ i ≤ j ∧ j ≤ T.length ∧ j - i ≤ q ∧ wr = w ∧ Hid (LessN encB T m i ∧ FromN encB T m j))
  case atStart => exact ⟨0, T.length, rfl, rfl, Nat.zero_le _, Nat.le_refl _, Nat.sub_le _ _, rfl, fun k _ hk => absurd hk (by omega), fun k hk hle => absurd hk (by omega)⟩
  case round =>
    obtain ⟨i, j, rfl, rfl, hij, hj, hq, rfl, HI⟩ := hrel
    by_cases hlt : i < j
    · obtain ⟨p, hp⟩ : ∃ p, p = (i + j) / 2 := ⟨_, rfl⟩
      have hp1 : i ≤ p := by omega
      have hp2 : p < j := by omega
      have hpl : p < T.length := by omega
      have HM := Lib.hid (show ((i : Int) + (j : Int)) / 2 = (p : Int) by omega)
      obtain ⟨b, o, rfl, hbB, k1⟩ := H.out.get hpl
      obtain ⟨K, hK⟩ : ∃ K, K = encB T[p] := ⟨_, rfl⟩
      rw [← hK] at k1
      have HK := Lib.hid hK
      clear hK hp
      go_upto_region 5 with fail
      rw [HM.out]
      by_cases hl : K < m
      · have hl2 : ltInt (K : Int) (m : Int) = true := decide_eq_true (by omega)
        have HN := Lib.hid (lessN_mid HU.out hpl (by rw [← HK.out]; exact hl))
        have HL := Lib.hid hl2
        clear hl2 hl
        go_wp2_with (go_at_call 134; refine (cmpLess_is HL.out _).mono ?_; rintro e w' ⟨rfl, rfl⟩)
        go_roundg (j - (p + 1))
        case measure => omega
        case rel => exact ⟨p + 1, j, by go_num, rfl, by omega, hj, Nat.le_refl _, rfl, HN.out, HI.out.2⟩
      · have hl2 : ltInt (K : Int) (m : Int) = false := decide_eq_false (by omega)
        have HN := Lib.hid (fromN_mid HU.out hpl (by rw [← HK.out]; exact hl))
        have HL := Lib.hid hl2
        clear hl2 hl
        go_wp2_with (go_at_call 134; refine (cmpLess_is HL.out _).mono ?_; rintro e w' ⟨rfl, rfl⟩)
        go_roundg (p - i)
        case measure => omega
        case rel => exact ⟨i, p, rfl, rfl, hp1, by omega, Nat.le_refl _, rfl, HI.out.1, HN.out⟩
    · obtain rfl : i = j := by omega
      have HNN : ∀ W (x : Int), Calls Tryz.prog 135 #[.int .u32 x] W fun e w' => e = .returned (.bool false) ∧ w' = W := by
        intro W x
        go_enter Tryz.func135, Tryz.ntmps135
        go_wp2
        go_ret
        exact ⟨rfl, rfl⟩
      by_cases hpl : i < T.length
      · obtain ⟨b, o, rfl, hbB, k1⟩ := H.out.get hpl
        obtain ⟨K, hK⟩ : ∃ K, K = encB T[i] := ⟨_, rfl⟩
        rw [← hK] at k1
        have hRR : R = decide (K = m) := by
          rw [HR.out]
          by_cases e : K = m
          · rw [decide_eq_true e]
            exact List.any_eq_true.2 ⟨T[i], List.getElem_mem hpl, by simp [← hK, e]⟩
          · rw [decide_eq_false e]
            refine List.any_eq_false.2 fun x hx => ?_
            obtain ⟨k, hk, rfl⟩ := List.getElem_of_mem hx
            have h1 := HI.out.1 k hk
            have h2 := HI.out.2 i hpl (Nat.le_refl _)
            have h3 : i < k → m < encB T[k] := fun hik => by
              have := List.pairwise_iff_getElem.1 HUS.out i k hpl hk hik
              omega
            rcases Nat.lt_trichotomy k i with h | h | h
            · have := h1 h
              simp
              omega
            · subst h
              simpa [← hK] using e
            · have := h3 h
              simp
              omega
        have HRR := Lib.hid hRR
        clear hRR hK
        by_cases e : K = m
        · subst e
          go_wp2_with (go_at_call 135; refine (HNN _ _).mono ?_; rintro e w' ⟨rfl, rfl⟩)
          go_ret2
          rw [HRR.out]
          exact ⟨⟨(i : Int), by simp⟩, rfl⟩
        · have hne : ((K : Int) == (m : Int)) = false := by simp; omega
          go_wp2_with (go_at_call 135; refine (HNN _ _).mono ?_; rintro e w' ⟨rfl, rfl⟩)
          go_ret2
          rw [HRR.out]
          exact ⟨⟨(i : Int), by simp [e]⟩, rfl⟩
      · have hRR : R = false := by
          rw [HR.out]
          refine List.any_eq_false.2 fun x hx => ?_
          obtain ⟨k, hk, rfl⟩ := List.getElem_of_mem hx
          have h1 := HI.out.1 k hk (by omega)
          simp
          omega
        have HRR := Lib.hid hRR
        clear hRR
        go_wp2_with (go_at_call 135; refine (HNN _ _).mono ?_; rintro e w' ⟨rfl, rfl⟩)
        go_ret2
        rw [HRR.out]
        exact ⟨⟨_, rfl⟩, rfl⟩

end Go.Proofs.YtcceololijefiaaGreatDoor
/-
  The order of words by what some variables have: joinRows' closure, slices.SortFunc and slices.BinarySearchFunc by it.
-/
namespace Go.Proofs.YtcceololijefiaaGreatDoor
open Go.RowKit Go.Sort Go.Shelf

def cmpKey (x y : Nat) : Int := if x < y then -1 else if y < x then 1 else 0
theorem cmpCompareW_any (x y : Nat) (w : World) :
    Calls Tryz.prog 117 #[.int .u32 (x : Nat), .int .u32 (y : Nat)] w fun e w' => e = .returned (.int .i64 (cmpKey x y)) ∧ w' = w := by
  by_cases h1 : x < y
  · have hE : cmpKey x y = -1 := if_pos h1
    have h1z : (x : Int) < (y : Int) := by omega
    rw [hE]
    clear h1 hE
    go_enter Tryz.func117, Tryz.ntmps117
    go_wp2
    go_ret
    exact ⟨rfl, rfl⟩
  · by_cases h2 : y < x
    · have hE : cmpKey x y = 1 := by rw [cmpKey, if_neg h1, if_pos h2]
      have h1z : ¬ (x : Int) < (y : Int) := by omega
      have h2z : (y : Int) < (x : Int) := by omega
      rw [hE]
      clear h1 h2 hE
      go_enter Tryz.func117, Tryz.ntmps117
      go_wp2
      go_ret
      exact ⟨rfl, rfl⟩
    · obtain rfl : x = y := by omega
      have hE : cmpKey x x = 0 := by rw [cmpKey, if_neg h1, if_neg h1]
      rw [hE]
      clear h1 h2 hE
      go_enter Tryz.func117, Tryz.ntmps117
      go_wp2
      go_ret
      exact ⟨rfl, rfl⟩

/-- The key: the word of what the variables V have. -/
def keyV (V : Nat) (b : List Int) : Nat := encB (restr V b)

set_option maxHeartbeats 400000 in
theorem byShared_any (sb V : Nat) (a b : List Int) (ha : bindOk a = true) (hb : bindOk b = true) (w : World) (hc : w.cell? ⟨sb, 0, none⟩ = some (.int .u32 ((maskW V : Nat) : Int))) :
    Calls Tryz.prog 116 #[wd a, wd b, .pointer (some ⟨sb, 0, none⟩)] w fun e w' => e = .returned (.int .i64 (cmpKey (keyV V a) (keyV V b))) ∧ w' = w := by
  have h1 : bits .and .u32 ((encB a : Nat) : Int) ((maskW V : Nat) : Int) = ((keyV V a : Nat) : Int) := by rw [and_word32 (encB_lt ha) (maskW_lt V), enc_restr ha]; rfl
  have h2 : bits .and .u32 ((encB b : Nat) : Int) ((maskW V : Nat) : Int) = ((keyV V b : Nat) : Int) := by rw [and_word32 (encB_lt hb) (maskW_lt V), enc_restr hb]; rfl
  unfold wd
  go_enter Tryz.func116, Tryz.ntmps116
  go_wp2_with (go_at_call 117; refine (cmpCompareW_any _ _ _).mono ?_; rintro e w' ⟨rfl, rfl⟩)
  go_ret
  exact ⟨rfl, rfl⟩

/-- What variables have, as an element of a row. -/
abbrev Bnd : Type := { b : List Int // bindOk b = true }
instance : Inhabited Bnd := ⟨⟨noneB, noneB_ok⟩⟩
def encBnd (x : Bnd) : Value := .int .u32 ((encB x.1 : Nat) : Int)
def cfV (V : Nat) (x y : Bnd) : Int := cmpKey (keyV V x.1) (keyV V y.1)
theorem ltV (V : Nat) (x y : Bnd) : ltOf (cfV V) x y = decide (keyV V x.1 < keyV V y.1) := by
  unfold ltOf cfV cmpKey
  by_cases h : keyV V x.1 < keyV V y.1
  · simp [h]
  · rw [if_neg h]
    split <;> simp [h]
theorem swoV (V : Nat) : SWO (ltOf (cfV V)) where
  irrefl x := by rw [ltV]; simp
  trans x y z h1 h2 := by
    rw [ltV] at *
    simp only [decide_eq_true_eq] at *
    omega
  ntrans x y z h1 h2 := by
    rw [ltV] at *
    simp only [decide_eq_false_iff_not] at *
    omega
theorem bnds : ∀ S : List (List Int), (∀ b ∈ S, bindOk b = true) → ∃ D : List Bnd, D.map (·.1) = S
  | [], _ => ⟨[], rfl⟩
  | b :: S, h => by
    obtain ⟨D, hD⟩ := bnds S fun x hx => h x (List.mem_cons_of_mem _ hx)
    exact ⟨⟨b, h b List.mem_cons_self⟩ :: D, by rw [List.map_cons, hD]⟩

theorem arrW_bnds (D : List Bnd) : arrW (D.map (·.1)) = D.toArray.map fun x => ((encB x.1 : Nat) : Int) := by simp [arrW]

theorem put_bnd (w : World) (g : Nat) (d : Array Bnd) : putRow encBnd w g 0 d = putRow (Value.int .u32) w g 0 (arrW (d.toList.map (·.1))) := by
  have hs : (arrW (d.toList.map (·.1))).size = d.size := by rw [arrW_size]; simp
  unfold putRow
  congr 1
  funext c
  unfold putCells
  apply Array.ext (by simp)
  intro i h1 h2
  simp only [Array.getElem_mapIdx, hs]
  by_cases hi : 0 ≤ i ∧ i < 0 + d.size
  · rw [if_pos hi, if_pos hi, Nat.sub_zero, arrW_at _ (by simp; omega), getElem!_pos d i (by omega)]
    simp [encBnd]
  · rw [if_neg hi, if_neg hi]

set_option maxHeartbeats 1000000 in
set_option maxRecDepth 100000 in
theorem sortFNil (sb : Nat) (w : World) : Calls Tryz.prog 118 #[.slice none 0 0, .func (.func 116) #[] #[.pointer (some ⟨sb, 0, none⟩)]] w fun e w' => e = .returned (.tuple #[]) ∧ w' = w := by
  have HI : ∀ w, Calls Tryz.prog 136 #[.slice none 0 0, .int .i64 0, .int .i64 0, .func (.func 116) #[] #[.pointer (some ⟨sb, 0, none⟩)]] w fun e w' => e = .returned (.tuple #[]) ∧ w' = w := by
    intro w
    go_enter Tryz.func136, Tryz.ntmps136
    go_wp2_with fail
    go_loopg [8] 0 (fun _ vi wr => vi = .int .i64 1 ∧ wr = w)
    case atStart => exact ⟨rfl, rfl⟩
    case round =>
      obtain ⟨rfl, rfl⟩ := hrel
      go_wp2_with fail
      go_end0
      exact ⟨rfl, rfl⟩
  have HP : ∀ (l : Nat) w, Calls Tryz.prog 129 #[.slice none 0 0, .int .i64 0, .int .i64 0, .int .i64 l, .func (.func 116) #[] #[.pointer (some ⟨sb, 0, none⟩)]] w fun e w' => e = .returned (.tuple #[]) ∧ w' = w := by
    intro l w
    go_enter Tryz.func129, Tryz.ntmps129
    go_wp2_with fail
    go_loopg [1, 2] 0 (fun _ va vb wr => va = .int .i64 0 ∧ vb = .int .i64 0 ∧ wr = w)
    case atStart => exact ⟨rfl, rfl, rfl⟩
    case round =>
      obtain ⟨rfl, rfl, rfl⟩ := hrel
      go_wp2_with (go_at_call 136; refine Calls.mono (HI _) ?_; rintro e w1 ⟨rfl, rfl⟩)
      (try simp only [Exit.inBlock, Exit.then]); refine bodyPost_ret (results_none rfl _ _ _) rfl ?_
      exact ⟨rfl, rfl⟩
  have hl : Calls Tryz.prog 130 #[.int .u64 0] w fun e w' => e = .returned (.int .i64 (Lib.bitLen 0 : Nat)) ∧ w' = w := Any.bits_Len (SlLaysF0.n15.bits Tryz.bitsLen) (0 : Int) w (by omega) (by omega)
  have HL := Lib.hid hl
  clear hl
  go_enter Tryz.func118, Tryz.ntmps118
  go_wp2_with (first
    | (go_at_call 130; refine Calls.mono HL.out ?_; rintro e w' ⟨rfl, rfl⟩)
    | (go_at_call 129; refine Calls.mono (HP _ _) ?_; rintro e w1 ⟨rfl, rfl⟩))
  go_end0
  exact ⟨rfl, rfl⟩

theorem sortF_words (lo hi sb V : Nat) (v : Value) (R : List (List Int)) (w : World) (h : OwnW w lo hi v R) (hok : ∀ b ∈ R, bindOk b = true) (hn : R.length ≤ 1048576) (hsb : sb < lo ∨ hi ≤ sb) (hc : w.cell? ⟨sb, 0, none⟩ = some (.int .u32 ((maskW V : Nat) : Int))) :
    Calls Tryz.prog 118 #[v, .func (.func 116) #[] #[.pointer (some ⟨sb, 0, none⟩)]] w fun e w' =>
      e = .returned (.tuple #[]) ∧ ∃ R', R'.Perm R ∧ (R'.Pairwise fun a b => keyV V a ≤ keyV V b) ∧ OwnW w' lo hi v R' ∧ Only lo hi w w' := by
  rcases h.at_ with ⟨rfl, rfl⟩ | ⟨g, c, rfl, h1, h2, h3, h4, h5, h6⟩
  · refine (sortFNil sb w).mono ?_
    rintro e w' ⟨rfl, rfl⟩
    exact ⟨rfl, [], List.Perm.refl _, List.Pairwise.nil, h, Only.refl _ _ _⟩
  · obtain ⟨D, rfl⟩ := bnds R hok
    have hsz : (D.map (·.1)).length = D.toArray.size := by simp
    have hget : ∀ j, j < D.toArray.size → (arrW (D.map (·.1)))[j]! = ((encB D.toArray[j]!.1 : Nat) : Int) := fun j hj => by
      have hjl : j < D.length := by simpa using hj
      rw [arrW_at _ (by simpa using hjl), getElem!_pos D.toArray j hj]
      simp
    have hH : Holds encBnd w g 0 D.toArray := fun j hj => by
      refine ⟨?_, h4.frozen _⟩
      rw [h4.cell (by rw [arrW_size, hsz]; exact hj), hget j hj]
      rfl
    have eg : ∀ args w, (callFunc 116 args).run Tryz.prog w = .ok (.enter 116 args) w := enters_of Tryz.func116 (by kernel_rfl) rfl
    have hcmp : CmpReads Tryz.prog 116 #[.pointer (some ⟨sb, 0, none⟩)] encBnd (cfV V) g 0 D.toArray.size w := fun m os dk _ x y => by
      refine (byShared_any sb V x.1 y.1 x.2 y.2 _ ?_).mono fun e w' ⟨he, hw⟩ => ⟨he, 0, hw⟩
      have hlt := World.block_lt_of_cell? _ _ hc
      unfold sortWorld
      rw [cell?_grow _ _ _ (by show sb < (putRow _ _ _ _ _).heap.size; rw [size_putRow]; exact hlt), cell?_putRow_other _ _ g 0 _ _ (Or.inl (by show sb ≠ g; omega))]
      exact hc
    have hcon := Any.slices_SortFunc Tryz.sortB encBnd (fun _ => rfl) (cfV V) (swoV V) 116 #[.pointer (some ⟨sb, 0, none⟩)] g 0 c D.toArray w eg hcmp.lays hH h3 (by simp at hn ⊢; omega)
    rw [hsz]
    refine Calls.mono hcon ?_
    rintro e w' ⟨rfl, d', n, os, hp, hs, rfl⟩
    have hdl : d'.size = D.length := by rw [hp.1]; simp
    have hpl : d'.toList.Perm D := by
      have := hp.2.2
      have e1 : d'.extract 0 D.toArray.size = d' := by rw [← hp.1]; simp
      have e2 : D.toArray.extract 0 D.toArray.size = D.toArray := by simp
      rw [e1, e2] at this
      simpa using this
    have hw : sortWorld encBnd w g 0 n d' os = Sort.grow (putRow (Value.int .u32) (Sort.ahead w n) g 0 (arrW (d'.toList.map (·.1)))) os := by unfold sortWorld; rw [put_bnd]
    have hR : (d'.toList.map (·.1)).length = D.toArray.size := by simp [hdl]
    have hu := h4.put n (arrW (d'.toList.map (·.1))) (by rw [arrW_size, arrW_size, hR, hsz]) os
    have ho := Only.put w g n (arrW (d'.toList.map (·.1))) os
    rw [← hw] at hu ho
    refine ⟨rfl, d'.toList.map (·.1), hpl.map _, ?_, ?_, ho.wide h1 h2⟩
    · rw [List.pairwise_map]
      refine List.pairwise_iff_getElem.2 fun i j hi hj hij => ?_
      have hi' : i < d'.size := by simpa using hi
      have hj' : j < d'.size := by simpa using hj
      have := hs i j (Nat.zero_le _) hij (by rw [← hp.1]; exact hj')
      rw [ltV, getElem!_pos d' i hi', getElem!_pos d' j hj'] at this
      simp only [decide_eq_false_iff_not] at this
      simp only [Array.getElem_toList]
      omega
    · rw [← hR]
      exact OwnW.of hu h1 h2 (by rw [hR, ← hsz]; exact h5) h6

end Go.Proofs.YtcceololijefiaaGreatDoor
/-
  slices.BinarySearchFunc by the key; joinRows: each solution with each row that has the same in the shared variables.
-/
namespace Go.Proofs.YtcceololijefiaaGreatDoor
open Go.RowKit Go.Sort Go.Shelf

set_option maxHeartbeats 2000000 in
set_option maxRecDepth 100000 in
theorem searchF_words (v : Value) (R : List (List Int)) (s : List Int) (sb V : Nat) (w : World) (h : RdW w w.heap.size v R) (hok : ∀ b ∈ R, bindOk b = true) (hs : bindOk s = true) (hup : R.Pairwise fun a b => keyV V a ≤ keyV V b) (hn : R.length ≤ 1048576)
    (hc : w.cell? ⟨sb, 0, none⟩ = some (.int .u32 ((maskW V : Nat) : Int))) :
    Calls Tryz.prog 119 #[v, .int .u32 ((encB s : Nat) : Int), .func (.func 116) #[] #[.pointer (some ⟨sb, 0, none⟩)]] w fun e w' =>
      (∃ (i : Nat) (ok : Bool), e = .returned (.tuple #[.int .i64 i, .bool ok]) ∧ i ≤ R.length ∧ LessN (keyV V) R (keyV V s) i ∧ FromN (keyV V) R (keyV V s) i) ∧ w' = w := by
  have HU := Lib.hid hup
  have H := Lib.hid h
  have HB := Lib.hid (fun (x : List Int) (hx : x ∈ R) => byShared_any sb V x s (hok x hx) hs w hc)
  obtain ⟨A, c, rfl, hcc, _⟩ := h
  clear hup hok
  go_enter Tryz.func119, Tryz.ntmps119
  go_wp2_with fail
  go_loopg [9, 10] R.length (fun q vi vj wr => ∃ i j : Nat, vi = .int .i64 i ∧ vj = .int .i64 j ∧ i ≤ j ∧ j ≤ R.length ∧ j - i ≤ q ∧ wr = w ∧ Hid (LessN (keyV V) R (keyV V s) i ∧ FromN (keyV V) R (keyV V s) j))
  case atStart => exact ⟨0, R.length, rfl, rfl, Nat.zero_le _, Nat.le_refl _, Nat.sub_le _ _, rfl, fun k _ hk => absurd hk (by omega), fun k hk hle => absurd hk (by omega)⟩
  case round =>
    obtain ⟨i, j, rfl, rfl, hij, hj, hq, rfl, HI⟩ := hrel
    by_cases hlt : i < j
    · obtain ⟨p, hp⟩ : ∃ p, p = (i + j) / 2 := ⟨_, rfl⟩
      have hp1 : i ≤ p := by omega
      have hp2 : p < j := by omega
      have hpl : p < R.length := by omega
      have HM := Lib.hid (show ((i : Int) + (j : Int)) / 2 = (p : Int) by omega)
      obtain ⟨b, o, rfl, hbB, k1⟩ := H.out.get hpl
      have HC := HB.out R[p] (List.getElem_mem hpl)
      unfold wd at HC
      obtain ⟨K, hK⟩ : ∃ K, K = encB R[p] := ⟨_, rfl⟩
      obtain ⟨X, hX⟩ : ∃ X, X = keyV V R[p] := ⟨_, rfl⟩
      rw [← hK] at k1
      rw [← hK, ← hX] at HC
      have HX := Lib.hid hX
      clear hK hp hX
      by_cases hl : X < keyV V s
      · have hE : cmpKey X (keyV V s) = -1 := if_pos hl
        rw [hE] at HC
        have HC := Lib.hid HC
        have HN := Lib.hid (lessN_mid HU.out hpl (by rw [← HX.out]; exact hl))
        clear hl hE
        go_upto_region 5 with fail
        rw [HM.out]
        go_wp2_with (go_at_call 116; refine HC.out.mono ?_; rintro e w' ⟨rfl, rfl⟩)
        go_roundg (j - (p + 1))
        case measure => omega
        case rel => exact ⟨p + 1, j, by go_num, rfl, by omega, hj, Nat.le_refl _, rfl, HN.out, HI.out.2⟩
      · have hE : ∃ z : Int, cmpKey X (keyV V s) = z ∧ ¬ z < 0 := ⟨_, rfl, by unfold cmpKey; rw [if_neg hl]; split <;> omega⟩
        obtain ⟨z, hz, hz0⟩ := hE
        rw [hz] at HC
        have HC := Lib.hid HC
        have HN := Lib.hid (fromN_mid HU.out hpl (by rw [← HX.out]; exact hl))
        clear hl hz
        go_upto_region 5 with fail
        rw [HM.out]
        go_wp2_with (go_at_call 116; refine HC.out.mono ?_; rintro e w' ⟨rfl, rfl⟩)
        go_roundg (p - i)
        case measure => omega
        case rel => exact ⟨i, p, rfl, rfl, hp1, by omega, Nat.le_refl _, rfl, HI.out.1, HN.out⟩
    · obtain rfl : i = j := by omega
      by_cases hpl : i < R.length
      · obtain ⟨b, o, rfl, hbB, k1⟩ := H.out.get hpl
        have HC := HB.out R[i] (List.getElem_mem hpl)
        unfold wd at HC
        generalize encB R[i] = K at k1 HC
        generalize cmpKey _ _ = z at HC
        have HC := Lib.hid HC
        go_wp2_with (go_at_call 116; refine HC.out.mono ?_; rintro e w' ⟨rfl, rfl⟩)
        go_ret2
        exact ⟨⟨i, _, rfl, hj, HI.out.1, HI.out.2⟩, rfl⟩
      · go_wp2_with fail
        go_ret2
        exact ⟨⟨i, _, rfl, hj, HI.out.1, HI.out.2⟩, rfl⟩

/-- The relation of a loop that collects words. -/
structure ColB (w wr : World) (S : List (List Int)) (A : Option Addr) (c : Nat) : Prop where
  below : Below w.heap.size w wr
  own : OwnW wr w.heap.size wr.heap.size (.slice A S.length c) S
theorem ColB.nil {w wr : World} (hb : Below w.heap.size w wr) : ColB w wr [] none 0 := ⟨hb, World.ownsRow_nil _ _ _ _, fun g hg => by cases hg⟩
theorem ColB.push {w wr w2 w4 : World} {S : List (List Int)} {A : Option Addr} {c g cap : Nat} {b : List Int} {o : Obj} (h : ColB w wr S A c) (hb : Below wr.heap.size wr w2)
    (hg : (w2.alloc o).grownBy w4 (Value.slice A S.length c).ownBlock) (hown : w4.ownsRow w.heap.size 83 1 (.slice (some ⟨g, 0, none⟩) (S.length + 1) cap) (S.length + 1) (S.map wd ++ [wd b])) :
    ColB w w4 (S ++ [b]) (some ⟨g, 0, none⟩) cap := by
  have hl : (S ++ [b]).length = S.length + 1 := by simp
  refine ⟨((bthen h.below hb).alloc (bthen h.below hb).size _).grown hg (by have := (bthen h.below hb).size; simp; omega) (fun k hk => (h.own.1.lt k hk).1), ?_⟩
  rw [hl]
  exact ⟨by simpa [hl] using hown, fun b hb' => (hown.lt b hb').2⟩
theorem ColB.later {w wr w2 : World} {S : List (List Int)} {A : Option Addr} {c : Nat} (h : ColB w wr S A c) (hb : Below wr.heap.size wr w2) : ColB w w2 S A c :=
  ⟨bthen h.below hb, (h.own.below hb (Nat.le_refl _)).mono (Nat.le_refl _) hb.size⟩

/-- The rows that have the same as s in the shared variables. -/
def sameRun (V : Nat) (R : List (List Int)) (s : List Int) : List (List Int) := R.filter fun r => keyV V r == keyV V s
def joinL (V : Nat) (R : List (List Int)) (S : List (List Int)) : List (List Int) := S.flatMap fun s => (sameRun V R s).map fun r => over s r
theorem joinL_take {V : Nat} {R S : List (List Int)} {k : Nat} (h : k < S.length) : joinL V R (S.take (k + 1)) = joinL V R (S.take k) ++ (sameRun V R S[k]).map (over S[k]) := by
  unfold joinL
  rw [take_snoc S k h, List.flatMap_append]
  simp
theorem joinL_len (V : Nat) (R : List (List Int)) : ∀ S : List (List Int), (joinL V R S).length ≤ S.length * R.length
  | [] => by simp [joinL]
  | s :: S => by
    have ih := joinL_len V R S
    have h1 : ((sameRun V R s).map (over s)).length ≤ R.length := by rw [List.length_map]; exact List.length_filter_le _ _
    have e : joinL V R (s :: S) = (sameRun V R s).map (over s) ++ joinL V R S := by unfold joinL; rw [List.flatMap_cons]
    rw [e, List.length_append, List.length_cons, Nat.succ_mul]
    omega
/-- Where the run ends, it is all that have the same. -/
theorem run_all {V : Nat} {R : List (List Int)} {s : List Int} {p q : Nat} (hup : R.Pairwise fun a b => keyV V a ≤ keyV V b) (hpq : p ≤ q) (hq : q ≤ R.length) (hl : LessN (keyV V) R (keyV V s) p) (hf : FromN (keyV V) R (keyV V s) p)
    (hr : ∀ k (h : k < R.length), p ≤ k → k < q → keyV V R[k] = keyV V s) (he : ∀ h : q < R.length, keyV V R[q] ≠ keyV V s) : (R.drop p).take (q - p) = sameRun V R s := by
  have e : R = R.take p ++ ((R.drop p).take (q - p) ++ R.drop q) := by
    conv => lhs; rw [← List.take_append_drop p R]
    congr 1
    conv => lhs; rw [← List.take_append_drop (q - p) (R.drop p)]
    congr 1
    rw [List.drop_drop]
    congr 1
    omega
  unfold sameRun
  conv => rhs; rw [e, List.filter_append, List.filter_append]
  have h1 : (R.take p).filter (fun r => keyV V r == keyV V s) = [] := by
    refine List.filter_eq_nil_iff.2 fun x hx => ?_
    obtain ⟨k, hk, rfl⟩ := List.getElem_of_mem hx
    simp at hk
    have := hl k (by omega) (by omega)
    simp
    omega
  have h2 : (R.drop q).filter (fun r => keyV V r == keyV V s) = [] := by
    refine List.filter_eq_nil_iff.2 fun x hx => ?_
    obtain ⟨k, hk, rfl⟩ := List.getElem_of_mem hx
    simp at hk
    have hq' : q < R.length := by omega
    have g1 := he hq'
    have g2 := hf q hq' hpq
    have g3 : keyV V R[q] ≤ keyV V (R[q + k]'(by omega)) := by
      rcases Nat.eq_zero_or_pos k with rfl | hk0
      · exact Nat.le_refl _
      · exact List.pairwise_iff_getElem.1 hup q (q + k) hq' (by omega) (by omega)
    simp
    omega
  have h3 : ((R.drop p).take (q - p)).filter (fun r => keyV V r == keyV V s) = (R.drop p).take (q - p) := by
    refine List.filter_eq_self.2 fun x hx => ?_
    obtain ⟨k, hk, rfl⟩ := List.getElem_of_mem hx
    simp at hk
    have := hr (p + k) (by omega) (by omega) (by omega)
    simpa using this
  rw [h1, h2, h3]
  simp

end Go.Proofs.YtcceololijefiaaGreatDoor
/-
  denyRows, compareTerms: the solutions that a predicate keeps (slices.DeleteFunc).
-/
namespace Go.Proofs.YtcceololijefiaaGreatDoor
open Go.RowKit Go.Sort Go.Shelf

theorem Only.sortB (w : World) (g n : Nat) (d : Array Bnd) (os : Array Obj) : Only g (g + 1) w (sortWorld encBnd w g 0 n d os) := by
  have := Only.put w g n (arrW (d.toList.map (·.1))) os
  rw [← put_bnd] at this
  exact this

/-- slices.DeleteFunc of a row of words. -/
theorem deleteW_any (lo hi g : Nat) (lb : Array Value) (p : List Int → Bool) (v : Value) (S : List (List Int)) (w : World) (h : OwnW w lo hi v S) (hok : ∀ b ∈ S, bindOk b = true) (hne : S ≠ []) (hn : S.length ≤ 1048576)
    (eg : ∀ args w, (callFunc g args).run Tryz.prog w = .ok (.enter g args) w)
    (hp : ∀ (W : World) (b : List Int), bindOk b = true → Only lo hi w W → Calls Tryz.prog g (#[wd b] ++ lb) W fun e w' => e = .returned (.bool (p b)) ∧ ∃ q, w' = W.drewN q) :
    Calls Tryz.prog 123 #[v, .func (.func g) #[] lb] w fun e w' =>
      ∃ A c, e = .returned (.slice A (S.filter fun b => !p b).length c) ∧ OwnW w' lo hi (.slice A (S.filter fun b => !p b).length c) (S.filter fun b => !p b) ∧ Only lo hi w w' := by
  rcases h.at_ with ⟨rfl, rfl⟩ | ⟨gb, c, rfl, h1, h2, h3, h4, h5, h6⟩
  · exact absurd rfl hne
  · obtain ⟨D, rfl⟩ := bnds S hok
    have hsz : (D.map (·.1)).length = D.toArray.size := by simp
    have hget : ∀ j, j < D.toArray.size → (arrW (D.map (·.1)))[j]! = ((encB D.toArray[j]!.1 : Nat) : Int) := fun j hj => by
      have hjl : j < D.length := by simpa using hj
      rw [arrW_at _ (by simpa using hjl), getElem!_pos D.toArray j hj]
      simp
    have hH : Holds encBnd w gb 0 D.toArray := fun j hj => by
      refine ⟨?_, h4.frozen _⟩
      rw [h4.cell (by rw [arrW_size, hsz]; exact hj), hget j hj]
      rfl
    have hcon := AnyE.slices_DeleteFunc Tryz.deleteB encBnd (fun _ => rfl) (fun x => p x.1) g lb eg ⟨noneB, noneB_ok⟩ (fun w => by
        rw [show encBnd ⟨noneB, noneB_ok⟩ = .int .u32 0 by unfold encBnd; rw [encB_none]; rfl]
        exact Tryz.zeroValue83 w) gb 0 c D.toArray w (fun W x hb => hp W x.1 x.2 (Only.of_below hb)) (fun n os dk x _ => hp _ x.1 x.2 ((Only.sortB w gb n dk os).wide h1 h2)) hH (by simp at hn ⊢; omega) (by rw [← hsz]; exact h5)
    rw [hsz]
    refine Calls.mono hcon ?_
    rintro e w' ⟨rfl, q, rfl⟩
    have hfl : ((D.map (·.1)).filter fun b => !p b) = (D.filter fun x : Bnd => !p x.1).map (·.1) := by rw [List.filter_map]; rfl
    have hl : (D.toArray.toList.filter fun x : Bnd => !p x.1).length = ((D.map (·.1)).filter fun b => !p b).length := by rw [hfl]; simp
    rw [hl]
    obtain ⟨E, hE⟩ : ∃ E : Array Bnd, E = ((D.toArray.toList.filter fun x : Bnd => !p x.1) ++ List.replicate (D.toArray.size - ((D.map (·.1)).filter fun b => !p b).length) (⟨noneB, noneB_ok⟩ : Bnd)).toArray := ⟨_, rfl⟩
    have hle : ((D.map (·.1)).filter fun b => !p b).length ≤ D.length := Nat.le_trans (List.length_filter_le _ _) (by simp)
    have hEs : E.size = D.length := by rw [hE]; simp at hl hle ⊢; omega
    rw [← hE, put_bnd]
    have hu := h4.put q (arrW (E.toList.map (·.1))) (by rw [arrW_size, arrW_size]; simp [hEs]) #[]
    have ho := Only.put w gb q (arrW (E.toList.map (·.1))) #[]
    rw [grow_none] at hu ho
    refine ⟨_, c, rfl, OwnW.of (hu.take (by rw [arrW_size, arrW_size]; simp [hEs]; simpa using hle) fun j hj => ?_) h1 h2 (by have := h5; simp at this; omega) h6, ho.wide h1 h2⟩
    rw [arrW_size] at hj
    have hj2 : j < (E.toList.map (·.1)).length := by simp [hEs]; omega
    rw [arrW_at _ hj, arrW_at _ hj2]
    congr 2
    apply Option.some.inj
    rw [← List.getElem?_eq_getElem hj, ← List.getElem?_eq_getElem hj2, hE, hfl]
    simp only [List.map_append]
    rw [List.getElem?_append_left (by rw [hfl] at hj; simpa using hj)]

/-- Whether a row agrees with what some variables have. -/
def hitW (V : Nat) (T : List (List Int)) (b : List Int) : Bool := T.any fun t => encB t == keyV V b

set_option maxHeartbeats 1000000 in
set_option maxRecDepth 100000 in
theorem denyRows_any (lo hi V : Nat) (v0 v1 : Value) (S T : List (List Int)) (w : World) (h0 : OwnW w lo hi v0 S) (lo2 hi2 : Nat) (h1 : OwnW w lo2 hi2 v1 T) (hlo : hi ≤ lo2) (hhi : hi2 ≤ w.heap.size) (hhi0 : hi ≤ w.heap.size)
    (hS : ∀ b ∈ S, bindOk b = true) (hne : S ≠ []) (hT : T.Pairwise fun a b => encB a < encB b) (hnS : S.length ≤ 1048576) (hnT : T.length ≤ 1048576) :
    Calls Tryz.prog 111 #[v0, v1, .int .u32 ((maskW V : Nat) : Int)] w fun e w' =>
      ∃ A c, e = .returned (.slice A (S.filter fun b => !hitW V T b).length c) ∧ OwnW w' lo hi (.slice A (S.filter fun b => !hitW V T b).length c) (S.filter fun b => !hitW V T b) ∧ Only lo hi w w' := by
  obtain ⟨A1, c1, rfl⟩ := h1.form
  have eg : ∀ args w, (callFunc 124 args).run Tryz.prog w = .ok (.enter 124 args) w := enters_of Tryz.func124 (by kernel_rfl) rfl
  obtain ⟨w2, hw2⟩ : ∃ w2, w2 = (w.alloc (Obj.cells #[Value.slice A1 T.length c1] 78)).alloc (Obj.cells #[Value.int IntKind.u32 ((maskW V : Nat) : Int)] 83) := ⟨_, rfl⟩
  have B2 : Below w.heap.size w w2 := by rw [hw2]; exact below2 _ _ _
  have X1 : Blk w2 w.heap.size 78 #[.slice A1 T.length c1] := by rw [hw2]; exact (Blk.new _ _ _).alloc _
  have X2 : Blk w2 (w.heap.size + 1) 83 #[.int .u32 ((maskW V : Nat) : Int)] := by rw [hw2]; simpa using Blk.new (w.alloc (Obj.cells #[Value.slice A1 T.length c1] 78)) 83 #[.int .u32 ((maskW V : Nat) : Int)]
  have hp : ∀ (W : World) (b : List Int), bindOk b = true → Only lo hi w2 W → Calls Tryz.prog 124 (#[wd b] ++ #[.pointer (some ⟨w.heap.size, 0, none⟩), .pointer (some ⟨w.heap.size + 1, 0, none⟩)]) W fun e w' => e = .returned (.bool (hitW V T b)) ∧ ∃ q, w' = W.drewN q := by
    intro W b hb ho
    have c1c : W.cell? ⟨w.heap.size, 0, none⟩ = some (.slice A1 T.length c1) := (X1.only ho (.inr hhi0)).cell 0
    have c2c : W.cell? ⟨w.heap.size + 1, 0, none⟩ = some (.int .u32 ((maskW V : Nat) : Int)) := (X2.only ho (.inr (by omega))).cell 0
    have hr : RdW W hi2 (.slice A1 T.length c1) T := ((h1.below B2 hhi).only ho (.inr hlo)).rd
    have HSE := Lib.hid (searchW_any (.slice A1 T.length c1) T (keyV V b) hi2 (hitW V T b) rfl W hr hT hnT)
    have e1 : bits .and .u32 ((encB b : Nat) : Int) ((maskW V : Nat) : Int) = ((keyV V b : Nat) : Int) := by rw [and_word32 (encB_lt hb) (maskW_lt V), enc_restr hb]; rfl
    clear hr X1 X2
    show Calls Tryz.prog 124 #[wd b, .pointer (some ⟨w.heap.size, 0, none⟩), .pointer (some ⟨w.heap.size + 1, 0, none⟩)] W _
    unfold wd
    go_enter Tryz.func124, Tryz.ntmps124
    go_wp2_with (go_at_call 125; refine HSE.out.mono ?_; rintro e w' ⟨⟨i, rfl⟩, rfl⟩)
    go_ret
    exact ⟨rfl, 0, rfl⟩
  have HD := Lib.hid (deleteW_any lo hi 124 #[.pointer (some ⟨w.heap.size, 0, none⟩), .pointer (some ⟨w.heap.size + 1, 0, none⟩)] (hitW V T) v0 S w2 (h0.below B2 hhi0) hS hne hnS eg hp)
  have HB := Lib.hid B2
  rw [hw2] at HD
  have HW := Lib.hid hw2
  obtain ⟨A0, c0, rfl⟩ := h0.form
  clear h0 h1 hS hT hp X1 X2 B2 hw2 eg
  go_enter Tryz.func111, Tryz.ntmps111
  go_wp2_with (go_at_call 123; refine HD.out.mono ?_; rintro e w3 ⟨A, c, rfl, own, only⟩; rw [← HW.out] at only; have HO := Lib.hid (And.intro own only); clear own only)
  go_ret
  exact ⟨A, c, rfl, HO.out.1, (Only.of_below HB.out).trans HO.out.2⟩

set_option maxHeartbeats 2000000 in
set_option maxRecDepth 100000 in
theorem compareTerms_any (lo hi : Nat) (v0 v1 : Value) (S : List (List Int)) (l : LLit) (w : World) (h0 : OwnW w lo hi v0 S) (hhi : hi ≤ w.heap.size) (h1 : RdLit w lo v1 l) (hlo : lo ≤ w.heap.size) (hk : l.1 = 2 ∨ l.1 = 3) (ht : l.2.2.all termOk = true)
    (hS : ∀ b ∈ S, bindOk b = true) (hne : S ≠ []) (hnS : S.length ≤ 1048576) (hl : l.2.2.length ≤ 1048576) (R : List (List Int)) (hR : R = S.filter fun b => decide (l.2.2.length = 2) && cmpB l.1 (termVal b (l.2.2.getD 0 0)) (termVal b (l.2.2.getD 1 0))) :
    Calls Tryz.prog 112 #[v0, v1] w fun e w' =>
      ∃ A c, e = .returned (.slice A R.length c) ∧ OwnW w' lo hi (.slice A R.length c) R ∧ Only lo hi w w' := by
  obtain ⟨kd, pr, xs⟩ := l
  simp only at hk ht hl hR
  obtain ⟨av, rfl, A, c, rfl, hc, hx⟩ := h1
  obtain ⟨A0, c0, rfl⟩ := h0.form
  by_cases h2 : xs.length = 2
  · obtain ⟨t0, t1, rfl⟩ : ∃ t0 t1, xs = [t0, t1] := by
      match xs, h2 with
      | [t0, t1], _ => exact ⟨t0, t1, rfl⟩
    obtain ⟨b, o, rfl, hb, hxs⟩ := hx (by simp)
    have x0 : w.cell? ⟨b, o, none⟩ = some (.int .i64 t0) := hxs 0 (by simp)
    have x1 : w.cell? ⟨b, o + 1, none⟩ = some (.int .i64 t1) := hxs 1 (by simp)
    simp only [List.all_cons, List.all_nil, Bool.and_true, Bool.and_eq_true] at ht
    simp only [List.length_cons, List.length_nil, Nat.zero_add, Nat.reduceAdd, decide_true, Bool.true_and, List.getD_cons_zero, List.getD_cons_succ] at hR
    have eg : ∀ args w, (callFunc 126 args).run Tryz.prog w = .ok (.enter 126 args) w := enters_of Tryz.func126 (by kernel_rfl) rfl
    obtain ⟨w2, hw2⟩ : ∃ w2, w2 = (w.alloc (Obj.cells #[Value.int IntKind.i64 kd, Value.int IntKind.i64 pr, Value.slice (some ⟨b, o, none⟩) 2 c] 95)).alloc (Obj.cells #[Value.slice (some ⟨b, o, none⟩) 2 c] 22) := ⟨_, rfl⟩
    have B2 : Below w.heap.size w w2 := by rw [hw2]; exact below2 _ _ _
    have X1 : Blk w2 w.heap.size 95 #[.int .i64 kd, .int .i64 pr, .slice (some ⟨b, o, none⟩) 2 c] := by rw [hw2]; exact (Blk.new _ _ _).alloc _
    have X2 : Blk w2 (w.heap.size + 1) 22 #[.slice (some ⟨b, o, none⟩) 2 c] := by rw [hw2]; simpa using Blk.new (w.alloc (Obj.cells #[Value.int IntKind.i64 kd, Value.int IntKind.i64 pr, Value.slice (some ⟨b, o, none⟩) 2 c] 95)) 22 #[.slice (some ⟨b, o, none⟩) 2 c]
    have hp : ∀ (W : World) (x : List Int), bindOk x = true → Only lo hi w2 W → Calls Tryz.prog 126 (#[wd x] ++ #[.pointer (some ⟨w.heap.size, 0, none⟩), .pointer (some ⟨w.heap.size + 1, 0, none⟩)]) W fun e w' => e = .returned (.bool (!cmpB kd (termVal x t0) (termVal x t1))) ∧ ∃ q, w' = W.drewN q := by
      intro W x hx' ho
      have c1c : W.cell? ⟨w.heap.size, 0, none⟩ = some (.int .i64 kd) := (X1.only ho (.inr hhi)).cell 0
      have c2c : W.cell? ⟨w.heap.size + 1, 0, none⟩ = some (.slice (some ⟨b, o, none⟩) 2 c) := (X2.only ho (.inr (by omega))).cell 0
      have hbw : Below lo w W := (B2.mono hlo).trans (ho.below (Nat.le_refl _) (Nat.le_trans hlo B2.size))
      have d0 : W.cell? ⟨b, o, none⟩ = some (.int .i64 t0) := (hbw.cell (p := ⟨b, o, none⟩) hb).trans x0
      have d1 : W.cell? ⟨b, o + 1, none⟩ = some (.int .i64 t1) := (hbw.cell (p := ⟨b, o + 1, none⟩) hb).trans x1
      have HV0 := Lib.hid (fun W => value_any x hx' t0 ht.1 W)
      have HV1 := Lib.hid (fun W => value_any x hx' t1 ht.2 W)
      have HCM := Lib.hid (fun W => comparison_any kd (termVal x t0) (termVal x t1) hk W)
      clear hbw X1 X2 x0 x1 hx
      show Calls Tryz.prog 126 #[wd x, .pointer (some ⟨w.heap.size, 0, none⟩), .pointer (some ⟨w.heap.size + 1, 0, none⟩)] W _
      unfold wd
      generalize encB x = E at HV0 HV1 ⊢
      generalize termVal x t0 = T0 at HV0 HCM ⊢
      generalize termVal x t1 = T1 at HV1 HCM ⊢
      go_enter Tryz.func126, Tryz.ntmps126
      go_wp2_with fail
      go_quiet (first
        | (go_at_call 74; first | with_reducible exact quiet_left (HV0.out _) | with_reducible exact quiet_left (HV1.out _))
        | (go_at_call 127; exact quiet_left (HCM.out _)))
      go_wp2_with fail
      go_ret
      exact ⟨rfl, nq, rfl⟩
    have hd := deleteW_any lo hi 126 #[.pointer (some ⟨w.heap.size, 0, none⟩), .pointer (some ⟨w.heap.size + 1, 0, none⟩)] (fun x => !cmpB kd (termVal x t0) (termVal x t1)) (.slice A0 S.length c0) S w2 (h0.below B2 hhi) hS hne hnS eg hp
    simp only [Bool.not_not] at hd
    rw [← hR] at hd
    have HD := Lib.hid hd
    have HB := Lib.hid B2
    rw [hw2] at HD
    have HW := Lib.hid hw2
    have HR := Lib.hid hR
    clear h0 hS hp X1 X2 B2 hw2 eg hd hR hx x0 x1 hxs
    go_enter Tryz.func112, Tryz.ntmps112
    go_wp2_with (go_at_call 123; refine HD.out.mono ?_; rintro e w3 ⟨A, c, rfl, own, only⟩; rw [← HW.out] at only; have HO := Lib.hid (And.intro own only); clear own only)
    go_ret
    exact ⟨_, _, rfl, HO.out.1, (Only.of_below HB.out).trans HO.out.2⟩
  · have hRn : R = [] := by
      rw [hR]
      refine List.filter_eq_nil_iff.2 fun x _ => ?_
      simp [h2]
    subst hRn
    have h2z : ((xs.length : Int) != 2) = true := by simp; omega
    clear hR h0 hx hS
    go_enter Tryz.func112, Tryz.ntmps112
    go_wp2_with fail
    go_ret
    exact ⟨none, 0, rfl, ⟨World.ownsRow_nil _ _ _ _, fun g hg => by cases hg⟩, Only.of_below (below2 _ _ _)⟩

end Go.Proofs.YtcceololijefiaaGreatDoor
/-
  The walk of matched.
-/
namespace Go.Proofs.YtcceololijefiaaGreatDoor
open Go.RowKit

/-- What matched hands back: the word, and whether there is one. -/
def encO (o : Option (List Int)) : Nat := match o with | some b => encB b | none => 0

set_option maxHeartbeats 1000000 in
set_option maxRecDepth 100000 in
theorem matched_n (v v2 : Value) (a f : LFact) (bs : List Int) (z0 : Nat) (ok : Bool) (hz0 : z0 = encO (matchL a f bs)) (hok : ok = (matchL a f bs).isSome) (w : World) (hb : bindOk bs = true) (h : RdFact w w.heap.size v a) (h2 : RdFact w w.heap.size v2 f)
    (ht : a.2.all termOk = true) (hf : f.2.all constOk = true) (hr : a.2.length ≤ 1048576) (hr2 : f.2.length ≤ 1048576) :
    Calls Tryz.prog 120 #[.int .u32 (encB bs : Nat), v, v2] w fun e w' => e = .returned (.tuple #[.int .u32 (z0 : Nat), .bool ok]) ∧ Below w.heap.size w w' := by
  obtain ⟨pa, xs⟩ := a
  obtain ⟨pf, ys⟩ := f
  simp only at ht hf hr hr2
  have HO := Lib.hid (And.intro hz0 hok)
  clear hz0 hok
  obtain ⟨u, rfl, A, c, rfl, hc, hA⟩ := h
  obtain ⟨u, rfl, A2, c2, rfl, hc2, hA2⟩ := h2
  by_cases hp : pa = pf
  · have hpb : (pa != pf) = false := by simp [hp]
    by_cases hl : xs.length = ys.length
    · have hl1 : ((xs.length : Int) != (ys.length : Int)) = false := by simp [hl]
      have HL := Lib.hid hl
      have HP := Lib.hid hp
      have HM := Lib.hid (encB_lt hb)
      have HB := Lib.hid hb
      obtain ⟨m, hm⟩ : ∃ m, m = encB bs := ⟨_, rfl⟩
      rw [← hm]
      have HE := Lib.hid hm
      clear hl hp hm hb
      go_enter Tryz.func120, Tryz.ntmps120
      go_wp2_with (fail)
      go_loopw [0, 8, 9, 27] (fun m _ _ i wr => ∃ (k z : Nat) (cur : List Int), k ≤ xs.length ∧ i = .int .i64 k ∧ m = .int .u32 (z : Nat) ∧ z = encB cur ∧ bindOk cur = true ∧ matchTo bs xs ys k = some cur ∧ Below w.heap.size w wr ∧ Blk wr (w.heap.size + 1) 51 #[.int .i64 pf, .slice A2 ys.length c2]) (fun _ _ _ i _ => xs.length - (intOf i).toNat)
      case atStart => exact ⟨0, _, bs, Nat.zero_le _, rfl, rfl, HE.out, HB.out, rfl, below2 _ _ _, by simpa using Blk.new (w.alloc (Obj.cells #[Value.int IntKind.i64 pa, Value.slice A xs.length c] 68)) 51 #[.int .i64 pf, .slice A2 ys.length c2]⟩
      case round =>
        obtain ⟨k, z, cur, hk, rfl, rfl, hz, hcb, hmt, hbe, hblk⟩ := hrel
        by_cases hlt : k < xs.length
        · have hlt2 : k < ys.length := by have := HL.out; omega
          obtain ⟨b, o, rfl, hbB, hx⟩ := hA (by omega)
          obtain ⟨b2, o2, rfl, hbB2, hx2⟩ := hA2 (by omega)
          have hck : wr.cell? ⟨b, o + k, none⟩ = some (.int .i64 xs[k]) := (hbe.cell (p := ⟨b, o + k, none⟩) hbB).trans (hx k hlt)
          have hck2 : wr.cell? ⟨b2, o2 + k, none⟩ = some (.int .i64 ys[k]) := (hbe.cell (p := ⟨b2, o2 + k, none⟩) hbB2).trans (hx2 k hlt2)
          have hc1 : wr.cell? ⟨w.heap.size + 1, 1, none⟩ = some (.slice (some ⟨b2, o2, none⟩) ys.length c2) := hblk.cell 1
          have htk : termOk xs[k] = true := List.all_eq_true.1 ht _ (List.getElem_mem hlt)
          have hfk : 0 ≤ ys[k] ∧ ys[k] ≤ 5 := by simpa [constOk] using List.all_eq_true.1 hf _ (List.getElem_mem hlt2)
          have HV := Lib.hid (hz ▸ value_any cur hcb xs[k] htk)
          have hst := matchTo_step hmt hlt hlt2
          have HBK := Lib.hid hblk
          clear hx hx2 hA hA2 hblk
          by_cases e1 : termVal cur xs[k] = ys[k]
          · have HS := Lib.hid (show matchTo bs xs ys (k + 1) = some cur by rw [hst, stepM_same e1])
            have HZ := Lib.hid (And.intro hz hcb)
            have HT := Lib.hid e1
            clear hst hz hcb hmt e1 htk
            go_wp2_with (go_at_call 74; refine (HV.out _).mono ?_; rw [HT.out]; rintro e w' ⟨rfl, rfl⟩)
            go_roundw
            case rel => exact ⟨k + 1, z, cur, by omega, by go_num, rfl, HZ.out.1, HZ.out.2, HS.out, hbe, HBK.out⟩
            case measure => simp [intOf]; omega
          · have hd1 : (termVal cur xs[k] == ys[k]) = false := by simpa using e1
            by_cases e2 : termVal cur xs[k] = -1
            · obtain ⟨q1, q2, q3⟩ := termVal_free htk e2
              obtain ⟨j, hj4, hj⟩ : ∃ j : Nat, j < 4 ∧ -1 - xs[k] = (j : Int) := ⟨(-1 - xs[k]).toNat, by omega, by omega⟩
              have hjt : (-1 - xs[k]).toNat = j := by omega
              rw [hjt] at q3
              have HS := Lib.hid (show matchTo bs xs ys (k + 1) = some (cur.set j ys[k]) by rw [hst, stepM_new e2 (by omega), hjt])
              have HZ := Lib.hid (show z ||| shlB j ys[k] = encB (cur.set j ys[k]) by rw [hz, encB_set hcb hj4 q3 (by omega)])
              have HCB := Lib.hid (show bindOk (cur.set j ys[k]) = true from bindOk_set hcb (by omega) _)
              have hd1 : ((-1 : Int) == ys[k]) = false := by simp; omega
              have hzl : z < 65536 := by rw [hz]; exact encB_lt hcb
              have HT := Lib.hid e2
              have HN := Lib.hid (fun W => hj ▸ varNumber_any xs[k] q1 q2 W)
              have HW := Lib.hid (fun W => with_any z j ys[k] hzl hj4 (by omega) W)
              clear hst hz hcb hmt e1 e2 htk hj hjt q3
              go_wp2_with (go_at_call 74; refine (HV.out _).mono ?_; rw [HT.out]; rintro e w' ⟨rfl, rfl⟩)
              go_quiet (first | (go_at_call 99; exact quiet_left (HN.out _)) | (go_at_call 131; exact quiet_left (HW.out _)))
              go_wp2_with (fail)
              go_roundw
              case rel => exact ⟨k + 1, _, _, by omega, by go_num, rfl, HZ.out, HCB.out, HS.out, bdrewN hbe _, HBK.out.drewN _⟩
              case measure => simp [intOf]; omega
            · have hd2 : (termVal cur xs[k] == -1) = false := by simpa using e2
              have HN := Lib.hid (show matchL (pa, xs) (pf, ys) bs = none from matchL_stop HP.out HL.out hlt (by rw [hst, stepM_no e1 e2]))
              clear hst hz hcb hmt e1 e2 htk
              go_wp2_with (go_at_call 74; refine (HV.out _).mono ?_; rintro e w' ⟨rfl, rfl⟩)
              go_ret2
              rw [show ok = false by rw [HO.out.2, HN.out]; rfl, show z0 = 0 by rw [HO.out.1, HN.out]; rfl]
              exact ⟨rfl, hbe⟩
        · have hkn : k = xs.length := by omega
          have HN := Lib.hid (show matchL (pa, xs) (pf, ys) bs = some cur by rw [matchL_eq HP.out HL.out, ← hmt, hkn])
          have HZ := Lib.hid hz
          clear hkn hmt hz hA hA2 hblk
          go_wp2_with (fail)
          go_ret2
          rw [show ok = true by rw [HO.out.2, HN.out]; rfl, show z0 = z by rw [HO.out.1, HN.out, HZ.out]; rfl]
          exact ⟨rfl, hbe⟩
    · have hl1 : ((xs.length : Int) != (ys.length : Int)) = true := by simp; omega
      have HN := Lib.hid (show matchL (pa, xs) (pf, ys) bs = none from matchL_len hl)
      clear hA hA2 hl
      go_enter Tryz.func120, Tryz.ntmps120
      go_wp2_with (fail)
      go_ret2
      rw [show ok = false by rw [HO.out.2, HN.out]; rfl, show z0 = 0 by rw [HO.out.1, HN.out]; rfl]
      exact ⟨rfl, below2 _ _ _⟩
  · have hpb : (pa != pf) = true := by simp [hp]
    have HN := Lib.hid (show matchL (pa, xs) (pf, ys) bs = none from matchL_pred hp)
    clear hA hA2 hp
    go_enter Tryz.func120, Tryz.ntmps120
    go_wp2_with (fail)
    go_ret2
    rw [show ok = false by rw [HO.out.2, HN.out]; rfl, show z0 = 0 by rw [HO.out.1, HN.out]; rfl]
    exact ⟨rfl, below2 _ _ _⟩

end Go.Proofs.YtcceololijefiaaGreatDoor
/-
  atomRows: what variables have when an atom is one of the facts, each once, ascending.
-/
namespace Go.Proofs.YtcceololijefiaaGreatDoor
open Go.RowKit Go.Sort

/-- What variables have when the atom is one of the first k facts. -/
def rowsTo (a : LFact) (fs : List LFact) (k : Nat) : List (List Int) := (fs.take k).filterMap fun f => matchL a f noneB
theorem rowsTo_step {a : LFact} {fs : List LFact} {k : Nat} (h : k < fs.length) : rowsTo a fs (k + 1) = rowsTo a fs k ++ (matchL a fs[k] noneB).toList := by
  unfold rowsTo
  rw [take_snoc fs k h, List.filterMap_append]
  cases h2 : matchL a fs[k] noneB <;> simp [h2]
theorem rowsTo_len (a : LFact) (fs : List LFact) (k : Nat) : (rowsTo a fs k).length ≤ k := by
  unfold rowsTo
  exact Nat.le_trans (List.length_filterMap_le _ _) (by simp; omega)
theorem rowsTo_ok {a : LFact} {fs : List LFact} (hf : ∀ f ∈ fs, f.2.all constOk = true) (k : Nat) : ∀ b ∈ rowsTo a fs k, bindOk b = true := by
  intro b hb
  obtain ⟨f, hf', e⟩ := List.mem_filterMap.1 hb
  exact matchL_ok noneB_ok (hf f (List.mem_of_mem_take hf')) e

set_option maxHeartbeats 4000000 in
set_option maxRecDepth 100000 in
theorem atomRows_any (v v2 : Value) (fs : List LFact) (a : LFact) (w : World) (h : RdFacts w w.heap.size v fs) (h2 : RdFact w w.heap.size v2 a) (ht : a.2.all termOk = true) (hf : ∀ f ∈ fs, f.2.all constOk = true)
    (hn : fs.length ≤ 1048576) (hl : tot fs ≤ 1048576) (ha : a.2.length ≤ 1048576) :
    Calls Tryz.prog 110 #[v, v2] w fun e w' =>
      ∃ A c R, e = .returned (.slice A R.length c) ∧ OwnW w' w.heap.size w'.heap.size (.slice A R.length c) R ∧ Below w.heap.size w w' ∧ (R.Pairwise fun x y => encB x < encB y) ∧ ∀ b, b ∈ R ↔ ∃ f ∈ fs, matchL a f noneB = some b := by
  obtain ⟨i0, hi0, hz0, hz1, hz2⟩ := info_parts Tryz.infoWord
  have H := Lib.hid h
  have HF := Lib.hid hf
  obtain ⟨A, c, rfl, hc, _⟩ := h
  obtain ⟨av, rfl, h2⟩ := h2
  obtain ⟨A2, c2, rfl, hc2, hA2⟩ := h2
  have H2 := Lib.hid (show RdInts w w.heap.size (.slice A2 a.2.length c2) a.2 from ⟨A2, c2, rfl, hc2, hA2⟩)
  clear hf hA2
  go_enter Tryz.func110, Tryz.ntmps110
  go_wp2_with fail
  obtain ⟨w1, hw1⟩ : ∃ w1, w1 = w.alloc (Obj.cells #[Value.int IntKind.i64 a.1, Value.slice A2 a.2.length c2] 68) := ⟨_, rfl⟩
  have B1 : Below w.heap.size w w1 := by rw [hw1]; exact below1 _ _
  have X1 : Blk w1 w.heap.size 68 #[.int .i64 a.1, .slice A2 a.2.length c2] := by rw [hw1]; exact Blk.new _ _ _
  rw [← hw1]
  clear hw1
  have HX := Lib.hid (And.intro B1 X1)
  clear B1 X1
  go_loopg [5, 12] fs.length (fun q vo vi wr => ∃ (k : Nat) (A : Option Addr) (c : Nat), vi = .int .i64 k ∧ k ≤ fs.length ∧ q = fs.length - k ∧ vo = .slice A (rowsTo a fs k).length c ∧ ColB w1 wr (rowsTo a fs k) A c)
  case atStart => exact ⟨0, none, 0, rfl, Nat.zero_le _, rfl, rfl, ColB.nil (Below.refl _ _)⟩
  case round =>
    obtain ⟨k, A3, c3, rfl, hk, hq, rfl, hcol⟩ := hrel
    have HC := Lib.hid hcol
    have HBW := Lib.hid (bthen HX.out.1 hcol.below)
    have HX2 := Lib.hid (HX.out.2.below hcol.below HX.out.2.lt)
    clear hcol
    by_cases hlt : k < fs.length
    · obtain ⟨b, o, A4, c4, rfl, hbB, k1, k2, k3⟩ := (H.out.on HBW.out).get hlt
      have hln := len_le_tot fs k hlt
      have q0 : wr.cell? ⟨w.heap.size, 0, none⟩ = some (.int .i64 a.1) := HX2.out.cell 0
      have q1 : wr.cell? ⟨w.heap.size, 1, none⟩ = some (.slice A2 a.2.length c2) := HX2.out.cell 1
      have hwlt := HX2.out.lt
      have hfk := HF.out _ (List.getElem_mem hlt)
      have HK3 := Lib.hid k3
      have HST := Lib.hid (rowsTo_step (a := a) hlt)
      have HLN := Lib.hid (rowsTo_len a fs k)
      obtain ⟨w3, hw3⟩ : ∃ w3, w3 = wr.alloc (Obj.cells #[Value.int IntKind.i64 fs[k].1, Value.slice A4 fs[k].2.length c4] 51) := ⟨_, rfl⟩
      have B3 : Below wr.heap.size wr w3 := by rw [hw3]; exact below1 _ _
      have hM := matched_n (.agg #[.int .i64 a.1, .slice A2 a.2.length c2]) (.agg #[.int .i64 fs[k].1, .slice A4 fs[k].2.length c4]) a fs[k] noneB _ _ rfl rfl w3 noneB_ok
        ⟨_, rfl, H2.out.on (bthen HBW.out B3)⟩ ⟨_, rfl, k3.on B3⟩ ht hfk ha (by omega)
      rw [encB_none, show (((0 : Nat) : Nat) : Int) = 0 from rfl] at hM
      rw [hw3] at hM
      have HM := Lib.hid hM
      have HW3 := Lib.hid (And.intro hw3 B3)
      cases hm : matchL a fs[k] noneB with
      | none =>
        rw [hm] at HM HST
        clear k3 hM hw3 B3 hm hfk
        go_wp2_with (go_at_call 120; refine HM.out.mono ?_; rintro e w4 ⟨rfl, hb4⟩)
        rw [← HW3.out.1] at hb4
        have HCN := Lib.hid (HC.out.later (bthen HW3.out.2 hb4))
        have HE := Lib.hid (show rowsTo a fs (k + 1) = rowsTo a fs k by rw [HST.out]; simp)
        clear hb4
        go_roundg (fs.length - (k + 1))
        case measure => omega
        case rel => exact ⟨k + 1, _, _, by go_num, by omega, rfl, by rw [HE.out], by rw [HE.out]; exact HCN.out⟩
      | some r =>
        rw [hm] at HM HST
        have HE := Lib.hid (show rowsTo a fs (k + 1) = rowsTo a fs k ++ [r] by rw [HST.out]; rfl)
        clear k3 hM hw3 B3 hm hfk
        have hEO : encO (some r) = encB r := rfl
        rw [hEO] at HM
        clear hEO
        go_wp2_with (first
          | (go_at_call 120; refine HM.out.mono ?_; rintro e w4 ⟨rfl, hb4⟩; rw [← HW3.out.1] at hb4; have HCN := Lib.hid (HC.out.later (bthen HW3.out.2 hb4)); have HB4 := Lib.hid (bthen HW3.out.2 hb4); clear hb4)
          | (at_builtin; refine wpList_append_lies _ rfl (.tmp 23) (.tmp 25) 78 rfl w1.heap.size 83 i0 (.int .u32 0) 1 4 Tryz.underlying78 hi0 hz0 hz1 hz2 rfl (by decide) (.slice A3 (rowsTo a fs k).length c3) (rowsTo a fs k).length ((rowsTo a fs k).map wd) rfl ?c1 ⟨_, 0, none⟩ 1 1 [wd r] rfl rfl (news1s _ _ _ _ (by simp)) ?c2 (by omega) (by have := HLN.out; unfold maxLen; omega) (by have := HLN.out; omega) ?c3 _ rfl ?_))
        case c1 => exact HCN.out.own.1.alloc _
        case c2 => intro u hu; simp at hu; subst hu; rfl
        case c3 => have := HCN.out.below.size; simp; omega
        intro g cap w5 hown hg _ _
        have hcolN := HCN.out.push (Below.refl _ _) hg hown
        rw [← HE.out] at hcolN
        have hlen : (rowsTo a fs k).length + 1 = (rowsTo a fs (k + 1)).length := by rw [HE.out]; simp
        rw [hlen]
        have HCP := Lib.hid hcolN
        clear hcolN hlen hown hg
        go_wp2_with fail
        go_roundg (fs.length - (k + 1))
        case measure => omega
        case rel => exact ⟨k + 1, _, _, by go_num, by omega, rfl, rfl, HCP.out⟩
    · have HFIN := Lib.hid (show rowsTo a fs k = rowsTo a fs fs.length by rw [show k = fs.length by omega])
      have HLN := Lib.hid (rowsTo_len a fs k)
      have HOK := Lib.hid (rowsTo_ok (a := a) HF.out k)
      have hsz1 := HX.out.1.size
      have hszr := HC.out.below.size
      obtain ⟨Rk, hRk⟩ : ∃ Rk, Rk = rowsTo a fs k := ⟨_, rfl⟩
      rw [← hRk] at HC HFIN HLN HOK ⊢
      have HSO := Lib.hid (sortW_any w1.heap.size wr.heap.size (.slice A3 Rk.length c3) Rk wr HC.out.own (by have := HLN.out; omega))
      clear hRk hq
      go_wp2_with (first
        | (go_at_call 121; refine HSO.out.mono ?_; rintro e w4 ⟨rfl, S', hp, hup, own4, only4⟩;
           have HP := Lib.hid hp; have HO4 := Lib.hid only4; have HCC := Lib.hid (compactW_any w1.heap.size wr.heap.size (.slice A3 Rk.length c3) S' w4 own4 (fun b hb => HOK.out b (hp.mem_iff.1 hb)) hup (by have := HLN.out; have := hp.length_eq; omega)); clear hp hup own4 only4)
        | (go_at_call 122; refine HCC.out.mono ?_; rintro e w5 ⟨A6, c6, T, rfl, own5, only5, hT1, hT2, hT3⟩;
           have H5 := Lib.hid (And.intro own5 (And.intro only5 (And.intro hT1 hT2))); clear own5 only5 hT1 hT2 hT3))
      go_ret
      obtain ⟨own5, only5, hT1, hT2⟩ := H5.out
      have o45 := HO4.out.trans only5
      refine ⟨A6, c6, T, rfl, own5.mono (by omega) (by have := o45.size; omega), Only.then_ (bthen HX.out.1 HC.out.below) o45 (by omega), hT1, fun b => ?_⟩
      rw [hT2, HP.out.mem_iff, HFIN.out]
      unfold rowsTo
      rw [List.take_length, List.mem_filterMap]

end Go.Proofs.YtcceololijefiaaGreatDoor
/-
  Marks on lists of facts: the words, and the walks of markFactS, markFact, heldFactS.
-/
namespace Go.Proofs.YtcceololijefiaaGreatDoor
open Go.RowKit

/-- The facts that marks from k on leave. -/
def markF : Int → List LFact → List LFact
  | _, [] => []
  | k, f :: fs => (k, seqI (k + 1) f.2.length) :: markF (k + 1 + (f.2.length : Int)) fs
/-- The mark behind the last one. -/
def endF (k : Int) (fs : List LFact) : Int := k + (fs.length : Int) + (tot fs : Int)

theorem tot_cons (f : LFact) (fs : List LFact) : tot (f :: fs) = f.2.length + tot fs := by simp [tot]
theorem tot_append (xs ys : List LFact) : tot (xs ++ ys) = tot xs + tot ys := by simp [tot]
theorem markF_length : ∀ (k : Int) (fs : List LFact), (markF k fs).length = fs.length
  | _, [] => rfl
  | k, f :: fs => by simp [markF, markF_length _ fs]
theorem markF_tot : ∀ (k : Int) (fs : List LFact), tot (markF k fs) = tot fs
  | _, [] => rfl
  | k, f :: fs => by simp [markF, tot_cons, seqI_length, markF_tot _ fs]
theorem markF_snoc : ∀ (k : Int) (fs : List LFact) (f : LFact), markF k (fs ++ [f]) = markF k fs ++ [(endF k fs, seqI (endF k fs + 1) f.2.length)]
  | k, [], f => by simp [markF, endF, tot]
  | k, g :: fs, f => by
    have h := markF_snoc (k + 1 + (g.2.length : Int)) fs f
    have e : endF (k + 1 + (g.2.length : Int)) fs = endF k (g :: fs) := by simp [endF, tot_cons]; omega
    rw [e] at h
    simp [markF, h]
def markedF (fs : List LFact) (k : Int) (j : Nat) : List LFact := markF k (fs.take j) ++ fs.drop j
theorem markedF_length {fs : List LFact} {k : Int} {j : Nat} (h : j ≤ fs.length) : (markedF fs k j).length = fs.length := by simp [markedF, markF_length]; omega
theorem markedF_at {fs : List LFact} {k : Int} {j : Nat} (h : j < fs.length) (h' : j < (markedF fs k j).length) : (markedF fs k j)[j] = fs[j] := by
  have hl : (markF k (fs.take j)).length = j := by rw [markF_length]; simp; omega
  have e : (markedF fs k j)[j]? = some fs[j] := by
    unfold markedF
    rw [List.getElem?_append_right (by omega), hl]
    simp [h]
  rw [List.getElem?_eq_getElem h'] at e
  exact Option.some.inj e
theorem markedF_step {fs : List LFact} {k : Int} {j : Nat} (h : j < fs.length) : (markedF fs k j).set j (endF k (fs.take j), seqI (endF k (fs.take j) + 1) fs[j].2.length) = markedF fs k (j + 1) := by
  have hl : (markF k (fs.take j)).length = j := by rw [markF_length]; simp; omega
  unfold markedF
  rw [List.drop_eq_getElem_cons h, List.set_append_right _ _ (by omega), hl, Nat.sub_self, List.set_cons_zero, take_snoc fs j h, markF_snoc]
  simp
theorem markedF_zero (fs : List LFact) (k : Int) : markedF fs k 0 = fs := by simp [markedF, markF]
theorem markedF_all (fs : List LFact) (k : Int) : markedF fs k fs.length = markF k fs := by simp [markedF]
theorem markF_at {fs : List LFact} {k : Int} {j : Nat} (h : j < fs.length) (h' : j < (markF k fs).length) : (markF k fs)[j] = (endF k (fs.take j), seqI (endF k (fs.take j) + 1) fs[j].2.length) := by
  have e : fs = fs.take (j + 1) ++ fs.drop (j + 1) := (List.take_append_drop _ _).symm
  have hl : (markF k (fs.take j)).length = j := by rw [markF_length]; simp; omega
  have hp : ∀ (xs ys : List LFact) (k : Int), ∃ zs, markF k (xs ++ ys) = markF k xs ++ zs := by
    intro xs
    induction xs with
    | nil => intro ys k; exact ⟨_, rfl⟩
    | cons x xs ih =>
      intro ys k
      obtain ⟨zs, hz⟩ := ih ys (k + 1 + (x.2.length : Int))
      exact ⟨zs, by simp [markF, hz]⟩
  obtain ⟨zs, hz⟩ := hp (fs.take (j + 1)) (fs.drop (j + 1)) k
  rw [← e, take_snoc fs j h, markF_snoc] at hz
  have : (markF k fs)[j]? = some (endF k (fs.take j), seqI (endF k (fs.take j) + 1) fs[j].2.length) := by
    rw [hz, List.append_assoc, List.getElem?_append_right (by omega), hl]
    simp
  rw [List.getElem?_eq_getElem h'] at this
  exact Option.some.inj this
theorem endF_zero (k : Int) (fs : List LFact) : endF k (fs.take 0) = k := by simp [endF, tot]
theorem endF_step {fs : List LFact} {k : Int} {j : Nat} (h : j < fs.length) : endF k (fs.take (j + 1)) = endF k (fs.take j) + 1 + (fs[j].2.length : Int) := by
  have := tot_take fs j h
  simp only [endF, List.length_take, this]
  omega
theorem tot_take_le (fs : List LFact) (j : Nat) : tot (fs.take j) ≤ tot fs := by
  have := tot_append (fs.take j) (fs.drop j)
  rw [List.take_append_drop] at this
  omega

/-- A row of facts of the call's own, its rows of integers named. -/
structure OwnFA (w : World) (lo hi : Nat) (v : Value) (fs : List LFact) (av : List Value) : Prop where
  args : OwnArgs w lo hi av (fs.map (·.2))
  row : w.ownsRow lo 51 2 v fs.length (flat fs av)
  lt : ∀ g, v.ownBlock = some g → g < hi
theorem OwnFA.own {w : World} {lo hi : Nat} {v : Value} {fs : List LFact} {av : List Value} (h : OwnFA w lo hi v fs av) : OwnFacts w lo hi v fs := ⟨av, h.args, h.row, h.lt⟩

theorem flat_set : ∀ (fs : List LFact) (av : List Value) (j : Nat) (f : LFact), av.length = fs.length → flat (fs.set j f) av = (flat fs av).set (j * 2) (.int .i64 f.1)
  | [], [], _, _, _ => rfl
  | [], a :: av, _, _, h => by simp at h
  | g :: fs, [], _, _, h => by simp at h
  | g :: fs, a :: av, 0, f, _ => by simp [flat]
  | g :: fs, a :: av, j + 1, f, h => by
    have := flat_set fs av j f (by simpa using h)
    simp [flat, Nat.add_mul, this]

/-- The block of a row of integers is no block of a row of facts. -/
theorem types_ne {w : World} {lo hi lo' g : Nat} {n : Nat} {v a : Value} {zs : List Value} {xs : List Int} (hr : w.ownsRow lo' 51 2 v n zs) (hv : v.ownBlock = some g) (ha : OwnInts w lo hi a xs) : a.ownBlock ≠ some g := by
  rcases hr.2 with ⟨rfl, _⟩ | ⟨g1, c1, cur1, rfl, _, h1, _⟩
  · cases hv
  · have e : g1 = g := by simpa [Value.ownBlock] using hv
    subst e
    rcases ha.1.2 with ⟨rfl, _⟩ | ⟨g2, c2, cur2, rfl, _, h2, _⟩
    · simp [Value.ownBlock]
    · intro e
      have e : g2 = g1 := by simpa [Value.ownBlock] using e
      subst e
      rw [h1] at h2
      injection h2 with h2
      injection h2 with _ h2
      exact absurd h2 (by decide)

theorem OwnFA.step {w w3 : World} {lo hi g j c : Nat} {fs : List LFact} {av : List Value} {p : Int} {ys : List Int} (h : OwnFA w lo hi (.slice (some ⟨g, 0, none⟩) fs.length c) fs av) (hj : j < fs.length) (hja : j < av.length)
    (hI : OwnInts w3 lo hi av[j] ys) (hg : (w.setCell ⟨g, j * 2, none⟩ (.int .i64 p)).grownBy w3 av[j].ownBlock) : OwnFA w3 lo hi (.slice (some ⟨g, 0, none⟩) fs.length c) (fs.set j (p, ys)) av := by
  obtain ⟨ha, hr, hlt⟩ := h
  have hlen : av.length = fs.length := by simpa using ha.len
  have hapart : ∀ i i' (hi' : i < av.length) (hi'' : i' < av.length), i ≠ i' → ∀ b, av[i].ownBlock = some b → av[i'].ownBlock ≠ some b := by
    intro i i' h1 h2 hne b hb hb'
    have hp := List.pairwise_iff_getElem.1 ha.apart
    rcases Nat.lt_or_gt_of_ne hne with hl | hl
    · exact hp i i' h1 h2 hl b hb hb'
    · exact hp i' i h2 h1 hl b hb' hb
  have hown : ∀ i (h1 : i < (fs.map (·.2)).length) (h2 : i < av.length), OwnInts w lo hi av[i] (fs.map (·.2))[i] := ha.own
  refine ⟨⟨by simp [hlen], fun i h1 h2 => ?_, ha.apart⟩, ?_, hlt⟩
  · by_cases e : i = j
    · subst e
      simpa using hI
    · have h0 := hown i (by simpa using h1) h2
      have hz : ((fs.set j (p, ys)).map (·.2))[i] = (fs.map (·.2))[i]'(by simpa using h1) := by
        simp [Ne.symm e]
      rw [hz]
      refine h0.kept fun b hb => ?_
      have hbg := types_ne hr rfl h0
      have hne : b ≠ g := fun e => hbg (by rw [hb, e])
      have hbl := h0.lt hb
      rw [hg.block b (by simpa using hbl.2.2) (fun e2 => hapart i j h2 hja e b hb e2.symm)]
      exact Below.heap_setCell _ _ _ _ hne
  · obtain ⟨hfl, hr2⟩ := hr
    have hgj := types_ne ⟨hfl, hr2⟩ rfl (hown j (by simpa using hj) hja)
    rcases hr2 with ⟨e, _⟩ | ⟨g', cap, cur, e, hbg, hgg, hn, hm, hs, ht⟩
    · cases e
    · injection e with e1 e2 e3
      injection e1 with e1
      injection e1 with e1 _ _
      subst e1
      subst e3
      have hgs := (Array.getElem?_eq_some_iff.1 hgg).1
      refine ⟨by rw [flat_set _ _ _ _ hlen]; simpa using hfl, .inr ⟨g, c, cur.setIfInBounds (j * 2) (.int .i64 p), by simp, hbg, ?_, by simpa using hn, hm, by simpa using hs, ?_⟩⟩
      · rw [hg.block g (by simpa using hgs) (fun e2 => hgj e2.symm)]
        simp [World.setCell, Array.getElem?_modify, hgg]
      · rw [flat_set _ _ _ _ hlen, List.length_set, Array.toList_setIfInBounds, List.take_set, ht]

theorem OwnFA.form {w : World} {lo hi : Nat} {v : Value} {fs : List LFact} {av : List Value} (h : OwnFA w lo hi v fs av) : ∃ A c, v = .slice A fs.length c ∧ (0 < fs.length → ∃ g, A = some ⟨g, 0, none⟩ ∧ lo ≤ g ∧ g < hi) := by
  rcases h.row.2 with ⟨rfl, h0⟩ | ⟨g, cap, _, rfl, hb, _⟩
  · exact ⟨none, 0, by rw [h0], fun hn => by omega⟩
  · exact ⟨_, _, rfl, fun _ => ⟨g, rfl, hb, h.lt g rfl⟩⟩
theorem OwnFacts.form {w : World} {lo hi : Nat} {v : Value} {fs : List LFact} (h : OwnFacts w lo hi v fs) : ∃ A c, v = .slice A fs.length c := by
  obtain ⟨av, h1, h2, h3⟩ := h
  obtain ⟨A, c, e, _⟩ := (OwnFA.mk h1 h2 h3).form
  exact ⟨A, c, e⟩
/-- What the walk reads of fact j. -/
theorem OwnFA.get {w : World} {lo hi g c j : Nat} {fs : List LFact} {av : List Value} (h : OwnFA w lo hi (.slice (some ⟨g, 0, none⟩) fs.length c) fs av) (hj : j < fs.length) (hja : j < av.length) :
    w.cell? ⟨g, j * 2, none⟩ = some (.int .i64 fs[j].1) ∧ w.frozen? ⟨g, j * 2, none⟩ = false ∧ w.cell? ⟨g, j * 2 + 1, none⟩ = some av[j] := by
  have hl : av.length = fs.length := by simpa using h.args.len
  have hcells := @World.ownsRow.cells w lo 51 2 _ fs.length (flat fs av) h.row g rfl
  have h1 := hcells _ _ (flat_at fs av hl j hj hja).1
  have h2 := hcells _ _ (flat_at fs av hl j hj hja).2
  rw [Go.WideShapes.add_plain, Nat.zero_add] at h1 h2
  refine ⟨h1, ?_, h2⟩
  rcases h.row.2 with ⟨e, _⟩ | ⟨g', cap, cur, e, _, hgg, _⟩
  · cases e
  · injection e with e1 _ _
    injection e1 with e1
    injection e1 with e1 _ _
    subst e1
    simp [World.frozen?, hgg]

set_option maxHeartbeats 1000000 in
set_option maxRecDepth 100000 in
theorem markFactS_any (v : Value) (fs : List LFact) (k : Int) (lo hi : Nat) (w : World) (h : OwnFacts w lo hi v fs) (hk0 : 0 ≤ k) (hk : k ≤ 4294967296) (hn : fs.length ≤ 1073741824) (ht : tot fs ≤ 1073741824) :
    Calls Tryz.prog 13 #[v, .int .i64 k] w fun e w' => e = .returned (.int .i64 (endF k fs)) ∧ OwnFacts w' lo hi v (markF k fs) ∧ Only lo hi w w' := by
  obtain ⟨av, h1, h2, h3⟩ := h
  have h : OwnFA w lo hi v fs av := ⟨h1, h2, h3⟩
  clear h1 h2 h3
  obtain ⟨A, c, hv, hform⟩ := h.form
  subst hv
  have hla : av.length = fs.length := by simpa using h.args.len
  have HLA := Lib.hid hla
  clear hla
  have H := Lib.hid h
  clear h
  go_enter Tryz.func13, Tryz.ntmps13
  go_wp2_with (fail)
  go_loopw [1, 5] (fun m i wr => ∃ (j : Nat) (q : Int), j ≤ fs.length ∧ i = .int .i64 j ∧ m = .int .i64 q ∧ q = endF k (fs.take j) ∧ OwnFA wr lo hi (.slice A fs.length c) (markedF fs k j) av ∧ Only lo hi w wr) (fun _ i _ => fs.length - (intOf i).toNat)
  case atStart => exact ⟨0, k, Nat.zero_le _, rfl, rfl, by rw [endF_zero], by rw [markedF_zero]; exact H.out, Only.refl _ _ _⟩
  case round =>
    obtain ⟨j, q, hj, rfl, rfl, hq, ho, hon⟩ := hrel
    by_cases hlt : j < fs.length
    · obtain ⟨g, rfl, hg1, hg2⟩ := hform (by omega)
      have hml := markedF_length (k := k) (Nat.le_of_lt hlt)
      have hja : j < av.length := by rw [HLA.out]; exact hlt
      have ho' : OwnFA wr lo hi (.slice (some ⟨g, 0, none⟩) (markedF fs k j).length c) (markedF fs k j) av := by rw [hml]; exact ho
      obtain ⟨c1, f1, c2⟩ := ho'.get (j := j) (by omega) hja
      have hI0 := ho.args.own j (by rw [List.length_map]; omega) hja
      have hat := markedF_at (k := k) hlt (by omega)
      rw [List.getElem_map, hat] at hI0
      rw [hat] at c1
      obtain ⟨A3, c3, hav⟩ := hI0.form
      rw [hav] at c2
      have hI1 := hI0.kept (w' := wr.setCell ⟨g, j * 2, none⟩ (.int .i64 q)) (fun b hb => Below.heap_setCell _ _ _ _ (fun e => types_ne ho'.row rfl hI0 (by rw [hb, e])))
      rw [hav] at hI1
      have hqb : 0 ≤ q ∧ q ≤ 8589934592 := by
        have h1 := tot_take_le fs j
        have h2 : (fs.take j).length ≤ fs.length := by rw [List.length_take]; omega
        subst hq
        simp only [endF] at *
        omega
      obtain ⟨hq0, hq1⟩ := hqb
      have hln := len_le_tot fs j hlt
      have HI := Lib.hid hI1
      have HO := Lib.hid (And.intro ho' (And.intro hml (And.intro hav hq)))
      clear hI0 hI1 ho ho' hml hat hq
      go_wp2_with (fail)
      refine (markIntS_any _ fs[j].2 (q + 1) lo hi _ HI.out (by omega) (by omega)).mono ?_
      rintro e w3 ⟨rfl, ho3, hg3⟩
      obtain ⟨hOF, hml, hav, hq⟩ := HO.out
      have hst := hOF.step (j := j) (by omega) hja (by rw [hav]; exact ho3) (by rw [hav]; exact hg3)
      rw [hml, hq, markedF_step hlt] at hst
      have hE := endF_step (k := k) hlt
      have hon3 : Only lo hi w w3 := (hon.setCell (p := ⟨g, j * 2, none⟩) ⟨hg1, hg2⟩ _).trans (Only.of_grown hg3 (fun b hb => by have := HI.out.lt hb; omega))
      have HS := Lib.hid (And.intro hst (show q + 1 + (fs[j].2.length : Int) = endF k (fs.take (j + 1)) by rw [hE, hq]))
      clear hst hOF hml hav hq hE
      go_wp2_with (fail)
      go_roundw
      case rel => exact ⟨j + 1, _, by omega, by go_num, rfl, HS.out.2, HS.out.1, hon3⟩
      case measure => simp [intOf]; omega
    · have hkn : j = fs.length := by omega
      have HO := Lib.hid (show OwnFacts wr lo hi (.slice A fs.length c) (markF k fs) by rw [← markedF_all, ← hkn]; rw [← hkn] at ho; exact ho.own)
      have HK := Lib.hid (show q = endF k fs by rw [hq, hkn, List.take_length])
      clear hkn ho hq
      go_wp2_with (fail)
      go_ret
      exact ⟨ret_int HK.out, HO.out, hon⟩

theorem endF_bound {fs : List LFact} {k : Int} (j : Nat) (hk0 : 0 ≤ k) (hk : k ≤ 4294967296) (hn : fs.length ≤ 1073741824) (ht : tot fs ≤ 1073741824) : 0 ≤ endF k (fs.take j) ∧ endF k (fs.take j) ≤ 8589934592 := by
  have h1 := tot_take_le fs j
  have h2 : (fs.take j).length ≤ fs.length := by rw [List.length_take]; omega
  simp only [endF]
  omega

set_option maxHeartbeats 1000000 in
set_option maxRecDepth 100000 in
theorem heldFactS_any (v : Value) (fs : List LFact) (k : Int) (w : World) (h : RdFacts w w.heap.size v (markF k fs)) (hk0 : 0 ≤ k) (hk : k ≤ 4294967296) (hn : fs.length ≤ 1073741824) (ht : tot fs ≤ 1073741824) :
    Calls Tryz.prog 14 #[v, .int .i64 k] w fun e w' => e = .returned (.int .i64 (endF k fs)) ∧ w = w' := by
  obtain ⟨A, c, rfl, hc, hcell⟩ := h
  rw [markF_length] at hc ⊢
  go_enter Tryz.func14, Tryz.ntmps14
  go_wp2_with (fail)
  go_loop [1, 5] (fun m i => ∃ (j : Nat) (q : Int), j ≤ fs.length ∧ i = .int .i64 j ∧ m = .int .i64 q ∧ q = endF k (fs.take j)) (fun _ i => fs.length - (intOf i).toNat)
  case atStart => exact ⟨0, k, Nat.zero_le _, rfl, rfl, by rw [endF_zero]⟩
  case round =>
    obtain ⟨j, q, hj, rfl, rfl, hq⟩ := hrel
    by_cases hlt : j < fs.length
    · obtain ⟨b, o, rfl, hbB, hx⟩ := hcell (by rw [markF_length]; omega)
      have hlm : j < (markF k fs).length := by rw [markF_length]; exact hlt
      obtain ⟨a, p1, p2, p3⟩ := hx j hlm
      rw [markF_at hlt hlm, ← hq] at p1 p3
      have h4 := p3
      obtain ⟨A3, c3, rfl, hc3, _⟩ := p3
      have h5 := (h4.more (Nat.le_refl _) : RdInts w w.heap.size _ (seqI (q + 1) fs[j].2.length))
      rw [seqI_length] at h5 p2
      have HR := Lib.hid h5
      have hqq := endF_bound (k := k) j hk0 hk hn ht
      rw [← hq] at hqq
      obtain ⟨hq0, hq1⟩ := hqq
      have hln := len_le_tot fs j hlt
      have hne : (q != q) = false := by simp
      have HE := Lib.hid (show q + 1 + (fs[j].2.length : Int) = endF k (fs.take (j + 1)) by rw [endF_step hlt, hq])
      clear hx hcell h4 h5 hq hc3 hlm
      go_wp2_with (fail)
      refine (heldIntS_any _ fs[j].2.length (q + 1) _ HR.out (by omega) (by omega)).mono ?_
      rintro e w3 ⟨rfl, rfl⟩
      have hneg : ¬ q + 1 + (fs[j].2.length : Int) < 0 := by omega
      go_wp2_with (fail)
      go_round
      case rel => exact ⟨j + 1, _, by omega, by go_num, rfl, HE.out⟩
      case measure => simp [intOf]; omega
    · have hkn : j = fs.length := by omega
      have HK := Lib.hid (show q = endF k fs by rw [hq, hkn, List.take_length])
      clear hkn hq hcell
      go_wp2_with (fail)
      go_ret
      exact ⟨ret_int HK.out, rfl⟩

end Go.Proofs.YtcceololijefiaaGreatDoor
/-
  The relation of a loop that collects facts.
-/
namespace Go.Proofs.YtcceololijefiaaGreatDoor
open Go.RowKit

/-- One fact more, behind append. -/
theorem OwnFA.push {wr w2 w4 : World} {lo hi : Nat} {v v' a : Value} {gs : List LFact} {av : List Value} {f : LFact} {o : Obj} (h : OwnFA wr lo hi v gs av) (hhi : hi ≤ wr.heap.size) (hlo : lo ≤ hi) (hb : Below wr.heap.size wr w2)
    (ha : OwnInts w2 wr.heap.size w2.heap.size a f.2) (hg : (w2.alloc o).grownBy w4 v.ownBlock) (hown : w4.ownsRow lo 51 2 v' (gs.length + 1) (flat gs av ++ [.int .i64 f.1, a])) : OwnFacts w4 lo w4.heap.size v' (gs ++ [f]) := by
  have hg' := grown_from_alloc hg
  have hlen : av.length = gs.length := by simpa using h.args.len
  have hrow2 := ownsRow_below h.row h.lt hb hhi
  have hargs2 : OwnArgs w2 lo w2.heap.size (av ++ [a]) (gs.map (·.2) ++ [f.2]) := ((h.args.below hb hhi).mono (Nat.le_refl _) hhi).snoc ha (by omega) hb.size
  refine ⟨av ++ [a], ⟨by simp [hlen], fun i h1 h2 => ?_, hargs2.apart⟩, ?_, fun g hg2 => (hown.lt g hg2).2⟩
  · have h0 := hargs2.own i (by simpa using h1) h2
    have hz : ((gs ++ [f]).map (·.2))[i] = (gs.map (·.2) ++ [f.2])[i]'(by simpa using h1) := by simp
    rw [hz]
    refine (h0.kept fun b hbk => hg'.block b (h0.lt hbk).2.2 (fun e => types_ne hrow2 e.symm h0 hbk)).mono (Nat.le_refl _) ?_
    exact hg'.size
  · rw [flat_snoc _ _ hlen, List.length_append, List.length_singleton]
    exact hown

/-- The relation of a loop that collects facts. -/
structure ColRel (w wr : World) (gs : List LFact) (A : Option Addr) (c : Nat) (av : List Value) : Prop where
  below : Below w.heap.size w wr
  own : OwnFA wr w.heap.size wr.heap.size (.slice A gs.length c) gs av

theorem ColRel.nil (w : World) : ColRel w w [] none 0 [] := ⟨Below.refl _ _, ⟨.nil, World.ownsRow_nil _ _ _ _, fun g hg => by cases hg⟩⟩

theorem ColRel.empty (w : World) : ColRel w (w.alloc (.cells #[] 51)) [] (some ⟨w.heap.size, 0, none⟩) 0 [] :=
  ⟨below1 _ _, ⟨.nil, World.ownsRow_made w #[] 0 (Nat.le_refl _) (by decide) rfl, fun g hg => by simp [Value.ownBlock] at hg; subst hg; simp⟩⟩

theorem news2 (w : World) (x y : Value) (t : TypeId) : ∀ j u, [x, y][j]? = some u → (w.alloc (.cells #[x, y] t)).cell? ((⟨w.heap.size, 0, none⟩ : Addr).add j) = some u := World.news_of_block (cs := #[x, y]) (heap_alloc_new w _)

/-- .. and one fact more in its relation. -/
theorem ColRel.push {w wr w2 w4 : World} {gs gs' : List LFact} {A : Option Addr} {c g cap : Nat} {av : List Value} {f : LFact} {a : Value} {o : Obj} (h : ColRel w wr gs A c av) (e : gs' = gs ++ [f]) (hb : Below wr.heap.size wr w2)
    (ha : OwnInts w2 wr.heap.size w2.heap.size a f.2) (hg : (w2.alloc o).grownBy w4 (Value.slice A gs.length c).ownBlock) (hown : w4.ownsRow w.heap.size 51 2 (.slice (some ⟨g, 0, none⟩) (gs.length + 1) cap) (gs.length + 1) (flat gs av ++ [.int .i64 f.1, a])) :
    ∃ av', ColRel w w4 gs' (some ⟨g, 0, none⟩) cap av' ∧ gs.length + 1 = gs'.length := by
  subst e
  obtain ⟨av', h1, h2, h3⟩ := h.own.push (Nat.le_refl _) h.below.size hb ha hg hown
  have hl : gs.length + 1 = (gs ++ [f]).length := by simp
  refine ⟨av', ⟨((bthen h.below hb).alloc (bthen h.below hb).size _).grown hg (by have := (bthen h.below hb).size; simp; omega) (fun k hk => (h.own.row.lt k hk).1), ?_⟩, hl⟩
  rw [← hl]
  exact ⟨h1, h2, h3⟩

/-- A world that only grew keeps the relation. -/
theorem ColRel.on {w wr w2 : World} {gs : List LFact} {A : Option Addr} {c : Nat} {av : List Value} (h : ColRel w wr gs A c av) (hb : Below wr.heap.size wr w2) : ColRel w w2 gs A c av :=
  ⟨bthen h.below hb, ⟨(h.own.args.below hb (Nat.le_refl _)).mono (Nat.le_refl _) hb.size, ownsRow_below h.own.row h.own.lt hb (Nat.le_refl _), fun g hg => Nat.lt_of_lt_of_le (h.own.lt g hg) hb.size⟩⟩

end Go.Proofs.YtcceololijefiaaGreatDoor
/-
  The walk of the specification's FactsWith.
-/
namespace Go.Proofs.YtcceololijefiaaGreatDoor
open Go.RowKit

/-- append of one copied fact onto the row that a loop collects. -/
theorem wpList_push {ops : Array Oper} {rest : List Oper} {op : Oper} {a : Act} {Q : Exit → Act → World → Prop} (hgd : op.guard = none) (s x : Operand)
    (ho : op.op = .call { callee := .builtin .append, args := #[s, x], argTypes := #[29, 29] })
    {w wr w2 : World} {gs : List LFact} {A A4 : Option Addr} {c c4 : Nat} {av : List Value} {f : LFact} (h : ColRel w wr gs A c av) (hb : Below wr.heap.size wr w2) (ha : OwnInts w2 wr.heap.size w2.heap.size (.slice A4 f.2.length c4) f.2)
    {n : Nat} (hnl : n = gs.length) (hs : a.eval s = .slice A n c) (hx : a.eval x = .slice (some ⟨w2.heap.size, 0, none⟩) 1 1) (hn : gs.length ≤ 1073741824)
    (K : ∀ g cap w4 av', ColRel w w4 (gs ++ [f]) (some ⟨g, 0, none⟩) cap av' → w2.grownBy w4 (Value.slice A gs.length c).ownBlock → wpList Tryz.prog ops Q rest (a.put op.dst (.slice (some ⟨g, 0, none⟩) (n + 1) cap)) w4) :
    wpList Tryz.prog ops Q (op :: rest) a (w2.alloc (.cells #[.int .i64 f.1, .slice A4 f.2.length c4] 51)) := by
  subst hnl
  obtain ⟨i0, hi0, hz0, hz1, hz2⟩ := info_parts Tryz.infoFact
  refine wpList_append_lies _ hgd s x 29 ho w.heap.size 51 i0 (.agg #[.int .i64 0, .slice none 0 0]) 2 32 Tryz.underlying29 hi0 hz0 hz1 hz2 rfl (by decide) (.slice A gs.length c) gs.length (flat gs av) hs ?_ ⟨w2.heap.size, 0, none⟩ 1 1 [.int .i64 f.1, .slice A4 f.2.length c4] hx rfl (news2 _ _ _ _) ?_ (by omega) (by unfold maxLen; omega) (by omega) ?_ _ rfl ?_
  · exact (ownsRow_below h.own.row h.own.lt hb (Nat.le_refl _)).alloc _
  · intro u hu
    simp at hu
    rcases hu with rfl | rfl <;> rfl
  · have := h.below.size
    have := hb.size
    simp
    omega
  intro g cap w4 hown hg _ _
  obtain ⟨av', hcol, _⟩ := h.push rfl hb ha hg hown
  exact K g cap w4 av' hcol (grown_from_alloc hg)

def withStep (f : LFact) (s : List LFact × Bool) (g : LFact) : List LFact × Bool :=
  ((if s.2 = false ∧ factOrder f g ≤ 0 then s.1 ++ [f] else s.1) ++ (if factOrder f g = 0 then [] else [g]), s.2 || decide (factOrder f g ≤ 0))
def withTo (fs : List LFact) (f : LFact) (k : Nat) : List LFact × Bool := (fs.take k).foldl (withStep f) ([], false)
def factsWith (fs : List LFact) (f : LFact) : List LFact := if (withTo fs f fs.length).2 then (withTo fs f fs.length).1 else (withTo fs f fs.length).1 ++ [f]
theorem withTo_step {fs : List LFact} {f : LFact} {k : Nat} (h : k < fs.length) : withTo fs f (k + 1) = withStep f (withTo fs f k) fs[k] := by
  unfold withTo
  rw [take_snoc fs k h, List.foldl_append]
  rfl
theorem withTo_bound (fs : List LFact) (f : LFact) : ∀ k, k ≤ fs.length → (withTo fs f k).1.length ≤ k + (if (withTo fs f k).2 then 1 else 0) ∧ tot (withTo fs f k).1 ≤ tot (fs.take k) + (if (withTo fs f k).2 then f.2.length else 0)
  | 0, _ => by simp [withTo, tot]
  | k + 1, hk => by
    have ih := withTo_bound fs f k (by omega)
    rw [withTo_step (by omega), tot_take fs k (by omega)]
    obtain ⟨h1, h2⟩ := ih
    unfold withStep
    cases hp : (withTo fs f k).2 <;> by_cases h0 : factOrder f fs[k] = 0 <;> by_cases hle : factOrder f fs[k] ≤ 0 <;> simp [hp, h0, hle, tot_append, tot_cons] at h1 h2 ⊢ <;> simp [tot] at h2 ⊢ <;> omega

theorem factsWith_bound (fs : List LFact) (f : LFact) : (factsWith fs f).length ≤ fs.length + 1 ∧ tot (factsWith fs f) ≤ tot fs + f.2.length := by
  have h := withTo_bound fs f fs.length (Nat.le_refl _)
  rw [List.take_length] at h
  unfold factsWith
  cases hp : (withTo fs f fs.length).2 <;> simp [hp, tot_append, tot_cons] at h ⊢ <;> simp [tot] at h ⊢ <;> omega

end Go.Proofs.YtcceololijefiaaGreatDoor
/-
  Facts in order, plain mathematics: the order, lists that ascend, FactsWith on them, and that their members determine them.
-/
namespace Go.Proofs.YtcceololijefiaaGreatDoor

theorem cmpI_neg {a b : Int} : cmpI a b < 0 ↔ a < b := by
  unfold cmpI
  split
  · simp; assumption
  · split <;> simp <;> omega
theorem cmpI_pos {a b : Int} : 0 < cmpI a b ↔ b < a := by
  unfold cmpI
  split
  · simp; omega
  · split <;> simp <;> omega
theorem cmpL_eq : ∀ {xs ys : List Int}, cmpL xs ys = 0 → xs = ys
  | [], [], _ => rfl
  | [], _ :: _, h => by simp [cmpL] at h
  | _ :: _, [], h => by simp [cmpL] at h
  | x :: xs, y :: ys, h => by
    unfold cmpL at h
    split at h
    · rename_i e
      rw [e, cmpL_eq h]
    · exact absurd (cmpI_zero h) (by assumption)
theorem cmpL_refl : ∀ xs : List Int, cmpL xs xs = 0
  | [] => rfl
  | x :: xs => by simp [cmpL, cmpL_refl xs]
theorem cmpL_flip : ∀ {xs ys : List Int}, cmpL xs ys < 0 ↔ 0 < cmpL ys xs
  | [], [] => by simp [cmpL]
  | [], _ :: _ => by simp [cmpL]
  | _ :: _, [] => by simp [cmpL]
  | x :: xs, y :: ys => by
    unfold cmpL
    by_cases e : x = y
    · subst e
      simpa using cmpL_flip
    · rw [if_neg e, if_neg (fun h => e h.symm), cmpI_neg, cmpI_pos]
theorem cmpL_less : ∀ {xs ys zs : List Int}, cmpL xs ys < 0 → cmpL ys zs < 0 → cmpL xs zs < 0
  | [], [], _, h, _ => by simp [cmpL] at h
  | [], _ :: _, [], _, h => by simp [cmpL] at h
  | [], _ :: _, _ :: _, _, _ => by simp [cmpL]
  | _ :: _, [], _, h, _ => by simp [cmpL] at h
  | _ :: _, _ :: _, [], _, h => by simp [cmpL] at h
  | x :: xs, y :: ys, z :: zs, h1, h2 => by
    unfold cmpL at h1 h2 ⊢
    by_cases e1 : x = y
    · subst e1
      by_cases e2 : x = z
      · simp only [e2, if_true] at h1 h2 ⊢
        exact cmpL_less h1 h2
      · simpa [e2] using h2
    · by_cases e2 : y = z
      · subst e2
        simpa [e1] using h1
      · rw [if_neg e1] at h1
        rw [if_neg e2] at h2
        rw [cmpI_neg] at h1 h2
        rw [if_neg (by omega), cmpI_neg]
        omega

theorem order_eq {f g : LFact} (h : factOrder f g = 0) : f = g := by
  unfold factOrder at h
  split at h
  · exact Prod.ext (by assumption) (cmpL_eq h)
  · exact absurd (cmpI_zero h) (by assumption)
theorem order_refl (f : LFact) : factOrder f f = 0 := by simp [factOrder, cmpL_refl]
theorem order_flip {f g : LFact} : factOrder f g < 0 ↔ 0 < factOrder g f := by
  unfold factOrder
  by_cases e : f.1 = g.1
  · rw [if_pos e, if_pos e.symm]
    exact cmpL_flip
  · rw [if_neg e, if_neg (fun h => e h.symm), cmpI_neg, cmpI_pos]
theorem order_less {f g h : LFact} (h1 : factOrder f g < 0) (h2 : factOrder g h < 0) : factOrder f h < 0 := by
  unfold factOrder at h1 h2 ⊢
  by_cases e1 : f.1 = g.1
  · by_cases e2 : g.1 = h.1
    · rw [if_pos e1] at h1
      rw [if_pos e2] at h2
      rw [if_pos (e1.trans e2)]
      exact cmpL_less h1 h2
    · rw [if_neg e2] at h2
      rw [if_neg (fun e => e2 (e1.symm.trans e)), e1]
      exact h2
  · by_cases e2 : g.1 = h.1
    · rw [if_neg e1] at h1
      rw [if_neg (fun e => e1 (e.trans e2.symm)), ← e2]
      exact h1
    · rw [if_neg e1, cmpI_neg] at h1
      rw [if_neg e2, cmpI_neg] at h2
      rw [if_neg (by omega), cmpI_neg]
      omega
theorem order_cases (f g : LFact) : factOrder f g < 0 ∨ f = g ∨ factOrder g f < 0 := by
  rcases Int.lt_trichotomy (factOrder f g) 0 with h | h | h
  · exact .inl h
  · exact .inr (.inl (order_eq h))
  · exact .inr (.inr (order_flip.2 h))

/-- The list ascends, each fact once. -/
def Asc (l : List LFact) : Prop := l.Pairwise fun f g => factOrder f g < 0

/-- Lists that ascend and have the same members are the same. -/
theorem Asc.unique : ∀ {l m : List LFact}, Asc l → Asc m → (∀ f, f ∈ l ↔ f ∈ m) → l = m
  | [], [], _, _, _ => rfl
  | [], g :: m, _, _, h => absurd ((h g).2 (List.mem_cons_self ..)) (by simp)
  | f :: l, [], _, _, h => absurd ((h f).1 (List.mem_cons_self ..)) (by simp)
  | f :: l, g :: m, hl, hm, h => by
    have hl' := List.pairwise_cons.1 hl
    have hm' := List.pairwise_cons.1 hm
    have e : f = g := by
      rcases List.mem_cons.1 ((h f).1 (List.mem_cons_self ..)) with e | e
      · exact e
      rcases List.mem_cons.1 ((h g).2 (List.mem_cons_self ..)) with e' | e'
      · exact e'.symm
      have h1 := hm'.1 f e
      have h2 := hl'.1 g e'
      have := order_less h1 h2
      rw [order_refl] at this
      omega
    subst e
    refine congrArg (f :: ·) (Asc.unique hl'.2 hm'.2 fun x => ⟨fun hx => ?_, fun hx => ?_⟩)
    · rcases List.mem_cons.1 ((h x).1 (List.mem_cons_of_mem _ hx)) with e | e
      · subst e
        have := hl'.1 x hx
        rw [order_refl] at this
        omega
      · exact e
    · rcases List.mem_cons.1 ((h x).2 (List.mem_cons_of_mem _ hx)) with e | e
      · subst e
        have := hm'.1 x hx
        rw [order_refl] at this
        omega
      · exact e

/-- Insertion. -/
def ins (f : LFact) : List LFact → List LFact
  | [] => [f]
  | g :: l => if factOrder f g < 0 then f :: g :: l else if factOrder f g = 0 then f :: l else g :: ins f l

theorem ins_mem (f : LFact) : ∀ (l : List LFact) (x : LFact), x ∈ ins f l ↔ x = f ∨ x ∈ l
  | [], x => by simp [ins]
  | g :: l, x => by
    unfold ins
    split
    · simp
    · split
      · have e := order_eq (by assumption : factOrder f g = 0)
        subst e
        simp
      · simp [ins_mem f l x]
        constructor
        · rintro (h | h | h) <;> simp [h]
        · rintro (h | h | h) <;> simp [h]
theorem Asc.ins {f : LFact} : ∀ {l : List LFact}, Asc l → Asc (ins f l)
  | [], _ => by simp [Go.Proofs.YtcceololijefiaaGreatDoor.ins, Asc]
  | g :: l, h => by
    have h' := List.pairwise_cons.1 h
    unfold Go.Proofs.YtcceololijefiaaGreatDoor.ins
    split
    · rename_i hlt
      refine List.pairwise_cons.2 ⟨fun x hx => ?_, h⟩
      rcases List.mem_cons.1 hx with e | e
      · rw [e]; exact hlt
      · exact order_less hlt (h'.1 x e)
    · split
      · have e := order_eq (by assumption : factOrder f g = 0)
        subst e
        exact h
      · refine List.pairwise_cons.2 ⟨fun x hx => ?_, Asc.ins h'.2⟩
        rcases (ins_mem f l x).1 hx with e | e
        · subst e
          rcases order_cases x g with h1 | h1 | h1
          · exact absurd h1 (by assumption)
          · subst h1
            exact absurd (order_refl x) (by assumption)
          · exact h1
        · exact h'.1 x e

/-- FactsWith's fold, from a state where the fact is placed already and the rest ascends behind it. -/
theorem withStep_placed (f : LFact) : ∀ (l : List LFact) (out : List LFact), (∀ g ∈ l, factOrder f g ≠ 0) → l.foldl (withStep f) (out, true) = (out ++ l, true)
  | [], out, _ => by simp
  | g :: l, out, h => by
    have h0 := h g (List.mem_cons_self ..)
    simp only [List.foldl_cons, withStep]
    simp [h0]
    rw [withStep_placed f l (out ++ [g]) fun x hx => h x (List.mem_cons_of_mem _ hx)]
    simp

def endW (f : LFact) (s : List LFact × Bool) : List LFact := if s.2 then s.1 else s.1 ++ [f]
theorem withStep_fold (f : LFact) : ∀ (l : List LFact) (out : List LFact), Asc l → endW f (l.foldl (withStep f) (out, false)) = out ++ ins f l
  | [], out, _ => by simp [ins, endW]
  | g :: l, out, h => by
    have h' := List.pairwise_cons.1 h
    simp only [List.foldl_cons]
    rcases Int.lt_trichotomy (factOrder f g) 0 with h1 | h1 | h1
    · have e : withStep f (out, false) g = (out ++ [f] ++ [g], true) := by
        simp [withStep, show factOrder f g ≤ 0 by omega, show factOrder f g ≠ 0 by omega]
      rw [e, withStep_placed f l _ fun x hx => by have := order_less h1 (h'.1 x hx); omega]
      simp [ins, h1, endW]
    · have e : withStep f (out, false) g = (out ++ [f], true) := by
        simp [withStep, h1]
      have e2 := order_eq h1
      subst e2
      rw [e, withStep_placed f l _ fun x hx => by have := h'.1 x hx; omega]
      simp [ins, order_refl, endW]
    · have e : withStep f (out, false) g = (out ++ [g], false) := by
        simp [withStep, show ¬ factOrder f g ≤ 0 by omega, show factOrder f g ≠ 0 by omega]
      rw [e, withStep_fold f l _ h'.2]
      simp [ins, show ¬ factOrder f g < 0 by omega, show factOrder f g ≠ 0 by omega]

/-- FactsWith on a list that ascends is insertion. -/
theorem Asc.with_ {l : List LFact} (h : Asc l) (f : LFact) : factsWith l f = Go.Proofs.YtcceololijefiaaGreatDoor.ins f l := by
  have := withStep_fold f l [] h
  unfold endW at this
  unfold factsWith withTo
  rw [List.take_length]
  simpa using this

/-- Facts laid into a list, one after another. -/
def setOf (l : List LFact) : List LFact := l.foldl factsWith []
theorem foldWith : ∀ (l : List LFact) (out : List LFact), Asc out → Asc (l.foldl factsWith out) ∧ ∀ x, x ∈ l.foldl factsWith out ↔ x ∈ out ∨ x ∈ l
  | [], out, h => by simpa using h
  | f :: l, out, h => by
    have h1 : Asc (factsWith out f) := by rw [h.with_ f]; exact h.ins
    obtain ⟨h2, h3⟩ := foldWith l _ h1
    refine ⟨h2, fun x => ?_⟩
    rw [List.foldl_cons, h3 x, h.with_ f, ins_mem]
    simp only [List.mem_cons]
    constructor
    · rintro ((h | h) | h) <;> simp [h]
    · rintro (h | h | h) <;> simp [h]
theorem setOf_asc (l : List LFact) : Asc (setOf l) := (foldWith l [] List.Pairwise.nil).1
theorem setOf_mem (l : List LFact) (x : LFact) : x ∈ setOf l ↔ x ∈ l := by
  rw [setOf, (foldWith l [] List.Pairwise.nil).2 x]
  simp

/-- The list ascends, a fact perhaps more than once. -/
def Up (l : List LFact) : Prop := l.Pairwise fun f g => factOrder f g ≤ 0
/-- Of equal neighbours the last one. -/
def compactL : List LFact → List LFact
  | [] => []
  | [f] => [f]
  | f :: g :: l => if factOrder f g = 0 then compactL (g :: l) else f :: compactL (g :: l)
theorem compactL_mem : ∀ (l : List LFact) (x : LFact), x ∈ compactL l ↔ x ∈ l
  | [], x => by simp [compactL]
  | [f], x => by simp [compactL]
  | f :: g :: l, x => by
    unfold compactL
    split
    · have e := order_eq (by assumption : factOrder f g = 0)
      subst e
      rw [compactL_mem (f :: l) x]
      simp
    · rw [List.mem_cons, compactL_mem (g :: l) x]
      simp
theorem Up.asc : ∀ {l : List LFact}, Up l → Asc (compactL l)
  | [], _ => List.Pairwise.nil
  | [f], _ => by simp [compactL, Asc]
  | f :: g :: l, h => by
    have h' := List.pairwise_cons.1 h
    unfold compactL
    split
    · exact Up.asc h'.2
    · refine List.pairwise_cons.2 ⟨fun x hx => ?_, Up.asc h'.2⟩
      rw [compactL_mem] at hx
      have hfg : factOrder f g < 0 := by
        have := h'.1 g (List.mem_cons_self ..)
        omega
      rcases List.mem_cons.1 hx with e | e
      · rw [e]; exact hfg
      · have h2 := (List.pairwise_cons.1 h'.2).1 x e
        rcases Int.lt_trichotomy (factOrder g x) 0 with h3 | h3 | h3
        · exact order_less hfg h3
        · rw [← order_eq h3]; exact hfg
        · omega

/-- Sorted and compacted, and laid one after another: the same. -/
theorem compact_setOf {s l : List LFact} (h : Up s) (hm : ∀ x, x ∈ s ↔ x ∈ l) : compactL s = setOf l :=
  h.asc.unique (setOf_asc l) fun x => by rw [compactL_mem, setOf_mem, hm]
theorem compact_filter {s l : List LFact} (h : Up s) (hm : ∀ x, x ∈ s ↔ x ∈ l) (p : LFact → Bool) : (compactL s).filter p = setOf (l.filter p) :=
  Asc.unique (h.asc.filter p) (setOf_asc _) fun x => by rw [List.mem_filter, compactL_mem, setOf_mem, List.mem_filter, hm]

end Go.Proofs.YtcceololijefiaaGreatDoor
