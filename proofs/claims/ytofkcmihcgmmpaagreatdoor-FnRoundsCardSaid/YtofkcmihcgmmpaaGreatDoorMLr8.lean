/-
  Texts that the claim's last one imports, laid together: part 8 of 16. No condition of its own.
-/
import Derived.Deep.Cut
import Derived.Deep.CutRange
import Derived.Shelf.SlSortCmp.Whole1
import Derived.Shelf.SlicesE.DeleteFunc
import Derived.Shelf.SlicesE.Compact
import Derived.Test.YtofkcmihcgmmpaaGreatDoorChecked
import Derived.Sort.LotD1
import Derived.Sort.LotD5
import Derived.Sort.Walk7a
import Derived.Test.YtofkcmihcgmmpaaGreatDoorMLr1
import Derived.Test.YtofkcmihcgmmpaaGreatDoorMLr7
namespace Go.Proofs.YtofkcmihcgmmpaaGreatDoor
set_option maxRecDepth 100000
open Go.RowKit Go.Sort
set_option maxHeartbeats 16000000 in
theorem zpu (g o c cap n a b q : Nat) (d : Array Int) (w : World) (hu : zbx w g o c d) (hn : d.size = n) (haq : a <= q) (hqb : q < b) (hb : b <= n) (hsz : n < 1152921504606846976) :
 Calls Tryz.prog 213 #[.slice (some ⟨g, o, none⟩) n cap, .int .i64 a, .int .i64 b, .int .i64 q] w fun e w' =>
  e = .returned (.tuple #[.int .i64 (partition ltInt d a b q).1, .bool (partition ltInt d a b q).2.1]) /\ At w g o c n w' (partition ltInt d a b q).2.2 := by
 have KK := Lib.hid (At.start hu hn)
 clear hu hn
 obtain ⟨G, HG, hc, hf⟩ := KK.out.fam
 obtain ⟨v', hy'⟩ := KK.out.still (j := q) (by omega) ⟨g, o + a, none⟩ (.int .u32 (G q))
 have KS := Lib.hid (fun (W : World) (hW : W = ((w.setCell ⟨g, o + a, none⟩ (.int .u32 (G q))).setCell ⟨g, o + q, none⟩ (.int .u32 (G a))).drew) => show At w g o c n W (Sort.swp d a q) from hW ▸ (KK.out.swp (by omega) (by omega) (by rw [HG.out]) (by rw [HG.out])).drew)
 clear KK HG
 go_enter Tryz.func213, Tryz.ntmps213
 go_wp2_with fail
 go_region
 go_wp2_with fail
 have KK := Lib.hid (KS.out _ rfl)
 clear KS hc hf hy' v'
 obtain ⟨i, hi⟩ : ∃ i, i = a + 1 := ⟨_, rfl⟩
 obtain ⟨j, hj⟩ : ∃ j, j = b - 1 := ⟨_, rfl⟩
 rw [show ((a : Int) + 1) = ((i : Nat) : Int) by omega, show ((b : Int) - 1) = ((j : Nat) : Int) by omega]
 have hai : a < i := by omega
 have hij : i <= j + 1 := by omega
 have hjb : j < b := by omega
 obtain ⟨dk, hdk⟩ : ∃ dk, dk = Sort.swp d a q := ⟨_, rfl⟩
 rw [<- hdk] at KK
 have HF := Lib.hid (And.intro hdk (And.intro hi hj))
 clear hdk hi hj
 go_loopg [10] (j + 1 - i) (fun k vi w1 => ∃ x : Nat, vi = .int .i64 x /\ i <= x /\ x <= j + 1 /\ j + 1 - x <= k /\ At w g o c n w1 dk /\ Hid (scanUp (fun x => ltInt x dk[a]!) dk j x = scanUp (fun x => ltInt x dk[a]!) dk j i))
 case atStart => exact ⟨i, by first | rfl | go_num, Nat.le_refl _, hij, Nat.le_refl _, KK.out, Lib.hid rfl⟩
 case round =>
  clear KK
  obtain ⟨x, rfl, hx1, hx2, hgk, K1, HS⟩ := hrel
  obtain ⟨G, HG, hc, hf⟩ := K1.fam
  obtain ⟨B, hB⟩ : ∃ B, B = (decide (x <= j) && ltInt (G x) (G a)) := ⟨_, rfl⟩
  have HB := Lib.hid hB
  have KK := Lib.hid K1
  clear hB K1
  go_upto_region 3 with fail
  go_cut [43] from 30 to 45 (fun s wc => s = .bool B /\ At w g o c n wc dk)
  case first =>
   by_cases hle : x <= j
   ·go_big_quiet (first | (go_at_call 196; refine Calls.quiet_of_same (zS _ _ _)))
    go_wp2_with fail
    go_meet
    case rel => exact ⟨by rw [HB.out, decide_eq_true hle, Bool.true_and], KK.out.drewN nq⟩
   ·have hlez : decide ((x : Int) <= (j : Int)) = false := decide_eq_false (by omega)
    go_big_quiet (first | (go_at_call 196; refine Calls.quiet_of_same (zS _ _ _)))
    go_wp2_with fail
    go_meet
    case rel => exact ⟨by rw [HB.out, decide_eq_false hle, Bool.false_and], KK.out.drewN nq⟩
  case rest =>
   obtain ⟨rfl, K2⟩ := hcut
   clear hc hf KK
   have KK := Lib.hid K2
   clear K2
   cases hBv : B
   rotate_left
   ·have hb2 : x <= j /\ (fun x => ltInt x dk[a]!) dk[x]! = true := by
     have := HB.out.symm.trans hBv
     simp only [HG.out] at this
     simpa using this
    have HN := Lib.hid ((zlR hb2.1 hb2.2).symm.trans HS.out)
    have hxj := hb2.1
    clear hb2
    go_wp2_with fail
    go_roundg (j - x)
    case measure => omega
    case rel => exact ⟨x + 1, by go_num, by omega, by omega, by omega, KK.out, HN⟩
   ·have HU := Lib.hid (show scanUp (fun x => ltInt x dk[a]!) dk j i = x by
     rw [<- HS.out]
     refine zlS (fun hle => ?_)
     have := HB.out.symm.trans hBv
     simp only [HG.out] at this
     simpa [hle] using this)
    obtain ⟨i2, hi2⟩ : ∃ i2, i2 = x := ⟨x, rfl⟩
    subst hi2
    have hi2j := hx2
    have hii2 := hx1
    clear hx1 hx2 hgk HS HB HG hBv
    go_wp2_with fail
    go_loopg [11] j (fun k vi w1 => ∃ x : Nat, vi = .int .i64 x /\ x <= j /\ i2 <= x + 1 /\ x <= k /\ At w g o c n w1 dk /\ Hid (scanDown (fun x => !ltInt x dk[a]!) dk i2 x = scanDown (fun x => !ltInt x dk[a]!) dk i2 j))
    case atStart => exact ⟨j, by first | rfl | go_num, Nat.le_refl _, hi2j, Nat.le_refl _, KK.out, Lib.hid rfl⟩
    case round =>
     clear KK
     obtain ⟨x, rfl, hx1, hx2, hgk, K1, HS⟩ := hrel
     obtain ⟨G, HG, hc, hf⟩ := K1.fam
     obtain ⟨B, hB⟩ : ∃ B, B = (decide (i2 <= x) && !ltInt (G x) (G a)) := ⟨_, rfl⟩
     have HB := Lib.hid hB
     have KK := Lib.hid K1
     clear hB K1
     go_upto_region 5 with fail
     go_cut [60] from 46 to 62 (fun s wc => s = .bool B /\ At w g o c n wc dk)
     case first =>
      by_cases hle : i2 <= x
      ·go_big_quiet (first | (go_at_call 196; refine Calls.quiet_of_same (zS _ _ _)))
       go_wp2_with fail
       go_meet
       case rel => exact ⟨by rw [HB.out, decide_eq_true hle, Bool.true_and], KK.out.drewN nq⟩
      ·have hlez : decide ((i2 : Int) <= (x : Int)) = false := decide_eq_false (by omega)
       go_big_quiet (first | (go_at_call 196; refine Calls.quiet_of_same (zS _ _ _)))
       go_wp2_with fail
       go_meet
       case rel => exact ⟨by rw [HB.out, decide_eq_false hle, Bool.false_and], KK.out.drewN nq⟩
     case rest =>
      obtain ⟨rfl, K2⟩ := hcut
      clear hc hf KK
      have KK := Lib.hid K2
      clear K2
      cases hBv : B
      rotate_left
      ·have hb2 : i2 <= x /\ (fun x => !ltInt x dk[a]!) dk[x]! = true := by
        have := HB.out.symm.trans hBv
        simp only [HG.out] at this
        simpa using this
       have HN := Lib.hid ((zi4 hb2.1 (by omega) hb2.2).symm.trans HS.out)
       have hxj := hb2.1
       clear hb2
       go_wp2_with fail
       go_roundg (x - 1)
       case measure => omega
       case rel => exact ⟨x - 1, by go_num, by omega, by omega, by omega, KK.out, HN⟩
      ·have HD := Lib.hid (show scanDown (fun x => !ltInt x dk[a]!) dk i2 j = x by
        rw [<- HS.out]
        refine zi5 (fun hle => ?_)
        have := HB.out.symm.trans hBv
        simp only [HG.out] at this
        simpa [hle] using this)
       obtain ⟨j2, hj2⟩ : ∃ j2, j2 = x := ⟨x, rfl⟩
       subst hj2
       have hj2j := hx1
       have hi2j2 := hx2
       clear hx1 hx2 hgk HS HB HG hBv
       by_cases hij2 : j2 < i2
       ·have HX := Lib.hid (show partition ltInt d a b q = (j2, true, Sort.swp dk j2 a) by
         obtain ⟨rfl, rfl, rfl⟩ := HF.out
         unfold partition
         simp only [HU.out, HD.out]
         rw [if_pos hij2])
        obtain ⟨G, HG, hc, hf⟩ := KK.out.fam
        obtain ⟨v', hy'⟩ := KK.out.still (j := a) (by omega) ⟨g, o + j2, none⟩ (.int .u32 (G a))
        have KS := Lib.hid (fun (W : World) (hW : W = ((wc.setCell ⟨g, o + j2, none⟩ (.int .u32 (G a))).setCell ⟨g, o + a, none⟩ (.int .u32 (G j2))).drew) => show At w g o c n W (Sort.swp dk j2 a) from hW ▸ (KK.out.swp (by omega) (by omega) (by rw [HG.out]) (by rw [HG.out])).drew)
        go_wp2_with fail
        go_region
        all_goals go_wp2_with fail
        go_ret2
        rw [HX.out]
        exact ⟨rfl, KS.out _ rfl⟩
       ·have HX := Lib.hid (show partition ltInt d a b q = ((partLoop ltInt a (i2 + 1) (j2 - 1) (Sort.swp dk i2 j2)).1, false, Sort.swp (partLoop ltInt a (i2 + 1) (j2 - 1) (Sort.swp dk i2 j2)).2 (partLoop ltInt a (i2 + 1) (j2 - 1) (Sort.swp dk i2 j2)).1 a) by
         obtain ⟨rfl, rfl, rfl⟩ := HF.out
         unfold partition
         simp only [HU.out, HD.out]
         rw [if_neg hij2])
        have hap := zfn _ _ (fun x => by simp) HU.out HD.out (by omega) (by omega)
        obtain ⟨G, HG, hc, hf⟩ := KK.out.fam
        obtain ⟨v', hy'⟩ := KK.out.still (j := j2) (by omega) ⟨g, o + i2, none⟩ (.int .u32 (G j2))
        have KS := Lib.hid (fun (W : World) (hW : W = ((wc.setCell ⟨g, o + i2, none⟩ (.int .u32 (G j2))).setCell ⟨g, o + j2, none⟩ (.int .u32 (G i2))).drew) => show At w g o c n W (Sort.swp dk i2 j2) from hW ▸ (KK.out.swp (by omega) (by omega) (by rw [HG.out]) (by rw [HG.out])).drew)
        go_wp2_with fail
        go_region
        all_goals go_wp2_with fail
        have KK2 := Lib.hid (KS.out _ rfl)
        clear KK KS hc hf hy' v' HG
        have KK := KK2
        clear KK2
        obtain ⟨i0, hi0⟩ : ∃ z, z = i2 := ⟨_, rfl⟩
        obtain ⟨j0, hj0⟩ : ∃ z, z = j2 := ⟨_, rfl⟩
        obtain ⟨R, hR⟩ : ∃ R, R = partLoop ltInt a (i2 + 1) (j2 - 1) (Sort.swp dk i2 j2) := ⟨_, rfl⟩
        rw [<- hR] at HX
        have HR := Lib.hid hR
        clear hR HU HD HF
        obtain ⟨dk0, hdk0⟩ : ∃ z, z = dk := ⟨_, rfl⟩
        go_loopg [10, 11] b (fun k vi vj wr => ∃ (i j : Nat) (dk : Array Int), vi = .int .i64 i /\ vj = .int .i64 j /\ a < i /\ i <= j + 1 /\ j < b /\ j + 1 - i <= k /\ At w g o c n wr dk /\ Hid (partLoop ltInt a i j dk = R))
        case atStart => exact ⟨i2 + 1, j2 - 1, Sort.swp dk i2 j2, by go_num, by go_num, by omega, by omega, by omega, by omega, KK.out, Lib.hid HR.out.symm⟩
        case round =>
         clear KK HR hi0 hj0 hdk0 hai hij hjb hi2j hii2 hj2j hi2j2 hij2 hap i0 j0 dk0
         obtain ⟨i, j, dk, rfl, rfl, hai, hij, hjb, hgko, K0, HE⟩ := hrel
         have KK := Lib.hid K0
         clear K0
         go_wp2_with fail
         go_loopg [10] (j + 1 - i) (fun k vi w1 => ∃ x : Nat, vi = .int .i64 x /\ i <= x /\ x <= j + 1 /\ j + 1 - x <= k /\ At w g o c n w1 dk /\ Hid (scanUp (fun x => ltInt x dk[a]!) dk j x = scanUp (fun x => ltInt x dk[a]!) dk j i))
         case atStart => exact ⟨i, by first | rfl | go_num, Nat.le_refl _, hij, Nat.le_refl _, KK.out, Lib.hid rfl⟩
         case round =>
          clear KK
          obtain ⟨x, rfl, hx1, hx2, hgk, K1, HS⟩ := hrel
          obtain ⟨G, HG, hc, hf⟩ := K1.fam
          obtain ⟨B, hB⟩ : ∃ B, B = (decide (x <= j) && ltInt (G x) (G a)) := ⟨_, rfl⟩
          have HB := Lib.hid hB
          have KK := Lib.hid K1
          clear hB K1
          go_upto_region 13 with fail
          go_cut [112] from 99 to 114 (fun s wc => s = .bool B /\ At w g o c n wc dk)
          case first =>
           by_cases hle : x <= j
           ·go_big_quiet (first | (go_at_call 196; refine Calls.quiet_of_same (zS _ _ _)))
            go_wp2_with fail
            go_meet
            case rel => exact ⟨by rw [HB.out, decide_eq_true hle, Bool.true_and], KK.out.drewN nq⟩
           ·have hlez : decide ((x : Int) <= (j : Int)) = false := decide_eq_false (by omega)
            go_big_quiet (first | (go_at_call 196; refine Calls.quiet_of_same (zS _ _ _)))
            go_wp2_with fail
            go_meet
            case rel => exact ⟨by rw [HB.out, decide_eq_false hle, Bool.false_and], KK.out.drewN nq⟩
          case rest =>
           obtain ⟨rfl, K2⟩ := hcut
           clear hc hf KK
           have KK := Lib.hid K2
           clear K2
           cases hBv : B
           rotate_left
           ·have hb2 : x <= j /\ (fun x => ltInt x dk[a]!) dk[x]! = true := by
             have := HB.out.symm.trans hBv
             simp only [HG.out] at this
             simpa using this
            have HN := Lib.hid ((zlR hb2.1 hb2.2).symm.trans HS.out)
            have hxj := hb2.1
            clear hb2
            go_wp2_with fail
            go_roundg (j - x)
            case measure => omega
            case rel => exact ⟨x + 1, by go_num, by omega, by omega, by omega, KK.out, HN⟩
           ·have HU := Lib.hid (show scanUp (fun x => ltInt x dk[a]!) dk j i = x by
             rw [<- HS.out]
             refine zlS (fun hle => ?_)
             have := HB.out.symm.trans hBv
             simp only [HG.out] at this
             simpa [hle] using this)
            obtain ⟨i2, hi2⟩ : ∃ i2, i2 = x := ⟨x, rfl⟩
            subst hi2
            have hi2j := hx2
            have hii2 := hx1
            clear hx1 hx2 hgk HS HB HG hBv
            go_wp2_with fail
            go_loopg [11] j (fun k vi w1 => ∃ x : Nat, vi = .int .i64 x /\ x <= j /\ i2 <= x + 1 /\ x <= k /\ At w g o c n w1 dk /\ Hid (scanDown (fun x => !ltInt x dk[a]!) dk i2 x = scanDown (fun x => !ltInt x dk[a]!) dk i2 j))
            case atStart => exact ⟨j, by first | rfl | go_num, Nat.le_refl _, hi2j, Nat.le_refl _, KK.out, Lib.hid rfl⟩
            case round =>
             clear KK
             obtain ⟨x, rfl, hx1, hx2, hgk, K1, HS⟩ := hrel
             obtain ⟨G, HG, hc, hf⟩ := K1.fam
             obtain ⟨B, hB⟩ : ∃ B, B = (decide (i2 <= x) && !ltInt (G x) (G a)) := ⟨_, rfl⟩
             have HB := Lib.hid hB
             have KK := Lib.hid K1
             clear hB K1
             go_upto_region 15 with fail
             go_cut [129] from 115 to 131 (fun s wc => s = .bool B /\ At w g o c n wc dk)
             case first =>
              by_cases hle : i2 <= x
              ·go_big_quiet (first | (go_at_call 196; refine Calls.quiet_of_same (zS _ _ _)))
               go_wp2_with fail
               go_meet
               case rel => exact ⟨by rw [HB.out, decide_eq_true hle, Bool.true_and], KK.out.drewN nq⟩
              ·have hlez : decide ((i2 : Int) <= (x : Int)) = false := decide_eq_false (by omega)
               go_big_quiet (first | (go_at_call 196; refine Calls.quiet_of_same (zS _ _ _)))
               go_wp2_with fail
               go_meet
               case rel => exact ⟨by rw [HB.out, decide_eq_false hle, Bool.false_and], KK.out.drewN nq⟩
             case rest =>
              obtain ⟨rfl, K2⟩ := hcut
              clear hc hf KK
              have KK := Lib.hid K2
              clear K2
              cases hBv : B
              rotate_left
              ·have hb2 : i2 <= x /\ (fun x => !ltInt x dk[a]!) dk[x]! = true := by
                have := HB.out.symm.trans hBv
                simp only [HG.out] at this
                simpa using this
               have HN := Lib.hid ((zi4 hb2.1 (by omega) hb2.2).symm.trans HS.out)
               have hxj := hb2.1
               clear hb2
               go_wp2_with fail
               go_roundg (x - 1)
               case measure => omega
               case rel => exact ⟨x - 1, by go_num, by omega, by omega, by omega, KK.out, HN⟩
              ·have HD := Lib.hid (show scanDown (fun x => !ltInt x dk[a]!) dk i2 j = x by
                rw [<- HS.out]
                refine zi5 (fun hle => ?_)
                have := HB.out.symm.trans hBv
                simp only [HG.out] at this
                simpa [hle] using this)
               obtain ⟨j2, hj2⟩ : ∃ j2, j2 = x := ⟨x, rfl⟩
               subst hj2
               have hj2j := hx1
               have hi2j2 := hx2
               clear hx1 hx2 hgk HS HB HG hBv
               by_cases hij2 : j2 < i2
               ·have HY := Lib.hid (show R = (j2, dk) by rw [<- HE.out, partLoop_eq, HU.out, HD.out, if_pos hij2])
                obtain ⟨G, HG, hc, hf⟩ := KK.out.fam
                obtain ⟨v', hy'⟩ := KK.out.still (j := a) (by omega) ⟨g, o + j2, none⟩ (.int .u32 (G a))
                have KS := Lib.hid (fun (W : World) (hW : W = ((wc.setCell ⟨g, o + j2, none⟩ (.int .u32 (G a))).setCell ⟨g, o + a, none⟩ (.int .u32 (G j2))).drew) => show At w g o c n W (Sort.swp dk j2 a) from hW ▸ (KK.out.swp (by omega) (by omega) (by rw [HG.out]) (by rw [HG.out])).drew)
                go_wp2_with fail
                go_region
                all_goals go_wp2_with fail
                go_ret2
                rw [HX.out, HY.out]
                exact ⟨rfl, KS.out _ rfl⟩
               ·have HY := Lib.hid (show partLoop ltInt a (i2 + 1) (j2 - 1) (Sort.swp dk i2 j2) = R by rw [<- HE.out, partLoop_eq ltInt a i j dk, HU.out, HD.out, if_neg hij2])
                have hap := zfn _ _ (fun x => by simp) HU.out HD.out (by omega) (by omega)
                obtain ⟨G, HG, hc, hf⟩ := KK.out.fam
                obtain ⟨v', hy'⟩ := KK.out.still (j := j2) (by omega) ⟨g, o + i2, none⟩ (.int .u32 (G j2))
                have KS := Lib.hid (fun (W : World) (hW : W = ((wc.setCell ⟨g, o + i2, none⟩ (.int .u32 (G j2))).setCell ⟨g, o + j2, none⟩ (.int .u32 (G i2))).drew) => show At w g o c n W (Sort.swp dk i2 j2) from hW ▸ (KK.out.swp (by omega) (by omega) (by rw [HG.out]) (by rw [HG.out])).drew)
                go_wp2_with fail
                go_region
                all_goals go_wp2_with fail
                go_roundg (j2 - 1 + 1 - (i2 + 1))
                case measure => omega
                case rel => exact ⟨i2 + 1, j2 - 1, Sort.swp dk i2 j2, by go_num, by go_num, by omega, by omega, by omega, by omega, KS.out _ rfl, HY⟩
open Go.RowKit Go.Sort
set_option maxHeartbeats 16000000 in
theorem zoH (g o c cap n a b q : Nat) (d : Array Int) (w : World) (hu : zbx w g o c d) (hn : d.size = n) (haq : a <= q) (hqb : q < b) (hb : b <= n) (hsz : n < 1152921504606846976) :
 Calls Tryz.prog 212 #[.slice (some ⟨g, o, none⟩) n cap, .int .i64 a, .int .i64 b, .int .i64 q] w fun e w' =>
  e = .returned (.int .i64 (partitionEqual ltInt d a b q).1) /\ At w g o c n w' (partitionEqual ltInt d a b q).2 := by
 have KK := Lib.hid (At.start hu hn)
 clear hu hn
 obtain ⟨G, HG, hc, hf⟩ := KK.out.fam
 obtain ⟨v', hy'⟩ := KK.out.still (j := q) (by omega) ⟨g, o + a, none⟩ (.int .u32 (G q))
 have KS := Lib.hid (fun (W : World) (hW : W = ((w.setCell ⟨g, o + a, none⟩ (.int .u32 (G q))).setCell ⟨g, o + q, none⟩ (.int .u32 (G a))).drew) => show At w g o c n W (Sort.swp d a q) from hW ▸ (KK.out.swp (by omega) (by omega) (by rw [HG.out]) (by rw [HG.out])).drew)
 clear KK HG
 go_enter Tryz.func212, Tryz.ntmps212
 go_wp2_with fail
 go_region
 go_wp2_with fail
 have KK := Lib.hid (KS.out _ rfl)
 clear KS hc hf hy' v'
 go_loopg [9, 10] b (fun k vi vj wr => ∃ (i j : Nat) (dk : Array Int), vi = .int .i64 i /\ vj = .int .i64 j /\ a < i /\ i <= j + 1 /\ j < b /\ j + 1 - i <= k /\ At w g o c n wr dk /\ Hid (partEqLoop ltInt a i j dk = partitionEqual ltInt d a b q))
 case atStart => exact ⟨a + 1, b - 1, Sort.swp d a q, by go_num, by go_num, by omega, by omega, by omega, by omega, KK.out, Lib.hid rfl⟩
 case round =>
  clear KK
  obtain ⟨i, j, dk, rfl, rfl, hai, hij, hjb, hgko, K0, HE⟩ := hrel
  have KK := Lib.hid K0
  clear K0
  go_wp2_with fail
  go_loopg [9] (j + 1 - i) (fun k vi w1 => ∃ x : Nat, vi = .int .i64 x /\ i <= x /\ x <= j + 1 /\ j + 1 - x <= k /\ At w g o c n w1 dk /\ Hid (scanUp (fun x => !ltInt dk[a]! x) dk j x = scanUp (fun x => !ltInt dk[a]! x) dk j i))
  case atStart => exact ⟨i, by first | rfl | go_num, Nat.le_refl _, hij, Nat.le_refl _, KK.out, Lib.hid rfl⟩
  case round =>
   clear KK
   obtain ⟨x, rfl, hx1, hx2, hgk, K1, HS⟩ := hrel
   obtain ⟨G, HG, hc, hf⟩ := K1.fam
   obtain ⟨B, hB⟩ : ∃ B, B = (decide (x <= j) && !ltInt (G a) (G x)) := ⟨_, rfl⟩
   have HB := Lib.hid hB
   have KK := Lib.hid K1
   clear hB K1
   go_upto_region 3 with fail
   go_cut [43] from 29 to 45 (fun s wc => s = .bool B /\ At w g o c n wc dk)
   case first =>
    by_cases hle : x <= j
    ·go_big_quiet (first | (go_at_call 196; refine Calls.quiet_of_same (zS _ _ _)))
     go_wp2_with fail
     go_meet
     case rel => exact ⟨by rw [HB.out, decide_eq_true hle, Bool.true_and], KK.out.drewN nq⟩
    ·have hlez : decide ((x : Int) <= (j : Int)) = false := decide_eq_false (by omega)
     go_big_quiet (first | (go_at_call 196; refine Calls.quiet_of_same (zS _ _ _)))
     go_wp2_with fail
     go_meet
     case rel => exact ⟨by rw [HB.out, decide_eq_false hle, Bool.false_and], KK.out.drewN nq⟩
   case rest =>
    obtain ⟨rfl, K2⟩ := hcut
    clear hc hf KK
    have KK := Lib.hid K2
    clear K2
    cases hBv : B
    rotate_left
    ·have hb2 : x <= j /\ (fun x => !ltInt dk[a]! x) dk[x]! = true := by
      have := HB.out.symm.trans hBv
      simp only [HG.out] at this
      simpa using this
     have HN := Lib.hid ((zlR hb2.1 hb2.2).symm.trans HS.out)
     have hxj := hb2.1
     clear hb2
     go_wp2_with fail
     go_roundg (j - x)
     case measure => omega
     case rel => exact ⟨x + 1, by go_num, by omega, by omega, by omega, KK.out, HN⟩
    ·have HU := Lib.hid (show scanUp (fun x => !ltInt dk[a]! x) dk j i = x by
      rw [<- HS.out]
      refine zlS (fun hle => ?_)
      have := HB.out.symm.trans hBv
      simp only [HG.out] at this
      simpa [hle] using this)
     obtain ⟨i2, hi2⟩ : ∃ i2, i2 = x := ⟨x, rfl⟩
     subst hi2
     have hi2j := hx2
     have hii2 := hx1
     clear hx1 hx2 hgk HS HB HG hBv
     go_wp2_with fail
     go_loopg [10] j (fun k vi w1 => ∃ x : Nat, vi = .int .i64 x /\ x <= j /\ i2 <= x + 1 /\ x <= k /\ At w g o c n w1 dk /\ Hid (scanDown (fun x => ltInt dk[a]! x) dk i2 x = scanDown (fun x => ltInt dk[a]! x) dk i2 j))
     case atStart => exact ⟨j, by first | rfl | go_num, Nat.le_refl _, hi2j, Nat.le_refl _, KK.out, Lib.hid rfl⟩
     case round =>
      clear KK
      obtain ⟨x, rfl, hx1, hx2, hgk, K1, HS⟩ := hrel
      obtain ⟨G, HG, hc, hf⟩ := K1.fam
      obtain ⟨B, hB⟩ : ∃ B, B = (decide (i2 <= x) && ltInt (G a) (G x)) := ⟨_, rfl⟩
      have HB := Lib.hid hB
      have KK := Lib.hid K1
      clear hB K1
      go_upto_region 5 with fail
      go_cut [59] from 46 to 61 (fun s wc => s = .bool B /\ At w g o c n wc dk)
      case first =>
       by_cases hle : i2 <= x
       ·go_big_quiet (first | (go_at_call 196; refine Calls.quiet_of_same (zS _ _ _)))
        go_wp2_with fail
        go_meet
        case rel => exact ⟨by rw [HB.out, decide_eq_true hle, Bool.true_and], KK.out.drewN nq⟩
       ·have hlez : decide ((i2 : Int) <= (x : Int)) = false := decide_eq_false (by omega)
        go_big_quiet (first | (go_at_call 196; refine Calls.quiet_of_same (zS _ _ _)))
        go_wp2_with fail
        go_meet
        case rel => exact ⟨by rw [HB.out, decide_eq_false hle, Bool.false_and], KK.out.drewN nq⟩
      case rest =>
       obtain ⟨rfl, K2⟩ := hcut
       clear hc hf KK
       have KK := Lib.hid K2
       clear K2
       cases hBv : B
       rotate_left
       ·have hb2 : i2 <= x /\ (fun x => ltInt dk[a]! x) dk[x]! = true := by
         have := HB.out.symm.trans hBv
         simp only [HG.out] at this
         simpa using this
        have HN := Lib.hid ((zi4 hb2.1 (by omega) hb2.2).symm.trans HS.out)
        have hxj := hb2.1
        clear hb2
        go_wp2_with fail
        go_roundg (x - 1)
        case measure => omega
        case rel => exact ⟨x - 1, by go_num, by omega, by omega, by omega, KK.out, HN⟩
       ·have HD := Lib.hid (show scanDown (fun x => ltInt dk[a]! x) dk i2 j = x by
         rw [<- HS.out]
         refine zi5 (fun hle => ?_)
         have := HB.out.symm.trans hBv
         simp only [HG.out] at this
         simpa [hle] using this)
        obtain ⟨j2, hj2⟩ : ∃ j2, j2 = x := ⟨x, rfl⟩
        subst hj2
        have hj2j := hx1
        have hi2j2 := hx2
        clear hx1 hx2 hgk HS HB HG hBv
        by_cases hij2 : j2 < i2
        ·have HX := Lib.hid (show partitionEqual ltInt d a b q = (i2, dk) by rw [<- HE.out, partEqLoop_eq, HU.out, HD.out, if_pos hij2])
         go_wp2_with fail
         go_ret
         rw [HX.out]
         exact ⟨rfl, KK.out⟩
        ·have HX := Lib.hid (show partEqLoop ltInt a (i2 + 1) (j2 - 1) (Sort.swp dk i2 j2) = partitionEqual ltInt d a b q by rw [<- HE.out, partEqLoop_eq ltInt a i j dk, HU.out, HD.out, if_neg hij2])
         have hap := zfn _ _ (fun x => by simp) HU.out HD.out (by omega) (by omega)
         obtain ⟨G, HG, hc, hf⟩ := KK.out.fam
         obtain ⟨v', hy'⟩ := KK.out.still (j := j2) (by omega) ⟨g, o + i2, none⟩ (.int .u32 (G j2))
         have KS := Lib.hid (fun (W : World) (hW : W = ((wc.setCell ⟨g, o + i2, none⟩ (.int .u32 (G j2))).setCell ⟨g, o + j2, none⟩ (.int .u32 (G i2))).drew) => show At w g o c n W (Sort.swp dk i2 j2) from hW ▸ (KK.out.swp (by omega) (by omega) (by rw [HG.out]) (by rw [HG.out])).drew)
         go_wp2_with fail
         go_region
         all_goals go_wp2_with fail
         go_roundg (j2 - 1 + 1 - (i2 + 1))
         case measure => omega
         case rel => exact ⟨i2 + 1, j2 - 1, Sort.swp dk i2 j2, by go_num, by go_num, by omega, by omega, by omega, by omega, KS.out _ rfl, HX⟩
open Go.RowKit Go.Sort
section
variable {α : Type} [Inhabited α] (lt : α -> α -> Bool)
theorem zlU {d : Array α} {b i : Nat} (h : i < b) (hl : lt d[i]! d[i - 1]! = false) : scanSorted lt d b i = scanSorted lt d b (i + 1) := by
 rw [scanSorted, if_pos (by simp [h, hl])]
theorem zlV {d : Array α} {b i : Nat} (h : i < b -> lt d[i]! d[i - 1]! = true) : scanSorted lt d b i = i := by
 rw [scanSorted, if_neg]
 intro hc
 simp at hc
 rw [h hc.1] at hc
 exact absurd hc.2 (by simp)
theorem zpg {d : Array α} {j : Nat} (h : 1 <= j) (hl : lt d[j]! d[j - 1]! = true) : shiftDown lt j d = shiftDown lt (j - 1) (Sort.swp d j (j - 1)) := by
 cases j with
 | zero => omega
 | succ k =>
  rw [Nat.add_sub_cancel] at hl ⊢
  rw [shiftDown, if_neg (by rw [hl]; decide)]
theorem znX {d : Array α} {j : Nat} (h : 1 <= j -> lt d[j]! d[j - 1]! = false) : shiftDown lt j d = d := by
 cases j with
 | zero => rfl
 | succ k =>
  have := h (by omega)
  rw [Nat.add_sub_cancel] at this
  rw [shiftDown, if_pos (by rw [this]; decide)]
theorem zpe {d : Array α} {b j : Nat} (h : j < b) (hl : lt d[j]! d[j - 1]! = true) : shiftUp lt b j d = shiftUp lt b (j + 1) (Sort.swp d j (j - 1)) := by
 rw [shiftUp, if_pos h, if_neg (by rw [hl]; decide)]
theorem znR {d : Array α} {b j : Nat} (h : j < b -> lt d[j]! d[j - 1]! = false) : shiftUp lt b j d = d := by
 rw [shiftUp]
 split
 ·rename_i e
  rw [if_pos (by rw [h e]; decide)]
 ·rfl
end
set_option maxHeartbeats 16000000 in
theorem zn4 (g o c cap n a b : Nat) (d : Array Int) (w : World) (hu : zbx w g o c d) (hn : d.size = n) (hab : a < b) (hb : b <= n) (hsz : n < 1152921504606846976) :
 Calls Tryz.prog 211 #[.slice (some ⟨g, o, none⟩) n cap, .int .i64 a, .int .i64 b] w fun e w' =>
  e = .returned (.bool (partialInsertionSort ltInt d a b).2) /\ At w g o c n w' (partialInsertionSort ltInt d a b).1 := by
 have KK := Lib.hid (At.start hu hn)
 clear hu hn
 go_enter Tryz.func211, Tryz.ntmps211
 go_wp2_with fail
 go_loopg [7, 8] 5 (fun k vi vs wr => ∃ (i s : Nat) (dk : Array Int), vi = .int .i64 i /\ vs = .int .i64 s /\ s <= 5 /\ 5 - s <= k /\ a < i /\ i <= b /\ At w g o c n wr dk /\ Hid (partialIns ltInt a b (5 - s) i dk = partialInsertionSort ltInt d a b))
 case atStart => exact ⟨a + 1, 0, d, by go_num, rfl, by omega, by omega, by omega, by omega, KK.out, Lib.hid rfl⟩
 case round =>
  clear KK
  obtain ⟨i, s, dk, rfl, rfl, hs5, hgk, hai, hib, K0, HE⟩ := hrel
  have KK := Lib.hid K0
  clear K0
  by_cases hs : s < 5
  ·obtain ⟨t, ht⟩ : ∃ t, 5 - s = t + 1 := ⟨5 - s - 1, by omega⟩
   rw [ht, partialIns_succ] at HE
   go_wp2_with fail
   go_loopg [7] (b - i) (fun k vi w1 => ∃ x : Nat, vi = .int .i64 x /\ i <= x /\ x <= b /\ b - x <= k /\ At w g o c n w1 dk /\ Hid (scanSorted ltInt dk b x = scanSorted ltInt dk b i))
   case atStart => exact ⟨i, rfl, Nat.le_refl _, hib, Nat.le_refl _, KK.out, Lib.hid rfl⟩
   case round =>
    clear KK
    obtain ⟨x, rfl, hx1, hx2, hgk2, K1, HS⟩ := hrel
    obtain ⟨G, HG, hc, hf⟩ := K1.fam
    obtain ⟨B, hB⟩ : ∃ B, B = (decide (x < b) && !ltInt (G x) (G (x - 1))) := ⟨_, rfl⟩
    have HB := Lib.hid hB
    have KK := Lib.hid K1
    clear hB K1
    go_upto_region 5 with fail
    go_cut [32] from 17 to 34 (fun s wc => s = .bool B /\ At w g o c n wc dk)
    case first =>
     by_cases hle : x < b
     ·go_big_quiet (first | (go_at_call 196; refine Calls.quiet_of_same (zS _ _ _)))
      go_wp2_with fail
      go_meet
      case rel => exact ⟨by rw [HB.out, decide_eq_true hle, Bool.true_and], KK.out.drewN nq⟩
     ·have hlez : decide ((x : Int) < (b : Int)) = false := decide_eq_false (by omega)
      go_big_quiet (first | (go_at_call 196; refine Calls.quiet_of_same (zS _ _ _)))
      go_wp2_with fail
      go_meet
      case rel => exact ⟨by rw [HB.out, decide_eq_false hle, Bool.false_and], KK.out.drewN nq⟩
    case rest =>
     obtain ⟨rfl, K2⟩ := hcut
     clear hc hf KK
     have KK := Lib.hid K2
     clear K2
     cases hBv : B
     rotate_left
     ·have hb2 : x < b /\ ltInt dk[x]! dk[x - 1]! = false := by
       have := HB.out.symm.trans hBv
       simp only [HG.out] at this
       simpa using this
      have HN := Lib.hid ((zlU ltInt hb2.1 hb2.2).symm.trans HS.out)
      have hxb := hb2.1
      clear hb2
      go_wp2_with fail
      go_roundg (b - (x + 1))
      case measure => omega
      case rel => exact ⟨x + 1, by go_num, by omega, by omega, Nat.le_refl _, KK.out, HN⟩
     ·have HU := Lib.hid (show scanSorted ltInt dk b i = x by
       rw [<- HS.out]
       refine zlV ltInt (fun hle => ?_)
       have := HB.out.symm.trans hBv
       simp only [HG.out] at this
       simpa [hle] using this)
      clear HS HB HG hBv
      have hE := HE.out
      simp only [HU.out] at hE
      by_cases hxb : x = b
      ·rw [if_pos hxb] at hE
       have HE2 := Lib.hid hE
       have hxbz : (x : Int) = (b : Int) := by omega
       clear hE
       go_wp2_with fail
       go_ret
       rw [<- HE2.out]
       exact ⟨rfl, KK.out⟩
      ·rw [if_neg hxb] at hE
       have hxbz : ¬ (x : Int) = (b : Int) := by omega
       by_cases h50 : b - a < 50
       ·rw [if_pos h50] at hE
        have HE2 := Lib.hid hE
        have h50z : (b : Int) - (a : Int) < 50 := by omega
        clear hE
        go_wp2_with fail
        go_ret
        rw [<- HE2.out]
        exact ⟨rfl, KK.out⟩
       ·rw [if_neg h50] at hE
        have HE2 := Lib.hid hE
        have h50z : ¬ (b : Int) - (a : Int) < 50 := by omega
        clear hE
        obtain ⟨G, HG, hc, hf⟩ := KK.out.fam
        obtain ⟨v', hy'⟩ := KK.out.still (j := x - 1) (by omega) ⟨g, o + x, none⟩ (.int .u32 (G (x - 1)))
        have KS := Lib.hid (fun (W : World) (hW : W = ((wc.setCell ⟨g, o + x, none⟩ (.int .u32 (G (x - 1)))).setCell ⟨g, o + (x - 1), none⟩ (.int .u32 (G x))).drew) => show At w g o c n W (Sort.swp dk x (x - 1)) from hW ▸ (KK.out.swp (by omega) (by omega) (by rw [HG.out]) (by rw [HG.out])).drew)
        go_wp2_with fail
        go_region
        all_goals go_upto_if 61 with fail
        have KK2 := Lib.hid (KS.out _ rfl)
        clear KS KK hc hf hy' v' HG
        obtain ⟨d1, hd1⟩ : ∃ d1, d1 = Sort.swp dk x (x - 1) := ⟨_, rfl⟩
        rw [<- hd1] at KK2 HE2
        clear hd1
        obtain ⟨d2, hd2⟩ : ∃ d2, d2 = fixDown ltInt a x d1 := ⟨_, rfl⟩
        rw [<- hd2] at HE2
        have HD2 := Lib.hid hd2
        clear hd2
        go_cut [9] from 13 to 132 (fun s9 wx => At w g o c n wx d2)
        case first =>
         by_cases h2 : x - a >= 2
         ·have h2z : (x : Int) - (a : Int) >= 2 := by omega
          have HD := Lib.hid (show d2 = shiftDown ltInt (x - 1) d1 by rw [HD2.out, fixDown, if_pos h2])
          go_wp2_with fail
          go_loopg [9] n (fun k vj wr => ∃ (j : Nat) (dj : Array Int), vj = .int .i64 j /\ j <= x - 1 /\ j <= k /\ At w g o c n wr dj /\ Hid (shiftDown ltInt j dj = d2))
          case atStart => exact ⟨x - 1, d1, by congr 1; omega, Nat.le_refl _, by omega, KK2.out, Lib.hid HD.out.symm⟩
          case round =>
           obtain ⟨j, dj, rfl, hjx, hgk3, KJ, HJ⟩ := hrel
           by_cases hj1 : 1 <= j
           ·have hj1z : (j : Int) >= 1 := by omega
            obtain ⟨G, HG, hc, hf⟩ := KJ.fam
            have KJH := Lib.hid KJ
            clear KJ
            go_wp2_with fail
            go_big_quiet (first | (go_at_call 196; refine Calls.quiet_of_same (zS _ _ _)))
            go_wp2_with fail
            ·have hl : (!ltInt (G j) (G (j - 1))) = true := by assumption
             have HX := Lib.hid (show dj = d2 by rw [<- HJ.out, znX ltInt (fun _ => by rw [<- HG.out, <- HG.out]; simpa using hl)])
             have KX := Lib.hid (HX.out ▸ KJH.out.drewN nq)
             clear hl
             go_meet
             case rel => exact KX.out
            ·have hl : (!ltInt (G j) (G (j - 1))) = false := by assumption
             have HX := Lib.hid (show shiftDown ltInt (j - 1) (Sort.swp dj j (j - 1)) = d2 by rw [<- HJ.out, zpg ltInt hj1 (by rw [<- HG.out, <- HG.out]; simpa using hl)])
             have KQ := Lib.hid (KJH.out.drewN nq)
             obtain ⟨v', hy'⟩ := KQ.out.still (j := j - 1) (by omega) ⟨g, o + j, none⟩ (.int .u32 (G (j - 1)))
             clear hl
             go_region
             all_goals go_wp2_with fail
             go_roundg (j - 1)
             case measure => omega
             case rel => exact ⟨j - 1, Sort.swp dj j (j - 1), by congr 1; omega, by omega, Nat.le_refl _, (KQ.out.swp (by omega) (by omega) (by rw [HG.out]) (by rw [HG.out])).drew, HX⟩
           ·have hj1z : ¬ (j : Int) >= 1 := by omega
            have HX := Lib.hid (show dj = d2 by rw [<- HJ.out, znX ltInt (fun h => absurd h hj1)])
            have KX := Lib.hid (HX.out ▸ KJ)
            clear KJ
            go_wp2_with fail
            go_meet
            case rel => exact KX.out
         ·have h2z : ¬ (x : Int) - (a : Int) >= 2 := by omega
          have HD := Lib.hid (show d2 = d1 by rw [HD2.out, fixDown, if_neg h2])
          go_wp2_with fail
          go_meet
          case rel => exact HD.out ▸ KK2.out
        case rest =>
         have KK := Lib.hid hcut
         clear hcut KK2 HD2
         obtain ⟨d3, hd3⟩ : ∃ d3, d3 = fixUp ltInt b x d2 := ⟨_, rfl⟩
         rw [<- hd3] at HE2
         have HD3 := Lib.hid hd3
         clear hd3
         go_upto_if 98 with fail
         by_cases h2 : b - x >= 2
         ·have h2z : (b : Int) - (x : Int) >= 2 := by omega
          have HD := Lib.hid (show d3 = shiftUp ltInt b (x + 1) d2 by rw [HD3.out, fixUp, if_pos h2])
          go_wp2_with fail
          go_loopg [10] n (fun k vj wr => ∃ (j : Nat) (dj : Array Int), vj = .int .i64 j /\ x + 1 <= j /\ j <= b /\ b - j <= k /\ At w g o c n wr dj /\ Hid (shiftUp ltInt b j dj = d3))
          case atStart => exact ⟨x + 1, d2, by go_num, Nat.le_refl _, by omega, by omega, KK.out, Lib.hid HD.out.symm⟩
          case round =>
           obtain ⟨j, dj, rfl, hjx, hjb, hgk3, KJ, HJ⟩ := hrel
           by_cases hj1 : j < b
           ·have hj1z : (j : Int) < (b : Int) := by omega
            obtain ⟨G, HG, hc, hf⟩ := KJ.fam
            have KJH := Lib.hid KJ
            clear KJ
            go_wp2_with fail
            go_big_quiet (first | (go_at_call 196; refine Calls.quiet_of_same (zS _ _ _)))
            go_wp2_with fail
            ·have hl : (!ltInt (G j) (G (j - 1))) = true := by assumption
             have HX := Lib.hid (show dj = d3 by rw [<- HJ.out, znR ltInt (fun _ => by rw [<- HG.out, <- HG.out]; simpa using hl)])
             have KX := Lib.hid (HX.out ▸ KJH.out.drewN nq)
             clear hl
             go_roundg t
             case measure => omega
             case rel => exact ⟨x, s + 1, d3, rfl, by go_num, by omega, by omega, by omega, hx2, (KX.out), by rw [show 5 - (s + 1) = t by omega]; exact HE2⟩
            ·have hl : (!ltInt (G j) (G (j - 1))) = false := by assumption
             have HX := Lib.hid (show shiftUp ltInt b (j + 1) (Sort.swp dj j (j - 1)) = d3 by rw [<- HJ.out, zpe ltInt hj1 (by rw [<- HG.out, <- HG.out]; simpa using hl)])
             have KQ := Lib.hid (KJH.out.drewN nq)
             obtain ⟨v', hy'⟩ := KQ.out.still (j := j - 1) (by omega) ⟨g, o + j, none⟩ (.int .u32 (G (j - 1)))
             clear hl
             go_region
             all_goals go_wp2_with fail
             go_roundg (b - (j + 1))
             case measure => omega
             case rel => exact ⟨j + 1, Sort.swp dj j (j - 1), by go_num, by omega, by omega, Nat.le_refl _, (KQ.out.swp (by omega) (by omega) (by rw [HG.out]) (by rw [HG.out])).drew, HX⟩
           ·have hj1z : ¬ (j : Int) < (b : Int) := by omega
            have HX := Lib.hid (show dj = d3 by rw [<- HJ.out, znR ltInt (fun h => absurd h hj1)])
            have KX := Lib.hid (HX.out ▸ KJ)
            clear KJ
            go_wp2_with fail
            go_roundg t
            case measure => omega
            case rel => exact ⟨x, s + 1, d3, rfl, by go_num, by omega, by omega, by omega, hx2, (KX.out), by rw [show 5 - (s + 1) = t by omega]; exact HE2⟩
         ·have h2z : ¬ (b : Int) - (x : Int) >= 2 := by omega
          have HD := Lib.hid (show d3 = d2 by rw [HD3.out, fixUp, if_neg h2])
          go_wp2_with fail
          go_roundg t
          case measure => omega
          case rel => exact ⟨x, s + 1, d3, rfl, by go_num, by omega, by omega, by omega, hx2, (HD.out ▸ KK.out), by rw [show 5 - (s + 1) = t by omega]; exact HE2⟩
  ·have hs5 : s = 5 := by omega
   subst hs5
   go_wp2_with fail
   go_ret
   rw [<- HE.out]
   exact ⟨rfl, KK.out⟩
open Go.RowKit Go.Sort
theorem Blk.set1 {w : World} {g : Nat} {t : TypeId} {u : Value} (h : Blk w g t #[u]) (v : Value) : Blk (w.setCell ⟨g, 0, none⟩ v) g t #[v] := by
 have := h.set_ 0 v
 simpa using this
set_option maxHeartbeats 2000000 in
theorem zkh (g o c cap n a b sb s : Nat) (d : Array Int) (w : World) (hu : zbx w g o c d) (hn : d.size = n) (ha : a < n) (hb : b < n) (_hsz : n < 1152921504606846976) (hs : s < 1000) (hS : Blk w sb 3 #[.int .i64 s]) :
 Calls Tryz.prog 221 #[.slice (some ⟨g, o, none⟩) n cap, .int .i64 a, .int .i64 b, .pointer (some ⟨sb, 0, none⟩)] w fun e w' =>
  ∃ x y s' : Nat, e = .returned (.tuple #[.int .i64 x, .int .i64 y]) /\ ((x = a /\ y = b) \/ (x = b /\ y = a)) /\ s' <= s + 1 /\ Blk w' sb 3 #[.int .i64 s'] /\ zl sb (sb + 1) w w' := by
 have K := At.start hu hn
 obtain ⟨G, HG, hc, hf⟩ := K.fam
 have cs : w.cell? ⟨sb, 0, none⟩ = some (.int .i64 s) := hS.cell 0
 have fs := hS.frozen 0
 have HS := Lib.hid hS
 clear K hu hn hS
 go_enter Tryz.func221, Tryz.ntmps221
 go_wp2_with fail
 go_big_quiet (first | (go_at_call 196; refine Calls.quiet_of_same (zS _ _ _)))
 go_wp2_with fail
 ·go_ret2
  exact ⟨b, a, s + 1, rfl, .inr ⟨rfl, rfl⟩, Nat.le_refl _, ((HS.out.drewN nq).set1 _), zl.setCell (p := ⟨sb, 0, none⟩) ((zl.refl _ _ _).drewN' nq) ⟨Nat.le_refl _, Nat.lt_succ_self _⟩ _⟩
 ·go_ret2
  exact ⟨a, b, s, rfl, .inl ⟨rfl, rfl⟩, by omega, HS.out.drewN nq, (zl.refl _ _ _).drewN' nq⟩
set_option maxHeartbeats 2000000 in
theorem zkl (g o c cap n a b q sb s : Nat) (d : Array Int) (w : World) (hu : zbx w g o c d) (hn : d.size = n) (ha : a < n) (hb : b < n) (hq : q < n) (hsz : n < 1152921504606846976) (hs : s < 900) (hS : Blk w sb 3 #[.int .i64 s]) (hne : sb ≠ g) :
 Calls Tryz.prog 219 #[.slice (some ⟨g, o, none⟩) n cap, .int .i64 a, .int .i64 b, .int .i64 q, .pointer (some ⟨sb, 0, none⟩)] w fun e w' =>
  ∃ m s' : Nat, e = .returned (.int .i64 m) /\ (m = a \/ m = b \/ m = q) /\ s' <= s + 3 /\ Blk w' sb 3 #[.int .i64 s'] /\ zl sb (sb + 1) w w' := by
 have HU := Lib.hid hu
 have HN := Lib.hid hn
 have HS := Lib.hid hS
 clear hu hn hS
 go_enter Tryz.func219, Tryz.ntmps219
 go_upto_region 2 with (go_at_call 221; refine Calls.mono (zkh g o c cap n a b sb s d w HU.out HN.out ha hb hsz (by omega) HS.out) ?_; rintro e w1 ⟨x1, y1, s1, rfl, h1, hs1, B1, O1⟩)
 have hx1 : x1 < n := by omega
 have hy1 : y1 < n := by omega
 have U1 := Lib.hid (HU.out.only O1 (by omega))
 have HB1 := Lib.hid (And.intro B1 O1)
 clear B1 O1
 go_upto_region 3 with (go_at_call 221; refine Calls.mono (zkh g o c cap n y1 q sb s1 d w1 U1.out HN.out hy1 hq hsz (by omega) HB1.out.1) ?_; rintro e w2 ⟨x2, y2, s2, rfl, h2, hs2, B2, O2⟩)
 have hx2 : x2 < n := by omega
 have U2 := Lib.hid (U1.out.only O2 (by omega))
 have HB2 := Lib.hid (And.intro B2 (HB1.out.2.trans O2))
 clear B2 O2
 go_wp2_with (go_at_call 221; refine Calls.mono (zkh g o c cap n x1 x2 sb s2 d w2 U2.out HN.out hx1 hx2 hsz (by omega) HB2.out.1) ?_; rintro e w3 ⟨x3, y3, s3, rfl, h3, hs3, B3, O3⟩)
 go_ret
 exact ⟨y3, s3, rfl, by omega, by omega, B3, HB2.out.2.trans O3⟩
set_option maxHeartbeats 2000000 in
theorem zkm (g o c cap n a sb s : Nat) (d : Array Int) (w : World) (hu : zbx w g o c d) (hn : d.size = n) (ha : a + 1 < n) (ha1 : 1 <= a) (hsz : n < 1152921504606846976) (hs : s < 900) (hS : Blk w sb 3 #[.int .i64 s]) (hne : sb ≠ g) :
 Calls Tryz.prog 218 #[.slice (some ⟨g, o, none⟩) n cap, .int .i64 a, .pointer (some ⟨sb, 0, none⟩)] w fun e w' =>
  ∃ m s' : Nat, e = .returned (.int .i64 m) /\ a <= m + 1 /\ m <= a + 1 /\ s' <= s + 3 /\ Blk w' sb 3 #[.int .i64 s'] /\ zl sb (sb + 1) w w' := by
 have hm := zkl g o c cap n (a - 1) a (a + 1) sb s d w hu hn (by omega) (by omega) (by omega) hsz hs hS hne
 rw [show ((a - 1 : Nat) : Int) = (a : Int) - 1 by omega, show ((a + 1 : Nat) : Int) = (a : Int) + 1 by omega] at hm
 have HM := Lib.hid hm
 clear hm hu hn hS
 go_enter Tryz.func218, Tryz.ntmps218
 go_wp2_with (go_at_call 219; refine Calls.mono HM.out ?_; rintro e w3 ⟨m, s3, rfl, h3, hs3, B3, O3⟩)
 go_ret
 exact ⟨m, s3, rfl, by omega, by omega, by omega, B3, O3⟩
open Go.RowKit Go.Sort
set_option maxHeartbeats 4000000 in
theorem zph (g o c cap n a L : Nat) (d : Array Int) (w : World) (hu : zbx w g o c d) (hn : d.size = n) (hL : 12 < L) (hb : a + L <= n) (hsz : n < 1152921504606846976) :
 Calls Tryz.prog 209 #[.slice (some ⟨g, o, none⟩) n cap, .int .i64 a, .int .i64 (a + L : Nat)] w fun e w' =>
  ∃ m h : Nat, e = .returned (.tuple #[.int .i64 m, .int .i64 h]) /\ a <= m /\ m < a + L /\ h <= 2 /\ Below w.heap.size w w' := by
 have HU := Lib.hid hu
 have HN := Lib.hid hn
 have hglt := hu.lt
 clear hu hn
 go_enter Tryz.func209, Tryz.ntmps209
 go_upto_if 32 with fail
 rw [show (a : Int) + (L : Int) - (a : Int) = (L : Int) by omega]
 obtain ⟨i, hi⟩ : ∃ i : Nat, (a : Int) + (L : Int) / 4 = (i : Int) := ⟨a + L / 4, by omega⟩
 obtain ⟨j, hj⟩ : ∃ j : Nat, (a : Int) + (L : Int) / 4 * 2 = (j : Int) := ⟨a + L / 4 * 2, by omega⟩
 obtain ⟨k, hk⟩ : ∃ k : Nat, (a : Int) + (L : Int) / 4 * 3 = (k : Int) := ⟨a + L / 4 * 3, by omega⟩
 rw [hi, hj, hk]
 have hi2 : a + 2 <= i /\ i + 2 <= a + L := by omega
 have hj2 : a + 2 <= j /\ j + 2 <= a + L := by omega
 have hk2 : a + 2 <= k /\ k + 2 <= a + L := by omega
 clear hi hj hk
 have h8 : (8 : Int) <= (L : Int) := by omega
 obtain ⟨w1, hw1⟩ : ∃ w1, w1 = w.alloc (Obj.cells #[Value.int IntKind.i64 0] 3) := ⟨_, rfl⟩
 have B1 : Below w.heap.size w w1 := by rw [hw1]; exact ze _ _
 have S1 : Blk w1 w.heap.size 3 #[.int .i64 (0 : Nat)] := by rw [hw1]; exact Blk.new _ _ _
 rw [<- hw1]
 clear hw1
 have U1 := Lib.hid (HU.out.below B1 hglt)
 have HB := Lib.hid (And.intro B1 S1)
 clear B1 S1
 go_cut [10, 11, 12] from 13 (fun _ s11 _ wc => ∃ m s : Nat, s11 = .int .i64 m /\ a <= m /\ m < a + L /\ Hid (Blk wc w.heap.size 3 #[.int .i64 s] /\ zl w.heap.size (w.heap.size + 1) w1 wc))
 case first =>
  by_cases h50 : 50 <= L
  ·have h50z : (50 : Int) <= (L : Int) := by omega
   go_upto_region 9 with (go_at_call 218; refine Calls.mono (zkm g o c cap n i w.heap.size 0 d w1 U1.out HN.out (by omega) (by omega) hsz (by omega) HB.out.2 (by omega)) ?_; rintro e w2 ⟨x1, s1, rfl, a1, b1, hs1, B2, O2⟩)
   have U2 := Lib.hid (U1.out.only O2 (by omega))
   have HB2 := Lib.hid (And.intro B2 O2)
   clear B2 O2
   go_upto_region 10 with (go_at_call 218; refine Calls.mono (zkm g o c cap n j w.heap.size s1 d w2 U2.out HN.out (by omega) (by omega) hsz (by omega) HB2.out.1 (by omega)) ?_; rintro e w3 ⟨x2, s2, rfl, a2, b2, hs2, B3, O3⟩)
   have U3 := Lib.hid (U2.out.only O3 (by omega))
   have HB3 := Lib.hid (And.intro B3 (HB2.out.2.trans O3))
   clear B3 O3
   go_upto_region 11 with (go_at_call 218; refine Calls.mono (zkm g o c cap n k w.heap.size s2 d w3 U3.out HN.out (by omega) (by omega) hsz (by omega) HB3.out.1 (by omega)) ?_; rintro e w4 ⟨x3, s3, rfl, a3, b3, hs3, B4, O4⟩)
   have U4 := Lib.hid (U3.out.only O4 (by omega))
   have HB4 := Lib.hid (And.intro B4 (HB3.out.2.trans O4))
   clear B4 O4
   go_wp2_with (go_at_call 219; refine Calls.mono (zkl g o c cap n x1 x2 x3 w.heap.size s3 d w4 U4.out HN.out (by omega) (by omega) (by omega) hsz (by omega) HB4.out.1 (by omega)) ?_; rintro e w5 ⟨m, s4, rfl, hm, hs4, B5, O5⟩)
   go_meet
   case rel => exact ⟨m, s4, rfl, by omega, by omega, B5, HB4.out.2.trans O5⟩
  ·have h50z : ¬ (50 : Int) <= (L : Int) := by omega
   go_wp2_with (go_at_call 219; refine Calls.mono (zkl g o c cap n i j k w.heap.size 0 d w1 U1.out HN.out (by omega) (by omega) (by omega) hsz (by omega) HB.out.2 (by omega)) ?_; rintro e w5 ⟨m, s4, rfl, hm, hs4, B5, O5⟩)
   go_meet
   case rel => exact ⟨m, s4, rfl, by omega, by omega, B5, O5⟩
 case rest =>
  obtain ⟨m, s, rfl, hm1, hm2, HR⟩ := hcut
  have cs : wc.cell? ⟨w.heap.size, 0, none⟩ = some (.int .i64 s) := HR.out.1.cell 0
  have HF := Lib.hid (show Below w.heap.size w wc from zl.then_ HB.out.1 HR.out.2 (Nat.le_refl _))
  go_wp2_with fail
  all_goals go_ret2
  ·exact ⟨m, 1, rfl, hm1, hm2, by omega, HF.out⟩
  ·exact ⟨m, 2, rfl, hm1, hm2, by omega, HF.out⟩
  ·exact ⟨m, 0, rfl, hm1, hm2, by omega, HF.out⟩
end Go.Proofs.YtofkcmihcgmmpaaGreatDoor
namespace Go.Proofs
open Go.Shelf
def Tryz.npot_ren : Go.Shelf.Ren := ⟨fun | 47 => 172 | 15 => 119 | 28 => 155 | 29 => 156 | n => n, fun | 3 => 3 | 39 => 128 | 53 => 101 | 55 => 52 | 4 => 4 | 5 => 5 | 9 => 9 | n => n, fun | n => n⟩
theorem Tryz.npot : Go.Proofs.SlLaysF0.n47 Tryz.prog Tryz.npot_ren := {
 mixed := by kernel_rfl
 f15 := Tryz.func119.trans (congrArg some (by kernel_rfl))
 f28 := Tryz.func155.trans (congrArg some (by kernel_rfl))
 f29 := Tryz.func156.trans (congrArg some (by kernel_rfl))
 f47 := Tryz.func172.trans (congrArg some (by kernel_rfl))
 t3 := Tryz.underlying3
 a3 := Tryz.isAgg3
 z3 := Tryz.sizeOf3
 v3 := Tryz.zeroValue3
 t4 := Tryz.underlying4
 a4 := Tryz.isAgg4
 z4 := Tryz.sizeOf4
 v4 := Tryz.zeroValue4
 t5 := Tryz.underlying5
 a5 := Tryz.isAgg5
 z5 := Tryz.sizeOf5
 v5 := Tryz.zeroValue5
 t9 := Tryz.underlying9
 a9 := Tryz.isAgg9
 z9 := Tryz.sizeOf9
 v9 := Tryz.zeroValue9
 t39 := Tryz.underlying128
 a39 := Tryz.isAgg128
 z39 := Tryz.sizeOf128
 v39 := Tryz.zeroValue128
 t53 := Tryz.underlying101
 a53 := Tryz.isAgg101
 z53 := Tryz.sizeOf101
 v53 := Tryz.zeroValue101
 t55 := Tryz.underlying52
 a55 := Tryz.isAgg52
 z55 := Tryz.sizeOf52
 v55 := Tryz.zeroValue52 }
def Tryz.xorNext_ren : Go.Shelf.Ren := ⟨fun | 48 => 173 | n => n, fun | 76 => 197 | 55 => 52 | 0 => 0 | 66 => 179 | 39 => 128 | n => n, fun | n => n⟩
theorem Tryz.xorNext : Go.Proofs.SlLaysF0.n48 Tryz.prog Tryz.xorNext_ren := {
 mixed := by kernel_rfl
 f48 := Tryz.func173.trans (congrArg some (by kernel_rfl))
 t0 := Tryz.underlying0
 a0 := Tryz.isAgg0
 z0 := Tryz.sizeOf0
 v0 := Tryz.zeroValue0
 t39 := Tryz.underlying128
 a39 := Tryz.isAgg128
 z39 := Tryz.sizeOf128
 v39 := Tryz.zeroValue128
 t55 := Tryz.underlying52
 a55 := Tryz.isAgg52
 z55 := Tryz.sizeOf52
 v55 := Tryz.zeroValue52
 t66 := Tryz.underlying179
 a66 := Tryz.isAgg179
 z66 := Tryz.sizeOf179
 v66 := Tryz.zeroValue179
 t76 := Tryz.underlying197
 a76 := Tryz.isAgg197
 z76 := Tryz.sizeOf197
 v76 := Tryz.zeroValue197 }
def Tryz.bitsLen_ren : Go.Shelf.Ren := ⟨fun | 15 => 119 | 28 => 155 | 29 => 156 | n => n, fun | 39 => 128 | 3 => 3 | 53 => 101 | 55 => 52 | 4 => 4 | 5 => 5 | 9 => 9 | n => n, fun | n => n⟩
theorem Tryz.bitsLen : Go.Proofs.SlLaysF0.n15 Tryz.prog Tryz.bitsLen_ren := {
 mixed := by kernel_rfl
 f15 := Tryz.func119.trans (congrArg some (by kernel_rfl))
 f28 := Tryz.func155.trans (congrArg some (by kernel_rfl))
 f29 := Tryz.func156.trans (congrArg some (by kernel_rfl))
 t3 := Tryz.underlying3
 a3 := Tryz.isAgg3
 z3 := Tryz.sizeOf3
 v3 := Tryz.zeroValue3
 t4 := Tryz.underlying4
 a4 := Tryz.isAgg4
 z4 := Tryz.sizeOf4
 v4 := Tryz.zeroValue4
 t5 := Tryz.underlying5
 a5 := Tryz.isAgg5
 z5 := Tryz.sizeOf5
 v5 := Tryz.zeroValue5
 t9 := Tryz.underlying9
 a9 := Tryz.isAgg9
 z9 := Tryz.sizeOf9
 v9 := Tryz.zeroValue9
 t39 := Tryz.underlying128
 a39 := Tryz.isAgg128
 z39 := Tryz.sizeOf128
 v39 := Tryz.zeroValue128
 t53 := Tryz.underlying101
 a53 := Tryz.isAgg101
 z53 := Tryz.sizeOf101
 v53 := Tryz.zeroValue101
 t55 := Tryz.underlying52
 a55 := Tryz.isAgg52
 z55 := Tryz.sizeOf52
 v55 := Tryz.zeroValue52 }
def Tryz.sortB_ren : Go.Shelf.Ren := ⟨fun | 6 => 180 | 15 => 119 | 14 => 192 | 28 => 155 | 29 => 156 | 20 => 198 | 21 => 199 | 22 => 200 | 23 => 201 | 24 => 202 | 25 => 203 | 26 => 204 | 27 => 205 | 46 => 214 | 47 => 172 | 48 => 173 | 49 => 215 | 50 => 216 | 57 => 220 | n => n, fun | 22 => 97 | 24 => 102 | 25 => 187 | 3 => 3 | 39 => 128 | 0 => 0 | 53 => 101 | 55 => 52 | 4 => 4 | 46 => 165 | 45 => 164 | 50 => 114 | 5 => 5 | 9 => 9 | 66 => 179 | 70 => 183 | 76 => 197 | 77 => 198 | n => n, fun | n => n⟩
theorem Tryz.sortB : Go.Proofs.SlLaysF.n6 Tryz.prog Tryz.sortB_ren := {
 mixed := by kernel_rfl
 f6 := ⟨Tryz.f180.name, by decide, Tryz.func180.trans (congrArg some (by kernel_rfl))⟩
 f14 := ⟨Tryz.f192.name, by decide, Tryz.func192.trans (congrArg some (by kernel_rfl))⟩
 f15 := Tryz.func119.trans (congrArg some (by kernel_rfl))
 f20 := ⟨Tryz.f198.name, by decide, Tryz.func198.trans (congrArg some (by kernel_rfl))⟩
 f21 := ⟨Tryz.f199.name, by decide, Tryz.func199.trans (congrArg some (by kernel_rfl))⟩
 f22 := ⟨Tryz.f200.name, by decide, Tryz.func200.trans (congrArg some (by kernel_rfl))⟩
 f23 := ⟨Tryz.f201.name, by decide, Tryz.func201.trans (congrArg some (by kernel_rfl))⟩
 f24 := ⟨Tryz.f202.name, by decide, Tryz.func202.trans (congrArg some (by kernel_rfl))⟩
 f25 := ⟨Tryz.f203.name, by decide, Tryz.func203.trans (congrArg some (by kernel_rfl))⟩
 f26 := ⟨Tryz.f204.name, by decide, Tryz.func204.trans (congrArg some (by kernel_rfl))⟩
 f27 := ⟨Tryz.f205.name, by decide, Tryz.func205.trans (congrArg some (by kernel_rfl))⟩
 f28 := Tryz.func155.trans (congrArg some (by kernel_rfl))
 f29 := Tryz.func156.trans (congrArg some (by kernel_rfl))
 f46 := ⟨Tryz.f214.name, by decide, Tryz.func214.trans (congrArg some (by kernel_rfl))⟩
 f47 := Tryz.func172.trans (congrArg some (by kernel_rfl))
 f48 := Tryz.func173.trans (congrArg some (by kernel_rfl))
 f49 := ⟨Tryz.f215.name, by decide, Tryz.func215.trans (congrArg some (by kernel_rfl))⟩
 f50 := ⟨Tryz.f216.name, by decide, Tryz.func216.trans (congrArg some (by kernel_rfl))⟩
 f57 := ⟨Tryz.f220.name, by decide, Tryz.func220.trans (congrArg some (by kernel_rfl))⟩
 t0 := Tryz.underlying0
 a0 := Tryz.isAgg0
 z0 := Tryz.sizeOf0
 v0 := Tryz.zeroValue0
 t3 := Tryz.underlying3
 a3 := Tryz.isAgg3
 z3 := Tryz.sizeOf3
 v3 := Tryz.zeroValue3
 t4 := Tryz.underlying4
 a4 := Tryz.isAgg4
 z4 := Tryz.sizeOf4
 v4 := Tryz.zeroValue4
 t5 := Tryz.underlying5
 a5 := Tryz.isAgg5
 z5 := Tryz.sizeOf5
 v5 := Tryz.zeroValue5
 t9 := Tryz.underlying9
 a9 := Tryz.isAgg9
 z9 := Tryz.sizeOf9
 v9 := Tryz.zeroValue9
 t22 := Tryz.underlying97
 a22 := Tryz.isAgg97
 z22 := Tryz.sizeOf97
 v22 := Tryz.zeroValue97
 a24 := Tryz.isAgg102
 z24 := Tryz.sizeOf102
 t25 := Tryz.underlying187
 a25 := Tryz.isAgg187
 z25 := Tryz.sizeOf187
 v25 := Tryz.zeroValue187
 t39 := Tryz.underlying128
 a39 := Tryz.isAgg128
 z39 := Tryz.sizeOf128
 v39 := Tryz.zeroValue128
 t45 := Tryz.underlying164
 a45 := Tryz.isAgg164
 z45 := Tryz.sizeOf164
 v45 := Tryz.zeroValue164
 t46 := Tryz.underlying165
 a46 := Tryz.isAgg165
 z46 := Tryz.sizeOf165
 v46 := Tryz.zeroValue165
 t50 := Tryz.underlying114
 a50 := Tryz.isAgg114
 z50 := Tryz.sizeOf114
 v50 := Tryz.zeroValue114
 t53 := Tryz.underlying101
 a53 := Tryz.isAgg101
 z53 := Tryz.sizeOf101
 v53 := Tryz.zeroValue101
 t55 := Tryz.underlying52
 a55 := Tryz.isAgg52
 z55 := Tryz.sizeOf52
 v55 := Tryz.zeroValue52
 t66 := Tryz.underlying179
 a66 := Tryz.isAgg179
 z66 := Tryz.sizeOf179
 v66 := Tryz.zeroValue179
 t70 := Tryz.underlying183
 a70 := Tryz.isAgg183
 z70 := Tryz.sizeOf183
 v70 := Tryz.zeroValue183
 t76 := Tryz.underlying197
 a76 := Tryz.isAgg197
 z76 := Tryz.sizeOf197
 v76 := Tryz.zeroValue197
 t77 := Tryz.underlying198
 a77 := Tryz.isAgg198
 z77 := Tryz.sizeOf198
 v77 := Tryz.zeroValue198 }
def Tryz.compactB_ren : Go.Shelf.Ren := ⟨fun | 43 => 184 | n => n, fun | 22 => 97 | 23 => 102 | 3 => 3 | 4 => 4 | 0 => 0 | n => n, fun | n => n⟩
theorem Tryz.compactB : Go.Proofs.SlLaysE.n43 Tryz.prog Tryz.compactB_ren := {
 mixed := by kernel_rfl
 f43 := ⟨Tryz.f184.name, by decide, Tryz.func184.trans (congrArg some (by kernel_rfl))⟩
 t0 := Tryz.underlying0
 a0 := Tryz.isAgg0
 z0 := Tryz.sizeOf0
 v0 := Tryz.zeroValue0
 t3 := Tryz.underlying3
 a3 := Tryz.isAgg3
 z3 := Tryz.sizeOf3
 v3 := Tryz.zeroValue3
 t4 := Tryz.underlying4
 a4 := Tryz.isAgg4
 z4 := Tryz.sizeOf4
 v4 := Tryz.zeroValue4
 t22 := Tryz.underlying97
 a22 := Tryz.isAgg97
 z22 := Tryz.sizeOf97
 v22 := Tryz.zeroValue97
 a23 := Tryz.isAgg102
 z23 := Tryz.sizeOf102 }
def Tryz.deleteB_ren : Go.Shelf.Ren := ⟨fun | 10 => 185 | 6 => 195 | n => n, fun | 22 => 97 | 23 => 102 | 25 => 196 | 3 => 3 | 4 => 4 | 0 => 0 | n => n, fun | n => n⟩
theorem Tryz.deleteB : Go.Proofs.SlLaysH.n10 Tryz.prog Tryz.deleteB_ren := {
 mixed := by kernel_rfl
 f6 := ⟨Tryz.f195.name, by decide, Tryz.func195.trans (congrArg some (by kernel_rfl))⟩
 f10 := ⟨Tryz.f185.name, by decide, Tryz.func185.trans (congrArg some (by kernel_rfl))⟩
 t0 := Tryz.underlying0
 a0 := Tryz.isAgg0
 z0 := Tryz.sizeOf0
 v0 := Tryz.zeroValue0
 t3 := Tryz.underlying3
 a3 := Tryz.isAgg3
 z3 := Tryz.sizeOf3
 v3 := Tryz.zeroValue3
 t4 := Tryz.underlying4
 a4 := Tryz.isAgg4
 z4 := Tryz.sizeOf4
 v4 := Tryz.zeroValue4
 t22 := Tryz.underlying97
 a22 := Tryz.isAgg97
 z22 := Tryz.sizeOf97
 v22 := Tryz.zeroValue97
 a23 := Tryz.isAgg102
 z23 := Tryz.sizeOf102
 t25 := Tryz.underlying196
 a25 := Tryz.isAgg196
 z25 := Tryz.sizeOf196
 v25 := Tryz.zeroValue196 }
end Go.Proofs
namespace Go.Proofs.YtofkcmihcgmmpaaGreatDoor
set_option maxRecDepth 100000
open Go.RowKit Go.Sort Go.Shelf
set_option maxHeartbeats 4000000 in
theorem zpo (g o c cap n a L : Nat) (d : Array Int) (w : World) (hu : zbx w g o c d) (hn : d.size = n) (hL : 12 < L) (hb : a + L <= n) (hsz : n < 1152921504606846976) :
 Calls Tryz.prog 208 #[.slice (some ⟨g, o, none⟩) n cap, .int .i64 a, .int .i64 (a + L : Nat)] w fun e w' =>
  e = .returned (.tuple #[]) /\ ∃ d', At w g o c n w' d' /\ PermIn a (a + L) d d' := by
 obtain ⟨M, hM⟩ : ∃ M : Nat, M = 1 <<< bitsLen L := ⟨_, rfl⟩
 have hM1 : 1 <= M := by rw [hM, Nat.one_shiftLeft]; exact Nat.two_pow_pos _
 have hM2 : M <= 2 * L := by rw [hM, Nat.one_shiftLeft]; exact two_pow_bitsLen_le (by omega)
 have hNP : ∀ w, Calls Tryz.prog 172 #[.int .i64 ((a : Int) + (L : Int) - (a : Int))] w fun e w' => e = .returned (.int .u64 (M : Int)) /\ w' = w := by
  intro w
  rw [hM, show (a : Int) + (L : Int) - (a : Int) = (L : Int) by omega]
  exact AnyF.nextPowerOfTwo Tryz.npot L (by omega) w
 have HNP := Lib.hid hNP
 have hglt := hu.lt
 have KK := Lib.hid (At.start hu hn)
 clear hu hn hNP hM
 go_enter Tryz.func208, Tryz.ntmps208
 go_wp2_with (go_at_call 172; refine Calls.mono (HNP.out _) ?_; rintro e w1 ⟨rfl, rfl⟩)
 obtain ⟨w1, hw1⟩ : ∃ w1, w1 = w.alloc (Obj.cells #[Value.int IntKind.u64 ((a : Int) + (L : Int) - (a : Int))] 179) := ⟨_, rfl⟩
 have B1 : Below w.heap.size w w1 := by rw [hw1]; exact ze _ _
 have S1 : Blk w1 w.heap.size 179 #[.int .u64 (L : Nat)] := by rw [hw1, show (a : Int) + (L : Int) - (a : Int) = (L : Int) by omega]; exact Blk.new _ _ _
 rw [<- hw1]
 clear hw1
 have K1 := Lib.hid (show At w g o c n w1 d from ⟨KK.out.row.below B1 hglt, KK.out.size, zl.of_below B1⟩)
 have HS := Lib.hid S1
 clear S1 B1 KK
 go_loopg [9] 3 (fun k vi wr => ∃ (t X : Nat) (dk : Array Int), vi = .int .i64 ((a + L / 4 * 2 - 1 + t : Nat) : Int) /\ t + k = 3 /\ X < 18446744073709551616 /\ At w g o c n wr dk /\ Hid (Blk wr w.heap.size 179 #[.int .u64 (X : Nat)] /\ PermIn a (a + L) d dk))
 case atStart => exact ⟨0, L, d, by congr 1; omega, rfl, by omega, K1.out, HS.out, permIn_refl _ _ _⟩
 case round =>
  clear K1 HS
  obtain ⟨t, X, dk, rfl, htk, hX, K, HB⟩ := hrel
  obtain ⟨I, hI⟩ : ∃ I, I = a + L / 4 * 2 - 1 + t := ⟨_, rfl⟩
  rw [<- hI]
  by_cases ht : t < 3
  ·have hIz : (I : Int) <= (a : Int) + ((a : Int) + (L : Int) - (a : Int)) / 4 * 2 + 1 := by omega
   have hI1 : a <= I := by omega
   have hI2 : I < a + L := by omega
   have hIn : I + 1 = a + L / 4 * 2 - 1 + (t + 1) := by omega
   have HI := Lib.hid hIn
   clear hI hIn
   obtain ⟨R, hR⟩ : ∃ R, R = xorNextN X := ⟨_, rfl⟩
   have lR : R < 18446744073709551616 := by rw [hR]; exact xorNextN_lt X hX
   obtain ⟨O, hO⟩ : ∃ O : Nat, O = R &&& (M - 1) := ⟨_, rfl⟩
   have lO : O <= M - 1 := by rw [hO]; exact Nat.and_le_right
   have eAnd : bits .and .u64 (R : Int) ((M : Int) - 1) = (O : Int) := by
    rw [show ((M : Int) - 1) = ((M - 1 : Nat) : Int) by omega, bits_and_u64_nat _ _ lR (by omega), hO]
   have hNext : Calls Tryz.prog 173 #[.pointer (some ⟨w.heap.size, 0, none⟩)] wr fun e w' => e = .returned (.int .u64 (R : Int)) /\ w' = (wr.setCell ⟨w.heap.size, 0, none⟩ (.int .u64 (R : Int))).drewN 3 := by
    rw [hR]
    exact AnyF.xorshift_Next Tryz.xorNext w.heap.size 0 X hX wr (HB.out.1.cell 0) (HB.out.1.frozen 0)
   have HNX := Lib.hid hNext
   clear hR hO hNext
   go_upto_if 43 with (go_at_call 173; refine Calls.mono HNX.out ?_; rintro e w2 ⟨rfl, hw2⟩; have HW2 := Lib.hid hw2; clear hw2)
   have hw2 := HW2.out
   clear HW2
   have B2 : Blk w2 w.heap.size 179 #[.int .u64 (R : Nat)] := by
    rw [hw2]
    have := (HB.out.1.set_ 0 (.int .u64 (R : Nat))).drewN 3
    simpa using this
   have O2 : zl w.heap.size (w.heap.size + 1) wr w2 := by
    rw [hw2]
    exact (zl.setCell (p := ⟨w.heap.size, 0, none⟩) (zl.refl _ _ _) ⟨Nat.le_refl _, Nat.lt_succ_self _⟩ _).drewN' 3
   have KK := Lib.hid (K.aside O2 (Nat.le_refl _) hglt)
   have HB2 := Lib.hid (And.intro B2 HB.out.2)
   clear B2 O2 hw2 K HB HNX
   go_cut [10] from 26 to 64 (fun s10 wc => ∃ q : Nat, s10 = .int .i64 q /\ q < L /\ wc = w2)
   case first =>
    by_cases hLO : L <= O
    ·have hz : (L : Int) <= (O : Int) := by omega
     go_wp2_with fail
     go_meet
     case rel => exact ⟨O - L, by congr 1; omega, by omega, rfl⟩
    ·have hz : ¬ ((L : Int) <= (O : Int)) := by omega
     go_wp2_with fail
     go_meet
     case rel => exact ⟨O, by first | rfl | (congr 1; omega), by omega, rfl⟩
   case rest =>
    obtain ⟨q, rfl, hq, rfl⟩ := hcut
    obtain ⟨G, HG, hc, hf⟩ := KK.out.fam
    obtain ⟨v', hy'⟩ := KK.out.still (j := a + q) (by omega) ⟨g, o + I, none⟩ (.int .u32 (G (a + q)))
    have KS := Lib.hid (fun (W : World) (hW : W = ((wc.setCell ⟨g, o + I, none⟩ (.int .u32 (G (a + q)))).setCell ⟨g, o + (a + q), none⟩ (.int .u32 (G I))).drew) => show At w g o c n W (Sort.swp dk I (a + q)) from hW ▸ (KK.out.swp (by omega) (by omega) (by rw [HG.out]) (by rw [HG.out])).drew)
    have HB3 := Lib.hid (fun (W : World) (hW : W = ((wc.setCell ⟨g, o + I, none⟩ (.int .u32 (G (a + q)))).setCell ⟨g, o + (a + q), none⟩ (.int .u32 (G I))).drew) =>
     show Blk W w.heap.size 179 #[.int .u64 (R : Nat)] /\ PermIn a (a + L) d (Sort.swp dk I (a + q)) from hW ▸ ⟨((HB2.out.1.far (p := ⟨g, o + I, none⟩) (by show w.heap.size ≠ g; omega) _).far (p := ⟨g, o + (a + q), none⟩) (by show w.heap.size ≠ g; omega) _).drewN 1,
      permIn_trans _ _ _ _ _ HB2.out.2 (swp_permIn dk a (a + L) I (a + q) hI1 hI2 (by omega) (by omega) (by have := KK.out.size; omega))⟩)
    by_cases hEq : I = a + q
    all_goals
     go_wp2_with fail
     go_region
     all_goals go_wp2_with fail
     go_roundg (3 - (t + 1))
     case measure => omega
     case rel => exact ⟨t + 1, R, Sort.swp dk I (a + q), by rw [<- HI.out]; go_num, by omega, lR, KS.out _ (by first | rfl | rw [hEq]), HB3.out _ (by first | rfl | rw [hEq])⟩
  ·have hIz : ¬ (I : Int) <= (a : Int) + ((a : Int) + (L : Int) - (a : Int)) / 4 * 2 + 1 := by omega
   go_wp2_with fail
   go_end0
   exact ⟨rfl, dk, K, HB.out.2⟩
open Go.RowKit Go.Sort Go.Shelf
set_option maxHeartbeats 16000000 in
set_option maxRecDepth 1000000 in
theorem zpG (g o c cap n : Nat) (hsz : n < 1152921504606846976) : ∀ (N a b limit : Nat) (d : Array Int) (w : World), b - a < N -> zbx w g o c d -> d.size = n -> a <= b -> b <= n -> limit < 1152921504606846976 -> Sort.Below ltInt a b d ->
 Calls Tryz.prog 194 #[.slice (some ⟨g, o, none⟩) n cap, .int .i64 a, .int .i64 b, .int .i64 limit] w fun e w' =>
  e = .returned (.tuple #[]) /\ ∃ d', At w g o c n w' d' /\ PermIn a b d d' /\ SortedIn ltInt a b d' := by
 intro N
 induction N with
 | zero => intro _ _ _ _ _ h; exact absurd h (Nat.not_lt_zero _)
 | succ N ih =>
  intro a b limit d w hN hu hn hab hb hlim hBel
  have KK := Lib.hid (At.start hu hn)
  have HB0 := Lib.hid hBel
  have IH := Lib.hid ih
  clear hu hn hBel ih
  go_enter Tryz.func194, Tryz.ntmps194
  go_wp2_with fail
  go_loopg [1, 2, 3, 8, 9] (b - a) (fun k s1 s2 s3 s8 s9 wr => ∃ (a' b' lim : Nat) (wb wp : Bool) (dk : Array Int), s1 = .int .i64 a' /\ s2 = .int .i64 b' /\ s3 = .int .i64 lim /\ s8 = .bool wb /\ s9 = .bool wp /\
   a' <= b' /\ b' <= n /\ b' - a' <= k /\ k <= b - a /\ lim <= limit /\ At w g o c n wr dk /\ Hid (Sort.Below ltInt a' b' dk /\ ∀ R, PermIn a' b' dk R -> SortedIn ltInt a' b' R -> PermIn a b d R /\ SortedIn ltInt a b R))
  case atStart => exact ⟨a, b, limit, true, true, d, rfl, rfl, rfl, rfl, rfl, hab, hb, Nat.le_refl _, Nat.le_refl _, Nat.le_refl _, KK.out, HB0.out, fun R h1 h2 => ⟨h1, h2⟩⟩
  case round =>
   clear KK HB0
   obtain ⟨a', b', lim, wb, wp, dk, rfl, rfl, rfl, rfl, rfl, hab', hb', hgk, hgN, hlim', K, HB⟩ := hrel
   have KK := Lib.hid K
   have hds := K.size
   have HDS := Lib.hid hds
   clear K hds
   by_cases h12 : b' - a' <= 12
   ·have h12z : (b' : Int) - (a' : Int) <= 12 := by omega
    have HC := Lib.hid (zoL g o c cap n a' b' dk wr KK.out.row HDS.out hab' hb' (by omega))
    have HR := Lib.hid (insertionSort_holds swo_ltInt dk a' b' hab' (by have := HDS.out; omega))
    go_wp2_with (go_at_call 206; refine Calls.mono HC.out ?_; rintro e w1 ⟨rfl, K1⟩)
    (try simp only [Exit.inBlock, Exit.then]); refine bodyPost_ret (results_none rfl _ _ _) rfl ?_
    exact ⟨rfl, _, KK.out.then_ K1, HB.out.2 _ HR.out.1 HR.out.2⟩
   ·have h12z : ¬ ((b' : Int) - (a' : Int) <= 12) := by omega
    by_cases hl0 : lim = 0
    ·subst hl0
     have HC := Lib.hid (zpx g o c cap n a' b' dk wr KK.out.row HDS.out hab' hb' hsz)
     have HR := Lib.hid (heapSort_holds swo_ltInt dk a' b' hab' (by have := HDS.out; omega))
     go_wp2_with (go_at_call 207; refine Calls.mono HC.out ?_; rintro e w1 ⟨rfl, K1⟩)
     (try simp only [Exit.inBlock, Exit.then]); refine bodyPost_ret (results_none rfl _ _ _) rfl ?_
     exact ⟨rfl, _, KK.out.then_ K1, HB.out.2 _ HR.out.1 HR.out.2⟩
    ·have hl0z : ¬ ((lim : Int) = 0) := by omega
     obtain ⟨L, hL⟩ : ∃ L, b' = a' + L := ⟨b' - a', by omega⟩
     subst hL
     have hL12 : 12 < L := by omega
     go_upto_if 35 with fail
     go_cut [3] from 19 to 133 (fun s3 wc => ∃ (l : Nat) (d1 : Array Int), s3 = .int .i64 l /\ l <= lim /\ At w g o c n wc d1 /\ Hid (PermIn a' (a' + L) dk d1))
     case first =>
      cases wb
      ·have HC := Lib.hid (zpo g o c cap n a' L dk wr KK.out.row HDS.out hL12 hb' hsz)
       go_wp2_with (go_at_call 208; refine Calls.mono HC.out ?_; rintro e w1 ⟨rfl, d1, K1, P1⟩)
       go_meet
       case rel => exact ⟨lim - 1, d1, by congr 1; omega, by omega, KK.out.then_ K1, P1⟩
      ·go_wp2_with fail
       go_meet
       case rel => exact ⟨lim, dk, rfl, Nat.le_refl _, KK.out, permIn_refl _ _ _⟩
     case rest =>
      obtain ⟨l, d1, rfl, hll, K1, HP1⟩ := hcut
      clear KK
      have KK := Lib.hid K1
      have HDS1 := Lib.hid K1.size
      have HLT := Lib.hid K1.only.size
      clear K1
      have HC := Lib.hid (zph g o c cap n a' L d1 wc KK.out.row HDS1.out hL12 hb' hsz)
      go_upto_if 50 with (go_at_call 209; refine Calls.mono HC.out ?_; rintro e w2 ⟨m, h, rfl, hm1, hm2, hh, B2⟩)
      have K2 := Lib.hid (KK.out.then_ (⟨KK.out.row.below B2 KK.out.lt, HDS1.out, zl.of_below B2⟩ : At wc g o c n w2 d1))
      clear KK HC B2
      go_cut [11, 12] from 19 to 133 (fun s11 s12 wc => ∃ (q h : Nat) (d2 : Array Int), s11 = .int .i64 q /\ s12 = .int .i64 h /\ a' <= q /\ q < a' + L /\ h <= 2 /\ At w g o c n wc d2 /\ Hid (PermIn a' (a' + L) dk d2))
      case first =>
       by_cases hh2 : h = 2
       ·subst hh2
        have HC := Lib.hid (zn0 g o c cap n a' (a' + L) d1 w2 K2.out.row HDS1.out (by omega) hb' (by omega))
        go_wp2_with (go_at_call 210; refine Calls.mono HC.out ?_; rintro e w3 ⟨rfl, d2, K3, P3⟩)
        go_meet
        case rel => exact ⟨a' + L - 1 - (m - a'), 1, d2, by congr 1; omega, rfl, by omega, by omega, by omega, K2.out.then_ K3, permIn_trans _ _ _ _ _ HP1.out P3⟩
       ·have hh2z : ¬ ((h : Int) = 2) := by omega
        go_wp2_with fail
        go_meet
        case rel => exact ⟨m, h, d1, rfl, rfl, hm1, hm2, hh, K2.out, HP1.out⟩
      case rest =>
       obtain ⟨q, h', d2, rfl, rfl, hq1, hq2, hh', K3, HP2⟩ := hcut
       clear K2
       have KK := Lib.hid K3
       have HDS2 := Lib.hid K3.size
       clear K3
       go_upto_region 15 with fail
       go_cut [68] from 19 to 133 (fun s68 wx => ∃ B, s68 = .bool B /\ wx = wc)
       case first =>
        cases wb <;> cases wp <;>
         (go_wp2_with fail
          go_meet
          exact ⟨_, rfl, rfl⟩)
       case rest =>
        obtain ⟨B, rfl, rfl⟩ := hcut
        have hsd2 : a' + L <= d2.size := by have := HDS2.out; omega
        have HBL := Lib.hid (show Sort.Below ltInt a' (a' + L) d2 from Sort.Below.perm HB.out.1 (by have := HDS.out; omega) HP2.out)
        go_upto_if 68 with fail
        go_cut [] from 19 to 133 (fun wx => ∃ d3 : Array Int, At w g o c n wx d3 /\ Hid (PermIn a' (a' + L) dk d3))
        case first =>
         cases B
         ·go_wp2_with fail
          go_meet
          case rel => exact ⟨d2, KK.out, HP2⟩
         ·have hc := zn4 g o c cap n a' (a' + L) d2 wc KK.out.row HDS2.out (by omega) hb' hsz
          have hr := partialInsertionSort_holds swo_ltInt d2 a' (a' + L) (by omega) hsd2 HBL.out
          obtain ⟨d3, r, hp⟩ : ∃ d3 r, partialInsertionSort ltInt d2 a' (a' + L) = (d3, r) := ⟨_, _, rfl⟩
          rw [hp] at hc hr
          have HC := Lib.hid hc
          have HR := Lib.hid hr
          clear hc hr hp
          cases r
          ·go_wp2_with (go_at_call 211; refine Calls.mono HC.out ?_; rintro e w3 ⟨rfl, K3⟩)
           go_meet
           case rel => exact ⟨d3, KK.out.then_ K3, permIn_trans _ _ _ _ _ HP2.out HR.out.1⟩
          ·go_wp2_with (go_at_call 211; refine Calls.mono HC.out ?_; rintro e w3 ⟨rfl, K3⟩)
           (try simp only [Exit.inBlock, Exit.then]); refine bodyPost_ret (results_none rfl _ _ _) rfl ?_
           exact ⟨rfl, _, KK.out.then_ K3, HB.out.2 _ (permIn_trans _ _ _ _ _ HP2.out HR.out.1) (HR.out.2 (by first | rfl | trivial))⟩
        case rest =>
         obtain ⟨d3, K3, HP3⟩ := hcut
         clear KK HBL
         have KK := Lib.hid K3
         have HDS3 := Lib.hid K3.size
         clear K3
         have hsd3 : a' + L <= d3.size := by have := HDS3.out; omega
         have HBL := Lib.hid (show Sort.Below ltInt a' (a' + L) d3 from Sort.Below.perm HB.out.1 (by have := HDS.out; omega) HP3.out)
         have HND := Lib.hid (fun R (h1 : PermIn a' (a' + L) d3 R) h2 => HB.out.2 R (permIn_trans _ _ _ _ _ HP3.out h1) h2)
         obtain ⟨G, HG, hc, hf⟩ := KK.out.fam
         go_upto_region 17 with fail
         go_cut [87] from 19 to 133 (fun s87 wx => ∃ B, s87 = .bool B /\ Hid (B = true -> 0 < a' /\ ltInt d3[a' - 1]! d3[q]! = false) /\ At w g o c n wx d3)
         case first =>
          rcases Nat.eq_zero_or_pos a' with ha0 | ha0
          ·have ha0z : decide ((a' : Int) > 0) = false := decide_eq_false (by omega)
           go_big_quiet (first | (go_at_call 196; refine Calls.quiet_of_same (zS _ _ _)))
           go_wp2_with fail
           go_meet
           case rel => exact ⟨_, rfl, fun h => (by cases h), KK.out.drewN nq⟩
          ·have ha0z : (a' : Int) > 0 := by omega
           go_big_quiet (first | (go_at_call 196; refine Calls.quiet_of_same (zS _ _ _)))
           go_wp2_with fail
           go_meet
           case rel => exact ⟨_, rfl, fun h => ⟨ha0, by rw [<- HG.out, <- HG.out]; simpa using h⟩, KK.out.drewN nq⟩
         case rest =>
          obtain ⟨B2, rfl, HB2, K4⟩ := hcut
          clear KK hc hf HG
          have KK := Lib.hid K4
          clear K4
          cases B2
          ·have hcp := zpu g o c cap n a' (a' + L) q d3 wc KK.out.row HDS3.out hq1 hq2 hb' hsz
           obtain ⟨mid, ap, d4, hx⟩ : ∃ mid ap d4, partition ltInt d3 a' (a' + L) q = (mid, ap, d4) := ⟨_, _, _, rfl⟩
           obtain ⟨r1, r2, r3, r4, r5, r6, r7⟩ := round_part swo_ltInt (partition_holds ltInt) hq1 hq2 hsd3 HBL.out hx
           rw [hx] at hcp
           have HC := Lib.hid hcp
           have HR := Lib.hid (And.intro r4 (And.intro r5 (And.intro r6 r7)))
           clear hcp hx r4 r5 r6 r7 r3
           go_upto_if 113 with (go_at_call 213; refine Calls.mono HC.out ?_; rintro e w5 ⟨rfl, K5⟩)
           have KK2 := Lib.hid (KK.out.then_ K5)
           clear KK K5 HC
           by_cases h4 : mid - a' < a' + L - mid
           ·have h4z : (mid : Int) - (a' : Int) < (a' : Int) + (L : Int) - (mid : Int) := by omega
            have HIH := Lib.hid (IH.out a' mid l d4 w5 (by omega) KK2.out.row KK2.out.size r1 (by omega) (by omega) HR.out.1)
            go_wp2_with (go_at_call 194; refine Calls.mono HIH.out ?_; rintro e w6 ⟨rfl, d5, K6, P6, S6⟩)
            have HX := Lib.hid (HR.out.2.2.1 d5 P6 S6)
            clear P6 S6
            go_roundg (a' + L - (mid + 1))
            case measure => omega
            case rel => exact ⟨mid + 1, a' + L, l, _, _, d5, by go_num, rfl, rfl, rfl, rfl, by omega, hb', Nat.le_refl _, by omega, by omega, KK2.out.then_ K6, HX.out.1, fun R h1 h2 => HND.out R (HX.out.2 R h1 h2).1 (HX.out.2 R h1 h2).2⟩
           ·have h4z : ¬ ((mid : Int) - (a' : Int) < (a' : Int) + (L : Int) - (mid : Int)) := by omega
            have hih := IH.out (mid + 1) (a' + L) l d4 w5 (by omega) KK2.out.row KK2.out.size (by omega) hb' (by omega) HR.out.2.1
            rw [show ((mid + 1 : Nat) : Int) = (mid : Int) + 1 by omega] at hih
            have HIH := Lib.hid hih
            clear hih
            go_wp2_with (go_at_call 194; refine Calls.mono HIH.out ?_; rintro e w6 ⟨rfl, d5, K6, P6, S6⟩)
            have HX := Lib.hid (HR.out.2.2.2 d5 P6 S6)
            clear P6 S6
            go_roundg (mid - a')
            case measure => omega
            case rel => exact ⟨a', mid, l, _, _, d5, rfl, rfl, rfl, rfl, rfl, r1, by omega, Nat.le_refl _, by omega, by omega, KK2.out.then_ K6, HX.out.1, fun R h1 h2 => HND.out R (HX.out.2 R h1 h2).1 (HX.out.2 R h1 h2).2⟩
          ·have hcp := zoH g o c cap n a' (a' + L) q d3 wc KK.out.row HDS3.out hq1 hq2 hb' hsz
           obtain ⟨mid, d4, hx⟩ : ∃ mid d4, partitionEqual ltInt d3 a' (a' + L) q = (mid, d4) := ⟨_, _, rfl⟩
           obtain ⟨r1, r2, r3, r4, r5⟩ := round_eq swo_ltInt (partitionEqual_holds ltInt) (HB2.out rfl).1 hq1 hq2 hsd3 HBL.out (HB2.out rfl).2 hx
           rw [hx] at hcp
           have HC := Lib.hid hcp
           have HR := Lib.hid (And.intro r4 r5)
           clear hcp hx r4 r5 r3
           go_wp2_with (go_at_call 212; refine Calls.mono HC.out ?_; rintro e w5 ⟨rfl, K5⟩)
           go_roundg (a' + L - mid)
           case measure => omega
           case rel => exact ⟨mid, a' + L, l, _, _, d4, rfl, rfl, rfl, rfl, rfl, r2, hb', Nat.le_refl _, by omega, by omega, KK.out.then_ K5, HR.out.1, fun R h1 h2 => HND.out R (HR.out.2 R h1 h2).1 (HR.out.2 R h1 h2).2⟩
set_option maxHeartbeats 2000000 in
theorem zps (g o c cap n : Nat) (d : Array Int) (w : World) (hu : zbx w g o c d) (hn : d.size = n) (hsz : n < 1152921504606846976) :
 Calls Tryz.prog 183 #[.slice (some ⟨g, o, none⟩) n cap] w fun e w' =>
  e = .returned (.tuple #[]) /\ ∃ d', At w g o c n w' d' /\ PermIn 0 n d d' /\ SortedIn ltInt 0 n d' := by
 have hlim : Lib.bitLen n < 1152921504606846976 := Nat.lt_of_le_of_lt (Lib.bitLen_le n 62 (by omega) (by omega)) (by omega)
 have hl : Calls Tryz.prog 119 #[.int .u64 (n : Int)] w fun e w' => e = .returned (.int .i64 (Lib.bitLen n : Nat)) /\ w' = w := by
  have h := Any.bits_Len (SlLaysF0.n15.bits Tryz.bitsLen) (n : Int) w (by omega) (by omega)
  rwa [Int.toNat_natCast] at h
 have HP := Lib.hid (zpG g o c cap n hsz (n + 1) 0 n (Lib.bitLen n) d w (by omega) hu hn (Nat.zero_le _) (Nat.le_refl _) hlim (Or.inl rfl))
 have HL := Lib.hid hl
 have wr : IntKind.u64.wrap (n : Int) = n := by simp [IntKind.wrap, IntKind.bits, IntKind.signed]; omega
 clear hu hn hl
 go_enter Tryz.func183, Tryz.ntmps183
 go_wp2_with (first
  | (go_at_call 119; refine Calls.mono HL.out ?_; rintro e w' ⟨rfl, rfl⟩)
  | (go_at_call 194; refine Calls.mono HP.out ?_; rintro e w1 ⟨rfl, d1, K1, P1, S1⟩))
 go_end0
 exact ⟨rfl, d1, K1, P1, S1⟩
open Go.RowKit Go.Sort
def wd (b : List Int) : Value := .int .u32 ((encB b : Nat) : Int)
def zbW (S : List (List Int)) : Array Int := (S.map fun b => ((encB b : Nat) : Int)).toArray
theorem zag (S : List (List Int)) : (zbW S).size = S.length := by simp [zbW]
theorem zbA (S : List (List Int)) {j : Nat} (hj : j < S.length) : (zbW S)[j]! = ((encB S[j] : Nat) : Int) := by
 rw [getElem!_pos (zbW S) j (by rw [zag]; exact hj)]
 simp [zbW]
theorem Tryz.infoWord : (Tryz.prog.info? 102).map (fun i => (i.zero, i.size, i.bytes)) = some (some (.int .u32 0), 1, 4) := by kernel_rfl
def RdW (w : World) (B : Nat) (v : Value) (S : List (List Int)) : Prop :=
 ∃ A c, v = .slice A S.length c /\ S.length <= c /\ (0 < S.length -> ∃ b o, A = some ⟨b, o, none⟩ /\ b < B /\ ∀ k (h : k < S.length), w.cell? ⟨b, o + k, none⟩ = some (wd S[k]))
theorem RdW.below {w w' : World} {B B' : Nat} {v : Value} {S : List (List Int)} (h : RdW w B v S) (hb : Below B' w w') (hB : B <= B') : RdW w' B v S := by
 obtain ⟨A, c, rfl, hc, h⟩ := h
 refine ⟨A, c, rfl, hc, fun hn => ?_⟩
 obtain ⟨b, o, rfl, hlt, hk⟩ := h hn
 exact ⟨b, o, rfl, hlt, fun k hkl => (hb.cell (p := ⟨b, o + k, none⟩) (by show b < B'; omega)).trans (hk k hkl)⟩
theorem RdW.more {w : World} {B B' : Nat} {v : Value} {S : List (List Int)} (h : RdW w B v S) (hB : B <= B') : RdW w B' v S := by
 obtain ⟨A, c, rfl, hc, h⟩ := h
 refine ⟨A, c, rfl, hc, fun hn => ?_⟩
 obtain ⟨b, o, rfl, hlt, hk⟩ := h hn
 exact ⟨b, o, rfl, by omega, hk⟩
theorem RdW.on {w w' : World} {v : Value} {S : List (List Int)} (h : RdW w w.heap.size v S) (hb : Below w.heap.size w w') : RdW w' w'.heap.size v S := (h.below hb (Nat.le_refl _)).more hb.size
def zbc (w : World) (lo hi : Nat) (v : Value) (S : List (List Int)) : Prop :=
 w.ownsRow lo 102 1 v S.length (S.map wd) /\ ∀ g, v.ownBlock = some g -> g < hi
section
variable {w w' : World} {lo hi lo' hi' : Nat} {v : Value} {S : List (List Int)}
theorem zbc.form (h : zbc w lo hi v S) : ∃ A c, v = .slice A S.length c := by
 rcases h.1.2 with ⟨rfl, h0⟩ | ⟨g, cap, _, rfl, _⟩
 ·exact ⟨none, 0, by rw [h0]⟩
 ·exact ⟨_, _, rfl⟩
theorem zbc.only (h : zbc w lo hi v S) (ho : zl lo' hi' w w') (hd : hi <= lo' \/ hi' <= lo) : zbc w' lo hi v S := by
 obtain ⟨⟨hlen, h⟩, hlt⟩ := h
 refine ⟨⟨hlen, ?_⟩, hlt⟩
 rcases h with h | ⟨g, cap, cur, rfl, hbg, hg, r⟩
 ·exact .inl h
 ·have := hlt g rfl
  exact .inr ⟨g, cap, cur, rfl, hbg, by rw [ho.block g (Blk.lt hg) (by omega)]; exact hg, r⟩
theorem zbc.below {B : Nat} (h : zbc w lo hi v S) (hb : Below B w w') (hB : hi <= B) : zbc w' lo hi v S := by
 obtain ⟨⟨hlen, h⟩, hlt⟩ := h
 refine ⟨⟨hlen, ?_⟩, hlt⟩
 rcases h with h | ⟨g, cap, cur, rfl, hbg, hg, r⟩
 ·exact .inl h
 ·exact .inr ⟨g, cap, cur, rfl, hbg, by rw [hb.block g (by have := hlt g rfl; omega)]; exact hg, r⟩
theorem zbc.mono (h : zbc w lo hi v S) (h1 : lo' <= lo) (h2 : hi <= hi') : zbc w lo' hi' v S := by
 obtain ⟨⟨hlen, h⟩, hlt⟩ := h
 refine ⟨⟨hlen, ?_⟩, fun g hg => by have := hlt g hg; omega⟩
 rcases h with h | ⟨g, cap, cur, rfl, hbg, r⟩
 ·exact .inl h
 ·exact .inr ⟨g, cap, cur, rfl, by omega, r⟩
theorem zbc.at_ (h : zbc w lo hi v S) : (v = .slice none 0 0 /\ S = []) \/ ∃ g c, v = .slice (some ⟨g, 0, none⟩) S.length c /\ lo <= g /\ g < hi /\ g < w.heap.size /\ zbx w g 0 c (zbW S) /\ S.length <= c /\ c <= maxLen := by
 obtain ⟨⟨hlen, h⟩, hlt⟩ := h
 rcases h with ⟨rfl, h0⟩ | ⟨g, cap, cur, rfl, hbg, hg, h1, h2, h3, h4⟩
 ·exact .inl ⟨rfl, List.eq_nil_of_length_eq_zero h0⟩
 ·refine .inr ⟨g, cap, rfl, hbg, hlt g rfl, Blk.lt hg, ⟨cur, hg, by omega, fun j hj => ?_⟩, h1, h2⟩
  have hjl : j < S.length := by rw [zag] at hj; exact hj
  rw [Nat.zero_add, zbA S hjl, <- Array.getElem?_toList, <- List.getElem?_take_of_lt (show j < S.length * 1 by omega), h4]
  simp [hjl, wd]
theorem zbc.of {g c : Nat} (h : zbx w g 0 c (zbW S)) (h1 : lo <= g) (h2 : g < hi) (h3 : S.length <= c) (h4 : c <= maxLen) : zbc w lo hi (.slice (some ⟨g, 0, none⟩) S.length c) S := by
 obtain ⟨cur, hg, hs, hc⟩ := h
 refine ⟨⟨by simp, .inr ⟨g, c, cur, rfl, h1, hg, h3, h4, by omega, ?_⟩⟩, fun g' hg' => by simp [Value.ownBlock] at hg'; omega⟩
 apply List.ext_getElem?
 intro j
 by_cases hj : j < S.length
 ·rw [List.getElem?_take_of_lt (by omega), Array.getElem?_toList]
  have := hc j (by rw [zag]; exact hj)
  rw [Nat.zero_add] at this
  rw [this, zbA S hj]
  simp [hj, wd]
 ·rw [List.getElem?_eq_none (by simp; omega), List.getElem?_eq_none (by simp; omega)]
theorem zbc.rd (h : zbc w lo hi v S) : RdW w hi v S := by
 rcases h.at_ with ⟨rfl, rfl⟩ | ⟨g, c, rfl, h1, h2, h3, h4, h5, h6⟩
 ·exact ⟨none, 0, rfl, by simp, fun h => absurd h (by simp)⟩
 ·refine ⟨_, c, rfl, h5, fun _ => ⟨g, 0, rfl, h2, fun k hk => ?_⟩⟩
  rw [h4.cell (by rw [zag]; exact hk), zbA S hk]
  rfl
end
theorem znf {S : List (List Int)} {d : Array Int} (h : d.toList.Perm (zbW S).toList) : ∃ S', S'.Perm S /\ d = zbW S' := by
 have e : (zbW S).toList = S.map fun b => ((encB b : Nat) : Int) := by simp [zbW]
 rw [e] at h
 have key : ∀ (l : List Int) (T : List (List Int)), l.Perm (T.map fun b => ((encB b : Nat) : Int)) -> ∃ S' : List (List Int), S'.Perm T /\ l = S'.map fun b => ((encB b : Nat) : Int) := by
  intro l
  induction l with
  | nil => intro T hp; exact ⟨[], by
   have h0 := hp.length_eq
   rw [List.length_map] at h0
   rw [List.eq_nil_of_length_eq_zero h0.symm], rfl⟩
  | cons x l ih =>
   intro T hp
   have hx : x ∈ T.map fun b => ((encB b : Nat) : Int) := hp.mem_iff.1 (List.mem_cons_self)
   obtain ⟨b, hb, rfl⟩ := List.mem_map.1 hx
   obtain ⟨T1, T2, rfl⟩ := List.append_of_mem hb
   have hp2 : l.Perm ((T1 ++ T2).map fun b => ((encB b : Nat) : Int)) := by
    have h1 : ((T1 ++ b :: T2).map fun b => ((encB b : Nat) : Int)).Perm (((encB b : Nat) : Int) :: ((T1 ++ T2).map fun b => ((encB b : Nat) : Int))) := by
     exact (List.perm_middle (a := b) (l₁ := T1) (l₂ := T2)).map fun b => ((encB b : Nat) : Int)
    exact (hp.trans h1).cons_inv
   obtain ⟨S', h1, rfl⟩ := ih _ hp2
   exact ⟨b :: S', (h1.cons b).trans List.perm_middle.symm, rfl⟩
 obtain ⟨S', h1, h2⟩ := key d.toList S h
 exact ⟨S', h1, by rw [zbW, <- h2]⟩
def UpW (S : List (List Int)) : Prop := S.Pairwise fun a b => encB a <= encB b
set_option maxHeartbeats 1000000 in
theorem zpi (l : Nat) (w : World) :
 Calls Tryz.prog 194 #[.slice none 0 0, .int .i64 0, .int .i64 0, .int .i64 l] w fun e w' => e = .returned (.tuple #[]) /\ w' = w := by
 have HI : ∀ w, Calls Tryz.prog 206 #[.slice none 0 0, .int .i64 0, .int .i64 0] w fun e w' => e = .returned (.tuple #[]) /\ w' = w := by
  intro w
  go_enter Tryz.func206, Tryz.ntmps206
  go_wp2_with fail
  go_loopg [6] 0 (fun _ vi wr => vi = .int .i64 1 /\ wr = w)
  case atStart => exact ⟨rfl, rfl⟩
  case round =>
   obtain ⟨rfl, rfl⟩ := hrel
   go_wp2_with fail
   go_end0
   exact ⟨rfl, rfl⟩
 go_enter Tryz.func194, Tryz.ntmps194
 go_wp2_with fail
 go_loopg [1, 2] 0 (fun _ va vb wr => va = .int .i64 0 /\ vb = .int .i64 0 /\ wr = w)
 case atStart => exact ⟨rfl, rfl, rfl⟩
 case round =>
  obtain ⟨rfl, rfl, rfl⟩ := hrel
  go_wp2_with (go_at_call 206; refine Calls.mono (HI _) ?_; rintro e w1 ⟨rfl, rfl⟩)
  (try simp only [Exit.inBlock, Exit.then]); refine bodyPost_ret (results_none rfl _ _ _) rfl ?_
  exact ⟨rfl, rfl⟩
set_option maxHeartbeats 1000000 in
theorem zoC (w : World) : Calls Tryz.prog 183 #[.slice none 0 0] w fun e w' => e = .returned (.tuple #[]) /\ w' = w := by
 have hl : Calls Tryz.prog 119 #[.int .u64 0] w fun e w' => e = .returned (.int .i64 (Lib.bitLen 0 : Nat)) /\ w' = w := by
  have h := Any.bits_Len (SlLaysF0.n15.bits Tryz.bitsLen) (0 : Int) w (by omega) (by omega)
  exact h
 have HL := Lib.hid hl
 clear hl
 go_enter Tryz.func183, Tryz.ntmps183
 go_wp2_with (first
  | (go_at_call 119; refine Calls.mono HL.out ?_; rintro e w' ⟨rfl, rfl⟩)
  | (go_at_call 194; refine Calls.mono (zpi _ _) ?_; rintro e w1 ⟨rfl, rfl⟩))
 go_end0
 exact ⟨rfl, rfl⟩
theorem zm6 (lo hi : Nat) (v : Value) (S : List (List Int)) (w : World) (h : zbc w lo hi v S) (hn : S.length <= 1048576) :
 Calls Tryz.prog 183 #[v] w fun e w' =>
  e = .returned (.tuple #[]) /\ ∃ S', S'.Perm S /\ UpW S' /\ zbc w' lo hi v S' /\ zl lo hi w w' := by
 rcases h.at_ with ⟨rfl, rfl⟩ | ⟨g, c, rfl, h1, h2, h3, h4, h5, h6⟩
 ·refine (zoC w).mono ?_
  rintro e w' ⟨rfl, rfl⟩
  exact ⟨rfl, [], List.Perm.refl _, List.Pairwise.nil, h, zl.refl _ _ _⟩
 ·refine (zps g 0 c c S.length (zbW S) w h4 (zag S) (by omega)).mono ?_
  rintro e w' ⟨rfl, d', K, hp, hs⟩
  have hp2 : d'.toList.Perm (zbW S).toList := by
   have := hp.2.2
   have e1 : d'.extract 0 S.length = d' := by rw [<- K.size]; simp
   have e2 : (zbW S).extract 0 S.length = zbW S := by rw [<- zag S]; simp
   rwa [e1, e2] at this
  obtain ⟨S', hS, rfl⟩ := znf hp2
  have hl := hS.length_eq
  refine ⟨rfl, S', hS, ?_, ?_, ⟨K.only.os, K.only.tape, K.only.output, K.only.size, fun k hk ho => K.only.block k hk (by omega)⟩⟩
  ·refine List.pairwise_iff_getElem.2 fun i j hi' hj' hij => ?_
   have := hs i j (Nat.zero_le _) hij (by omega)
   rw [zbA S' hj', zbA S' hi'] at this
   simp only [ltInt, decide_eq_false_iff_not] at this
   omega
  ·rw [<- hl]
   exact zbc.of K.row h1 h2 (by omega) h6
open Go.RowKit Go.Sort
section
variable {w : World} {g c : Nat} {d0 d : Array Int}
theorem zoh (w : World) (g q : Nat) (d : Array Int) (os : Array Obj) {cur : Array Value} {t : TypeId} (hg : w.heap[g]? = some (.cells cur t (0, 0))) :
 (Sort.grow (putRow (Value.int .u32) (Sort.ahead w q) g 0 d) os).heap[g]? = some (.cells (putCells (Value.int .u32) 0 d cur) t (0, 0)) := by
 have hlt : g < w.heap.size := Blk.lt (w := w) (t := t) (cs := cur) hg
 simp only [putRow, mapBlock, Sort.grow, Sort.ahead, Array.getElem?_append, Array.size_modify]
 rw [if_pos hlt, Array.getElem?_modify, if_pos rfl, hg]
 rfl
theorem zbx.put (h : zbx w g 0 c d0) (q : Nat) (d : Array Int) (hs : d.size = d0.size) (os : Array Obj) : zbx (Sort.grow (putRow (Value.int .u32) (Sort.ahead w q) g 0 d) os) g 0 c d := by
 obtain ⟨cur, hg, hc, hx⟩ := h
 refine ⟨_, zoh w g q d os hg, by simp [putCells, hc], fun j hj => ?_⟩
 have := hx j (by omega)
 rw [Nat.zero_add] at this ⊢
 simp only [putCells, Array.getElem?_mapIdx, this, Option.map_some]
 rw [if_pos ⟨Nat.zero_le _, by omega⟩, Nat.sub_zero]
theorem zl.put (w : World) (g q : Nat) (d : Array Int) (os : Array Obj) : zl g (g + 1) w (Sort.grow (putRow (Value.int .u32) (Sort.ahead w q) g 0 d) os) := by
 refine ⟨rfl, rfl, rfl, ?_, fun k hk ho => ?_⟩
 ·simp [putRow, mapBlock, Sort.grow, Sort.ahead]
 ·have hne : ¬ g = k := by omega
  simp only [putRow, mapBlock, Sort.grow, Sort.ahead, Array.getElem?_append, Array.size_modify, Array.getElem?_modify, hne, if_false]
  rw [if_pos hk]
theorem zbx.take (h : zbx w g 0 c d) {d2 : Array Int} (hs : d2.size <= d.size) (he : ∀ j, j < d2.size -> d2[j]! = d[j]!) : zbx w g 0 c d2 := by
 obtain ⟨cur, hg, hc, hx⟩ := h
 exact ⟨cur, hg, hc, fun j hj => by rw [hx j (by omega), he j hj]⟩
theorem zbx.holds (h : zbx w g 0 c d) : Holds (Value.int .u32) w g 0 d := fun _ hj => ⟨h.cell hj, h.frozen _⟩
theorem zjS (w : World) : Sort.grow w #[] = w := by simp [Sort.grow]
theorem zl.wide {lo hi g : Nat} {w w' : World} (h : zl g (g + 1) w w') (h1 : lo <= g) (h2 : g < hi) : zl lo hi w w' := ⟨h.os, h.tape, h.output, h.size, fun k hk ho => h.block k hk (by omega)⟩
end
def zeC (S : List (List Int)) : List (List Int) := ((List.range S.length).filter (Lib.keeps (zbW S))).map fun i => S.getD i []
theorem zlC (S : List (List Int)) : (zeC S).map (fun b => ((encB b : Nat) : Int)) = Lib.compactUpTo (zbW S) (zbW S).size := by
 unfold zeC Lib.compactUpTo
 rw [zag, List.map_map]
 refine List.map_congr_left fun i hi => ?_
 have hlt : i < S.length := List.mem_range.1 (List.mem_filter.1 hi).1
 rw [zbA S hlt]
 simp [hlt]
theorem zoq {S : List (List Int)} (h : UpW S) : (zeC S).Pairwise fun a b => encB a < encB b := by
 unfold zeC
 rw [List.pairwise_map]
 have hr : ((List.range S.length).filter (Lib.keeps (zbW S))).Pairwise (· < ·) := List.Pairwise.sublist List.filter_sublist List.pairwise_lt_range
 refine hr.imp_of_mem fun {i j} hi hj hij => ?_
 have hil : i < S.length := List.mem_range.1 (List.mem_filter.1 hi).1
 obtain ⟨hjl, hk⟩ := List.mem_filter.1 hj
 have hjl : j < S.length := List.mem_range.1 hjl
 have hne : (zbW S)[j]! ≠ (zbW S)[j - 1]! := by
  intro e
  rw [Lib.keeps_neg (by omega) e] at hk
  cases hk
 rw [zbA S hjl, zbA S (show j - 1 < S.length by omega)] at hne
 have h1 := List.pairwise_iff_getElem.1 h (j - 1) j (by omega) hjl (by omega)
 have h2 : encB S[i] <= encB (S[j - 1]'(by omega)) := by
  rcases Nat.lt_or_ge i (j - 1) with hlt | hge
  ·exact List.pairwise_iff_getElem.1 h i (j - 1) hil (by omega) hlt
  ·have : i = j - 1 := by omega
   subst this
   exact Nat.le_refl _
 simp only [List.getD_eq_getElem?_getD, List.getElem?_eq_getElem hil, List.getElem?_eq_getElem hjl, Option.getD_some]
 omega
theorem znG {S : List (List Int)} (hok : ∀ b ∈ S, zp b = true) (b : List Int) : b ∈ zeC S <-> b ∈ S := by
 constructor
 ·intro h
  obtain ⟨i, hi, rfl⟩ := List.mem_map.1 h
  have hil : i < S.length := List.mem_range.1 (List.mem_filter.1 hi).1
  simp [hil]
 ·intro h
  obtain ⟨i, hi, rfl⟩ := List.getElem_of_mem h
  clear h
  induction i with
  | zero => exact List.mem_map.2 ⟨0, List.mem_filter.2 ⟨List.mem_range.2 hi, Lib.keeps_lt_one _ 0 (by omega)⟩, by simp [hi]⟩
  | succ i ih =>
   by_cases e : (zbW S)[i + 1]! = (zbW S)[i + 1 - 1]!
   ·rw [Nat.add_sub_cancel, zbA S hi, zbA S (show i < S.length by omega)] at e
    have : S[i + 1] = S[i] := zfB (hok _ (List.getElem_mem hi)) (hok _ (List.getElem_mem (show i < S.length by omega))) (by omega)
    rw [this]
    exact ih (by omega)
   ·exact List.mem_map.2 ⟨i + 1, List.mem_filter.2 ⟨List.mem_range.2 hi, Lib.keeps_pos e⟩, by simp [hi]⟩
theorem zkC (S : List (List Int)) : (zeC S).length <= S.length := by
 unfold zeC
 rw [List.length_map]
 exact Nat.le_trans (List.length_filter_le _ _) (by simp)
set_option maxHeartbeats 1000000 in
theorem zmA (w : World) : Calls Tryz.prog 184 #[.slice none 0 0] w fun e w' => e = .returned (.slice none 0 0) /\ w' = w := by
 go_enter Tryz.func184, Tryz.ntmps184
 go_wp2_with fail
 go_ret
 exact ⟨rfl, rfl⟩
theorem zkA (lo hi : Nat) (v : Value) (S : List (List Int)) (w : World) (h : zbc w lo hi v S) (hok : ∀ b ∈ S, zp b = true) (hup : UpW S) (hn : S.length <= 1048576) :
 Calls Tryz.prog 184 #[v] w fun e w' =>
  ∃ A c T, e = .returned (.slice A T.length c) /\ zbc w' lo hi (.slice A T.length c) T /\ zl lo hi w w' /\ (T.Pairwise fun a b => encB a < encB b) /\ (∀ b, b ∈ T <-> b ∈ S) /\ T.length <= S.length := by
 rcases h.at_ with ⟨rfl, rfl⟩ | ⟨g, c, rfl, h1, h2, h3, h4, h5, h6⟩
 ·refine (zmA w).mono ?_
  rintro e w' ⟨rfl, rfl⟩
  exact ⟨none, 0, [], rfl, h, zl.refl _ _ _, List.Pairwise.nil, fun b => Iff.rfl, Nat.le_refl _⟩
 ·have hcon := AnyE.slices_Compact Tryz.compactB (Value.int .u32) (fun _ => rfl) (EqlAt.intD _ _ .u32) (NeqAt.intD _ _ .u32) 0 Tryz.zeroValue102 g 0 c (zbW S) w h4.holds (by rw [zag]; omega) (by rw [zag]; omega)
  rw [zag] at hcon
  refine Calls.mono hcon ?_
  rintro e w' ⟨rfl, q, rfl⟩
  have hw := zlC S
  rw [zag] at hw
  have hl : (Lib.compactUpTo (zbW S) S.length).length = (zeC S).length := by rw [<- hw, List.length_map]
  have hcl := zkC S
  rw [hl, <- hw]
  have hu := h4.put q ((zeC S).map (fun b => ((encB b : Nat) : Int)) ++ List.replicate (S.length - (zeC S).length) 0).toArray (by simp [zag]; omega) #[]
  have ho := zl.put w g q ((zeC S).map (fun b => ((encB b : Nat) : Int)) ++ List.replicate (S.length - (zeC S).length) 0).toArray #[]
  rw [zjS] at hu ho
  refine ⟨_, c, zeC S, rfl, zbc.of (hu.take (by simp [zag]) fun j hj => ?_) h1 h2 (by omega) h6, ho.wide h1 h2, zoq hup, znG hok, hcl⟩
  rw [zag] at hj
  rw [zbA _ hj, getElem!_pos _ j (by simp; omega)]
  simp [hj]
open Go.RowKit Go.Sort
theorem RdW.get {w : World} {B c n : Nat} {A : Option Addr} {S : List (List Int)} (h : RdW w B (.slice A n c) S) {k : Nat} (hk : k < S.length) : ∃ b o, A = some ⟨b, o, none⟩ /\ b < B /\ w.cell? ⟨b, o + k, none⟩ = some (.int .u32 ((encB S[k] : Nat) : Int)) := by
 obtain ⟨A', c', e, hc, h⟩ := h
 injection e with e1 e2 e3
 subst e1
 obtain ⟨b, o, rfl, hb, hx⟩ := h (by omega)
 exact ⟨b, o, rfl, hb, hx k hk⟩
theorem zi8 {x y : Int} {b : Bool} (h : ltInt x y = b) (w : World) :
 Calls Tryz.prog 196 #[.int .u32 x, .int .u32 y] w fun e w' => e = .returned (.bool b) /\ w' = w := h ▸ zS x y w
def zlM (key : List Int -> Nat) (T : List (List Int)) (m i : Nat) : Prop := ∀ k (h : k < T.length), k < i -> key T[k] < m
def zlN (key : List Int -> Nat) (T : List (List Int)) (m j : Nat) : Prop := ∀ k (h : k < T.length), j <= k -> m <= key T[k]
theorem zjJ {key : List Int -> Nat} {T : List (List Int)} {m h : Nat} (hup : T.Pairwise fun a b => key a <= key b) (hh : h < T.length) (e : key T[h] < m) : zlM key T m (h + 1) := fun k hk hlt => by
 by_cases e2 : k = h
 ·subst e2
  exact e
 ·have := List.pairwise_iff_getElem.1 hup k h hk hh (by omega)
  omega
theorem zjU {key : List Int -> Nat} {T : List (List Int)} {m h : Nat} (hup : T.Pairwise fun a b => key a <= key b) (hh : h < T.length) (e : ¬ key T[h] < m) : zlN key T m h := fun k hk hle => by
 by_cases e2 : k = h
 ·subst e2
  omega
 ·have := List.pairwise_iff_getElem.1 hup h k hh hk (by omega)
  omega
set_option maxHeartbeats 2000000 in
theorem zkT (v : Value) (T : List (List Int)) (m B : Nat) (R : Bool) (hR : R = T.any fun b => encB b == m) (w : World) (h : RdW w B v T) (hup : T.Pairwise fun a b => encB a < encB b) (hn : T.length <= 1048576) :
 Calls Tryz.prog 187 #[v, .int .u32 (m : Nat)] w fun e w' =>
  (∃ i : Int, e = .returned (.tuple #[.int .i64 i, .bool R])) /\ w' = w := by
 have hup2 : T.Pairwise fun a b => encB a <= encB b := hup.imp fun h => Nat.le_of_lt h
 have HU := Lib.hid hup2
 have HUS := Lib.hid hup
 have HR := Lib.hid hR
 have H := Lib.hid h
 obtain ⟨A, c, rfl, hc, _⟩ := h
 clear hR hup hup2
 go_enter Tryz.func187, Tryz.ntmps187
 go_wp2_with fail
 go_loopg [7, 8] T.length (fun q vi vj wr => ∃ i j : Nat, vi = .int .i64 i /\ vj = .int .i64 j /\ i <= j /\ j <= T.length /\ j - i <= q /\ wr = w /\ Hid (zlM encB T m i /\ zlN encB T m j))
 case atStart => exact ⟨0, T.length, rfl, rfl, Nat.zero_le _, Nat.le_refl _, Nat.sub_le _ _, rfl, fun k _ hk => absurd hk (by omega), fun k hk hle => absurd hk (by omega)⟩
 case round =>
  obtain ⟨i, j, rfl, rfl, hij, hj, hq, rfl, HI⟩ := hrel
  by_cases hlt : i < j
  ·obtain ⟨p, hp⟩ : ∃ p, p = (i + j) / 2 := ⟨_, rfl⟩
   have hp1 : i <= p := by omega
   have hp2 : p < j := by omega
   have hpl : p < T.length := by omega
   have HM := Lib.hid (show ((i : Int) + (j : Int)) / 2 = (p : Int) by omega)
   obtain ⟨b, o, rfl, hbB, k1⟩ := H.out.get hpl
   obtain ⟨K, hK⟩ : ∃ K, K = encB T[p] := ⟨_, rfl⟩
   rw [<- hK] at k1
   have HK := Lib.hid hK
   clear hK hp
   go_upto_region 5 with fail
   rw [HM.out]
   by_cases hl : K < m
   ·have hl2 : ltInt (K : Int) (m : Int) = true := decide_eq_true (by omega)
    have HN := Lib.hid (zjJ HU.out hpl (by rw [<- HK.out]; exact hl))
    have HL := Lib.hid hl2
    clear hl2 hl
    go_wp2_with (go_at_call 196; refine (zi8 HL.out _).mono ?_; rintro e w' ⟨rfl, rfl⟩)
    go_roundg (j - (p + 1))
    case measure => omega
    case rel => exact ⟨p + 1, j, by go_num, rfl, by omega, hj, Nat.le_refl _, rfl, HN.out, HI.out.2⟩
   ·have hl2 : ltInt (K : Int) (m : Int) = false := decide_eq_false (by omega)
    have HN := Lib.hid (zjU HU.out hpl (by rw [<- HK.out]; exact hl))
    have HL := Lib.hid hl2
    clear hl2 hl
    go_wp2_with (go_at_call 196; refine (zi8 HL.out _).mono ?_; rintro e w' ⟨rfl, rfl⟩)
    go_roundg (p - i)
    case measure => omega
    case rel => exact ⟨i, p, rfl, rfl, hp1, by omega, Nat.le_refl _, rfl, HI.out.1, HN.out⟩
  ·obtain rfl : i = j := by omega
   have HNN : ∀ W (x : Int), Calls Tryz.prog 197 #[.int .u32 x] W fun e w' => e = .returned (.bool false) /\ w' = W := by
    intro W x
    go_enter Tryz.func197, Tryz.ntmps197
    go_wp2
    go_ret
    exact ⟨rfl, rfl⟩
   by_cases hpl : i < T.length
   ·obtain ⟨b, o, rfl, hbB, k1⟩ := H.out.get hpl
    obtain ⟨K, hK⟩ : ∃ K, K = encB T[i] := ⟨_, rfl⟩
    rw [<- hK] at k1
    have hRR : R = decide (K = m) := by
     rw [HR.out]
     by_cases e : K = m
     ·rw [decide_eq_true e]
      exact List.any_eq_true.2 ⟨T[i], List.getElem_mem hpl, by simp [<- hK, e]⟩
     ·rw [decide_eq_false e]
      refine List.any_eq_false.2 fun x hx => ?_
      obtain ⟨k, hk, rfl⟩ := List.getElem_of_mem hx
      have h1 := HI.out.1 k hk
      have h2 := HI.out.2 i hpl (Nat.le_refl _)
      have h3 : i < k -> m < encB T[k] := fun hik => by
       have := List.pairwise_iff_getElem.1 HUS.out i k hpl hk hik
       omega
      rcases Nat.lt_trichotomy k i with h | h | h
      ·have := h1 h
       simp
       omega
      ·subst h
       simpa [<- hK] using e
      ·have := h3 h
       simp
       omega
    have HRR := Lib.hid hRR
    clear hRR hK
    by_cases e : K = m
    ·subst e
     go_wp2_with (go_at_call 197; refine (HNN _ _).mono ?_; rintro e w' ⟨rfl, rfl⟩)
     go_ret2
     rw [HRR.out]
     exact ⟨⟨(i : Int), by simp⟩, rfl⟩
    ·have hne : ((K : Int) == (m : Int)) = false := by simp; omega
     go_wp2_with (go_at_call 197; refine (HNN _ _).mono ?_; rintro e w' ⟨rfl, rfl⟩)
     go_ret2
     rw [HRR.out]
     exact ⟨⟨(i : Int), by simp [e]⟩, rfl⟩
   ·have hRR : R = false := by
     rw [HR.out]
     refine List.any_eq_false.2 fun x hx => ?_
     obtain ⟨k, hk, rfl⟩ := List.getElem_of_mem hx
     have h1 := HI.out.1 k hk (by omega)
     simp
     omega
    have HRR := Lib.hid hRR
    clear hRR
    go_wp2_with (go_at_call 197; refine (HNN _ _).mono ?_; rintro e w' ⟨rfl, rfl⟩)
    go_ret2
    rw [HRR.out]
    exact ⟨⟨_, rfl⟩, rfl⟩
open Go.RowKit Go.Sort Go.Shelf
def zc6 (x y : Nat) : Int := if x < y then -1 else if y < x then 1 else 0
theorem zie (x y : Nat) (w : World) :
 Calls Tryz.prog 179 #[.int .u32 (x : Nat), .int .u32 (y : Nat)] w fun e w' => e = .returned (.int .i64 (zc6 x y)) /\ w' = w := by
 by_cases h1 : x < y
 ·have hE : zc6 x y = -1 := if_pos h1
  have h1z : (x : Int) < (y : Int) := by omega
  rw [hE]
  clear h1 hE
  go_enter Tryz.func179, Tryz.ntmps179
  go_wp2
  go_ret
  exact ⟨rfl, rfl⟩
 ·by_cases h2 : y < x
  ·have hE : zc6 x y = 1 := by rw [zc6, if_neg h1, if_pos h2]
   have h1z : ¬ (x : Int) < (y : Int) := by omega
   have h2z : (y : Int) < (x : Int) := by omega
   rw [hE]
   clear h1 h2 hE
   go_enter Tryz.func179, Tryz.ntmps179
   go_wp2
   go_ret
   exact ⟨rfl, rfl⟩
  ·obtain rfl : x = y := by omega
   have hE : zc6 x x = 0 := by rw [zc6, if_neg h1, if_neg h1]
   rw [hE]
   clear h1 h2 hE
   go_enter Tryz.func179, Tryz.ntmps179
   go_wp2
   go_ret
   exact ⟨rfl, rfl⟩
def keyV (V : Nat) (b : List Int) : Nat := encB (zbj V b)
set_option maxHeartbeats 400000 in
theorem zg1 (sb V : Nat) (a b : List Int) (ha : zp a = true) (hb : zp b = true) (w : World) (hc : w.cell? ⟨sb, 0, none⟩ = some (.int .u32 ((maskW V : Nat) : Int))) :
 Calls Tryz.prog 178 #[wd a, wd b, .pointer (some ⟨sb, 0, none⟩)] w fun e w' => e = .returned (.int .i64 (zc6 (keyV V a) (keyV V b))) /\ w' = w := by
 have h1 : bits .and .u32 ((encB a : Nat) : Int) ((maskW V : Nat) : Int) = ((keyV V a : Nat) : Int) := by rw [zc7 (zcP ha) (zcJ V), zeB ha]; rfl
 have h2 : bits .and .u32 ((encB b : Nat) : Int) ((maskW V : Nat) : Int) = ((keyV V b : Nat) : Int) := by rw [zc7 (zcP hb) (zcJ V), zeB hb]; rfl
 unfold wd
 go_enter Tryz.func178, Tryz.ntmps178
 go_wp2_with (go_at_call 179; refine (zie _ _ _).mono ?_; rintro e w' ⟨rfl, rfl⟩)
 go_ret
 exact ⟨rfl, rfl⟩
abbrev Bnd : Type := { b : List Int // zp b = true }
instance : Inhabited Bnd := ⟨⟨za8, zcl⟩⟩
def zdV (x : Bnd) : Value := .int .u32 ((encB x.1 : Nat) : Int)
def cfV (V : Nat) (x y : Bnd) : Int := zc6 (keyV V x.1) (keyV V y.1)
theorem ltV (V : Nat) (x y : Bnd) : ltOf (cfV V) x y = decide (keyV V x.1 < keyV V y.1) := by
 unfold ltOf cfV zc6
 by_cases h : keyV V x.1 < keyV V y.1
 ·simp [h]
 ·rw [if_neg h]
  split <;> simp [h]
theorem zpE (V : Nat) : SWO (ltOf (cfV V)) where
 irrefl x := by rw [ltV]; simp
 trans x y z h1 h2 := by
  rw [ltV] at *
  simp only [decide_eq_true_eq] at *
  omega
 ntrans x y z h1 h2 := by
  rw [ltV] at *
  simp only [decide_eq_false_iff_not] at *
  omega
theorem zpp : ∀ S : List (List Int), (∀ b ∈ S, zp b = true) -> ∃ D : List Bnd, D.map (·.1) = S
 | [], _ => ⟨[], rfl⟩
 | b :: S, h => by
  obtain ⟨D, hD⟩ := zpp S fun x hx => h x (List.mem_cons_of_mem _ hx)
  exact ⟨⟨b, h b List.mem_cons_self⟩ :: D, by rw [List.map_cons, hD]⟩
theorem zkf (w : World) (g : Nat) (d : Array Bnd) : putRow zdV w g 0 d = putRow (Value.int .u32) w g 0 (zbW (d.toList.map (·.1))) := by
 have hs : (zbW (d.toList.map (·.1))).size = d.size := by rw [zag]; simp
 unfold putRow
 congr 1
 funext c
 unfold putCells
 apply Array.ext (by simp)
 intro i h1 h2
 simp only [Array.getElem_mapIdx, hs]
 by_cases hi : 0 <= i /\ i < 0 + d.size
 ·rw [if_pos hi, if_pos hi, Nat.sub_zero, zbA _ (by simp; omega), getElem!_pos d i (by omega)]
  simp [zdV]
 ·rw [if_neg hi, if_neg hi]
set_option maxHeartbeats 1000000 in
theorem znT (sb : Nat) (w : World) : Calls Tryz.prog 180 #[.slice none 0 0, .func (.func 178) #[] #[.pointer (some ⟨sb, 0, none⟩)]] w fun e w' => e = .returned (.tuple #[]) /\ w' = w := by
 have HI : ∀ w, Calls Tryz.prog 198 #[.slice none 0 0, .int .i64 0, .int .i64 0, .func (.func 178) #[] #[.pointer (some ⟨sb, 0, none⟩)]] w fun e w' => e = .returned (.tuple #[]) /\ w' = w := by
  intro w
  go_enter Tryz.func198, Tryz.ntmps198
  go_wp2_with fail
  go_loopg [8] 0 (fun _ vi wr => vi = .int .i64 1 /\ wr = w)
  case atStart => exact ⟨rfl, rfl⟩
  case round =>
   obtain ⟨rfl, rfl⟩ := hrel
   go_wp2_with fail
   go_end0
   exact ⟨rfl, rfl⟩
 have HP : ∀ (l : Nat) w, Calls Tryz.prog 192 #[.slice none 0 0, .int .i64 0, .int .i64 0, .int .i64 l, .func (.func 178) #[] #[.pointer (some ⟨sb, 0, none⟩)]] w fun e w' => e = .returned (.tuple #[]) /\ w' = w := by
  intro l w
  go_enter Tryz.func192, Tryz.ntmps192
  go_wp2_with fail
  go_loopg [1, 2] 0 (fun _ va vb wr => va = .int .i64 0 /\ vb = .int .i64 0 /\ wr = w)
  case atStart => exact ⟨rfl, rfl, rfl⟩
  case round =>
   obtain ⟨rfl, rfl, rfl⟩ := hrel
   go_wp2_with (go_at_call 198; refine Calls.mono (HI _) ?_; rintro e w1 ⟨rfl, rfl⟩)
   (try simp only [Exit.inBlock, Exit.then]); refine bodyPost_ret (results_none rfl _ _ _) rfl ?_
   exact ⟨rfl, rfl⟩
 have hl : Calls Tryz.prog 119 #[.int .u64 0] w fun e w' => e = .returned (.int .i64 (Lib.bitLen 0 : Nat)) /\ w' = w := Any.bits_Len (SlLaysF0.n15.bits Tryz.bitsLen) (0 : Int) w (by omega) (by omega)
 have HL := Lib.hid hl
 clear hl
 go_enter Tryz.func180, Tryz.ntmps180
 go_wp2_with (first
  | (go_at_call 119; refine Calls.mono HL.out ?_; rintro e w' ⟨rfl, rfl⟩)
  | (go_at_call 192; refine Calls.mono (HP _ _) ?_; rintro e w1 ⟨rfl, rfl⟩))
 go_end0
 exact ⟨rfl, rfl⟩
theorem zkS (lo hi sb V : Nat) (v : Value) (R : List (List Int)) (w : World) (h : zbc w lo hi v R) (hok : ∀ b ∈ R, zp b = true) (hn : R.length <= 1048576) (hsb : sb < lo \/ hi <= sb) (hc : w.cell? ⟨sb, 0, none⟩ = some (.int .u32 ((maskW V : Nat) : Int))) :
 Calls Tryz.prog 180 #[v, .func (.func 178) #[] #[.pointer (some ⟨sb, 0, none⟩)]] w fun e w' =>
  e = .returned (.tuple #[]) /\ ∃ R', R'.Perm R /\ (R'.Pairwise fun a b => keyV V a <= keyV V b) /\ zbc w' lo hi v R' /\ zl lo hi w w' := by
 rcases h.at_ with ⟨rfl, rfl⟩ | ⟨g, c, rfl, h1, h2, h3, h4, h5, h6⟩
 ·refine (znT sb w).mono ?_
  rintro e w' ⟨rfl, rfl⟩
  exact ⟨rfl, [], List.Perm.refl _, List.Pairwise.nil, h, zl.refl _ _ _⟩
 ·obtain ⟨D, rfl⟩ := zpp R hok
  have hsz : (D.map (·.1)).length = D.toArray.size := by simp
  have hget : ∀ j, j < D.toArray.size -> (zbW (D.map (·.1)))[j]! = ((encB D.toArray[j]!.1 : Nat) : Int) := fun j hj => by
   have hjl : j < D.length := by simpa using hj
   rw [zbA _ (by simpa using hjl), getElem!_pos D.toArray j hj]
   simp
  have hH : Holds zdV w g 0 D.toArray := fun j hj => by
   refine ⟨?_, h4.frozen _⟩
   rw [h4.cell (by rw [zag, hsz]; exact hj), hget j hj]
   rfl
  have eg : ∀ args w, (callFunc 178 args).run Tryz.prog w = .ok (.enter 178 args) w := enters_of Tryz.func178 (by kernel_rfl) rfl
  have hcmp : CmpReads Tryz.prog 178 #[.pointer (some ⟨sb, 0, none⟩)] zdV (cfV V) g 0 D.toArray.size w := fun m os dk _ x y => by
   refine (zg1 sb V x.1 y.1 x.2 y.2 _ ?_).mono fun e w' ⟨he, hw⟩ => ⟨he, 0, hw⟩
   have hlt := World.block_lt_of_cell? _ _ hc
   unfold sortWorld
   rw [cell?_grow _ _ _ (by show sb < (putRow _ _ _ _ _).heap.size; rw [size_putRow]; exact hlt), cell?_putRow_other _ _ g 0 _ _ (Or.inl (by show sb ≠ g; omega))]
   exact hc
  have hcon := Any.slices_SortFunc Tryz.sortB zdV (fun _ => rfl) (cfV V) (zpE V) 178 #[.pointer (some ⟨sb, 0, none⟩)] g 0 c D.toArray w eg hcmp.lays hH h3 (by simp at hn ⊢; omega)
  rw [hsz]
  refine Calls.mono hcon ?_
  rintro e w' ⟨rfl, d', n, os, hp, hs, rfl⟩
  have hdl : d'.size = D.length := by rw [hp.1]; simp
  have hpl : d'.toList.Perm D := by
   have := hp.2.2
   have e1 : d'.extract 0 D.toArray.size = d' := by rw [<- hp.1]; simp
   have e2 : D.toArray.extract 0 D.toArray.size = D.toArray := by simp
   rw [e1, e2] at this
   simpa using this
  have hw : sortWorld zdV w g 0 n d' os = Sort.grow (putRow (Value.int .u32) (Sort.ahead w n) g 0 (zbW (d'.toList.map (·.1)))) os := by unfold sortWorld; rw [zkf]
  have hR : (d'.toList.map (·.1)).length = D.toArray.size := by simp [hdl]
  have hu := h4.put n (zbW (d'.toList.map (·.1))) (by rw [zag, zag, hR, hsz]) os
  have ho := zl.put w g n (zbW (d'.toList.map (·.1))) os
  rw [<- hw] at hu ho
  refine ⟨rfl, d'.toList.map (·.1), hpl.map _, ?_, ?_, ho.wide h1 h2⟩
  ·rw [List.pairwise_map]
   refine List.pairwise_iff_getElem.2 fun i j hi hj hij => ?_
   have hi' : i < d'.size := by simpa using hi
   have hj' : j < d'.size := by simpa using hj
   have := hs i j (Nat.zero_le _) hij (by rw [<- hp.1]; exact hj')
   rw [ltV, getElem!_pos d' i hi', getElem!_pos d' j hj'] at this
   simp only [decide_eq_false_iff_not] at this
   simp only [Array.getElem_toList]
   omega
  ·rw [<- hR]
   exact zbc.of hu h1 h2 (by rw [hR, <- hsz]; exact h5) h6
end Go.Proofs.YtofkcmihcgmmpaaGreatDoor
