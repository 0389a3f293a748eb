/-
  The law FnMatch: for every input the call returns true, and each argument reads behind it as it read before. Conditions: none but the row's own.
-/
import Derived.Test.YtlehcghdhfeahaaRows
import Derived.Test.YtlehcghdhfeahaaMata1
import Derived.Test.YtlehcghdhfeahaaMata3
import Derived.Test.YtlehcghdhfeahaaMata4
/-
  The walk of the law FnMatch.
-/
namespace Go.Proofs.Ytlehcghdhfeahaa
open Go.RowKit

theorem factOrder_same (f : LFact) : factOrder f f = 0 := by
  have h : ∀ l : List Int, cmpL l l = 0 := fun l => by
    induction l with
    | nil => rfl
    | cons x xs ih => simp [cmpL, ih]
  simp [factOrder, h]

set_option maxHeartbeats 4000000 in
set_option maxRecDepth 100000 in
theorem lawPlainMatch_any (v : Value) (code : List Nat) (w : World) (hr : RdBytes w w.heap.size v code) (_ : code.length ≤ maxLen) (hby : ∀ b ∈ code, b < 256) :
    Calls Try.prog 4 #[v] w fun e w' => e = .returned (.bool true) ∧ Below w.heap.size w w' := by
  have HV := Lib.hid hr
  obtain ⟨Av, cv, rfl, hcv, _⟩ := hr
  go_enter Try.func4, Try.ntmps4
  by_cases hbig : 1048576 < code.length
  · have hd : decide ((1048576 : Int) < code.length) = true := by simp; omega
    go_wp2_with (fail)
    go_ret
    exact ⟨rfl, Below.refl _ _⟩
  have hd : decide ((1048576 : Int) < code.length) = false := by simp; omega
  have hbn : code.length ≤ 1073741824 := by omega
  go_wp2_with (fail)
  refine (drawMatch_any _ code w HV.out hby hbn).mono ?_
  rintro e w1 ⟨a, f, ys, A, c, A2, c2, A3, c3, rfl, hal, hfl, hyl, ra, rf, ry, B1⟩
  have HA := Lib.hid ra
  have HF := Lib.hid rf
  have HY := Lib.hid ry
  clear ra rf ry
  go_upto_region 4 with fail
  obtain ⟨w2, hw2⟩ : ∃ w2, w2 = (w1.alloc (Obj.cells #[Value.int IntKind.i64 a.1, Value.slice A a.2.length c] 25)).alloc (Obj.cells #[Value.int IntKind.i64 f.1, Value.slice A2 f.2.length c2] 35) := ⟨_, rfl⟩
  have b2 : Below w1.heap.size w1 w2 := by rw [hw2]; exact below2 _ _ _
  have BA : Blk w2 w1.heap.size 25 #[.int .i64 a.1, .slice A a.2.length c] := by rw [hw2]; exact (Blk.new _ _ _).alloc _
  have BF : Blk w2 (w1.heap.size + 1) 35 #[.int .i64 f.1, .slice A2 f.2.length c2] := by
    rw [hw2]
    have := Blk.new (w1.alloc (Obj.cells #[Value.int IntKind.i64 a.1, Value.slice A a.2.length c] 25)) 35 #[.int .i64 f.1, .slice A2 f.2.length c2]
    simpa using this
  rw [← hw2]
  clear hw2
  have B2 := bthen B1 b2
  have HA2 := Lib.hid (HA.out.on b2)
  have HF2 := Lib.hid (HF.out.on b2)
  have HY2 := Lib.hid (HY.out.on b2)
  obtain ⟨ga, hga⟩ : ∃ ga, ga = w1.heap.size := ⟨_, rfl⟩
  rw [← hga] at BA BF ⊢
  have HBA := Lib.hid BA
  have HBF := Lib.hid BF
  have hgl := BF.lt
  clear b2 BA BF hga HA HF HY
  have q0 : w2.cell? ⟨ga, 0, none⟩ = some (.int .i64 a.1) := HBA.out.cell 0
  have q1 : w2.cell? ⟨ga, 1, none⟩ = some (.slice A a.2.length c) := HBA.out.cell 1
  have q2 : w2.cell? ⟨ga + 1, 0, none⟩ = some (.int .i64 f.1) := HBF.out.cell 0
  have q3 : w2.cell? ⟨ga + 1, 1, none⟩ = some (.slice A2 f.2.length c2) := HBF.out.cell 1
  obtain ⟨R, hR⟩ : ∃ R, R = matchR a f ys := ⟨_, rfl⟩
  obtain ⟨ok, hok⟩ : ∃ ok, ok = matchB a f ys := ⟨_, rfl⟩
  have HR := Lib.hid hR
  have HOK := Lib.hid hok
  have hRl : R.length ≤ 4 := by rw [hR]; exact matchR_length _ _ _
  have hn0 : (ok != ok) = false := by simp
  clear hR hok
  go_wp2_with (fail)
  refine (implMatch_any _ _ _ a f ys w2 ⟨_, rfl, HA2.out⟩ ⟨_, rfl, HF2.out⟩ HY2.out (by omega) (by omega) (by omega)).mono ?_
  rw [← HR.out, ← HOK.out]
  rintro e w3 ⟨Q0, d0, rfl, o3, b3⟩
  have HA3 := Lib.hid (HA2.out.on b3)
  have HF3 := Lib.hid (HF2.out.on b3)
  have HY3 := Lib.hid (HY2.out.on b3)
  have HQ3 := Lib.hid o3.rd
  have HBA3 := Lib.hid (HBA.out.below b3 (by omega))
  have HBF3 := Lib.hid (HBF.out.below b3 hgl)
  have hs3 := b3.size
  have B3 := bthen B2 b3
  clear q0 q1 q2 q3 o3 b3 HA2 HF2 HY2
  have q0 : w3.cell? ⟨ga, 0, none⟩ = some (.int .i64 a.1) := HBA3.out.cell 0
  have q1 : w3.cell? ⟨ga, 1, none⟩ = some (.slice A a.2.length c) := HBA3.out.cell 1
  have q2 : w3.cell? ⟨ga + 1, 0, none⟩ = some (.int .i64 f.1) := HBF3.out.cell 0
  have q3 : w3.cell? ⟨ga + 1, 1, none⟩ = some (.slice A2 f.2.length c2) := HBF3.out.cell 1
  go_wp2_with (fail)
  refine (specMatch_any _ _ _ a f ys w3 ⟨_, rfl, HA3.out⟩ ⟨_, rfl, HF3.out⟩ HY3.out (by omega) (by omega) (by omega)).mono ?_
  rw [← HR.out, ← HOK.out]
  rintro e w4 ⟨Q1, d1, rfl, o4, b4⟩
  have HA4 := Lib.hid (HA3.out.on b4)
  have HF4 := Lib.hid (HF3.out.on b4)
  have HY4 := Lib.hid (HY3.out.on b4)
  have HQ4 := Lib.hid (HQ3.out.on b4)
  have HS4 := Lib.hid o4.rd
  have hs4 := b4.size
  have HBA4 := Lib.hid (HBA3.out.below b4 (by omega))
  have HBF4 := Lib.hid (HBF3.out.below b4 (by omega))
  have B4 := bthen B3 b4
  clear q0 q1 q2 q3 o4 b4 HA3 HF3 HY3 HQ3
  go_wp2_with (fail)
  refine (drawBound_any _ code w4 (HV.out.onM B4) hby hbn).mono ?_
  rintro e w5 ⟨P0, e0, xs, P1, e1, zs, rfl, hxl, hzl, rx, rz, b5⟩
  have HA5 := Lib.hid (HA4.out.on b5)
  have HF5 := Lib.hid (HF4.out.on b5)
  have HY5 := Lib.hid (HY4.out.on b5)
  have HQ5 := Lib.hid (HQ4.out.on b5)
  have HS5 := Lib.hid (HS4.out.on b5)
  have HX5 := Lib.hid rx
  have HZ5 := Lib.hid rz
  have hs5 := b5.size
  have HBA5 := Lib.hid (HBA4.out.below b5 (by omega))
  have HBF5 := Lib.hid (HBF4.out.below b5 (by omega))
  have B5 := Lib.hid (bthen B4 b5)
  obtain ⟨T, hT⟩ : ∃ T, T = boundL xs zs := ⟨_, rfl⟩
  have hTl : T.length ≤ 8 := by rw [hT]; exact Nat.le_trans (boundL_length _ _) hxl
  have HT := Lib.hid hT
  clear rx rz b5 HA4 HF4 HY4 HQ4 HS4 HBA4 HBF4 B4 hT
  go_upto_region 9 with (first
    | (go_at_call 16; with_reducible refine (wrInts_any (.slice Q0 R.length d0) (.slice Q1 R.length d1) R R w5 HQ5.out HS5.out (by omega) (by omega)).mono ?_
       rw [show decide (R = R) = true by simp]
       rintro e w6 ⟨rfl, b6⟩
       have H6 := Lib.hid b6
       clear b6)
    | (go_at_call 17; refine (implBound_any _ _ xs zs w6 (HX5.out.on H6.out) (HZ5.out.on H6.out) (by omega) (by omega)).mono ?_
       rw [← HT.out]
       rintro e w7 ⟨P2, e2, rfl, o7, b7⟩
       have H7 := Lib.hid (And.intro o7.rd (bthen H6.out b7))
       clear o7 b7)
    | (go_at_call 18; refine (specBound_any _ _ xs zs w7 (HX5.out.on H7.out.2) (HZ5.out.on H7.out.2) (by omega) (by omega)).mono ?_
       rw [← HT.out]
       rintro e w8 ⟨P3, e3, rfl, o8, b8⟩
       have H8 := Lib.hid (And.intro (H7.out.1.on b8) (And.intro o8.rd (bthen H7.out.2 b8)))
       clear o8 b8)
    | (go_at_call 16; with_reducible refine (wrInts_any (.slice P2 T.length e2) (.slice P3 T.length e3) T T w8 H8.out.1 H8.out.2.1 (by omega) (by omega)).mono ?_
       rw [show decide (T = T) = true by simp]
       rintro e w9 ⟨rfl, b9⟩
       have H9 := Lib.hid (bthen H8.out.2.2 b9)
       clear b9))
  have HA9 := Lib.hid (HA5.out.on H9.out)
  have HF9 := Lib.hid (HF5.out.on H9.out)
  have HY9 := Lib.hid (HY5.out.on H9.out)
  have HQ9 := Lib.hid (HQ5.out.on H9.out)
  have hs9 := H9.out.size
  have HBA9 := Lib.hid (HBA5.out.below H9.out (by omega))
  have HBF9 := Lib.hid (HBF5.out.below H9.out (by omega))
  have B9 := Lib.hid (bthen B5.out H9.out)
  clear HA5 HF5 HY5 HQ5 HS5 HX5 HZ5 H6 H7 H8 HBA5 HBF5
  cases ok
  · have HE := Lib.hid (show R.length = 0 by rw [HR.out, match_none HOK.out.symm]; rfl)
    have hz : ((R.length : Int) == 0) = true := by rw [HE.out]; rfl
    go_wp2_with (fail)
    go_ret
    exact ⟨rfl, B9.out⟩
  · obtain ⟨m1, m2, m3, m4, m5, m6, m7⟩ := match_rules HOK.out.symm
    rw [← HR.out] at m2 m3 m4 m5 m6 m7
    have HM := Lib.hid (And.intro m1 (And.intro m2 m3))
    have HH := Lib.hid (And.intro m4 m5)
    have HG := Lib.hid (And.intro m6 m7)
    have hRy : R.length = ys.length := by omega
    have HRY := Lib.hid hRy
    have hR1 : R.length ≤ ys.length := by omega
    have hR2 : ys.length ≤ R.length := by omega
    clear m1 m2 m3 m4 m5 m6 m7 hRy
    go_wp2_with (fail)
    go_loopw [72] (fun i wr => ∃ k : Nat, k ≤ ys.length ∧ i = .int .i64 k ∧ wr = w9) (fun i _ => ys.length - (intOf i).toNat)
    case atStart => exact ⟨0, Nat.zero_le _, rfl, by first | rfl | trivial⟩
    case round =>
      obtain ⟨k, hk, rfl, rfl⟩ := hrel
      by_cases hlt : k < ys.length
      · have hltR : k < R.length := by omega
        obtain ⟨bb, oo, rfl, hbb, k0⟩ := HY9.out.at_ hlt
        obtain ⟨br, or, rfl, hbr, k1⟩ := HQ9.out.at_ hltR
        have HEQ := Lib.hid (show 0 ≤ ys[k] → R[k] = ys[k] from fun h0 => by
          have h1 := HM.out.2.2 k (by simpa [hlt] using h0)
          simpa [hlt, hltR] using h1)
        by_cases h0 : 0 ≤ ys[k]
        · have hb0 : decide (0 ≤ ys[k]) = true := by simpa using h0
          have hne : (R[k] != ys[k]) = false := by rw [HEQ.out h0]; simp
          go_wp2_with (fail)
          go_roundw
          case rel => exact ⟨k + 1, by omega, by go_num, by first | rfl | trivial⟩
          case measure => simp [intOf]; omega
        · have hb0 : decide (0 ≤ ys[k]) = false := by simpa using h0
          go_wp2_with (fail)
          go_roundw
          case rel => exact ⟨k + 1, by omega, by go_num, by first | rfl | trivial⟩
          case measure => simp [intOf]; omega
      · have q0 : wr.cell? ⟨ga, 0, none⟩ = some (.int .i64 a.1) := HBA9.out.cell 0
        have q1 : wr.cell? ⟨ga, 1, none⟩ = some (.slice A a.2.length c) := HBA9.out.cell 1
        have HC := Lib.hid (implHeadOf_any (.agg #[.int .i64 a.1, .slice A a.2.length c]) (.slice Q0 R.length d0) a R wr ⟨_, rfl, HA9.out⟩ HQ9.out (by omega) (by omega))
        rw [HH.out.1, HH.out.2] at HC
        go_upto_region 18 with (go_at_call 19; refine HC.out.mono ?_; rintro e w10 ⟨P5, e5, rfl, o10, b10⟩; have H10 := Lib.hid (And.intro o10.rd b10); clear o10 b10)
        obtain ⟨w11, hw11⟩ : ∃ w11, w11 = w10.alloc (Obj.cells #[Value.int IntKind.i64 f.1, Value.slice P5 f.2.length e5] 35) := ⟨_, rfl⟩
        have b11 : Below w10.heap.size w10 w11 := by rw [hw11]; exact below1 _ _
        have BG : Blk w11 w10.heap.size 35 #[.int .i64 f.1, .slice P5 f.2.length e5] := by rw [hw11]; exact Blk.new _ _ _
        rw [← hw11]
        clear hw11 q0 q1 HC
        have HGF := Lib.hid (H10.out.1.on b11)
        have bx := bthen H10.out.2 b11
        have HBG := Lib.hid BG
        have hgg := BG.lt
        have hsx := H10.out.2.size
        have HA11 := Lib.hid (HA9.out.on bx)
        have HF11 := Lib.hid (HF9.out.on bx)
        have HQ11 := Lib.hid (HQ9.out.on bx)
        have HBA11 := Lib.hid (HBA9.out.below bx (by omega))
        have HBF11 := Lib.hid (HBF9.out.below bx (by omega))
        have B11 := Lib.hid (bthen B9.out bx)
        obtain ⟨gg, hgge⟩ : ∃ gg, gg = w10.heap.size := ⟨_, rfl⟩
        rw [← hgge] at HBG hgg ⊢
        clear bx BG b11 hgge
        have q0 : w11.cell? ⟨ga, 0, none⟩ = some (.int .i64 a.1) := HBA11.out.cell 0
        have q1 : w11.cell? ⟨ga, 1, none⟩ = some (.slice A a.2.length c) := HBA11.out.cell 1
        have q2 : w11.cell? ⟨ga + 1, 0, none⟩ = some (.int .i64 f.1) := HBF11.out.cell 0
        have q3 : w11.cell? ⟨ga + 1, 1, none⟩ = some (.slice A2 f.2.length c2) := HBF11.out.cell 1
        have HC2 := Lib.hid (implMatch_any (.agg #[.int .i64 a.1, .slice A a.2.length c]) (.agg #[.int .i64 f.1, .slice A2 f.2.length c2]) (.slice Q0 R.length d0) a f R w11 ⟨_, rfl, HA11.out⟩ ⟨_, rfl, HF11.out⟩ HQ11.out (by omega) (by omega) (by omega))
        rw [HG.out.1, HG.out.2] at HC2
        go_upto_region 19 with (go_at_call 13; refine HC2.out.mono ?_; rintro e w12 ⟨P6, e6, rfl, o12, b12⟩; have H12 := Lib.hid (And.intro o12.rd b12); clear o12 b12)
        have hs12 := H12.out.2.size
        have hg11 := HBF11.out.lt
        have q4 : w12.cell? ⟨ga + 1, 0, none⟩ = some (.int .i64 f.1) := (HBF11.out.below H12.out.2 (by omega)).cell 0
        have q5 : w12.cell? ⟨ga + 1, 1, none⟩ = some (.slice A2 f.2.length c2) := (HBF11.out.below H12.out.2 (by omega)).cell 1
        have q6 : w12.cell? ⟨gg, 0, none⟩ = some (.int .i64 f.1) := (HBG.out.below H12.out.2 hgg).cell 0
        have q7 : w12.cell? ⟨gg, 1, none⟩ = some (.slice P5 f.2.length e5) := (HBG.out.below H12.out.2 hgg).cell 1
        have HC3 := Lib.hid (implFactOrder_any (.agg #[.int .i64 f.1, .slice P5 f.2.length e5]) (.agg #[.int .i64 f.1, .slice A2 f.2.length c2]) f f w12 ⟨_, rfl, HGF.out.on H12.out.2⟩ ⟨_, rfl, HF11.out.on H12.out.2⟩ (by omega) (by omega))
        rw [factOrder_same] at HC3
        clear q0 q1 q2 q3 HC2
        go_wp2_with (first
          | (go_at_call 20; refine HC3.out.mono ?_; rintro e w13 ⟨rfl, b13⟩; have H13 := Lib.hid (bthen H12.out.2 b13); have H14 := Lib.hid (H12.out.1.on b13); clear b13)
          | (go_at_call 16; refine (wrInts_any _ _ R R w13 H14.out (HQ11.out.on H13.out) (by omega) (by omega)).mono ?_
             rw [show decide (R = R) = true by simp]
             rintro e w14 ⟨rfl, b14⟩
             have H15 := Lib.hid (bthen H13.out b14)
             clear b14))
        go_ret
        exact ⟨rfl, bthen B11.out H15.out⟩

theorem lawPlainMatch_in (v : Value) (bs : List Nat) (w : World) (h : InBytes w v bs) : Calls Try.prog 4 #[v] w fun e w' => e = .returned (.bool true) ∧ Below w.heap.size w w' :=
  lawPlainMatch_any v bs w h.1 h.2.1 h.2.2

end Go.Proofs.Ytlehcghdhfeahaa
namespace Go.Proofs.Ytlehcghdhfeahaa
open Go.ChangeShapes Go.WideShapes Go.ChangeAt Go.RowKit

set_option maxRecDepth 100000 in
theorem fnMatch_lifted (os : Os) (started : os.Started) (H : Type) (enc : TypeId × Value → H) :
    ReturnsInHanded {} Try.checked os 4 .any (Rows.fnMatchSpec.pre6 enc Try.prog Try.f4 Rows.fnMatchRow.domain false) (Rows.fnMatchSpec.post enc Try.prog Try.f4 false true false false) := by
  refine returnsInHanded_of_change (C := Try.checked) Try.own started (by kernel_rfl) Try.func4
    (ChangeSpec.witness6 (enc := enc) (C := Try.checked) false ⟨#[], #[.slice none 0 0], []⟩ 8 (by kernel_rfl) (by kernel_rfl) (by kernel_rfl) (by kernel_rfl)) ?_
  intro W base args ds gs before hval0 hW hcnd _
  have hval : ∀ (j : Nat) t v, Try.f4.params[j]? = some t → args[j]? = some v → Value.okWide Try.prog W .any base t v := hval0
  have hW' := hW
  obtain ⟨p, q, hA0, hV, rfl, hfz, hnd⟩ := hW
  have hA : DataW.TrodAll enc Try.prog W 0 (fun _ => true) true Try.f4.params.toList args.toList ds p := hA0
  rw [Try.params4] at hA hval
  obtain ⟨v0, vs0, d0, ds0, p0, q0, hargs, rfl, rfl, h0, r0⟩ := trodAll_cons hA
  obtain ⟨rfl, rfl, rfl⟩ := trodAll_nil r0
  obtain rfl : args = #[v0] := by cases args; simp_all
  obtain ⟨rfl, rfl⟩ := trodVars_none hV
  have lt0 : ∀ x ∈ p0, x.block < W.heap.size := by obtain ⟨m, hm⟩ := h0; exact DataW.trod_lt m _ _ _ hm
  obtain ⟨x0, w0⟩ := open_inBytes (hval 0 22 v0 rfl rfl) h0
  clear hA0 hval0
  refine (lawPlainMatch_in v0 x0 W w0).mono fun e W' ⟨he, bel⟩ => ?_
  subst he
  exact ⟨_, rfl, _, _, _, [], _, [], hW', trodAll_mk1 (shut_bool Try.underlying4 _), (trodAll_cons_mk (Below.trod Try.laidOut (by kernel_rfl) (of_decide_eq_true (by kernel_rfl)) h0 bel lt0) trodAll_mk0), rfl, bel.frame _, fun h => by cases h⟩

theorem fnMatch_holds : Rows.FnMatchSaid :=
  OpenClaim.holds_of_wide 4 Try.f4 rfl rfl rfl rfl rfl rfl rfl ⟨rfl, rfl, rfl, rfl, rfl⟩ rfl rfl rfl rfl rfl (by kernel_rfl) Try.func4 (by kernel_rfl)
    (of_decide_eq_true (by kernel_rfl)) (by unfold Func.isWrapper; rw [if_neg (of_decide_eq_false (by kernel_rfl))]; exact ⟨rfl, rfl⟩)
    (fun os started H enc _ => fnMatch_lifted os started H enc)

end Go.Proofs.Ytlehcghdhfeahaa
