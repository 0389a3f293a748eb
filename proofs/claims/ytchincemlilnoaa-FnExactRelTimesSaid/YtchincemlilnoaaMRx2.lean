/-
  The law FnExactRelTimes: for every input the call returns true, and each argument reads behind it as it read before. Conditions: none but the row's own.
-/
import Derived.Test.YtchincemlilnoaaMRt5
import Derived.Deep.RegionHeld3
import Derived.Deep.DeepCutAuto
import Derived.Deep.RegionWith
import Derived.Test.YtchincemlilnoaaRows
import Derived.Test.YtchincemlilnoaaMRx1
/-
  The walk of the law on RelTimes (written by wip/genlaw.py).
-/
namespace Go.Proofs.Ytchincemlilnoaa
open Go.RowKit

set_option maxHeartbeats 8000000 in
set_option maxRecDepth 100000 in
theorem lawRelTimes_any (v0 : Value) (v1 : Value) (a : LRel) (b : LRel) (w : World) (h0 : RdRel w w.heap.size v0 a) (h1 : RdRel w w.heap.size v1 b) (n0 : a.2.length ≤ maxLen) (m0 : ∀ k (h : k < a.2.length), a.2[k].length ≤ maxLen) (n1 : b.2.length ≤ maxLen) (m1 : ∀ k (h : k < b.2.length), b.2[k].length ≤ maxLen) :
    Calls Try.prog 8 #[v0, v1] w fun e w' => e = .returned (.bool true) ∧ Below w.heap.size w w' := by
  have H0 := Lib.hid h0
  obtain ⟨a0, rfl, A0, c0, rfl, hc0, _⟩ := h0
  have H1 := Lib.hid h1
  obtain ⟨a1, rfl, A1, c1, rfl, hc1, _⟩ := h1
  go_enter Try.func8, Try.ntmps8
  go_wp2_with (fail)
  obtain ⟨w1, hw_w1⟩ : ∃ W', W' = (w.alloc (Obj.cells #[Value.int IntKind.i64 a.1, Value.slice A0 a.2.length c0] 24)).alloc (Obj.cells #[Value.int IntKind.i64 b.1, Value.slice A1 b.2.length c1] 24) := ⟨_, rfl⟩
  rw [← hw_w1]
  have B_w1 : Below w.heap.size w w1 := by rw [hw_w1]; exact below2 _ _ _
  have bx0 : Blk w1 (w.heap.size + 0) 24 #[.int .i64 a.1, .slice A0 a.2.length c0] := by
    rw [hw_w1]
    have := (Blk.new w 24 #[.int .i64 a.1, .slice A0 a.2.length c0]).alloc (Obj.cells #[.int .i64 b.1, .slice A1 b.2.length c1] 24)
    simpa using this
  have bx0_l := bx0.lt
  rw [Nat.add_zero] at bx0 bx0_l
  have bx1 : Blk w1 (w.heap.size + 1) 24 #[.int .i64 b.1, .slice A1 b.2.length c1] := by
    rw [hw_w1]
    have := (Blk.new (w.alloc (Obj.cells #[.int .i64 a.1, .slice A0 a.2.length c0] 24)) 24 #[.int .i64 b.1, .slice A1 b.2.length c1])
    simpa using this
  have bx1_l := bx1.lt
  have s_w1 := B_w1.size
  clear hw_w1
  refine (us_rel (H0.out.on B_w1) (by omega) (by omega) n0 m0).mono ?_
  rintro e w2 ⟨z0, rfl, hz0, hbz0⟩
  have s_w2 := hbz0.size
  have bx0_1 := bx0.below hbz0 (by first | exact bx0.lt | omega)
  clear bx0
  have bx0_1_l := bx0_1.lt
  have bx1_1 := bx1.below hbz0 (by first | exact bx1.lt | omega)
  clear bx1
  have bx1_1_l := bx1_1.lt
  have B_w2 := bthen B_w1 hbz0
  rcases hz0 with rfl | ⟨zp0, zs0⟩
  · go_wp2_with (fail)
    go_ret
    exact ⟨rfl, B_w2⟩
  have zn0 : ¬ z0 < 0 := by omega
  have r0 : szRows a.2 ≤ 1048576 := by omega
  have zl0 : z0 ≤ 1048576 := by omega
  have ZS0 := Lib.hid zs0
  clear zs0
  have q1 : w2.cell? ⟨w.heap.size, 0, none⟩ = some (.int .i64 a.1) := bx0_1.cell 0
  have q2 : w2.cell? ⟨w.heap.size, 1, none⟩ = some (.slice A0 a.2.length c0) := bx0_1.cell 1
  have q3 : w2.cell? ⟨w.heap.size + 1, 0, none⟩ = some (.int .i64 b.1) := bx1_1.cell 0
  have q4 : w2.cell? ⟨w.heap.size + 1, 1, none⟩ = some (.slice A1 b.2.length c1) := bx1_1.cell 1
  go_wp2_with (fail)
  clear q1 q2 q3 q4
  refine (us_rel (H1.out.on B_w2) (by omega) (by omega) n1 m1).mono ?_
  rintro e w3 ⟨z1, rfl, hz1, hbz1⟩
  have s_w3 := hbz1.size
  have bx0_2 := bx0_1.below hbz1 (by first | exact bx0_1.lt | omega)
  clear bx0_1
  have bx0_2_l := bx0_2.lt
  have bx1_2 := bx1_1.below hbz1 (by first | exact bx1_1.lt | omega)
  clear bx1_1
  have bx1_2_l := bx1_2.lt
  have B_w3 := bthen B_w2 hbz1
  rcases hz1 with rfl | ⟨zp1, zs1⟩
  · go_wp2_with (fail)
    go_ret
    exact ⟨rfl, B_w3⟩
  have zn1 : ¬ z1 < 0 := by omega
  have r1 : szRows b.2 ≤ 1048576 := by omega
  have zl1 : z1 ≤ 1048576 := by omega
  have ZS1 := Lib.hid zs1
  clear zs1 zn1
  have zn1 : ¬ z1 < 0 := by omega
  obtain ⟨R0, hR0⟩ : ∃ R, R = joinR a b [] [] := ⟨_, rfl⟩
  have HR0 := Lib.hid hR0
  obtain ⟨R1, hR1⟩ : ∃ R, R = joinK a b [] [] := ⟨_, rfl⟩
  have HR1 := Lib.hid hR1
  have HRs0 := Lib.hid (show szRows R0.2 ≤ 1048576 by rw [hR0]; exact joinR_sz a b [] [])
  have R0s := HRs0.out
  clear hR0 hR1
  have gb1 : (R1 != R1) = false := by simp
  have q5 : w3.cell? ⟨w.heap.size, 0, none⟩ = some (.int .i64 a.1) := bx0_2.cell 0
  have q6 : w3.cell? ⟨w.heap.size, 1, none⟩ = some (.slice A0 a.2.length c0) := bx0_2.cell 1
  have q7 : w3.cell? ⟨w.heap.size + 1, 0, none⟩ = some (.int .i64 b.1) := bx1_2.cell 0
  have q8 : w3.cell? ⟨w.heap.size + 1, 1, none⟩ = some (.slice A1 b.2.length c1) := bx1_2.cell 1
  go_upto_region 8 with fail
  clear q5 q6 q7 q8
  obtain ⟨SS, hSS⟩ : ∃ SS : World → Prop, SS = (fun W => W.cell? ⟨w.heap.size, 0, none⟩ = some (.int .i64 a.1) ∧ W.cell? ⟨w.heap.size, 1, none⟩ = some (.slice A0 a.2.length c0) ∧ W.cell? ⟨w.heap.size + 1, 0, none⟩ = some (.int .i64 b.1) ∧ W.cell? ⟨w.heap.size + 1, 1, none⟩ = some (.slice A1 b.2.length c1) ∧ True) := ⟨_, rfl⟩
  have HS_w3 := Lib.hid (show ∀ W, Below w3.heap.size w3 W → SS W from by rw [hSS]; exact fun W hW => ⟨(bx0_2.below hW bx0_2_l).cell 0, (bx0_2.below hW bx0_2_l).cell 1, (bx1_2.below hW bx1_2_l).cell 0, (bx1_2.below hW bx1_2_l).cell 1, trivial⟩)
  have HB := Lib.hid (show ∀ W, SS W → (W.cell? ⟨w.heap.size, 0, none⟩ = some (.int .i64 a.1) ∧ W.cell? ⟨w.heap.size, 1, none⟩ = some (.slice A0 a.2.length c0) ∧ W.cell? ⟨w.heap.size + 1, 0, none⟩ = some (.int .i64 b.1) ∧ W.cell? ⟨w.heap.size + 1, 1, none⟩ = some (.slice A1 b.2.length c1) ∧ True) from by rw [hSS]; exact fun W hW => hW)
  clear hSS
  go_cut [6, 7] (fun s0 s1 wx => ∃ (Qx : Option Addr) (fx gx lox hix : Nat), s0 = .pointer (some ⟨gx, 0, none⟩) ∧ s1 = .bool R1 ∧ BoxRel OwnRows w3 wx gx lox hix R0 Qx fx)
  case first =>
    refine wp_region_rel SS 9 11 (by kernel_rfl) rfl ?_
    obtain ⟨W0', hW0⟩ : ∃ W', W' = w3.drew := ⟨_, rfl⟩
    have bb : Below w3.heap.size w3 W0' := by rw [hW0]; exact (Below.refl _ _).drew
    have zz := bb.size
    rw [← hW0]
    clear hW0
    have SB := HS_w3.out _ bb
    refine wpAnyR_take (i := 0) (oi := _) ?vuw1 rfl rfl (by kernel_rfl) (fun _ _ _ h => h) rfl ?hyuw1 SB ?restuw1
    case hyuw1 => (intro W hW; obtain ⟨E0, E1, E2, E3, E4⟩ := HB.out W hW; go_simp; (try with_reducible rfl))
    try simp only [List.setIfInBounds_toArray, List.set_cons_zero, List.set_cons_succ]
    refine wpAnyR_take (i := 2) (oi := _) ?vuw2 rfl rfl (by kernel_rfl) (fun _ _ _ h => h) rfl ?hyuw2 SB ?restuw2
    case hyuw2 => (intro W hW; obtain ⟨E0, E1, E2, E3, E4⟩ := HB.out W hW; go_simp; (try with_reducible rfl))
    try simp only [List.setIfInBounds_toArray, List.set_cons_zero, List.set_cons_succ]
    refine wpAnyR_two (i := 1) (j := 8) (by kernel_rfl) rfl rfl (fun K hK => ?_) (fun K hK => ?_)
    · skip
      try rw [if_pos (show Region.wanted _ _ = true from rfl)]
      go_simp
      refine (toRel_any _ a _ (H0.out.on (bthen B_w3 bb)) (by omega)).mono ?_
      rintro e V3 ⟨P3, d3, rfl, o3, g3⟩
      have z3 := g3.size
      have b3 := bthen bb g3
      have SB3 := HS_w3.out _ b3
      refine hK.out _ _ (fun _ => SB3) ?_
      clear hK K
      try simp only [List.setIfInBounds_toArray, List.set_cons_zero, List.set_cons_succ, Act.put]
      refine wpAnyR_two (i := 3) (j := 8) (by kernel_rfl) rfl rfl (fun K hK => ?_) (fun K hK => ?_)
      · skip
        try rw [if_pos (show Region.wanted _ _ = true from rfl)]
        go_simp
        refine (toRel_any _ b _ (H1.out.on (bthen B_w3 b3)) (by omega)).mono ?_
        rintro e V4 ⟨P4, d4, rfl, o4, g4⟩
        have z4 := g4.size
        have b4 := bthen b3 g4
        have o3_4 := o3.below g4 (by omega)
        have SB4 := HS_w3.out _ b4
        refine hK.out _ _ (fun _ => SB4) ?_
        clear hK K
        try simp only [List.setIfInBounds_toArray, List.set_cons_zero, List.set_cons_succ, Act.put]
        refine wpAnyR_two (i := 4) (j := 8) (by kernel_rfl) rfl rfl (fun K hK => ?_) (fun K hK => ?_)
        · skip
          try rw [if_pos (show Region.wanted _ _ = true from rfl)]
          go_simp
          refine (specRelTimes_any _ _ a b _ rfl _ rfl _ ⟨_, rfl, o3_4.rd.more (by omega)⟩ ⟨_, rfl, o4.rd.more (by omega)⟩ (by omega) (by omega)).mono ?_
          rw [← HR0.out]
          try rw [← HR1.out]
          rintro e V5 ⟨P5, d5, rfl, o5, g5⟩
          have z5 := g5.size
          have b5 := bthen b4 g5
          have o3_4_5 := o3_4.below g5 (by omega)
          have o4_5 := o4.below g5 (by omega)
          have SB5 := HS_w3.out _ b5
          refine hK.out _ _ (fun _ => SB5) ?_
          clear hK K
          try simp only [List.setIfInBounds_toArray, List.set_cons_zero, List.set_cons_succ, Act.put]
          refine wpAnyR_pure (i := 5) (oi := _) ?vuw6 rfl rfl (by kernel_rfl) (by decide) (fun _ _ _ h => h) rfl ?hyuw6 (fun _ => SB5) ?restuw6
          case hyuw6 => (intro W; go_simp; (try with_reducible rfl))
          try simp only [List.setIfInBounds_toArray, List.set_cons_zero, List.set_cons_succ]
          refine wpAnyR_pure (i := 6) (oi := _) ?vuw7 rfl rfl (by kernel_rfl) (by decide) (fun _ _ _ h => h) rfl ?hyuw7 (fun _ => SB5) ?restuw7
          case hyuw7 => (intro W; go_simp; (try with_reducible rfl))
          try simp only [List.setIfInBounds_toArray, List.set_cons_zero, List.set_cons_succ]
          refine wpAnyR_pure (i := 7) (oi := _) ?vuw8 rfl rfl (by kernel_rfl) (by decide) (fun _ _ _ h => h) rfl ?hyuw8 (fun _ => SB5) ?restuw8
          case hyuw8 => (intro W; go_simp; (try with_reducible rfl))
          try simp only [List.setIfInBounds_toArray, List.set_cons_zero, List.set_cons_succ]
          refine wpAnyR_one (i := 8) (by kernel_rfl) rfl (fun K hK => ?_)
          try rw [if_pos (show Region.wanted _ _ = true from rfl)]
          go_simp
          obtain ⟨V9, hWn⟩ : ∃ W', W' = V5.alloc (Obj.cells #[Value.int IntKind.i64 0, Value.slice none 0 0] 27) := ⟨_, rfl⟩
          rw [← hWn]
          have g9 : Below V5.heap.size V5 V9 := by rw [hWn]; exact below1 _ _
          have X9 : Blk V9 V5.heap.size 27 #[Value.int IntKind.i64 0, Value.slice none 0 0] := by rw [hWn]; exact Blk.new _ _ _
          have z9 := g9.size
          have y9 := X9.lt
          clear hWn
          have b9 := bthen b5 g9
          have o3_4_5_9 := o3_4_5.below g9 (by omega)
          have o4_5_9 := o4_5.below g9 (by omega)
          have o5_9 := o5.below g9 (by omega)
          have SB9 := HS_w3.out _ b9
          refine hK.out _ _ (fun _ => SB9) ?_
          clear hK K
          try simp only [List.setIfInBounds_toArray, List.set_cons_zero, List.set_cons_succ, Act.put]
          refine wpAnyR_one (i := 9) (by kernel_rfl) rfl (fun K hK => ?_)
          try rw [if_pos (show Region.wanted _ _ = true from rfl)]
          have c0 := X9.cell 0
          have c1 := X9.cell 1
          have f0 := X9.frozen 0
          have f1 := X9.frozen 1
          simp at c0 c1
          go_simp
          refine hK.out _ _ (fun hf => absurd hf (by decide)) ?_
          clear hK K c0 c1 f0 f1
          try simp only [List.setIfInBounds_toArray, List.set_cons_zero, List.set_cons_succ, Act.put]
          refine wpAnyR_one (i := 10) (by kernel_rfl) rfl (fun K hK => ?_)
          go_simp
          refine hK.out _ _ (fun hf => absurd hf (by decide)) ?_
          clear hK K
          refine wpAnyR_done (by kernel_rfl) ?_
          go_wp2_with fail
          go_meet
          exact ⟨P5, d5, V5.heap.size, V4.heap.size, V5.heap.size, rfl, rfl, BoxRel.made (O := OwnRows) (fun h a b => h.only a b) (r := R0) b9 X9 o5_9 (by omega) (by omega) (by omega) (by omega)⟩
        · skip
          try rw [if_pos (show Region.wanted _ _ = true from rfl)]
          go_simp
          obtain ⟨V11, hWn⟩ : ∃ W', W' = V4.alloc (Obj.cells #[Value.int IntKind.i64 0, Value.slice none 0 0] 27) := ⟨_, rfl⟩
          rw [← hWn]
          have g11 : Below V4.heap.size V4 V11 := by rw [hWn]; exact below1 _ _
          have X11 : Blk V11 V4.heap.size 27 #[Value.int IntKind.i64 0, Value.slice none 0 0] := by rw [hWn]; exact Blk.new _ _ _
          have z11 := g11.size
          have y11 := X11.lt
          clear hWn
          have b11 := bthen b4 g11
          have o3_4_11 := o3_4.below g11 (by omega)
          have o4_11 := o4.below g11 (by omega)
          have SB11 := HS_w3.out _ b11
          refine hK.out _ _ (fun _ => SB11) ?_
          clear hK K
          try simp only [List.setIfInBounds_toArray, List.set_cons_zero, List.set_cons_succ, Act.put]
          refine wpAnyR_one (i := 4) (by kernel_rfl) rfl (fun K hK => ?_)
          try rw [if_pos (show Region.wanted _ _ = true from rfl)]
          go_simp
          refine (specRelTimes_any _ _ a b _ rfl _ rfl _ ⟨_, rfl, o3_4_11.rd.more (by omega)⟩ ⟨_, rfl, o4_11.rd.more (by omega)⟩ (by omega) (by omega)).mono ?_
          rw [← HR0.out]
          try rw [← HR1.out]
          rintro e V12 ⟨P12, d12, rfl, o12, g12⟩
          have z12 := g12.size
          have b12 := bthen b11 g12
          have o3_4_11_12 := o3_4_11.below g12 (by omega)
          have o4_11_12 := o4_11.below g12 (by omega)
          have X12 := X11.below g12 X11.lt
          have SB12 := HS_w3.out _ b12
          refine hK.out _ _ (fun _ => SB12) ?_
          clear hK K
          try simp only [List.setIfInBounds_toArray, List.set_cons_zero, List.set_cons_succ, Act.put]
          refine wpAnyR_pure (i := 5) (oi := _) ?vuw13 rfl rfl (by kernel_rfl) (by decide) (fun _ _ _ h => h) rfl ?hyuw13 (fun _ => SB12) ?restuw13
          case hyuw13 => (intro W; go_simp; (try with_reducible rfl))
          try simp only [List.setIfInBounds_toArray, List.set_cons_zero, List.set_cons_succ]
          refine wpAnyR_pure (i := 6) (oi := _) ?vuw14 rfl rfl (by kernel_rfl) (by decide) (fun _ _ _ h => h) rfl ?hyuw14 (fun _ => SB12) ?restuw14
          case hyuw14 => (intro W; go_simp; (try with_reducible rfl))
          try simp only [List.setIfInBounds_toArray, List.set_cons_zero, List.set_cons_succ]
          refine wpAnyR_pure (i := 7) (oi := _) ?vuw15 rfl rfl (by kernel_rfl) (by decide) (fun _ _ _ h => h) rfl ?hyuw15 (fun _ => SB12) ?restuw15
          case hyuw15 => (intro W; go_simp; (try with_reducible rfl))
          try simp only [List.setIfInBounds_toArray, List.set_cons_zero, List.set_cons_succ]
          refine wpAnyR_one (i := 9) (by kernel_rfl) rfl (fun K hK => ?_)
          try rw [if_pos (show Region.wanted _ _ = true from rfl)]
          have c0 := X12.cell 0
          have c1 := X12.cell 1
          have f0 := X12.frozen 0
          have f1 := X12.frozen 1
          simp at c0 c1
          go_simp
          refine hK.out _ _ (fun hf => absurd hf (by decide)) ?_
          clear hK K c0 c1 f0 f1
          try simp only [List.setIfInBounds_toArray, List.set_cons_zero, List.set_cons_succ, Act.put]
          refine wpAnyR_one (i := 10) (by kernel_rfl) rfl (fun K hK => ?_)
          go_simp
          refine hK.out _ _ (fun hf => absurd hf (by decide)) ?_
          clear hK K
          refine wpAnyR_done (by kernel_rfl) ?_
          go_wp2_with fail
          go_meet
          exact ⟨P12, d12, V4.heap.size, V11.heap.size, V12.heap.size, rfl, rfl, BoxRel.made (O := OwnRows) (fun h a b => h.only a b) (r := R0) b12 X12 o12 (by omega) (by omega) (by omega) (by omega)⟩
      · skip
        try rw [if_pos (show Region.wanted _ _ = true from rfl)]
        go_simp
        obtain ⟨V17, hWn⟩ : ∃ W', W' = V3.alloc (Obj.cells #[Value.int IntKind.i64 0, Value.slice none 0 0] 27) := ⟨_, rfl⟩
        rw [← hWn]
        have g17 : Below V3.heap.size V3 V17 := by rw [hWn]; exact below1 _ _
        have X17 : Blk V17 V3.heap.size 27 #[Value.int IntKind.i64 0, Value.slice none 0 0] := by rw [hWn]; exact Blk.new _ _ _
        have z17 := g17.size
        have y17 := X17.lt
        clear hWn
        have b17 := bthen b3 g17
        have o3_17 := o3.below g17 (by omega)
        have SB17 := HS_w3.out _ b17
        refine hK.out _ _ (fun _ => SB17) ?_
        clear hK K
        try simp only [List.setIfInBounds_toArray, List.set_cons_zero, List.set_cons_succ, Act.put]
        refine wpAnyR_one (i := 3) (by kernel_rfl) rfl (fun K hK => ?_)
        try rw [if_pos (show Region.wanted _ _ = true from rfl)]
        go_simp
        refine (toRel_any _ b _ (H1.out.on (bthen B_w3 b17)) (by omega)).mono ?_
        rintro e V18 ⟨P18, d18, rfl, o18, g18⟩
        have z18 := g18.size
        have b18 := bthen b17 g18
        have o3_17_18 := o3_17.below g18 (by omega)
        have X18 := X17.below g18 X17.lt
        have SB18 := HS_w3.out _ b18
        refine hK.out _ _ (fun _ => SB18) ?_
        clear hK K
        try simp only [List.setIfInBounds_toArray, List.set_cons_zero, List.set_cons_succ, Act.put]
        refine wpAnyR_one (i := 4) (by kernel_rfl) rfl (fun K hK => ?_)
        try rw [if_pos (show Region.wanted _ _ = true from rfl)]
        go_simp
        refine (specRelTimes_any _ _ a b _ rfl _ rfl _ ⟨_, rfl, o3_17_18.rd.more (by omega)⟩ ⟨_, rfl, o18.rd.more (by omega)⟩ (by omega) (by omega)).mono ?_
        rw [← HR0.out]
        try rw [← HR1.out]
        rintro e V19 ⟨P19, d19, rfl, o19, g19⟩
        have z19 := g19.size
        have b19 := bthen b18 g19
        have o3_17_18_19 := o3_17_18.below g19 (by omega)
        have o18_19 := o18.below g19 (by omega)
        have X19 := X18.below g19 X18.lt
        have SB19 := HS_w3.out _ b19
        refine hK.out _ _ (fun _ => SB19) ?_
        clear hK K
        try simp only [List.setIfInBounds_toArray, List.set_cons_zero, List.set_cons_succ, Act.put]
        refine wpAnyR_pure (i := 5) (oi := _) ?vuw20 rfl rfl (by kernel_rfl) (by decide) (fun _ _ _ h => h) rfl ?hyuw20 (fun _ => SB19) ?restuw20
        case hyuw20 => (intro W; go_simp; (try with_reducible rfl))
        try simp only [List.setIfInBounds_toArray, List.set_cons_zero, List.set_cons_succ]
        refine wpAnyR_pure (i := 6) (oi := _) ?vuw21 rfl rfl (by kernel_rfl) (by decide) (fun _ _ _ h => h) rfl ?hyuw21 (fun _ => SB19) ?restuw21
        case hyuw21 => (intro W; go_simp; (try with_reducible rfl))
        try simp only [List.setIfInBounds_toArray, List.set_cons_zero, List.set_cons_succ]
        refine wpAnyR_pure (i := 7) (oi := _) ?vuw22 rfl rfl (by kernel_rfl) (by decide) (fun _ _ _ h => h) rfl ?hyuw22 (fun _ => SB19) ?restuw22
        case hyuw22 => (intro W; go_simp; (try with_reducible rfl))
        try simp only [List.setIfInBounds_toArray, List.set_cons_zero, List.set_cons_succ]
        refine wpAnyR_one (i := 9) (by kernel_rfl) rfl (fun K hK => ?_)
        try rw [if_pos (show Region.wanted _ _ = true from rfl)]
        have c0 := X19.cell 0
        have c1 := X19.cell 1
        have f0 := X19.frozen 0
        have f1 := X19.frozen 1
        simp at c0 c1
        go_simp
        refine hK.out _ _ (fun hf => absurd hf (by decide)) ?_
        clear hK K c0 c1 f0 f1
        try simp only [List.setIfInBounds_toArray, List.set_cons_zero, List.set_cons_succ, Act.put]
        refine wpAnyR_one (i := 10) (by kernel_rfl) rfl (fun K hK => ?_)
        go_simp
        refine hK.out _ _ (fun hf => absurd hf (by decide)) ?_
        clear hK K
        refine wpAnyR_done (by kernel_rfl) ?_
        go_wp2_with fail
        go_meet
        exact ⟨P19, d19, V3.heap.size, V18.heap.size, V19.heap.size, rfl, rfl, BoxRel.made (O := OwnRows) (fun h a b => h.only a b) (r := R0) b19 X19 o19 (by omega) (by omega) (by omega) (by omega)⟩
    · skip
      try rw [if_pos (show Region.wanted _ _ = true from rfl)]
      go_simp
      obtain ⟨V24, hWn⟩ : ∃ W', W' = W0'.alloc (Obj.cells #[Value.int IntKind.i64 0, Value.slice none 0 0] 27) := ⟨_, rfl⟩
      rw [← hWn]
      have g24 : Below W0'.heap.size W0' V24 := by rw [hWn]; exact below1 _ _
      have X24 : Blk V24 W0'.heap.size 27 #[Value.int IntKind.i64 0, Value.slice none 0 0] := by rw [hWn]; exact Blk.new _ _ _
      have z24 := g24.size
      have y24 := X24.lt
      clear hWn
      have b24 := bthen bb g24
      have SB24 := HS_w3.out _ b24
      refine hK.out _ _ (fun _ => SB24) ?_
      clear hK K
      try simp only [List.setIfInBounds_toArray, List.set_cons_zero, List.set_cons_succ, Act.put]
      refine wpAnyR_one (i := 1) (by kernel_rfl) rfl (fun K hK => ?_)
      try rw [if_pos (show Region.wanted _ _ = true from rfl)]
      go_simp
      refine (toRel_any _ a _ (H0.out.on (bthen B_w3 b24)) (by omega)).mono ?_
      rintro e V25 ⟨P25, d25, rfl, o25, g25⟩
      have z25 := g25.size
      have b25 := bthen b24 g25
      have X25 := X24.below g25 X24.lt
      have SB25 := HS_w3.out _ b25
      refine hK.out _ _ (fun _ => SB25) ?_
      clear hK K
      try simp only [List.setIfInBounds_toArray, List.set_cons_zero, List.set_cons_succ, Act.put]
      refine wpAnyR_one (i := 3) (by kernel_rfl) rfl (fun K hK => ?_)
      try rw [if_pos (show Region.wanted _ _ = true from rfl)]
      go_simp
      refine (toRel_any _ b _ (H1.out.on (bthen B_w3 b25)) (by omega)).mono ?_
      rintro e V26 ⟨P26, d26, rfl, o26, g26⟩
      have z26 := g26.size
      have b26 := bthen b25 g26
      have o25_26 := o25.below g26 (by omega)
      have X26 := X25.below g26 X25.lt
      have SB26 := HS_w3.out _ b26
      refine hK.out _ _ (fun _ => SB26) ?_
      clear hK K
      try simp only [List.setIfInBounds_toArray, List.set_cons_zero, List.set_cons_succ, Act.put]
      refine wpAnyR_one (i := 4) (by kernel_rfl) rfl (fun K hK => ?_)
      try rw [if_pos (show Region.wanted _ _ = true from rfl)]
      go_simp
      refine (specRelTimes_any _ _ a b _ rfl _ rfl _ ⟨_, rfl, o25_26.rd.more (by omega)⟩ ⟨_, rfl, o26.rd.more (by omega)⟩ (by omega) (by omega)).mono ?_
      rw [← HR0.out]
      try rw [← HR1.out]
      rintro e V27 ⟨P27, d27, rfl, o27, g27⟩
      have z27 := g27.size
      have b27 := bthen b26 g27
      have o25_26_27 := o25_26.below g27 (by omega)
      have o26_27 := o26.below g27 (by omega)
      have X27 := X26.below g27 X26.lt
      have SB27 := HS_w3.out _ b27
      refine hK.out _ _ (fun _ => SB27) ?_
      clear hK K
      try simp only [List.setIfInBounds_toArray, List.set_cons_zero, List.set_cons_succ, Act.put]
      refine wpAnyR_pure (i := 5) (oi := _) ?vuw28 rfl rfl (by kernel_rfl) (by decide) (fun _ _ _ h => h) rfl ?hyuw28 (fun _ => SB27) ?restuw28
      case hyuw28 => (intro W; go_simp; (try with_reducible rfl))
      try simp only [List.setIfInBounds_toArray, List.set_cons_zero, List.set_cons_succ]
      refine wpAnyR_pure (i := 6) (oi := _) ?vuw29 rfl rfl (by kernel_rfl) (by decide) (fun _ _ _ h => h) rfl ?hyuw29 (fun _ => SB27) ?restuw29
      case hyuw29 => (intro W; go_simp; (try with_reducible rfl))
      try simp only [List.setIfInBounds_toArray, List.set_cons_zero, List.set_cons_succ]
      refine wpAnyR_pure (i := 7) (oi := _) ?vuw30 rfl rfl (by kernel_rfl) (by decide) (fun _ _ _ h => h) rfl ?hyuw30 (fun _ => SB27) ?restuw30
      case hyuw30 => (intro W; go_simp; (try with_reducible rfl))
      try simp only [List.setIfInBounds_toArray, List.set_cons_zero, List.set_cons_succ]
      refine wpAnyR_one (i := 9) (by kernel_rfl) rfl (fun K hK => ?_)
      try rw [if_pos (show Region.wanted _ _ = true from rfl)]
      have c0 := X27.cell 0
      have c1 := X27.cell 1
      have f0 := X27.frozen 0
      have f1 := X27.frozen 1
      simp at c0 c1
      go_simp
      refine hK.out _ _ (fun hf => absurd hf (by decide)) ?_
      clear hK K c0 c1 f0 f1
      try simp only [List.setIfInBounds_toArray, List.set_cons_zero, List.set_cons_succ, Act.put]
      refine wpAnyR_one (i := 10) (by kernel_rfl) rfl (fun K hK => ?_)
      go_simp
      refine hK.out _ _ (fun hf => absurd hf (by decide)) ?_
      clear hK K
      refine wpAnyR_done (by kernel_rfl) ?_
      go_wp2_with fail
      go_meet
      exact ⟨P27, d27, W0'.heap.size, V26.heap.size, V27.heap.size, rfl, rfl, BoxRel.made (O := OwnRows) (fun h a b => h.only a b) (r := R0) b27 X27 o27 (by omega) (by omega) (by omega) (by omega)⟩
  case rest =>
    obtain ⟨Q1, f1, gx1, lox1, hix1, rfl, rfl, bx1⟩ := hcut
    clear HS_w3 HB
    generalize wc = w4 at *
    have hb1 := bx1.below
    have gl1 := bx1.glo
    have gt1 := bx1.glt
    have ll1 := bx1.lole
    have hh1 := bx1.hile
    have ap1 := bx1.apart
    have bk1 := bx1.box
    have oo1 := bx1.rows
    have bk1_l := bk1.lt
    clear bx1
    have s_w4 := hb1.size
    have bx0_3 := bx0_2.below hb1 (by first | exact bx0_2.lt | omega)
    clear bx0_2
    have bx0_3_l := bx0_3.lt
    have bx1_3 := bx1_2.below hb1 (by first | exact bx1_2.lt | omega)
    clear bx1_2
    have bx1_3_l := bx1_3.lt
    have B_w4 := bthen B_w3 hb1
    have q9 : w4.cell? ⟨w.heap.size, 0, none⟩ = some (.int .i64 a.1) := bx0_3.cell 0
    have q10 : w4.cell? ⟨w.heap.size, 1, none⟩ = some (.slice A0 a.2.length c0) := bx0_3.cell 1
    have q11 : w4.cell? ⟨w.heap.size + 1, 0, none⟩ = some (.int .i64 b.1) := bx1_3.cell 0
    have q12 : w4.cell? ⟨w.heap.size + 1, 1, none⟩ = some (.slice A1 b.2.length c1) := bx1_3.cell 1
    have q13 : w4.cell? ⟨gx1, 0, none⟩ = some (.int .i64 R0.1) := bk1.cell 0
    have q14 : w4.cell? ⟨gx1, 1, none⟩ = some (.slice Q1 R0.2.length f1) := bk1.cell 1
    go_wp2_with (fail)
    clear q9 q10 q11 q12 q13 q14
    refine (toRel_any _ a _ (H0.out.on B_w4) (by omega)).mono ?_
    rintro e w5 ⟨P2, d2, rfl, o2, hb2⟩
    have s_w5 := hb2.size
    have bx0_4 := bx0_3.below hb2 (by first | exact bx0_3.lt | omega)
    clear bx0_3
    have bx0_4_l := bx0_4.lt
    have bx1_4 := bx1_3.below hb2 (by first | exact bx1_3.lt | omega)
    clear bx1_3
    have bx1_4_l := bx1_4.lt
    have w0_4 := oo1.below hb2 (by omega)
    clear oo1
    have bw0_4 := bk1.below hb2 (by first | exact bk1.lt | omega)
    clear bk1
    have bw0_4_l := bw0_4.lt
    have B_w5 := bthen B_w4 hb2
    have q15 : w5.cell? ⟨w.heap.size, 0, none⟩ = some (.int .i64 a.1) := bx0_4.cell 0
    have q16 : w5.cell? ⟨w.heap.size, 1, none⟩ = some (.slice A0 a.2.length c0) := bx0_4.cell 1
    have q17 : w5.cell? ⟨w.heap.size + 1, 0, none⟩ = some (.int .i64 b.1) := bx1_4.cell 0
    have q18 : w5.cell? ⟨w.heap.size + 1, 1, none⟩ = some (.slice A1 b.2.length c1) := bx1_4.cell 1
    have q19 : w5.cell? ⟨gx1, 0, none⟩ = some (.int .i64 R0.1) := bw0_4.cell 0
    have q20 : w5.cell? ⟨gx1, 1, none⟩ = some (.slice Q1 R0.2.length f1) := bw0_4.cell 1
    go_wp2_with (fail)
    clear q15 q16 q17 q18 q19 q20
    obtain ⟨w6, hw_w6⟩ : ∃ W', W' = w5.alloc (Obj.cells #[Value.int IntKind.i64 a.1, Value.slice P2 a.2.length d2] 27) := ⟨_, rfl⟩
    rw [← hw_w6]
    have hb_w6 : Below w5.heap.size w5 w6 := by rw [hw_w6]; exact below1 _ _
    have bxx0_n : Blk w6 w5.heap.size 27 #[.int .i64 a.1, .slice P2 a.2.length d2] := by rw [hw_w6]; exact Blk.new _ _ _
    have bxx0_nl := bxx0_n.lt
    clear hw_w6
    have s_w6 := hb_w6.size
    have bx0_5 := bx0_4.below hb_w6 (by first | exact bx0_4.lt | omega)
    clear bx0_4
    have bx0_5_l := bx0_5.lt
    have bx1_5 := bx1_4.below hb_w6 (by first | exact bx1_4.lt | omega)
    clear bx1_4
    have bx1_5_l := bx1_5.lt
    have w0_5 := w0_4.below hb_w6 (by omega)
    clear w0_4
    have bw0_5 := bw0_4.below hb_w6 (by first | exact bw0_4.lt | omega)
    clear bw0_4
    have bw0_5_l := bw0_5.lt
    have x0_5 := o2.below hb_w6 (by omega)
    clear o2
    have B_w6 := bthen B_w5 hb_w6
    refine (toRel_any _ b _ (H1.out.on B_w6) (by omega)).mono ?_
    rintro e w7 ⟨P3, d3, rfl, o3, hb3⟩
    have s_w7 := hb3.size
    have bx0_6 := bx0_5.below hb3 (by first | exact bx0_5.lt | omega)
    clear bx0_5
    have bx0_6_l := bx0_6.lt
    have bx1_6 := bx1_5.below hb3 (by first | exact bx1_5.lt | omega)
    clear bx1_5
    have bx1_6_l := bx1_6.lt
    have w0_6 := w0_5.below hb3 (by omega)
    clear w0_5
    have bw0_6 := bw0_5.below hb3 (by first | exact bw0_5.lt | omega)
    clear bw0_5
    have bw0_6_l := bw0_6.lt
    have x0_6 := x0_5.below hb3 (by omega)
    clear x0_5
    have bxx0_6 := bxx0_n.below hb3 (by first | exact bxx0_n.lt | omega)
    clear bxx0_n
    have bxx0_6_l := bxx0_6.lt
    have B_w7 := bthen B_w6 hb3
    have q21 : w7.cell? ⟨w.heap.size, 0, none⟩ = some (.int .i64 a.1) := bx0_6.cell 0
    have q22 : w7.cell? ⟨w.heap.size, 1, none⟩ = some (.slice A0 a.2.length c0) := bx0_6.cell 1
    have q23 : w7.cell? ⟨w.heap.size + 1, 0, none⟩ = some (.int .i64 b.1) := bx1_6.cell 0
    have q24 : w7.cell? ⟨w.heap.size + 1, 1, none⟩ = some (.slice A1 b.2.length c1) := bx1_6.cell 1
    have q25 : w7.cell? ⟨gx1, 0, none⟩ = some (.int .i64 R0.1) := bw0_6.cell 0
    have q26 : w7.cell? ⟨gx1, 1, none⟩ = some (.slice Q1 R0.2.length f1) := bw0_6.cell 1
    have q27 : w7.cell? ⟨w5.heap.size, 0, none⟩ = some (.int .i64 a.1) := bxx0_6.cell 0
    have q28 : w7.cell? ⟨w5.heap.size, 1, none⟩ = some (.slice P2 a.2.length d2) := bxx0_6.cell 1
    go_wp2_with (fail)
    clear q21 q22 q23 q24 q25 q26 q27 q28
    obtain ⟨w8, hw_w8⟩ : ∃ W', W' = w7.alloc (Obj.cells #[Value.int IntKind.i64 b.1, Value.slice P3 b.2.length d3] 27) := ⟨_, rfl⟩
    rw [← hw_w8]
    have hb_w8 : Below w7.heap.size w7 w8 := by rw [hw_w8]; exact below1 _ _
    have bxx1_n : Blk w8 w7.heap.size 27 #[.int .i64 b.1, .slice P3 b.2.length d3] := by rw [hw_w8]; exact Blk.new _ _ _
    have bxx1_nl := bxx1_n.lt
    clear hw_w8
    have s_w8 := hb_w8.size
    have bx0_7 := bx0_6.below hb_w8 (by first | exact bx0_6.lt | omega)
    clear bx0_6
    have bx0_7_l := bx0_7.lt
    have bx1_7 := bx1_6.below hb_w8 (by first | exact bx1_6.lt | omega)
    clear bx1_6
    have bx1_7_l := bx1_7.lt
    have w0_7 := w0_6.below hb_w8 (by omega)
    clear w0_6
    have bw0_7 := bw0_6.below hb_w8 (by first | exact bw0_6.lt | omega)
    clear bw0_6
    have bw0_7_l := bw0_7.lt
    have x0_7 := x0_6.below hb_w8 (by omega)
    clear x0_6
    have bxx0_7 := bxx0_6.below hb_w8 (by first | exact bxx0_6.lt | omega)
    clear bxx0_6
    have bxx0_7_l := bxx0_7.lt
    have x1_7 := o3.below hb_w8 (by omega)
    clear o3
    have B_w8 := bthen B_w7 hb_w8
    refine (implRelTimes_any _ _ a b _ rfl _ rfl _ ⟨_, rfl, x0_7.rd.more (by omega)⟩ ⟨_, rfl, x1_7.rd.more (by omega)⟩ (by omega) (by omega)).mono ?_
    rw [← HR0.out]
    try rw [← HR1.out]
    rintro e w9 ⟨Q4_0, f4_0, rfl, o4_0, hb4⟩
    have s_w9 := hb4.size
    have bx0_8 := bx0_7.below hb4 (by first | exact bx0_7.lt | omega)
    clear bx0_7
    have bx0_8_l := bx0_8.lt
    have bx1_8 := bx1_7.below hb4 (by first | exact bx1_7.lt | omega)
    clear bx1_7
    have bx1_8_l := bx1_8.lt
    have w0_8 := w0_7.below hb4 (by omega)
    clear w0_7
    have bw0_8 := bw0_7.below hb4 (by first | exact bw0_7.lt | omega)
    clear bw0_7
    have bw0_8_l := bw0_8.lt
    have x0_8 := x0_7.below hb4 (by omega)
    clear x0_7
    have bxx0_8 := bxx0_7.below hb4 (by first | exact bxx0_7.lt | omega)
    clear bxx0_7
    have bxx0_8_l := bxx0_8.lt
    have x1_8 := x1_7.below hb4 (by omega)
    clear x1_7
    have bxx1_8 := bxx1_n.below hb4 (by first | exact bxx1_n.lt | omega)
    clear bxx1_n
    have bxx1_8_l := bxx1_8.lt
    have B_w9 := bthen B_w8 hb4
    have q29 : w9.cell? ⟨w.heap.size, 0, none⟩ = some (.int .i64 a.1) := bx0_8.cell 0
    have q30 : w9.cell? ⟨w.heap.size, 1, none⟩ = some (.slice A0 a.2.length c0) := bx0_8.cell 1
    have q31 : w9.cell? ⟨w.heap.size + 1, 0, none⟩ = some (.int .i64 b.1) := bx1_8.cell 0
    have q32 : w9.cell? ⟨w.heap.size + 1, 1, none⟩ = some (.slice A1 b.2.length c1) := bx1_8.cell 1
    have q33 : w9.cell? ⟨gx1, 0, none⟩ = some (.int .i64 R0.1) := bw0_8.cell 0
    have q34 : w9.cell? ⟨gx1, 1, none⟩ = some (.slice Q1 R0.2.length f1) := bw0_8.cell 1
    have q35 : w9.cell? ⟨w5.heap.size, 0, none⟩ = some (.int .i64 a.1) := bxx0_8.cell 0
    have q36 : w9.cell? ⟨w5.heap.size, 1, none⟩ = some (.slice P2 a.2.length d2) := bxx0_8.cell 1
    have q37 : w9.cell? ⟨w7.heap.size, 0, none⟩ = some (.int .i64 b.1) := bxx1_8.cell 0
    have q38 : w9.cell? ⟨w7.heap.size, 1, none⟩ = some (.slice P3 b.2.length d3) := bxx1_8.cell 1
    go_wp2_with (fail)
    clear q29 q30 q31 q32 q33 q34 q35 q36 q37 q38
    obtain ⟨w10, hw_w10⟩ : ∃ W', W' = w9.alloc (Obj.cells #[Value.int IntKind.i64 R0.1, Value.slice Q4_0 R0.2.length f4_0] 27) := ⟨_, rfl⟩
    rw [← hw_w10]
    have hb_w10 : Below w9.heap.size w9 w10 := by rw [hw_w10]; exact below1 _ _
    have bg0_n : Blk w10 w9.heap.size 27 #[.int .i64 R0.1, .slice Q4_0 R0.2.length f4_0] := by rw [hw_w10]; exact Blk.new _ _ _
    have bg0_nl := bg0_n.lt
    clear hw_w10
    have s_w10 := hb_w10.size
    have bx0_9 := bx0_8.below hb_w10 (by first | exact bx0_8.lt | omega)
    clear bx0_8
    have bx0_9_l := bx0_9.lt
    have bx1_9 := bx1_8.below hb_w10 (by first | exact bx1_8.lt | omega)
    clear bx1_8
    have bx1_9_l := bx1_9.lt
    have w0_9 := w0_8.below hb_w10 (by omega)
    clear w0_8
    have bw0_9 := bw0_8.below hb_w10 (by first | exact bw0_8.lt | omega)
    clear bw0_8
    have bw0_9_l := bw0_9.lt
    have x0_9 := x0_8.below hb_w10 (by omega)
    clear x0_8
    have bxx0_9 := bxx0_8.below hb_w10 (by first | exact bxx0_8.lt | omega)
    clear bxx0_8
    have bxx0_9_l := bxx0_9.lt
    have x1_9 := x1_8.below hb_w10 (by omega)
    clear x1_8
    have bxx1_9 := bxx1_8.below hb_w10 (by first | exact bxx1_8.lt | omega)
    clear bxx1_8
    have bxx1_9_l := bxx1_9.lt
    have g0_9 := o4_0.below hb_w10 (by omega)
    clear o4_0
    have B_w10 := bthen B_w9 hb_w10
    refine (eqRel_any _ _ R0 R0 _ ⟨_, rfl, g0_9.rd.more (by omega)⟩ ⟨_, rfl, w0_9.rd.more (by omega)⟩ rfl (by omega)).mono ?_
    rintro e w11 ⟨rfl, hb5⟩
    rw [show decide (R0 = R0) = true by simp]
    have s_w11 := hb5.size
    have bx0_10 := bx0_9.below hb5 (by first | exact bx0_9.lt | omega)
    clear bx0_9
    have bx0_10_l := bx0_10.lt
    have bx1_10 := bx1_9.below hb5 (by first | exact bx1_9.lt | omega)
    clear bx1_9
    have bx1_10_l := bx1_10.lt
    have w0_10 := w0_9.below hb5 (by omega)
    clear w0_9
    have bw0_10 := bw0_9.below hb5 (by first | exact bw0_9.lt | omega)
    clear bw0_9
    have bw0_10_l := bw0_10.lt
    have x0_10 := x0_9.below hb5 (by omega)
    clear x0_9
    have bxx0_10 := bxx0_9.below hb5 (by first | exact bxx0_9.lt | omega)
    clear bxx0_9
    have bxx0_10_l := bxx0_10.lt
    have x1_10 := x1_9.below hb5 (by omega)
    clear x1_9
    have bxx1_10 := bxx1_9.below hb5 (by first | exact bxx1_9.lt | omega)
    clear bxx1_9
    have bxx1_10_l := bxx1_10.lt
    have g0_10 := g0_9.below hb5 (by omega)
    clear g0_9
    have bg0_10 := bg0_n.below hb5 (by first | exact bg0_n.lt | omega)
    clear bg0_n
    have bg0_10_l := bg0_10.lt
    have B_w11 := bthen B_w10 hb5
    have q39 : w11.cell? ⟨w.heap.size, 0, none⟩ = some (.int .i64 a.1) := bx0_10.cell 0
    have q40 : w11.cell? ⟨w.heap.size, 1, none⟩ = some (.slice A0 a.2.length c0) := bx0_10.cell 1
    have q41 : w11.cell? ⟨w.heap.size + 1, 0, none⟩ = some (.int .i64 b.1) := bx1_10.cell 0
    have q42 : w11.cell? ⟨w.heap.size + 1, 1, none⟩ = some (.slice A1 b.2.length c1) := bx1_10.cell 1
    have q43 : w11.cell? ⟨gx1, 0, none⟩ = some (.int .i64 R0.1) := bw0_10.cell 0
    have q44 : w11.cell? ⟨gx1, 1, none⟩ = some (.slice Q1 R0.2.length f1) := bw0_10.cell 1
    have q45 : w11.cell? ⟨w5.heap.size, 0, none⟩ = some (.int .i64 a.1) := bxx0_10.cell 0
    have q46 : w11.cell? ⟨w5.heap.size, 1, none⟩ = some (.slice P2 a.2.length d2) := bxx0_10.cell 1
    have q47 : w11.cell? ⟨w7.heap.size, 0, none⟩ = some (.int .i64 b.1) := bxx1_10.cell 0
    have q48 : w11.cell? ⟨w7.heap.size, 1, none⟩ = some (.slice P3 b.2.length d3) := bxx1_10.cell 1
    have q49 : w11.cell? ⟨w9.heap.size, 0, none⟩ = some (.int .i64 R0.1) := bg0_10.cell 0
    have q50 : w11.cell? ⟨w9.heap.size, 1, none⟩ = some (.slice Q4_0 R0.2.length f4_0) := bg0_10.cell 1
    go_upto_region 14 with fail
    clear q39 q40 q41 q42 q43 q44 q45 q46 q47 q48 q49 q50
    have HS_w11 := Lib.hid (show ∀ W, Below w11.heap.size w11 W → (Below w11.heap.size w11 W ∧ W.cell? ⟨w.heap.size, 0, none⟩ = some (.int .i64 a.1) ∧ W.cell? ⟨w.heap.size, 1, none⟩ = some (.slice A0 a.2.length c0) ∧ W.cell? ⟨w.heap.size + 1, 0, none⟩ = some (.int .i64 b.1) ∧ W.cell? ⟨w.heap.size + 1, 1, none⟩ = some (.slice A1 b.2.length c1) ∧ W.cell? ⟨gx1, 0, none⟩ = some (.int .i64 R0.1) ∧ W.cell? ⟨gx1, 1, none⟩ = some (.slice Q1 R0.2.length f1) ∧ W.cell? ⟨w5.heap.size, 0, none⟩ = some (.int .i64 a.1) ∧ W.cell? ⟨w5.heap.size, 1, none⟩ = some (.slice P2 a.2.length d2) ∧ W.cell? ⟨w7.heap.size, 0, none⟩ = some (.int .i64 b.1) ∧ W.cell? ⟨w7.heap.size, 1, none⟩ = some (.slice P3 b.2.length d3) ∧ W.cell? ⟨w9.heap.size, 0, none⟩ = some (.int .i64 R0.1) ∧ W.cell? ⟨w9.heap.size, 1, none⟩ = some (.slice Q4_0 R0.2.length f4_0)) from fun W hW => ⟨hW, (bx0_10.below hW bx0_10_l).cell 0, (bx0_10.below hW bx0_10_l).cell 1, (bx1_10.below hW bx1_10_l).cell 0, (bx1_10.below hW bx1_10_l).cell 1, (bw0_10.below hW bw0_10_l).cell 0, (bw0_10.below hW bw0_10_l).cell 1, (bxx0_10.below hW bxx0_10_l).cell 0, (bxx0_10.below hW bxx0_10_l).cell 1, (bxx1_10.below hW bxx1_10_l).cell 0, (bxx1_10.below hW bxx1_10_l).cell 1, (bg0_10.below hW bg0_10_l).cell 0, (bg0_10.below hW bg0_10_l).cell 1⟩)
    have RX_w11 := Lib.hid (show RdRel w11 w11.heap.size (.agg #[.int .i64 a.1, .slice P2 a.2.length d2]) a from ⟨_, rfl, x0_10.rd.more (by omega)⟩)
    go_cut [58] (fun s wx => s = .bool false ∧ Below w11.heap.size w11 wx)
    case first =>
      go_region_held3 (fun W => Below w11.heap.size w11 W ∧ W.cell? ⟨w.heap.size, 0, none⟩ = some (.int .i64 a.1) ∧ W.cell? ⟨w.heap.size, 1, none⟩ = some (.slice A0 a.2.length c0) ∧ W.cell? ⟨w.heap.size + 1, 0, none⟩ = some (.int .i64 b.1) ∧ W.cell? ⟨w.heap.size + 1, 1, none⟩ = some (.slice A1 b.2.length c1) ∧ W.cell? ⟨gx1, 0, none⟩ = some (.int .i64 R0.1) ∧ W.cell? ⟨gx1, 1, none⟩ = some (.slice Q1 R0.2.length f1) ∧ W.cell? ⟨w5.heap.size, 0, none⟩ = some (.int .i64 a.1) ∧ W.cell? ⟨w5.heap.size, 1, none⟩ = some (.slice P2 a.2.length d2) ∧ W.cell? ⟨w7.heap.size, 0, none⟩ = some (.int .i64 b.1) ∧ W.cell? ⟨w7.heap.size, 1, none⟩ = some (.slice P3 b.2.length d3) ∧ W.cell? ⟨w9.heap.size, 0, none⟩ = some (.int .i64 R0.1) ∧ W.cell? ⟨w9.heap.size, 1, none⟩ = some (.slice Q4_0 R0.2.length f4_0))
        (first | exact HS_w11.out _ (Below.refl _ _) | exact HS_w11.out _ (Below.refl _ _).drew | exact HS_w11.out _ (bthen (And.left (by assumption)) (by assumption)))
        (first
          | (go_at_call 15; refine (toRel_any _ a _ ?_ (by omega)).mono ?_; exact H0.out.on (bthen B_w11 (And.left (by assumption))); rintro e wf ⟨Af, cf, rfl, hof, hbf⟩)
          | (go_at_call 17; refine (eqRel_any _ _ a a _ ?_ ?_ rfl (by omega)).mono ?_; exact (RX_w11.out.on (And.left (by assumption))); exact ⟨_, rfl, hof.rd⟩; rw [show decide (a = a) = true by simp]; rintro e wg ⟨rfl, hbg⟩))
      all_goals (go_wp2_with fail; go_meet; exact ⟨rfl, And.left (by assumption)⟩)
    case rest =>
      obtain ⟨rfl, hb6⟩ := hcut
      clear HS_w11 RX_w11
      generalize wc = w12 at *
      have s_w12 := hb6.size
      have bx0_11 := bx0_10.below hb6 (by first | exact bx0_10.lt | omega)
      clear bx0_10
      have bx0_11_l := bx0_11.lt
      have bx1_11 := bx1_10.below hb6 (by first | exact bx1_10.lt | omega)
      clear bx1_10
      have bx1_11_l := bx1_11.lt
      have w0_11 := w0_10.below hb6 (by omega)
      clear w0_10
      have bw0_11 := bw0_10.below hb6 (by first | exact bw0_10.lt | omega)
      clear bw0_10
      have bw0_11_l := bw0_11.lt
      have x0_11 := x0_10.below hb6 (by omega)
      clear x0_10
      have bxx0_11 := bxx0_10.below hb6 (by first | exact bxx0_10.lt | omega)
      clear bxx0_10
      have bxx0_11_l := bxx0_11.lt
      have x1_11 := x1_10.below hb6 (by omega)
      clear x1_10
      have bxx1_11 := bxx1_10.below hb6 (by first | exact bxx1_10.lt | omega)
      clear bxx1_10
      have bxx1_11_l := bxx1_11.lt
      have g0_11 := g0_10.below hb6 (by omega)
      clear g0_10
      have bg0_11 := bg0_10.below hb6 (by first | exact bg0_10.lt | omega)
      clear bg0_10
      have bg0_11_l := bg0_11.lt
      have B_w12 := bthen B_w11 hb6
      have q51 : w12.cell? ⟨w.heap.size, 0, none⟩ = some (.int .i64 a.1) := bx0_11.cell 0
      have q52 : w12.cell? ⟨w.heap.size, 1, none⟩ = some (.slice A0 a.2.length c0) := bx0_11.cell 1
      have q53 : w12.cell? ⟨w.heap.size + 1, 0, none⟩ = some (.int .i64 b.1) := bx1_11.cell 0
      have q54 : w12.cell? ⟨w.heap.size + 1, 1, none⟩ = some (.slice A1 b.2.length c1) := bx1_11.cell 1
      have q55 : w12.cell? ⟨gx1, 0, none⟩ = some (.int .i64 R0.1) := bw0_11.cell 0
      have q56 : w12.cell? ⟨gx1, 1, none⟩ = some (.slice Q1 R0.2.length f1) := bw0_11.cell 1
      have q57 : w12.cell? ⟨w5.heap.size, 0, none⟩ = some (.int .i64 a.1) := bxx0_11.cell 0
      have q58 : w12.cell? ⟨w5.heap.size, 1, none⟩ = some (.slice P2 a.2.length d2) := bxx0_11.cell 1
      have q59 : w12.cell? ⟨w7.heap.size, 0, none⟩ = some (.int .i64 b.1) := bxx1_11.cell 0
      have q60 : w12.cell? ⟨w7.heap.size, 1, none⟩ = some (.slice P3 b.2.length d3) := bxx1_11.cell 1
      have q61 : w12.cell? ⟨w9.heap.size, 0, none⟩ = some (.int .i64 R0.1) := bg0_11.cell 0
      have q62 : w12.cell? ⟨w9.heap.size, 1, none⟩ = some (.slice Q4_0 R0.2.length f4_0) := bg0_11.cell 1
      go_upto_region 16 with fail
      clear q51 q52 q53 q54 q55 q56 q57 q58 q59 q60 q61 q62
      have HS_w12 := Lib.hid (show ∀ W, Below w12.heap.size w12 W → (Below w12.heap.size w12 W ∧ W.cell? ⟨w.heap.size, 0, none⟩ = some (.int .i64 a.1) ∧ W.cell? ⟨w.heap.size, 1, none⟩ = some (.slice A0 a.2.length c0) ∧ W.cell? ⟨w.heap.size + 1, 0, none⟩ = some (.int .i64 b.1) ∧ W.cell? ⟨w.heap.size + 1, 1, none⟩ = some (.slice A1 b.2.length c1) ∧ W.cell? ⟨gx1, 0, none⟩ = some (.int .i64 R0.1) ∧ W.cell? ⟨gx1, 1, none⟩ = some (.slice Q1 R0.2.length f1) ∧ W.cell? ⟨w5.heap.size, 0, none⟩ = some (.int .i64 a.1) ∧ W.cell? ⟨w5.heap.size, 1, none⟩ = some (.slice P2 a.2.length d2) ∧ W.cell? ⟨w7.heap.size, 0, none⟩ = some (.int .i64 b.1) ∧ W.cell? ⟨w7.heap.size, 1, none⟩ = some (.slice P3 b.2.length d3) ∧ W.cell? ⟨w9.heap.size, 0, none⟩ = some (.int .i64 R0.1) ∧ W.cell? ⟨w9.heap.size, 1, none⟩ = some (.slice Q4_0 R0.2.length f4_0)) from fun W hW => ⟨hW, (bx0_11.below hW bx0_11_l).cell 0, (bx0_11.below hW bx0_11_l).cell 1, (bx1_11.below hW bx1_11_l).cell 0, (bx1_11.below hW bx1_11_l).cell 1, (bw0_11.below hW bw0_11_l).cell 0, (bw0_11.below hW bw0_11_l).cell 1, (bxx0_11.below hW bxx0_11_l).cell 0, (bxx0_11.below hW bxx0_11_l).cell 1, (bxx1_11.below hW bxx1_11_l).cell 0, (bxx1_11.below hW bxx1_11_l).cell 1, (bg0_11.below hW bg0_11_l).cell 0, (bg0_11.below hW bg0_11_l).cell 1⟩)
      have RX_w12 := Lib.hid (show RdRel w12 w12.heap.size (.agg #[.int .i64 b.1, .slice P3 b.2.length d3]) b from ⟨_, rfl, x1_11.rd.more (by omega)⟩)
      go_cut [63] (fun s wx => s = .bool false ∧ Below w12.heap.size w12 wx)
      case first =>
        go_region_held3 (fun W => Below w12.heap.size w12 W ∧ W.cell? ⟨w.heap.size, 0, none⟩ = some (.int .i64 a.1) ∧ W.cell? ⟨w.heap.size, 1, none⟩ = some (.slice A0 a.2.length c0) ∧ W.cell? ⟨w.heap.size + 1, 0, none⟩ = some (.int .i64 b.1) ∧ W.cell? ⟨w.heap.size + 1, 1, none⟩ = some (.slice A1 b.2.length c1) ∧ W.cell? ⟨gx1, 0, none⟩ = some (.int .i64 R0.1) ∧ W.cell? ⟨gx1, 1, none⟩ = some (.slice Q1 R0.2.length f1) ∧ W.cell? ⟨w5.heap.size, 0, none⟩ = some (.int .i64 a.1) ∧ W.cell? ⟨w5.heap.size, 1, none⟩ = some (.slice P2 a.2.length d2) ∧ W.cell? ⟨w7.heap.size, 0, none⟩ = some (.int .i64 b.1) ∧ W.cell? ⟨w7.heap.size, 1, none⟩ = some (.slice P3 b.2.length d3) ∧ W.cell? ⟨w9.heap.size, 0, none⟩ = some (.int .i64 R0.1) ∧ W.cell? ⟨w9.heap.size, 1, none⟩ = some (.slice Q4_0 R0.2.length f4_0))
          (first | exact HS_w12.out _ (Below.refl _ _) | exact HS_w12.out _ (Below.refl _ _).drew | exact HS_w12.out _ (bthen (And.left (by assumption)) (by assumption)))
          (first
            | (go_at_call 15; refine (toRel_any _ b _ ?_ (by omega)).mono ?_; exact H1.out.on (bthen B_w12 (And.left (by assumption))); rintro e wf ⟨Af, cf, rfl, hof, hbf⟩)
            | (go_at_call 17; refine (eqRel_any _ _ b b _ ?_ ?_ rfl (by omega)).mono ?_; exact (RX_w12.out.on (And.left (by assumption))); exact ⟨_, rfl, hof.rd⟩; rw [show decide (b = b) = true by simp]; rintro e wg ⟨rfl, hbg⟩))
        all_goals (go_wp2_with fail; go_meet; exact ⟨rfl, And.left (by assumption)⟩)
      case rest =>
        obtain ⟨rfl, hb7⟩ := hcut
        clear HS_w12 RX_w12
        generalize wc = w13 at *
        have s_w13 := hb7.size
        have bx0_12 := bx0_11.below hb7 (by first | exact bx0_11.lt | omega)
        clear bx0_11
        have bx0_12_l := bx0_12.lt
        have bx1_12 := bx1_11.below hb7 (by first | exact bx1_11.lt | omega)
        clear bx1_11
        have bx1_12_l := bx1_12.lt
        have w0_12 := w0_11.below hb7 (by omega)
        clear w0_11
        have bw0_12 := bw0_11.below hb7 (by first | exact bw0_11.lt | omega)
        clear bw0_11
        have bw0_12_l := bw0_12.lt
        have x0_12 := x0_11.below hb7 (by omega)
        clear x0_11
        have bxx0_12 := bxx0_11.below hb7 (by first | exact bxx0_11.lt | omega)
        clear bxx0_11
        have bxx0_12_l := bxx0_12.lt
        have x1_12 := x1_11.below hb7 (by omega)
        clear x1_11
        have bxx1_12 := bxx1_11.below hb7 (by first | exact bxx1_11.lt | omega)
        clear bxx1_11
        have bxx1_12_l := bxx1_12.lt
        have g0_12 := g0_11.below hb7 (by omega)
        clear g0_11
        have bg0_12 := bg0_11.below hb7 (by first | exact bg0_11.lt | omega)
        clear bg0_11
        have bg0_12_l := bg0_12.lt
        have B_w13 := bthen B_w12 hb7
        have q63 : w13.cell? ⟨w.heap.size, 0, none⟩ = some (.int .i64 a.1) := bx0_12.cell 0
        have q64 : w13.cell? ⟨w.heap.size, 1, none⟩ = some (.slice A0 a.2.length c0) := bx0_12.cell 1
        have q65 : w13.cell? ⟨w.heap.size + 1, 0, none⟩ = some (.int .i64 b.1) := bx1_12.cell 0
        have q66 : w13.cell? ⟨w.heap.size + 1, 1, none⟩ = some (.slice A1 b.2.length c1) := bx1_12.cell 1
        have q67 : w13.cell? ⟨gx1, 0, none⟩ = some (.int .i64 R0.1) := bw0_12.cell 0
        have q68 : w13.cell? ⟨gx1, 1, none⟩ = some (.slice Q1 R0.2.length f1) := bw0_12.cell 1
        have q69 : w13.cell? ⟨w5.heap.size, 0, none⟩ = some (.int .i64 a.1) := bxx0_12.cell 0
        have q70 : w13.cell? ⟨w5.heap.size, 1, none⟩ = some (.slice P2 a.2.length d2) := bxx0_12.cell 1
        have q71 : w13.cell? ⟨w7.heap.size, 0, none⟩ = some (.int .i64 b.1) := bxx1_12.cell 0
        have q72 : w13.cell? ⟨w7.heap.size, 1, none⟩ = some (.slice P3 b.2.length d3) := bxx1_12.cell 1
        have q73 : w13.cell? ⟨w9.heap.size, 0, none⟩ = some (.int .i64 R0.1) := bg0_12.cell 0
        have q74 : w13.cell? ⟨w9.heap.size, 1, none⟩ = some (.slice Q4_0 R0.2.length f4_0) := bg0_12.cell 1
        go_wp2_with (fail)
        clear q63 q64 q65 q66 q67 q68 q69 q70 q71 q72 q73 q74
        refine (um_rel 1 x0_12 (by omega) (by omega) (by omega) (by omega)).mono ?_
        rintro e w14 ⟨k8, rfl, ka8, kb8, _, on8⟩
        have s_w14 := on8.size
        have bx0_13 := bx0_12.only on8 (by first | exact .inl (by omega) | exact .inr (by omega) | omega)
        clear bx0_12
        have bx0_13_l := bx0_13.lt
        have bx1_13 := bx1_12.only on8 (by first | exact .inl (by omega) | exact .inr (by omega) | omega)
        clear bx1_12
        have bx1_13_l := bx1_13.lt
        have w0_13 := w0_12.only on8 (by first | exact .inl (by omega) | exact .inr (by omega) | omega)
        clear w0_12
        have bw0_13 := bw0_12.only on8 (by first | exact .inl (by omega) | exact .inr (by omega) | omega)
        clear bw0_12
        have bw0_13_l := bw0_13.lt
        have bxx0_13 := bxx0_12.only on8 (by first | exact .inl (by omega) | exact .inr (by omega) | omega)
        clear bxx0_12
        have bxx0_13_l := bxx0_13.lt
        have x1_13 := x1_12.only on8 (by first | exact .inl (by omega) | exact .inr (by omega) | omega)
        clear x1_12
        have bxx1_13 := bxx1_12.only on8 (by first | exact .inl (by omega) | exact .inr (by omega) | omega)
        clear bxx1_12
        have bxx1_13_l := bxx1_13.lt
        have g0_13 := g0_12.only on8 (by first | exact .inl (by omega) | exact .inr (by omega) | omega)
        clear g0_12
        have bg0_13 := bg0_12.only on8 (by first | exact .inl (by omega) | exact .inr (by omega) | omega)
        clear bg0_12
        have bg0_13_l := bg0_13.lt
        have B_w14 := Only.then_ B_w13 on8 (by omega)
        have q75 : w14.cell? ⟨w.heap.size, 0, none⟩ = some (.int .i64 a.1) := bx0_13.cell 0
        have q76 : w14.cell? ⟨w.heap.size, 1, none⟩ = some (.slice A0 a.2.length c0) := bx0_13.cell 1
        have q77 : w14.cell? ⟨w.heap.size + 1, 0, none⟩ = some (.int .i64 b.1) := bx1_13.cell 0
        have q78 : w14.cell? ⟨w.heap.size + 1, 1, none⟩ = some (.slice A1 b.2.length c1) := bx1_13.cell 1
        have q79 : w14.cell? ⟨gx1, 0, none⟩ = some (.int .i64 R0.1) := bw0_13.cell 0
        have q80 : w14.cell? ⟨gx1, 1, none⟩ = some (.slice Q1 R0.2.length f1) := bw0_13.cell 1
        have q81 : w14.cell? ⟨w5.heap.size, 0, none⟩ = some (.int .i64 a.1) := bxx0_13.cell 0
        have q82 : w14.cell? ⟨w5.heap.size, 1, none⟩ = some (.slice P2 a.2.length d2) := bxx0_13.cell 1
        have q83 : w14.cell? ⟨w7.heap.size, 0, none⟩ = some (.int .i64 b.1) := bxx1_13.cell 0
        have q84 : w14.cell? ⟨w7.heap.size, 1, none⟩ = some (.slice P3 b.2.length d3) := bxx1_13.cell 1
        have q85 : w14.cell? ⟨w9.heap.size, 0, none⟩ = some (.int .i64 R0.1) := bg0_13.cell 0
        have q86 : w14.cell? ⟨w9.heap.size, 1, none⟩ = some (.slice Q4_0 R0.2.length f4_0) := bg0_13.cell 1
        go_wp2_with (fail)
        clear q75 q76 q77 q78 q79 q80 q81 q82 q83 q84 q85 q86
        refine (um_rel k8 x1_13 (by omega) (by omega) (by omega) (by omega)).mono ?_
        rintro e w15 ⟨k9, rfl, ka9, kb9, _, on9⟩
        have s_w15 := on9.size
        have bx0_14 := bx0_13.only on9 (by first | exact .inl (by omega) | exact .inr (by omega) | omega)
        clear bx0_13
        have bx0_14_l := bx0_14.lt
        have bx1_14 := bx1_13.only on9 (by first | exact .inl (by omega) | exact .inr (by omega) | omega)
        clear bx1_13
        have bx1_14_l := bx1_14.lt
        have w0_14 := w0_13.only on9 (by first | exact .inl (by omega) | exact .inr (by omega) | omega)
        clear w0_13
        have bw0_14 := bw0_13.only on9 (by first | exact .inl (by omega) | exact .inr (by omega) | omega)
        clear bw0_13
        have bw0_14_l := bw0_14.lt
        have bxx0_14 := bxx0_13.only on9 (by first | exact .inl (by omega) | exact .inr (by omega) | omega)
        clear bxx0_13
        have bxx0_14_l := bxx0_14.lt
        have bxx1_14 := bxx1_13.only on9 (by first | exact .inl (by omega) | exact .inr (by omega) | omega)
        clear bxx1_13
        have bxx1_14_l := bxx1_14.lt
        have g0_14 := g0_13.only on9 (by first | exact .inl (by omega) | exact .inr (by omega) | omega)
        clear g0_13
        have bg0_14 := bg0_13.only on9 (by first | exact .inl (by omega) | exact .inr (by omega) | omega)
        clear bg0_13
        have bg0_14_l := bg0_14.lt
        have B_w15 := Only.then_ B_w14 on9 (by omega)
        have kn : ¬ k9 < 0 := by omega
        have kd : decide (k9 < 0) = false := by simp; omega
        have q87 : w15.cell? ⟨w.heap.size, 0, none⟩ = some (.int .i64 a.1) := bx0_14.cell 0
        have q88 : w15.cell? ⟨w.heap.size, 1, none⟩ = some (.slice A0 a.2.length c0) := bx0_14.cell 1
        have q89 : w15.cell? ⟨w.heap.size + 1, 0, none⟩ = some (.int .i64 b.1) := bx1_14.cell 0
        have q90 : w15.cell? ⟨w.heap.size + 1, 1, none⟩ = some (.slice A1 b.2.length c1) := bx1_14.cell 1
        have q91 : w15.cell? ⟨gx1, 0, none⟩ = some (.int .i64 R0.1) := bw0_14.cell 0
        have q92 : w15.cell? ⟨gx1, 1, none⟩ = some (.slice Q1 R0.2.length f1) := bw0_14.cell 1
        have q93 : w15.cell? ⟨w5.heap.size, 0, none⟩ = some (.int .i64 a.1) := bxx0_14.cell 0
        have q94 : w15.cell? ⟨w5.heap.size, 1, none⟩ = some (.slice P2 a.2.length d2) := bxx0_14.cell 1
        have q95 : w15.cell? ⟨w7.heap.size, 0, none⟩ = some (.int .i64 b.1) := bxx1_14.cell 0
        have q96 : w15.cell? ⟨w7.heap.size, 1, none⟩ = some (.slice P3 b.2.length d3) := bxx1_14.cell 1
        have q97 : w15.cell? ⟨w9.heap.size, 0, none⟩ = some (.int .i64 R0.1) := bg0_14.cell 0
        have q98 : w15.cell? ⟨w9.heap.size, 1, none⟩ = some (.slice Q4_0 R0.2.length f4_0) := bg0_14.cell 1
        go_wp2_with (fail)
        clear q87 q88 q89 q90 q91 q92 q93 q94 q95 q96 q97 q98
        refine (eqRel_any _ _ R0 R0 _ ⟨_, rfl, g0_14.rd.more (by omega)⟩ ⟨_, rfl, w0_14.rd.more (by omega)⟩ rfl (by omega)).mono ?_
        rintro e w16 ⟨rfl, hb10⟩
        rw [show decide (R0 = R0) = true by simp]
        have s_w16 := hb10.size
        have bx0_15 := bx0_14.below hb10 (by first | exact bx0_14.lt | omega)
        clear bx0_14
        have bx0_15_l := bx0_15.lt
        have bx1_15 := bx1_14.below hb10 (by first | exact bx1_14.lt | omega)
        clear bx1_14
        have bx1_15_l := bx1_15.lt
        have w0_15 := w0_14.below hb10 (by omega)
        clear w0_14
        have bw0_15 := bw0_14.below hb10 (by first | exact bw0_14.lt | omega)
        clear bw0_14
        have bw0_15_l := bw0_15.lt
        have bxx0_15 := bxx0_14.below hb10 (by first | exact bxx0_14.lt | omega)
        clear bxx0_14
        have bxx0_15_l := bxx0_15.lt
        have bxx1_15 := bxx1_14.below hb10 (by first | exact bxx1_14.lt | omega)
        clear bxx1_14
        have bxx1_15_l := bxx1_15.lt
        have g0_15 := g0_14.below hb10 (by omega)
        clear g0_14
        have bg0_15 := bg0_14.below hb10 (by first | exact bg0_14.lt | omega)
        clear bg0_14
        have bg0_15_l := bg0_15.lt
        have B_w16 := bthen B_w15 hb10
        have q99 : w16.cell? ⟨w.heap.size, 0, none⟩ = some (.int .i64 a.1) := bx0_15.cell 0
        have q100 : w16.cell? ⟨w.heap.size, 1, none⟩ = some (.slice A0 a.2.length c0) := bx0_15.cell 1
        have q101 : w16.cell? ⟨w.heap.size + 1, 0, none⟩ = some (.int .i64 b.1) := bx1_15.cell 0
        have q102 : w16.cell? ⟨w.heap.size + 1, 1, none⟩ = some (.slice A1 b.2.length c1) := bx1_15.cell 1
        have q103 : w16.cell? ⟨gx1, 0, none⟩ = some (.int .i64 R0.1) := bw0_15.cell 0
        have q104 : w16.cell? ⟨gx1, 1, none⟩ = some (.slice Q1 R0.2.length f1) := bw0_15.cell 1
        have q105 : w16.cell? ⟨w5.heap.size, 0, none⟩ = some (.int .i64 a.1) := bxx0_15.cell 0
        have q106 : w16.cell? ⟨w5.heap.size, 1, none⟩ = some (.slice P2 a.2.length d2) := bxx0_15.cell 1
        have q107 : w16.cell? ⟨w7.heap.size, 0, none⟩ = some (.int .i64 b.1) := bxx1_15.cell 0
        have q108 : w16.cell? ⟨w7.heap.size, 1, none⟩ = some (.slice P3 b.2.length d3) := bxx1_15.cell 1
        have q109 : w16.cell? ⟨w9.heap.size, 0, none⟩ = some (.int .i64 R0.1) := bg0_15.cell 0
        have q110 : w16.cell? ⟨w9.heap.size, 1, none⟩ = some (.slice Q4_0 R0.2.length f4_0) := bg0_15.cell 1
        go_wp2_with (fail)
        clear q99 q100 q101 q102 q103 q104 q105 q106 q107 q108 q109 q110
        refine (um_rel 1 g0_15 (by omega) (by omega) (by omega) (by have := HRs0.out; omega)).mono ?_
        rintro e w17 ⟨m11, rfl, ma11, mb11, hd11, on11⟩
        have mb11' := HRs0.out
        have s_w17 := on11.size
        have bx0_16 := bx0_15.only on11 (by first | exact .inl (by omega) | exact .inr (by omega) | omega)
        clear bx0_15
        have bx0_16_l := bx0_16.lt
        have bx1_16 := bx1_15.only on11 (by first | exact .inl (by omega) | exact .inr (by omega) | omega)
        clear bx1_15
        have bx1_16_l := bx1_16.lt
        have w0_16 := w0_15.only on11 (by first | exact .inl (by omega) | exact .inr (by omega) | omega)
        clear w0_15
        have bw0_16 := bw0_15.only on11 (by first | exact .inl (by omega) | exact .inr (by omega) | omega)
        clear bw0_15
        have bw0_16_l := bw0_16.lt
        have bxx0_16 := bxx0_15.only on11 (by first | exact .inl (by omega) | exact .inr (by omega) | omega)
        clear bxx0_15
        have bxx0_16_l := bxx0_16.lt
        have bxx1_16 := bxx1_15.only on11 (by first | exact .inl (by omega) | exact .inr (by omega) | omega)
        clear bxx1_15
        have bxx1_16_l := bxx1_16.lt
        have bg0_16 := bg0_15.only on11 (by first | exact .inl (by omega) | exact .inr (by omega) | omega)
        clear bg0_15
        have bg0_16_l := bg0_16.lt
        have B_w17 := Only.then_ B_w16 on11 (by omega)
        have mn : ¬ m11 < 0 := by omega
        have me : (m11 != m11) = false := by simp
        have q111 : w17.cell? ⟨w.heap.size, 0, none⟩ = some (.int .i64 a.1) := bx0_16.cell 0
        have q112 : w17.cell? ⟨w.heap.size, 1, none⟩ = some (.slice A0 a.2.length c0) := bx0_16.cell 1
        have q113 : w17.cell? ⟨w.heap.size + 1, 0, none⟩ = some (.int .i64 b.1) := bx1_16.cell 0
        have q114 : w17.cell? ⟨w.heap.size + 1, 1, none⟩ = some (.slice A1 b.2.length c1) := bx1_16.cell 1
        have q115 : w17.cell? ⟨gx1, 0, none⟩ = some (.int .i64 R0.1) := bw0_16.cell 0
        have q116 : w17.cell? ⟨gx1, 1, none⟩ = some (.slice Q1 R0.2.length f1) := bw0_16.cell 1
        have q117 : w17.cell? ⟨w5.heap.size, 0, none⟩ = some (.int .i64 a.1) := bxx0_16.cell 0
        have q118 : w17.cell? ⟨w5.heap.size, 1, none⟩ = some (.slice P2 a.2.length d2) := bxx0_16.cell 1
        have q119 : w17.cell? ⟨w7.heap.size, 0, none⟩ = some (.int .i64 b.1) := bxx1_16.cell 0
        have q120 : w17.cell? ⟨w7.heap.size, 1, none⟩ = some (.slice P3 b.2.length d3) := bxx1_16.cell 1
        have q121 : w17.cell? ⟨w9.heap.size, 0, none⟩ = some (.int .i64 R0.1) := bg0_16.cell 0
        have q122 : w17.cell? ⟨w9.heap.size, 1, none⟩ = some (.slice Q4_0 R0.2.length f4_0) := bg0_16.cell 1
        go_wp2_with (fail)
        clear q111 q112 q113 q114 q115 q116 q117 q118 q119 q120 q121 q122
        refine (uh_rel hd11 (by omega)).mono ?_
        rintro e w18 ⟨rfl, hb12⟩
        have s_w18 := hb12.size
        have bx0_17 := bx0_16.below hb12 (by first | exact bx0_16.lt | omega)
        clear bx0_16
        have bx0_17_l := bx0_17.lt
        have bx1_17 := bx1_16.below hb12 (by first | exact bx1_16.lt | omega)
        clear bx1_16
        have bx1_17_l := bx1_17.lt
        have w0_17 := w0_16.below hb12 (by omega)
        clear w0_16
        have bw0_17 := bw0_16.below hb12 (by first | exact bw0_16.lt | omega)
        clear bw0_16
        have bw0_17_l := bw0_17.lt
        have bxx0_17 := bxx0_16.below hb12 (by first | exact bxx0_16.lt | omega)
        clear bxx0_16
        have bxx0_17_l := bxx0_17.lt
        have bxx1_17 := bxx1_16.below hb12 (by first | exact bxx1_16.lt | omega)
        clear bxx1_16
        have bxx1_17_l := bxx1_17.lt
        have bg0_17 := bg0_16.below hb12 (by first | exact bg0_16.lt | omega)
        clear bg0_16
        have bg0_17_l := bg0_17.lt
        have d0_17 := hd11.below hb12 (by omega)
        clear hd11
        have B_w18 := bthen B_w17 hb12
        have q123 : w18.cell? ⟨w.heap.size, 0, none⟩ = some (.int .i64 a.1) := bx0_17.cell 0
        have q124 : w18.cell? ⟨w.heap.size, 1, none⟩ = some (.slice A0 a.2.length c0) := bx0_17.cell 1
        have q125 : w18.cell? ⟨w.heap.size + 1, 0, none⟩ = some (.int .i64 b.1) := bx1_17.cell 0
        have q126 : w18.cell? ⟨w.heap.size + 1, 1, none⟩ = some (.slice A1 b.2.length c1) := bx1_17.cell 1
        have q127 : w18.cell? ⟨gx1, 0, none⟩ = some (.int .i64 R0.1) := bw0_17.cell 0
        have q128 : w18.cell? ⟨gx1, 1, none⟩ = some (.slice Q1 R0.2.length f1) := bw0_17.cell 1
        have q129 : w18.cell? ⟨w5.heap.size, 0, none⟩ = some (.int .i64 a.1) := bxx0_17.cell 0
        have q130 : w18.cell? ⟨w5.heap.size, 1, none⟩ = some (.slice P2 a.2.length d2) := bxx0_17.cell 1
        have q131 : w18.cell? ⟨w7.heap.size, 0, none⟩ = some (.int .i64 b.1) := bxx1_17.cell 0
        have q132 : w18.cell? ⟨w7.heap.size, 1, none⟩ = some (.slice P3 b.2.length d3) := bxx1_17.cell 1
        have q133 : w18.cell? ⟨w9.heap.size, 0, none⟩ = some (.int .i64 R0.1) := bg0_17.cell 0
        have q134 : w18.cell? ⟨w9.heap.size, 1, none⟩ = some (.slice Q4_0 R0.2.length f4_0) := bg0_17.cell 1
        go_upto_region 31 with fail
        clear q123 q124 q125 q126 q127 q128 q129 q130 q131 q132 q133 q134
        obtain ⟨SS, hSS⟩ : ∃ SS : World → Prop, SS = (fun W => W.cell? ⟨w.heap.size, 0, none⟩ = some (.int .i64 a.1) ∧ W.cell? ⟨w.heap.size, 1, none⟩ = some (.slice A0 a.2.length c0) ∧ W.cell? ⟨w.heap.size + 1, 0, none⟩ = some (.int .i64 b.1) ∧ W.cell? ⟨w.heap.size + 1, 1, none⟩ = some (.slice A1 b.2.length c1) ∧ W.cell? ⟨gx1, 0, none⟩ = some (.int .i64 R0.1) ∧ W.cell? ⟨gx1, 1, none⟩ = some (.slice Q1 R0.2.length f1) ∧ W.cell? ⟨w5.heap.size, 0, none⟩ = some (.int .i64 a.1) ∧ W.cell? ⟨w5.heap.size, 1, none⟩ = some (.slice P2 a.2.length d2) ∧ W.cell? ⟨w7.heap.size, 0, none⟩ = some (.int .i64 b.1) ∧ W.cell? ⟨w7.heap.size, 1, none⟩ = some (.slice P3 b.2.length d3) ∧ W.cell? ⟨w9.heap.size, 0, none⟩ = some (.int .i64 R0.1) ∧ W.cell? ⟨w9.heap.size, 1, none⟩ = some (.slice Q4_0 R0.2.length f4_0) ∧ True) := ⟨_, rfl⟩
        have HS_w18 := Lib.hid (show ∀ W, Below w18.heap.size w18 W → SS W from by rw [hSS]; exact fun W hW => ⟨(bx0_17.below hW bx0_17_l).cell 0, (bx0_17.below hW bx0_17_l).cell 1, (bx1_17.below hW bx1_17_l).cell 0, (bx1_17.below hW bx1_17_l).cell 1, (bw0_17.below hW bw0_17_l).cell 0, (bw0_17.below hW bw0_17_l).cell 1, (bxx0_17.below hW bxx0_17_l).cell 0, (bxx0_17.below hW bxx0_17_l).cell 1, (bxx1_17.below hW bxx1_17_l).cell 0, (bxx1_17.below hW bxx1_17_l).cell 1, (bg0_17.below hW bg0_17_l).cell 0, (bg0_17.below hW bg0_17_l).cell 1, trivial⟩)
        have HB := Lib.hid (show ∀ W, SS W → (W.cell? ⟨w.heap.size, 0, none⟩ = some (.int .i64 a.1) ∧ W.cell? ⟨w.heap.size, 1, none⟩ = some (.slice A0 a.2.length c0) ∧ W.cell? ⟨w.heap.size + 1, 0, none⟩ = some (.int .i64 b.1) ∧ W.cell? ⟨w.heap.size + 1, 1, none⟩ = some (.slice A1 b.2.length c1) ∧ W.cell? ⟨gx1, 0, none⟩ = some (.int .i64 R0.1) ∧ W.cell? ⟨gx1, 1, none⟩ = some (.slice Q1 R0.2.length f1) ∧ W.cell? ⟨w5.heap.size, 0, none⟩ = some (.int .i64 a.1) ∧ W.cell? ⟨w5.heap.size, 1, none⟩ = some (.slice P2 a.2.length d2) ∧ W.cell? ⟨w7.heap.size, 0, none⟩ = some (.int .i64 b.1) ∧ W.cell? ⟨w7.heap.size, 1, none⟩ = some (.slice P3 b.2.length d3) ∧ W.cell? ⟨w9.heap.size, 0, none⟩ = some (.int .i64 R0.1) ∧ W.cell? ⟨w9.heap.size, 1, none⟩ = some (.slice Q4_0 R0.2.length f4_0) ∧ True) from by rw [hSS]; exact fun W hW => hW)
        clear hSS
        go_cut [15, 16] (fun s0 s1 wx => ∃ (Qx : Option Addr) (fx gx lox hix : Nat), s0 = .pointer (some ⟨gx, 0, none⟩) ∧ s1 = .bool R1 ∧ BoxRel OwnRows w18 wx gx lox hix R0 Qx fx)
        case first =>
          refine wp_region_rel SS 9 11 (by kernel_rfl) rfl ?_
          obtain ⟨W0', hW0⟩ : ∃ W', W' = w18.drew := ⟨_, rfl⟩
          have bb : Below w18.heap.size w18 W0' := by rw [hW0]; exact (Below.refl _ _).drew
          have zz := bb.size
          rw [← hW0]
          clear hW0
          have SB := HS_w18.out _ bb
          refine wpAnyR_take (i := 0) (oi := _) ?vuh1 rfl rfl (by kernel_rfl) (fun _ _ _ h => h) rfl ?hyuh1 SB ?restuh1
          case hyuh1 => (intro W hW; obtain ⟨E0, E1, E2, E3, E4, E5, E6, E7, E8, E9, E10, E11, E12⟩ := HB.out W hW; go_simp; (try with_reducible rfl))
          try simp only [List.setIfInBounds_toArray, List.set_cons_zero, List.set_cons_succ]
          refine wpAnyR_take (i := 2) (oi := _) ?vuh2 rfl rfl (by kernel_rfl) (fun _ _ _ h => h) rfl ?hyuh2 SB ?restuh2
          case hyuh2 => (intro W hW; obtain ⟨E0, E1, E2, E3, E4, E5, E6, E7, E8, E9, E10, E11, E12⟩ := HB.out W hW; go_simp; (try with_reducible rfl))
          try simp only [List.setIfInBounds_toArray, List.set_cons_zero, List.set_cons_succ]
          refine wpAnyR_two (i := 1) (j := 8) (by kernel_rfl) rfl rfl (fun K hK => ?_) (fun K hK => ?_)
          · skip
            try rw [if_pos (show Region.wanted _ _ = true from rfl)]
            go_simp
            refine (toRel_any _ a _ (H0.out.on (bthen B_w18 bb)) (by omega)).mono ?_
            rintro e V3 ⟨P3, d3, rfl, o3, g3⟩
            have z3 := g3.size
            have b3 := bthen bb g3
            have SB3 := HS_w18.out _ b3
            refine hK.out _ _ (fun _ => SB3) ?_
            clear hK K
            try simp only [List.setIfInBounds_toArray, List.set_cons_zero, List.set_cons_succ, Act.put]
            refine wpAnyR_two (i := 3) (j := 8) (by kernel_rfl) rfl rfl (fun K hK => ?_) (fun K hK => ?_)
            · skip
              try rw [if_pos (show Region.wanted _ _ = true from rfl)]
              go_simp
              refine (toRel_any _ b _ (H1.out.on (bthen B_w18 b3)) (by omega)).mono ?_
              rintro e V4 ⟨P4, d4, rfl, o4, g4⟩
              have z4 := g4.size
              have b4 := bthen b3 g4
              have o3_4 := o3.below g4 (by omega)
              have SB4 := HS_w18.out _ b4
              refine hK.out _ _ (fun _ => SB4) ?_
              clear hK K
              try simp only [List.setIfInBounds_toArray, List.set_cons_zero, List.set_cons_succ, Act.put]
              refine wpAnyR_two (i := 4) (j := 8) (by kernel_rfl) rfl rfl (fun K hK => ?_) (fun K hK => ?_)
              · skip
                try rw [if_pos (show Region.wanted _ _ = true from rfl)]
                go_simp
                refine (implRelTimes_any _ _ a b _ rfl _ rfl _ ⟨_, rfl, o3_4.rd.more (by omega)⟩ ⟨_, rfl, o4.rd.more (by omega)⟩ (by omega) (by omega)).mono ?_
                rw [← HR0.out]
                try rw [← HR1.out]
                rintro e V5 ⟨P5, d5, rfl, o5, g5⟩
                have z5 := g5.size
                have b5 := bthen b4 g5
                have o3_4_5 := o3_4.below g5 (by omega)
                have o4_5 := o4.below g5 (by omega)
                have SB5 := HS_w18.out _ b5
                refine hK.out _ _ (fun _ => SB5) ?_
                clear hK K
                try simp only [List.setIfInBounds_toArray, List.set_cons_zero, List.set_cons_succ, Act.put]
                refine wpAnyR_pure (i := 5) (oi := _) ?vuh6 rfl rfl (by kernel_rfl) (by decide) (fun _ _ _ h => h) rfl ?hyuh6 (fun _ => SB5) ?restuh6
                case hyuh6 => (intro W; go_simp; (try with_reducible rfl))
                try simp only [List.setIfInBounds_toArray, List.set_cons_zero, List.set_cons_succ]
                refine wpAnyR_pure (i := 6) (oi := _) ?vuh7 rfl rfl (by kernel_rfl) (by decide) (fun _ _ _ h => h) rfl ?hyuh7 (fun _ => SB5) ?restuh7
                case hyuh7 => (intro W; go_simp; (try with_reducible rfl))
                try simp only [List.setIfInBounds_toArray, List.set_cons_zero, List.set_cons_succ]
                refine wpAnyR_pure (i := 7) (oi := _) ?vuh8 rfl rfl (by kernel_rfl) (by decide) (fun _ _ _ h => h) rfl ?hyuh8 (fun _ => SB5) ?restuh8
                case hyuh8 => (intro W; go_simp; (try with_reducible rfl))
                try simp only [List.setIfInBounds_toArray, List.set_cons_zero, List.set_cons_succ]
                refine wpAnyR_one (i := 8) (by kernel_rfl) rfl (fun K hK => ?_)
                try rw [if_pos (show Region.wanted _ _ = true from rfl)]
                go_simp
                obtain ⟨V9, hWn⟩ : ∃ W', W' = V5.alloc (Obj.cells #[Value.int IntKind.i64 0, Value.slice none 0 0] 27) := ⟨_, rfl⟩
                rw [← hWn]
                have g9 : Below V5.heap.size V5 V9 := by rw [hWn]; exact below1 _ _
                have X9 : Blk V9 V5.heap.size 27 #[Value.int IntKind.i64 0, Value.slice none 0 0] := by rw [hWn]; exact Blk.new _ _ _
                have z9 := g9.size
                have y9 := X9.lt
                clear hWn
                have b9 := bthen b5 g9
                have o3_4_5_9 := o3_4_5.below g9 (by omega)
                have o4_5_9 := o4_5.below g9 (by omega)
                have o5_9 := o5.below g9 (by omega)
                have SB9 := HS_w18.out _ b9
                refine hK.out _ _ (fun _ => SB9) ?_
                clear hK K
                try simp only [List.setIfInBounds_toArray, List.set_cons_zero, List.set_cons_succ, Act.put]
                refine wpAnyR_one (i := 9) (by kernel_rfl) rfl (fun K hK => ?_)
                try rw [if_pos (show Region.wanted _ _ = true from rfl)]
                have c0 := X9.cell 0
                have c1 := X9.cell 1
                have f0 := X9.frozen 0
                have f1 := X9.frozen 1
                simp at c0 c1
                go_simp
                refine hK.out _ _ (fun hf => absurd hf (by decide)) ?_
                clear hK K c0 c1 f0 f1
                try simp only [List.setIfInBounds_toArray, List.set_cons_zero, List.set_cons_succ, Act.put]
                refine wpAnyR_one (i := 10) (by kernel_rfl) rfl (fun K hK => ?_)
                go_simp
                refine hK.out _ _ (fun hf => absurd hf (by decide)) ?_
                clear hK K
                refine wpAnyR_done (by kernel_rfl) ?_
                go_wp2_with fail
                go_meet
                exact ⟨P5, d5, V5.heap.size, V4.heap.size, V5.heap.size, rfl, rfl, BoxRel.made (O := OwnRows) (fun h a b => h.only a b) (r := R0) b9 X9 o5_9 (by omega) (by omega) (by omega) (by omega)⟩
              · skip
                try rw [if_pos (show Region.wanted _ _ = true from rfl)]
                go_simp
                obtain ⟨V11, hWn⟩ : ∃ W', W' = V4.alloc (Obj.cells #[Value.int IntKind.i64 0, Value.slice none 0 0] 27) := ⟨_, rfl⟩
                rw [← hWn]
                have g11 : Below V4.heap.size V4 V11 := by rw [hWn]; exact below1 _ _
                have X11 : Blk V11 V4.heap.size 27 #[Value.int IntKind.i64 0, Value.slice none 0 0] := by rw [hWn]; exact Blk.new _ _ _
                have z11 := g11.size
                have y11 := X11.lt
                clear hWn
                have b11 := bthen b4 g11
                have o3_4_11 := o3_4.below g11 (by omega)
                have o4_11 := o4.below g11 (by omega)
                have SB11 := HS_w18.out _ b11
                refine hK.out _ _ (fun _ => SB11) ?_
                clear hK K
                try simp only [List.setIfInBounds_toArray, List.set_cons_zero, List.set_cons_succ, Act.put]
                refine wpAnyR_one (i := 4) (by kernel_rfl) rfl (fun K hK => ?_)
                try rw [if_pos (show Region.wanted _ _ = true from rfl)]
                go_simp
                refine (implRelTimes_any _ _ a b _ rfl _ rfl _ ⟨_, rfl, o3_4_11.rd.more (by omega)⟩ ⟨_, rfl, o4_11.rd.more (by omega)⟩ (by omega) (by omega)).mono ?_
                rw [← HR0.out]
                try rw [← HR1.out]
                rintro e V12 ⟨P12, d12, rfl, o12, g12⟩
                have z12 := g12.size
                have b12 := bthen b11 g12
                have o3_4_11_12 := o3_4_11.below g12 (by omega)
                have o4_11_12 := o4_11.below g12 (by omega)
                have X12 := X11.below g12 X11.lt
                have SB12 := HS_w18.out _ b12
                refine hK.out _ _ (fun _ => SB12) ?_
                clear hK K
                try simp only [List.setIfInBounds_toArray, List.set_cons_zero, List.set_cons_succ, Act.put]
                refine wpAnyR_pure (i := 5) (oi := _) ?vuh13 rfl rfl (by kernel_rfl) (by decide) (fun _ _ _ h => h) rfl ?hyuh13 (fun _ => SB12) ?restuh13
                case hyuh13 => (intro W; go_simp; (try with_reducible rfl))
                try simp only [List.setIfInBounds_toArray, List.set_cons_zero, List.set_cons_succ]
                refine wpAnyR_pure (i := 6) (oi := _) ?vuh14 rfl rfl (by kernel_rfl) (by decide) (fun _ _ _ h => h) rfl ?hyuh14 (fun _ => SB12) ?restuh14
                case hyuh14 => (intro W; go_simp; (try with_reducible rfl))
                try simp only [List.setIfInBounds_toArray, List.set_cons_zero, List.set_cons_succ]
                refine wpAnyR_pure (i := 7) (oi := _) ?vuh15 rfl rfl (by kernel_rfl) (by decide) (fun _ _ _ h => h) rfl ?hyuh15 (fun _ => SB12) ?restuh15
                case hyuh15 => (intro W; go_simp; (try with_reducible rfl))
                try simp only [List.setIfInBounds_toArray, List.set_cons_zero, List.set_cons_succ]
                refine wpAnyR_one (i := 9) (by kernel_rfl) rfl (fun K hK => ?_)
                try rw [if_pos (show Region.wanted _ _ = true from rfl)]
                have c0 := X12.cell 0
                have c1 := X12.cell 1
                have f0 := X12.frozen 0
                have f1 := X12.frozen 1
                simp at c0 c1
                go_simp
                refine hK.out _ _ (fun hf => absurd hf (by decide)) ?_
                clear hK K c0 c1 f0 f1
                try simp only [List.setIfInBounds_toArray, List.set_cons_zero, List.set_cons_succ, Act.put]
                refine wpAnyR_one (i := 10) (by kernel_rfl) rfl (fun K hK => ?_)
                go_simp
                refine hK.out _ _ (fun hf => absurd hf (by decide)) ?_
                clear hK K
                refine wpAnyR_done (by kernel_rfl) ?_
                go_wp2_with fail
                go_meet
                exact ⟨P12, d12, V4.heap.size, V11.heap.size, V12.heap.size, rfl, rfl, BoxRel.made (O := OwnRows) (fun h a b => h.only a b) (r := R0) b12 X12 o12 (by omega) (by omega) (by omega) (by omega)⟩
            · skip
              try rw [if_pos (show Region.wanted _ _ = true from rfl)]
              go_simp
              obtain ⟨V17, hWn⟩ : ∃ W', W' = V3.alloc (Obj.cells #[Value.int IntKind.i64 0, Value.slice none 0 0] 27) := ⟨_, rfl⟩
              rw [← hWn]
              have g17 : Below V3.heap.size V3 V17 := by rw [hWn]; exact below1 _ _
              have X17 : Blk V17 V3.heap.size 27 #[Value.int IntKind.i64 0, Value.slice none 0 0] := by rw [hWn]; exact Blk.new _ _ _
              have z17 := g17.size
              have y17 := X17.lt
              clear hWn
              have b17 := bthen b3 g17
              have o3_17 := o3.below g17 (by omega)
              have SB17 := HS_w18.out _ b17
              refine hK.out _ _ (fun _ => SB17) ?_
              clear hK K
              try simp only [List.setIfInBounds_toArray, List.set_cons_zero, List.set_cons_succ, Act.put]
              refine wpAnyR_one (i := 3) (by kernel_rfl) rfl (fun K hK => ?_)
              try rw [if_pos (show Region.wanted _ _ = true from rfl)]
              go_simp
              refine (toRel_any _ b _ (H1.out.on (bthen B_w18 b17)) (by omega)).mono ?_
              rintro e V18 ⟨P18, d18, rfl, o18, g18⟩
              have z18 := g18.size
              have b18 := bthen b17 g18
              have o3_17_18 := o3_17.below g18 (by omega)
              have X18 := X17.below g18 X17.lt
              have SB18 := HS_w18.out _ b18
              refine hK.out _ _ (fun _ => SB18) ?_
              clear hK K
              try simp only [List.setIfInBounds_toArray, List.set_cons_zero, List.set_cons_succ, Act.put]
              refine wpAnyR_one (i := 4) (by kernel_rfl) rfl (fun K hK => ?_)
              try rw [if_pos (show Region.wanted _ _ = true from rfl)]
              go_simp
              refine (implRelTimes_any _ _ a b _ rfl _ rfl _ ⟨_, rfl, o3_17_18.rd.more (by omega)⟩ ⟨_, rfl, o18.rd.more (by omega)⟩ (by omega) (by omega)).mono ?_
              rw [← HR0.out]
              try rw [← HR1.out]
              rintro e V19 ⟨P19, d19, rfl, o19, g19⟩
              have z19 := g19.size
              have b19 := bthen b18 g19
              have o3_17_18_19 := o3_17_18.below g19 (by omega)
              have o18_19 := o18.below g19 (by omega)
              have X19 := X18.below g19 X18.lt
              have SB19 := HS_w18.out _ b19
              refine hK.out _ _ (fun _ => SB19) ?_
              clear hK K
              try simp only [List.setIfInBounds_toArray, List.set_cons_zero, List.set_cons_succ, Act.put]
              refine wpAnyR_pure (i := 5) (oi := _) ?vuh20 rfl rfl (by kernel_rfl) (by decide) (fun _ _ _ h => h) rfl ?hyuh20 (fun _ => SB19) ?restuh20
              case hyuh20 => (intro W; go_simp; (try with_reducible rfl))
              try simp only [List.setIfInBounds_toArray, List.set_cons_zero, List.set_cons_succ]
              refine wpAnyR_pure (i := 6) (oi := _) ?vuh21 rfl rfl (by kernel_rfl) (by decide) (fun _ _ _ h => h) rfl ?hyuh21 (fun _ => SB19) ?restuh21
              case hyuh21 => (intro W; go_simp; (try with_reducible rfl))
              try simp only [List.setIfInBounds_toArray, List.set_cons_zero, List.set_cons_succ]
              refine wpAnyR_pure (i := 7) (oi := _) ?vuh22 rfl rfl (by kernel_rfl) (by decide) (fun _ _ _ h => h) rfl ?hyuh22 (fun _ => SB19) ?restuh22
              case hyuh22 => (intro W; go_simp; (try with_reducible rfl))
              try simp only [List.setIfInBounds_toArray, List.set_cons_zero, List.set_cons_succ]
              refine wpAnyR_one (i := 9) (by kernel_rfl) rfl (fun K hK => ?_)
              try rw [if_pos (show Region.wanted _ _ = true from rfl)]
              have c0 := X19.cell 0
              have c1 := X19.cell 1
              have f0 := X19.frozen 0
              have f1 := X19.frozen 1
              simp at c0 c1
              go_simp
              refine hK.out _ _ (fun hf => absurd hf (by decide)) ?_
              clear hK K c0 c1 f0 f1
              try simp only [List.setIfInBounds_toArray, List.set_cons_zero, List.set_cons_succ, Act.put]
              refine wpAnyR_one (i := 10) (by kernel_rfl) rfl (fun K hK => ?_)
              go_simp
              refine hK.out _ _ (fun hf => absurd hf (by decide)) ?_
              clear hK K
              refine wpAnyR_done (by kernel_rfl) ?_
              go_wp2_with fail
              go_meet
              exact ⟨P19, d19, V3.heap.size, V18.heap.size, V19.heap.size, rfl, rfl, BoxRel.made (O := OwnRows) (fun h a b => h.only a b) (r := R0) b19 X19 o19 (by omega) (by omega) (by omega) (by omega)⟩
          · skip
            try rw [if_pos (show Region.wanted _ _ = true from rfl)]
            go_simp
            obtain ⟨V24, hWn⟩ : ∃ W', W' = W0'.alloc (Obj.cells #[Value.int IntKind.i64 0, Value.slice none 0 0] 27) := ⟨_, rfl⟩
            rw [← hWn]
            have g24 : Below W0'.heap.size W0' V24 := by rw [hWn]; exact below1 _ _
            have X24 : Blk V24 W0'.heap.size 27 #[Value.int IntKind.i64 0, Value.slice none 0 0] := by rw [hWn]; exact Blk.new _ _ _
            have z24 := g24.size
            have y24 := X24.lt
            clear hWn
            have b24 := bthen bb g24
            have SB24 := HS_w18.out _ b24
            refine hK.out _ _ (fun _ => SB24) ?_
            clear hK K
            try simp only [List.setIfInBounds_toArray, List.set_cons_zero, List.set_cons_succ, Act.put]
            refine wpAnyR_one (i := 1) (by kernel_rfl) rfl (fun K hK => ?_)
            try rw [if_pos (show Region.wanted _ _ = true from rfl)]
            go_simp
            refine (toRel_any _ a _ (H0.out.on (bthen B_w18 b24)) (by omega)).mono ?_
            rintro e V25 ⟨P25, d25, rfl, o25, g25⟩
            have z25 := g25.size
            have b25 := bthen b24 g25
            have X25 := X24.below g25 X24.lt
            have SB25 := HS_w18.out _ b25
            refine hK.out _ _ (fun _ => SB25) ?_
            clear hK K
            try simp only [List.setIfInBounds_toArray, List.set_cons_zero, List.set_cons_succ, Act.put]
            refine wpAnyR_one (i := 3) (by kernel_rfl) rfl (fun K hK => ?_)
            try rw [if_pos (show Region.wanted _ _ = true from rfl)]
            go_simp
            refine (toRel_any _ b _ (H1.out.on (bthen B_w18 b25)) (by omega)).mono ?_
            rintro e V26 ⟨P26, d26, rfl, o26, g26⟩
            have z26 := g26.size
            have b26 := bthen b25 g26
            have o25_26 := o25.below g26 (by omega)
            have X26 := X25.below g26 X25.lt
            have SB26 := HS_w18.out _ b26
            refine hK.out _ _ (fun _ => SB26) ?_
            clear hK K
            try simp only [List.setIfInBounds_toArray, List.set_cons_zero, List.set_cons_succ, Act.put]
            refine wpAnyR_one (i := 4) (by kernel_rfl) rfl (fun K hK => ?_)
            try rw [if_pos (show Region.wanted _ _ = true from rfl)]
            go_simp
            refine (implRelTimes_any _ _ a b _ rfl _ rfl _ ⟨_, rfl, o25_26.rd.more (by omega)⟩ ⟨_, rfl, o26.rd.more (by omega)⟩ (by omega) (by omega)).mono ?_
            rw [← HR0.out]
            try rw [← HR1.out]
            rintro e V27 ⟨P27, d27, rfl, o27, g27⟩
            have z27 := g27.size
            have b27 := bthen b26 g27
            have o25_26_27 := o25_26.below g27 (by omega)
            have o26_27 := o26.below g27 (by omega)
            have X27 := X26.below g27 X26.lt
            have SB27 := HS_w18.out _ b27
            refine hK.out _ _ (fun _ => SB27) ?_
            clear hK K
            try simp only [List.setIfInBounds_toArray, List.set_cons_zero, List.set_cons_succ, Act.put]
            refine wpAnyR_pure (i := 5) (oi := _) ?vuh28 rfl rfl (by kernel_rfl) (by decide) (fun _ _ _ h => h) rfl ?hyuh28 (fun _ => SB27) ?restuh28
            case hyuh28 => (intro W; go_simp; (try with_reducible rfl))
            try simp only [List.setIfInBounds_toArray, List.set_cons_zero, List.set_cons_succ]
            refine wpAnyR_pure (i := 6) (oi := _) ?vuh29 rfl rfl (by kernel_rfl) (by decide) (fun _ _ _ h => h) rfl ?hyuh29 (fun _ => SB27) ?restuh29
            case hyuh29 => (intro W; go_simp; (try with_reducible rfl))
            try simp only [List.setIfInBounds_toArray, List.set_cons_zero, List.set_cons_succ]
            refine wpAnyR_pure (i := 7) (oi := _) ?vuh30 rfl rfl (by kernel_rfl) (by decide) (fun _ _ _ h => h) rfl ?hyuh30 (fun _ => SB27) ?restuh30
            case hyuh30 => (intro W; go_simp; (try with_reducible rfl))
            try simp only [List.setIfInBounds_toArray, List.set_cons_zero, List.set_cons_succ]
            refine wpAnyR_one (i := 9) (by kernel_rfl) rfl (fun K hK => ?_)
            try rw [if_pos (show Region.wanted _ _ = true from rfl)]
            have c0 := X27.cell 0
            have c1 := X27.cell 1
            have f0 := X27.frozen 0
            have f1 := X27.frozen 1
            simp at c0 c1
            go_simp
            refine hK.out _ _ (fun hf => absurd hf (by decide)) ?_
            clear hK K c0 c1 f0 f1
            try simp only [List.setIfInBounds_toArray, List.set_cons_zero, List.set_cons_succ, Act.put]
            refine wpAnyR_one (i := 10) (by kernel_rfl) rfl (fun K hK => ?_)
            go_simp
            refine hK.out _ _ (fun hf => absurd hf (by decide)) ?_
            clear hK K
            refine wpAnyR_done (by kernel_rfl) ?_
            go_wp2_with fail
            go_meet
            exact ⟨P27, d27, W0'.heap.size, V26.heap.size, V27.heap.size, rfl, rfl, BoxRel.made (O := OwnRows) (fun h a b => h.only a b) (r := R0) b27 X27 o27 (by omega) (by omega) (by omega) (by omega)⟩
        case rest =>
          obtain ⟨Q13, f13, gx13, lox13, hix13, rfl, rfl, bx13⟩ := hcut
          clear HS_w18 HB
          generalize wc = w19 at *
          have hb13 := bx13.below
          have gl13 := bx13.glo
          have gt13 := bx13.glt
          have ll13 := bx13.lole
          have hh13 := bx13.hile
          have ap13 := bx13.apart
          have bk13 := bx13.box
          have oo13 := bx13.rows
          have bk13_l := bk13.lt
          clear bx13
          have s_w19 := hb13.size
          have bx0_18 := bx0_17.below hb13 (by first | exact bx0_17.lt | omega)
          clear bx0_17
          have bx0_18_l := bx0_18.lt
          have bx1_18 := bx1_17.below hb13 (by first | exact bx1_17.lt | omega)
          clear bx1_17
          have bx1_18_l := bx1_18.lt
          have w0_18 := w0_17.below hb13 (by omega)
          clear w0_17
          have bw0_18 := bw0_17.below hb13 (by first | exact bw0_17.lt | omega)
          clear bw0_17
          have bw0_18_l := bw0_18.lt
          have bxx0_18 := bxx0_17.below hb13 (by first | exact bxx0_17.lt | omega)
          clear bxx0_17
          have bxx0_18_l := bxx0_18.lt
          have bxx1_18 := bxx1_17.below hb13 (by first | exact bxx1_17.lt | omega)
          clear bxx1_17
          have bxx1_18_l := bxx1_18.lt
          have bg0_18 := bg0_17.below hb13 (by first | exact bg0_17.lt | omega)
          clear bg0_17
          have bg0_18_l := bg0_18.lt
          have d0_18 := d0_17.below hb13 (by omega)
          clear d0_17
          have B_w19 := bthen B_w18 hb13
          have q135 : w19.cell? ⟨w.heap.size, 0, none⟩ = some (.int .i64 a.1) := bx0_18.cell 0
          have q136 : w19.cell? ⟨w.heap.size, 1, none⟩ = some (.slice A0 a.2.length c0) := bx0_18.cell 1
          have q137 : w19.cell? ⟨w.heap.size + 1, 0, none⟩ = some (.int .i64 b.1) := bx1_18.cell 0
          have q138 : w19.cell? ⟨w.heap.size + 1, 1, none⟩ = some (.slice A1 b.2.length c1) := bx1_18.cell 1
          have q139 : w19.cell? ⟨gx1, 0, none⟩ = some (.int .i64 R0.1) := bw0_18.cell 0
          have q140 : w19.cell? ⟨gx1, 1, none⟩ = some (.slice Q1 R0.2.length f1) := bw0_18.cell 1
          have q141 : w19.cell? ⟨w5.heap.size, 0, none⟩ = some (.int .i64 a.1) := bxx0_18.cell 0
          have q142 : w19.cell? ⟨w5.heap.size, 1, none⟩ = some (.slice P2 a.2.length d2) := bxx0_18.cell 1
          have q143 : w19.cell? ⟨w7.heap.size, 0, none⟩ = some (.int .i64 b.1) := bxx1_18.cell 0
          have q144 : w19.cell? ⟨w7.heap.size, 1, none⟩ = some (.slice P3 b.2.length d3) := bxx1_18.cell 1
          have q145 : w19.cell? ⟨w9.heap.size, 0, none⟩ = some (.int .i64 R0.1) := bg0_18.cell 0
          have q146 : w19.cell? ⟨w9.heap.size, 1, none⟩ = some (.slice Q4_0 R0.2.length f4_0) := bg0_18.cell 1
          have q147 : w19.cell? ⟨gx13, 0, none⟩ = some (.int .i64 R0.1) := bk13.cell 0
          have q148 : w19.cell? ⟨gx13, 1, none⟩ = some (.slice Q13 R0.2.length f13) := bk13.cell 1
          go_wp2_with (fail)
          clear q135 q136 q137 q138 q139 q140 q141 q142 q143 q144 q145 q146 q147 q148
          refine (eqRel_any _ _ R0 R0 _ ⟨_, rfl, oo13.rd.more (by omega)⟩ ⟨_, rfl, w0_18.rd.more (by omega)⟩ rfl (by omega)).mono ?_
          rintro e w20 ⟨rfl, hb14⟩
          rw [show decide (R0 = R0) = true by simp]
          have s_w20 := hb14.size
          have bx0_19 := bx0_18.below hb14 (by first | exact bx0_18.lt | omega)
          clear bx0_18
          have bx0_19_l := bx0_19.lt
          have bx1_19 := bx1_18.below hb14 (by first | exact bx1_18.lt | omega)
          clear bx1_18
          have bx1_19_l := bx1_19.lt
          have w0_19 := w0_18.below hb14 (by omega)
          clear w0_18
          have bw0_19 := bw0_18.below hb14 (by first | exact bw0_18.lt | omega)
          clear bw0_18
          have bw0_19_l := bw0_19.lt
          have bxx0_19 := bxx0_18.below hb14 (by first | exact bxx0_18.lt | omega)
          clear bxx0_18
          have bxx0_19_l := bxx0_19.lt
          have bxx1_19 := bxx1_18.below hb14 (by first | exact bxx1_18.lt | omega)
          clear bxx1_18
          have bxx1_19_l := bxx1_19.lt
          have bg0_19 := bg0_18.below hb14 (by first | exact bg0_18.lt | omega)
          clear bg0_18
          have bg0_19_l := bg0_19.lt
          have d0_19 := d0_18.below hb14 (by omega)
          clear d0_18
          have h0_19 := oo13.below hb14 (by omega)
          clear oo13
          have bh0_19 := bk13.below hb14 (by first | exact bk13.lt | omega)
          clear bk13
          have bh0_19_l := bh0_19.lt
          have B_w20 := bthen B_w19 hb14
          have q149 : w20.cell? ⟨w.heap.size, 0, none⟩ = some (.int .i64 a.1) := bx0_19.cell 0
          have q150 : w20.cell? ⟨w.heap.size, 1, none⟩ = some (.slice A0 a.2.length c0) := bx0_19.cell 1
          have q151 : w20.cell? ⟨w.heap.size + 1, 0, none⟩ = some (.int .i64 b.1) := bx1_19.cell 0
          have q152 : w20.cell? ⟨w.heap.size + 1, 1, none⟩ = some (.slice A1 b.2.length c1) := bx1_19.cell 1
          have q153 : w20.cell? ⟨gx1, 0, none⟩ = some (.int .i64 R0.1) := bw0_19.cell 0
          have q154 : w20.cell? ⟨gx1, 1, none⟩ = some (.slice Q1 R0.2.length f1) := bw0_19.cell 1
          have q155 : w20.cell? ⟨w5.heap.size, 0, none⟩ = some (.int .i64 a.1) := bxx0_19.cell 0
          have q156 : w20.cell? ⟨w5.heap.size, 1, none⟩ = some (.slice P2 a.2.length d2) := bxx0_19.cell 1
          have q157 : w20.cell? ⟨w7.heap.size, 0, none⟩ = some (.int .i64 b.1) := bxx1_19.cell 0
          have q158 : w20.cell? ⟨w7.heap.size, 1, none⟩ = some (.slice P3 b.2.length d3) := bxx1_19.cell 1
          have q159 : w20.cell? ⟨w9.heap.size, 0, none⟩ = some (.int .i64 R0.1) := bg0_19.cell 0
          have q160 : w20.cell? ⟨w9.heap.size, 1, none⟩ = some (.slice Q4_0 R0.2.length f4_0) := bg0_19.cell 1
          have q161 : w20.cell? ⟨gx13, 0, none⟩ = some (.int .i64 R0.1) := bh0_19.cell 0
          have q162 : w20.cell? ⟨gx13, 1, none⟩ = some (.slice Q13 R0.2.length f13) := bh0_19.cell 1
          go_wp2_with (fail)
          clear q149 q150 q151 q152 q153 q154 q155 q156 q157 q158 q159 q160 q161 q162
          refine (uh_rel d0_19 (by omega)).mono ?_
          rintro e w21 ⟨rfl, hb15⟩
          have s_w21 := hb15.size
          have bx0_20 := bx0_19.below hb15 (by first | exact bx0_19.lt | omega)
          clear bx0_19
          have bx0_20_l := bx0_20.lt
          have bx1_20 := bx1_19.below hb15 (by first | exact bx1_19.lt | omega)
          clear bx1_19
          have bx1_20_l := bx1_20.lt
          have w0_20 := w0_19.below hb15 (by omega)
          clear w0_19
          have bw0_20 := bw0_19.below hb15 (by first | exact bw0_19.lt | omega)
          clear bw0_19
          have bw0_20_l := bw0_20.lt
          have bxx0_20 := bxx0_19.below hb15 (by first | exact bxx0_19.lt | omega)
          clear bxx0_19
          have bxx0_20_l := bxx0_20.lt
          have bxx1_20 := bxx1_19.below hb15 (by first | exact bxx1_19.lt | omega)
          clear bxx1_19
          have bxx1_20_l := bxx1_20.lt
          have bg0_20 := bg0_19.below hb15 (by first | exact bg0_19.lt | omega)
          clear bg0_19
          have bg0_20_l := bg0_20.lt
          have d0_20 := d0_19.below hb15 (by omega)
          clear d0_19
          have h0_20 := h0_19.below hb15 (by omega)
          clear h0_19
          have bh0_20 := bh0_19.below hb15 (by first | exact bh0_19.lt | omega)
          clear bh0_19
          have bh0_20_l := bh0_20.lt
          have B_w21 := bthen B_w20 hb15
          have q163 : w21.cell? ⟨w.heap.size, 0, none⟩ = some (.int .i64 a.1) := bx0_20.cell 0
          have q164 : w21.cell? ⟨w.heap.size, 1, none⟩ = some (.slice A0 a.2.length c0) := bx0_20.cell 1
          have q165 : w21.cell? ⟨w.heap.size + 1, 0, none⟩ = some (.int .i64 b.1) := bx1_20.cell 0
          have q166 : w21.cell? ⟨w.heap.size + 1, 1, none⟩ = some (.slice A1 b.2.length c1) := bx1_20.cell 1
          have q167 : w21.cell? ⟨gx1, 0, none⟩ = some (.int .i64 R0.1) := bw0_20.cell 0
          have q168 : w21.cell? ⟨gx1, 1, none⟩ = some (.slice Q1 R0.2.length f1) := bw0_20.cell 1
          have q169 : w21.cell? ⟨w5.heap.size, 0, none⟩ = some (.int .i64 a.1) := bxx0_20.cell 0
          have q170 : w21.cell? ⟨w5.heap.size, 1, none⟩ = some (.slice P2 a.2.length d2) := bxx0_20.cell 1
          have q171 : w21.cell? ⟨w7.heap.size, 0, none⟩ = some (.int .i64 b.1) := bxx1_20.cell 0
          have q172 : w21.cell? ⟨w7.heap.size, 1, none⟩ = some (.slice P3 b.2.length d3) := bxx1_20.cell 1
          have q173 : w21.cell? ⟨w9.heap.size, 0, none⟩ = some (.int .i64 R0.1) := bg0_20.cell 0
          have q174 : w21.cell? ⟨w9.heap.size, 1, none⟩ = some (.slice Q4_0 R0.2.length f4_0) := bg0_20.cell 1
          have q175 : w21.cell? ⟨gx13, 0, none⟩ = some (.int .i64 R0.1) := bh0_20.cell 0
          have q176 : w21.cell? ⟨gx13, 1, none⟩ = some (.slice Q13 R0.2.length f13) := bh0_20.cell 1
          go_wp2_with (fail)
          clear q163 q164 q165 q166 q167 q168 q169 q170 q171 q172 q173 q174 q175 q176
          go_ret
          exact ⟨rfl, B_w21⟩

theorem lawRelTimes_in (v0 : Value) (v1 : Value) (a : LRel) (b : LRel) (w : World) (h0 : InRel w v0 a) (h1 : InRel w v1 b) : Calls Try.prog 8 #[v0, v1] w fun e w' => e = .returned (.bool true) ∧ Below w.heap.size w w' :=
  lawRelTimes_any v0 v1 a b w h0.1 h1.1 h0.2.1 h0.2.2 h1.2.1 h1.2.2

end Go.Proofs.Ytchincemlilnoaa
namespace Go.Proofs.Ytchincemlilnoaa
open Go.ChangeShapes Go.WideShapes Go.ChangeAt Go.RowKit

set_option maxRecDepth 100000 in
theorem fnExactRelTimes_lifted (os : Os) (started : os.Started) (H : Type) (enc : TypeId × Value → H) :
    ReturnsInHanded {} Try.checked os 8 .any (Rows.fnExactRelTimesSpec.pre6 enc Try.prog Try.f8 Rows.fnExactRelTimesRow.domain false) (Rows.fnExactRelTimesSpec.post enc Try.prog Try.f8 false true false false) := by
  refine returnsInHanded_of_change (C := Try.checked) Try.own started (by kernel_rfl) Try.func8
    (ChangeSpec.witness6 (enc := enc) (C := Try.checked) false ⟨#[], #[.agg #[.int .i64 0, .slice none 0 0], .agg #[.int .i64 0, .slice none 0 0]], []⟩ 8 (by kernel_rfl) (by kernel_rfl) (by kernel_rfl) (by kernel_rfl)) ?_
  intro W base args ds gs before hval0 hW hcnd _
  have hval : ∀ (j : Nat) t v, Try.f8.params[j]? = some t → args[j]? = some v → Value.okWide Try.prog W .any base t v := hval0
  have hW' := hW
  obtain ⟨p, q, hA0, hV, rfl, hfz, hnd⟩ := hW
  have hA : DataW.TrodAll enc Try.prog W 0 (fun _ => true) true Try.f8.params.toList args.toList ds p := hA0
  rw [Try.params8] at hA hval
  obtain ⟨v0, vs0, d0, ds0, p0, q0, hargs, rfl, rfl, h0, r0⟩ := trodAll_cons hA
  obtain ⟨v1, vs1, d1, ds1, p1, q1, rfl, rfl, rfl, h1, r1⟩ := trodAll_cons r0
  obtain ⟨rfl, rfl, rfl⟩ := trodAll_nil r1
  obtain rfl : args = #[v0, v1] := by cases args; simp_all
  obtain ⟨rfl, rfl⟩ := trodVars_none hV
  have lt0 : ∀ x ∈ p0, x.block < W.heap.size := by obtain ⟨m, hm⟩ := h0; exact DataW.trod_lt m _ _ _ hm
  obtain ⟨x0, w0⟩ := open_inRel (hval 0 24 v0 rfl rfl) h0
  have lt1 : ∀ x ∈ p1, x.block < W.heap.size := by obtain ⟨m, hm⟩ := h1; exact DataW.trod_lt m _ _ _ hm
  obtain ⟨x1, w1⟩ := open_inRel (hval 1 24 v1 rfl rfl) h1
  clear hA0 hval0
  refine (lawRelTimes_in v0 v1 x0 x1 W w0 w1).mono fun e W' ⟨he, bel⟩ => ?_
  subst he
  exact ⟨_, rfl, _, _, _, [], _, [], hW', trodAll_mk1 (shut_bool Try.underlying4 _), (trodAll_cons_mk (Below.trod Try.laidOut (by kernel_rfl) (of_decide_eq_true (by kernel_rfl)) h0 bel lt0) (trodAll_cons_mk (Below.trod Try.laidOut (by kernel_rfl) (of_decide_eq_true (by kernel_rfl)) h1 bel lt1) trodAll_mk0)), rfl, bel.frame _, fun h => by cases h⟩

theorem fnExactRelTimes_holds : Rows.FnExactRelTimesSaid :=
  OpenClaim.holds_of_wide 8 Try.f8 rfl rfl rfl rfl rfl rfl rfl ⟨rfl, rfl, rfl, rfl, rfl⟩ rfl rfl rfl rfl rfl (by kernel_rfl) Try.func8 (by kernel_rfl)
    (of_decide_eq_true (by kernel_rfl)) (by unfold Func.isWrapper; rw [if_neg (of_decide_eq_false (by kernel_rfl))]; exact ⟨rfl, rfl⟩)
    (fun os started H enc _ => fnExactRelTimes_lifted os started H enc)

end Go.Proofs.Ytchincemlilnoaa
