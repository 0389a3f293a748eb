/-
  Texts that the claim's last one imports, laid together: part 2 of 3. No condition of its own.
-/
import Derived.Test.YtchincemlilnoaaMRt5
import Derived.Deep.RegionHeld3
import Derived.Deep.DeepCutAuto
import Derived.Deep.RegionWith
import Derived.Test.YtchincemlilnoaaMRj1
/-
  The walk of the law on RelJoin (written by wip/genlaw.py).
-/
namespace Go.Proofs.Ytchincemlilnoaa
open Go.RowKit

set_option maxHeartbeats 8000000 in
set_option maxRecDepth 100000 in
theorem lawRelJoin_any (v0 : Value) (v1 : Value) (v2 : Value) (v3 : Value) (a : LRel) (b : LRel) (ls : List Int) (rs : List Int) (w : World) (h0 : RdRel w w.heap.size v0 a) (h1 : RdRel w w.heap.size v1 b) (h2 : RdInts w w.heap.size v2 ls) (h3 : RdInts w w.heap.size v3 rs) (n0 : a.2.length ≤ maxLen) (m0 : ∀ k (h : k < a.2.length), a.2[k].length ≤ maxLen) (n1 : b.2.length ≤ maxLen) (m1 : ∀ k (h : k < b.2.length), b.2[k].length ≤ maxLen) :
    Calls Try.prog 9 #[v0, v1, v2, v3] w fun e w' => e = .returned (.bool true) ∧ Below w.heap.size w w' := by
  have H0 := Lib.hid h0
  obtain ⟨a0, rfl, A0, c0, rfl, hc0, _⟩ := h0
  have H1 := Lib.hid h1
  obtain ⟨a1, rfl, A1, c1, rfl, hc1, _⟩ := h1
  have H2 := Lib.hid h2
  obtain ⟨A2, c2, rfl, hc2, _⟩ := h2
  have H3 := Lib.hid h3
  obtain ⟨A3, c3, rfl, hc3, _⟩ := h3
  by_cases g2 : 1048576 < ls.length
  · go_enter Try.func9, Try.ntmps9
    go_wp2_with (fail)
    go_ret
    exact ⟨rfl, below2 _ _ _⟩
  have r2 : ls.length ≤ 1048576 := by omega
  by_cases g3 : 1048576 < rs.length
  · go_enter Try.func9, Try.ntmps9
    go_wp2_with (fail)
    go_ret
    exact ⟨rfl, below2 _ _ _⟩
  have r3 : rs.length ≤ 1048576 := by omega
  go_enter Try.func9, Try.ntmps9
  go_wp2_with (fail)
  obtain ⟨w1, hw_w1⟩ : ∃ W', W' = (w.alloc (Obj.cells #[Value.int IntKind.i64 a.1, Value.slice A0 a.2.length c0] 24)).alloc (Obj.cells #[Value.int IntKind.i64 b.1, Value.slice A1 b.2.length c1] 24) := ⟨_, rfl⟩
  rw [← hw_w1]
  have B_w1 : Below w.heap.size w w1 := by rw [hw_w1]; exact below2 _ _ _
  have bx0 : Blk w1 (w.heap.size + 0) 24 #[.int .i64 a.1, .slice A0 a.2.length c0] := by
    rw [hw_w1]
    have := (Blk.new w 24 #[.int .i64 a.1, .slice A0 a.2.length c0]).alloc (Obj.cells #[.int .i64 b.1, .slice A1 b.2.length c1] 24)
    simpa using this
  have bx0_l := bx0.lt
  rw [Nat.add_zero] at bx0 bx0_l
  have bx1 : Blk w1 (w.heap.size + 1) 24 #[.int .i64 b.1, .slice A1 b.2.length c1] := by
    rw [hw_w1]
    have := (Blk.new (w.alloc (Obj.cells #[.int .i64 a.1, .slice A0 a.2.length c0] 24)) 24 #[.int .i64 b.1, .slice A1 b.2.length c1])
    simpa using this
  have bx1_l := bx1.lt
  have s_w1 := B_w1.size
  clear hw_w1
  refine (us_rel (H0.out.on B_w1) (by omega) (by omega) n0 m0).mono ?_
  rintro e w2 ⟨z0, rfl, hz0, hbz0⟩
  have s_w2 := hbz0.size
  have bx0_1 := bx0.below hbz0 (by first | exact bx0.lt | omega)
  clear bx0
  have bx0_1_l := bx0_1.lt
  have bx1_1 := bx1.below hbz0 (by first | exact bx1.lt | omega)
  clear bx1
  have bx1_1_l := bx1_1.lt
  have B_w2 := bthen B_w1 hbz0
  rcases hz0 with rfl | ⟨zp0, zs0⟩
  · go_wp2_with (fail)
    go_ret
    exact ⟨rfl, B_w2⟩
  have zn0 : ¬ z0 < 0 := by omega
  have r0 : szRows a.2 ≤ 1048576 := by omega
  have zl0 : z0 ≤ 1048576 := by omega
  have ZS0 := Lib.hid zs0
  clear zs0
  have q1 : w2.cell? ⟨w.heap.size, 0, none⟩ = some (.int .i64 a.1) := bx0_1.cell 0
  have q2 : w2.cell? ⟨w.heap.size, 1, none⟩ = some (.slice A0 a.2.length c0) := bx0_1.cell 1
  have q3 : w2.cell? ⟨w.heap.size + 1, 0, none⟩ = some (.int .i64 b.1) := bx1_1.cell 0
  have q4 : w2.cell? ⟨w.heap.size + 1, 1, none⟩ = some (.slice A1 b.2.length c1) := bx1_1.cell 1
  go_wp2_with (fail)
  clear q1 q2 q3 q4
  refine (us_rel (H1.out.on B_w2) (by omega) (by omega) n1 m1).mono ?_
  rintro e w3 ⟨z1, rfl, hz1, hbz1⟩
  have s_w3 := hbz1.size
  have bx0_2 := bx0_1.below hbz1 (by first | exact bx0_1.lt | omega)
  clear bx0_1
  have bx0_2_l := bx0_2.lt
  have bx1_2 := bx1_1.below hbz1 (by first | exact bx1_1.lt | omega)
  clear bx1_1
  have bx1_2_l := bx1_2.lt
  have B_w3 := bthen B_w2 hbz1
  rcases hz1 with rfl | ⟨zp1, zs1⟩
  · go_wp2_with (fail)
    go_ret
    exact ⟨rfl, B_w3⟩
  have zn1 : ¬ z1 < 0 := by omega
  have r1 : szRows b.2 ≤ 1048576 := by omega
  have zl1 : z1 ≤ 1048576 := by omega
  have ZS1 := Lib.hid zs1
  clear zs1 zn1
  have zn1 : ¬ z1 < 0 := by omega
  obtain ⟨R0, hR0⟩ : ∃ R, R = joinR a b ls rs := ⟨_, rfl⟩
  have HR0 := Lib.hid hR0
  obtain ⟨R1, hR1⟩ : ∃ R, R = joinK a b ls rs := ⟨_, rfl⟩
  have HR1 := Lib.hid hR1
  have HRs0 := Lib.hid (show szRows R0.2 ≤ 1048576 by rw [hR0]; exact joinR_sz a b ls rs)
  have R0s := HRs0.out
  clear hR0 hR1
  have gb1 : (R1 != R1) = false := by simp
  have q5 : w3.cell? ⟨w.heap.size, 0, none⟩ = some (.int .i64 a.1) := bx0_2.cell 0
  have q6 : w3.cell? ⟨w.heap.size, 1, none⟩ = some (.slice A0 a.2.length c0) := bx0_2.cell 1
  have q7 : w3.cell? ⟨w.heap.size + 1, 0, none⟩ = some (.int .i64 b.1) := bx1_2.cell 0
  have q8 : w3.cell? ⟨w.heap.size + 1, 1, none⟩ = some (.slice A1 b.2.length c1) := bx1_2.cell 1
  go_upto_region 12 with fail
  clear q5 q6 q7 q8
  obtain ⟨SS, hSS⟩ : ∃ SS : World → Prop, SS = (fun W => W.cell? ⟨w.heap.size, 0, none⟩ = some (.int .i64 a.1) ∧ W.cell? ⟨w.heap.size, 1, none⟩ = some (.slice A0 a.2.length c0) ∧ W.cell? ⟨w.heap.size + 1, 0, none⟩ = some (.int .i64 b.1) ∧ W.cell? ⟨w.heap.size + 1, 1, none⟩ = some (.slice A1 b.2.length c1) ∧ True) := ⟨_, rfl⟩
  have HS_w3 := Lib.hid (show ∀ W, Below w3.heap.size w3 W → SS W from by rw [hSS]; exact fun W hW => ⟨(bx0_2.below hW bx0_2_l).cell 0, (bx0_2.below hW bx0_2_l).cell 1, (bx1_2.below hW bx1_2_l).cell 0, (bx1_2.below hW bx1_2_l).cell 1, trivial⟩)
  have HB := Lib.hid (show ∀ W, SS W → (W.cell? ⟨w.heap.size, 0, none⟩ = some (.int .i64 a.1) ∧ W.cell? ⟨w.heap.size, 1, none⟩ = some (.slice A0 a.2.length c0) ∧ W.cell? ⟨w.heap.size + 1, 0, none⟩ = some (.int .i64 b.1) ∧ W.cell? ⟨w.heap.size + 1, 1, none⟩ = some (.slice A1 b.2.length c1) ∧ True) from by rw [hSS]; exact fun W hW => hW)
  clear hSS
  go_cut [10, 11] (fun s0 s1 wx => ∃ (Qx : Option Addr) (fx gx lox hix : Nat), s0 = .pointer (some ⟨gx, 0, none⟩) ∧ s1 = .bool R1 ∧ BoxRel OwnRows w3 wx gx lox hix R0 Qx fx)
  case first =>
    refine wp_region_rel SS 13 15 (by kernel_rfl) rfl ?_
    obtain ⟨W0', hW0⟩ : ∃ W', W' = w3.drew := ⟨_, rfl⟩
    have bb : Below w3.heap.size w3 W0' := by rw [hW0]; exact (Below.refl _ _).drew
    have zz := bb.size
    rw [← hW0]
    clear hW0
    have SB := HS_w3.out _ bb
    refine wpAnyR_take (i := 0) (oi := _) ?vuw1 rfl rfl (by kernel_rfl) (fun _ _ _ h => h) rfl ?hyuw1 SB ?restuw1
    case hyuw1 => (intro W hW; obtain ⟨E0, E1, E2, E3, E4⟩ := HB.out W hW; go_simp; (try with_reducible rfl))
    try simp only [List.setIfInBounds_toArray, List.set_cons_zero, List.set_cons_succ]
    refine wpAnyR_take (i := 2) (oi := _) ?vuw2 rfl rfl (by kernel_rfl) (fun _ _ _ h => h) rfl ?hyuw2 SB ?restuw2
    case hyuw2 => (intro W hW; obtain ⟨E0, E1, E2, E3, E4⟩ := HB.out W hW; go_simp; (try with_reducible rfl))
    try simp only [List.setIfInBounds_toArray, List.set_cons_zero, List.set_cons_succ]
    refine wpAnyR_pure (i := 4) (oi := _) ?vuw3 rfl rfl (by kernel_rfl) (by decide) (fun _ _ _ h => h) rfl ?hyuw3 (fun _ => SB) ?restuw3
    case hyuw3 => (intro W; go_simp; (try with_reducible rfl))
    try simp only [List.setIfInBounds_toArray, List.set_cons_zero, List.set_cons_succ]
    refine wpAnyR_pure (i := 6) (oi := _) ?vuw4 rfl rfl (by kernel_rfl) (by decide) (fun _ _ _ h => h) rfl ?hyuw4 (fun _ => SB) ?restuw4
    case hyuw4 => (intro W; go_simp; (try with_reducible rfl))
    try simp only [List.setIfInBounds_toArray, List.set_cons_zero, List.set_cons_succ]
    refine wpAnyR_two (i := 1) (j := 12) (by kernel_rfl) rfl rfl (fun K hK => ?_) (fun K hK => ?_)
    · skip
      try rw [if_pos (show Region.wanted _ _ = true from rfl)]
      go_simp
      refine (toRel_any _ a _ (H0.out.on (bthen B_w3 bb)) (by omega)).mono ?_
      rintro e V5 ⟨P5, d5, rfl, o5, g5⟩
      have z5 := g5.size
      have b5 := bthen bb g5
      have SB5 := HS_w3.out _ b5
      refine hK.out _ _ (fun _ => SB5) ?_
      clear hK K
      try simp only [List.setIfInBounds_toArray, List.set_cons_zero, List.set_cons_succ, Act.put]
      refine wpAnyR_two (i := 3) (j := 12) (by kernel_rfl) rfl rfl (fun K hK => ?_) (fun K hK => ?_)
      · skip
        try rw [if_pos (show Region.wanted _ _ = true from rfl)]
        go_simp
        refine (toRel_any _ b _ (H1.out.on (bthen B_w3 b5)) (by omega)).mono ?_
        rintro e V6 ⟨P6, d6, rfl, o6, g6⟩
        have z6 := g6.size
        have b6 := bthen b5 g6
        have o5_6 := o5.below g6 (by omega)
        have SB6 := HS_w3.out _ b6
        refine hK.out _ _ (fun _ => SB6) ?_
        clear hK K
        try simp only [List.setIfInBounds_toArray, List.set_cons_zero, List.set_cons_succ, Act.put]
        refine wpAnyR_two (i := 5) (j := 12) (by kernel_rfl) rfl rfl (fun K hK => ?_) (fun K hK => ?_)
        · skip
          try rw [if_pos (show Region.wanted _ _ = true from rfl)]
          go_simp
          refine (toIntS_any _ ls _ (H2.out.on (bthen B_w3 b6)) (by omega)).mono ?_
          rintro e V7 ⟨P7, d7, rfl, o7, g7⟩
          have z7 := g7.size
          have b7 := bthen b6 g7
          have o5_6_7 := o5_6.below g7 (by omega)
          have o6_7 := o6.below g7 (by omega)
          have SB7 := HS_w3.out _ b7
          refine hK.out _ _ (fun _ => SB7) ?_
          clear hK K
          try simp only [List.setIfInBounds_toArray, List.set_cons_zero, List.set_cons_succ, Act.put]
          refine wpAnyR_two (i := 7) (j := 12) (by kernel_rfl) rfl rfl (fun K hK => ?_) (fun K hK => ?_)
          · skip
            try rw [if_pos (show Region.wanted _ _ = true from rfl)]
            go_simp
            refine (toIntS_any _ rs _ (H3.out.on (bthen B_w3 b7)) (by omega)).mono ?_
            rintro e V8 ⟨P8, d8, rfl, o8, g8⟩
            have z8 := g8.size
            have b8 := bthen b7 g8
            have o5_6_7_8 := o5_6_7.below g8 (by omega)
            have o6_7_8 := o6_7.below g8 (by omega)
            have o7_8 := o7.below g8 (by omega)
            have SB8 := HS_w3.out _ b8
            refine hK.out _ _ (fun _ => SB8) ?_
            clear hK K
            try simp only [List.setIfInBounds_toArray, List.set_cons_zero, List.set_cons_succ, Act.put]
            refine wpAnyR_two (i := 8) (j := 12) (by kernel_rfl) rfl rfl (fun K hK => ?_) (fun K hK => ?_)
            · skip
              try rw [if_pos (show Region.wanted _ _ = true from rfl)]
              go_simp
              refine (specRelJoin_any _ _ _ _ a b ls rs _ rfl _ rfl _ ⟨_, rfl, o5_6_7_8.rd.more (by omega)⟩ ⟨_, rfl, o6_7_8.rd.more (by omega)⟩ (o7_8.rd.more (by omega)) (o8.rd.more (by omega)) (by omega) (by omega) (by omega) (by omega)).mono ?_
              rw [← HR0.out]
              try rw [← HR1.out]
              rintro e V9 ⟨P9, d9, rfl, o9, g9⟩
              have z9 := g9.size
              have b9 := bthen b8 g9
              have o5_6_7_8_9 := o5_6_7_8.below g9 (by omega)
              have o6_7_8_9 := o6_7_8.below g9 (by omega)
              have o7_8_9 := o7_8.below g9 (by omega)
              have o8_9 := o8.below g9 (by omega)
              have SB9 := HS_w3.out _ b9
              refine hK.out _ _ (fun _ => SB9) ?_
              clear hK K
              try simp only [List.setIfInBounds_toArray, List.set_cons_zero, List.set_cons_succ, Act.put]
              refine wpAnyR_pure (i := 9) (oi := _) ?vuw10 rfl rfl (by kernel_rfl) (by decide) (fun _ _ _ h => h) rfl ?hyuw10 (fun _ => SB9) ?restuw10
              case hyuw10 => (intro W; go_simp; (try with_reducible rfl))
              try simp only [List.setIfInBounds_toArray, List.set_cons_zero, List.set_cons_succ]
              refine wpAnyR_pure (i := 10) (oi := _) ?vuw11 rfl rfl (by kernel_rfl) (by decide) (fun _ _ _ h => h) rfl ?hyuw11 (fun _ => SB9) ?restuw11
              case hyuw11 => (intro W; go_simp; (try with_reducible rfl))
              try simp only [List.setIfInBounds_toArray, List.set_cons_zero, List.set_cons_succ]
              refine wpAnyR_pure (i := 11) (oi := _) ?vuw12 rfl rfl (by kernel_rfl) (by decide) (fun _ _ _ h => h) rfl ?hyuw12 (fun _ => SB9) ?restuw12
              case hyuw12 => (intro W; go_simp; (try with_reducible rfl))
              try simp only [List.setIfInBounds_toArray, List.set_cons_zero, List.set_cons_succ]
              refine wpAnyR_one (i := 12) (by kernel_rfl) rfl (fun K hK => ?_)
              try rw [if_pos (show Region.wanted _ _ = true from rfl)]
              go_simp
              obtain ⟨V13, hWn⟩ : ∃ W', W' = V9.alloc (Obj.cells #[Value.int IntKind.i64 0, Value.slice none 0 0] 27) := ⟨_, rfl⟩
              rw [← hWn]
              have g13 : Below V9.heap.size V9 V13 := by rw [hWn]; exact below1 _ _
              have X13 : Blk V13 V9.heap.size 27 #[Value.int IntKind.i64 0, Value.slice none 0 0] := by rw [hWn]; exact Blk.new _ _ _
              have z13 := g13.size
              have y13 := X13.lt
              clear hWn
              have b13 := bthen b9 g13
              have o5_6_7_8_9_13 := o5_6_7_8_9.below g13 (by omega)
              have o6_7_8_9_13 := o6_7_8_9.below g13 (by omega)
              have o7_8_9_13 := o7_8_9.below g13 (by omega)
              have o8_9_13 := o8_9.below g13 (by omega)
              have o9_13 := o9.below g13 (by omega)
              have SB13 := HS_w3.out _ b13
              refine hK.out _ _ (fun _ => SB13) ?_
              clear hK K
              try simp only [List.setIfInBounds_toArray, List.set_cons_zero, List.set_cons_succ, Act.put]
              refine wpAnyR_one (i := 13) (by kernel_rfl) rfl (fun K hK => ?_)
              try rw [if_pos (show Region.wanted _ _ = true from rfl)]
              have c0 := X13.cell 0
              have c1 := X13.cell 1
              have f0 := X13.frozen 0
              have f1 := X13.frozen 1
              simp at c0 c1
              go_simp
              refine hK.out _ _ (fun hf => absurd hf (by decide)) ?_
              clear hK K c0 c1 f0 f1
              try simp only [List.setIfInBounds_toArray, List.set_cons_zero, List.set_cons_succ, Act.put]
              refine wpAnyR_one (i := 14) (by kernel_rfl) rfl (fun K hK => ?_)
              go_simp
              refine hK.out _ _ (fun hf => absurd hf (by decide)) ?_
              clear hK K
              refine wpAnyR_done (by kernel_rfl) ?_
              go_wp2_with fail
              go_meet
              exact ⟨P9, d9, V9.heap.size, V8.heap.size, V9.heap.size, rfl, rfl, BoxRel.made (O := OwnRows) (fun h a b => h.only a b) (r := R0) b13 X13 o9_13 (by omega) (by omega) (by omega) (by omega)⟩
            · skip
              try rw [if_pos (show Region.wanted _ _ = true from rfl)]
              go_simp
              obtain ⟨V15, hWn⟩ : ∃ W', W' = V8.alloc (Obj.cells #[Value.int IntKind.i64 0, Value.slice none 0 0] 27) := ⟨_, rfl⟩
              rw [← hWn]
              have g15 : Below V8.heap.size V8 V15 := by rw [hWn]; exact below1 _ _
              have X15 : Blk V15 V8.heap.size 27 #[Value.int IntKind.i64 0, Value.slice none 0 0] := by rw [hWn]; exact Blk.new _ _ _
              have z15 := g15.size
              have y15 := X15.lt
              clear hWn
              have b15 := bthen b8 g15
              have o5_6_7_8_15 := o5_6_7_8.below g15 (by omega)
              have o6_7_8_15 := o6_7_8.below g15 (by omega)
              have o7_8_15 := o7_8.below g15 (by omega)
              have o8_15 := o8.below g15 (by omega)
              have SB15 := HS_w3.out _ b15
              refine hK.out _ _ (fun _ => SB15) ?_
              clear hK K
              try simp only [List.setIfInBounds_toArray, List.set_cons_zero, List.set_cons_succ, Act.put]
              refine wpAnyR_one (i := 8) (by kernel_rfl) rfl (fun K hK => ?_)
              try rw [if_pos (show Region.wanted _ _ = true from rfl)]
              go_simp
              refine (specRelJoin_any _ _ _ _ a b ls rs _ rfl _ rfl _ ⟨_, rfl, o5_6_7_8_15.rd.more (by omega)⟩ ⟨_, rfl, o6_7_8_15.rd.more (by omega)⟩ (o7_8_15.rd.more (by omega)) (o8_15.rd.more (by omega)) (by omega) (by omega) (by omega) (by omega)).mono ?_
              rw [← HR0.out]
              try rw [← HR1.out]
              rintro e V16 ⟨P16, d16, rfl, o16, g16⟩
              have z16 := g16.size
              have b16 := bthen b15 g16
              have o5_6_7_8_15_16 := o5_6_7_8_15.below g16 (by omega)
              have o6_7_8_15_16 := o6_7_8_15.below g16 (by omega)
              have o7_8_15_16 := o7_8_15.below g16 (by omega)
              have o8_15_16 := o8_15.below g16 (by omega)
              have X16 := X15.below g16 X15.lt
              have SB16 := HS_w3.out _ b16
              refine hK.out _ _ (fun _ => SB16) ?_
              clear hK K
              try simp only [List.setIfInBounds_toArray, List.set_cons_zero, List.set_cons_succ, Act.put]
              refine wpAnyR_pure (i := 9) (oi := _) ?vuw17 rfl rfl (by kernel_rfl) (by decide) (fun _ _ _ h => h) rfl ?hyuw17 (fun _ => SB16) ?restuw17
              case hyuw17 => (intro W; go_simp; (try with_reducible rfl))
              try simp only [List.setIfInBounds_toArray, List.set_cons_zero, List.set_cons_succ]
              refine wpAnyR_pure (i := 10) (oi := _) ?vuw18 rfl rfl (by kernel_rfl) (by decide) (fun _ _ _ h => h) rfl ?hyuw18 (fun _ => SB16) ?restuw18
              case hyuw18 => (intro W; go_simp; (try with_reducible rfl))
              try simp only [List.setIfInBounds_toArray, List.set_cons_zero, List.set_cons_succ]
              refine wpAnyR_pure (i := 11) (oi := _) ?vuw19 rfl rfl (by kernel_rfl) (by decide) (fun _ _ _ h => h) rfl ?hyuw19 (fun _ => SB16) ?restuw19
              case hyuw19 => (intro W; go_simp; (try with_reducible rfl))
              try simp only [List.setIfInBounds_toArray, List.set_cons_zero, List.set_cons_succ]
              refine wpAnyR_one (i := 13) (by kernel_rfl) rfl (fun K hK => ?_)
              try rw [if_pos (show Region.wanted _ _ = true from rfl)]
              have c0 := X16.cell 0
              have c1 := X16.cell 1
              have f0 := X16.frozen 0
              have f1 := X16.frozen 1
              simp at c0 c1
              go_simp
              refine hK.out _ _ (fun hf => absurd hf (by decide)) ?_
              clear hK K c0 c1 f0 f1
              try simp only [List.setIfInBounds_toArray, List.set_cons_zero, List.set_cons_succ, Act.put]
              refine wpAnyR_one (i := 14) (by kernel_rfl) rfl (fun K hK => ?_)
              go_simp
              refine hK.out _ _ (fun hf => absurd hf (by decide)) ?_
              clear hK K
              refine wpAnyR_done (by kernel_rfl) ?_
              go_wp2_with fail
              go_meet
              exact ⟨P16, d16, V8.heap.size, V15.heap.size, V16.heap.size, rfl, rfl, BoxRel.made (O := OwnRows) (fun h a b => h.only a b) (r := R0) b16 X16 o16 (by omega) (by omega) (by omega) (by omega)⟩
          · skip
            try rw [if_pos (show Region.wanted _ _ = true from rfl)]
            go_simp
            obtain ⟨V21, hWn⟩ : ∃ W', W' = V7.alloc (Obj.cells #[Value.int IntKind.i64 0, Value.slice none 0 0] 27) := ⟨_, rfl⟩
            rw [← hWn]
            have g21 : Below V7.heap.size V7 V21 := by rw [hWn]; exact below1 _ _
            have X21 : Blk V21 V7.heap.size 27 #[Value.int IntKind.i64 0, Value.slice none 0 0] := by rw [hWn]; exact Blk.new _ _ _
            have z21 := g21.size
            have y21 := X21.lt
            clear hWn
            have b21 := bthen b7 g21
            have o5_6_7_21 := o5_6_7.below g21 (by omega)
            have o6_7_21 := o6_7.below g21 (by omega)
            have o7_21 := o7.below g21 (by omega)
            have SB21 := HS_w3.out _ b21
            refine hK.out _ _ (fun _ => SB21) ?_
            clear hK K
            try simp only [List.setIfInBounds_toArray, List.set_cons_zero, List.set_cons_succ, Act.put]
            refine wpAnyR_one (i := 7) (by kernel_rfl) rfl (fun K hK => ?_)
            try rw [if_pos (show Region.wanted _ _ = true from rfl)]
            go_simp
            refine (toIntS_any _ rs _ (H3.out.on (bthen B_w3 b21)) (by omega)).mono ?_
            rintro e V22 ⟨P22, d22, rfl, o22, g22⟩
            have z22 := g22.size
            have b22 := bthen b21 g22
            have o5_6_7_21_22 := o5_6_7_21.below g22 (by omega)
            have o6_7_21_22 := o6_7_21.below g22 (by omega)
            have o7_21_22 := o7_21.below g22 (by omega)
            have X22 := X21.below g22 X21.lt
            have SB22 := HS_w3.out _ b22
            refine hK.out _ _ (fun _ => SB22) ?_
            clear hK K
            try simp only [List.setIfInBounds_toArray, List.set_cons_zero, List.set_cons_succ, Act.put]
            refine wpAnyR_one (i := 8) (by kernel_rfl) rfl (fun K hK => ?_)
            try rw [if_pos (show Region.wanted _ _ = true from rfl)]
            go_simp
            refine (specRelJoin_any _ _ _ _ a b ls rs _ rfl _ rfl _ ⟨_, rfl, o5_6_7_21_22.rd.more (by omega)⟩ ⟨_, rfl, o6_7_21_22.rd.more (by omega)⟩ (o7_21_22.rd.more (by omega)) (o22.rd.more (by omega)) (by omega) (by omega) (by omega) (by omega)).mono ?_
            rw [← HR0.out]
            try rw [← HR1.out]
            rintro e V23 ⟨P23, d23, rfl, o23, g23⟩
            have z23 := g23.size
            have b23 := bthen b22 g23
            have o5_6_7_21_22_23 := o5_6_7_21_22.below g23 (by omega)
            have o6_7_21_22_23 := o6_7_21_22.below g23 (by omega)
            have o7_21_22_23 := o7_21_22.below g23 (by omega)
            have o22_23 := o22.below g23 (by omega)
            have X23 := X22.below g23 X22.lt
            have SB23 := HS_w3.out _ b23
            refine hK.out _ _ (fun _ => SB23) ?_
            clear hK K
            try simp only [List.setIfInBounds_toArray, List.set_cons_zero, List.set_cons_succ, Act.put]
            refine wpAnyR_pure (i := 9) (oi := _) ?vuw24 rfl rfl (by kernel_rfl) (by decide) (fun _ _ _ h => h) rfl ?hyuw24 (fun _ => SB23) ?restuw24
            case hyuw24 => (intro W; go_simp; (try with_reducible rfl))
            try simp only [List.setIfInBounds_toArray, List.set_cons_zero, List.set_cons_succ]
            refine wpAnyR_pure (i := 10) (oi := _) ?vuw25 rfl rfl (by kernel_rfl) (by decide) (fun _ _ _ h => h) rfl ?hyuw25 (fun _ => SB23) ?restuw25
            case hyuw25 => (intro W; go_simp; (try with_reducible rfl))
            try simp only [List.setIfInBounds_toArray, List.set_cons_zero, List.set_cons_succ]
            refine wpAnyR_pure (i := 11) (oi := _) ?vuw26 rfl rfl (by kernel_rfl) (by decide) (fun _ _ _ h => h) rfl ?hyuw26 (fun _ => SB23) ?restuw26
            case hyuw26 => (intro W; go_simp; (try with_reducible rfl))
            try simp only [List.setIfInBounds_toArray, List.set_cons_zero, List.set_cons_succ]
            refine wpAnyR_one (i := 13) (by kernel_rfl) rfl (fun K hK => ?_)
            try rw [if_pos (show Region.wanted _ _ = true from rfl)]
            have c0 := X23.cell 0
            have c1 := X23.cell 1
            have f0 := X23.frozen 0
            have f1 := X23.frozen 1
            simp at c0 c1
            go_simp
            refine hK.out _ _ (fun hf => absurd hf (by decide)) ?_
            clear hK K c0 c1 f0 f1
            try simp only [List.setIfInBounds_toArray, List.set_cons_zero, List.set_cons_succ, Act.put]
            refine wpAnyR_one (i := 14) (by kernel_rfl) rfl (fun K hK => ?_)
            go_simp
            refine hK.out _ _ (fun hf => absurd hf (by decide)) ?_
            clear hK K
            refine wpAnyR_done (by kernel_rfl) ?_
            go_wp2_with fail
            go_meet
            exact ⟨P23, d23, V7.heap.size, V22.heap.size, V23.heap.size, rfl, rfl, BoxRel.made (O := OwnRows) (fun h a b => h.only a b) (r := R0) b23 X23 o23 (by omega) (by omega) (by omega) (by omega)⟩
        · skip
          try rw [if_pos (show Region.wanted _ _ = true from rfl)]
          go_simp
          obtain ⟨V28, hWn⟩ : ∃ W', W' = V6.alloc (Obj.cells #[Value.int IntKind.i64 0, Value.slice none 0 0] 27) := ⟨_, rfl⟩
          rw [← hWn]
          have g28 : Below V6.heap.size V6 V28 := by rw [hWn]; exact below1 _ _
          have X28 : Blk V28 V6.heap.size 27 #[Value.int IntKind.i64 0, Value.slice none 0 0] := by rw [hWn]; exact Blk.new _ _ _
          have z28 := g28.size
          have y28 := X28.lt
          clear hWn
          have b28 := bthen b6 g28
          have o5_6_28 := o5_6.below g28 (by omega)
          have o6_28 := o6.below g28 (by omega)
          have SB28 := HS_w3.out _ b28
          refine hK.out _ _ (fun _ => SB28) ?_
          clear hK K
          try simp only [List.setIfInBounds_toArray, List.set_cons_zero, List.set_cons_succ, Act.put]
          refine wpAnyR_one (i := 5) (by kernel_rfl) rfl (fun K hK => ?_)
          try rw [if_pos (show Region.wanted _ _ = true from rfl)]
          go_simp
          refine (toIntS_any _ ls _ (H2.out.on (bthen B_w3 b28)) (by omega)).mono ?_
          rintro e V29 ⟨P29, d29, rfl, o29, g29⟩
          have z29 := g29.size
          have b29 := bthen b28 g29
          have o5_6_28_29 := o5_6_28.below g29 (by omega)
          have o6_28_29 := o6_28.below g29 (by omega)
          have X29 := X28.below g29 X28.lt
          have SB29 := HS_w3.out _ b29
          refine hK.out _ _ (fun _ => SB29) ?_
          clear hK K
          try simp only [List.setIfInBounds_toArray, List.set_cons_zero, List.set_cons_succ, Act.put]
          refine wpAnyR_one (i := 7) (by kernel_rfl) rfl (fun K hK => ?_)
          try rw [if_pos (show Region.wanted _ _ = true from rfl)]
          go_simp
          refine (toIntS_any _ rs _ (H3.out.on (bthen B_w3 b29)) (by omega)).mono ?_
          rintro e V30 ⟨P30, d30, rfl, o30, g30⟩
          have z30 := g30.size
          have b30 := bthen b29 g30
          have o5_6_28_29_30 := o5_6_28_29.below g30 (by omega)
          have o6_28_29_30 := o6_28_29.below g30 (by omega)
          have o29_30 := o29.below g30 (by omega)
          have X30 := X29.below g30 X29.lt
          have SB30 := HS_w3.out _ b30
          refine hK.out _ _ (fun _ => SB30) ?_
          clear hK K
          try simp only [List.setIfInBounds_toArray, List.set_cons_zero, List.set_cons_succ, Act.put]
          refine wpAnyR_one (i := 8) (by kernel_rfl) rfl (fun K hK => ?_)
          try rw [if_pos (show Region.wanted _ _ = true from rfl)]
          go_simp
          refine (specRelJoin_any _ _ _ _ a b ls rs _ rfl _ rfl _ ⟨_, rfl, o5_6_28_29_30.rd.more (by omega)⟩ ⟨_, rfl, o6_28_29_30.rd.more (by omega)⟩ (o29_30.rd.more (by omega)) (o30.rd.more (by omega)) (by omega) (by omega) (by omega) (by omega)).mono ?_
          rw [← HR0.out]
          try rw [← HR1.out]
          rintro e V31 ⟨P31, d31, rfl, o31, g31⟩
          have z31 := g31.size
          have b31 := bthen b30 g31
          have o5_6_28_29_30_31 := o5_6_28_29_30.below g31 (by omega)
          have o6_28_29_30_31 := o6_28_29_30.below g31 (by omega)
          have o29_30_31 := o29_30.below g31 (by omega)
          have o30_31 := o30.below g31 (by omega)
          have X31 := X30.below g31 X30.lt
          have SB31 := HS_w3.out _ b31
          refine hK.out _ _ (fun _ => SB31) ?_
          clear hK K
          try simp only [List.setIfInBounds_toArray, List.set_cons_zero, List.set_cons_succ, Act.put]
          refine wpAnyR_pure (i := 9) (oi := _) ?vuw32 rfl rfl (by kernel_rfl) (by decide) (fun _ _ _ h => h) rfl ?hyuw32 (fun _ => SB31) ?restuw32
          case hyuw32 => (intro W; go_simp; (try with_reducible rfl))
          try simp only [List.setIfInBounds_toArray, List.set_cons_zero, List.set_cons_succ]
          refine wpAnyR_pure (i := 10) (oi := _) ?vuw33 rfl rfl (by kernel_rfl) (by decide) (fun _ _ _ h => h) rfl ?hyuw33 (fun _ => SB31) ?restuw33
          case hyuw33 => (intro W; go_simp; (try with_reducible rfl))
          try simp only [List.setIfInBounds_toArray, List.set_cons_zero, List.set_cons_succ]
          refine wpAnyR_pure (i := 11) (oi := _) ?vuw34 rfl rfl (by kernel_rfl) (by decide) (fun _ _ _ h => h) rfl ?hyuw34 (fun _ => SB31) ?restuw34
          case hyuw34 => (intro W; go_simp; (try with_reducible rfl))
          try simp only [List.setIfInBounds_toArray, List.set_cons_zero, List.set_cons_succ]
          refine wpAnyR_one (i := 13) (by kernel_rfl) rfl (fun K hK => ?_)
          try rw [if_pos (show Region.wanted _ _ = true from rfl)]
          have c0 := X31.cell 0
          have c1 := X31.cell 1
          have f0 := X31.frozen 0
          have f1 := X31.frozen 1
          simp at c0 c1
          go_simp
          refine hK.out _ _ (fun hf => absurd hf (by decide)) ?_
          clear hK K c0 c1 f0 f1
          try simp only [List.setIfInBounds_toArray, List.set_cons_zero, List.set_cons_succ, Act.put]
          refine wpAnyR_one (i := 14) (by kernel_rfl) rfl (fun K hK => ?_)
          go_simp
          refine hK.out _ _ (fun hf => absurd hf (by decide)) ?_
          clear hK K
          refine wpAnyR_done (by kernel_rfl) ?_
          go_wp2_with fail
          go_meet
          exact ⟨P31, d31, V6.heap.size, V30.heap.size, V31.heap.size, rfl, rfl, BoxRel.made (O := OwnRows) (fun h a b => h.only a b) (r := R0) b31 X31 o31 (by omega) (by omega) (by omega) (by omega)⟩
      · skip
        try rw [if_pos (show Region.wanted _ _ = true from rfl)]
        go_simp
        obtain ⟨V36, hWn⟩ : ∃ W', W' = V5.alloc (Obj.cells #[Value.int IntKind.i64 0, Value.slice none 0 0] 27) := ⟨_, rfl⟩
        rw [← hWn]
        have g36 : Below V5.heap.size V5 V36 := by rw [hWn]; exact below1 _ _
        have X36 : Blk V36 V5.heap.size 27 #[Value.int IntKind.i64 0, Value.slice none 0 0] := by rw [hWn]; exact Blk.new _ _ _
        have z36 := g36.size
        have y36 := X36.lt
        clear hWn
        have b36 := bthen b5 g36
        have o5_36 := o5.below g36 (by omega)
        have SB36 := HS_w3.out _ b36
        refine hK.out _ _ (fun _ => SB36) ?_
        clear hK K
        try simp only [List.setIfInBounds_toArray, List.set_cons_zero, List.set_cons_succ, Act.put]
        refine wpAnyR_one (i := 3) (by kernel_rfl) rfl (fun K hK => ?_)
        try rw [if_pos (show Region.wanted _ _ = true from rfl)]
        go_simp
        refine (toRel_any _ b _ (H1.out.on (bthen B_w3 b36)) (by omega)).mono ?_
        rintro e V37 ⟨P37, d37, rfl, o37, g37⟩
        have z37 := g37.size
        have b37 := bthen b36 g37
        have o5_36_37 := o5_36.below g37 (by omega)
        have X37 := X36.below g37 X36.lt
        have SB37 := HS_w3.out _ b37
        refine hK.out _ _ (fun _ => SB37) ?_
        clear hK K
        try simp only [List.setIfInBounds_toArray, List.set_cons_zero, List.set_cons_succ, Act.put]
        refine wpAnyR_one (i := 5) (by kernel_rfl) rfl (fun K hK => ?_)
        try rw [if_pos (show Region.wanted _ _ = true from rfl)]
        go_simp
        refine (toIntS_any _ ls _ (H2.out.on (bthen B_w3 b37)) (by omega)).mono ?_
        rintro e V38 ⟨P38, d38, rfl, o38, g38⟩
        have z38 := g38.size
        have b38 := bthen b37 g38
        have o5_36_37_38 := o5_36_37.below g38 (by omega)
        have o37_38 := o37.below g38 (by omega)
        have X38 := X37.below g38 X37.lt
        have SB38 := HS_w3.out _ b38
        refine hK.out _ _ (fun _ => SB38) ?_
        clear hK K
        try simp only [List.setIfInBounds_toArray, List.set_cons_zero, List.set_cons_succ, Act.put]
        refine wpAnyR_one (i := 7) (by kernel_rfl) rfl (fun K hK => ?_)
        try rw [if_pos (show Region.wanted _ _ = true from rfl)]
        go_simp
        refine (toIntS_any _ rs _ (H3.out.on (bthen B_w3 b38)) (by omega)).mono ?_
        rintro e V39 ⟨P39, d39, rfl, o39, g39⟩
        have z39 := g39.size
        have b39 := bthen b38 g39
        have o5_36_37_38_39 := o5_36_37_38.below g39 (by omega)
        have o37_38_39 := o37_38.below g39 (by omega)
        have o38_39 := o38.below g39 (by omega)
        have X39 := X38.below g39 X38.lt
        have SB39 := HS_w3.out _ b39
        refine hK.out _ _ (fun _ => SB39) ?_
        clear hK K
        try simp only [List.setIfInBounds_toArray, List.set_cons_zero, List.set_cons_succ, Act.put]
        refine wpAnyR_one (i := 8) (by kernel_rfl) rfl (fun K hK => ?_)
        try rw [if_pos (show Region.wanted _ _ = true from rfl)]
        go_simp
        refine (specRelJoin_any _ _ _ _ a b ls rs _ rfl _ rfl _ ⟨_, rfl, o5_36_37_38_39.rd.more (by omega)⟩ ⟨_, rfl, o37_38_39.rd.more (by omega)⟩ (o38_39.rd.more (by omega)) (o39.rd.more (by omega)) (by omega) (by omega) (by omega) (by omega)).mono ?_
        rw [← HR0.out]
        try rw [← HR1.out]
        rintro e V40 ⟨P40, d40, rfl, o40, g40⟩
        have z40 := g40.size
        have b40 := bthen b39 g40
        have o5_36_37_38_39_40 := o5_36_37_38_39.below g40 (by omega)
        have o37_38_39_40 := o37_38_39.below g40 (by omega)
        have o38_39_40 := o38_39.below g40 (by omega)
        have o39_40 := o39.below g40 (by omega)
        have X40 := X39.below g40 X39.lt
        have SB40 := HS_w3.out _ b40
        refine hK.out _ _ (fun _ => SB40) ?_
        clear hK K
        try simp only [List.setIfInBounds_toArray, List.set_cons_zero, List.set_cons_succ, Act.put]
        refine wpAnyR_pure (i := 9) (oi := _) ?vuw41 rfl rfl (by kernel_rfl) (by decide) (fun _ _ _ h => h) rfl ?hyuw41 (fun _ => SB40) ?restuw41
        case hyuw41 => (intro W; go_simp; (try with_reducible rfl))
        try simp only [List.setIfInBounds_toArray, List.set_cons_zero, List.set_cons_succ]
        refine wpAnyR_pure (i := 10) (oi := _) ?vuw42 rfl rfl (by kernel_rfl) (by decide) (fun _ _ _ h => h) rfl ?hyuw42 (fun _ => SB40) ?restuw42
        case hyuw42 => (intro W; go_simp; (try with_reducible rfl))
        try simp only [List.setIfInBounds_toArray, List.set_cons_zero, List.set_cons_succ]
        refine wpAnyR_pure (i := 11) (oi := _) ?vuw43 rfl rfl (by kernel_rfl) (by decide) (fun _ _ _ h => h) rfl ?hyuw43 (fun _ => SB40) ?restuw43
        case hyuw43 => (intro W; go_simp; (try with_reducible rfl))
        try simp only [List.setIfInBounds_toArray, List.set_cons_zero, List.set_cons_succ]
        refine wpAnyR_one (i := 13) (by kernel_rfl) rfl (fun K hK => ?_)
        try rw [if_pos (show Region.wanted _ _ = true from rfl)]
        have c0 := X40.cell 0
        have c1 := X40.cell 1
        have f0 := X40.frozen 0
        have f1 := X40.frozen 1
        simp at c0 c1
        go_simp
        refine hK.out _ _ (fun hf => absurd hf (by decide)) ?_
        clear hK K c0 c1 f0 f1
        try simp only [List.setIfInBounds_toArray, List.set_cons_zero, List.set_cons_succ, Act.put]
        refine wpAnyR_one (i := 14) (by kernel_rfl) rfl (fun K hK => ?_)
        go_simp
        refine hK.out _ _ (fun hf => absurd hf (by decide)) ?_
        clear hK K
        refine wpAnyR_done (by kernel_rfl) ?_
        go_wp2_with fail
        go_meet
        exact ⟨P40, d40, V5.heap.size, V39.heap.size, V40.heap.size, rfl, rfl, BoxRel.made (O := OwnRows) (fun h a b => h.only a b) (r := R0) b40 X40 o40 (by omega) (by omega) (by omega) (by omega)⟩
    · skip
      try rw [if_pos (show Region.wanted _ _ = true from rfl)]
      go_simp
      obtain ⟨V45, hWn⟩ : ∃ W', W' = W0'.alloc (Obj.cells #[Value.int IntKind.i64 0, Value.slice none 0 0] 27) := ⟨_, rfl⟩
      rw [← hWn]
      have g45 : Below W0'.heap.size W0' V45 := by rw [hWn]; exact below1 _ _
      have X45 : Blk V45 W0'.heap.size 27 #[Value.int IntKind.i64 0, Value.slice none 0 0] := by rw [hWn]; exact Blk.new _ _ _
      have z45 := g45.size
      have y45 := X45.lt
      clear hWn
      have b45 := bthen bb g45
      have SB45 := HS_w3.out _ b45
      refine hK.out _ _ (fun _ => SB45) ?_
      clear hK K
      try simp only [List.setIfInBounds_toArray, List.set_cons_zero, List.set_cons_succ, Act.put]
      refine wpAnyR_one (i := 1) (by kernel_rfl) rfl (fun K hK => ?_)
      try rw [if_pos (show Region.wanted _ _ = true from rfl)]
      go_simp
      refine (toRel_any _ a _ (H0.out.on (bthen B_w3 b45)) (by omega)).mono ?_
      rintro e V46 ⟨P46, d46, rfl, o46, g46⟩
      have z46 := g46.size
      have b46 := bthen b45 g46
      have X46 := X45.below g46 X45.lt
      have SB46 := HS_w3.out _ b46
      refine hK.out _ _ (fun _ => SB46) ?_
      clear hK K
      try simp only [List.setIfInBounds_toArray, List.set_cons_zero, List.set_cons_succ, Act.put]
      refine wpAnyR_one (i := 3) (by kernel_rfl) rfl (fun K hK => ?_)
      try rw [if_pos (show Region.wanted _ _ = true from rfl)]
      go_simp
      refine (toRel_any _ b _ (H1.out.on (bthen B_w3 b46)) (by omega)).mono ?_
      rintro e V47 ⟨P47, d47, rfl, o47, g47⟩
      have z47 := g47.size
      have b47 := bthen b46 g47
      have o46_47 := o46.below g47 (by omega)
      have X47 := X46.below g47 X46.lt
      have SB47 := HS_w3.out _ b47
      refine hK.out _ _ (fun _ => SB47) ?_
      clear hK K
      try simp only [List.setIfInBounds_toArray, List.set_cons_zero, List.set_cons_succ, Act.put]
      refine wpAnyR_one (i := 5) (by kernel_rfl) rfl (fun K hK => ?_)
      try rw [if_pos (show Region.wanted _ _ = true from rfl)]
      go_simp
      refine (toIntS_any _ ls _ (H2.out.on (bthen B_w3 b47)) (by omega)).mono ?_
      rintro e V48 ⟨P48, d48, rfl, o48, g48⟩
      have z48 := g48.size
      have b48 := bthen b47 g48
      have o46_47_48 := o46_47.below g48 (by omega)
      have o47_48 := o47.below g48 (by omega)
      have X48 := X47.below g48 X47.lt
      have SB48 := HS_w3.out _ b48
      refine hK.out _ _ (fun _ => SB48) ?_
      clear hK K
      try simp only [List.setIfInBounds_toArray, List.set_cons_zero, List.set_cons_succ, Act.put]
      refine wpAnyR_one (i := 7) (by kernel_rfl) rfl (fun K hK => ?_)
      try rw [if_pos (show Region.wanted _ _ = true from rfl)]
      go_simp
      refine (toIntS_any _ rs _ (H3.out.on (bthen B_w3 b48)) (by omega)).mono ?_
      rintro e V49 ⟨P49, d49, rfl, o49, g49⟩
      have z49 := g49.size
      have b49 := bthen b48 g49
      have o46_47_48_49 := o46_47_48.below g49 (by omega)
      have o47_48_49 := o47_48.below g49 (by omega)
      have o48_49 := o48.below g49 (by omega)
      have X49 := X48.below g49 X48.lt
      have SB49 := HS_w3.out _ b49
      refine hK.out _ _ (fun _ => SB49) ?_
      clear hK K
      try simp only [List.setIfInBounds_toArray, List.set_cons_zero, List.set_cons_succ, Act.put]
      refine wpAnyR_one (i := 8) (by kernel_rfl) rfl (fun K hK => ?_)
      try rw [if_pos (show Region.wanted _ _ = true from rfl)]
      go_simp
      refine (specRelJoin_any _ _ _ _ a b ls rs _ rfl _ rfl _ ⟨_, rfl, o46_47_48_49.rd.more (by omega)⟩ ⟨_, rfl, o47_48_49.rd.more (by omega)⟩ (o48_49.rd.more (by omega)) (o49.rd.more (by omega)) (by omega) (by omega) (by omega) (by omega)).mono ?_
      rw [← HR0.out]
      try rw [← HR1.out]
      rintro e V50 ⟨P50, d50, rfl, o50, g50⟩
      have z50 := g50.size
      have b50 := bthen b49 g50
      have o46_47_48_49_50 := o46_47_48_49.below g50 (by omega)
      have o47_48_49_50 := o47_48_49.below g50 (by omega)
      have o48_49_50 := o48_49.below g50 (by omega)
      have o49_50 := o49.below g50 (by omega)
      have X50 := X49.below g50 X49.lt
      have SB50 := HS_w3.out _ b50
      refine hK.out _ _ (fun _ => SB50) ?_
      clear hK K
      try simp only [List.setIfInBounds_toArray, List.set_cons_zero, List.set_cons_succ, Act.put]
      refine wpAnyR_pure (i := 9) (oi := _) ?vuw51 rfl rfl (by kernel_rfl) (by decide) (fun _ _ _ h => h) rfl ?hyuw51 (fun _ => SB50) ?restuw51
      case hyuw51 => (intro W; go_simp; (try with_reducible rfl))
      try simp only [List.setIfInBounds_toArray, List.set_cons_zero, List.set_cons_succ]
      refine wpAnyR_pure (i := 10) (oi := _) ?vuw52 rfl rfl (by kernel_rfl) (by decide) (fun _ _ _ h => h) rfl ?hyuw52 (fun _ => SB50) ?restuw52
      case hyuw52 => (intro W; go_simp; (try with_reducible rfl))
      try simp only [List.setIfInBounds_toArray, List.set_cons_zero, List.set_cons_succ]
      refine wpAnyR_pure (i := 11) (oi := _) ?vuw53 rfl rfl (by kernel_rfl) (by decide) (fun _ _ _ h => h) rfl ?hyuw53 (fun _ => SB50) ?restuw53
      case hyuw53 => (intro W; go_simp; (try with_reducible rfl))
      try simp only [List.setIfInBounds_toArray, List.set_cons_zero, List.set_cons_succ]
      refine wpAnyR_one (i := 13) (by kernel_rfl) rfl (fun K hK => ?_)
      try rw [if_pos (show Region.wanted _ _ = true from rfl)]
      have c0 := X50.cell 0
      have c1 := X50.cell 1
      have f0 := X50.frozen 0
      have f1 := X50.frozen 1
      simp at c0 c1
      go_simp
      refine hK.out _ _ (fun hf => absurd hf (by decide)) ?_
      clear hK K c0 c1 f0 f1
      try simp only [List.setIfInBounds_toArray, List.set_cons_zero, List.set_cons_succ, Act.put]
      refine wpAnyR_one (i := 14) (by kernel_rfl) rfl (fun K hK => ?_)
      go_simp
      refine hK.out _ _ (fun hf => absurd hf (by decide)) ?_
      clear hK K
      refine wpAnyR_done (by kernel_rfl) ?_
      go_wp2_with fail
      go_meet
      exact ⟨P50, d50, W0'.heap.size, V49.heap.size, V50.heap.size, rfl, rfl, BoxRel.made (O := OwnRows) (fun h a b => h.only a b) (r := R0) b50 X50 o50 (by omega) (by omega) (by omega) (by omega)⟩
  case rest =>
    obtain ⟨Q1, f1, gx1, lox1, hix1, rfl, rfl, bx1⟩ := hcut
    clear HS_w3 HB
    generalize wc = w4 at *
    have hb1 := bx1.below
    have gl1 := bx1.glo
    have gt1 := bx1.glt
    have ll1 := bx1.lole
    have hh1 := bx1.hile
    have ap1 := bx1.apart
    have bk1 := bx1.box
    have oo1 := bx1.rows
    have bk1_l := bk1.lt
    clear bx1
    have s_w4 := hb1.size
    have bx0_3 := bx0_2.below hb1 (by first | exact bx0_2.lt | omega)
    clear bx0_2
    have bx0_3_l := bx0_3.lt
    have bx1_3 := bx1_2.below hb1 (by first | exact bx1_2.lt | omega)
    clear bx1_2
    have bx1_3_l := bx1_3.lt
    have B_w4 := bthen B_w3 hb1
    have q9 : w4.cell? ⟨w.heap.size, 0, none⟩ = some (.int .i64 a.1) := bx0_3.cell 0
    have q10 : w4.cell? ⟨w.heap.size, 1, none⟩ = some (.slice A0 a.2.length c0) := bx0_3.cell 1
    have q11 : w4.cell? ⟨w.heap.size + 1, 0, none⟩ = some (.int .i64 b.1) := bx1_3.cell 0
    have q12 : w4.cell? ⟨w.heap.size + 1, 1, none⟩ = some (.slice A1 b.2.length c1) := bx1_3.cell 1
    have q13 : w4.cell? ⟨gx1, 0, none⟩ = some (.int .i64 R0.1) := bk1.cell 0
    have q14 : w4.cell? ⟨gx1, 1, none⟩ = some (.slice Q1 R0.2.length f1) := bk1.cell 1
    go_wp2_with (fail)
    clear q9 q10 q11 q12 q13 q14
    refine (toRel_any _ a _ (H0.out.on B_w4) (by omega)).mono ?_
    rintro e w5 ⟨P2, d2, rfl, o2, hb2⟩
    have s_w5 := hb2.size
    have bx0_4 := bx0_3.below hb2 (by first | exact bx0_3.lt | omega)
    clear bx0_3
    have bx0_4_l := bx0_4.lt
    have bx1_4 := bx1_3.below hb2 (by first | exact bx1_3.lt | omega)
    clear bx1_3
    have bx1_4_l := bx1_4.lt
    have w0_4 := oo1.below hb2 (by omega)
    clear oo1
    have bw0_4 := bk1.below hb2 (by first | exact bk1.lt | omega)
    clear bk1
    have bw0_4_l := bw0_4.lt
    have B_w5 := bthen B_w4 hb2
    have q15 : w5.cell? ⟨w.heap.size, 0, none⟩ = some (.int .i64 a.1) := bx0_4.cell 0
    have q16 : w5.cell? ⟨w.heap.size, 1, none⟩ = some (.slice A0 a.2.length c0) := bx0_4.cell 1
    have q17 : w5.cell? ⟨w.heap.size + 1, 0, none⟩ = some (.int .i64 b.1) := bx1_4.cell 0
    have q18 : w5.cell? ⟨w.heap.size + 1, 1, none⟩ = some (.slice A1 b.2.length c1) := bx1_4.cell 1
    have q19 : w5.cell? ⟨gx1, 0, none⟩ = some (.int .i64 R0.1) := bw0_4.cell 0
    have q20 : w5.cell? ⟨gx1, 1, none⟩ = some (.slice Q1 R0.2.length f1) := bw0_4.cell 1
    go_wp2_with (fail)
    clear q15 q16 q17 q18 q19 q20
    obtain ⟨w6, hw_w6⟩ : ∃ W', W' = w5.alloc (Obj.cells #[Value.int IntKind.i64 a.1, Value.slice P2 a.2.length d2] 27) := ⟨_, rfl⟩
    rw [← hw_w6]
    have hb_w6 : Below w5.heap.size w5 w6 := by rw [hw_w6]; exact below1 _ _
    have bxx0_n : Blk w6 w5.heap.size 27 #[.int .i64 a.1, .slice P2 a.2.length d2] := by rw [hw_w6]; exact Blk.new _ _ _
    have bxx0_nl := bxx0_n.lt
    clear hw_w6
    have s_w6 := hb_w6.size
    have bx0_5 := bx0_4.below hb_w6 (by first | exact bx0_4.lt | omega)
    clear bx0_4
    have bx0_5_l := bx0_5.lt
    have bx1_5 := bx1_4.below hb_w6 (by first | exact bx1_4.lt | omega)
    clear bx1_4
    have bx1_5_l := bx1_5.lt
    have w0_5 := w0_4.below hb_w6 (by omega)
    clear w0_4
    have bw0_5 := bw0_4.below hb_w6 (by first | exact bw0_4.lt | omega)
    clear bw0_4
    have bw0_5_l := bw0_5.lt
    have x0_5 := o2.below hb_w6 (by omega)
    clear o2
    have B_w6 := bthen B_w5 hb_w6
    refine (toRel_any _ b _ (H1.out.on B_w6) (by omega)).mono ?_
    rintro e w7 ⟨P3, d3, rfl, o3, hb3⟩
    have s_w7 := hb3.size
    have bx0_6 := bx0_5.below hb3 (by first | exact bx0_5.lt | omega)
    clear bx0_5
    have bx0_6_l := bx0_6.lt
    have bx1_6 := bx1_5.below hb3 (by first | exact bx1_5.lt | omega)
    clear bx1_5
    have bx1_6_l := bx1_6.lt
    have w0_6 := w0_5.below hb3 (by omega)
    clear w0_5
    have bw0_6 := bw0_5.below hb3 (by first | exact bw0_5.lt | omega)
    clear bw0_5
    have bw0_6_l := bw0_6.lt
    have x0_6 := x0_5.below hb3 (by omega)
    clear x0_5
    have bxx0_6 := bxx0_n.below hb3 (by first | exact bxx0_n.lt | omega)
    clear bxx0_n
    have bxx0_6_l := bxx0_6.lt
    have B_w7 := bthen B_w6 hb3
    have q21 : w7.cell? ⟨w.heap.size, 0, none⟩ = some (.int .i64 a.1) := bx0_6.cell 0
    have q22 : w7.cell? ⟨w.heap.size, 1, none⟩ = some (.slice A0 a.2.length c0) := bx0_6.cell 1
    have q23 : w7.cell? ⟨w.heap.size + 1, 0, none⟩ = some (.int .i64 b.1) := bx1_6.cell 0
    have q24 : w7.cell? ⟨w.heap.size + 1, 1, none⟩ = some (.slice A1 b.2.length c1) := bx1_6.cell 1
    have q25 : w7.cell? ⟨gx1, 0, none⟩ = some (.int .i64 R0.1) := bw0_6.cell 0
    have q26 : w7.cell? ⟨gx1, 1, none⟩ = some (.slice Q1 R0.2.length f1) := bw0_6.cell 1
    have q27 : w7.cell? ⟨w5.heap.size, 0, none⟩ = some (.int .i64 a.1) := bxx0_6.cell 0
    have q28 : w7.cell? ⟨w5.heap.size, 1, none⟩ = some (.slice P2 a.2.length d2) := bxx0_6.cell 1
    go_wp2_with (fail)
    clear q21 q22 q23 q24 q25 q26 q27 q28
    obtain ⟨w8, hw_w8⟩ : ∃ W', W' = w7.alloc (Obj.cells #[Value.int IntKind.i64 b.1, Value.slice P3 b.2.length d3] 27) := ⟨_, rfl⟩
    rw [← hw_w8]
    have hb_w8 : Below w7.heap.size w7 w8 := by rw [hw_w8]; exact below1 _ _
    have bxx1_n : Blk w8 w7.heap.size 27 #[.int .i64 b.1, .slice P3 b.2.length d3] := by rw [hw_w8]; exact Blk.new _ _ _
    have bxx1_nl := bxx1_n.lt
    clear hw_w8
    have s_w8 := hb_w8.size
    have bx0_7 := bx0_6.below hb_w8 (by first | exact bx0_6.lt | omega)
    clear bx0_6
    have bx0_7_l := bx0_7.lt
    have bx1_7 := bx1_6.below hb_w8 (by first | exact bx1_6.lt | omega)
    clear bx1_6
    have bx1_7_l := bx1_7.lt
    have w0_7 := w0_6.below hb_w8 (by omega)
    clear w0_6
    have bw0_7 := bw0_6.below hb_w8 (by first | exact bw0_6.lt | omega)
    clear bw0_6
    have bw0_7_l := bw0_7.lt
    have x0_7 := x0_6.below hb_w8 (by omega)
    clear x0_6
    have bxx0_7 := bxx0_6.below hb_w8 (by first | exact bxx0_6.lt | omega)
    clear bxx0_6
    have bxx0_7_l := bxx0_7.lt
    have x1_7 := o3.below hb_w8 (by omega)
    clear o3
    have B_w8 := bthen B_w7 hb_w8
    refine (toIntS_any _ ls _ (H2.out.on B_w8) (by omega)).mono ?_
    rintro e w9 ⟨P4, d4, rfl, o4, hb4⟩
    have s_w9 := hb4.size
    have bx0_8 := bx0_7.below hb4 (by first | exact bx0_7.lt | omega)
    clear bx0_7
    have bx0_8_l := bx0_8.lt
    have bx1_8 := bx1_7.below hb4 (by first | exact bx1_7.lt | omega)
    clear bx1_7
    have bx1_8_l := bx1_8.lt
    have w0_8 := w0_7.below hb4 (by omega)
    clear w0_7
    have bw0_8 := bw0_7.below hb4 (by first | exact bw0_7.lt | omega)
    clear bw0_7
    have bw0_8_l := bw0_8.lt
    have x0_8 := x0_7.below hb4 (by omega)
    clear x0_7
    have bxx0_8 := bxx0_7.below hb4 (by first | exact bxx0_7.lt | omega)
    clear bxx0_7
    have bxx0_8_l := bxx0_8.lt
    have x1_8 := x1_7.below hb4 (by omega)
    clear x1_7
    have bxx1_8 := bxx1_n.below hb4 (by first | exact bxx1_n.lt | omega)
    clear bxx1_n
    have bxx1_8_l := bxx1_8.lt
    have B_w9 := bthen B_w8 hb4
    have q29 : w9.cell? ⟨w.heap.size, 0, none⟩ = some (.int .i64 a.1) := bx0_8.cell 0
    have q30 : w9.cell? ⟨w.heap.size, 1, none⟩ = some (.slice A0 a.2.length c0) := bx0_8.cell 1
    have q31 : w9.cell? ⟨w.heap.size + 1, 0, none⟩ = some (.int .i64 b.1) := bx1_8.cell 0
    have q32 : w9.cell? ⟨w.heap.size + 1, 1, none⟩ = some (.slice A1 b.2.length c1) := bx1_8.cell 1
    have q33 : w9.cell? ⟨gx1, 0, none⟩ = some (.int .i64 R0.1) := bw0_8.cell 0
    have q34 : w9.cell? ⟨gx1, 1, none⟩ = some (.slice Q1 R0.2.length f1) := bw0_8.cell 1
    have q35 : w9.cell? ⟨w5.heap.size, 0, none⟩ = some (.int .i64 a.1) := bxx0_8.cell 0
    have q36 : w9.cell? ⟨w5.heap.size, 1, none⟩ = some (.slice P2 a.2.length d2) := bxx0_8.cell 1
    have q37 : w9.cell? ⟨w7.heap.size, 0, none⟩ = some (.int .i64 b.1) := bxx1_8.cell 0
    have q38 : w9.cell? ⟨w7.heap.size, 1, none⟩ = some (.slice P3 b.2.length d3) := bxx1_8.cell 1
    go_wp2_with (fail)
    clear q29 q30 q31 q32 q33 q34 q35 q36 q37 q38
    refine (toIntS_any _ rs _ (H3.out.on B_w9) (by omega)).mono ?_
    rintro e w10 ⟨P5, d5, rfl, o5, hb5⟩
    have s_w10 := hb5.size
    have bx0_9 := bx0_8.below hb5 (by first | exact bx0_8.lt | omega)
    clear bx0_8
    have bx0_9_l := bx0_9.lt
    have bx1_9 := bx1_8.below hb5 (by first | exact bx1_8.lt | omega)
    clear bx1_8
    have bx1_9_l := bx1_9.lt
    have w0_9 := w0_8.below hb5 (by omega)
    clear w0_8
    have bw0_9 := bw0_8.below hb5 (by first | exact bw0_8.lt | omega)
    clear bw0_8
    have bw0_9_l := bw0_9.lt
    have x0_9 := x0_8.below hb5 (by omega)
    clear x0_8
    have bxx0_9 := bxx0_8.below hb5 (by first | exact bxx0_8.lt | omega)
    clear bxx0_8
    have bxx0_9_l := bxx0_9.lt
    have x1_9 := x1_8.below hb5 (by omega)
    clear x1_8
    have bxx1_9 := bxx1_8.below hb5 (by first | exact bxx1_8.lt | omega)
    clear bxx1_8
    have bxx1_9_l := bxx1_9.lt
    have x2_9 := o4.below hb5 (by omega)
    clear o4
    have B_w10 := bthen B_w9 hb5
    have q39 : w10.cell? ⟨w.heap.size, 0, none⟩ = some (.int .i64 a.1) := bx0_9.cell 0
    have q40 : w10.cell? ⟨w.heap.size, 1, none⟩ = some (.slice A0 a.2.length c0) := bx0_9.cell 1
    have q41 : w10.cell? ⟨w.heap.size + 1, 0, none⟩ = some (.int .i64 b.1) := bx1_9.cell 0
    have q42 : w10.cell? ⟨w.heap.size + 1, 1, none⟩ = some (.slice A1 b.2.length c1) := bx1_9.cell 1
    have q43 : w10.cell? ⟨gx1, 0, none⟩ = some (.int .i64 R0.1) := bw0_9.cell 0
    have q44 : w10.cell? ⟨gx1, 1, none⟩ = some (.slice Q1 R0.2.length f1) := bw0_9.cell 1
    have q45 : w10.cell? ⟨w5.heap.size, 0, none⟩ = some (.int .i64 a.1) := bxx0_9.cell 0
    have q46 : w10.cell? ⟨w5.heap.size, 1, none⟩ = some (.slice P2 a.2.length d2) := bxx0_9.cell 1
    have q47 : w10.cell? ⟨w7.heap.size, 0, none⟩ = some (.int .i64 b.1) := bxx1_9.cell 0
    have q48 : w10.cell? ⟨w7.heap.size, 1, none⟩ = some (.slice P3 b.2.length d3) := bxx1_9.cell 1
    go_wp2_with (fail)
    clear q39 q40 q41 q42 q43 q44 q45 q46 q47 q48
    refine (implRelJoin_any _ _ _ _ a b ls rs _ rfl _ rfl _ ⟨_, rfl, x0_9.rd.more (by omega)⟩ ⟨_, rfl, x1_9.rd.more (by omega)⟩ (x2_9.rd.more (by omega)) (o5.rd.more (by omega)) (by omega) (by omega) (by omega) (by omega)).mono ?_
    rw [← HR0.out]
    try rw [← HR1.out]
    rintro e w11 ⟨Q6_0, f6_0, rfl, o6_0, hb6⟩
    have s_w11 := hb6.size
    have bx0_10 := bx0_9.below hb6 (by first | exact bx0_9.lt | omega)
    clear bx0_9
    have bx0_10_l := bx0_10.lt
    have bx1_10 := bx1_9.below hb6 (by first | exact bx1_9.lt | omega)
    clear bx1_9
    have bx1_10_l := bx1_10.lt
    have w0_10 := w0_9.below hb6 (by omega)
    clear w0_9
    have bw0_10 := bw0_9.below hb6 (by first | exact bw0_9.lt | omega)
    clear bw0_9
    have bw0_10_l := bw0_10.lt
    have x0_10 := x0_9.below hb6 (by omega)
    clear x0_9
    have bxx0_10 := bxx0_9.below hb6 (by first | exact bxx0_9.lt | omega)
    clear bxx0_9
    have bxx0_10_l := bxx0_10.lt
    have x1_10 := x1_9.below hb6 (by omega)
    clear x1_9
    have bxx1_10 := bxx1_9.below hb6 (by first | exact bxx1_9.lt | omega)
    clear bxx1_9
    have bxx1_10_l := bxx1_10.lt
    have x2_10 := x2_9.below hb6 (by omega)
    clear x2_9
    have x3_10 := o5.below hb6 (by omega)
    clear o5
    have B_w11 := bthen B_w10 hb6
    have q49 : w11.cell? ⟨w.heap.size, 0, none⟩ = some (.int .i64 a.1) := bx0_10.cell 0
    have q50 : w11.cell? ⟨w.heap.size, 1, none⟩ = some (.slice A0 a.2.length c0) := bx0_10.cell 1
    have q51 : w11.cell? ⟨w.heap.size + 1, 0, none⟩ = some (.int .i64 b.1) := bx1_10.cell 0
    have q52 : w11.cell? ⟨w.heap.size + 1, 1, none⟩ = some (.slice A1 b.2.length c1) := bx1_10.cell 1
    have q53 : w11.cell? ⟨gx1, 0, none⟩ = some (.int .i64 R0.1) := bw0_10.cell 0
    have q54 : w11.cell? ⟨gx1, 1, none⟩ = some (.slice Q1 R0.2.length f1) := bw0_10.cell 1
    have q55 : w11.cell? ⟨w5.heap.size, 0, none⟩ = some (.int .i64 a.1) := bxx0_10.cell 0
    have q56 : w11.cell? ⟨w5.heap.size, 1, none⟩ = some (.slice P2 a.2.length d2) := bxx0_10.cell 1
    have q57 : w11.cell? ⟨w7.heap.size, 0, none⟩ = some (.int .i64 b.1) := bxx1_10.cell 0
    have q58 : w11.cell? ⟨w7.heap.size, 1, none⟩ = some (.slice P3 b.2.length d3) := bxx1_10.cell 1
    go_wp2_with (fail)
    clear q49 q50 q51 q52 q53 q54 q55 q56 q57 q58
    obtain ⟨w12, hw_w12⟩ : ∃ W', W' = w11.alloc (Obj.cells #[Value.int IntKind.i64 R0.1, Value.slice Q6_0 R0.2.length f6_0] 27) := ⟨_, rfl⟩
    rw [← hw_w12]
    have hb_w12 : Below w11.heap.size w11 w12 := by rw [hw_w12]; exact below1 _ _
    have bg0_n : Blk w12 w11.heap.size 27 #[.int .i64 R0.1, .slice Q6_0 R0.2.length f6_0] := by rw [hw_w12]; exact Blk.new _ _ _
    have bg0_nl := bg0_n.lt
    clear hw_w12
    have s_w12 := hb_w12.size
    have bx0_11 := bx0_10.below hb_w12 (by first | exact bx0_10.lt | omega)
    clear bx0_10
    have bx0_11_l := bx0_11.lt
    have bx1_11 := bx1_10.below hb_w12 (by first | exact bx1_10.lt | omega)
    clear bx1_10
    have bx1_11_l := bx1_11.lt
    have w0_11 := w0_10.below hb_w12 (by omega)
    clear w0_10
    have bw0_11 := bw0_10.below hb_w12 (by first | exact bw0_10.lt | omega)
    clear bw0_10
    have bw0_11_l := bw0_11.lt
    have x0_11 := x0_10.below hb_w12 (by omega)
    clear x0_10
    have bxx0_11 := bxx0_10.below hb_w12 (by first | exact bxx0_10.lt | omega)
    clear bxx0_10
    have bxx0_11_l := bxx0_11.lt
    have x1_11 := x1_10.below hb_w12 (by omega)
    clear x1_10
    have bxx1_11 := bxx1_10.below hb_w12 (by first | exact bxx1_10.lt | omega)
    clear bxx1_10
    have bxx1_11_l := bxx1_11.lt
    have x2_11 := x2_10.below hb_w12 (by omega)
    clear x2_10
    have x3_11 := x3_10.below hb_w12 (by omega)
    clear x3_10
    have g0_11 := o6_0.below hb_w12 (by omega)
    clear o6_0
    have B_w12 := bthen B_w11 hb_w12
    refine (eqRel_any _ _ R0 R0 _ ⟨_, rfl, g0_11.rd.more (by omega)⟩ ⟨_, rfl, w0_11.rd.more (by omega)⟩ rfl (by omega)).mono ?_
    rintro e w13 ⟨rfl, hb7⟩
    rw [show decide (R0 = R0) = true by simp]
    have s_w13 := hb7.size
    have bx0_12 := bx0_11.below hb7 (by first | exact bx0_11.lt | omega)
    clear bx0_11
    have bx0_12_l := bx0_12.lt
    have bx1_12 := bx1_11.below hb7 (by first | exact bx1_11.lt | omega)
    clear bx1_11
    have bx1_12_l := bx1_12.lt
    have w0_12 := w0_11.below hb7 (by omega)
    clear w0_11
    have bw0_12 := bw0_11.below hb7 (by first | exact bw0_11.lt | omega)
    clear bw0_11
    have bw0_12_l := bw0_12.lt
    have x0_12 := x0_11.below hb7 (by omega)
    clear x0_11
    have bxx0_12 := bxx0_11.below hb7 (by first | exact bxx0_11.lt | omega)
    clear bxx0_11
    have bxx0_12_l := bxx0_12.lt
    have x1_12 := x1_11.below hb7 (by omega)
    clear x1_11
    have bxx1_12 := bxx1_11.below hb7 (by first | exact bxx1_11.lt | omega)
    clear bxx1_11
    have bxx1_12_l := bxx1_12.lt
    have x2_12 := x2_11.below hb7 (by omega)
    clear x2_11
    have x3_12 := x3_11.below hb7 (by omega)
    clear x3_11
    have g0_12 := g0_11.below hb7 (by omega)
    clear g0_11
    have bg0_12 := bg0_n.below hb7 (by first | exact bg0_n.lt | omega)
    clear bg0_n
    have bg0_12_l := bg0_12.lt
    have B_w13 := bthen B_w12 hb7
    have q59 : w13.cell? ⟨w.heap.size, 0, none⟩ = some (.int .i64 a.1) := bx0_12.cell 0
    have q60 : w13.cell? ⟨w.heap.size, 1, none⟩ = some (.slice A0 a.2.length c0) := bx0_12.cell 1
    have q61 : w13.cell? ⟨w.heap.size + 1, 0, none⟩ = some (.int .i64 b.1) := bx1_12.cell 0
    have q62 : w13.cell? ⟨w.heap.size + 1, 1, none⟩ = some (.slice A1 b.2.length c1) := bx1_12.cell 1
    have q63 : w13.cell? ⟨gx1, 0, none⟩ = some (.int .i64 R0.1) := bw0_12.cell 0
    have q64 : w13.cell? ⟨gx1, 1, none⟩ = some (.slice Q1 R0.2.length f1) := bw0_12.cell 1
    have q65 : w13.cell? ⟨w5.heap.size, 0, none⟩ = some (.int .i64 a.1) := bxx0_12.cell 0
    have q66 : w13.cell? ⟨w5.heap.size, 1, none⟩ = some (.slice P2 a.2.length d2) := bxx0_12.cell 1
    have q67 : w13.cell? ⟨w7.heap.size, 0, none⟩ = some (.int .i64 b.1) := bxx1_12.cell 0
    have q68 : w13.cell? ⟨w7.heap.size, 1, none⟩ = some (.slice P3 b.2.length d3) := bxx1_12.cell 1
    have q69 : w13.cell? ⟨w11.heap.size, 0, none⟩ = some (.int .i64 R0.1) := bg0_12.cell 0
    have q70 : w13.cell? ⟨w11.heap.size, 1, none⟩ = some (.slice Q6_0 R0.2.length f6_0) := bg0_12.cell 1
    go_upto_region 20 with fail
    clear q59 q60 q61 q62 q63 q64 q65 q66 q67 q68 q69 q70
    have HS_w13 := Lib.hid (show ∀ W, Below w13.heap.size w13 W → (Below w13.heap.size w13 W ∧ W.cell? ⟨w.heap.size, 0, none⟩ = some (.int .i64 a.1) ∧ W.cell? ⟨w.heap.size, 1, none⟩ = some (.slice A0 a.2.length c0) ∧ W.cell? ⟨w.heap.size + 1, 0, none⟩ = some (.int .i64 b.1) ∧ W.cell? ⟨w.heap.size + 1, 1, none⟩ = some (.slice A1 b.2.length c1) ∧ W.cell? ⟨gx1, 0, none⟩ = some (.int .i64 R0.1) ∧ W.cell? ⟨gx1, 1, none⟩ = some (.slice Q1 R0.2.length f1) ∧ W.cell? ⟨w5.heap.size, 0, none⟩ = some (.int .i64 a.1) ∧ W.cell? ⟨w5.heap.size, 1, none⟩ = some (.slice P2 a.2.length d2) ∧ W.cell? ⟨w7.heap.size, 0, none⟩ = some (.int .i64 b.1) ∧ W.cell? ⟨w7.heap.size, 1, none⟩ = some (.slice P3 b.2.length d3) ∧ W.cell? ⟨w11.heap.size, 0, none⟩ = some (.int .i64 R0.1) ∧ W.cell? ⟨w11.heap.size, 1, none⟩ = some (.slice Q6_0 R0.2.length f6_0)) from fun W hW => ⟨hW, (bx0_12.below hW bx0_12_l).cell 0, (bx0_12.below hW bx0_12_l).cell 1, (bx1_12.below hW bx1_12_l).cell 0, (bx1_12.below hW bx1_12_l).cell 1, (bw0_12.below hW bw0_12_l).cell 0, (bw0_12.below hW bw0_12_l).cell 1, (bxx0_12.below hW bxx0_12_l).cell 0, (bxx0_12.below hW bxx0_12_l).cell 1, (bxx1_12.below hW bxx1_12_l).cell 0, (bxx1_12.below hW bxx1_12_l).cell 1, (bg0_12.below hW bg0_12_l).cell 0, (bg0_12.below hW bg0_12_l).cell 1⟩)
    have RX_w13 := Lib.hid (show RdRel w13 w13.heap.size (.agg #[.int .i64 a.1, .slice P2 a.2.length d2]) a from ⟨_, rfl, x0_12.rd.more (by omega)⟩)
    go_cut [80] (fun s wx => s = .bool false ∧ Below w13.heap.size w13 wx)
    case first =>
      go_region_held3 (fun W => Below w13.heap.size w13 W ∧ W.cell? ⟨w.heap.size, 0, none⟩ = some (.int .i64 a.1) ∧ W.cell? ⟨w.heap.size, 1, none⟩ = some (.slice A0 a.2.length c0) ∧ W.cell? ⟨w.heap.size + 1, 0, none⟩ = some (.int .i64 b.1) ∧ W.cell? ⟨w.heap.size + 1, 1, none⟩ = some (.slice A1 b.2.length c1) ∧ W.cell? ⟨gx1, 0, none⟩ = some (.int .i64 R0.1) ∧ W.cell? ⟨gx1, 1, none⟩ = some (.slice Q1 R0.2.length f1) ∧ W.cell? ⟨w5.heap.size, 0, none⟩ = some (.int .i64 a.1) ∧ W.cell? ⟨w5.heap.size, 1, none⟩ = some (.slice P2 a.2.length d2) ∧ W.cell? ⟨w7.heap.size, 0, none⟩ = some (.int .i64 b.1) ∧ W.cell? ⟨w7.heap.size, 1, none⟩ = some (.slice P3 b.2.length d3) ∧ W.cell? ⟨w11.heap.size, 0, none⟩ = some (.int .i64 R0.1) ∧ W.cell? ⟨w11.heap.size, 1, none⟩ = some (.slice Q6_0 R0.2.length f6_0))
        (first | exact HS_w13.out _ (Below.refl _ _) | exact HS_w13.out _ (Below.refl _ _).drew | exact HS_w13.out _ (bthen (And.left (by assumption)) (by assumption)))
        (first
          | (go_at_call 15; refine (toRel_any _ a _ ?_ (by omega)).mono ?_; exact H0.out.on (bthen B_w13 (And.left (by assumption))); rintro e wf ⟨Af, cf, rfl, hof, hbf⟩)
          | (go_at_call 17; refine (eqRel_any _ _ a a _ ?_ ?_ rfl (by omega)).mono ?_; exact (RX_w13.out.on (And.left (by assumption))); exact ⟨_, rfl, hof.rd⟩; rw [show decide (a = a) = true by simp]; rintro e wg ⟨rfl, hbg⟩))
      all_goals (go_wp2_with fail; go_meet; exact ⟨rfl, And.left (by assumption)⟩)
    case rest =>
      obtain ⟨rfl, hb8⟩ := hcut
      clear HS_w13 RX_w13
      generalize wc = w14 at *
      have s_w14 := hb8.size
      have bx0_13 := bx0_12.below hb8 (by first | exact bx0_12.lt | omega)
      clear bx0_12
      have bx0_13_l := bx0_13.lt
      have bx1_13 := bx1_12.below hb8 (by first | exact bx1_12.lt | omega)
      clear bx1_12
      have bx1_13_l := bx1_13.lt
      have w0_13 := w0_12.below hb8 (by omega)
      clear w0_12
      have bw0_13 := bw0_12.below hb8 (by first | exact bw0_12.lt | omega)
      clear bw0_12
      have bw0_13_l := bw0_13.lt
      have x0_13 := x0_12.below hb8 (by omega)
      clear x0_12
      have bxx0_13 := bxx0_12.below hb8 (by first | exact bxx0_12.lt | omega)
      clear bxx0_12
      have bxx0_13_l := bxx0_13.lt
      have x1_13 := x1_12.below hb8 (by omega)
      clear x1_12
      have bxx1_13 := bxx1_12.below hb8 (by first | exact bxx1_12.lt | omega)
      clear bxx1_12
      have bxx1_13_l := bxx1_13.lt
      have x2_13 := x2_12.below hb8 (by omega)
      clear x2_12
      have x3_13 := x3_12.below hb8 (by omega)
      clear x3_12
      have g0_13 := g0_12.below hb8 (by omega)
      clear g0_12
      have bg0_13 := bg0_12.below hb8 (by first | exact bg0_12.lt | omega)
      clear bg0_12
      have bg0_13_l := bg0_13.lt
      have B_w14 := bthen B_w13 hb8
      have q71 : w14.cell? ⟨w.heap.size, 0, none⟩ = some (.int .i64 a.1) := bx0_13.cell 0
      have q72 : w14.cell? ⟨w.heap.size, 1, none⟩ = some (.slice A0 a.2.length c0) := bx0_13.cell 1
      have q73 : w14.cell? ⟨w.heap.size + 1, 0, none⟩ = some (.int .i64 b.1) := bx1_13.cell 0
      have q74 : w14.cell? ⟨w.heap.size + 1, 1, none⟩ = some (.slice A1 b.2.length c1) := bx1_13.cell 1
      have q75 : w14.cell? ⟨gx1, 0, none⟩ = some (.int .i64 R0.1) := bw0_13.cell 0
      have q76 : w14.cell? ⟨gx1, 1, none⟩ = some (.slice Q1 R0.2.length f1) := bw0_13.cell 1
      have q77 : w14.cell? ⟨w5.heap.size, 0, none⟩ = some (.int .i64 a.1) := bxx0_13.cell 0
      have q78 : w14.cell? ⟨w5.heap.size, 1, none⟩ = some (.slice P2 a.2.length d2) := bxx0_13.cell 1
      have q79 : w14.cell? ⟨w7.heap.size, 0, none⟩ = some (.int .i64 b.1) := bxx1_13.cell 0
      have q80 : w14.cell? ⟨w7.heap.size, 1, none⟩ = some (.slice P3 b.2.length d3) := bxx1_13.cell 1
      have q81 : w14.cell? ⟨w11.heap.size, 0, none⟩ = some (.int .i64 R0.1) := bg0_13.cell 0
      have q82 : w14.cell? ⟨w11.heap.size, 1, none⟩ = some (.slice Q6_0 R0.2.length f6_0) := bg0_13.cell 1
      go_upto_region 22 with fail
      clear q71 q72 q73 q74 q75 q76 q77 q78 q79 q80 q81 q82
      have HS_w14 := Lib.hid (show ∀ W, Below w14.heap.size w14 W → (Below w14.heap.size w14 W ∧ W.cell? ⟨w.heap.size, 0, none⟩ = some (.int .i64 a.1) ∧ W.cell? ⟨w.heap.size, 1, none⟩ = some (.slice A0 a.2.length c0) ∧ W.cell? ⟨w.heap.size + 1, 0, none⟩ = some (.int .i64 b.1) ∧ W.cell? ⟨w.heap.size + 1, 1, none⟩ = some (.slice A1 b.2.length c1) ∧ W.cell? ⟨gx1, 0, none⟩ = some (.int .i64 R0.1) ∧ W.cell? ⟨gx1, 1, none⟩ = some (.slice Q1 R0.2.length f1) ∧ W.cell? ⟨w5.heap.size, 0, none⟩ = some (.int .i64 a.1) ∧ W.cell? ⟨w5.heap.size, 1, none⟩ = some (.slice P2 a.2.length d2) ∧ W.cell? ⟨w7.heap.size, 0, none⟩ = some (.int .i64 b.1) ∧ W.cell? ⟨w7.heap.size, 1, none⟩ = some (.slice P3 b.2.length d3) ∧ W.cell? ⟨w11.heap.size, 0, none⟩ = some (.int .i64 R0.1) ∧ W.cell? ⟨w11.heap.size, 1, none⟩ = some (.slice Q6_0 R0.2.length f6_0)) from fun W hW => ⟨hW, (bx0_13.below hW bx0_13_l).cell 0, (bx0_13.below hW bx0_13_l).cell 1, (bx1_13.below hW bx1_13_l).cell 0, (bx1_13.below hW bx1_13_l).cell 1, (bw0_13.below hW bw0_13_l).cell 0, (bw0_13.below hW bw0_13_l).cell 1, (bxx0_13.below hW bxx0_13_l).cell 0, (bxx0_13.below hW bxx0_13_l).cell 1, (bxx1_13.below hW bxx1_13_l).cell 0, (bxx1_13.below hW bxx1_13_l).cell 1, (bg0_13.below hW bg0_13_l).cell 0, (bg0_13.below hW bg0_13_l).cell 1⟩)
      have RX_w14 := Lib.hid (show RdRel w14 w14.heap.size (.agg #[.int .i64 b.1, .slice P3 b.2.length d3]) b from ⟨_, rfl, x1_13.rd.more (by omega)⟩)
      go_cut [85] (fun s wx => s = .bool false ∧ Below w14.heap.size w14 wx)
      case first =>
        go_region_held3 (fun W => Below w14.heap.size w14 W ∧ W.cell? ⟨w.heap.size, 0, none⟩ = some (.int .i64 a.1) ∧ W.cell? ⟨w.heap.size, 1, none⟩ = some (.slice A0 a.2.length c0) ∧ W.cell? ⟨w.heap.size + 1, 0, none⟩ = some (.int .i64 b.1) ∧ W.cell? ⟨w.heap.size + 1, 1, none⟩ = some (.slice A1 b.2.length c1) ∧ W.cell? ⟨gx1, 0, none⟩ = some (.int .i64 R0.1) ∧ W.cell? ⟨gx1, 1, none⟩ = some (.slice Q1 R0.2.length f1) ∧ W.cell? ⟨w5.heap.size, 0, none⟩ = some (.int .i64 a.1) ∧ W.cell? ⟨w5.heap.size, 1, none⟩ = some (.slice P2 a.2.length d2) ∧ W.cell? ⟨w7.heap.size, 0, none⟩ = some (.int .i64 b.1) ∧ W.cell? ⟨w7.heap.size, 1, none⟩ = some (.slice P3 b.2.length d3) ∧ W.cell? ⟨w11.heap.size, 0, none⟩ = some (.int .i64 R0.1) ∧ W.cell? ⟨w11.heap.size, 1, none⟩ = some (.slice Q6_0 R0.2.length f6_0))
          (first | exact HS_w14.out _ (Below.refl _ _) | exact HS_w14.out _ (Below.refl _ _).drew | exact HS_w14.out _ (bthen (And.left (by assumption)) (by assumption)))
          (first
            | (go_at_call 15; refine (toRel_any _ b _ ?_ (by omega)).mono ?_; exact H1.out.on (bthen B_w14 (And.left (by assumption))); rintro e wf ⟨Af, cf, rfl, hof, hbf⟩)
            | (go_at_call 17; refine (eqRel_any _ _ b b _ ?_ ?_ rfl (by omega)).mono ?_; exact (RX_w14.out.on (And.left (by assumption))); exact ⟨_, rfl, hof.rd⟩; rw [show decide (b = b) = true by simp]; rintro e wg ⟨rfl, hbg⟩))
        all_goals (go_wp2_with fail; go_meet; exact ⟨rfl, And.left (by assumption)⟩)
      case rest =>
        obtain ⟨rfl, hb9⟩ := hcut
        clear HS_w14 RX_w14
        generalize wc = w15 at *
        have s_w15 := hb9.size
        have bx0_14 := bx0_13.below hb9 (by first | exact bx0_13.lt | omega)
        clear bx0_13
        have bx0_14_l := bx0_14.lt
        have bx1_14 := bx1_13.below hb9 (by first | exact bx1_13.lt | omega)
        clear bx1_13
        have bx1_14_l := bx1_14.lt
        have w0_14 := w0_13.below hb9 (by omega)
        clear w0_13
        have bw0_14 := bw0_13.below hb9 (by first | exact bw0_13.lt | omega)
        clear bw0_13
        have bw0_14_l := bw0_14.lt
        have x0_14 := x0_13.below hb9 (by omega)
        clear x0_13
        have bxx0_14 := bxx0_13.below hb9 (by first | exact bxx0_13.lt | omega)
        clear bxx0_13
        have bxx0_14_l := bxx0_14.lt
        have x1_14 := x1_13.below hb9 (by omega)
        clear x1_13
        have bxx1_14 := bxx1_13.below hb9 (by first | exact bxx1_13.lt | omega)
        clear bxx1_13
        have bxx1_14_l := bxx1_14.lt
        have x2_14 := x2_13.below hb9 (by omega)
        clear x2_13
        have x3_14 := x3_13.below hb9 (by omega)
        clear x3_13
        have g0_14 := g0_13.below hb9 (by omega)
        clear g0_13
        have bg0_14 := bg0_13.below hb9 (by first | exact bg0_13.lt | omega)
        clear bg0_13
        have bg0_14_l := bg0_14.lt
        have B_w15 := bthen B_w14 hb9
        have q83 : w15.cell? ⟨w.heap.size, 0, none⟩ = some (.int .i64 a.1) := bx0_14.cell 0
        have q84 : w15.cell? ⟨w.heap.size, 1, none⟩ = some (.slice A0 a.2.length c0) := bx0_14.cell 1
        have q85 : w15.cell? ⟨w.heap.size + 1, 0, none⟩ = some (.int .i64 b.1) := bx1_14.cell 0
        have q86 : w15.cell? ⟨w.heap.size + 1, 1, none⟩ = some (.slice A1 b.2.length c1) := bx1_14.cell 1
        have q87 : w15.cell? ⟨gx1, 0, none⟩ = some (.int .i64 R0.1) := bw0_14.cell 0
        have q88 : w15.cell? ⟨gx1, 1, none⟩ = some (.slice Q1 R0.2.length f1) := bw0_14.cell 1
        have q89 : w15.cell? ⟨w5.heap.size, 0, none⟩ = some (.int .i64 a.1) := bxx0_14.cell 0
        have q90 : w15.cell? ⟨w5.heap.size, 1, none⟩ = some (.slice P2 a.2.length d2) := bxx0_14.cell 1
        have q91 : w15.cell? ⟨w7.heap.size, 0, none⟩ = some (.int .i64 b.1) := bxx1_14.cell 0
        have q92 : w15.cell? ⟨w7.heap.size, 1, none⟩ = some (.slice P3 b.2.length d3) := bxx1_14.cell 1
        have q93 : w15.cell? ⟨w11.heap.size, 0, none⟩ = some (.int .i64 R0.1) := bg0_14.cell 0
        have q94 : w15.cell? ⟨w11.heap.size, 1, none⟩ = some (.slice Q6_0 R0.2.length f6_0) := bg0_14.cell 1
        go_wp2_with (fail)
        clear q83 q84 q85 q86 q87 q88 q89 q90 q91 q92 q93 q94
        refine (toIntS_any _ ls _ (H2.out.on B_w15) (by omega)).mono ?_
        rintro e w16 ⟨P10, d10, rfl, o10, hb10⟩
        have s_w16 := hb10.size
        have bx0_15 := bx0_14.below hb10 (by first | exact bx0_14.lt | omega)
        clear bx0_14
        have bx0_15_l := bx0_15.lt
        have bx1_15 := bx1_14.below hb10 (by first | exact bx1_14.lt | omega)
        clear bx1_14
        have bx1_15_l := bx1_15.lt
        have w0_15 := w0_14.below hb10 (by omega)
        clear w0_14
        have bw0_15 := bw0_14.below hb10 (by first | exact bw0_14.lt | omega)
        clear bw0_14
        have bw0_15_l := bw0_15.lt
        have x0_15 := x0_14.below hb10 (by omega)
        clear x0_14
        have bxx0_15 := bxx0_14.below hb10 (by first | exact bxx0_14.lt | omega)
        clear bxx0_14
        have bxx0_15_l := bxx0_15.lt
        have x1_15 := x1_14.below hb10 (by omega)
        clear x1_14
        have bxx1_15 := bxx1_14.below hb10 (by first | exact bxx1_14.lt | omega)
        clear bxx1_14
        have bxx1_15_l := bxx1_15.lt
        have x2_15 := x2_14.below hb10 (by omega)
        clear x2_14
        have x3_15 := x3_14.below hb10 (by omega)
        clear x3_14
        have g0_15 := g0_14.below hb10 (by omega)
        clear g0_14
        have bg0_15 := bg0_14.below hb10 (by first | exact bg0_14.lt | omega)
        clear bg0_14
        have bg0_15_l := bg0_15.lt
        have B_w16 := bthen B_w15 hb10
        have q95 : w16.cell? ⟨w.heap.size, 0, none⟩ = some (.int .i64 a.1) := bx0_15.cell 0
        have q96 : w16.cell? ⟨w.heap.size, 1, none⟩ = some (.slice A0 a.2.length c0) := bx0_15.cell 1
        have q97 : w16.cell? ⟨w.heap.size + 1, 0, none⟩ = some (.int .i64 b.1) := bx1_15.cell 0
        have q98 : w16.cell? ⟨w.heap.size + 1, 1, none⟩ = some (.slice A1 b.2.length c1) := bx1_15.cell 1
        have q99 : w16.cell? ⟨gx1, 0, none⟩ = some (.int .i64 R0.1) := bw0_15.cell 0
        have q100 : w16.cell? ⟨gx1, 1, none⟩ = some (.slice Q1 R0.2.length f1) := bw0_15.cell 1
        have q101 : w16.cell? ⟨w5.heap.size, 0, none⟩ = some (.int .i64 a.1) := bxx0_15.cell 0
        have q102 : w16.cell? ⟨w5.heap.size, 1, none⟩ = some (.slice P2 a.2.length d2) := bxx0_15.cell 1
        have q103 : w16.cell? ⟨w7.heap.size, 0, none⟩ = some (.int .i64 b.1) := bxx1_15.cell 0
        have q104 : w16.cell? ⟨w7.heap.size, 1, none⟩ = some (.slice P3 b.2.length d3) := bxx1_15.cell 1
        have q105 : w16.cell? ⟨w11.heap.size, 0, none⟩ = some (.int .i64 R0.1) := bg0_15.cell 0
        have q106 : w16.cell? ⟨w11.heap.size, 1, none⟩ = some (.slice Q6_0 R0.2.length f6_0) := bg0_15.cell 1
        go_wp2_with (fail)
        clear q95 q96 q97 q98 q99 q100 q101 q102 q103 q104 q105 q106
        refine (eqIntS_any _ _ ls ls _ (x2_15.rd.more (by omega)) (o10.rd.more (by omega)) (by omega) (by omega)).mono ?_
        rintro e w17 ⟨rfl, hb11⟩
        rw [show decide (ls = ls) = true by simp]
        have s_w17 := hb11.size
        have bx0_16 := bx0_15.below hb11 (by first | exact bx0_15.lt | omega)
        clear bx0_15
        have bx0_16_l := bx0_16.lt
        have bx1_16 := bx1_15.below hb11 (by first | exact bx1_15.lt | omega)
        clear bx1_15
        have bx1_16_l := bx1_16.lt
        have w0_16 := w0_15.below hb11 (by omega)
        clear w0_15
        have bw0_16 := bw0_15.below hb11 (by first | exact bw0_15.lt | omega)
        clear bw0_15
        have bw0_16_l := bw0_16.lt
        have x0_16 := x0_15.below hb11 (by omega)
        clear x0_15
        have bxx0_16 := bxx0_15.below hb11 (by first | exact bxx0_15.lt | omega)
        clear bxx0_15
        have bxx0_16_l := bxx0_16.lt
        have x1_16 := x1_15.below hb11 (by omega)
        clear x1_15
        have bxx1_16 := bxx1_15.below hb11 (by first | exact bxx1_15.lt | omega)
        clear bxx1_15
        have bxx1_16_l := bxx1_16.lt
        have x2_16 := x2_15.below hb11 (by omega)
        clear x2_15
        have x3_16 := x3_15.below hb11 (by omega)
        clear x3_15
        have g0_16 := g0_15.below hb11 (by omega)
        clear g0_15
        have bg0_16 := bg0_15.below hb11 (by first | exact bg0_15.lt | omega)
        clear bg0_15
        have bg0_16_l := bg0_16.lt
        have B_w17 := bthen B_w16 hb11
        have q107 : w17.cell? ⟨w.heap.size, 0, none⟩ = some (.int .i64 a.1) := bx0_16.cell 0
        have q108 : w17.cell? ⟨w.heap.size, 1, none⟩ = some (.slice A0 a.2.length c0) := bx0_16.cell 1
        have q109 : w17.cell? ⟨w.heap.size + 1, 0, none⟩ = some (.int .i64 b.1) := bx1_16.cell 0
        have q110 : w17.cell? ⟨w.heap.size + 1, 1, none⟩ = some (.slice A1 b.2.length c1) := bx1_16.cell 1
        have q111 : w17.cell? ⟨gx1, 0, none⟩ = some (.int .i64 R0.1) := bw0_16.cell 0
        have q112 : w17.cell? ⟨gx1, 1, none⟩ = some (.slice Q1 R0.2.length f1) := bw0_16.cell 1
        have q113 : w17.cell? ⟨w5.heap.size, 0, none⟩ = some (.int .i64 a.1) := bxx0_16.cell 0
        have q114 : w17.cell? ⟨w5.heap.size, 1, none⟩ = some (.slice P2 a.2.length d2) := bxx0_16.cell 1
        have q115 : w17.cell? ⟨w7.heap.size, 0, none⟩ = some (.int .i64 b.1) := bxx1_16.cell 0
        have q116 : w17.cell? ⟨w7.heap.size, 1, none⟩ = some (.slice P3 b.2.length d3) := bxx1_16.cell 1
        have q117 : w17.cell? ⟨w11.heap.size, 0, none⟩ = some (.int .i64 R0.1) := bg0_16.cell 0
        have q118 : w17.cell? ⟨w11.heap.size, 1, none⟩ = some (.slice Q6_0 R0.2.length f6_0) := bg0_16.cell 1
        go_wp2_with (fail)
        clear q107 q108 q109 q110 q111 q112 q113 q114 q115 q116 q117 q118
        refine (toIntS_any _ rs _ (H3.out.on B_w17) (by omega)).mono ?_
        rintro e w18 ⟨P12, d12, rfl, o12, hb12⟩
        have s_w18 := hb12.size
        have bx0_17 := bx0_16.below hb12 (by first | exact bx0_16.lt | omega)
        clear bx0_16
        have bx0_17_l := bx0_17.lt
        have bx1_17 := bx1_16.below hb12 (by first | exact bx1_16.lt | omega)
        clear bx1_16
        have bx1_17_l := bx1_17.lt
        have w0_17 := w0_16.below hb12 (by omega)
        clear w0_16
        have bw0_17 := bw0_16.below hb12 (by first | exact bw0_16.lt | omega)
        clear bw0_16
        have bw0_17_l := bw0_17.lt
        have x0_17 := x0_16.below hb12 (by omega)
        clear x0_16
        have bxx0_17 := bxx0_16.below hb12 (by first | exact bxx0_16.lt | omega)
        clear bxx0_16
        have bxx0_17_l := bxx0_17.lt
        have x1_17 := x1_16.below hb12 (by omega)
        clear x1_16
        have bxx1_17 := bxx1_16.below hb12 (by first | exact bxx1_16.lt | omega)
        clear bxx1_16
        have bxx1_17_l := bxx1_17.lt
        have x2_17 := x2_16.below hb12 (by omega)
        clear x2_16
        have x3_17 := x3_16.below hb12 (by omega)
        clear x3_16
        have g0_17 := g0_16.below hb12 (by omega)
        clear g0_16
        have bg0_17 := bg0_16.below hb12 (by first | exact bg0_16.lt | omega)
        clear bg0_16
        have bg0_17_l := bg0_17.lt
        have B_w18 := bthen B_w17 hb12
        have q119 : w18.cell? ⟨w.heap.size, 0, none⟩ = some (.int .i64 a.1) := bx0_17.cell 0
        have q120 : w18.cell? ⟨w.heap.size, 1, none⟩ = some (.slice A0 a.2.length c0) := bx0_17.cell 1
        have q121 : w18.cell? ⟨w.heap.size + 1, 0, none⟩ = some (.int .i64 b.1) := bx1_17.cell 0
        have q122 : w18.cell? ⟨w.heap.size + 1, 1, none⟩ = some (.slice A1 b.2.length c1) := bx1_17.cell 1
        have q123 : w18.cell? ⟨gx1, 0, none⟩ = some (.int .i64 R0.1) := bw0_17.cell 0
        have q124 : w18.cell? ⟨gx1, 1, none⟩ = some (.slice Q1 R0.2.length f1) := bw0_17.cell 1
        have q125 : w18.cell? ⟨w5.heap.size, 0, none⟩ = some (.int .i64 a.1) := bxx0_17.cell 0
        have q126 : w18.cell? ⟨w5.heap.size, 1, none⟩ = some (.slice P2 a.2.length d2) := bxx0_17.cell 1
        have q127 : w18.cell? ⟨w7.heap.size, 0, none⟩ = some (.int .i64 b.1) := bxx1_17.cell 0
        have q128 : w18.cell? ⟨w7.heap.size, 1, none⟩ = some (.slice P3 b.2.length d3) := bxx1_17.cell 1
        have q129 : w18.cell? ⟨w11.heap.size, 0, none⟩ = some (.int .i64 R0.1) := bg0_17.cell 0
        have q130 : w18.cell? ⟨w11.heap.size, 1, none⟩ = some (.slice Q6_0 R0.2.length f6_0) := bg0_17.cell 1
        go_wp2_with (fail)
        clear q119 q120 q121 q122 q123 q124 q125 q126 q127 q128 q129 q130
        refine (eqIntS_any _ _ rs rs _ (x3_17.rd.more (by omega)) (o12.rd.more (by omega)) (by omega) (by omega)).mono ?_
        rintro e w19 ⟨rfl, hb13⟩
        rw [show decide (rs = rs) = true by simp]
        have s_w19 := hb13.size
        have bx0_18 := bx0_17.below hb13 (by first | exact bx0_17.lt | omega)
        clear bx0_17
        have bx0_18_l := bx0_18.lt
        have bx1_18 := bx1_17.below hb13 (by first | exact bx1_17.lt | omega)
        clear bx1_17
        have bx1_18_l := bx1_18.lt
        have w0_18 := w0_17.below hb13 (by omega)
        clear w0_17
        have bw0_18 := bw0_17.below hb13 (by first | exact bw0_17.lt | omega)
        clear bw0_17
        have bw0_18_l := bw0_18.lt
        have x0_18 := x0_17.below hb13 (by omega)
        clear x0_17
        have bxx0_18 := bxx0_17.below hb13 (by first | exact bxx0_17.lt | omega)
        clear bxx0_17
        have bxx0_18_l := bxx0_18.lt
        have x1_18 := x1_17.below hb13 (by omega)
        clear x1_17
        have bxx1_18 := bxx1_17.below hb13 (by first | exact bxx1_17.lt | omega)
        clear bxx1_17
        have bxx1_18_l := bxx1_18.lt
        have x2_18 := x2_17.below hb13 (by omega)
        clear x2_17
        have x3_18 := x3_17.below hb13 (by omega)
        clear x3_17
        have g0_18 := g0_17.below hb13 (by omega)
        clear g0_17
        have bg0_18 := bg0_17.below hb13 (by first | exact bg0_17.lt | omega)
        clear bg0_17
        have bg0_18_l := bg0_18.lt
        have B_w19 := bthen B_w18 hb13
        have q131 : w19.cell? ⟨w.heap.size, 0, none⟩ = some (.int .i64 a.1) := bx0_18.cell 0
        have q132 : w19.cell? ⟨w.heap.size, 1, none⟩ = some (.slice A0 a.2.length c0) := bx0_18.cell 1
        have q133 : w19.cell? ⟨w.heap.size + 1, 0, none⟩ = some (.int .i64 b.1) := bx1_18.cell 0
        have q134 : w19.cell? ⟨w.heap.size + 1, 1, none⟩ = some (.slice A1 b.2.length c1) := bx1_18.cell 1
        have q135 : w19.cell? ⟨gx1, 0, none⟩ = some (.int .i64 R0.1) := bw0_18.cell 0
        have q136 : w19.cell? ⟨gx1, 1, none⟩ = some (.slice Q1 R0.2.length f1) := bw0_18.cell 1
        have q137 : w19.cell? ⟨w5.heap.size, 0, none⟩ = some (.int .i64 a.1) := bxx0_18.cell 0
        have q138 : w19.cell? ⟨w5.heap.size, 1, none⟩ = some (.slice P2 a.2.length d2) := bxx0_18.cell 1
        have q139 : w19.cell? ⟨w7.heap.size, 0, none⟩ = some (.int .i64 b.1) := bxx1_18.cell 0
        have q140 : w19.cell? ⟨w7.heap.size, 1, none⟩ = some (.slice P3 b.2.length d3) := bxx1_18.cell 1
        have q141 : w19.cell? ⟨w11.heap.size, 0, none⟩ = some (.int .i64 R0.1) := bg0_18.cell 0
        have q142 : w19.cell? ⟨w11.heap.size, 1, none⟩ = some (.slice Q6_0 R0.2.length f6_0) := bg0_18.cell 1
        go_wp2_with (fail)
        clear q131 q132 q133 q134 q135 q136 q137 q138 q139 q140 q141 q142
        refine (um_rel 1 x0_18 (by omega) (by omega) (by omega) (by omega)).mono ?_
        rintro e w20 ⟨k14, rfl, ka14, kb14, _, on14⟩
        have s_w20 := on14.size
        have bx0_19 := bx0_18.only on14 (by first | exact .inl (by omega) | exact .inr (by omega) | omega)
        clear bx0_18
        have bx0_19_l := bx0_19.lt
        have bx1_19 := bx1_18.only on14 (by first | exact .inl (by omega) | exact .inr (by omega) | omega)
        clear bx1_18
        have bx1_19_l := bx1_19.lt
        have w0_19 := w0_18.only on14 (by first | exact .inl (by omega) | exact .inr (by omega) | omega)
        clear w0_18
        have bw0_19 := bw0_18.only on14 (by first | exact .inl (by omega) | exact .inr (by omega) | omega)
        clear bw0_18
        have bw0_19_l := bw0_19.lt
        have bxx0_19 := bxx0_18.only on14 (by first | exact .inl (by omega) | exact .inr (by omega) | omega)
        clear bxx0_18
        have bxx0_19_l := bxx0_19.lt
        have x1_19 := x1_18.only on14 (by first | exact .inl (by omega) | exact .inr (by omega) | omega)
        clear x1_18
        have bxx1_19 := bxx1_18.only on14 (by first | exact .inl (by omega) | exact .inr (by omega) | omega)
        clear bxx1_18
        have bxx1_19_l := bxx1_19.lt
        have x2_19 := x2_18.only on14 (by first | exact .inl (by omega) | exact .inr (by omega) | omega)
        clear x2_18
        have x3_19 := x3_18.only on14 (by first | exact .inl (by omega) | exact .inr (by omega) | omega)
        clear x3_18
        have g0_19 := g0_18.only on14 (by first | exact .inl (by omega) | exact .inr (by omega) | omega)
        clear g0_18
        have bg0_19 := bg0_18.only on14 (by first | exact .inl (by omega) | exact .inr (by omega) | omega)
        clear bg0_18
        have bg0_19_l := bg0_19.lt
        have B_w20 := Only.then_ B_w19 on14 (by omega)
        have q143 : w20.cell? ⟨w.heap.size, 0, none⟩ = some (.int .i64 a.1) := bx0_19.cell 0
        have q144 : w20.cell? ⟨w.heap.size, 1, none⟩ = some (.slice A0 a.2.length c0) := bx0_19.cell 1
        have q145 : w20.cell? ⟨w.heap.size + 1, 0, none⟩ = some (.int .i64 b.1) := bx1_19.cell 0
        have q146 : w20.cell? ⟨w.heap.size + 1, 1, none⟩ = some (.slice A1 b.2.length c1) := bx1_19.cell 1
        have q147 : w20.cell? ⟨gx1, 0, none⟩ = some (.int .i64 R0.1) := bw0_19.cell 0
        have q148 : w20.cell? ⟨gx1, 1, none⟩ = some (.slice Q1 R0.2.length f1) := bw0_19.cell 1
        have q149 : w20.cell? ⟨w5.heap.size, 0, none⟩ = some (.int .i64 a.1) := bxx0_19.cell 0
        have q150 : w20.cell? ⟨w5.heap.size, 1, none⟩ = some (.slice P2 a.2.length d2) := bxx0_19.cell 1
        have q151 : w20.cell? ⟨w7.heap.size, 0, none⟩ = some (.int .i64 b.1) := bxx1_19.cell 0
        have q152 : w20.cell? ⟨w7.heap.size, 1, none⟩ = some (.slice P3 b.2.length d3) := bxx1_19.cell 1
        have q153 : w20.cell? ⟨w11.heap.size, 0, none⟩ = some (.int .i64 R0.1) := bg0_19.cell 0
        have q154 : w20.cell? ⟨w11.heap.size, 1, none⟩ = some (.slice Q6_0 R0.2.length f6_0) := bg0_19.cell 1
        go_wp2_with (fail)
        clear q143 q144 q145 q146 q147 q148 q149 q150 q151 q152 q153 q154
        refine (um_rel k14 x1_19 (by omega) (by omega) (by omega) (by omega)).mono ?_
        rintro e w21 ⟨k15, rfl, ka15, kb15, _, on15⟩
        have s_w21 := on15.size
        have bx0_20 := bx0_19.only on15 (by first | exact .inl (by omega) | exact .inr (by omega) | omega)
        clear bx0_19
        have bx0_20_l := bx0_20.lt
        have bx1_20 := bx1_19.only on15 (by first | exact .inl (by omega) | exact .inr (by omega) | omega)
        clear bx1_19
        have bx1_20_l := bx1_20.lt
        have w0_20 := w0_19.only on15 (by first | exact .inl (by omega) | exact .inr (by omega) | omega)
        clear w0_19
        have bw0_20 := bw0_19.only on15 (by first | exact .inl (by omega) | exact .inr (by omega) | omega)
        clear bw0_19
        have bw0_20_l := bw0_20.lt
        have bxx0_20 := bxx0_19.only on15 (by first | exact .inl (by omega) | exact .inr (by omega) | omega)
        clear bxx0_19
        have bxx0_20_l := bxx0_20.lt
        have bxx1_20 := bxx1_19.only on15 (by first | exact .inl (by omega) | exact .inr (by omega) | omega)
        clear bxx1_19
        have bxx1_20_l := bxx1_20.lt
        have x2_20 := x2_19.only on15 (by first | exact .inl (by omega) | exact .inr (by omega) | omega)
        clear x2_19
        have x3_20 := x3_19.only on15 (by first | exact .inl (by omega) | exact .inr (by omega) | omega)
        clear x3_19
        have g0_20 := g0_19.only on15 (by first | exact .inl (by omega) | exact .inr (by omega) | omega)
        clear g0_19
        have bg0_20 := bg0_19.only on15 (by first | exact .inl (by omega) | exact .inr (by omega) | omega)
        clear bg0_19
        have bg0_20_l := bg0_20.lt
        have B_w21 := Only.then_ B_w20 on15 (by omega)
        have q155 : w21.cell? ⟨w.heap.size, 0, none⟩ = some (.int .i64 a.1) := bx0_20.cell 0
        have q156 : w21.cell? ⟨w.heap.size, 1, none⟩ = some (.slice A0 a.2.length c0) := bx0_20.cell 1
        have q157 : w21.cell? ⟨w.heap.size + 1, 0, none⟩ = some (.int .i64 b.1) := bx1_20.cell 0
        have q158 : w21.cell? ⟨w.heap.size + 1, 1, none⟩ = some (.slice A1 b.2.length c1) := bx1_20.cell 1
        have q159 : w21.cell? ⟨gx1, 0, none⟩ = some (.int .i64 R0.1) := bw0_20.cell 0
        have q160 : w21.cell? ⟨gx1, 1, none⟩ = some (.slice Q1 R0.2.length f1) := bw0_20.cell 1
        have q161 : w21.cell? ⟨w5.heap.size, 0, none⟩ = some (.int .i64 a.1) := bxx0_20.cell 0
        have q162 : w21.cell? ⟨w5.heap.size, 1, none⟩ = some (.slice P2 a.2.length d2) := bxx0_20.cell 1
        have q163 : w21.cell? ⟨w7.heap.size, 0, none⟩ = some (.int .i64 b.1) := bxx1_20.cell 0
        have q164 : w21.cell? ⟨w7.heap.size, 1, none⟩ = some (.slice P3 b.2.length d3) := bxx1_20.cell 1
        have q165 : w21.cell? ⟨w11.heap.size, 0, none⟩ = some (.int .i64 R0.1) := bg0_20.cell 0
        have q166 : w21.cell? ⟨w11.heap.size, 1, none⟩ = some (.slice Q6_0 R0.2.length f6_0) := bg0_20.cell 1
        go_wp2_with (fail)
        clear q155 q156 q157 q158 q159 q160 q161 q162 q163 q164 q165 q166
        refine (um_ints k15 x2_20 (by omega) (by omega) (by omega)).mono ?_
        rintro e w22 ⟨k16, rfl, ka16, kb16, _, on16⟩
        have s_w22 := on16.size
        have bx0_21 := bx0_20.only on16 (by first | exact .inl (by omega) | exact .inr (by omega) | omega)
        clear bx0_20
        have bx0_21_l := bx0_21.lt
        have bx1_21 := bx1_20.only on16 (by first | exact .inl (by omega) | exact .inr (by omega) | omega)
        clear bx1_20
        have bx1_21_l := bx1_21.lt
        have w0_21 := w0_20.only on16 (by first | exact .inl (by omega) | exact .inr (by omega) | omega)
        clear w0_20
        have bw0_21 := bw0_20.only on16 (by first | exact .inl (by omega) | exact .inr (by omega) | omega)
        clear bw0_20
        have bw0_21_l := bw0_21.lt
        have bxx0_21 := bxx0_20.only on16 (by first | exact .inl (by omega) | exact .inr (by omega) | omega)
        clear bxx0_20
        have bxx0_21_l := bxx0_21.lt
        have bxx1_21 := bxx1_20.only on16 (by first | exact .inl (by omega) | exact .inr (by omega) | omega)
        clear bxx1_20
        have bxx1_21_l := bxx1_21.lt
        have x3_21 := x3_20.only on16 (by first | exact .inl (by omega) | exact .inr (by omega) | omega)
        clear x3_20
        have g0_21 := g0_20.only on16 (by first | exact .inl (by omega) | exact .inr (by omega) | omega)
        clear g0_20
        have bg0_21 := bg0_20.only on16 (by first | exact .inl (by omega) | exact .inr (by omega) | omega)
        clear bg0_20
        have bg0_21_l := bg0_21.lt
        have B_w22 := Only.then_ B_w21 on16 (by omega)
        have q167 : w22.cell? ⟨w.heap.size, 0, none⟩ = some (.int .i64 a.1) := bx0_21.cell 0
        have q168 : w22.cell? ⟨w.heap.size, 1, none⟩ = some (.slice A0 a.2.length c0) := bx0_21.cell 1
        have q169 : w22.cell? ⟨w.heap.size + 1, 0, none⟩ = some (.int .i64 b.1) := bx1_21.cell 0
        have q170 : w22.cell? ⟨w.heap.size + 1, 1, none⟩ = some (.slice A1 b.2.length c1) := bx1_21.cell 1
        have q171 : w22.cell? ⟨gx1, 0, none⟩ = some (.int .i64 R0.1) := bw0_21.cell 0
        have q172 : w22.cell? ⟨gx1, 1, none⟩ = some (.slice Q1 R0.2.length f1) := bw0_21.cell 1
        have q173 : w22.cell? ⟨w5.heap.size, 0, none⟩ = some (.int .i64 a.1) := bxx0_21.cell 0
        have q174 : w22.cell? ⟨w5.heap.size, 1, none⟩ = some (.slice P2 a.2.length d2) := bxx0_21.cell 1
        have q175 : w22.cell? ⟨w7.heap.size, 0, none⟩ = some (.int .i64 b.1) := bxx1_21.cell 0
        have q176 : w22.cell? ⟨w7.heap.size, 1, none⟩ = some (.slice P3 b.2.length d3) := bxx1_21.cell 1
        have q177 : w22.cell? ⟨w11.heap.size, 0, none⟩ = some (.int .i64 R0.1) := bg0_21.cell 0
        have q178 : w22.cell? ⟨w11.heap.size, 1, none⟩ = some (.slice Q6_0 R0.2.length f6_0) := bg0_21.cell 1
        go_wp2_with (fail)
        clear q167 q168 q169 q170 q171 q172 q173 q174 q175 q176 q177 q178
        refine (um_ints k16 x3_21 (by omega) (by omega) (by omega)).mono ?_
        rintro e w23 ⟨k17, rfl, ka17, kb17, _, on17⟩
        have s_w23 := on17.size
        have bx0_22 := bx0_21.only on17 (by first | exact .inl (by omega) | exact .inr (by omega) | omega)
        clear bx0_21
        have bx0_22_l := bx0_22.lt
        have bx1_22 := bx1_21.only on17 (by first | exact .inl (by omega) | exact .inr (by omega) | omega)
        clear bx1_21
        have bx1_22_l := bx1_22.lt
        have w0_22 := w0_21.only on17 (by first | exact .inl (by omega) | exact .inr (by omega) | omega)
        clear w0_21
        have bw0_22 := bw0_21.only on17 (by first | exact .inl (by omega) | exact .inr (by omega) | omega)
        clear bw0_21
        have bw0_22_l := bw0_22.lt
        have bxx0_22 := bxx0_21.only on17 (by first | exact .inl (by omega) | exact .inr (by omega) | omega)
        clear bxx0_21
        have bxx0_22_l := bxx0_22.lt
        have bxx1_22 := bxx1_21.only on17 (by first | exact .inl (by omega) | exact .inr (by omega) | omega)
        clear bxx1_21
        have bxx1_22_l := bxx1_22.lt
        have g0_22 := g0_21.only on17 (by first | exact .inl (by omega) | exact .inr (by omega) | omega)
        clear g0_21
        have bg0_22 := bg0_21.only on17 (by first | exact .inl (by omega) | exact .inr (by omega) | omega)
        clear bg0_21
        have bg0_22_l := bg0_22.lt
        have B_w23 := Only.then_ B_w22 on17 (by omega)
        have kn : ¬ k17 < 0 := by omega
        have kd : decide (k17 < 0) = false := by simp; omega
        have q179 : w23.cell? ⟨w.heap.size, 0, none⟩ = some (.int .i64 a.1) := bx0_22.cell 0
        have q180 : w23.cell? ⟨w.heap.size, 1, none⟩ = some (.slice A0 a.2.length c0) := bx0_22.cell 1
        have q181 : w23.cell? ⟨w.heap.size + 1, 0, none⟩ = some (.int .i64 b.1) := bx1_22.cell 0
        have q182 : w23.cell? ⟨w.heap.size + 1, 1, none⟩ = some (.slice A1 b.2.length c1) := bx1_22.cell 1
        have q183 : w23.cell? ⟨gx1, 0, none⟩ = some (.int .i64 R0.1) := bw0_22.cell 0
        have q184 : w23.cell? ⟨gx1, 1, none⟩ = some (.slice Q1 R0.2.length f1) := bw0_22.cell 1
        have q185 : w23.cell? ⟨w5.heap.size, 0, none⟩ = some (.int .i64 a.1) := bxx0_22.cell 0
        have q186 : w23.cell? ⟨w5.heap.size, 1, none⟩ = some (.slice P2 a.2.length d2) := bxx0_22.cell 1
        have q187 : w23.cell? ⟨w7.heap.size, 0, none⟩ = some (.int .i64 b.1) := bxx1_22.cell 0
        have q188 : w23.cell? ⟨w7.heap.size, 1, none⟩ = some (.slice P3 b.2.length d3) := bxx1_22.cell 1
        have q189 : w23.cell? ⟨w11.heap.size, 0, none⟩ = some (.int .i64 R0.1) := bg0_22.cell 0
        have q190 : w23.cell? ⟨w11.heap.size, 1, none⟩ = some (.slice Q6_0 R0.2.length f6_0) := bg0_22.cell 1
        go_wp2_with (fail)
        clear q179 q180 q181 q182 q183 q184 q185 q186 q187 q188 q189 q190
        refine (eqRel_any _ _ R0 R0 _ ⟨_, rfl, g0_22.rd.more (by omega)⟩ ⟨_, rfl, w0_22.rd.more (by omega)⟩ rfl (by omega)).mono ?_
        rintro e w24 ⟨rfl, hb18⟩
        rw [show decide (R0 = R0) = true by simp]
        have s_w24 := hb18.size
        have bx0_23 := bx0_22.below hb18 (by first | exact bx0_22.lt | omega)
        clear bx0_22
        have bx0_23_l := bx0_23.lt
        have bx1_23 := bx1_22.below hb18 (by first | exact bx1_22.lt | omega)
        clear bx1_22
        have bx1_23_l := bx1_23.lt
        have w0_23 := w0_22.below hb18 (by omega)
        clear w0_22
        have bw0_23 := bw0_22.below hb18 (by first | exact bw0_22.lt | omega)
        clear bw0_22
        have bw0_23_l := bw0_23.lt
        have bxx0_23 := bxx0_22.below hb18 (by first | exact bxx0_22.lt | omega)
        clear bxx0_22
        have bxx0_23_l := bxx0_23.lt
        have bxx1_23 := bxx1_22.below hb18 (by first | exact bxx1_22.lt | omega)
        clear bxx1_22
        have bxx1_23_l := bxx1_23.lt
        have g0_23 := g0_22.below hb18 (by omega)
        clear g0_22
        have bg0_23 := bg0_22.below hb18 (by first | exact bg0_22.lt | omega)
        clear bg0_22
        have bg0_23_l := bg0_23.lt
        have B_w24 := bthen B_w23 hb18
        have q191 : w24.cell? ⟨w.heap.size, 0, none⟩ = some (.int .i64 a.1) := bx0_23.cell 0
        have q192 : w24.cell? ⟨w.heap.size, 1, none⟩ = some (.slice A0 a.2.length c0) := bx0_23.cell 1
        have q193 : w24.cell? ⟨w.heap.size + 1, 0, none⟩ = some (.int .i64 b.1) := bx1_23.cell 0
        have q194 : w24.cell? ⟨w.heap.size + 1, 1, none⟩ = some (.slice A1 b.2.length c1) := bx1_23.cell 1
        have q195 : w24.cell? ⟨gx1, 0, none⟩ = some (.int .i64 R0.1) := bw0_23.cell 0
        have q196 : w24.cell? ⟨gx1, 1, none⟩ = some (.slice Q1 R0.2.length f1) := bw0_23.cell 1
        have q197 : w24.cell? ⟨w5.heap.size, 0, none⟩ = some (.int .i64 a.1) := bxx0_23.cell 0
        have q198 : w24.cell? ⟨w5.heap.size, 1, none⟩ = some (.slice P2 a.2.length d2) := bxx0_23.cell 1
        have q199 : w24.cell? ⟨w7.heap.size, 0, none⟩ = some (.int .i64 b.1) := bxx1_23.cell 0
        have q200 : w24.cell? ⟨w7.heap.size, 1, none⟩ = some (.slice P3 b.2.length d3) := bxx1_23.cell 1
        have q201 : w24.cell? ⟨w11.heap.size, 0, none⟩ = some (.int .i64 R0.1) := bg0_23.cell 0
        have q202 : w24.cell? ⟨w11.heap.size, 1, none⟩ = some (.slice Q6_0 R0.2.length f6_0) := bg0_23.cell 1
        go_wp2_with (fail)
        clear q191 q192 q193 q194 q195 q196 q197 q198 q199 q200 q201 q202
        refine (um_rel 1 g0_23 (by omega) (by omega) (by omega) (by have := HRs0.out; omega)).mono ?_
        rintro e w25 ⟨m19, rfl, ma19, mb19, hd19, on19⟩
        have mb19' := HRs0.out
        have s_w25 := on19.size
        have bx0_24 := bx0_23.only on19 (by first | exact .inl (by omega) | exact .inr (by omega) | omega)
        clear bx0_23
        have bx0_24_l := bx0_24.lt
        have bx1_24 := bx1_23.only on19 (by first | exact .inl (by omega) | exact .inr (by omega) | omega)
        clear bx1_23
        have bx1_24_l := bx1_24.lt
        have w0_24 := w0_23.only on19 (by first | exact .inl (by omega) | exact .inr (by omega) | omega)
        clear w0_23
        have bw0_24 := bw0_23.only on19 (by first | exact .inl (by omega) | exact .inr (by omega) | omega)
        clear bw0_23
        have bw0_24_l := bw0_24.lt
        have bxx0_24 := bxx0_23.only on19 (by first | exact .inl (by omega) | exact .inr (by omega) | omega)
        clear bxx0_23
        have bxx0_24_l := bxx0_24.lt
        have bxx1_24 := bxx1_23.only on19 (by first | exact .inl (by omega) | exact .inr (by omega) | omega)
        clear bxx1_23
        have bxx1_24_l := bxx1_24.lt
        have bg0_24 := bg0_23.only on19 (by first | exact .inl (by omega) | exact .inr (by omega) | omega)
        clear bg0_23
        have bg0_24_l := bg0_24.lt
        have B_w25 := Only.then_ B_w24 on19 (by omega)
        have mn : ¬ m19 < 0 := by omega
        have me : (m19 != m19) = false := by simp
        have q203 : w25.cell? ⟨w.heap.size, 0, none⟩ = some (.int .i64 a.1) := bx0_24.cell 0
        have q204 : w25.cell? ⟨w.heap.size, 1, none⟩ = some (.slice A0 a.2.length c0) := bx0_24.cell 1
        have q205 : w25.cell? ⟨w.heap.size + 1, 0, none⟩ = some (.int .i64 b.1) := bx1_24.cell 0
        have q206 : w25.cell? ⟨w.heap.size + 1, 1, none⟩ = some (.slice A1 b.2.length c1) := bx1_24.cell 1
        have q207 : w25.cell? ⟨gx1, 0, none⟩ = some (.int .i64 R0.1) := bw0_24.cell 0
        have q208 : w25.cell? ⟨gx1, 1, none⟩ = some (.slice Q1 R0.2.length f1) := bw0_24.cell 1
        have q209 : w25.cell? ⟨w5.heap.size, 0, none⟩ = some (.int .i64 a.1) := bxx0_24.cell 0
        have q210 : w25.cell? ⟨w5.heap.size, 1, none⟩ = some (.slice P2 a.2.length d2) := bxx0_24.cell 1
        have q211 : w25.cell? ⟨w7.heap.size, 0, none⟩ = some (.int .i64 b.1) := bxx1_24.cell 0
        have q212 : w25.cell? ⟨w7.heap.size, 1, none⟩ = some (.slice P3 b.2.length d3) := bxx1_24.cell 1
        have q213 : w25.cell? ⟨w11.heap.size, 0, none⟩ = some (.int .i64 R0.1) := bg0_24.cell 0
        have q214 : w25.cell? ⟨w11.heap.size, 1, none⟩ = some (.slice Q6_0 R0.2.length f6_0) := bg0_24.cell 1
        go_wp2_with (fail)
        clear q203 q204 q205 q206 q207 q208 q209 q210 q211 q212 q213 q214
        refine (uh_rel hd19 (by omega)).mono ?_
        rintro e w26 ⟨rfl, hb20⟩
        have s_w26 := hb20.size
        have bx0_25 := bx0_24.below hb20 (by first | exact bx0_24.lt | omega)
        clear bx0_24
        have bx0_25_l := bx0_25.lt
        have bx1_25 := bx1_24.below hb20 (by first | exact bx1_24.lt | omega)
        clear bx1_24
        have bx1_25_l := bx1_25.lt
        have w0_25 := w0_24.below hb20 (by omega)
        clear w0_24
        have bw0_25 := bw0_24.below hb20 (by first | exact bw0_24.lt | omega)
        clear bw0_24
        have bw0_25_l := bw0_25.lt
        have bxx0_25 := bxx0_24.below hb20 (by first | exact bxx0_24.lt | omega)
        clear bxx0_24
        have bxx0_25_l := bxx0_25.lt
        have bxx1_25 := bxx1_24.below hb20 (by first | exact bxx1_24.lt | omega)
        clear bxx1_24
        have bxx1_25_l := bxx1_25.lt
        have bg0_25 := bg0_24.below hb20 (by first | exact bg0_24.lt | omega)
        clear bg0_24
        have bg0_25_l := bg0_25.lt
        have d0_25 := hd19.below hb20 (by omega)
        clear hd19
        have B_w26 := bthen B_w25 hb20
        have q215 : w26.cell? ⟨w.heap.size, 0, none⟩ = some (.int .i64 a.1) := bx0_25.cell 0
        have q216 : w26.cell? ⟨w.heap.size, 1, none⟩ = some (.slice A0 a.2.length c0) := bx0_25.cell 1
        have q217 : w26.cell? ⟨w.heap.size + 1, 0, none⟩ = some (.int .i64 b.1) := bx1_25.cell 0
        have q218 : w26.cell? ⟨w.heap.size + 1, 1, none⟩ = some (.slice A1 b.2.length c1) := bx1_25.cell 1
        have q219 : w26.cell? ⟨gx1, 0, none⟩ = some (.int .i64 R0.1) := bw0_25.cell 0
        have q220 : w26.cell? ⟨gx1, 1, none⟩ = some (.slice Q1 R0.2.length f1) := bw0_25.cell 1
        have q221 : w26.cell? ⟨w5.heap.size, 0, none⟩ = some (.int .i64 a.1) := bxx0_25.cell 0
        have q222 : w26.cell? ⟨w5.heap.size, 1, none⟩ = some (.slice P2 a.2.length d2) := bxx0_25.cell 1
        have q223 : w26.cell? ⟨w7.heap.size, 0, none⟩ = some (.int .i64 b.1) := bxx1_25.cell 0
        have q224 : w26.cell? ⟨w7.heap.size, 1, none⟩ = some (.slice P3 b.2.length d3) := bxx1_25.cell 1
        have q225 : w26.cell? ⟨w11.heap.size, 0, none⟩ = some (.int .i64 R0.1) := bg0_25.cell 0
        have q226 : w26.cell? ⟨w11.heap.size, 1, none⟩ = some (.slice Q6_0 R0.2.length f6_0) := bg0_25.cell 1
        go_upto_region 43 with fail
        clear q215 q216 q217 q218 q219 q220 q221 q222 q223 q224 q225 q226
        obtain ⟨SS, hSS⟩ : ∃ SS : World → Prop, SS = (fun W => W.cell? ⟨w.heap.size, 0, none⟩ = some (.int .i64 a.1) ∧ W.cell? ⟨w.heap.size, 1, none⟩ = some (.slice A0 a.2.length c0) ∧ W.cell? ⟨w.heap.size + 1, 0, none⟩ = some (.int .i64 b.1) ∧ W.cell? ⟨w.heap.size + 1, 1, none⟩ = some (.slice A1 b.2.length c1) ∧ W.cell? ⟨gx1, 0, none⟩ = some (.int .i64 R0.1) ∧ W.cell? ⟨gx1, 1, none⟩ = some (.slice Q1 R0.2.length f1) ∧ W.cell? ⟨w5.heap.size, 0, none⟩ = some (.int .i64 a.1) ∧ W.cell? ⟨w5.heap.size, 1, none⟩ = some (.slice P2 a.2.length d2) ∧ W.cell? ⟨w7.heap.size, 0, none⟩ = some (.int .i64 b.1) ∧ W.cell? ⟨w7.heap.size, 1, none⟩ = some (.slice P3 b.2.length d3) ∧ W.cell? ⟨w11.heap.size, 0, none⟩ = some (.int .i64 R0.1) ∧ W.cell? ⟨w11.heap.size, 1, none⟩ = some (.slice Q6_0 R0.2.length f6_0) ∧ True) := ⟨_, rfl⟩
        have HS_w26 := Lib.hid (show ∀ W, Below w26.heap.size w26 W → SS W from by rw [hSS]; exact fun W hW => ⟨(bx0_25.below hW bx0_25_l).cell 0, (bx0_25.below hW bx0_25_l).cell 1, (bx1_25.below hW bx1_25_l).cell 0, (bx1_25.below hW bx1_25_l).cell 1, (bw0_25.below hW bw0_25_l).cell 0, (bw0_25.below hW bw0_25_l).cell 1, (bxx0_25.below hW bxx0_25_l).cell 0, (bxx0_25.below hW bxx0_25_l).cell 1, (bxx1_25.below hW bxx1_25_l).cell 0, (bxx1_25.below hW bxx1_25_l).cell 1, (bg0_25.below hW bg0_25_l).cell 0, (bg0_25.below hW bg0_25_l).cell 1, trivial⟩)
        have HB := Lib.hid (show ∀ W, SS W → (W.cell? ⟨w.heap.size, 0, none⟩ = some (.int .i64 a.1) ∧ W.cell? ⟨w.heap.size, 1, none⟩ = some (.slice A0 a.2.length c0) ∧ W.cell? ⟨w.heap.size + 1, 0, none⟩ = some (.int .i64 b.1) ∧ W.cell? ⟨w.heap.size + 1, 1, none⟩ = some (.slice A1 b.2.length c1) ∧ W.cell? ⟨gx1, 0, none⟩ = some (.int .i64 R0.1) ∧ W.cell? ⟨gx1, 1, none⟩ = some (.slice Q1 R0.2.length f1) ∧ W.cell? ⟨w5.heap.size, 0, none⟩ = some (.int .i64 a.1) ∧ W.cell? ⟨w5.heap.size, 1, none⟩ = some (.slice P2 a.2.length d2) ∧ W.cell? ⟨w7.heap.size, 0, none⟩ = some (.int .i64 b.1) ∧ W.cell? ⟨w7.heap.size, 1, none⟩ = some (.slice P3 b.2.length d3) ∧ W.cell? ⟨w11.heap.size, 0, none⟩ = some (.int .i64 R0.1) ∧ W.cell? ⟨w11.heap.size, 1, none⟩ = some (.slice Q6_0 R0.2.length f6_0) ∧ True) from by rw [hSS]; exact fun W hW => hW)
        clear hSS
        go_cut [21, 22] (fun s0 s1 wx => ∃ (Qx : Option Addr) (fx gx lox hix : Nat), s0 = .pointer (some ⟨gx, 0, none⟩) ∧ s1 = .bool R1 ∧ BoxRel OwnRows w26 wx gx lox hix R0 Qx fx)
        case first =>
          refine wp_region_rel SS 13 15 (by kernel_rfl) rfl ?_
          obtain ⟨W0', hW0⟩ : ∃ W', W' = w26.drew := ⟨_, rfl⟩
          have bb : Below w26.heap.size w26 W0' := by rw [hW0]; exact (Below.refl _ _).drew
          have zz := bb.size
          rw [← hW0]
          clear hW0
          have SB := HS_w26.out _ bb
          refine wpAnyR_take (i := 0) (oi := _) ?vuh1 rfl rfl (by kernel_rfl) (fun _ _ _ h => h) rfl ?hyuh1 SB ?restuh1
          case hyuh1 => (intro W hW; obtain ⟨E0, E1, E2, E3, E4, E5, E6, E7, E8, E9, E10, E11, E12⟩ := HB.out W hW; go_simp; (try with_reducible rfl))
          try simp only [List.setIfInBounds_toArray, List.set_cons_zero, List.set_cons_succ]
          refine wpAnyR_take (i := 2) (oi := _) ?vuh2 rfl rfl (by kernel_rfl) (fun _ _ _ h => h) rfl ?hyuh2 SB ?restuh2
          case hyuh2 => (intro W hW; obtain ⟨E0, E1, E2, E3, E4, E5, E6, E7, E8, E9, E10, E11, E12⟩ := HB.out W hW; go_simp; (try with_reducible rfl))
          try simp only [List.setIfInBounds_toArray, List.set_cons_zero, List.set_cons_succ]
          refine wpAnyR_pure (i := 4) (oi := _) ?vuh3 rfl rfl (by kernel_rfl) (by decide) (fun _ _ _ h => h) rfl ?hyuh3 (fun _ => SB) ?restuh3
          case hyuh3 => (intro W; go_simp; (try with_reducible rfl))
          try simp only [List.setIfInBounds_toArray, List.set_cons_zero, List.set_cons_succ]
          refine wpAnyR_pure (i := 6) (oi := _) ?vuh4 rfl rfl (by kernel_rfl) (by decide) (fun _ _ _ h => h) rfl ?hyuh4 (fun _ => SB) ?restuh4
          case hyuh4 => (intro W; go_simp; (try with_reducible rfl))
          try simp only [List.setIfInBounds_toArray, List.set_cons_zero, List.set_cons_succ]
          refine wpAnyR_two (i := 1) (j := 12) (by kernel_rfl) rfl rfl (fun K hK => ?_) (fun K hK => ?_)
          · skip
            try rw [if_pos (show Region.wanted _ _ = true from rfl)]
            go_simp
            refine (toRel_any _ a _ (H0.out.on (bthen B_w26 bb)) (by omega)).mono ?_
            rintro e V5 ⟨P5, d5, rfl, o5, g5⟩
            have z5 := g5.size
            have b5 := bthen bb g5
            have SB5 := HS_w26.out _ b5
            refine hK.out _ _ (fun _ => SB5) ?_
            clear hK K
            try simp only [List.setIfInBounds_toArray, List.set_cons_zero, List.set_cons_succ, Act.put]
            refine wpAnyR_two (i := 3) (j := 12) (by kernel_rfl) rfl rfl (fun K hK => ?_) (fun K hK => ?_)
            · skip
              try rw [if_pos (show Region.wanted _ _ = true from rfl)]
              go_simp
              refine (toRel_any _ b _ (H1.out.on (bthen B_w26 b5)) (by omega)).mono ?_
              rintro e V6 ⟨P6, d6, rfl, o6, g6⟩
              have z6 := g6.size
              have b6 := bthen b5 g6
              have o5_6 := o5.below g6 (by omega)
              have SB6 := HS_w26.out _ b6
              refine hK.out _ _ (fun _ => SB6) ?_
              clear hK K
              try simp only [List.setIfInBounds_toArray, List.set_cons_zero, List.set_cons_succ, Act.put]
              refine wpAnyR_two (i := 5) (j := 12) (by kernel_rfl) rfl rfl (fun K hK => ?_) (fun K hK => ?_)
              · skip
                try rw [if_pos (show Region.wanted _ _ = true from rfl)]
                go_simp
                refine (toIntS_any _ ls _ (H2.out.on (bthen B_w26 b6)) (by omega)).mono ?_
                rintro e V7 ⟨P7, d7, rfl, o7, g7⟩
                have z7 := g7.size
                have b7 := bthen b6 g7
                have o5_6_7 := o5_6.below g7 (by omega)
                have o6_7 := o6.below g7 (by omega)
                have SB7 := HS_w26.out _ b7
                refine hK.out _ _ (fun _ => SB7) ?_
                clear hK K
                try simp only [List.setIfInBounds_toArray, List.set_cons_zero, List.set_cons_succ, Act.put]
                refine wpAnyR_two (i := 7) (j := 12) (by kernel_rfl) rfl rfl (fun K hK => ?_) (fun K hK => ?_)
                · skip
                  try rw [if_pos (show Region.wanted _ _ = true from rfl)]
                  go_simp
                  refine (toIntS_any _ rs _ (H3.out.on (bthen B_w26 b7)) (by omega)).mono ?_
                  rintro e V8 ⟨P8, d8, rfl, o8, g8⟩
                  have z8 := g8.size
                  have b8 := bthen b7 g8
                  have o5_6_7_8 := o5_6_7.below g8 (by omega)
                  have o6_7_8 := o6_7.below g8 (by omega)
                  have o7_8 := o7.below g8 (by omega)
                  have SB8 := HS_w26.out _ b8
                  refine hK.out _ _ (fun _ => SB8) ?_
                  clear hK K
                  try simp only [List.setIfInBounds_toArray, List.set_cons_zero, List.set_cons_succ, Act.put]
                  refine wpAnyR_two (i := 8) (j := 12) (by kernel_rfl) rfl rfl (fun K hK => ?_) (fun K hK => ?_)
                  · skip
                    try rw [if_pos (show Region.wanted _ _ = true from rfl)]
                    go_simp
                    refine (implRelJoin_any _ _ _ _ a b ls rs _ rfl _ rfl _ ⟨_, rfl, o5_6_7_8.rd.more (by omega)⟩ ⟨_, rfl, o6_7_8.rd.more (by omega)⟩ (o7_8.rd.more (by omega)) (o8.rd.more (by omega)) (by omega) (by omega) (by omega) (by omega)).mono ?_
                    rw [← HR0.out]
                    try rw [← HR1.out]
                    rintro e V9 ⟨P9, d9, rfl, o9, g9⟩
                    have z9 := g9.size
                    have b9 := bthen b8 g9
                    have o5_6_7_8_9 := o5_6_7_8.below g9 (by omega)
                    have o6_7_8_9 := o6_7_8.below g9 (by omega)
                    have o7_8_9 := o7_8.below g9 (by omega)
                    have o8_9 := o8.below g9 (by omega)
                    have SB9 := HS_w26.out _ b9
                    refine hK.out _ _ (fun _ => SB9) ?_
                    clear hK K
                    try simp only [List.setIfInBounds_toArray, List.set_cons_zero, List.set_cons_succ, Act.put]
                    refine wpAnyR_pure (i := 9) (oi := _) ?vuh10 rfl rfl (by kernel_rfl) (by decide) (fun _ _ _ h => h) rfl ?hyuh10 (fun _ => SB9) ?restuh10
                    case hyuh10 => (intro W; go_simp; (try with_reducible rfl))
                    try simp only [List.setIfInBounds_toArray, List.set_cons_zero, List.set_cons_succ]
                    refine wpAnyR_pure (i := 10) (oi := _) ?vuh11 rfl rfl (by kernel_rfl) (by decide) (fun _ _ _ h => h) rfl ?hyuh11 (fun _ => SB9) ?restuh11
                    case hyuh11 => (intro W; go_simp; (try with_reducible rfl))
                    try simp only [List.setIfInBounds_toArray, List.set_cons_zero, List.set_cons_succ]
                    refine wpAnyR_pure (i := 11) (oi := _) ?vuh12 rfl rfl (by kernel_rfl) (by decide) (fun _ _ _ h => h) rfl ?hyuh12 (fun _ => SB9) ?restuh12
                    case hyuh12 => (intro W; go_simp; (try with_reducible rfl))
                    try simp only [List.setIfInBounds_toArray, List.set_cons_zero, List.set_cons_succ]
                    refine wpAnyR_one (i := 12) (by kernel_rfl) rfl (fun K hK => ?_)
                    try rw [if_pos (show Region.wanted _ _ = true from rfl)]
                    go_simp
                    obtain ⟨V13, hWn⟩ : ∃ W', W' = V9.alloc (Obj.cells #[Value.int IntKind.i64 0, Value.slice none 0 0] 27) := ⟨_, rfl⟩
                    rw [← hWn]
                    have g13 : Below V9.heap.size V9 V13 := by rw [hWn]; exact below1 _ _
                    have X13 : Blk V13 V9.heap.size 27 #[Value.int IntKind.i64 0, Value.slice none 0 0] := by rw [hWn]; exact Blk.new _ _ _
                    have z13 := g13.size
                    have y13 := X13.lt
                    clear hWn
                    have b13 := bthen b9 g13
                    have o5_6_7_8_9_13 := o5_6_7_8_9.below g13 (by omega)
                    have o6_7_8_9_13 := o6_7_8_9.below g13 (by omega)
                    have o7_8_9_13 := o7_8_9.below g13 (by omega)
                    have o8_9_13 := o8_9.below g13 (by omega)
                    have o9_13 := o9.below g13 (by omega)
                    have SB13 := HS_w26.out _ b13
                    refine hK.out _ _ (fun _ => SB13) ?_
                    clear hK K
                    try simp only [List.setIfInBounds_toArray, List.set_cons_zero, List.set_cons_succ, Act.put]
                    refine wpAnyR_one (i := 13) (by kernel_rfl) rfl (fun K hK => ?_)
                    try rw [if_pos (show Region.wanted _ _ = true from rfl)]
                    have c0 := X13.cell 0
                    have c1 := X13.cell 1
                    have f0 := X13.frozen 0
                    have f1 := X13.frozen 1
                    simp at c0 c1
                    go_simp
                    refine hK.out _ _ (fun hf => absurd hf (by decide)) ?_
                    clear hK K c0 c1 f0 f1
                    try simp only [List.setIfInBounds_toArray, List.set_cons_zero, List.set_cons_succ, Act.put]
                    refine wpAnyR_one (i := 14) (by kernel_rfl) rfl (fun K hK => ?_)
                    go_simp
                    refine hK.out _ _ (fun hf => absurd hf (by decide)) ?_
                    clear hK K
                    refine wpAnyR_done (by kernel_rfl) ?_
                    go_wp2_with fail
                    go_meet
                    exact ⟨P9, d9, V9.heap.size, V8.heap.size, V9.heap.size, rfl, rfl, BoxRel.made (O := OwnRows) (fun h a b => h.only a b) (r := R0) b13 X13 o9_13 (by omega) (by omega) (by omega) (by omega)⟩
                  · skip
                    try rw [if_pos (show Region.wanted _ _ = true from rfl)]
                    go_simp
                    obtain ⟨V15, hWn⟩ : ∃ W', W' = V8.alloc (Obj.cells #[Value.int IntKind.i64 0, Value.slice none 0 0] 27) := ⟨_, rfl⟩
                    rw [← hWn]
                    have g15 : Below V8.heap.size V8 V15 := by rw [hWn]; exact below1 _ _
                    have X15 : Blk V15 V8.heap.size 27 #[Value.int IntKind.i64 0, Value.slice none 0 0] := by rw [hWn]; exact Blk.new _ _ _
                    have z15 := g15.size
                    have y15 := X15.lt
                    clear hWn
                    have b15 := bthen b8 g15
                    have o5_6_7_8_15 := o5_6_7_8.below g15 (by omega)
                    have o6_7_8_15 := o6_7_8.below g15 (by omega)
                    have o7_8_15 := o7_8.below g15 (by omega)
                    have o8_15 := o8.below g15 (by omega)
                    have SB15 := HS_w26.out _ b15
                    refine hK.out _ _ (fun _ => SB15) ?_
                    clear hK K
                    try simp only [List.setIfInBounds_toArray, List.set_cons_zero, List.set_cons_succ, Act.put]
                    refine wpAnyR_one (i := 8) (by kernel_rfl) rfl (fun K hK => ?_)
                    try rw [if_pos (show Region.wanted _ _ = true from rfl)]
                    go_simp
                    refine (implRelJoin_any _ _ _ _ a b ls rs _ rfl _ rfl _ ⟨_, rfl, o5_6_7_8_15.rd.more (by omega)⟩ ⟨_, rfl, o6_7_8_15.rd.more (by omega)⟩ (o7_8_15.rd.more (by omega)) (o8_15.rd.more (by omega)) (by omega) (by omega) (by omega) (by omega)).mono ?_
                    rw [← HR0.out]
                    try rw [← HR1.out]
                    rintro e V16 ⟨P16, d16, rfl, o16, g16⟩
                    have z16 := g16.size
                    have b16 := bthen b15 g16
                    have o5_6_7_8_15_16 := o5_6_7_8_15.below g16 (by omega)
                    have o6_7_8_15_16 := o6_7_8_15.below g16 (by omega)
                    have o7_8_15_16 := o7_8_15.below g16 (by omega)
                    have o8_15_16 := o8_15.below g16 (by omega)
                    have X16 := X15.below g16 X15.lt
                    have SB16 := HS_w26.out _ b16
                    refine hK.out _ _ (fun _ => SB16) ?_
                    clear hK K
                    try simp only [List.setIfInBounds_toArray, List.set_cons_zero, List.set_cons_succ, Act.put]
                    refine wpAnyR_pure (i := 9) (oi := _) ?vuh17 rfl rfl (by kernel_rfl) (by decide) (fun _ _ _ h => h) rfl ?hyuh17 (fun _ => SB16) ?restuh17
                    case hyuh17 => (intro W; go_simp; (try with_reducible rfl))
                    try simp only [List.setIfInBounds_toArray, List.set_cons_zero, List.set_cons_succ]
                    refine wpAnyR_pure (i := 10) (oi := _) ?vuh18 rfl rfl (by kernel_rfl) (by decide) (fun _ _ _ h => h) rfl ?hyuh18 (fun _ => SB16) ?restuh18
                    case hyuh18 => (intro W; go_simp; (try with_reducible rfl))
                    try simp only [List.setIfInBounds_toArray, List.set_cons_zero, List.set_cons_succ]
                    refine wpAnyR_pure (i := 11) (oi := _) ?vuh19 rfl rfl (by kernel_rfl) (by decide) (fun _ _ _ h => h) rfl ?hyuh19 (fun _ => SB16) ?restuh19
                    case hyuh19 => (intro W; go_simp; (try with_reducible rfl))
                    try simp only [List.setIfInBounds_toArray, List.set_cons_zero, List.set_cons_succ]
                    refine wpAnyR_one (i := 13) (by kernel_rfl) rfl (fun K hK => ?_)
                    try rw [if_pos (show Region.wanted _ _ = true from rfl)]
                    have c0 := X16.cell 0
                    have c1 := X16.cell 1
                    have f0 := X16.frozen 0
                    have f1 := X16.frozen 1
                    simp at c0 c1
                    go_simp
                    refine hK.out _ _ (fun hf => absurd hf (by decide)) ?_
                    clear hK K c0 c1 f0 f1
                    try simp only [List.setIfInBounds_toArray, List.set_cons_zero, List.set_cons_succ, Act.put]
                    refine wpAnyR_one (i := 14) (by kernel_rfl) rfl (fun K hK => ?_)
                    go_simp
                    refine hK.out _ _ (fun hf => absurd hf (by decide)) ?_
                    clear hK K
                    refine wpAnyR_done (by kernel_rfl) ?_
                    go_wp2_with fail
                    go_meet
                    exact ⟨P16, d16, V8.heap.size, V15.heap.size, V16.heap.size, rfl, rfl, BoxRel.made (O := OwnRows) (fun h a b => h.only a b) (r := R0) b16 X16 o16 (by omega) (by omega) (by omega) (by omega)⟩
                · skip
                  try rw [if_pos (show Region.wanted _ _ = true from rfl)]
                  go_simp
                  obtain ⟨V21, hWn⟩ : ∃ W', W' = V7.alloc (Obj.cells #[Value.int IntKind.i64 0, Value.slice none 0 0] 27) := ⟨_, rfl⟩
                  rw [← hWn]
                  have g21 : Below V7.heap.size V7 V21 := by rw [hWn]; exact below1 _ _
                  have X21 : Blk V21 V7.heap.size 27 #[Value.int IntKind.i64 0, Value.slice none 0 0] := by rw [hWn]; exact Blk.new _ _ _
                  have z21 := g21.size
                  have y21 := X21.lt
                  clear hWn
                  have b21 := bthen b7 g21
                  have o5_6_7_21 := o5_6_7.below g21 (by omega)
                  have o6_7_21 := o6_7.below g21 (by omega)
                  have o7_21 := o7.below g21 (by omega)
                  have SB21 := HS_w26.out _ b21
                  refine hK.out _ _ (fun _ => SB21) ?_
                  clear hK K
                  try simp only [List.setIfInBounds_toArray, List.set_cons_zero, List.set_cons_succ, Act.put]
                  refine wpAnyR_one (i := 7) (by kernel_rfl) rfl (fun K hK => ?_)
                  try rw [if_pos (show Region.wanted _ _ = true from rfl)]
                  go_simp
                  refine (toIntS_any _ rs _ (H3.out.on (bthen B_w26 b21)) (by omega)).mono ?_
                  rintro e V22 ⟨P22, d22, rfl, o22, g22⟩
                  have z22 := g22.size
                  have b22 := bthen b21 g22
                  have o5_6_7_21_22 := o5_6_7_21.below g22 (by omega)
                  have o6_7_21_22 := o6_7_21.below g22 (by omega)
                  have o7_21_22 := o7_21.below g22 (by omega)
                  have X22 := X21.below g22 X21.lt
                  have SB22 := HS_w26.out _ b22
                  refine hK.out _ _ (fun _ => SB22) ?_
                  clear hK K
                  try simp only [List.setIfInBounds_toArray, List.set_cons_zero, List.set_cons_succ, Act.put]
                  refine wpAnyR_one (i := 8) (by kernel_rfl) rfl (fun K hK => ?_)
                  try rw [if_pos (show Region.wanted _ _ = true from rfl)]
                  go_simp
                  refine (implRelJoin_any _ _ _ _ a b ls rs _ rfl _ rfl _ ⟨_, rfl, o5_6_7_21_22.rd.more (by omega)⟩ ⟨_, rfl, o6_7_21_22.rd.more (by omega)⟩ (o7_21_22.rd.more (by omega)) (o22.rd.more (by omega)) (by omega) (by omega) (by omega) (by omega)).mono ?_
                  rw [← HR0.out]
                  try rw [← HR1.out]
                  rintro e V23 ⟨P23, d23, rfl, o23, g23⟩
                  have z23 := g23.size
                  have b23 := bthen b22 g23
                  have o5_6_7_21_22_23 := o5_6_7_21_22.below g23 (by omega)
                  have o6_7_21_22_23 := o6_7_21_22.below g23 (by omega)
                  have o7_21_22_23 := o7_21_22.below g23 (by omega)
                  have o22_23 := o22.below g23 (by omega)
                  have X23 := X22.below g23 X22.lt
                  have SB23 := HS_w26.out _ b23
                  refine hK.out _ _ (fun _ => SB23) ?_
                  clear hK K
                  try simp only [List.setIfInBounds_toArray, List.set_cons_zero, List.set_cons_succ, Act.put]
                  refine wpAnyR_pure (i := 9) (oi := _) ?vuh24 rfl rfl (by kernel_rfl) (by decide) (fun _ _ _ h => h) rfl ?hyuh24 (fun _ => SB23) ?restuh24
                  case hyuh24 => (intro W; go_simp; (try with_reducible rfl))
                  try simp only [List.setIfInBounds_toArray, List.set_cons_zero, List.set_cons_succ]
                  refine wpAnyR_pure (i := 10) (oi := _) ?vuh25 rfl rfl (by kernel_rfl) (by decide) (fun _ _ _ h => h) rfl ?hyuh25 (fun _ => SB23) ?restuh25
                  case hyuh25 => (intro W; go_simp; (try with_reducible rfl))
                  try simp only [List.setIfInBounds_toArray, List.set_cons_zero, List.set_cons_succ]
                  refine wpAnyR_pure (i := 11) (oi := _) ?vuh26 rfl rfl (by kernel_rfl) (by decide) (fun _ _ _ h => h) rfl ?hyuh26 (fun _ => SB23) ?restuh26
                  case hyuh26 => (intro W; go_simp; (try with_reducible rfl))
                  try simp only [List.setIfInBounds_toArray, List.set_cons_zero, List.set_cons_succ]
                  refine wpAnyR_one (i := 13) (by kernel_rfl) rfl (fun K hK => ?_)
                  try rw [if_pos (show Region.wanted _ _ = true from rfl)]
                  have c0 := X23.cell 0
                  have c1 := X23.cell 1
                  have f0 := X23.frozen 0
                  have f1 := X23.frozen 1
                  simp at c0 c1
                  go_simp
                  refine hK.out _ _ (fun hf => absurd hf (by decide)) ?_
                  clear hK K c0 c1 f0 f1
                  try simp only [List.setIfInBounds_toArray, List.set_cons_zero, List.set_cons_succ, Act.put]
                  refine wpAnyR_one (i := 14) (by kernel_rfl) rfl (fun K hK => ?_)
                  go_simp
                  refine hK.out _ _ (fun hf => absurd hf (by decide)) ?_
                  clear hK K
                  refine wpAnyR_done (by kernel_rfl) ?_
                  go_wp2_with fail
                  go_meet
                  exact ⟨P23, d23, V7.heap.size, V22.heap.size, V23.heap.size, rfl, rfl, BoxRel.made (O := OwnRows) (fun h a b => h.only a b) (r := R0) b23 X23 o23 (by omega) (by omega) (by omega) (by omega)⟩
              · skip
                try rw [if_pos (show Region.wanted _ _ = true from rfl)]
                go_simp
                obtain ⟨V28, hWn⟩ : ∃ W', W' = V6.alloc (Obj.cells #[Value.int IntKind.i64 0, Value.slice none 0 0] 27) := ⟨_, rfl⟩
                rw [← hWn]
                have g28 : Below V6.heap.size V6 V28 := by rw [hWn]; exact below1 _ _
                have X28 : Blk V28 V6.heap.size 27 #[Value.int IntKind.i64 0, Value.slice none 0 0] := by rw [hWn]; exact Blk.new _ _ _
                have z28 := g28.size
                have y28 := X28.lt
                clear hWn
                have b28 := bthen b6 g28
                have o5_6_28 := o5_6.below g28 (by omega)
                have o6_28 := o6.below g28 (by omega)
                have SB28 := HS_w26.out _ b28
                refine hK.out _ _ (fun _ => SB28) ?_
                clear hK K
                try simp only [List.setIfInBounds_toArray, List.set_cons_zero, List.set_cons_succ, Act.put]
                refine wpAnyR_one (i := 5) (by kernel_rfl) rfl (fun K hK => ?_)
                try rw [if_pos (show Region.wanted _ _ = true from rfl)]
                go_simp
                refine (toIntS_any _ ls _ (H2.out.on (bthen B_w26 b28)) (by omega)).mono ?_
                rintro e V29 ⟨P29, d29, rfl, o29, g29⟩
                have z29 := g29.size
                have b29 := bthen b28 g29
                have o5_6_28_29 := o5_6_28.below g29 (by omega)
                have o6_28_29 := o6_28.below g29 (by omega)
                have X29 := X28.below g29 X28.lt
                have SB29 := HS_w26.out _ b29
                refine hK.out _ _ (fun _ => SB29) ?_
                clear hK K
                try simp only [List.setIfInBounds_toArray, List.set_cons_zero, List.set_cons_succ, Act.put]
                refine wpAnyR_one (i := 7) (by kernel_rfl) rfl (fun K hK => ?_)
                try rw [if_pos (show Region.wanted _ _ = true from rfl)]
                go_simp
                refine (toIntS_any _ rs _ (H3.out.on (bthen B_w26 b29)) (by omega)).mono ?_
                rintro e V30 ⟨P30, d30, rfl, o30, g30⟩
                have z30 := g30.size
                have b30 := bthen b29 g30
                have o5_6_28_29_30 := o5_6_28_29.below g30 (by omega)
                have o6_28_29_30 := o6_28_29.below g30 (by omega)
                have o29_30 := o29.below g30 (by omega)
                have X30 := X29.below g30 X29.lt
                have SB30 := HS_w26.out _ b30
                refine hK.out _ _ (fun _ => SB30) ?_
                clear hK K
                try simp only [List.setIfInBounds_toArray, List.set_cons_zero, List.set_cons_succ, Act.put]
                refine wpAnyR_one (i := 8) (by kernel_rfl) rfl (fun K hK => ?_)
                try rw [if_pos (show Region.wanted _ _ = true from rfl)]
                go_simp
                refine (implRelJoin_any _ _ _ _ a b ls rs _ rfl _ rfl _ ⟨_, rfl, o5_6_28_29_30.rd.more (by omega)⟩ ⟨_, rfl, o6_28_29_30.rd.more (by omega)⟩ (o29_30.rd.more (by omega)) (o30.rd.more (by omega)) (by omega) (by omega) (by omega) (by omega)).mono ?_
                rw [← HR0.out]
                try rw [← HR1.out]
                rintro e V31 ⟨P31, d31, rfl, o31, g31⟩
                have z31 := g31.size
                have b31 := bthen b30 g31
                have o5_6_28_29_30_31 := o5_6_28_29_30.below g31 (by omega)
                have o6_28_29_30_31 := o6_28_29_30.below g31 (by omega)
                have o29_30_31 := o29_30.below g31 (by omega)
                have o30_31 := o30.below g31 (by omega)
                have X31 := X30.below g31 X30.lt
                have SB31 := HS_w26.out _ b31
                refine hK.out _ _ (fun _ => SB31) ?_
                clear hK K
                try simp only [List.setIfInBounds_toArray, List.set_cons_zero, List.set_cons_succ, Act.put]
                refine wpAnyR_pure (i := 9) (oi := _) ?vuh32 rfl rfl (by kernel_rfl) (by decide) (fun _ _ _ h => h) rfl ?hyuh32 (fun _ => SB31) ?restuh32
                case hyuh32 => (intro W; go_simp; (try with_reducible rfl))
                try simp only [List.setIfInBounds_toArray, List.set_cons_zero, List.set_cons_succ]
                refine wpAnyR_pure (i := 10) (oi := _) ?vuh33 rfl rfl (by kernel_rfl) (by decide) (fun _ _ _ h => h) rfl ?hyuh33 (fun _ => SB31) ?restuh33
                case hyuh33 => (intro W; go_simp; (try with_reducible rfl))
                try simp only [List.setIfInBounds_toArray, List.set_cons_zero, List.set_cons_succ]
                refine wpAnyR_pure (i := 11) (oi := _) ?vuh34 rfl rfl (by kernel_rfl) (by decide) (fun _ _ _ h => h) rfl ?hyuh34 (fun _ => SB31) ?restuh34
                case hyuh34 => (intro W; go_simp; (try with_reducible rfl))
                try simp only [List.setIfInBounds_toArray, List.set_cons_zero, List.set_cons_succ]
                refine wpAnyR_one (i := 13) (by kernel_rfl) rfl (fun K hK => ?_)
                try rw [if_pos (show Region.wanted _ _ = true from rfl)]
                have c0 := X31.cell 0
                have c1 := X31.cell 1
                have f0 := X31.frozen 0
                have f1 := X31.frozen 1
                simp at c0 c1
                go_simp
                refine hK.out _ _ (fun hf => absurd hf (by decide)) ?_
                clear hK K c0 c1 f0 f1
                try simp only [List.setIfInBounds_toArray, List.set_cons_zero, List.set_cons_succ, Act.put]
                refine wpAnyR_one (i := 14) (by kernel_rfl) rfl (fun K hK => ?_)
                go_simp
                refine hK.out _ _ (fun hf => absurd hf (by decide)) ?_
                clear hK K
                refine wpAnyR_done (by kernel_rfl) ?_
                go_wp2_with fail
                go_meet
                exact ⟨P31, d31, V6.heap.size, V30.heap.size, V31.heap.size, rfl, rfl, BoxRel.made (O := OwnRows) (fun h a b => h.only a b) (r := R0) b31 X31 o31 (by omega) (by omega) (by omega) (by omega)⟩
            · skip
              try rw [if_pos (show Region.wanted _ _ = true from rfl)]
              go_simp
              obtain ⟨V36, hWn⟩ : ∃ W', W' = V5.alloc (Obj.cells #[Value.int IntKind.i64 0, Value.slice none 0 0] 27) := ⟨_, rfl⟩
              rw [← hWn]
              have g36 : Below V5.heap.size V5 V36 := by rw [hWn]; exact below1 _ _
              have X36 : Blk V36 V5.heap.size 27 #[Value.int IntKind.i64 0, Value.slice none 0 0] := by rw [hWn]; exact Blk.new _ _ _
              have z36 := g36.size
              have y36 := X36.lt
              clear hWn
              have b36 := bthen b5 g36
              have o5_36 := o5.below g36 (by omega)
              have SB36 := HS_w26.out _ b36
              refine hK.out _ _ (fun _ => SB36) ?_
              clear hK K
              try simp only [List.setIfInBounds_toArray, List.set_cons_zero, List.set_cons_succ, Act.put]
              refine wpAnyR_one (i := 3) (by kernel_rfl) rfl (fun K hK => ?_)
              try rw [if_pos (show Region.wanted _ _ = true from rfl)]
              go_simp
              refine (toRel_any _ b _ (H1.out.on (bthen B_w26 b36)) (by omega)).mono ?_
              rintro e V37 ⟨P37, d37, rfl, o37, g37⟩
              have z37 := g37.size
              have b37 := bthen b36 g37
              have o5_36_37 := o5_36.below g37 (by omega)
              have X37 := X36.below g37 X36.lt
              have SB37 := HS_w26.out _ b37
              refine hK.out _ _ (fun _ => SB37) ?_
              clear hK K
              try simp only [List.setIfInBounds_toArray, List.set_cons_zero, List.set_cons_succ, Act.put]
              refine wpAnyR_one (i := 5) (by kernel_rfl) rfl (fun K hK => ?_)
              try rw [if_pos (show Region.wanted _ _ = true from rfl)]
              go_simp
              refine (toIntS_any _ ls _ (H2.out.on (bthen B_w26 b37)) (by omega)).mono ?_
              rintro e V38 ⟨P38, d38, rfl, o38, g38⟩
              have z38 := g38.size
              have b38 := bthen b37 g38
              have o5_36_37_38 := o5_36_37.below g38 (by omega)
              have o37_38 := o37.below g38 (by omega)
              have X38 := X37.below g38 X37.lt
              have SB38 := HS_w26.out _ b38
              refine hK.out _ _ (fun _ => SB38) ?_
              clear hK K
              try simp only [List.setIfInBounds_toArray, List.set_cons_zero, List.set_cons_succ, Act.put]
              refine wpAnyR_one (i := 7) (by kernel_rfl) rfl (fun K hK => ?_)
              try rw [if_pos (show Region.wanted _ _ = true from rfl)]
              go_simp
              refine (toIntS_any _ rs _ (H3.out.on (bthen B_w26 b38)) (by omega)).mono ?_
              rintro e V39 ⟨P39, d39, rfl, o39, g39⟩
              have z39 := g39.size
              have b39 := bthen b38 g39
              have o5_36_37_38_39 := o5_36_37_38.below g39 (by omega)
              have o37_38_39 := o37_38.below g39 (by omega)
              have o38_39 := o38.below g39 (by omega)
              have X39 := X38.below g39 X38.lt
              have SB39 := HS_w26.out _ b39
              refine hK.out _ _ (fun _ => SB39) ?_
              clear hK K
              try simp only [List.setIfInBounds_toArray, List.set_cons_zero, List.set_cons_succ, Act.put]
              refine wpAnyR_one (i := 8) (by kernel_rfl) rfl (fun K hK => ?_)
              try rw [if_pos (show Region.wanted _ _ = true from rfl)]
              go_simp
              refine (implRelJoin_any _ _ _ _ a b ls rs _ rfl _ rfl _ ⟨_, rfl, o5_36_37_38_39.rd.more (by omega)⟩ ⟨_, rfl, o37_38_39.rd.more (by omega)⟩ (o38_39.rd.more (by omega)) (o39.rd.more (by omega)) (by omega) (by omega) (by omega) (by omega)).mono ?_
              rw [← HR0.out]
              try rw [← HR1.out]
              rintro e V40 ⟨P40, d40, rfl, o40, g40⟩
              have z40 := g40.size
              have b40 := bthen b39 g40
              have o5_36_37_38_39_40 := o5_36_37_38_39.below g40 (by omega)
              have o37_38_39_40 := o37_38_39.below g40 (by omega)
              have o38_39_40 := o38_39.below g40 (by omega)
              have o39_40 := o39.below g40 (by omega)
              have X40 := X39.below g40 X39.lt
              have SB40 := HS_w26.out _ b40
              refine hK.out _ _ (fun _ => SB40) ?_
              clear hK K
              try simp only [List.setIfInBounds_toArray, List.set_cons_zero, List.set_cons_succ, Act.put]
              refine wpAnyR_pure (i := 9) (oi := _) ?vuh41 rfl rfl (by kernel_rfl) (by decide) (fun _ _ _ h => h) rfl ?hyuh41 (fun _ => SB40) ?restuh41
              case hyuh41 => (intro W; go_simp; (try with_reducible rfl))
              try simp only [List.setIfInBounds_toArray, List.set_cons_zero, List.set_cons_succ]
              refine wpAnyR_pure (i := 10) (oi := _) ?vuh42 rfl rfl (by kernel_rfl) (by decide) (fun _ _ _ h => h) rfl ?hyuh42 (fun _ => SB40) ?restuh42
              case hyuh42 => (intro W; go_simp; (try with_reducible rfl))
              try simp only [List.setIfInBounds_toArray, List.set_cons_zero, List.set_cons_succ]
              refine wpAnyR_pure (i := 11) (oi := _) ?vuh43 rfl rfl (by kernel_rfl) (by decide) (fun _ _ _ h => h) rfl ?hyuh43 (fun _ => SB40) ?restuh43
              case hyuh43 => (intro W; go_simp; (try with_reducible rfl))
              try simp only [List.setIfInBounds_toArray, List.set_cons_zero, List.set_cons_succ]
              refine wpAnyR_one (i := 13) (by kernel_rfl) rfl (fun K hK => ?_)
              try rw [if_pos (show Region.wanted _ _ = true from rfl)]
              have c0 := X40.cell 0
              have c1 := X40.cell 1
              have f0 := X40.frozen 0
              have f1 := X40.frozen 1
              simp at c0 c1
              go_simp
              refine hK.out _ _ (fun hf => absurd hf (by decide)) ?_
              clear hK K c0 c1 f0 f1
              try simp only [List.setIfInBounds_toArray, List.set_cons_zero, List.set_cons_succ, Act.put]
              refine wpAnyR_one (i := 14) (by kernel_rfl) rfl (fun K hK => ?_)
              go_simp
              refine hK.out _ _ (fun hf => absurd hf (by decide)) ?_
              clear hK K
              refine wpAnyR_done (by kernel_rfl) ?_
              go_wp2_with fail
              go_meet
              exact ⟨P40, d40, V5.heap.size, V39.heap.size, V40.heap.size, rfl, rfl, BoxRel.made (O := OwnRows) (fun h a b => h.only a b) (r := R0) b40 X40 o40 (by omega) (by omega) (by omega) (by omega)⟩
          · skip
            try rw [if_pos (show Region.wanted _ _ = true from rfl)]
            go_simp
            obtain ⟨V45, hWn⟩ : ∃ W', W' = W0'.alloc (Obj.cells #[Value.int IntKind.i64 0, Value.slice none 0 0] 27) := ⟨_, rfl⟩
            rw [← hWn]
            have g45 : Below W0'.heap.size W0' V45 := by rw [hWn]; exact below1 _ _
            have X45 : Blk V45 W0'.heap.size 27 #[Value.int IntKind.i64 0, Value.slice none 0 0] := by rw [hWn]; exact Blk.new _ _ _
            have z45 := g45.size
            have y45 := X45.lt
            clear hWn
            have b45 := bthen bb g45
            have SB45 := HS_w26.out _ b45
            refine hK.out _ _ (fun _ => SB45) ?_
            clear hK K
            try simp only [List.setIfInBounds_toArray, List.set_cons_zero, List.set_cons_succ, Act.put]
            refine wpAnyR_one (i := 1) (by kernel_rfl) rfl (fun K hK => ?_)
            try rw [if_pos (show Region.wanted _ _ = true from rfl)]
            go_simp
            refine (toRel_any _ a _ (H0.out.on (bthen B_w26 b45)) (by omega)).mono ?_
            rintro e V46 ⟨P46, d46, rfl, o46, g46⟩
            have z46 := g46.size
            have b46 := bthen b45 g46
            have X46 := X45.below g46 X45.lt
            have SB46 := HS_w26.out _ b46
            refine hK.out _ _ (fun _ => SB46) ?_
            clear hK K
            try simp only [List.setIfInBounds_toArray, List.set_cons_zero, List.set_cons_succ, Act.put]
            refine wpAnyR_one (i := 3) (by kernel_rfl) rfl (fun K hK => ?_)
            try rw [if_pos (show Region.wanted _ _ = true from rfl)]
            go_simp
            refine (toRel_any _ b _ (H1.out.on (bthen B_w26 b46)) (by omega)).mono ?_
            rintro e V47 ⟨P47, d47, rfl, o47, g47⟩
            have z47 := g47.size
            have b47 := bthen b46 g47
            have o46_47 := o46.below g47 (by omega)
            have X47 := X46.below g47 X46.lt
            have SB47 := HS_w26.out _ b47
            refine hK.out _ _ (fun _ => SB47) ?_
            clear hK K
            try simp only [List.setIfInBounds_toArray, List.set_cons_zero, List.set_cons_succ, Act.put]
            refine wpAnyR_one (i := 5) (by kernel_rfl) rfl (fun K hK => ?_)
            try rw [if_pos (show Region.wanted _ _ = true from rfl)]
            go_simp
            refine (toIntS_any _ ls _ (H2.out.on (bthen B_w26 b47)) (by omega)).mono ?_
            rintro e V48 ⟨P48, d48, rfl, o48, g48⟩
            have z48 := g48.size
            have b48 := bthen b47 g48
            have o46_47_48 := o46_47.below g48 (by omega)
            have o47_48 := o47.below g48 (by omega)
            have X48 := X47.below g48 X47.lt
            have SB48 := HS_w26.out _ b48
            refine hK.out _ _ (fun _ => SB48) ?_
            clear hK K
            try simp only [List.setIfInBounds_toArray, List.set_cons_zero, List.set_cons_succ, Act.put]
            refine wpAnyR_one (i := 7) (by kernel_rfl) rfl (fun K hK => ?_)
            try rw [if_pos (show Region.wanted _ _ = true from rfl)]
            go_simp
            refine (toIntS_any _ rs _ (H3.out.on (bthen B_w26 b48)) (by omega)).mono ?_
            rintro e V49 ⟨P49, d49, rfl, o49, g49⟩
            have z49 := g49.size
            have b49 := bthen b48 g49
            have o46_47_48_49 := o46_47_48.below g49 (by omega)
            have o47_48_49 := o47_48.below g49 (by omega)
            have o48_49 := o48.below g49 (by omega)
            have X49 := X48.below g49 X48.lt
            have SB49 := HS_w26.out _ b49
            refine hK.out _ _ (fun _ => SB49) ?_
            clear hK K
            try simp only [List.setIfInBounds_toArray, List.set_cons_zero, List.set_cons_succ, Act.put]
            refine wpAnyR_one (i := 8) (by kernel_rfl) rfl (fun K hK => ?_)
            try rw [if_pos (show Region.wanted _ _ = true from rfl)]
            go_simp
            refine (implRelJoin_any _ _ _ _ a b ls rs _ rfl _ rfl _ ⟨_, rfl, o46_47_48_49.rd.more (by omega)⟩ ⟨_, rfl, o47_48_49.rd.more (by omega)⟩ (o48_49.rd.more (by omega)) (o49.rd.more (by omega)) (by omega) (by omega) (by omega) (by omega)).mono ?_
            rw [← HR0.out]
            try rw [← HR1.out]
            rintro e V50 ⟨P50, d50, rfl, o50, g50⟩
            have z50 := g50.size
            have b50 := bthen b49 g50
            have o46_47_48_49_50 := o46_47_48_49.below g50 (by omega)
            have o47_48_49_50 := o47_48_49.below g50 (by omega)
            have o48_49_50 := o48_49.below g50 (by omega)
            have o49_50 := o49.below g50 (by omega)
            have X50 := X49.below g50 X49.lt
            have SB50 := HS_w26.out _ b50
            refine hK.out _ _ (fun _ => SB50) ?_
            clear hK K
            try simp only [List.setIfInBounds_toArray, List.set_cons_zero, List.set_cons_succ, Act.put]
            refine wpAnyR_pure (i := 9) (oi := _) ?vuh51 rfl rfl (by kernel_rfl) (by decide) (fun _ _ _ h => h) rfl ?hyuh51 (fun _ => SB50) ?restuh51
            case hyuh51 => (intro W; go_simp; (try with_reducible rfl))
            try simp only [List.setIfInBounds_toArray, List.set_cons_zero, List.set_cons_succ]
            refine wpAnyR_pure (i := 10) (oi := _) ?vuh52 rfl rfl (by kernel_rfl) (by decide) (fun _ _ _ h => h) rfl ?hyuh52 (fun _ => SB50) ?restuh52
            case hyuh52 => (intro W; go_simp; (try with_reducible rfl))
            try simp only [List.setIfInBounds_toArray, List.set_cons_zero, List.set_cons_succ]
            refine wpAnyR_pure (i := 11) (oi := _) ?vuh53 rfl rfl (by kernel_rfl) (by decide) (fun _ _ _ h => h) rfl ?hyuh53 (fun _ => SB50) ?restuh53
            case hyuh53 => (intro W; go_simp; (try with_reducible rfl))
            try simp only [List.setIfInBounds_toArray, List.set_cons_zero, List.set_cons_succ]
            refine wpAnyR_one (i := 13) (by kernel_rfl) rfl (fun K hK => ?_)
            try rw [if_pos (show Region.wanted _ _ = true from rfl)]
            have c0 := X50.cell 0
            have c1 := X50.cell 1
            have f0 := X50.frozen 0
            have f1 := X50.frozen 1
            simp at c0 c1
            go_simp
            refine hK.out _ _ (fun hf => absurd hf (by decide)) ?_
            clear hK K c0 c1 f0 f1
            try simp only [List.setIfInBounds_toArray, List.set_cons_zero, List.set_cons_succ, Act.put]
            refine wpAnyR_one (i := 14) (by kernel_rfl) rfl (fun K hK => ?_)
            go_simp
            refine hK.out _ _ (fun hf => absurd hf (by decide)) ?_
            clear hK K
            refine wpAnyR_done (by kernel_rfl) ?_
            go_wp2_with fail
            go_meet
            exact ⟨P50, d50, W0'.heap.size, V49.heap.size, V50.heap.size, rfl, rfl, BoxRel.made (O := OwnRows) (fun h a b => h.only a b) (r := R0) b50 X50 o50 (by omega) (by omega) (by omega) (by omega)⟩
        case rest =>
          obtain ⟨Q21, f21, gx21, lox21, hix21, rfl, rfl, bx21⟩ := hcut
          clear HS_w26 HB
          generalize wc = w27 at *
          have hb21 := bx21.below
          have gl21 := bx21.glo
          have gt21 := bx21.glt
          have ll21 := bx21.lole
          have hh21 := bx21.hile
          have ap21 := bx21.apart
          have bk21 := bx21.box
          have oo21 := bx21.rows
          have bk21_l := bk21.lt
          clear bx21
          have s_w27 := hb21.size
          have bx0_26 := bx0_25.below hb21 (by first | exact bx0_25.lt | omega)
          clear bx0_25
          have bx0_26_l := bx0_26.lt
          have bx1_26 := bx1_25.below hb21 (by first | exact bx1_25.lt | omega)
          clear bx1_25
          have bx1_26_l := bx1_26.lt
          have w0_26 := w0_25.below hb21 (by omega)
          clear w0_25
          have bw0_26 := bw0_25.below hb21 (by first | exact bw0_25.lt | omega)
          clear bw0_25
          have bw0_26_l := bw0_26.lt
          have bxx0_26 := bxx0_25.below hb21 (by first | exact bxx0_25.lt | omega)
          clear bxx0_25
          have bxx0_26_l := bxx0_26.lt
          have bxx1_26 := bxx1_25.below hb21 (by first | exact bxx1_25.lt | omega)
          clear bxx1_25
          have bxx1_26_l := bxx1_26.lt
          have bg0_26 := bg0_25.below hb21 (by first | exact bg0_25.lt | omega)
          clear bg0_25
          have bg0_26_l := bg0_26.lt
          have d0_26 := d0_25.below hb21 (by omega)
          clear d0_25
          have B_w27 := bthen B_w26 hb21
          have q227 : w27.cell? ⟨w.heap.size, 0, none⟩ = some (.int .i64 a.1) := bx0_26.cell 0
          have q228 : w27.cell? ⟨w.heap.size, 1, none⟩ = some (.slice A0 a.2.length c0) := bx0_26.cell 1
          have q229 : w27.cell? ⟨w.heap.size + 1, 0, none⟩ = some (.int .i64 b.1) := bx1_26.cell 0
          have q230 : w27.cell? ⟨w.heap.size + 1, 1, none⟩ = some (.slice A1 b.2.length c1) := bx1_26.cell 1
          have q231 : w27.cell? ⟨gx1, 0, none⟩ = some (.int .i64 R0.1) := bw0_26.cell 0
          have q232 : w27.cell? ⟨gx1, 1, none⟩ = some (.slice Q1 R0.2.length f1) := bw0_26.cell 1
          have q233 : w27.cell? ⟨w5.heap.size, 0, none⟩ = some (.int .i64 a.1) := bxx0_26.cell 0
          have q234 : w27.cell? ⟨w5.heap.size, 1, none⟩ = some (.slice P2 a.2.length d2) := bxx0_26.cell 1
          have q235 : w27.cell? ⟨w7.heap.size, 0, none⟩ = some (.int .i64 b.1) := bxx1_26.cell 0
          have q236 : w27.cell? ⟨w7.heap.size, 1, none⟩ = some (.slice P3 b.2.length d3) := bxx1_26.cell 1
          have q237 : w27.cell? ⟨w11.heap.size, 0, none⟩ = some (.int .i64 R0.1) := bg0_26.cell 0
          have q238 : w27.cell? ⟨w11.heap.size, 1, none⟩ = some (.slice Q6_0 R0.2.length f6_0) := bg0_26.cell 1
          have q239 : w27.cell? ⟨gx21, 0, none⟩ = some (.int .i64 R0.1) := bk21.cell 0
          have q240 : w27.cell? ⟨gx21, 1, none⟩ = some (.slice Q21 R0.2.length f21) := bk21.cell 1
          go_wp2_with (fail)
          clear q227 q228 q229 q230 q231 q232 q233 q234 q235 q236 q237 q238 q239 q240
          refine (eqRel_any _ _ R0 R0 _ ⟨_, rfl, oo21.rd.more (by omega)⟩ ⟨_, rfl, w0_26.rd.more (by omega)⟩ rfl (by omega)).mono ?_
          rintro e w28 ⟨rfl, hb22⟩
          rw [show decide (R0 = R0) = true by simp]
          have s_w28 := hb22.size
          have bx0_27 := bx0_26.below hb22 (by first | exact bx0_26.lt | omega)
          clear bx0_26
          have bx0_27_l := bx0_27.lt
          have bx1_27 := bx1_26.below hb22 (by first | exact bx1_26.lt | omega)
          clear bx1_26
          have bx1_27_l := bx1_27.lt
          have w0_27 := w0_26.below hb22 (by omega)
          clear w0_26
          have bw0_27 := bw0_26.below hb22 (by first | exact bw0_26.lt | omega)
          clear bw0_26
          have bw0_27_l := bw0_27.lt
          have bxx0_27 := bxx0_26.below hb22 (by first | exact bxx0_26.lt | omega)
          clear bxx0_26
          have bxx0_27_l := bxx0_27.lt
          have bxx1_27 := bxx1_26.below hb22 (by first | exact bxx1_26.lt | omega)
          clear bxx1_26
          have bxx1_27_l := bxx1_27.lt
          have bg0_27 := bg0_26.below hb22 (by first | exact bg0_26.lt | omega)
          clear bg0_26
          have bg0_27_l := bg0_27.lt
          have d0_27 := d0_26.below hb22 (by omega)
          clear d0_26
          have h0_27 := oo21.below hb22 (by omega)
          clear oo21
          have bh0_27 := bk21.below hb22 (by first | exact bk21.lt | omega)
          clear bk21
          have bh0_27_l := bh0_27.lt
          have B_w28 := bthen B_w27 hb22
          have q241 : w28.cell? ⟨w.heap.size, 0, none⟩ = some (.int .i64 a.1) := bx0_27.cell 0
          have q242 : w28.cell? ⟨w.heap.size, 1, none⟩ = some (.slice A0 a.2.length c0) := bx0_27.cell 1
          have q243 : w28.cell? ⟨w.heap.size + 1, 0, none⟩ = some (.int .i64 b.1) := bx1_27.cell 0
          have q244 : w28.cell? ⟨w.heap.size + 1, 1, none⟩ = some (.slice A1 b.2.length c1) := bx1_27.cell 1
          have q245 : w28.cell? ⟨gx1, 0, none⟩ = some (.int .i64 R0.1) := bw0_27.cell 0
          have q246 : w28.cell? ⟨gx1, 1, none⟩ = some (.slice Q1 R0.2.length f1) := bw0_27.cell 1
          have q247 : w28.cell? ⟨w5.heap.size, 0, none⟩ = some (.int .i64 a.1) := bxx0_27.cell 0
          have q248 : w28.cell? ⟨w5.heap.size, 1, none⟩ = some (.slice P2 a.2.length d2) := bxx0_27.cell 1
          have q249 : w28.cell? ⟨w7.heap.size, 0, none⟩ = some (.int .i64 b.1) := bxx1_27.cell 0
          have q250 : w28.cell? ⟨w7.heap.size, 1, none⟩ = some (.slice P3 b.2.length d3) := bxx1_27.cell 1
          have q251 : w28.cell? ⟨w11.heap.size, 0, none⟩ = some (.int .i64 R0.1) := bg0_27.cell 0
          have q252 : w28.cell? ⟨w11.heap.size, 1, none⟩ = some (.slice Q6_0 R0.2.length f6_0) := bg0_27.cell 1
          have q253 : w28.cell? ⟨gx21, 0, none⟩ = some (.int .i64 R0.1) := bh0_27.cell 0
          have q254 : w28.cell? ⟨gx21, 1, none⟩ = some (.slice Q21 R0.2.length f21) := bh0_27.cell 1
          go_wp2_with (fail)
          clear q241 q242 q243 q244 q245 q246 q247 q248 q249 q250 q251 q252 q253 q254
          refine (uh_rel d0_27 (by omega)).mono ?_
          rintro e w29 ⟨rfl, hb23⟩
          have s_w29 := hb23.size
          have bx0_28 := bx0_27.below hb23 (by first | exact bx0_27.lt | omega)
          clear bx0_27
          have bx0_28_l := bx0_28.lt
          have bx1_28 := bx1_27.below hb23 (by first | exact bx1_27.lt | omega)
          clear bx1_27
          have bx1_28_l := bx1_28.lt
          have w0_28 := w0_27.below hb23 (by omega)
          clear w0_27
          have bw0_28 := bw0_27.below hb23 (by first | exact bw0_27.lt | omega)
          clear bw0_27
          have bw0_28_l := bw0_28.lt
          have bxx0_28 := bxx0_27.below hb23 (by first | exact bxx0_27.lt | omega)
          clear bxx0_27
          have bxx0_28_l := bxx0_28.lt
          have bxx1_28 := bxx1_27.below hb23 (by first | exact bxx1_27.lt | omega)
          clear bxx1_27
          have bxx1_28_l := bxx1_28.lt
          have bg0_28 := bg0_27.below hb23 (by first | exact bg0_27.lt | omega)
          clear bg0_27
          have bg0_28_l := bg0_28.lt
          have d0_28 := d0_27.below hb23 (by omega)
          clear d0_27
          have h0_28 := h0_27.below hb23 (by omega)
          clear h0_27
          have bh0_28 := bh0_27.below hb23 (by first | exact bh0_27.lt | omega)
          clear bh0_27
          have bh0_28_l := bh0_28.lt
          have B_w29 := bthen B_w28 hb23
          have q255 : w29.cell? ⟨w.heap.size, 0, none⟩ = some (.int .i64 a.1) := bx0_28.cell 0
          have q256 : w29.cell? ⟨w.heap.size, 1, none⟩ = some (.slice A0 a.2.length c0) := bx0_28.cell 1
          have q257 : w29.cell? ⟨w.heap.size + 1, 0, none⟩ = some (.int .i64 b.1) := bx1_28.cell 0
          have q258 : w29.cell? ⟨w.heap.size + 1, 1, none⟩ = some (.slice A1 b.2.length c1) := bx1_28.cell 1
          have q259 : w29.cell? ⟨gx1, 0, none⟩ = some (.int .i64 R0.1) := bw0_28.cell 0
          have q260 : w29.cell? ⟨gx1, 1, none⟩ = some (.slice Q1 R0.2.length f1) := bw0_28.cell 1
          have q261 : w29.cell? ⟨w5.heap.size, 0, none⟩ = some (.int .i64 a.1) := bxx0_28.cell 0
          have q262 : w29.cell? ⟨w5.heap.size, 1, none⟩ = some (.slice P2 a.2.length d2) := bxx0_28.cell 1
          have q263 : w29.cell? ⟨w7.heap.size, 0, none⟩ = some (.int .i64 b.1) := bxx1_28.cell 0
          have q264 : w29.cell? ⟨w7.heap.size, 1, none⟩ = some (.slice P3 b.2.length d3) := bxx1_28.cell 1
          have q265 : w29.cell? ⟨w11.heap.size, 0, none⟩ = some (.int .i64 R0.1) := bg0_28.cell 0
          have q266 : w29.cell? ⟨w11.heap.size, 1, none⟩ = some (.slice Q6_0 R0.2.length f6_0) := bg0_28.cell 1
          have q267 : w29.cell? ⟨gx21, 0, none⟩ = some (.int .i64 R0.1) := bh0_28.cell 0
          have q268 : w29.cell? ⟨gx21, 1, none⟩ = some (.slice Q21 R0.2.length f21) := bh0_28.cell 1
          go_wp2_with (fail)
          clear q255 q256 q257 q258 q259 q260 q261 q262 q263 q264 q265 q266 q267 q268
          go_ret
          exact ⟨rfl, B_w29⟩

theorem lawRelJoin_in (v0 : Value) (v1 : Value) (v2 : Value) (v3 : Value) (a : LRel) (b : LRel) (ls : List Int) (rs : List Int) (w : World) (h0 : InRel w v0 a) (h1 : InRel w v1 b) (h2 : InInts w v2 ls) (h3 : InInts w v3 rs) : Calls Try.prog 9 #[v0, v1, v2, v3] w fun e w' => e = .returned (.bool true) ∧ Below w.heap.size w w' :=
  lawRelJoin_any v0 v1 v2 v3 a b ls rs w h0.1 h1.1 h2.1 h3.1 h0.2.1 h0.2.2 h1.2.1 h1.2.2

end Go.Proofs.Ytchincemlilnoaa
