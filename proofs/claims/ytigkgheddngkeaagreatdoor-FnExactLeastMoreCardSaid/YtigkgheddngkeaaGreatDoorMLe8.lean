/-
  Texts that the claim's last one imports, laid together: part 8 of 13. No condition of its own.
-/
import Derived.StillTailTactics
import Derived.Deep.QuietTactic
import Derived.BigQuiet
import Derived.Deep.RegionHeld3
import Derived.Deep.RegionWith
import Derived.Deep.RegionLaw
import Derived.Laws.BitsAllLaws
import Derived.Deep.DeepCutAuto
import Derived.Test.YtigkgheddngkeaaGreatDoorMLe1
import Derived.Test.YtigkgheddngkeaaGreatDoorMLe2
import Derived.Test.YtigkgheddngkeaaGreatDoorMLe3
import Derived.Test.YtigkgheddngkeaaGreatDoorMLe6
import Derived.Test.YtigkgheddngkeaaGreatDoorMLe7
/-
  The specification's l4Of, l4All: the heads of rules.
-/
namespace Go.Proofs.YtigkgheddngkeaaGreatDoor
open Go.RowKit

/-- The heads for the first k lists. -/
def headsTo (a : LFact) (S : List (List Int)) : Nat → List LFact
  | 0 => []
  | k + 1 => if headOk a (S.getD k []) then factsWith (headsTo a S k) (headOf a (S.getD k [])) else headsTo a S k
theorem headsTo_yes {a : LFact} {S : List (List Int)} {k : Nat} (h : k < S.length) (e : headOk a S[k] = true) : headsTo a S (k + 1) = factsWith (headsTo a S k) (headOf a S[k]) := by
  have hd : S.getD k [] = S[k] := by simp [h]
  show (if _ then _ else _) = _
  rw [hd, if_pos e]
theorem headsTo_no {a : LFact} {S : List (List Int)} {k : Nat} (h : k < S.length) (e : headOk a S[k] = false) : headsTo a S (k + 1) = headsTo a S k := by
  have hd : S.getD k [] = S[k] := by simp [h]
  show (if _ then _ else _) = _
  rw [hd, if_neg (by rw [e]; simp)]
theorem headsTo_bound {a : LFact} {S : List (List Int)} (ha : a.2.length ≤ 2) : ∀ k, (headsTo a S k).length ≤ k ∧ tot (headsTo a S k) ≤ k * 2
  | 0 => ⟨Nat.le_refl _, Nat.le_refl _⟩
  | k + 1 => by
    have ih := headsTo_bound (S := S) ha k
    show List.length (if _ then _ else _) ≤ _ ∧ tot (if _ then _ else _) ≤ _
    split
    · have hb := factsWith_bound (headsTo a S k) (headOf a (S.getD k []))
      have hl := headOf_length a (S.getD k [])
      omega
    · omega
/-- The heads of a rule. -/
def headsL (r : LRule) (gs : List LFact) : List LFact := headsTo r.1 (solsOf gs r.2) (solsOf gs r.2).length

set_option maxHeartbeats 8000000 in
set_option maxRecDepth 100000 in
theorem l4Of_any (v v2 : Value) (r : LRule) (gs : List LFact) (w : World) (h : RdRule w w.heap.size v r) (h2 : RdFacts w w.heap.size v2 gs) (hn : gs.length ≤ 1048576) (ht : tot gs ≤ 1048576) (hl : r.2.length + totL r.2 ≤ 1048576)
    (hc : ∀ f ∈ gs, f.2.all constOk = true) (hnd : gs.Nodup) (hT : ∀ l ∈ r.2, l.2.2.all termOk = true) (ha : r.1.2.length ≤ 2) :
    Calls Tryz.prog 154 #[v, v2] w fun e w' => ∃ A c, e = .returned (.slice A (headsL r gs).length c) ∧ OwnFacts w' w.heap.size w'.heap.size (.slice A (headsL r gs).length c) (headsL r gs) ∧ Below w.heap.size w w' := by
  obtain ⟨a, b, rfl, h, h3⟩ := h
  have H := Lib.hid h
  have H2 := Lib.hid h2
  have H3 := Lib.hid h3
  obtain ⟨A, c, rfl, hcA, _⟩ := h
  obtain ⟨A2, c2, rfl, hc2, _⟩ := h2
  obtain ⟨A3, c3, rfl, hc3, _⟩ := h3
  obtain ⟨S, hS⟩ : ∃ S, S = solsOf gs r.2 := ⟨_, rfl⟩
  have HOKS := Lib.hid (show (∀ s ∈ S, bindOk s = true) ∧ S.length ≤ 65536 from by
    obtain ⟨h1, h2⟩ := bindsTo_ok hc hnd hT (Nat.le_refl _)
    rw [hS]
    have hup := (triedTo_is gs (restTo r.2 r.2.length) (bindsTo gs r.2 r.2.length) _ (Nat.le_refl _)).1
    have hok : ∀ s ∈ solsOf gs r.2, bindOk s = true := fun s hs => h1 s (triedTo_sub (Nat.le_refl _) s hs)
    exact ⟨hok, binds_len hup.nodup hok⟩)
  have CL := Lib.hid (fun W (hW : Below w.heap.size w W) => l3Solutions_any (.slice A2 gs.length c2) (.slice A3 r.2.length c3) gs r.2 S hS W (H2.out.on hW) (H3.out.on hW) hn ht hl hc hnd hT)
  have HR := Lib.hid (show headsL r gs = headsTo r.1 S S.length by rw [hS]; rfl)
  clear hc hnd hT hS
  go_enter Tryz.func154, Tryz.ntmps154
  go_upto_region 1 with fail
  obtain ⟨w1, hw1⟩ : ∃ w1, w1 = w.alloc (Obj.cells #[Value.int IntKind.i64 r.1.1, Value.slice A r.1.2.length c, Value.slice A3 r.2.length c3] 124) := ⟨_, rfl⟩
  have X1 : Blk w1 w.heap.size 124 #[.int .i64 r.1.1, .slice A r.1.2.length c, .slice A3 r.2.length c3] := by rw [hw1]; exact Blk.new _ _ _
  have B1 : Below w.heap.size w w1 := by rw [hw1]; exact below1 _ _
  rw [← hw1]
  clear hw1
  go_upto_region 2 with fail
  obtain ⟨w2, hw2⟩ : ∃ w2, w2 = w1.alloc (Obj.cells #[] 68) := ⟨_, rfl⟩
  have b2 : Below w1.heap.size w1 w2 := by rw [hw2]; exact below1 _ _
  have HO2 := Lib.hid (show OwnFacts w2 w1.heap.size w2.heap.size (.slice (some ⟨w1.heap.size, 0, none⟩) 0 0) [] by rw [hw2]; exact (ColRel.empty w1).own.own)
  rw [← hw2]
  clear hw2
  have X2 := X1.below b2 X1.lt
  have B2 := bthen B1 b2
  have hs12 := b2.size
  have hs01 := B1.size
  have x0 : w2.cell? ⟨w.heap.size, 0, none⟩ = some (.int .i64 r.1.1) := X2.cell 0
  have x1 : w2.cell? ⟨w.heap.size, 1, none⟩ = some (.slice A r.1.2.length c) := X2.cell 1
  have x2 : w2.cell? ⟨w.heap.size, 2, none⟩ = some (.slice A3 r.2.length c3) := X2.cell 2
  clear X1 b2 B1
  go_wp2_with (go_at_call 188; refine (CL.out _ B2).mono ?_; rintro e w3 ⟨A4, c4, rfl, o4, b4⟩; have H4 := Lib.hid (And.intro o4 b4); clear o4 b4)
  obtain ⟨o4, b4⟩ := H4.out
  have HX3 := Lib.hid (X2.below b4 X2.lt)
  have HS3 := Lib.hid o4
  have B3 := bthen B2 b4
  have hs23 := b4.size
  have HO3 := Lib.hid ((HO2.out.below b4 (Nat.le_refl _)).mono (show w.heap.size ≤ w1.heap.size by omega) (show w2.heap.size ≤ w3.heap.size by omega))
  have H1 := Lib.hid (H.out.on B3)
  have hXl : w.heap.size < w3.heap.size := HX3.out.lt
  clear o4 b4 H4 x0 x1 x2 X2 CL HO2
  go_loopw [5, 7] (fun vo vi wr => ∃ (k : Nat) (Ao : Option Addr) (co : Nat), k ≤ S.length ∧ vi = .int .i64 k ∧ vo = .slice Ao (headsTo r.1 S k).length co ∧ OwnFacts wr w.heap.size wr.heap.size (.slice Ao (headsTo r.1 S k).length co) (headsTo r.1 S k) ∧ Below w3.heap.size w3 wr) (fun _ vi _ => S.length - (intOf vi).toNat)
  case atStart => exact ⟨0, _, 0, Nat.zero_le _, rfl, rfl, HO3.out, Below.refl _ _⟩
  case round =>
    obtain ⟨k, Ao, co, hk, rfl, rfl, hout, hbe⟩ := hrel
    by_cases hlt : k < S.length
    · obtain ⟨g, A7, c7, rfl, hgl, r0, o7⟩ := (HS3.out.below hbe (Nat.le_refl _)).get hlt
      have hsz := hbe.size
      have hb4 := Lib.hid (HOKS.out.1 _ (List.getElem_mem hlt))
      have hb5 : S[k].length ≤ 1048576 := by rw [bindOk_len hb4.out]; decide
      obtain ⟨F, hF⟩ : ∃ F, F = headOf r.1 S[k] := ⟨_, rfl⟩
      obtain ⟨ok, hok⟩ : ∃ ok, ok = headOk r.1 S[k] := ⟨_, rfl⟩
      have HM := Lib.hid (show ∀ W, Below wr.heap.size wr W → Calls Tryz.prog 189 #[.agg #[.int .i64 r.1.1, .slice A r.1.2.length c], .slice A7 S[k].length c7] W fun e w' => ∃ A' c', e = .returned (.tuple #[.agg #[.int .i64 F.1, .slice A' F.2.length c'], .bool ok]) ∧ OwnInts w' W.heap.size w'.heap.size (.slice A' F.2.length c') F.2 ∧ Below W.heap.size W w' from fun W hW => by
        rw [hF, hok]
        exact specHeadOf_any _ _ r.1 S[k] W ⟨_, rfl, (H1.out.on hbe).on hW⟩ ((o7.below hW (by omega)).rd.more (by have := hW.size; omega)) (by omega) hb5)
      have HF := Lib.hid (And.intro hF hok)
      have HOUT := Lib.hid hout
      have HBE := Lib.hid hbe
      have q0 : wr.cell? ⟨w.heap.size, 0, none⟩ = some (.int .i64 r.1.1) := (HX3.out.below hbe hXl).cell 0
      have q1 : wr.cell? ⟨w.heap.size, 1, none⟩ = some (.slice A r.1.2.length c) := (HX3.out.below hbe hXl).cell 1
      clear o7 hF hok hout hbe
      obtain ⟨SS, hSS⟩ : ∃ SS : World → Prop, SS = (fun W => Below wr.heap.size wr W ∧ W.cell? ⟨w.heap.size, 0, none⟩ = some (.int .i64 r.1.1) ∧ W.cell? ⟨w.heap.size, 1, none⟩ = some (.slice A r.1.2.length c) ∧ W.cell? ⟨g, k, none⟩ = some (.slice A7 S[k].length c7)) := ⟨_, rfl⟩
      have HB := Lib.hid (show ∀ W, SS W → (Below wr.heap.size wr W ∧ W.cell? ⟨w.heap.size, 0, none⟩ = some (.int .i64 r.1.1) ∧ W.cell? ⟨w.heap.size, 1, none⟩ = some (.slice A r.1.2.length c) ∧ W.cell? ⟨g, k, none⟩ = some (.slice A7 S[k].length c7)) from by rw [hSS]; exact fun W hW => hW)
      have HS := Lib.hid (show ∀ W, Below wr.heap.size wr W → SS W from by
        rw [hSS]
        exact fun W hW => ⟨hW, (hW.cell (World.block_lt_of_cell? _ _ q0)).trans q0, (hW.cell (World.block_lt_of_cell? _ _ q1)).trans q1, (hW.cell (World.block_lt_of_cell? _ _ r0)).trans r0⟩)
      clear hSS
      go_upto_region 6 with fail
      go_cut [8, 9] (fun s8 s9 wx => ∃ (gb : Nat) (A' : Option Addr) (c' : Nat), s8 = .pointer (some ⟨gb, 0, none⟩) ∧ s9 = .bool ok ∧ Blk wx gb 68 #[.int .i64 F.1, .slice A' F.2.length c'] ∧ OwnInts wx wr.heap.size wx.heap.size (.slice A' F.2.length c') F.2 ∧ Below wr.heap.size wr wx)
      case first =>
          have BB : Below wr.heap.size wr wr.drew := (Below.refl _ _).drew
          have SB := HS.out _ BB
          refine wp_region_rel SS 11 13 (by kernel_rfl) rfl ?_
          refine wpAnyR_pure (i := 0) (oi := _) ?v0 rfl rfl (by kernel_rfl) (by decide) (fun _ _ _ h => h) rfl ?hy0 (fun _ => SB) ?rest0
          case hy0 => (intro W; go_simp; (try with_reducible rfl))
          try simp only [List.setIfInBounds_toArray, List.set_cons_zero, List.set_cons_succ]
          refine wpAnyR_take (i := 1) (oi := _) ?v1 rfl rfl (by kernel_rfl) (fun _ _ _ h => h) rfl ?hy1 SB ?rest1
          case hy1 => (intro W hW; obtain ⟨_, e0, e1, e2⟩ := HB.out W hW; go_simp; (try with_reducible rfl))
          try simp only [List.setIfInBounds_toArray, List.set_cons_zero, List.set_cons_succ]
          refine wpAnyR_pure (i := 2) (oi := _) ?v2 rfl rfl (by kernel_rfl) (by decide) (fun _ _ _ h => h) rfl ?hy2 (fun _ => SB) ?rest2
          case hy2 => (intro W; go_simp; (try with_reducible rfl))
          try simp only [List.setIfInBounds_toArray, List.set_cons_zero, List.set_cons_succ]
          refine wpAnyR_pure (i := 3) (oi := _) ?v3 rfl rfl (by kernel_rfl) (by decide) (fun _ _ _ h => h) rfl ?hy3 (fun _ => SB) ?rest3
          case hy3 => (intro W; go_simp; (try with_reducible rfl))
          try simp only [List.setIfInBounds_toArray, List.set_cons_zero, List.set_cons_succ]
          refine wpAnyR_pure (i := 4) (oi := _) ?v4 rfl rfl (by kernel_rfl) (by decide) (fun _ _ _ h => h) rfl ?hy4 (fun _ => SB) ?rest4
          case hy4 => (intro W; go_simp; (try with_reducible rfl))
          try simp only [List.setIfInBounds_toArray, List.set_cons_zero, List.set_cons_succ]
          refine wpAnyR_take (i := 5) (oi := _) ?v5 rfl rfl (by kernel_rfl) (fun _ _ _ h => h) rfl ?hy5 SB ?rest5
          case hy5 => (intro W hW; obtain ⟨_, e0, e1, e2⟩ := HB.out W hW; go_simp; (try with_reducible rfl))
          try simp only [List.setIfInBounds_toArray, List.set_cons_zero, List.set_cons_succ]
          refine wpAnyR_two (i := 6) (j := 10) (by kernel_rfl) rfl rfl (fun K hK => ?_) (fun K hK => ?_)
          · try rw [if_pos (show Region.wanted _ _ = true from rfl)]
            go_simp
            refine (HM.out _ BB).mono ?_
            rintro e W6 ⟨A', c', rfl, ho6, hb6⟩
            have BB6 := bthen BB hb6
            have SB := HS.out _ BB6
            refine hK.out _ _ (fun _ => SB) ?_
            clear hK K
            try simp only [List.setIfInBounds_toArray, List.set_cons_zero, List.set_cons_succ, Act.put]
            refine wpAnyR_pure (i := 7) (oi := _) ?v7 rfl rfl (by kernel_rfl) (by decide) (fun _ _ _ h => h) rfl ?hy7 (fun _ => SB) ?rest7
            case hy7 => (intro W; go_simp; (try with_reducible rfl))
            try simp only [List.setIfInBounds_toArray, List.set_cons_zero, List.set_cons_succ]
            refine wpAnyR_pure (i := 8) (oi := _) ?v8 rfl rfl (by kernel_rfl) (by decide) (fun _ _ _ h => h) rfl ?hy8 (fun _ => SB) ?rest8
            case hy8 => (intro W; go_simp; (try with_reducible rfl))
            try simp only [List.setIfInBounds_toArray, List.set_cons_zero, List.set_cons_succ]
            refine wpAnyR_pure (i := 9) (oi := _) ?v9 rfl rfl (by kernel_rfl) (by decide) (fun _ _ _ h => h) rfl ?hy9 (fun _ => SB) ?rest9
            case hy9 => (intro W; go_simp; (try with_reducible rfl))
            try simp only [List.setIfInBounds_toArray, List.set_cons_zero, List.set_cons_succ]
            refine wpAnyR_one (i := 10) (by kernel_rfl) rfl (fun K hK => ?_)
            try rw [if_pos (show Region.wanted _ _ = true from rfl)]
            go_simp
            obtain ⟨W7, hW7⟩ : ∃ W7, W7 = W6.alloc (Obj.cells #[Value.int IntKind.i64 0, Value.slice none 0 0] 68) := ⟨_, rfl⟩
            rw [← hW7]
            have b67 : Below W6.heap.size W6 W7 := by rw [hW7]; exact below1 _ _
            have BB7 := bthen BB6 b67
            have X7 : Blk W7 W6.heap.size 68 #[.int .i64 0, .slice none 0 0] := by rw [hW7]; exact Blk.new _ _ _
            have H67 := BB6.size
            have HO7 := ho6.below b67 (Nat.le_refl _)
            have SB := HS.out _ BB7
            refine hK.out _ _ (fun _ => SB) ?_
            clear hK K hW7 ho6 hb6
            try simp only [List.setIfInBounds_toArray, List.set_cons_zero, List.set_cons_succ, Act.put]
            refine wpAnyR_one (i := 11) (by kernel_rfl) rfl (fun K hK => ?_)
            try rw [if_pos (show Region.wanted _ _ = true from rfl)]
            have y0 := X7.cell 0
            have y1 := X7.cell 1
            have z0 := X7.frozen 0
            have z1 := X7.frozen 1
            simp at y0 y1
            go_simp
            refine hK.out _ _ (fun hf => absurd hf (by decide)) ?_
            clear hK K y0 y1 z0 z1
            refine wpAnyR_one (i := 12) (by kernel_rfl) rfl (fun K hK => ?_)
            go_simp
            refine hK.out _ _ (fun hf => absurd hf (by decide)) ?_
            clear hK K
            refine wpAnyR_done (by kernel_rfl) ?_
            go_wp2_with (fail)
            go_meet
            have b6x := ((show Below W6.heap.size W6 W7 from b67).setCell (p := ⟨W6.heap.size, 0, none⟩) (Nat.le_refl _) (Value.int .i64 F.1)).setCell (p := ⟨W6.heap.size, 1, none⟩) (Nat.le_refl _) (Value.slice A' F.2.length c')
            exact ⟨W6.heap.size, A', c', rfl, rfl, by simpa using (X7.set_ 0 (.int .i64 F.1)).set_ 1 (.slice A' F.2.length c'), ((HO7.set (p := ⟨W6.heap.size, 0, none⟩) (.inr (Nat.le_refl _)) (Value.int .i64 F.1)).set (p := ⟨W6.heap.size, 1, none⟩) (.inr (Nat.le_refl _)) (Value.slice A' F.2.length c')).mono (Nat.le_refl _) b6x.size, bthen BB6 b6x⟩
          · try rw [if_pos (show Region.wanted _ _ = true from rfl)]
            go_simp
            obtain ⟨W5, hW5⟩ : ∃ W5, W5 = wr.drew.alloc (Obj.cells #[Value.int IntKind.i64 0, Value.slice none 0 0] 68) := ⟨_, rfl⟩
            try rw [show (wr.alloc (Obj.cells #[Value.int IntKind.i64 0, Value.slice none 0 0] 68)).drew = wr.drew.alloc (Obj.cells #[Value.int IntKind.i64 0, Value.slice none 0 0] 68) from rfl]
            rw [← hW5]
            have b45 : Below wr.drew.heap.size wr.drew W5 := by rw [hW5]; exact below1 _ _
            have BB5 := bthen BB b45
            have X5 : Blk W5 wr.heap.size 68 #[.int .i64 0, .slice none 0 0] := by rw [hW5]; exact Blk.new _ _ _
            have SB := HS.out _ BB5
            refine hK.out _ _ (fun _ => SB) ?_
            clear hK K hW5
            try simp only [List.setIfInBounds_toArray, List.set_cons_zero, List.set_cons_succ, Act.put]
            refine wpAnyR_one (i := 6) (by kernel_rfl) rfl (fun K hK => ?_)
            try rw [if_pos (show Region.wanted _ _ = true from rfl)]
            go_simp
            refine (HM.out _ BB5).mono ?_
            rintro e W6 ⟨A', c', rfl, ho6, hb6⟩
            have hs5 := X5.lt
            have X6 := X5.below hb6 hs5
            have BB6 := bthen BB5 hb6
            have hs6 := hb6.size
            have SB := HS.out _ BB6
            refine hK.out _ _ (fun _ => SB) ?_
            clear hK K
            try simp only [List.setIfInBounds_toArray, List.set_cons_zero, List.set_cons_succ, Act.put]
            refine wpAnyR_pure (i := 7) (oi := _) ?v7b rfl rfl (by kernel_rfl) (by decide) (fun _ _ _ h => h) rfl ?hy7b (fun _ => SB) ?rest7b
            case hy7b => (intro W; go_simp; (try with_reducible rfl))
            try simp only [List.setIfInBounds_toArray, List.set_cons_zero, List.set_cons_succ]
            refine wpAnyR_pure (i := 8) (oi := _) ?v8b rfl rfl (by kernel_rfl) (by decide) (fun _ _ _ h => h) rfl ?hy8b (fun _ => SB) ?rest8b
            case hy8b => (intro W; go_simp; (try with_reducible rfl))
            try simp only [List.setIfInBounds_toArray, List.set_cons_zero, List.set_cons_succ]
            refine wpAnyR_pure (i := 9) (oi := _) ?v9b rfl rfl (by kernel_rfl) (by decide) (fun _ _ _ h => h) rfl ?hy9b (fun _ => SB) ?rest9b
            case hy9b => (intro W; go_simp; (try with_reducible rfl))
            try simp only [List.setIfInBounds_toArray, List.set_cons_zero, List.set_cons_succ]
            refine wpAnyR_one (i := 11) (by kernel_rfl) rfl (fun K hK => ?_)
            try rw [if_pos (show Region.wanted _ _ = true from rfl)]
            have y0 := X6.cell 0
            have y1 := X6.cell 1
            have z0 := X6.frozen 0
            have z1 := X6.frozen 1
            simp at y0 y1
            go_simp
            refine hK.out _ _ (fun hf => absurd hf (by decide)) ?_
            clear hK K y0 y1 z0 z1
            refine wpAnyR_one (i := 12) (by kernel_rfl) rfl (fun K hK => ?_)
            go_simp
            refine hK.out _ _ (fun hf => absurd hf (by decide)) ?_
            clear hK K
            refine wpAnyR_done (by kernel_rfl) ?_
            go_wp2_with (fail)
            go_meet
            have b6x := ((Below.refl wr.heap.size W6).setCell (p := ⟨wr.heap.size, 0, none⟩) (Nat.le_refl _) (Value.int .i64 F.1)).setCell (p := ⟨wr.heap.size, 1, none⟩) (Nat.le_refl _) (Value.slice A' F.2.length c')
            exact ⟨wr.heap.size, A', c', rfl, rfl, by simpa using (X6.set_ 0 (.int .i64 F.1)).set_ 1 (.slice A' F.2.length c'), ((ho6.set (p := ⟨wr.heap.size, 0, none⟩) (.inl hs5) (Value.int .i64 F.1)).set (p := ⟨wr.heap.size, 1, none⟩) (.inl hs5) (Value.slice A' F.2.length c')).mono (Nat.le_of_lt hs5) b6x.size, BB6.trans b6x⟩
      case rest =>
        obtain ⟨gb, A', c', rfl, rfl, X, ox, bx⟩ := hcut
        have HOX := Lib.hid ((HOUT.out.below bx (Nat.le_refl _)).mono (Nat.le_refl _) bx.size)
        have HBX := Lib.hid (bthen HBE.out bx)
        obtain ⟨hF, hok⟩ := HF.out
        have hbd := headsTo_bound (S := S) ha k
        have hS5 := HOKS.out.2
        have hFl : F.2.length ≤ 2 := by rw [hF]; exact Nat.le_trans (headOf_length _ _) ha
        have c0 : World.cell? _ ⟨gb, 0, none⟩ = some (.int .i64 F.1) := X.cell 0
        have c1 : World.cell? _ ⟨gb, 1, none⟩ = some (.slice A' F.2.length c') := X.cell 1
        have HCW := Lib.hid (specFactsWith_any (.slice Ao (headsTo r.1 S k).length co) (.agg #[.int .i64 F.1, .slice A' F.2.length c']) (headsTo r.1 S k) F _ HOX.out.rd ⟨_, rfl, ox.rd⟩ (by omega) (by omega) (by omega))
        have HXB := Lib.hid (And.intro hF hok)
        clear HF hF hok HS HB HM ox X
        by_cases hb : ok = true
        · have HE := Lib.hid (show headsTo r.1 S (k + 1) = factsWith (headsTo r.1 S k) F from by rw [headsTo_yes hlt (by rw [← HXB.out.2]; exact hb), HXB.out.1])
          subst hb
          go_wp2_with (first
            | (go_at_call 144; refine HCW.out.mono ?_; rintro e w5 ⟨A8, c8, rfl, o8, b8⟩; have H8 := Lib.hid (And.intro o8 b8); clear o8 b8))
          go_roundw
          case rel => exact ⟨k + 1, A8, c8, by omega, by go_num, by rw [HE.out], by rw [HE.out]; exact H8.out.1.mono (by have := HBX.out.size; omega) (Nat.le_refl _), bthen HBX.out H8.out.2⟩
          case measure => simp [intOf]; omega
        · have hb : ok = false := by simpa using hb
          have HE := Lib.hid (show headsTo r.1 S (k + 1) = headsTo r.1 S k from headsTo_no hlt (by rw [← HXB.out.2]; exact hb))
          subst hb
          go_wp2_with (fail)
          go_roundw
          case rel => exact ⟨k + 1, Ao, co, by omega, by go_num, by rw [HE.out], by rw [HE.out]; exact HOX.out, HBX.out⟩
          case measure => simp [intOf]; omega
    · obtain rfl : k = S.length := by omega
      go_wp2_with (fail)
      go_ret
      refine ⟨Ao, co, by rw [HR.out]; rfl, ?_, bthen B3 hbe⟩
      rw [HR.out]
      exact hout

end Go.Proofs.YtigkgheddngkeaaGreatDoor
/-
  The walks of FactsOf: the program's and the specification's.
-/
namespace Go.Proofs.YtigkgheddngkeaaGreatDoor
open Go.RowKit

def factsOf (fs : List LFact) (p : Int) : List LFact := fs.filter fun f => f.1 == p
theorem factsOf_yes {fs : List LFact} {p : Int} {k : Nat} (h : k < fs.length) (e : fs[k].1 = p) : factsOf (fs.take (k + 1)) p = factsOf (fs.take k) p ++ [fs[k]] := by
  unfold factsOf
  rw [take_snoc fs k h, List.filter_append]
  congr 1
  simp [e]
theorem factsOf_no {fs : List LFact} {p : Int} {k : Nat} (h : k < fs.length) (e : fs[k].1 ≠ p) : factsOf (fs.take (k + 1)) p = factsOf (fs.take k) p := by
  unfold factsOf
  rw [take_snoc fs k h, List.filter_append, List.filter_cons_of_neg (by simpa using e)]
  simp
theorem factsOf_length (fs : List LFact) (p : Int) (k : Nat) : (factsOf (fs.take k) p).length ≤ k := by
  have h1 := List.length_filter_le (fun f : LFact => f.1 == p) (fs.take k)
  have h2 : (fs.take k).length ≤ k := by rw [List.length_take]; omega
  unfold factsOf
  omega

end Go.Proofs.YtigkgheddngkeaaGreatDoor
/-
  What FactsWith and FactsOf leave, plain mathematics.
-/
namespace Go.Proofs.YtigkgheddngkeaaGreatDoor
open Go.RowKit

theorem withStep_mem (f : LFact) : ∀ (l : List LFact) (out : List LFact) (b : Bool), (b = true → f ∈ out) → ∀ x, x ∈ endW f (l.foldl (withStep f) (out, b)) ↔ x ∈ out ∨ x ∈ l ∨ x = f
  | [], out, b, hb, x => by
    cases b
    · simp [endW]
    · have := hb rfl
      simp only [List.foldl_nil, endW, if_true, List.not_mem_nil, false_or]
      constructor
      · exact .inl
      · rintro (h | rfl) <;> assumption
  | g :: l, out, b, hb, x => by
    rw [List.foldl_cons]
    have e : withStep f (out, b) g = ((withStep f (out, b) g).1, (withStep f (out, b) g).2) := rfl
    rw [e, withStep_mem f l _ _ ?_ x]
    · unfold withStep
      cases b
      · rcases Int.lt_trichotomy (factOrder f g) 0 with h1 | h1 | h1
        · simp [show factOrder f g ≤ 0 by omega, show factOrder f g ≠ 0 by omega]
          grind
        · have e2 := order_eq h1
          subst e2
          simp [order_refl]
          grind
        · simp [show ¬ factOrder f g ≤ 0 by omega, show factOrder f g ≠ 0 by omega]
          grind
      · have hf := hb rfl
        by_cases h1 : factOrder f g = 0
        · have e2 := order_eq h1
          subst e2
          simp [order_refl]
          grind
        · simp [h1]
          grind
    · intro hb2
      unfold withStep at hb2 ⊢
      cases b
      · have h1 : factOrder f g ≤ 0 := by simpa using hb2
        simp [h1]
      · exact List.mem_append_left _ (by simpa using hb rfl)
theorem factsWith_mem (fs : List LFact) (f x : LFact) : x ∈ factsWith fs f ↔ x ∈ fs ∨ x = f := by
  have := withStep_mem f fs [] false (by simp) x
  unfold endW at this
  unfold factsWith withTo
  rw [List.take_length]
  simpa using this
theorem has_mem (ys : List LFact) (f : LFact) : factsHas ys f = decide (f ∈ ys) := by
  unfold factsHas
  by_cases h : f ∈ ys
  · rw [decide_eq_true h]
    exact List.any_eq_true.2 ⟨f, h, by rw [order_refl]; rfl⟩
  · rw [decide_eq_false h]
    refine List.any_eq_false.2 fun g hg e => h ?_
    have e0 : factOrder g f = 0 := by simpa using e
    rw [← order_eq e0]
    exact hg
theorem with_has_new (fs : List LFact) (f : LFact) : factsHas (factsWith fs f) f = true := by
  rw [has_mem]
  exact decide_eq_true ((factsWith_mem fs f f).2 (.inr rfl))
theorem with_has_old (fs : List LFact) (f : LFact) {k : Nat} (h : k < fs.length) : factsHas (factsWith fs f) fs[k] = true := by
  rw [has_mem]
  exact decide_eq_true ((factsWith_mem fs f _).2 (.inl (List.getElem_mem h)))
theorem factsOf_few (fs : List LFact) (p : Int) : (factsOf fs p).length ≤ fs.length ∧ tot (factsOf fs p) ≤ tot fs := by
  refine ⟨List.length_filter_le _ _, ?_⟩
  unfold factsOf
  induction fs with
  | nil => simp
  | cons g fs ih =>
    rw [List.filter_cons, tot_cons]
    split
    · rw [tot_cons]; omega
    · omega

end Go.Proofs.YtigkgheddngkeaaGreatDoor
/-
  The walks of isTerm, areTerms, l2Terms, atomFits, and of both AtomOk.
-/
namespace Go.Proofs.YtigkgheddngkeaaGreatDoor
open Go.RowKit

def atomFits (ar : List Int) (f : LFact) : Bool := decide (0 ≤ f.1 ∧ f.1 < ar.length ∧ (f.2.length : Int) = ar.getD f.1.toNat 0) && f.2.all termOk
def atomOk (ar : List Int) (f : LFact) : Bool := arityOk ar && atomFits ar f

set_option maxHeartbeats 1000000 in
set_option maxRecDepth 100000 in
theorem atomFits_any (v v2 : Value) (ar : List Int) (f : LFact) (w : World) (h : RdInts w w.heap.size v ar) (h2 : RdFact w w.heap.size v2 f) (hn : f.2.length ≤ 1048576) :
    Calls Tryz.prog 132 #[v, v2] w fun e w' => e = .returned (.bool (atomFits ar f)) ∧ Below w.heap.size w w' := by
  obtain ⟨pp, xs⟩ := f
  obtain ⟨A, c, rfl, hc, h⟩ := h
  obtain ⟨a, rfl, h2⟩ := h2
  have HT := Lib.hid (fun n (O : Obj) => quiet_left (areTerms_any a xs w.heap.size ((w.alloc O).drewN n) ((h2.below (below1 w O) (Nat.le_refl _)).below (bdrewN (Below.refl _ _) _) (Nat.le_refl _)) hn))
  obtain ⟨A2, c2, rfl, hc2, h2⟩ := h2
  by_cases h0 : pp < 0
  · have hd : decide (0 ≤ pp) = false := by simpa using h0
    have HE := Lib.hid (show atomFits ar (pp, xs) = false by simp [atomFits]; omega)
    go_enter Tryz.func132, Tryz.ntmps132
    go_wp2_with (fail)
    go_quiet (fail)
    go_wp2_with (fail)
    go_ret
    exact ⟨ret_bool HE.out.symm, bdrewN (below1 _ _) _⟩
  · have hd : decide (0 ≤ pp) = true := by simpa using h0
    obtain ⟨p, rfl⟩ := Int.eq_ofNat_of_zero_le (Int.not_lt.1 h0)
    by_cases h1 : (ar.length : Int) ≤ p
    · have hd1 : decide (p < ar.length) = false := by simp; omega
      have HE := Lib.hid (show atomFits ar ((p : Int), xs) = false by simp [atomFits]; omega)
      go_enter Tryz.func132, Tryz.ntmps132
      go_wp2_with (fail)
      go_quiet (fail)
      go_wp2_with (fail)
      go_ret
      exact ⟨ret_bool HE.out.symm, bdrewN (below1 _ _) _⟩
    · have hlt : p < ar.length := by omega
      have hltI : (p : Int) < (ar.length : Int) := by omega
      have hd1 : decide ((p : Int) < (ar.length : Int)) = true := by simpa using hltI
      obtain ⟨b, o, rfl, hbB, hx⟩ := h (by omega)
      have hck : ∀ O, (w.alloc O).cell? ⟨b, o + p, none⟩ = some (.int .i64 ar[p]) := fun O => (World.cell?_alloc_lt w O ⟨b, o + p, none⟩ hbB).trans (hx p hlt)
      by_cases h3 : (xs.length : Int) = ar[p]
      · have hd3 : ((xs.length : Int) == ar[p]) = true := by simp [h3]
        have H3 := Lib.hid (show atomFits ar ((p : Int), xs) = xs.all termOk by simp [atomFits, hlt, h3])
        clear h3 hx h
        go_enter Tryz.func132, Tryz.ntmps132
        go_wp2_with (fail)
        go_quiet ((go_at_call 173; exact HT.out _ _))
        go_wp2_with (fail)
        go_ret
        exact ⟨ret_bool H3.out.symm, bdrewN (below1 _ _) _⟩
      · have hd3 : ((xs.length : Int) == ar[p]) = false := by simp [h3]
        have HE := Lib.hid (show atomFits ar ((p : Int), xs) = false by simp [atomFits, hlt, h3])
        clear h3 hx h
        go_enter Tryz.func132, Tryz.ntmps132
        go_wp2_with (fail)
        go_quiet (fail)
        go_wp2_with (fail)
        go_ret
        exact ⟨ret_bool HE.out.symm, bdrewN (below1 _ _) _⟩

set_option maxHeartbeats 400000 in
theorem implAtomOk_any (v v2 : Value) (ar : List Int) (f : LFact) (w : World) (h : RdInts w w.heap.size v ar) (h2 : RdFact w w.heap.size v2 f) (hr : ar.length ≤ 1048576) (hn : f.2.length ≤ 1048576) :
    Calls Tryz.prog 81 #[v, v2] w fun e w' => e = .returned (.bool (atomOk ar f)) ∧ Below w.heap.size w w' := by
  have H := Lib.hid h
  have H2 := Lib.hid h2
  obtain ⟨A, c, rfl, hc, _⟩ := h
  obtain ⟨a, rfl, A2, c2, rfl, hc2, _⟩ := h2
  go_enter Tryz.func81, Tryz.ntmps81
  go_wp2_with (fail)
  refine (arityOk_any _ ar _ (H.out.on (below1 _ _)) (by omega)).mono ?_
  rintro e w4 ⟨rfl, hb4⟩
  have hB4 := bthen (below1 _ _) hb4
  have hblk : Blk w4 w.heap.size 58 #[.int .i64 f.1, .slice A2 f.2.length c2] := (Blk.new w _ _).below hb4 (by simp)
  have hc0 : w4.cell? ⟨w.heap.size, 0, none⟩ = some (.int .i64 f.1) := hblk.cell 0
  have hc1 : w4.cell? ⟨w.heap.size, 1, none⟩ = some (.slice A2 f.2.length c2) := hblk.cell 1
  by_cases ha : arityOk ar = true
  · rw [ha]
    have HA := Lib.hid ha
    clear ha
    go_wp2_with (fail)
    refine (atomFits_any _ _ ar f _ (H.out.on hB4) (H2.out.on hB4) hn).mono ?_
    rintro e w5 ⟨rfl, hb5⟩
    go_wp2_with (fail)
    go_ret
    exact ⟨ret_bool (by unfold atomOk; rw [HA.out]; simp), bthen hB4 hb5⟩
  · rw [show arityOk ar = false by simpa using ha]
    have HA := Lib.hid (show arityOk ar = false by simpa using ha)
    clear ha
    go_wp2_with (fail)
    go_ret
    exact ⟨ret_bool (by unfold atomOk; rw [HA.out]; simp), hB4⟩

set_option maxHeartbeats 1000000 in
set_option maxRecDepth 100000 in
theorem specAtomOk_any (v v2 : Value) (ar : List Int) (f : LFact) (w : World) (h : RdInts w w.heap.size v ar) (h2 : RdFact w w.heap.size v2 f) (hr : ar.length ≤ 1048576) (hn : f.2.length ≤ 1048576) :
    Calls Tryz.prog 79 #[v, v2] w fun e w' => e = .returned (.bool (atomOk ar f)) ∧ Below w.heap.size w w' := by
  have H := Lib.hid h
  obtain ⟨pp, xs⟩ := f
  obtain ⟨A, c, rfl, hc, h⟩ := h
  obtain ⟨a, rfl, h2⟩ := h2
  have HT := Lib.hid (fun n (O : Obj) => quiet_left (l2Terms_any a xs w.heap.size ((w.alloc O).drewN n) ((h2.below (below1 w O) (Nat.le_refl _)).below (bdrewN (Below.refl _ _) _) (Nat.le_refl _)) hn))
  obtain ⟨A2, c2, rfl, hc2, h2⟩ := h2
  by_cases ha : arityOk ar = true
  · have CA : ∀ W, Below w.heap.size w W → Calls Tryz.prog 123 #[.slice A ar.length c] W fun e w' => e = .returned (.bool true) ∧ w' = W := fun W hW =>
      (specArityOk_any _ ar W (H.out.on hW) (by omega)).mono fun e w' ⟨he, hw⟩ => ⟨by rw [he, ha], hw.symm⟩
    have HCA := Lib.hid CA
    have HA := Lib.hid ha
    clear CA ha
    by_cases hp : 0 ≤ pp ∧ pp ≤ (ar.length : Int) - 1
    · have HCL := Lib.hid (l1In_yes hp)
      obtain ⟨p, rfl⟩ := Int.eq_ofNat_of_zero_le hp.1
      have hlt : p < ar.length := by omega
      have hltI : (p : Int) < (ar.length : Int) := by omega
      obtain ⟨b, o, rfl, hbB, hx⟩ := h (by omega)
      have hck : ∀ O, (w.alloc O).cell? ⟨b, o + p, none⟩ = some (.int .i64 ar[p]) := fun O => (World.cell?_alloc_lt w O ⟨b, o + p, none⟩ hbB).trans (hx p hlt)
      clear hp
      by_cases h3 : (xs.length : Int) = ar[p]
      · have hd3 : ((xs.length : Int) == ar[p]) = true := by simp [h3]
        have H3 := Lib.hid (show atomOk ar ((p : Int), xs) = xs.all termOk by simp [atomOk, HA.out, atomFits, hlt, h3])
        clear h3 hx h
        go_enter Tryz.func79, Tryz.ntmps79
        go_wp2_with (fail)
        go_quiet (first | (go_at_call 123; exact Calls.quiet_of_same (HCA.out _ (bdrewN (below1 _ _) _))) | (go_at_call 126; exact quiet_left (HCL.out _)) | (go_at_call 127; exact HT.out _ _))
        go_wp2_with (fail)
        go_ret
        exact ⟨ret_bool H3.out.symm, bdrewN (below1 _ _) _⟩
      · have hd3 : ((xs.length : Int) == ar[p]) = false := by simp [h3]
        have HE := Lib.hid (show atomOk ar ((p : Int), xs) = false by simp [atomOk, atomFits, hlt, h3])
        clear h3 hx h
        go_enter Tryz.func79, Tryz.ntmps79
        go_wp2_with (fail)
        go_quiet (first | (go_at_call 123; exact Calls.quiet_of_same (HCA.out _ (bdrewN (below1 _ _) _))) | (go_at_call 126; exact quiet_left (HCL.out _)))
        go_wp2_with (fail)
        go_ret
        exact ⟨ret_bool HE.out.symm, bdrewN (below1 _ _) _⟩
    · have HCL := Lib.hid (l1In_no hp)
      have HE := Lib.hid (show atomOk ar (pp, xs) = false by simp [atomOk, atomFits]; omega)
      clear hp
      go_enter Tryz.func79, Tryz.ntmps79
      go_wp2_with (fail)
      go_quiet (first | (go_at_call 123; exact Calls.quiet_of_same (HCA.out _ (bdrewN (below1 _ _) _))) | (go_at_call 126; exact quiet_left (HCL.out _)))
      go_wp2_with (fail)
      go_ret
      exact ⟨ret_bool HE.out.symm, bdrewN (below1 _ _) _⟩
  · have CA : ∀ W, Below w.heap.size w W → Calls Tryz.prog 123 #[.slice A ar.length c] W fun e w' => e = .returned (.bool false) ∧ w' = W := fun W hW =>
      (specArityOk_any _ ar W (H.out.on hW) (by omega)).mono fun e w' ⟨he, hw⟩ => ⟨by rw [he, show arityOk ar = false by simpa using ha], hw.symm⟩
    have HCA := Lib.hid CA
    have HE := Lib.hid (show atomOk ar (pp, xs) = false by simp [atomOk, ha])
    clear CA ha
    go_enter Tryz.func79, Tryz.ntmps79
    go_wp2_with (fail)
    go_quiet (first | (go_at_call 123; exact Calls.quiet_of_same (HCA.out _ (bdrewN (below1 _ _) _))))
    go_wp2_with (fail)
    go_ret
    exact ⟨ret_bool HE.out.symm, bdrewN (below1 _ _) _⟩

end Go.Proofs.YtigkgheddngkeaaGreatDoor
/-
  The walks of litFits and of both LitOk.
-/
namespace Go.Proofs.YtigkgheddngkeaaGreatDoor
open Go.RowKit

def litFits (ar : List Int) (l : LLit) : Bool :=
  if l.1 = 0 ∨ l.1 = 1 then atomFits ar l.2 else if l.1 = 2 ∨ l.1 = 3 then (decide (l.2.1 = 0) && decide (l.2.2.length = 2) && l.2.2.all termOk) else false
def litOk (ar : List Int) (l : LLit) : Bool := arityOk ar && litFits ar l

set_option maxHeartbeats 1000000 in
set_option maxRecDepth 100000 in
theorem litFits_any (v v2 : Value) (ar : List Int) (l : LLit) (w : World) (h : RdInts w w.heap.size v ar) (h2 : RdLit w w.heap.size v2 l) (hn : l.2.2.length ≤ 1048576) :
    Calls Tryz.prog 209 #[v, v2] w fun e w' => e = .returned (.bool (litFits ar l)) ∧ Below w.heap.size w w' := by
  have H := Lib.hid h
  obtain ⟨kd, pp, xs⟩ := l
  obtain ⟨A, c, rfl, hc, _⟩ := h
  obtain ⟨a, rfl, h2⟩ := h2
  have H2 := Lib.hid (h2.on (below1 w (.cells #[.int .i64 kd, .int .i64 pp, a] 172)))
  obtain ⟨A2, c2, rfl, hc2, _⟩ := h2
  by_cases ka : kd = 0 ∨ kd = 1
  · have HE := Lib.hid (show litFits ar (kd, pp, xs) = atomFits ar (pp, xs) by simp [litFits, ka])
    rcases ka with rfl | rfl
    all_goals
      go_enter Tryz.func209, Tryz.ntmps209
      go_wp2_with (go_at_call 132; refine (atomFits_any _ _ ar (pp, xs) _ (H.out.on (below1 _ _)) ⟨_, rfl, H2.out⟩ hn).mono ?_; rintro e w5 ⟨rfl, hb5⟩)
      go_ret
      exact ⟨ret_bool HE.out.symm, bthen (below1 _ _) hb5⟩
  · have k0 : (kd == 0) = false := by simp; omega
    have k1 : (kd == 1) = false := by simp; omega
    by_cases kb : kd = 2 ∨ kd = 3
    · have HE := Lib.hid (show litFits ar (kd, pp, xs) = (decide (pp = 0) && decide (xs.length = 2) && xs.all termOk) by simp [litFits, ka, kb])
      clear ka k0 k1
      have CT := Lib.hid (areTerms_any _ xs _ _ H2.out hn)
      by_cases hp : pp = 0
      · subst hp
        by_cases hx : xs.length = 2
        · have hx2 : ((xs.length : Int) == 2) = true := by simp; omega
          have HE2 := Lib.hid (show litFits ar (kd, 0, xs) = xs.all termOk by rw [HE.out]; simp [hx])
          clear hx
          rcases kb with rfl | rfl
          all_goals
            go_enter Tryz.func209, Tryz.ntmps209
            go_wp2_with (go_at_call 173; refine CT.out.mono ?_; rintro e w5 ⟨rfl, rfl⟩)
            go_ret
            exact ⟨ret_bool HE2.out.symm, below1 _ _⟩
        · have hx2 : ((xs.length : Int) == 2) = false := by simp; omega
          have HE2 := Lib.hid (show litFits ar (kd, 0, xs) = false by rw [HE.out]; simp [hx])
          clear hx
          rcases kb with rfl | rfl
          all_goals
            go_enter Tryz.func209, Tryz.ntmps209
            go_wp2_with (fail)
            go_ret
            exact ⟨ret_bool HE2.out.symm, below1 _ _⟩
      · have hp2 : (pp == 0) = false := by simpa using hp
        have HE2 := Lib.hid (show litFits ar (kd, pp, xs) = false by rw [HE.out]; simp [hp])
        clear hp
        rcases kb with rfl | rfl
        all_goals
          go_enter Tryz.func209, Tryz.ntmps209
          go_wp2_with (fail)
          go_ret
          exact ⟨ret_bool HE2.out.symm, below1 _ _⟩
    · have k2 : (kd == 2) = false := by simp; omega
      have k3 : (kd == 3) = false := by simp; omega
      have HE := Lib.hid (show litFits ar (kd, pp, xs) = false by simp [litFits, ka, kb])
      clear ka kb
      go_enter Tryz.func209, Tryz.ntmps209
      go_wp2_with (fail)
      go_ret
      exact ⟨ret_bool HE.out.symm, below1 _ _⟩

set_option maxHeartbeats 1000000 in
set_option maxRecDepth 100000 in
theorem specLitOk_any (v v2 : Value) (ar : List Int) (l : LLit) (w : World) (h : RdInts w w.heap.size v ar) (h2 : RdLit w w.heap.size v2 l) (hr : ar.length ≤ 1048576) (hn : l.2.2.length ≤ 1048576) :
    Calls Tryz.prog 193 #[v, v2] w fun e w' => e = .returned (.bool (litOk ar l)) ∧ Below w.heap.size w w' := by
  have H := Lib.hid h
  obtain ⟨kd, pp, xs⟩ := l
  obtain ⟨A, c, rfl, hc, _⟩ := h
  obtain ⟨a, rfl, h2⟩ := h2
  have H2 := Lib.hid (h2.on (below1 w (.cells #[.int .i64 kd, .int .i64 pp, a] 172)))
  obtain ⟨A2, c2, rfl, hc2, _⟩ := h2
  by_cases ka : kd = 0 ∨ kd = 1
  · have HE := Lib.hid (show litOk ar (kd, pp, xs) = atomOk ar (pp, xs) by simp [litOk, atomOk, litFits, ka])
    rcases ka with rfl | rfl
    all_goals
      go_enter Tryz.func193, Tryz.ntmps193
      go_wp2_with (go_at_call 79; refine (specAtomOk_any _ _ ar (pp, xs) _ (H.out.on (below1 _ _)) ⟨_, rfl, H2.out⟩ hr hn).mono ?_; rintro e w5 ⟨rfl, hb5⟩)
      go_ret
      exact ⟨ret_bool HE.out.symm, bthen (below1 _ _) hb5⟩
  · have k0 : (kd == 0) = false := by simp; omega
    have k1 : (kd == 1) = false := by simp; omega
    by_cases ha : arityOk ar = true
    · have CA := Lib.hid ((specArityOk_any _ ar _ (H.out.on (below1 w (.cells #[.int .i64 kd, .int .i64 pp, .slice A2 xs.length c2] 172))) (by omega)).mono fun e w' (hh : e = .returned (.bool (arityOk ar)) ∧ _ = w') => (⟨by rw [hh.1, ha], hh.2⟩ : e = .returned (.bool true) ∧ _ = w'))
      have HA := Lib.hid ha
      clear ha
      by_cases kb : kd = 2 ∨ kd = 3
      · have HE := Lib.hid (show litOk ar (kd, pp, xs) = (decide (pp = 0) && decide (xs.length = 2) && xs.all termOk) by simp [litOk, HA.out, litFits, ka, kb])
        clear ka k0 k1
        have CT := Lib.hid (l2Terms_any _ xs _ _ H2.out hn)
        by_cases hp : pp = 0
        · subst hp
          by_cases hx : xs.length = 2
          · have hx2 : ((xs.length : Int) == 2) = true := by simp; omega
            have HE2 := Lib.hid (show litOk ar (kd, 0, xs) = xs.all termOk by rw [HE.out]; simp [hx])
            clear hx
            rcases kb with rfl | rfl
            all_goals
              go_enter Tryz.func193, Tryz.ntmps193
              go_wp2_with (first | (go_at_call 123; refine CA.out.mono ?_; rintro e w5 ⟨rfl, rfl⟩) | (go_at_call 127; refine CT.out.mono ?_; rintro e w5 ⟨rfl, rfl⟩))
              go_ret
              exact ⟨ret_bool HE2.out.symm, below1 _ _⟩
          · have hx2 : ((xs.length : Int) == 2) = false := by simp; omega
            have HE2 := Lib.hid (show litOk ar (kd, 0, xs) = false by rw [HE.out]; simp [hx])
            clear hx
            rcases kb with rfl | rfl
            all_goals
              go_enter Tryz.func193, Tryz.ntmps193
              go_wp2_with (go_at_call 123; refine CA.out.mono ?_; rintro e w5 ⟨rfl, rfl⟩)
              go_ret
              exact ⟨ret_bool HE2.out.symm, below1 _ _⟩
        · have hp2 : (pp == 0) = false := by simpa using hp
          have HE2 := Lib.hid (show litOk ar (kd, pp, xs) = false by rw [HE.out]; simp [hp])
          clear hp
          rcases kb with rfl | rfl
          all_goals
            go_enter Tryz.func193, Tryz.ntmps193
            go_wp2_with (go_at_call 123; refine CA.out.mono ?_; rintro e w5 ⟨rfl, rfl⟩)
            go_ret
            exact ⟨ret_bool HE2.out.symm, below1 _ _⟩
      · have k2 : (kd == 2) = false := by simp; omega
        have k3 : (kd == 3) = false := by simp; omega
        have HE := Lib.hid (show litOk ar (kd, pp, xs) = false by simp [litOk, litFits, ka, kb])
        clear ka kb
        go_enter Tryz.func193, Tryz.ntmps193
        go_wp2_with (go_at_call 123; refine CA.out.mono ?_; rintro e w5 ⟨rfl, rfl⟩)
        go_ret
        exact ⟨ret_bool HE.out.symm, below1 _ _⟩
    · have CA := Lib.hid ((specArityOk_any _ ar _ (H.out.on (below1 w (.cells #[.int .i64 kd, .int .i64 pp, .slice A2 xs.length c2] 172))) (by omega)).mono fun e w' (hh : e = .returned (.bool (arityOk ar)) ∧ _ = w') => (⟨by rw [hh.1, show arityOk ar = false by simpa using ha], hh.2⟩ : e = .returned (.bool false) ∧ _ = w'))
      have HE := Lib.hid (show litOk ar (kd, pp, xs) = false by simp [litOk, ha])
      clear ha ka
      go_enter Tryz.func193, Tryz.ntmps193
      go_wp2_with (go_at_call 123; refine CA.out.mono ?_; rintro e w5 ⟨rfl, rfl⟩)
      go_ret
      exact ⟨ret_bool HE.out.symm, below1 _ _⟩

end Go.Proofs.YtigkgheddngkeaaGreatDoor
/-
  ruleVars.
-/
namespace Go.Proofs.YtigkgheddngkeaaGreatDoor
open Go.RowKit

set_option maxHeartbeats 400000 in
theorem ruleVars_any (v : Value) (r : LRule) (w : World) (h : RdRule w w.heap.size v r) (hr : szR r ≤ 1048576) :
    Calls Tryz.prog 237 #[v] w fun e w' => e = .returned (.int .u64 (ruleMask r : Nat)) ∧ Below w.heap.size w w' := by
  obtain ⟨a, b, rfl, h, h2⟩ := h
  unfold szR at hr
  have HW := Lib.hid (show bits .or .u64 ((maskOf r.1.2 : Nat) : Int) ((bodyMask r.2 : Nat) : Int) = (ruleMask r : Nat) from or_word (maskOf_lt _) (bodyMask_lt' _))
  obtain ⟨w1, hw1⟩ : ∃ w1, w1 = w.alloc (Obj.cells #[Value.int IntKind.i64 r.1.1, a, b] 124) := ⟨_, rfl⟩
  have B1 : Below w.heap.size w w1 := by rw [hw1]; exact below1 _ _
  have C1 := Lib.hid (fun x : Later w1 => later_same (argVars_any a r.1.2 _ x.val ((h.on B1).on x.2) (by omega)))
  have C2 := Lib.hid (fun x : Later w1 => later_of (bodyVars_any b r.2 x.val ((h2.on B1).on x.2) (by omega) (by omega)))
  obtain ⟨A, c, rfl, hc, _⟩ := h
  obtain ⟨A2, c2, rfl, hc2, _⟩ := h2
  have x1 : Blk w1 w.heap.size 124 #[.int .i64 r.1.1, .slice A r.1.2.length c, .slice A2 r.2.length c2] := by rw [hw1]; exact Blk.new w _ _
  have M1 := later_cell (x1.cell 1 : w1.cell? ⟨w.heap.size, 1, none⟩ = some (.slice A r.1.2.length c))
  have M2 := later_cell (x1.cell 2 : w1.cell? ⟨w.heap.size, 2, none⟩ = some (.slice A2 r.2.length c2))
  go_enter Tryz.func237, Tryz.ntmps237
  go_wp2_with (fail)
  rw [← hw1]
  clear hw1
  refine wp_region_later (by kernel_rfl) (by kernel_rfl) ?_
  repeat (go_big_quiet_step (first | (go_at_call 228; exact C1.out _) | (go_at_call 253; exact C2.out _)))
  refine wpQuiet_nil ?_
  rintro _ ⟨xq, rfl⟩
  go_wp2_with (fail)
  go_ret
  exact ⟨ret_int HW.out, bthen B1 xq.2⟩

end Go.Proofs.YtigkgheddngkeaaGreatDoor
/-
  The program's RuleSafe.
-/
namespace Go.Proofs.YtigkgheddngkeaaGreatDoor
open Go.RowKit

set_option maxHeartbeats 400000 in
theorem implRuleSafe_any (v : Value) (r : LRule) (w : World) (h : RdRule w w.heap.size v r) (hr : szR r ≤ 1048576) :
    Calls Tryz.prog 210 #[v] w fun e w' => e = .returned (.bool (ruleSafe r)) ∧ Below w.heap.size w w' := by
  obtain ⟨a, b, rfl, h, h2⟩ := h
  obtain ⟨w1, hw1⟩ : ∃ w1, w1 = w.alloc (Obj.cells #[Value.int IntKind.i64 r.1.1, a, b] 124) := ⟨_, rfl⟩
  have B1 : Below w.heap.size w w1 := by rw [hw1]; exact below1 _ _
  have C1 := Lib.hid (fun x : Later w1 => later_of (ruleVars_any _ r x.val ⟨a, b, rfl, (h.on B1).on x.2, (h2.on B1).on x.2⟩ hr))
  have C2 := Lib.hid (fun x : Later w1 => later_of (yesVars_any b r.2 x.val ((h2.on B1).on x.2) (by unfold szR at hr; omega) (by unfold szR at hr; omega)))
  obtain ⟨A, c, rfl, hc, _⟩ := h
  obtain ⟨A2, c2, rfl, hc2, _⟩ := h2
  have x1 : Blk w1 w.heap.size 124 #[.int .i64 r.1.1, .slice A r.1.2.length c, .slice A2 r.2.length c2] := by rw [hw1]; exact Blk.new w _ _
  have M0 := later_cell (x1.cell 0 : w1.cell? ⟨w.heap.size, 0, none⟩ = some (.int .i64 r.1.1))
  have M1 := later_cell (x1.cell 1 : w1.cell? ⟨w.heap.size, 1, none⟩ = some (.slice A r.1.2.length c))
  have M2 := later_cell (x1.cell 2 : w1.cell? ⟨w.heap.size, 2, none⟩ = some (.slice A2 r.2.length c2))
  go_enter Tryz.func210, Tryz.ntmps210
  go_wp2_with (fail)
  rw [← hw1]
  clear hw1
  refine wp_region_later (by kernel_rfl) (by kernel_rfl) ?_
  repeat (go_big_quiet_step (first | (go_at_call 237; exact C1.out _) | (go_at_call 238; exact C2.out _)))
  refine wpQuiet_nil ?_
  rintro _ ⟨xq, rfl⟩
  go_wp2_with (fail)
  go_ret
  exact ⟨rfl, bthen B1 xq.2⟩

end Go.Proofs.YtigkgheddngkeaaGreatDoor
/-
  The walks of ruleFits and of both RuleOk.
-/
namespace Go.Proofs.YtigkgheddngkeaaGreatDoor
open Go.RowKit

def ruleFits (ar : List Int) (r : LRule) : Bool := atomFits ar r.1 && (decide (r.2.length ≤ 4) && (r.2.all (litFits ar) && ruleSafe r))
def ruleOk (ar : List Int) (r : LRule) : Bool := arityOk ar && ruleFits ar r

set_option maxHeartbeats 1000000 in
set_option maxRecDepth 100000 in
theorem ruleFits_any (v v2 : Value) (ar : List Int) (r : LRule) (w : World) (h : RdInts w w.heap.size v ar) (h2 : RdRule w w.heap.size v2 r) (hs : szR r ≤ 1048576) :
    Calls Tryz.prog 169 #[v, v2] w fun e w' => e = .returned (.bool (ruleFits ar r)) ∧ Below w.heap.size w w' := by
  have H := Lib.hid h
  have HR := Lib.hid h2
  have hsz := hs
  unfold szR at hs
  obtain ⟨A, c, rfl, hc, _⟩ := h
  obtain ⟨a, b, rfl, h2, h3⟩ := h2
  have H2 := Lib.hid h2
  have H3 := Lib.hid h3
  obtain ⟨A2, c2, rfl, hc2, _⟩ := h2
  obtain ⟨A3, c3, rfl, hc3, _⟩ := h3
  go_enter Tryz.func169, Tryz.ntmps169
  go_wp2_with (fail)
  refine (atomFits_any _ _ ar r.1 _ (H.out.on (below1 _ _)) ⟨_, rfl, H2.out.on (below1 _ _)⟩ (by omega)).mono ?_
  rintro e w2 ⟨rfl, hb2⟩
  have B2 := bthen (below1 _ _) hb2
  have x2 : Blk w2 w.heap.size 124 #[.int .i64 r.1.1, .slice A2 r.1.2.length c2, .slice A3 r.2.length c3] := (Blk.new w _ _).below hb2 (by simp)
  have q2 : w2.cell? ⟨w.heap.size, 2, none⟩ = some (.slice A3 r.2.length c3) := x2.cell 2
  by_cases hf : atomFits ar r.1 = true
  · rw [hf]
    have HF := Lib.hid hf
    clear hf hb2
    by_cases hl : r.2.length ≤ 4
    · have hd : decide ((4 : Int) < (r.2.length : Int)) = false := by simp; omega
      have HL := Lib.hid (show ruleFits ar r = (r.2.all (litFits ar) && ruleSafe r) by simp [ruleFits, HF.out, hl])
      go_wp2_with (fail)
      go_loopw [6, 21] (fun _ i wr => ∃ k : Nat, k ≤ r.2.length ∧ i = .int .i64 k ∧ AllTo (litFits ar) r.2 k ∧ Below w2.heap.size w2 wr) (fun _ i _ => r.2.length - (intOf i).toNat)
      case atStart => exact ⟨0, Nat.zero_le _, rfl, AllTo.start, Below.refl _ _⟩
      case round =>
        obtain ⟨k, hk, rfl, hs, hbe⟩ := hrel
        have BW := bthen B2 hbe
        have xr := x2.below hbe x2.lt
        have p0 : wr.cell? ⟨w.heap.size, 0, none⟩ = some (.int .i64 r.1.1) := xr.cell 0
        have p1 : wr.cell? ⟨w.heap.size, 1, none⟩ = some (.slice A2 r.1.2.length c2) := xr.cell 1
        have p2 : wr.cell? ⟨w.heap.size, 2, none⟩ = some (.slice A3 r.2.length c3) := xr.cell 2
        clear q2
        by_cases hlt : k < r.2.length
        · obtain ⟨b, o, u0, u1, u2, rfl, hbB, k0, k1, k2, rfl, rfl, p3⟩ := (H3.out.on BW).get hlt
          have HA := Lib.hid p3
          obtain ⟨A4, c4, rfl, hc4, _⟩ := p3
          have hle := len_le_totL r.2 k hlt
          go_wp2_with (fail)
          refine (litFits_any _ _ ar r.2[k] _ ((H.out.on BW).on (below1 _ _)) ⟨_, rfl, HA.out.on (below1 _ _)⟩ (by omega)).mono ?_
          rintro e w4 ⟨rfl, hb4⟩
          have B4 := bthen hbe (bthen (below1 _ _) hb4)
          by_cases he : litFits ar r.2[k] = true
          · rw [he]
            have HS := Lib.hid (hs.step hlt he)
            clear hs he
            go_wp2_with (fail)
            go_roundw
            case rel => exact ⟨k + 1, by omega, by go_num, HS.out, B4⟩
            case measure => simp [intOf]; omega
          · have he' : litFits ar r.2[k] = false := by simpa using he
            rw [he']
            have HE := Lib.hid (show ruleFits ar r = false by rw [HL.out, all_not hlt he']; rfl)
            clear hs he he'
            go_wp2_with (fail)
            go_ret
            exact ⟨ret_bool HE.out.symm, bthen B2 B4⟩
        · have HE := Lib.hid (show ruleFits ar r = ruleSafe r by rw [HL.out, hs.done (by omega), Bool.true_and])
          clear hs
          go_wp2_with (fail)
          refine (implRuleSafe_any _ r _ (HR.out.on BW) hsz).mono ?_
          rintro e w5 ⟨rfl, hb5⟩
          go_wp2_with (fail)
          go_ret
          exact ⟨ret_bool HE.out.symm, bthen BW hb5⟩
    · have hd : decide ((4 : Int) < (r.2.length : Int)) = true := by simp; omega
      have HE := Lib.hid (show ruleFits ar r = false by simp [ruleFits, hl])
      go_wp2_with (fail)
      go_ret
      exact ⟨ret_bool HE.out.symm, B2⟩
  · have hf' : atomFits ar r.1 = false := by simpa using hf
    rw [hf']
    have HE := Lib.hid (show ruleFits ar r = false by simp [ruleFits, hf'])
    clear hf hf'
    go_wp2_with (fail)
    go_ret
    exact ⟨ret_bool HE.out.symm, B2⟩

theorem ruleOk_spec (ar : List Int) (r : LRule) : ruleOk ar r = (r.2.all (litOk ar) && (atomOk ar r.1 && (decide (r.2.length ≤ 4) && ruleSafe r))) := by
  unfold ruleOk ruleFits atomOk
  by_cases ha : arityOk ar = true
  · have : r.2.all (litOk ar) = r.2.all (litFits ar) := by
      congr 1
      funext l
      unfold litOk
      rw [ha, Bool.true_and]
    rw [this, ha]
    cases atomFits ar r.1 <;> cases r.2.all (litFits ar) <;> cases decide (r.2.length ≤ 4) <;> rfl
  · have ha' : arityOk ar = false := by simpa using ha
    rw [ha']
    simp

set_option maxHeartbeats 1000000 in
set_option maxRecDepth 100000 in
theorem specRuleOk_any (v v2 : Value) (ar : List Int) (r : LRule) (w : World) (h : RdInts w w.heap.size v ar) (h2 : RdRule w w.heap.size v2 r) (hr : ar.length ≤ 1048576) (hs : szR r ≤ 1048576) :
    Calls Tryz.prog 159 #[v, v2] w fun e w' => e = .returned (.bool (ruleOk ar r)) ∧ Below w.heap.size w w' := by
  have H := Lib.hid h
  have HR := Lib.hid h2
  have hsz := hs
  unfold szR at hs
  have HP := Lib.hid (ruleOk_spec ar r)
  obtain ⟨A, c, rfl, hc, _⟩ := h
  obtain ⟨a, b, rfl, h2, h3⟩ := h2
  have H2 := Lib.hid h2
  have H3 := Lib.hid h3
  obtain ⟨A2, c2, rfl, hc2, _⟩ := h2
  obtain ⟨A3, c3, rfl, hc3, _⟩ := h3
  go_enter Tryz.func159, Tryz.ntmps159
  go_wp2_with (fail)
  obtain ⟨w2, hw2⟩ : ∃ w2, w2 = w.alloc (Obj.cells #[Value.int IntKind.i64 r.1.1, Value.slice A2 r.1.2.length c2, Value.slice A3 r.2.length c3] 124) := ⟨_, rfl⟩
  have B2 : Below w.heap.size w w2 := by rw [hw2]; exact below1 _ _
  have x2 : Blk w2 w.heap.size 124 #[.int .i64 r.1.1, .slice A2 r.1.2.length c2, .slice A3 r.2.length c3] := by rw [hw2]; exact Blk.new _ _ _
  rw [← hw2]
  clear hw2
  go_loopw [5] (fun i wr => ∃ k : Nat, k ≤ r.2.length ∧ i = .int .i64 k ∧ AllTo (litOk ar) r.2 k ∧ Below w2.heap.size w2 wr) (fun i _ => r.2.length - (intOf i).toNat)
  case atStart => exact ⟨0, Nat.zero_le _, rfl, AllTo.start, Below.refl _ _⟩
  case round =>
    obtain ⟨k, hk, rfl, hs, hbe⟩ := hrel
    have BW := bthen B2 hbe
    have xr := x2.below hbe x2.lt
    have p0 : wr.cell? ⟨w.heap.size, 0, none⟩ = some (.int .i64 r.1.1) := xr.cell 0
    have p1 : wr.cell? ⟨w.heap.size, 1, none⟩ = some (.slice A2 r.1.2.length c2) := xr.cell 1
    have p2 : wr.cell? ⟨w.heap.size, 2, none⟩ = some (.slice A3 r.2.length c3) := xr.cell 2
    by_cases hlt : k < r.2.length
    · obtain ⟨b, o, u0, u1, u2, rfl, hbB, k0, k1, k2, rfl, rfl, p3⟩ := (H3.out.on BW).get hlt
      have HA := Lib.hid p3
      obtain ⟨A4, c4, rfl, hc4, _⟩ := p3
      have hle := len_le_totL r.2 k hlt
      go_wp2_with (fail)
      refine (specLitOk_any _ _ ar r.2[k] _ (H.out.on BW) ⟨_, rfl, HA.out⟩ hr (by omega)).mono ?_
      rintro e w4 ⟨rfl, hb4⟩
      have B4 := bthen hbe hb4
      by_cases he : litOk ar r.2[k] = true
      · rw [he]
        have HS := Lib.hid (hs.step hlt he)
        clear hs he
        go_wp2_with (fail)
        go_roundw
        case rel => exact ⟨k + 1, by omega, by go_num, HS.out, B4⟩
        case measure => simp [intOf]; omega
      · have he' : litOk ar r.2[k] = false := by simpa using he
        rw [he']
        have HE := Lib.hid (show ruleOk ar r = false by rw [HP.out, all_not hlt he']; rfl)
        clear hs he he'
        go_wp2_with (fail)
        go_ret
        exact ⟨ret_bool HE.out.symm, bthen B2 B4⟩
    · have HE := Lib.hid (show ruleOk ar r = (atomOk ar r.1 && (decide (r.2.length ≤ 4) && ruleSafe r)) by rw [HP.out, hs.done (by omega), Bool.true_and])
      clear hs
      go_wp2_with (fail)
      refine (specAtomOk_any _ _ ar r.1 _ (H.out.on BW) ⟨_, rfl, H2.out.on BW⟩ hr (by omega)).mono ?_
      rintro e w5 ⟨rfl, hb5⟩
      have B5 := bthen BW hb5
      have x5 := xr.below hb5 xr.lt
      have p0 : w5.cell? ⟨w.heap.size, 0, none⟩ = some (.int .i64 r.1.1) := x5.cell 0
      have p1 : w5.cell? ⟨w.heap.size, 1, none⟩ = some (.slice A2 r.1.2.length c2) := x5.cell 1
      have p2 : w5.cell? ⟨w.heap.size, 2, none⟩ = some (.slice A3 r.2.length c3) := x5.cell 2
      by_cases hf : atomOk ar r.1 = true
      · rw [hf]
        by_cases hl : r.2.length ≤ 4
        · have hd : decide ((r.2.length : Int) ≤ 4) = true := by simp; omega
          have HE2 := Lib.hid (show ruleOk ar r = ruleSafe r by rw [HE.out, hf]; simp [hl])
          clear hf
          go_wp2_with (fail)
          refine (specRuleSafe_any _ r _ (HR.out.on B5) hsz).mono ?_
          rintro e w6 ⟨rfl, hb6⟩
          go_wp2_with (fail)
          go_ret
          exact ⟨ret_bool HE2.out.symm, bthen B5 hb6⟩
        · have hd : decide ((r.2.length : Int) ≤ 4) = false := by simp; omega
          have HE2 := Lib.hid (show ruleOk ar r = false by rw [HE.out]; simp [hl])
          clear hf
          go_wp2_with (fail)
          go_ret
          exact ⟨ret_bool HE2.out.symm, B5⟩
      · have hf' : atomOk ar r.1 = false := by simpa using hf
        rw [hf']
        have HE2 := Lib.hid (show ruleOk ar r = false by rw [HE.out, hf']; rfl)
        clear hf hf'
        go_wp2_with (fail)
        go_ret
        exact ⟨ret_bool HE2.out.symm, B5⟩

end Go.Proofs.YtigkgheddngkeaaGreatDoor
/-
  The heads of all rules: how many they are, and the specification's l4All.
-/
namespace Go.Proofs.YtigkgheddngkeaaGreatDoor
open Go.RowKit

theorem place_short {ar : List Int} {p : Int} {n : Nat} (ha : arityOk ar = true) (h : 0 ≤ p ∧ p < ar.length ∧ (n : Int) = ar.getD p.toNat 0) : n ≤ 2 := by
  obtain ⟨h0, h1, h2⟩ := h
  simp only [arityOk, Bool.and_eq_true, List.all_eq_true] at ha
  have hlt : p.toNat < ar.length := by omega
  have hp := ha.2 _ (List.getElem_mem hlt)
  simp only [placeOk, decide_eq_true_eq] at hp
  have hd : ar.getD p.toNat 0 = ar[p.toNat] := by simp [hlt]
  rw [hd] at h2
  omega
theorem fits_parts {ar : List Int} {f : LFact} (h : factFits ar f = true) : (0 ≤ f.1 ∧ f.1 < ar.length ∧ (f.2.length : Int) = ar.getD f.1.toNat 0) ∧ f.2.all constOk = true := by
  simp only [factFits, Bool.and_eq_true, decide_eq_true_eq] at h
  exact h
theorem fits_short {ar : List Int} {f : LFact} (ha : arityOk ar = true) (h : factFits ar f = true) : f.2.length ≤ 2 := place_short ha (fits_parts h).1
/-- A fact's number. -/
def encF (f : LFact) : Nat := f.1.toNat * 64 + (match f.2 with | [] => 0 | [x] => x.toNat + 1 | x :: y :: _ => x.toNat + 1 + 7 * (y.toNat + 1))
theorem const_range {x : Int} (h : constOk x = true) : 0 ≤ x ∧ x ≤ 5 := by simpa [constOk] using h
theorem encF_lt {ar : List Int} {f : LFact} (ha : arityOk ar = true) (h : factFits ar f = true) : encF f < 1536 := by
  have hs := fits_short ha h
  obtain ⟨⟨h0, h1, _⟩, h2⟩ := fits_parts h
  have hl : ar.length ≤ 24 := by simp only [arityOk, Bool.and_eq_true, decide_eq_true_eq] at ha; exact ha.1
  obtain ⟨p, xs⟩ := f
  rcases xs with _ | ⟨x, _ | ⟨y, _ | ⟨z, xs⟩⟩⟩
  · simp only [encF] at *; omega
  · simp only [List.all_cons, Bool.and_eq_true] at h2
    have := const_range h2.1
    simp only [encF] at *; omega
  · simp only [List.all_cons, Bool.and_eq_true] at h2
    have := const_range h2.1
    have := const_range h2.2.1
    simp only [encF] at *; omega
  · simp at hs
theorem split64 {a b c d : Nat} (e : a * 64 + c = b * 64 + d) (hc : c < 64) (hd : d < 64) : a = b ∧ c = d := by omega
theorem split7 {a b c d : Nat} (e : a + 1 + 7 * (c + 1) = b + 1 + 7 * (d + 1)) (ha : a < 6) (hb : b < 6) : a = b ∧ c = d := by omega
theorem encF_inj {ar : List Int} {f g : LFact} (ha : arityOk ar = true) (hf : factFits ar f = true) (hg : factFits ar g = true) (e : encF f = encF g) : f = g := by
  have hs := fits_short ha hf
  have hs' := fits_short ha hg
  obtain ⟨⟨h0, _, _⟩, h2⟩ := fits_parts hf
  obtain ⟨⟨h0', _, _⟩, h2'⟩ := fits_parts hg
  obtain ⟨p, xs⟩ := f
  obtain ⟨q, ys⟩ := g
  rcases xs with _ | ⟨x, _ | ⟨y, _ | ⟨z, xs⟩⟩⟩ <;> rcases ys with _ | ⟨x', _ | ⟨y', _ | ⟨z', ys⟩⟩⟩ <;> (try (simp at hs; done)) <;> (try (simp at hs'; done)) <;>
    simp only [List.all_cons, List.all_nil, Bool.and_eq_true, and_true] at h2 h2' <;> simp only [encF] at e h0 h0'
  · obtain ⟨e1, _⟩ := split64 e (by omega) (by omega); simp; omega
  · have := const_range h2'; obtain ⟨_, e2⟩ := split64 e (by omega) (by omega); omega
  · have := const_range h2'.1; have := const_range h2'.2; obtain ⟨_, e2⟩ := split64 e (by omega) (by omega); omega
  · have := const_range h2; obtain ⟨_, e2⟩ := split64 e (by omega) (by omega); omega
  · have := const_range h2; have := const_range h2'; obtain ⟨e1, e2⟩ := split64 e (by omega) (by omega); simp; omega
  · have := const_range h2; have := const_range h2'.1; have := const_range h2'.2; obtain ⟨_, e2⟩ := split64 e (by omega) (by omega); omega
  · have := const_range h2.1; have := const_range h2.2; obtain ⟨_, e2⟩ := split64 e (by omega) (by omega); omega
  · have := const_range h2.1; have := const_range h2.2; have := const_range h2'; obtain ⟨_, e2⟩ := split64 e (by omega) (by omega); omega
  · have := const_range h2.1; have := const_range h2.2; have := const_range h2'.1; have := const_range h2'.2
    obtain ⟨e1, e2⟩ := split64 e (by omega) (by omega)
    obtain ⟨e3, e4⟩ := split7 e2 (by omega) (by omega)
    simp; omega
theorem tot_short : ∀ {l : List LFact}, (∀ f ∈ l, f.2.length ≤ 2) → tot l ≤ l.length * 2
  | [], _ => by simp [tot]
  | f :: l, h => by
    have h1 := h f (List.mem_cons_self ..)
    have h2 := tot_short fun g hg => h g (List.mem_cons_of_mem _ hg)
    rw [tot_cons, List.length_cons]
    omega
/-- Facts that fit, no two alike: few. -/
theorem facts_few {ar : List Int} {l : List LFact} (ha : arityOk ar = true) (hn : l.Nodup) (h : ∀ f ∈ l, factFits ar f = true) : l.length ≤ 1536 ∧ tot l ≤ 3072 := by
  have h1 := nodup_len 1536 (l.map encF) (by
    unfold List.Nodup
    rw [List.pairwise_map]
    exact List.Pairwise.imp_of_mem (fun {a b} hx hy hne e => hne (encF_inj ha (h a hx) (h b hy) e)) hn) fun x hx => by
      obtain ⟨b, hb, rfl⟩ := List.mem_map.1 hx
      exact encF_lt ha (h b hb)
  rw [List.length_map] at h1
  have h2 := tot_short fun f hf => fits_short ha (h f hf)
  omega

theorem headOf_fits {ar : List Int} {a : LFact} {bs : List Int} (ha : atomFits ar a = true) (e : headOk a bs = true) : factFits ar (headOf a bs) = true := by
  rw [headOf_yes e]
  simp only [atomFits, Bool.and_eq_true, decide_eq_true_eq] at ha
  simp only [headOk, Bool.and_eq_true] at e
  simp only [factFits, Bool.and_eq_true, decide_eq_true_eq, List.length_map]
  exact ⟨ha.1, e.2⟩
theorem headsTo_asc (a : LFact) (S : List (List Int)) : ∀ k, Asc (headsTo a S k)
  | 0 => List.Pairwise.nil
  | k + 1 => by
    have ih := headsTo_asc a S k
    show Asc (if _ then _ else _)
    split
    · exact (foldWith [headOf a (S.getD k [])] _ ih).1
    · exact ih
theorem headsTo_fits {ar : List Int} {a : LFact} {S : List (List Int)} (ha : atomFits ar a = true) : ∀ k, ∀ f ∈ headsTo a S k, factFits ar f = true
  | 0 => fun f hf => by cases hf
  | k + 1 => by
    have ih := headsTo_fits (S := S) ha k
    intro f hf
    have hf : f ∈ (if headOk a (S.getD k []) then factsWith (headsTo a S k) (headOf a (S.getD k [])) else headsTo a S k) := hf
    split at hf
    · rename_i e
      rcases (factsWith_mem _ _ _).1 hf with h | rfl
      · exact ih f h
      · exact headOf_fits ha e
    · exact ih f hf
theorem headsL_fits {ar : List Int} {r : LRule} (gs : List LFact) (h : ruleFits ar r = true) : ∀ f ∈ headsL r gs, factFits ar f = true := by
  simp only [ruleFits, Bool.and_eq_true] at h
  exact headsTo_fits h.1 _
theorem headsL_few {ar : List Int} {r : LRule} (gs : List LFact) (ha : arityOk ar = true) (h : ruleFits ar r = true) : (headsL r gs).length ≤ 1536 ∧ tot (headsL r gs) ≤ 3072 :=
  facts_few ha (asc_nodup (headsTo_asc _ _ _)) (headsL_fits gs h)
/-- The heads of rules. -/
def headsAll (rs : List LRule) (gs : List LFact) : List LFact := setOf (rs.flatMap fun r => headsL r gs)
theorem setOf_more (xs ys : List LFact) : setOf (setOf xs ++ ys) = setOf (xs ++ ys) :=
  (setOf_asc _).unique (setOf_asc _) fun f => by rw [setOf_mem, setOf_mem, List.mem_append, List.mem_append, setOf_mem]
theorem headsAll_snoc (rs : List LRule) (gs : List LFact) (k : Nat) (h : k < rs.length) : headsAll (rs.take (k + 1)) gs = setOf (headsAll (rs.take k) gs ++ headsL rs[k] gs) := by
  unfold headsAll
  rw [take_snoc rs k h, List.flatMap_append, setOf_more]
  simp
theorem headsAll_fits {ar : List Int} {rs : List LRule} (gs : List LFact) (h : ∀ r ∈ rs, ruleFits ar r = true) : ∀ f ∈ headsAll rs gs, factFits ar f = true := by
  intro f hf
  obtain ⟨r, hr, hm⟩ := List.mem_flatMap.1 ((setOf_mem _ _).1 hf)
  exact headsL_fits gs (h r hr) f hm
theorem headsAll_few {ar : List Int} {rs : List LRule} (gs : List LFact) (ha : arityOk ar = true) (h : ∀ r ∈ rs, ruleFits ar r = true) : (headsAll rs gs).length ≤ 1536 ∧ tot (headsAll rs gs) ≤ 3072 :=
  facts_few ha (asc_nodup (setOf_asc _)) (headsAll_fits gs h)
theorem lit_terms {ar : List Int} {l : LLit} (h : litFits ar l = true) : l.2.2.all termOk = true := by
  unfold litFits at h
  split at h
  · simp only [atomFits, Bool.and_eq_true] at h; exact h.2
  · split at h
    · simp only [Bool.and_eq_true] at h; exact h.2
    · cases h

set_option maxHeartbeats 4000000 in
set_option maxRecDepth 100000 in
theorem l4All_any (v v2 : Value) (ar : List Int) (rs : List LRule) (gs : List LFact) (w : World) (h : RdRules w w.heap.size v rs) (h2 : RdFacts w w.heap.size v2 gs) (har : arityOk ar = true) (hfit : ∀ r ∈ rs, ruleFits ar r = true) (hsz : totR rs ≤ 1048576) (hrl : rs.length ≤ 1048576)
    (hn : gs.length ≤ 1048576) (ht : tot gs ≤ 1048576) (hc : ∀ f ∈ gs, f.2.all constOk = true) (hnd : gs.Nodup) :
    Calls Tryz.prog 100 #[v, v2] w fun e w' => ∃ A c, e = .returned (.slice A (headsAll rs gs).length c) ∧ OwnFacts w' w.heap.size w'.heap.size (.slice A (headsAll rs gs).length c) (headsAll rs gs) ∧ Below w.heap.size w w' := by
  have H := Lib.hid h
  have H2 := Lib.hid h2
  obtain ⟨A, c, rfl, hcA, _⟩ := h
  obtain ⟨A2, c2, rfl, hc2, _⟩ := h2
  have HFIT := Lib.hid hfit
  clear hfit
  go_enter Tryz.func100, Tryz.ntmps100
  go_wp2_with (fail)
  go_loopw [5, 6] (fun o i wr => ∃ (k : Nat) (A' : Option Addr) (c' : Nat), k ≤ rs.length ∧ i = .int .i64 k ∧ o = .slice A' (headsAll (rs.take k) gs).length c' ∧ OwnFacts wr w.heap.size wr.heap.size (.slice A' (headsAll (rs.take k) gs).length c') (headsAll (rs.take k) gs) ∧ Below w.heap.size w wr) (fun _ i _ => rs.length - (intOf i).toNat)
  case atStart => exact ⟨0, _, 0, Nat.zero_le _, rfl, rfl, (ColRel.empty w).own.own.mono (Nat.le_refl _) (Nat.le_refl _), below1 _ _⟩
  case round =>
    obtain ⟨k, A', c', hk, rfl, rfl, ho, hbe⟩ := hrel
    have HO := Lib.hid ho
    have HBE := Lib.hid hbe
    by_cases hlt : k < rs.length
    · obtain ⟨b, o, u0, u1, u2, rfl, hbB, k0, k1, k2, rfl, q1, q2⟩ := (H.out.on hbe).get hlt
      obtain ⟨A3, c3, rfl, _⟩ := id q1
      obtain ⟨A4, c4, rfl, _⟩ := id q2
      have hfk := HFIT.out _ (List.getElem_mem hlt)
      have HW := Lib.hid hfk
      have hparts := hfk
      simp only [ruleFits, atomFits, Bool.and_eq_true, decide_eq_true_eq] at hparts
      have ha2 := place_short har hparts.1.1
      have hsk := sz_le_totR rs k hlt
      unfold szR at hsk
      have HOF := Lib.hid (l4Of_any (.agg #[.int .i64 rs[k].1.1, .slice A3 rs[k].1.2.length c3, .slice A4 rs[k].2.length c4]) (.slice A2 gs.length c2) rs[k] gs _ ⟨_, _, rfl, q1, q2⟩ (H2.out.on hbe) hn ht (by omega) hc hnd (fun l hl => lit_terms (List.all_eq_true.1 hparts.2.2.1 l hl)) ha2)
      have h1 := headsAll_few gs har (rs := rs.take k) (fun r hr => HFIT.out r (List.mem_of_mem_take hr))
      have h2 := headsL_few gs har HW.out
      have HN := Lib.hid (And.intro h1 h2)
      have HE := Lib.hid (headsAll_snoc rs gs k hlt)
      clear ho hbe q1 q2 h1 h2 hparts hfk hsk
      go_wp2_with (first
        | (go_at_call 154; refine HOF.out.mono ?_; rintro e w1 ⟨A5, c5, rfl, o5, b5⟩; have H5 := Lib.hid (And.intro o5 b5); clear o5 b5)
        | (go_at_call 92
           refine (specFactsEither_any _ _ (headsAll (rs.take k) gs) (headsL rs[k] gs) w1 ((HO.out.below H5.out.2 (Nat.le_refl _)).rd.more H5.out.2.size) H5.out.1.rd (by have := HN.out; omega) (by have := HN.out; omega)).mono ?_
           rintro e w2 ⟨A6, c6, rfl, o6, b6⟩; have H6 := Lib.hid (And.intro o6 b6); clear o6 b6))
      go_roundw
      case rel =>
        refine ⟨k + 1, A6, c6, by omega, by go_num, by rw [HE.out], ?_, bthen HBE.out (bthen H5.out.2 H6.out.2)⟩
        rw [HE.out]
        exact H6.out.1.mono (by have := HBE.out.size; have := H5.out.2.size; omega) (Nat.le_refl _)
      case measure => simp [intOf]; omega
    · obtain rfl : k = rs.length := by omega
      have HR := Lib.hid (show rs.take rs.length = rs from List.take_length)
      clear ho hbe
      go_wp2_with (fail)
      go_ret
      have ho := HO.out
      rw [HR.out] at ho ⊢
      exact ⟨A', c', rfl, ho, HBE.out⟩

end Go.Proofs.YtigkgheddngkeaaGreatDoor
/-
  The walks of both ProgramOk, of l2Has, and of both Positive.
-/
namespace Go.Proofs.YtigkgheddngkeaaGreatDoor
open Go.RowKit

def progOk (p : LProg) : Bool := arityOk p.1 && (decide (p.2.length ≤ 60) && p.2.all (ruleFits p.1))
theorem progOk_spec (p : LProg) : progOk p = (p.2.all (ruleOk p.1) && (arityOk p.1 && decide (p.2.length ≤ 60))) := by
  unfold progOk
  by_cases ha : arityOk p.1 = true
  · have : p.2.all (ruleOk p.1) = p.2.all (ruleFits p.1) := by
      congr 1
      funext r
      unfold ruleOk
      rw [ha, Bool.true_and]
    rw [this, ha]
    cases p.2.all (ruleFits p.1) <;> cases decide (p.2.length ≤ 60) <;> rfl
  · have ha' : arityOk p.1 = false := by simpa using ha
    rw [ha']
    simp

set_option maxHeartbeats 1000000 in
set_option maxRecDepth 100000 in
theorem implProgramOk_any (v : Value) (p : LProg) (w : World) (h : RdProg w w.heap.size v p) (hs : szP p ≤ 1048576) :
    Calls Tryz.prog 124 #[v] w fun e w' => e = .returned (.bool (progOk p)) ∧ Below w.heap.size w w' := by
  unfold szP at hs
  obtain ⟨a, b, rfl, h, h2⟩ := h
  have H := Lib.hid h
  have H2 := Lib.hid h2
  obtain ⟨A, c, rfl, hc, _⟩ := h
  obtain ⟨A2, c2, rfl, hc2, _⟩ := h2
  go_enter Tryz.func124, Tryz.ntmps124
  go_wp2_with (fail)
  refine (arityOk_any _ p.1 _ (H.out.on (below1 _ _)) (by omega)).mono ?_
  rintro e w2 ⟨rfl, hb2⟩
  have B2 := bthen (below1 _ _) hb2
  have x2 : Blk w2 w.heap.size 33 #[.slice A p.1.length c, .slice A2 p.2.length c2] := (Blk.new w _ _).below hb2 (by simp)
  have q1 : w2.cell? ⟨w.heap.size, 1, none⟩ = some (.slice A2 p.2.length c2) := x2.cell 1
  by_cases hf : arityOk p.1 = true
  · rw [hf]
    have HF := Lib.hid hf
    clear hf hb2
    by_cases hl : p.2.length ≤ 60
    · have hd : decide ((60 : Int) < (p.2.length : Int)) = false := by simp; omega
      have HL := Lib.hid (show progOk p = p.2.all (ruleFits p.1) by simp [progOk, HF.out, hl])
      go_wp2_with (fail)
      go_loopw [18] (fun i wr => ∃ k : Nat, k ≤ p.2.length ∧ i = .int .i64 k ∧ AllTo (ruleFits p.1) p.2 k ∧ Below w2.heap.size w2 wr) (fun i _ => p.2.length - (intOf i).toNat)
      case atStart => exact ⟨0, Nat.zero_le _, rfl, AllTo.start, Below.refl _ _⟩
      case round =>
        obtain ⟨k, hk, rfl, hs, hbe⟩ := hrel
        have BW := bthen B2 hbe
        have xr := x2.below hbe x2.lt
        clear q1
        by_cases hlt : k < p.2.length
        · obtain ⟨b, o, u0, u1, u2, rfl, hbB, k0, k1, k2, rfl, p3, p4⟩ := (H2.out.on BW).get hlt
          have HA := Lib.hid p3
          have HB := Lib.hid p4
          obtain ⟨A4, c4, rfl, hc4, _⟩ := p3
          obtain ⟨A5, c5, rfl, hc5, _⟩ := p4
          have hle := sz_le_totR p.2 k hlt
          have q0 : ∀ O, (wr.alloc O).cell? ⟨w.heap.size, 0, none⟩ = some (.slice A p.1.length c) := fun O => (xr.alloc O).cell 0
          go_wp2_with (fail)
          refine (ruleFits_any _ _ p.1 p.2[k] _ ((H.out.on BW).on (below1 _ _)) ⟨_, _, rfl, HA.out.on (below1 _ _), HB.out.on (below1 _ _)⟩ (by omega)).mono ?_
          rintro e w4 ⟨rfl, hb4⟩
          have B4 := bthen hbe (bthen (below1 _ _) hb4)
          by_cases he : ruleFits p.1 p.2[k] = true
          · rw [he]
            have HS := Lib.hid (hs.step hlt he)
            clear hs he
            go_wp2_with (fail)
            go_roundw
            case rel => exact ⟨k + 1, by omega, by go_num, HS.out, B4⟩
            case measure => simp [intOf]; omega
          · have he' : ruleFits p.1 p.2[k] = false := by simpa using he
            rw [he']
            have HE := Lib.hid (show progOk p = false by rw [HL.out, all_not hlt he'])
            clear hs he he'
            go_wp2_with (fail)
            go_ret
            exact ⟨ret_bool HE.out.symm, bthen B2 B4⟩
        · have HE := Lib.hid (show progOk p = true by rw [HL.out, hs.done (by omega)])
          clear hs
          go_wp2_with (fail)
          go_ret
          exact ⟨ret_bool HE.out.symm, BW⟩
    · have hd : decide ((60 : Int) < (p.2.length : Int)) = true := by simp; omega
      have HE := Lib.hid (show progOk p = false by simp [progOk, hl])
      go_wp2_with (fail)
      go_ret
      exact ⟨ret_bool HE.out.symm, B2⟩
  · have hf' : arityOk p.1 = false := by simpa using hf
    rw [hf']
    have HE := Lib.hid (show progOk p = false by simp [progOk, hf'])
    clear hf hf'
    go_wp2_with (fail)
    go_ret
    exact ⟨ret_bool HE.out.symm, B2⟩

set_option maxHeartbeats 1000000 in
set_option maxRecDepth 100000 in
theorem specProgramOk_any (v : Value) (p : LProg) (w : World) (h : RdProg w w.heap.size v p) (hs : szP p ≤ 1048576) :
    Calls Tryz.prog 110 #[v] w fun e w' => e = .returned (.bool (progOk p)) ∧ Below w.heap.size w w' := by
  unfold szP at hs
  obtain ⟨a, b, rfl, h, h2⟩ := h
  have H := Lib.hid h
  have H2 := Lib.hid h2
  have HP := Lib.hid (progOk_spec p)
  obtain ⟨A, c, rfl, hc, _⟩ := h
  obtain ⟨A2, c2, rfl, hc2, _⟩ := h2
  go_enter Tryz.func110, Tryz.ntmps110
  go_wp2_with (fail)
  obtain ⟨w2, hw2⟩ : ∃ w2, w2 = w.alloc (Obj.cells #[Value.slice A p.1.length c, Value.slice A2 p.2.length c2] 33) := ⟨_, rfl⟩
  have B2 : Below w.heap.size w w2 := by rw [hw2]; exact below1 _ _
  have x2 : Blk w2 w.heap.size 33 #[.slice A p.1.length c, .slice A2 p.2.length c2] := by rw [hw2]; exact Blk.new _ _ _
  rw [← hw2]
  clear hw2
  go_loopw [3] (fun i wr => ∃ k : Nat, k ≤ p.2.length ∧ i = .int .i64 k ∧ AllTo (ruleOk p.1) p.2 k ∧ Below w2.heap.size w2 wr) (fun i _ => p.2.length - (intOf i).toNat)
  case atStart => exact ⟨0, Nat.zero_le _, rfl, AllTo.start, Below.refl _ _⟩
  case round =>
    obtain ⟨k, hk, rfl, hs, hbe⟩ := hrel
    have BW := bthen B2 hbe
    have xr := x2.below hbe x2.lt
    have q0 : wr.cell? ⟨w.heap.size, 0, none⟩ = some (.slice A p.1.length c) := xr.cell 0
    have q1 : wr.cell? ⟨w.heap.size, 1, none⟩ = some (.slice A2 p.2.length c2) := xr.cell 1
    by_cases hlt : k < p.2.length
    · obtain ⟨b, o, u0, u1, u2, rfl, hbB, k0, k1, k2, rfl, p3, p4⟩ := (H2.out.on BW).get hlt
      have HA := Lib.hid p3
      have HB := Lib.hid p4
      obtain ⟨A4, c4, rfl, hc4, _⟩ := p3
      obtain ⟨A5, c5, rfl, hc5, _⟩ := p4
      have hle := sz_le_totR p.2 k hlt
      have L0 := later_cell k0
      have L1 := later_cell k1
      have L2 := later_cell k2
      have L3 := later_cell q0
      have L4 := later_cell q1
      by_cases he : ruleOk p.1 p.2[k] = true
      · have CF := Lib.hid (fun x : Later wr => (specRuleOk_any (.slice A p.1.length c) (.agg #[.int .i64 p.2[k].1.1, .slice A4 p.2[k].1.2.length c4, .slice A5 p.2[k].2.length c5]) p.1 p.2[k] x.val ((H.out.on BW).on x.2) ⟨_, _, rfl, HA.out.on x.2, HB.out.on x.2⟩ (by omega) (by omega)).mono fun e w' (hh : e = .returned (.bool (ruleOk p.1 p.2[k])) ∧ Below x.val.heap.size x.val w') => (⟨by rw [hh.1, he], hh.2⟩ : e = .returned (.bool true) ∧ Below x.val.heap.size x.val w'))
        have HS := Lib.hid (hs.step hlt he)
        clear hs he
        go_wp2_with (fail)
        clear k0 k1 k2 q0 q1
        refine wp_region_later (by kernel_rfl) (by kernel_rfl) ?_
        repeat (go_big_quiet_step ((go_at_call 159; exact later_of (CF.out _))))
        refine wpQuiet_nil ?_
        rintro _ ⟨xq, rfl⟩
        go_wp2_with (fail)
        go_roundw
        case rel => exact ⟨k + 1, by omega, by go_num, HS.out, bthen hbe xq.2⟩
        case measure => simp [intOf]; omega
      · have he' : ruleOk p.1 p.2[k] = false := by simpa using he
        have CF := Lib.hid (fun x : Later wr => (specRuleOk_any (.slice A p.1.length c) (.agg #[.int .i64 p.2[k].1.1, .slice A4 p.2[k].1.2.length c4, .slice A5 p.2[k].2.length c5]) p.1 p.2[k] x.val ((H.out.on BW).on x.2) ⟨_, _, rfl, HA.out.on x.2, HB.out.on x.2⟩ (by omega) (by omega)).mono fun e w' (hh : e = .returned (.bool (ruleOk p.1 p.2[k])) ∧ Below x.val.heap.size x.val w') => (⟨by rw [hh.1, he'], hh.2⟩ : e = .returned (.bool false) ∧ Below x.val.heap.size x.val w'))
        have HE := Lib.hid (show progOk p = false by rw [HP.out, all_not hlt he']; rfl)
        clear hs he he'
        go_wp2_with (fail)
        clear k0 k1 k2 q0 q1
        refine wp_region_later (by kernel_rfl) (by kernel_rfl) ?_
        repeat (go_big_quiet_step ((go_at_call 159; exact later_of (CF.out _))))
        refine wpQuiet_nil ?_
        rintro _ ⟨xq, rfl⟩
        go_wp2_with (fail)
        go_ret
        exact ⟨ret_bool HE.out.symm, bthen BW xq.2⟩
    · have HE := Lib.hid (show progOk p = (arityOk p.1 && decide (p.2.length ≤ 60)) by rw [HP.out, hs.done (by omega), Bool.true_and])
      clear hs
      go_wp2_with (fail)
      refine (specArityOk_any _ p.1 _ (H.out.on BW) (by omega)).mono ?_
      rintro e w' ⟨rfl, rfl⟩
      by_cases hf : arityOk p.1 = true
      · rw [hf]
        by_cases hl : p.2.length ≤ 60
        · have hd : decide ((p.2.length : Int) ≤ 60) = true := by simp; omega
          have HE2 := Lib.hid (show progOk p = true by rw [HE.out, hf]; simp [hl])
          clear hf
          go_wp2_with (fail)
          go_ret
          exact ⟨ret_bool (by rw [HE2.out]), BW⟩
        · have hd : decide ((p.2.length : Int) ≤ 60) = false := by simp; omega
          have HE2 := Lib.hid (show progOk p = false by rw [HE.out]; simp [hl])
          clear hf
          go_wp2_with (fail)
          go_ret
          exact ⟨ret_bool (by rw [HE2.out]), BW⟩
      · have hf' : arityOk p.1 = false := by simpa using hf
        rw [hf']
        have HE2 := Lib.hid (show progOk p = false by rw [HE.out, hf']; rfl)
        clear hf hf'
        go_wp2_with (fail)
        go_ret
        exact ⟨ret_bool HE2.out.symm, BW⟩

end Go.Proofs.YtigkgheddngkeaaGreatDoor
/-
  The walk of the specification's FactOk.
-/
namespace Go.Proofs.YtigkgheddngkeaaGreatDoor
open Go.RowKit

set_option maxHeartbeats 400000 in
set_option maxRecDepth 100000 in
theorem specFactOk_any (v v2 : Value) (ar : List Int) (f : LFact) (w : World) (h : RdInts w w.heap.size v ar) (h2 : RdFact w w.heap.size v2 f) (hr : ar.length ≤ 1048576) (hn : f.2.length ≤ 1048576) :
    Calls Tryz.prog 121 #[v, v2] w fun e w' => e = .returned (.bool (factOk ar f)) ∧ Below w.heap.size w w' := by
  have H := Lib.hid h
  have H2 := Lib.hid h2
  obtain ⟨pp, xs⟩ := f
  obtain ⟨A, c, rfl, hc, h⟩ := h
  obtain ⟨a, rfl, A2, c2, rfl, hc2, h2⟩ := h2
  by_cases ha : arityOk ar = true
  · have CA : ∀ W, Below w.heap.size w W → Calls Tryz.prog 123 #[.slice A ar.length c] W fun e w' => e = .returned (.bool true) ∧ w' = W := fun W hW =>
      (specArityOk_any _ ar W (H.out.on hW) (by omega)).mono fun e w' ⟨he, hw⟩ => ⟨by rw [he, ha], hw.symm⟩
    have HCA := Lib.hid CA
    have HA := Lib.hid ha
    clear CA ha
    by_cases hp : 0 ≤ pp ∧ pp ≤ (ar.length : Int) - 1
    · have HCL := Lib.hid (l1In_yes hp)
      obtain ⟨p, rfl⟩ := Int.eq_ofNat_of_zero_le hp.1
      have hlt : p < ar.length := by omega
      have hltI : (p : Int) < (ar.length : Int) := by omega
      obtain ⟨b, o, rfl, hbB, hx⟩ := h (by omega)
      have hck : ∀ O, (w.alloc O).cell? ⟨b, o + p, none⟩ = some (.int .i64 ar[p]) := fun O => (World.cell?_alloc_lt w O ⟨b, o + p, none⟩ hbB).trans (hx p hlt)
      clear hp
      by_cases h3 : (xs.length : Int) = ar[p]
      · have hd3 : ((xs.length : Int) != ar[p]) = false := by simp [h3]
        have H3 := Lib.hid (show factOk ar ((p : Int), xs) = xs.all constOk by simp [factOk, HA.out, factFits, hlt, h3])
        clear h3 hx h
        go_enter Tryz.func121, Tryz.ntmps121
        go_wp2_with (fail)
        go_quiet (first | (go_at_call 123; exact Calls.quiet_of_same (HCA.out _ (bdrewN (below1 _ _) _))) | (go_at_call 126; exact quiet_left (HCL.out _)))
        go_wp2_with (fail)
        obtain ⟨w1, hw1⟩ : ∃ w1, w1 = (w.alloc (Obj.cells #[Value.int IntKind.i64 ↑p, Value.slice A2 xs.length c2] 68)).drewN nq := ⟨_, rfl⟩
        rw [← hw1]
        have hbe : Below w.heap.size w w1 := by rw [hw1]; exact bdrewN (below1 _ _) _
        have hblk : Blk w1 w.heap.size 68 #[.int .i64 p, .slice A2 xs.length c2] := by rw [hw1]; exact (Blk.new w _ _).drewN _
        have hc1 : w1.cell? ⟨w.heap.size, 1, none⟩ = some (.slice A2 xs.length c2) := hblk.cell 1
        clear hw1 hck
        go_loop [5] (fun i => ∃ k : Nat, k ≤ xs.length ∧ i = .int .i64 k ∧ ConstsTo xs k) (fun i => xs.length - (intOf i).toNat)
        case atStart => exact ⟨0, Nat.zero_le _, rfl, fun j hj => absurd hj (by omega)⟩
        case round =>
          obtain ⟨k, hk, rfl, hs⟩ := hrel
          by_cases hlk : k < xs.length
          · obtain ⟨b2, o2, rfl, hbB2, hx2⟩ := h2 (by show 0 < xs.length; omega)
            have hck2 : w1.cell? ⟨b2, o2 + k, none⟩ = some (.int .i64 xs[k]) := (hbe.cell (p := ⟨b2, o2 + k, none⟩) hbB2).trans (hx2 k hlk)
            clear hx2 h2
            by_cases he : 0 ≤ xs[k] ∧ xs[k] ≤ 5
            · have HS := Lib.hid (hs.step (by simpa [hlk, constOk] using he))
              have HK := Lib.hid (l1In_yes he)
              clear hs he
              go_wp2_with (go_at_call 126; refine (HK.out _).mono ?_; rintro e w' ⟨rfl, rfl⟩)
              go_round
              case rel => exact ⟨k + 1, by omega, by go_num, HS.out⟩
              case measure => simp [intOf]; omega
            · have HE := Lib.hid (consts_not hlk (by simpa [constOk] using he))
              have HK := Lib.hid (l1In_no he)
              clear hs he
              go_wp2_with (go_at_call 126; refine (HK.out _).mono ?_; rintro e w' ⟨rfl, rfl⟩)
              go_ret
              exact ⟨ret_bool (by rw [H3.out, HE.out]), hbe⟩
          · have hkn : k = xs.length := by omega
            have HE := Lib.hid (show xs.all constOk = true from ConstsTo.all (by rw [← hkn]; exact hs))
            clear hkn hs h2
            go_wp2_with (fail)
            go_ret
            exact ⟨ret_bool (by rw [H3.out, HE.out]), hbe⟩
      · have hd3 : ((xs.length : Int) != ar[p]) = true := by simp [h3]
        have HE := Lib.hid (show factOk ar ((p : Int), xs) = false by simp [factOk, factFits, hlt, h3])
        clear h3 hx h
        go_enter Tryz.func121, Tryz.ntmps121
        go_wp2_with (fail)
        go_quiet (first | (go_at_call 123; exact Calls.quiet_of_same (HCA.out _ (bdrewN (below1 _ _) _))) | (go_at_call 126; exact quiet_left (HCL.out _)))
        go_wp2_with (fail)
        go_ret
        exact ⟨ret_bool HE.out.symm, bdrewN (below1 _ _) _⟩
    · have HCL := Lib.hid (l1In_no hp)
      have HE := Lib.hid (show factOk ar (pp, xs) = false by simp [factOk, factFits]; omega)
      clear hp
      go_enter Tryz.func121, Tryz.ntmps121
      go_wp2_with (fail)
      go_quiet (first | (go_at_call 123; exact Calls.quiet_of_same (HCA.out _ (bdrewN (below1 _ _) _))) | (go_at_call 126; exact quiet_left (HCL.out _)))
      go_wp2_with (fail)
      go_ret
      exact ⟨ret_bool HE.out.symm, bdrewN (below1 _ _) _⟩
  · have CA : ∀ W, Below w.heap.size w W → Calls Tryz.prog 123 #[.slice A ar.length c] W fun e w' => e = .returned (.bool false) ∧ w' = W := fun W hW =>
      (specArityOk_any _ ar W (H.out.on hW) (by omega)).mono fun e w' ⟨he, hw⟩ => ⟨by rw [he, show arityOk ar = false by simpa using ha], hw.symm⟩
    have HCA := Lib.hid CA
    have HE := Lib.hid (show factOk ar (pp, xs) = false by simp [factOk, ha])
    clear CA ha
    go_enter Tryz.func121, Tryz.ntmps121
    go_wp2_with (fail)
    go_quiet (first | (go_at_call 123; exact Calls.quiet_of_same (HCA.out _ (bdrewN (below1 _ _) _))))
    go_wp2_with (fail)
    go_ret
    exact ⟨ret_bool HE.out.symm, bdrewN (below1 _ _) _⟩

end Go.Proofs.YtigkgheddngkeaaGreatDoor
/-
  The walks of FactsOk: the program's and the specification's.
-/
namespace Go.Proofs.YtigkgheddngkeaaGreatDoor
open Go.RowKit

def roundOk (ar : List Int) (fs : List LFact) (k : Nat) : Bool := factFits ar (fs.getD k (0, [])) && (decide (k = 0) || decide (factOrder (fs.getD (k - 1) (0, [])) (fs.getD k (0, [])) < 0))
def factsOk (ar : List Int) (fs : List LFact) : Bool := arityOk ar && (List.range fs.length).all (roundOk ar fs)
def OkTo (ar : List Int) (fs : List LFact) (k : Nat) : Prop := (List.range k).all (roundOk ar fs) = true
theorem OkTo.step {ar : List Int} {fs : List LFact} {k : Nat} (h : OkTo ar fs k) (e : roundOk ar fs k = true) : OkTo ar fs (k + 1) := by
  unfold OkTo at h ⊢
  rw [List.range_succ, List.all_append, h]
  simp [e]
theorem round_not {ar : List Int} {fs : List LFact} {k : Nat} (hk : k < fs.length) (e : roundOk ar fs k = false) : factsOk ar fs = false := by
  unfold factsOk
  have : (List.range fs.length).all (roundOk ar fs) = false := by
    rw [List.all_eq_false]
    exact ⟨k, List.mem_range.2 hk, by simp [e]⟩
  rw [this, Bool.and_false]
theorem getD_at {α : Type} {l : List α} {k : Nat} (h : k < l.length) {d : α} : l.getD k d = l[k] := by simp [h]
theorem round_first {ar : List Int} {fs : List LFact} {k : Nat} (hk : k < fs.length) (h : factFits ar fs[k] = true) (h0 : k = 0) : roundOk ar fs k = true := by
  unfold roundOk
  rw [getD_at hk, h]
  simp [h0]
theorem round_next {ar : List Int} {fs : List LFact} {j : Nat} (hk : j + 1 < fs.length) (hj : j < fs.length) (h : factFits ar fs[j + 1] = true) : roundOk ar fs (j + 1) = decide (factOrder fs[j] fs[j + 1] < 0) := by
  unfold roundOk
  rw [getD_at hk, h, Nat.add_sub_cancel, getD_at hj]
  simp
theorem round_unfit {ar : List Int} {fs : List LFact} {k : Nat} (hk : k < fs.length) (h : factFits ar fs[k] = false) : roundOk ar fs k = false := by
  unfold roundOk
  rw [getD_at hk, h]
  simp
theorem later_fact {w0 : World} {v : Value} {f : LFact} (h : RdFact w0 w0.heap.size v f) (x : Later w0) : RdFact x.val x.val.heap.size v f := h.on x.2
theorem later_ints {w0 : World} {v : Value} {f : List Int} (h : RdInts w0 w0.heap.size v f) (x : Later w0) : RdInts x.val x.val.heap.size v f := h.on x.2

set_option maxHeartbeats 1000000 in
set_option maxRecDepth 100000 in
theorem specFactsOk_any (v v2 : Value) (ar : List Int) (fs : List LFact) (w : World) (h : RdInts w w.heap.size v ar) (h2 : RdFacts w w.heap.size v2 fs) (hr : ar.length ≤ 1048576) (hn : fs.length ≤ 1048576) (ht : tot fs ≤ 1048576) :
    Calls Tryz.prog 76 #[v, v2] w fun e w' => e = .returned (.bool (factsOk ar fs)) ∧ Below w.heap.size w w' := by
  have H := Lib.hid h
  have H2 := Lib.hid h2
  obtain ⟨A, c, rfl, hc, _⟩ := h
  obtain ⟨A2, c2, rfl, hc2, _⟩ := h2
  go_enter Tryz.func76, Tryz.ntmps76
  go_wp2_with (fail)
  go_loopw [5] (fun i wr => ∃ k : Nat, k ≤ fs.length ∧ i = .int .i64 k ∧ OkTo ar fs k ∧ Below w.heap.size w wr) (fun i _ => fs.length - (intOf i).toNat)
  case atStart => exact ⟨0, Nat.zero_le _, rfl, by simp [OkTo], Below.refl _ _⟩
  case round =>
    obtain ⟨k, hk, rfl, hs, hbe⟩ := hrel
    by_cases hlt : k < fs.length
    · obtain ⟨b, o, A3, c3, rfl, hbB, k1, k2, k3⟩ := (H2.out.on hbe).get hlt
      have K3 := Lib.hid (show RdFact wr wr.heap.size (.agg #[.int .i64 fs[k].1, .slice A3 fs[k].2.length c3]) fs[k] from ⟨_, rfl, k3⟩)
      have hln := len_le_tot fs k hlt
      have L1 := later_cell k1
      have L2 := later_cell k2
      clear k1 k2 k3
      by_cases hfo : factOk ar fs[k] = true
      · have CF := Lib.hid (fun x : Later wr => (specFactOk_any _ _ ar fs[k] x.val ((H.out.on hbe).on x.2) (K3.out.on x.2) hr (by omega)).mono fun e w' (hh : e = .returned (.bool (factOk ar fs[k])) ∧ Below x.val.heap.size x.val w') => (⟨by rw [hh.1, hfo], hh.2⟩ : e = .returned (.bool true) ∧ Below x.val.heap.size x.val w'))
        have hff : factFits ar fs[k] = true := by
          unfold factOk at hfo
          exact (Bool.and_eq_true _ _ ▸ hfo).2
        have HA := Lib.hid (show arityOk ar = true by
          unfold factOk at hfo
          exact (Bool.and_eq_true _ _ ▸ hfo).1)
        clear hfo
        rcases Nat.eq_zero_or_pos k with hk0 | hk0
        · have hd : decide (0 < k) = false := by simp [hk0]
          have HS := Lib.hid (hs.step (round_first hlt hff hk0) : OkTo ar fs (k + 1))
          clear hs hk0 hff
          go_wp2_with (fail)
          refine wp_region_later (by kernel_rfl) (by kernel_rfl) ?_
          repeat (go_big_quiet_step ((go_at_call 121; exact later_of (CF.out _))))
          refine wpQuiet_nil ?_
          rintro _ ⟨xq, rfl⟩
          go_wp2_with (fail)
          go_roundw
          case rel => exact ⟨k + 1, by omega, by go_num, HS.out, bthen hbe xq.2⟩
          case measure => simp [intOf]; omega
        · obtain ⟨j, rfl⟩ : ∃ j, k = j + 1 := ⟨k - 1, by omega⟩
          have hltj : j < fs.length := by omega
          obtain ⟨b', o', A4, c4, e4, hbB', m1, m2, m3⟩ := (H2.out.on hbe).get hltj
          simp only [Option.some.injEq, Addr.mk.injEq, and_true] at e4
          obtain ⟨rfl, rfl⟩ := e4
          have K4 := Lib.hid (show RdFact wr wr.heap.size (.agg #[.int .i64 fs[j].1, .slice A4 fs[j].2.length c4]) fs[j] from ⟨_, rfl, m3⟩)
          have hlnj := len_le_tot fs j hltj
          have M1 := later_cell m1
          have M2 := later_cell m2
          have CO := Lib.hid (fun x : Later wr => specFactOrder_any _ _ fs[j] fs[j + 1] x.val (K4.out.on x.2) (K3.out.on x.2) (by omega) (by omega))
          clear m1 m2 m3
          by_cases hlo : factOrder fs[j] fs[j + 1] < 0
          · have hd : decide (0 ≤ factOrder fs[j] fs[j + 1]) = false := by simp; omega
            have HS := Lib.hid (hs.step (by rw [round_next hlt hltj hff]; simp [hlo]) : OkTo ar fs (j + 1 + 1))
            clear hs hff
            go_wp2_with (fail)
            refine wp_region_later (by kernel_rfl) (by kernel_rfl) ?_
            repeat (go_big_quiet_step (first | (go_at_call 121; exact later_of (CF.out _)) | (go_at_call 122; exact later_of (CO.out _))))
            refine wpQuiet_nil ?_
            rintro _ ⟨xq, rfl⟩
            go_wp2_with (fail)
            go_roundw
            case rel => exact ⟨j + 1 + 1, by omega, by go_num, HS.out, bthen hbe xq.2⟩
            case measure => simp [intOf]; omega
          · have hd : decide (0 ≤ factOrder fs[j] fs[j + 1]) = true := by simp; omega
            have HE := Lib.hid (show factsOk ar fs = false from round_not hlt (by rw [round_next hlt hltj hff]; simp [hlo]))
            clear hs hff
            go_wp2_with (fail)
            refine wp_region_later (by kernel_rfl) (by kernel_rfl) ?_
            repeat (go_big_quiet_step (first | (go_at_call 121; exact later_of (CF.out _)) | (go_at_call 122; exact later_of (CO.out _))))
            refine wpQuiet_nil ?_
            rintro _ ⟨xq, rfl⟩
            go_wp2_with (fail)
            go_ret
            exact ⟨ret_bool HE.out.symm, bthen hbe xq.2⟩
      · have CF := Lib.hid (fun x : Later wr => (specFactOk_any _ _ ar fs[k] x.val ((H.out.on hbe).on x.2) (K3.out.on x.2) hr (by omega)).mono fun e w' (hh : e = .returned (.bool (factOk ar fs[k])) ∧ Below x.val.heap.size x.val w') => (⟨by rw [hh.1, show factOk ar fs[k] = false by simpa using hfo], hh.2⟩ : e = .returned (.bool false) ∧ Below x.val.heap.size x.val w'))
        have HE := Lib.hid (show factsOk ar fs = false by
          by_cases ha : arityOk ar = true
          · exact round_not hlt (round_unfit hlt (by simpa [factOk, ha] using hfo))
          · simp [factsOk, ha])
        clear hs hfo
        go_wp2_with (fail)
        refine wp_region_later (by kernel_rfl) (by kernel_rfl) ?_
        repeat (go_big_quiet_step ((go_at_call 121; exact later_of (CF.out _))))
        refine wpQuiet_nil ?_
        rintro _ ⟨xq, rfl⟩
        go_wp2_with (fail)
        go_ret
        exact ⟨ret_bool HE.out.symm, bthen hbe xq.2⟩
    · have hkn : k = fs.length := by omega
      have HE := Lib.hid (show factsOk ar fs = arityOk ar by unfold factsOk; unfold OkTo at hs; rw [← hkn, hs, Bool.and_true])
      clear hkn hs
      go_wp2_with (fail)
      refine (specArityOk_any _ ar _ (H.out.on hbe) (by omega)).mono ?_
      rintro e w2 ⟨rfl, rfl⟩
      go_wp2_with (fail)
      go_ret
      exact ⟨ret_bool HE.out.symm, hbe⟩

end Go.Proofs.YtigkgheddngkeaaGreatDoor
/-
  The specification's l1Pick, FactsBoth and FactsLess.
-/
namespace Go.Proofs.YtigkgheddngkeaaGreatDoor
open Go.RowKit

theorem filter_tot_le (p : LFact → Bool) : ∀ l : List LFact, tot (l.filter p) ≤ tot l
  | [] => by simp [tot]
  | f :: l => by
    have := filter_tot_le p l
    by_cases h : p f = true <;> simp [h, tot_cons] <;> omega

/-- The facts of a list that another has, or has not. -/
def pickL (xs ys : List LFact) (b : Bool) : List LFact := setOf (xs.filter fun f => factsHas ys f == b)
theorem pickL_bound (xs ys : List LFact) (b : Bool) : (pickL xs ys b).length ≤ xs.length ∧ tot (pickL xs ys b) ≤ tot xs := by
  have h := setOf_bound (xs.filter fun f => factsHas ys f == b)
  have h1 := List.length_filter_le (fun f => factsHas ys f == b) xs
  have h2 := filter_tot_le (fun f => factsHas ys f == b) xs
  unfold pickL
  omega
theorem pickL_yes {xs ys : List LFact} {b : Bool} {k : Nat} (h : k < xs.length) (e : factsHas ys xs[k] = b) : pickL (xs.take (k + 1)) ys b = factsWith (pickL (xs.take k) ys b) xs[k] := by
  unfold pickL
  rw [take_snoc xs k h, List.filter_append, ← setOf_snoc]
  simp [e]
theorem pickL_no {xs ys : List LFact} {b : Bool} {k : Nat} (h : k < xs.length) (e : factsHas ys xs[k] ≠ b) : pickL (xs.take (k + 1)) ys b = pickL (xs.take k) ys b := by
  unfold pickL
  rw [take_snoc xs k h, List.filter_append]
  simp [e]

set_option maxHeartbeats 1000000 in
set_option maxRecDepth 100000 in
theorem l1Pick_any (v v2 : Value) (xs ys : List LFact) (inb : Bool) (w : World) (h : RdFacts w w.heap.size v xs) (h2 : RdFacts w w.heap.size v2 ys) (hn : xs.length + ys.length ≤ 1048576) (ht : tot xs + tot ys ≤ 1048576) :
    Calls Tryz.prog 177 #[v, v2, .bool inb] w fun e w' => ∃ A' c', e = .returned (.slice A' (pickL xs ys inb).length c') ∧ OwnFacts w' w.heap.size w'.heap.size (.slice A' (pickL xs ys inb).length c') (pickL xs ys inb) ∧ Below w.heap.size w w' := by
  have H := Lib.hid h
  have H2 := Lib.hid h2
  obtain ⟨A, c, rfl, hc, _⟩ := h
  obtain ⟨A2, c2, rfl, hc2, _⟩ := h2
  go_enter Tryz.func177, Tryz.ntmps177
  go_wp2_with (fail)
  go_loopw [7, 8] (fun o i wr => ∃ (k : Nat) (gs : List LFact) (A' : Option Addr) (c' : Nat), k ≤ xs.length ∧ i = .int .i64 k ∧ gs = pickL (xs.take k) ys inb ∧ o = .slice A' gs.length c' ∧ OwnFacts wr w.heap.size wr.heap.size (.slice A' gs.length c') gs ∧ Below w.heap.size w wr) (fun _ i _ => xs.length - (intOf i).toNat)
  case atStart => exact ⟨0, [], _, 0, Nat.zero_le _, rfl, rfl, rfl, (ColRel.empty w).own.own.mono (Nat.le_refl _) (Nat.le_refl _), below1 _ _⟩
  case round =>
    obtain ⟨k, gs, A', c', hk, rfl, hgs, rfl, ho, hbe⟩ := hrel
    have hbd := pickL_bound (xs.take k) ys inb
    rw [← hgs, List.length_take] at hbd
    have htk := tot_take_le xs k
    have HO := Lib.hid ho
    have HG := Lib.hid hgs
    clear ho hgs
    by_cases hlt : k < xs.length
    · obtain ⟨b, o, A3, c3, rfl, hbB, k1, k2, k3⟩ := (H.out.on hbe).get hlt
      have hln := len_le_tot xs k hlt
      have K3 := Lib.hid (show RdFact wr wr.heap.size (.agg #[.int .i64 xs[k].1, .slice A3 xs[k].2.length c3]) xs[k] from ⟨_, rfl, k3⟩)
      clear k3
      go_wp2_with (fail)
      refine (specFactsHas_any _ _ ys xs[k] _ (H2.out.on hbe) K3.out (by omega) (by omega) (by omega)).mono ?_
      rintro e w1 ⟨rfl, hb1⟩
      have k11 : w1.cell? ⟨b, o + k * 2, none⟩ = some (.int .i64 xs[k].1) := (hb1.cell hbB).trans k1
      have k12 : w1.cell? ⟨b, o + k * 2 + 1, none⟩ = some (.slice A3 xs[k].2.length c3) := (hb1.cell hbB).trans k2
      have O1 := HO.out.below hb1 (Nat.le_refl _)
      have B1 := bthen hbe hb1
      have K31 := Lib.hid (K3.out.on hb1)
      have hz1 := hb1.size
      clear k1 k2 K3 HO
      by_cases he : factsHas ys xs[k] = inb
      · have HE := Lib.hid (show factsWith gs xs[k] = pickL (xs.take (k + 1)) ys inb by rw [pickL_yes hlt he, ← HG.out])
        have hq : (factsHas ys xs[k] == inb) = true := by simp [he]
        have HO1 := Lib.hid O1
        rw [he]
        clear he O1 hq
        go_wp2_with (fail)
        refine (specFactsWith_any _ _ gs xs[k] _ (HO1.out.rd.more hz1) K31.out (by omega) (by omega) (by omega)).mono ?_
        rintro e w2 ⟨A4, c4, rfl, ho4, hb4⟩
        have HR := Lib.hid (show OwnFacts w2 w.heap.size w2.heap.size _ _ from ho4.mono B1.size (Nat.le_refl _))
        have HB := Lib.hid (bthen B1 hb4)
        clear ho4 hb4
        go_wp2_with (fail)
        go_roundw
        case rel => exact ⟨k + 1, factsWith gs xs[k], _, _, by omega, by go_num, HE.out, rfl, HR.out, HB.out⟩
        case measure => simp [intOf]; omega
      · have HE := Lib.hid (show gs = pickL (xs.take (k + 1)) ys inb by rw [pickL_no hlt he, ← HG.out])
        have hq : (factsHas ys xs[k] == inb) = false := by simp [he]
        have HO1 := Lib.hid (O1.mono (Nat.le_refl _) hz1)
        clear he O1
        go_wp2_with (fail)
        go_roundw
        case rel => exact ⟨k + 1, gs, _, _, by omega, by go_num, HE.out, rfl, HO1.out, B1⟩
        case measure => simp [intOf]; omega
    · have hkn : k = xs.length := by omega
      subst hkn
      have HY := Lib.hid (show gs = pickL xs ys inb by rw [HG.out, List.take_length])
      have HB := Lib.hid hbe
      clear HG
      go_wp2_with (fail)
      go_ret
      rw [← HY.out]
      exact ⟨A', c', rfl, HO.out, HB.out⟩

theorem specFactsLess_any (v v2 : Value) (xs ys : List LFact) (w : World) (h : RdFacts w w.heap.size v xs) (h2 : RdFacts w w.heap.size v2 ys) (hn : xs.length + ys.length ≤ 1048576) (ht : tot xs + tot ys ≤ 1048576) :
    Calls Tryz.prog 135 #[v, v2] w fun e w' => ∃ A' c', e = .returned (.slice A' (pickL xs ys false).length c') ∧ OwnFacts w' w.heap.size w'.heap.size (.slice A' (pickL xs ys false).length c') (pickL xs ys false) ∧ Below w.heap.size w w' := by
  have H := Lib.hid h
  have H2 := Lib.hid h2
  obtain ⟨A, c, rfl, hc, _⟩ := h
  obtain ⟨A2, c2, rfl, hc2, _⟩ := h2
  go_enter Tryz.func135, Tryz.ntmps135
  go_wp2_with (fail)
  refine (l1Pick_any _ _ xs ys false _ H.out H2.out hn ht).mono ?_
  rintro e w1 ⟨A', c', rfl, ho, hb⟩
  have HO := Lib.hid (And.intro ho hb)
  clear ho hb
  go_wp2_with (fail)
  go_ret
  exact ⟨A', c', rfl, HO.out.1, HO.out.2⟩

end Go.Proofs.YtigkgheddngkeaaGreatDoor
/-
  The specification's Consequences and Closed.
-/
namespace Go.Proofs.YtigkgheddngkeaaGreatDoor
open Go.RowKit

/-- The heads that follow. -/
def consL (p : LProg) (fs : List LFact) : List LFact := if progOk p && factsOk p.1 fs then headsAll p.2 fs else []
def closedL (p : LProg) (fs : List LFact) : Bool := progOk p && (factsOk p.1 fs && decide ((pickL (headsAll p.2 fs) fs false).length = 0))

theorem factsOk_parts {ar : List Int} {fs : List LFact} (h : factsOk ar fs = true) : arityOk ar = true ∧ (∀ f ∈ fs, factFits ar f = true) ∧ Asc fs := by
  simp only [factsOk, Bool.and_eq_true, List.all_eq_true, List.mem_range] at h
  obtain ⟨h1, h2⟩ := h
  refine ⟨h1, fun f hf => ?_, ?_⟩
  · obtain ⟨k, hk, rfl⟩ := List.getElem_of_mem hf
    have := h2 k hk
    unfold roundOk at this
    rw [getD_at hk, Bool.and_eq_true] at this
    exact this.1
  · have hs : ∀ k (h0 : k + 1 < fs.length), factOrder (fs[k]'(by omega)) fs[k + 1] < 0 := fun k h0 => by
      have := h2 (k + 1) h0
      unfold roundOk at this
      rw [getD_at h0, Nat.add_sub_cancel, getD_at (show k < fs.length by omega), Bool.and_eq_true] at this
      simpa using this.2
    have hd : ∀ d k (h0 : k + d + 1 < fs.length), factOrder (fs[k]'(by omega)) fs[k + d + 1] < 0 := fun d => by
      induction d with
      | zero => intro k h0; exact hs k h0
      | succ d ih =>
        intro k h0
        exact order_less (ih k (by omega)) (hs (k + d + 1) h0)
    unfold Asc
    rw [List.pairwise_iff_getElem]
    intro i j hi hj hij
    obtain ⟨d, rfl⟩ : ∃ d, j = i + d + 1 := ⟨j - i - 1, by omega⟩
    exact hd d i hj
theorem prog_parts {p : LProg} (h : progOk p = true) : arityOk p.1 = true ∧ p.2.length ≤ 60 ∧ ∀ r ∈ p.2, ruleFits p.1 r = true := by
  simp only [progOk, Bool.and_eq_true, decide_eq_true_eq, List.all_eq_true] at h
  exact ⟨h.1, h.2.1, h.2.2⟩

set_option maxHeartbeats 4000000 in
set_option maxRecDepth 100000 in
theorem specClosed_any (v v2 : Value) (p : LProg) (fs : List LFact) (w : World) (h : RdProg w w.heap.size v p) (h2 : RdFacts w w.heap.size v2 fs) (hs : szP p ≤ 1048576) (hn : fs.length ≤ 1048576) (ht : tot fs ≤ 1048576) :
    Calls Tryz.prog 91 #[v, v2] w fun e w' => e = .returned (.bool (closedL p fs)) ∧ Below w.heap.size w w' := by
  have HP := Lib.hid h
  have H2 := Lib.hid h2
  have hs' := hs
  unfold szP at hs'
  obtain ⟨a, b, rfl, hA, hR⟩ := h
  have HA := Lib.hid hA
  have HR := Lib.hid hR
  obtain ⟨A, c, rfl, hcA, _⟩ := hA
  obtain ⟨A2, c2, rfl, hcR, _⟩ := hR
  obtain ⟨A3, c3, rfl, hcF, _⟩ := h2
  obtain ⟨po, hpo⟩ : ∃ po, po = progOk p := ⟨_, rfl⟩
  obtain ⟨fo, hfo⟩ : ∃ fo, fo = factsOk p.1 fs := ⟨_, rfl⟩
  obtain ⟨R, hRR⟩ : ∃ R, R = closedL p fs := ⟨_, rfl⟩
  have HRR := Lib.hid (show R = (po && (fo && decide ((pickL (headsAll p.2 fs) fs false).length = 0))) by rw [hRR, hpo, hfo]; rfl)
  rw [← hRR]
  clear hRR
  go_enter Tryz.func91, Tryz.ntmps91
  go_upto_region 1 with fail
  obtain ⟨w1, hw1⟩ : ∃ w1, w1 = w.alloc (Obj.cells #[Value.slice A p.1.length c, Value.slice A2 p.2.length c2] 33) := ⟨_, rfl⟩
  have X1 : Blk w1 w.heap.size 33 #[.slice A p.1.length c, .slice A2 p.2.length c2] := by rw [hw1]; exact Blk.new _ _ _
  have B1 : Below w.heap.size w w1 := by rw [hw1]; exact below1 _ _
  rw [← hw1]
  clear hw1
  have x0 : w1.cell? ⟨w.heap.size, 0, none⟩ = some (.slice A p.1.length c) := X1.cell 0
  have x1 : w1.cell? ⟨w.heap.size, 1, none⟩ = some (.slice A2 p.2.length c2) := X1.cell 1
  have CP := Lib.hid ((specProgramOk_any _ p w1 (HP.out.on B1) hs).mono fun e w' (hh : e = .returned (.bool (progOk p)) ∧ Below w1.heap.size w1 w') => (⟨by rw [hh.1, hpo], hh.2⟩ : e = .returned (.bool po) ∧ Below w1.heap.size w1 w'))
  have CF := Lib.hid (fun W (hW : Below w.heap.size w W) => (specFactsOk_any _ _ p.1 fs W (HA.out.on hW) (H2.out.on hW) (by omega) (by omega) (by omega)).mono fun e w' (hh : e = .returned (.bool (factsOk p.1 fs)) ∧ Below W.heap.size W w') => (⟨by rw [hh.1, hfo], hh.2⟩ : e = .returned (.bool fo) ∧ Below W.heap.size W w'))
  have HPO := Lib.hid hpo
  have HFO := Lib.hid hfo
  have HX1 := Lib.hid X1
  clear hpo hfo X1
  cases po
  · go_wp2_with (go_at_call 110; refine CP.out.mono ?_; rintro e w2 ⟨rfl, b2⟩; have B2 := Lib.hid (bthen B1 b2); clear b2)
    go_ret
    exact ⟨ret_bool (by rw [HRR.out]; rfl), B2.out⟩
  · cases fo
    · go_wp2_with (first
        | (go_at_call 110; refine CP.out.mono ?_; rintro e w2 ⟨rfl, b2⟩; have B2 := Lib.hid (bthen B1 b2)
           have x20 : w2.cell? ⟨w.heap.size, 0, none⟩ = some (.slice A p.1.length c) := (HX1.out.below b2 HX1.out.lt).cell 0
           clear b2)
        | (go_at_call 76; refine (CF.out _ B2.out).mono ?_; rintro e w3 ⟨rfl, b3⟩; have B3 := Lib.hid (bthen B2.out b3); clear b3))
      go_ret
      exact ⟨ret_bool (by rw [HRR.out]; rfl), B3.out⟩
    · obtain ⟨har, hrl, hfit⟩ := prog_parts HPO.out.symm
      obtain ⟨_, hff, hasc⟩ := factsOk_parts HFO.out.symm
      have HFEW := Lib.hid (And.intro (headsAll_few fs har hfit) (facts_few har (asc_nodup hasc) hff))
      have CA := Lib.hid (fun W (hW : Below w.heap.size w W) => l4All_any (.slice A2 p.2.length c2) (.slice A3 fs.length c3) p.1 p.2 fs W (HR.out.on hW) (H2.out.on hW) har hfit (by omega) (by omega) (by omega) (by omega) (fun f hf => (fits_parts (hff f hf)).2) (asc_nodup hasc))
      have CL := Lib.hid (fun W v (hW : Below w.heap.size w W) (hv : RdFacts W W.heap.size v (headsAll p.2 fs)) => specFactsLess_any v (.slice A3 fs.length c3) (headsAll p.2 fs) fs W hv (H2.out.on hW) (by have := HFEW.out; omega) (by have := HFEW.out; omega))
      clear har hrl hfit hff hasc
      obtain ⟨L, hL⟩ : ∃ L, L = pickL (headsAll p.2 fs) fs false := ⟨_, rfl⟩
      rw [← hL] at CL HRR
      clear hL
      go_wp2_with (first
        | (go_at_call 110; refine CP.out.mono ?_; rintro e w2 ⟨rfl, b2⟩; have B2 := Lib.hid (bthen B1 b2)
           have HX2 := Lib.hid (HX1.out.below b2 HX1.out.lt)
           have x20 : w2.cell? ⟨w.heap.size, 0, none⟩ = some (.slice A p.1.length c) := HX2.out.cell 0
           clear b2)
        | (go_at_call 76; refine (CF.out _ B2.out).mono ?_; rintro e w3 ⟨rfl, b3⟩; have B3 := Lib.hid (bthen B2.out b3)
           have x31 : w3.cell? ⟨w.heap.size, 1, none⟩ = some (.slice A2 p.2.length c2) := (HX2.out.below b3 HX2.out.lt).cell 1
           clear b3)
        | (go_at_call 100; refine (CA.out _ B3.out).mono ?_; rintro e w4 ⟨A4, c4, rfl, o4, b4⟩; have B4 := Lib.hid (bthen B3.out b4)
           have HL4 := Lib.hid (CL.out _ _ B4.out o4.rd)
           clear o4 b4)
        | (go_at_call 135; refine HL4.out.mono ?_; rintro e w5 ⟨A5, c5, rfl, o5, b5⟩; have B5 := Lib.hid (bthen B4.out b5); clear o5 b5))
      go_ret
      exact ⟨ret_bool (by rw [HRR.out, Bool.true_and, Bool.true_and, Bool.eq_iff_iff, beq_iff_eq, decide_eq_true_eq]; omega), B5.out⟩

end Go.Proofs.YtigkgheddngkeaaGreatDoor
/-
  The heads of a rule by its solutions: plain mathematics.
-/
namespace Go.Proofs.YtigkgheddngkeaaGreatDoor
open Go.RowKit

theorem safeTo_or {a b y : Nat} (h : safeTo (a ||| b) y 4 = true) : safeTo b y 4 = true := by
  rw [safeTo_iff] at h ⊢
  intro v hv hb
  exact h v hv (by rw [Nat.testBit_or, hb, Bool.or_true])
/-- A rule that fits has a body that can be asked. -/
theorem fits_body {ar : List Int} {r : LRule} (h : ruleFits ar r = true) : bodySafe r.2 = true := by
  simp only [ruleFits, Bool.and_eq_true, decide_eq_true_eq] at h
  obtain ⟨_, h4, hl, hs⟩ := h
  unfold bodySafe
  rw [Bool.and_eq_true, Bool.and_eq_true, decide_eq_true_eq, List.all_eq_true]
  refine ⟨⟨fun l hm => ?_, h4⟩, ?_⟩
  · have hf := List.all_eq_true.1 hl l hm
    refine litFine_yes ?_ (lit_terms hf)
    unfold litFits at hf
    split at hf
    · omega
    · split at hf
      · omega
      · cases hf
  · rw [ruleSafe_eq] at hs ⊢
    rw [ruleMask_body]
    exact safeTo_or hs
/-- The variables of the head stand in an atom that is to hold. -/
theorem fits_head {ar : List Int} {r : LRule} (h : ruleFits ar r = true) : ∀ v, v < 4 → (maskOf r.1.2).testBit v = true → ∃ l ∈ r.2, l.1 = 0 ∧ (maskOf l.2.2).testBit v = true := by
  simp only [ruleFits, Bool.and_eq_true, decide_eq_true_eq] at h
  obtain ⟨_, _, _, hs⟩ := h
  rw [ruleSafe_eq, safeTo_iff] at hs
  intro v hv hm
  have := hs v hv (by unfold ruleMask; rw [Nat.testBit_or, hm, Bool.true_or])
  unfold yesMask at this
  rw [yesMask_bit] at this
  simpa using this
/-- A solution makes a head. -/
theorem sols_head {ar : List Int} {r : LRule} {fs : List LFact} {S : List (List Int)} (h : ruleFits ar r = true) (hS : IsSols (questL fs r.2) S) : ∀ b ∈ S, headOk r.1 b = true := by
  intro b hb
  obtain ⟨h1, h2, _⟩ := (hS.2 b).1 hb
  have hf := h
  simp only [ruleFits, atomFits, Bool.and_eq_true, decide_eq_true_eq] at hf
  refine headOk_yes h1 hf.1.2 (List.all_eq_true.2 fun x hx => ?_)
  obtain ⟨t, ht, rfl⟩ := List.mem_map.1 hx
  have htk : termOk t = true := List.all_eq_true.1 hf.1.2 t ht
  have hbd := termVal_bounds h1 htk
  rcases term_cases htk with h' | ⟨v, hv, rfl⟩
  · rw [termVal_const h'.1]
    simp [constOk]
    exact h'
  · have hm : (maskOf r.1.2).testBit v = true := by unfold maskOf; rw [maskFrom_bit hv]; exact .inr ht
    obtain ⟨l, hl, _, hlm⟩ := fits_head h v hv hm
    have hne := (h2 v hv).2 ⟨(l, fs), List.mem_map.2 ⟨l, hl, rfl⟩, hlm⟩
    rw [termVal_v] at hbd ⊢
    unfold constOk
    exact decide_eq_true (by omega)
theorem headsTo_mem (a : LFact) (S : List (List Int)) (f : LFact) : ∀ k, k ≤ S.length → (f ∈ headsTo a S k ↔ ∃ b ∈ S.take k, headOk a b = true ∧ f = headOf a b)
  | 0, _ => by simp [headsTo]
  | k + 1, hk => by
    have ih := headsTo_mem a S f k (by omega)
    have hlt : k < S.length := by omega
    rw [take_snoc S k hlt]
    cases e : headOk a S[k]
    · rw [headsTo_no hlt e, ih]
      constructor
      · rintro ⟨b, hb, h⟩; exact ⟨b, List.mem_append_left _ hb, h⟩
      · rintro ⟨b, hb, h⟩
        rcases List.mem_append.1 hb with hb | hb
        · exact ⟨b, hb, h⟩
        · obtain rfl : b = S[k] := by simpa using hb
          rw [e] at h; cases h.1
    · rw [headsTo_yes hlt e, factsWith_mem, ih]
      constructor
      · rintro (⟨b, hb, h⟩ | rfl)
        · exact ⟨b, List.mem_append_left _ hb, h⟩
        · exact ⟨S[k], List.mem_append_right _ (List.mem_singleton_self _), e, rfl⟩
      · rintro ⟨b, hb, h⟩
        rcases List.mem_append.1 hb with hb | hb
        · exact .inl ⟨b, hb, h⟩
        · obtain rfl : b = S[k] := by simpa using hb
          exact .inr h.2
/-- The heads, by whatever list of the solutions. -/
theorem headsL_mem {ar : List Int} {r : LRule} {fs : List LFact} {S : List (List Int)} (h : ruleFits ar r = true) (hS : IsSols (questL fs r.2) S) (hc : ∀ f ∈ fs, f.2.all constOk = true) (hn : fs.Nodup) (f : LFact) :
    f ∈ headsL r fs ↔ ∃ b ∈ S, f = (r.1.1, r.1.2.map (termVal b)) := by
  obtain ⟨_, h2⟩ := solsOf_is (fs := fs) (gs := fs) (SafeB.of (fits_body h)) hc hn (fun _ => Iff.rfl)
  unfold headsL
  rw [headsTo_mem _ _ _ _ (Nat.le_refl _), List.take_length]
  constructor
  · rintro ⟨b, hb, e, rfl⟩
    exact ⟨b, (hS.2 b).2 ((h2.2 b).1 hb), headOf_yes e⟩
  · rintro ⟨b, hb, rfl⟩
    have e := sols_head h hS b hb
    exact ⟨b, (h2.2 b).2 ((hS.2 b).1 hb), e, (headOf_yes e).symm⟩

end Go.Proofs.YtigkgheddngkeaaGreatDoor
/-
  Tables of facts: a word for each predicate.
-/
namespace Go.Proofs.YtigkgheddngkeaaGreatDoor
open Go.RowKit

/-- The words of a table, with one fact more. -/
def setBit (T : List Nat) (p n : Nat) : List Nat := T.set p (T.getD p 0 ||| 2 ^ n)
def tabCells (T : List Nat) : Array Value := (T.map fun x => Value.int .u64 ((x : Nat) : Int)).toArray
/-- A table stands in block g. -/
def TabAt (w : World) (g : Nat) (T : List Nat) : Prop := Blk w g 83 (tabCells T) ∧ T.length = 24 ∧ ∀ x ∈ T, x < 18446744073709551616
theorem TabAt.cell {w : World} {g p : Nat} {T : List Nat} (h : TabAt w g T) (hp : p < 24) : w.cell? ⟨g, p, none⟩ = some (.int .u64 ((T.getD p 0 : Nat) : Int)) := by
  rw [h.1.cell p]
  have : p < T.length := by rw [h.2.1]; exact hp
  simp [tabCells, this]
theorem TabAt.lt {w : World} {g p : Nat} {T : List Nat} (h : TabAt w g T) : T.getD p 0 < 18446744073709551616 := by
  by_cases hp : p < T.length
  · have : T.getD p 0 = T[p] := by simp [hp]
    rw [this]
    exact h.2.2 _ (List.getElem_mem hp)
  · simp [List.getD_eq_getElem?_getD, List.getElem?_eq_none (by omega : T.length ≤ p)]
theorem TabAt.set {w : World} {g p n : Nat} {T : List Nat} (h : TabAt w g T) (hn : n < 64) : TabAt (w.setCell ⟨g, p, none⟩ (.int .u64 ((T.getD p 0 ||| 2 ^ n : Nat) : Int))) g (setBit T p n) := by
  have hlt := h.lt (p := p)
  obtain ⟨h1, h2, h3⟩ := h
  refine ⟨?_, by simp [setBit, h2], fun x hx => ?_⟩
  · have := h1.set_ p (.int .u64 ((T.getD p 0 ||| 2 ^ n : Nat) : Int))
    have e : tabCells (setBit T p n) = (tabCells T).setIfInBounds p (.int .u64 ((T.getD p 0 ||| 2 ^ n : Nat) : Int)) := by
      unfold tabCells setBit
      rw [List.map_set]
      simp
    rw [e]
    exact this
  · rcases List.mem_or_eq_of_mem_set hx with h4 | rfl
    · exact h3 x h4
    · exact Nat.or_lt_two_pow (n := 64) hlt (Nat.pow_lt_pow_right (by decide) hn)

set_option maxHeartbeats 1000000 in
set_option maxRecDepth 100000 in
theorem add_any (g p n : Nat) (T : List Nat) (w : World) (h : TabAt w g T) (hp : p < 24) (hn : n < 64) :
    Calls Tryz.prog 103 #[.pointer (some ⟨g, 0, none⟩), .int .i64 p, .int .i64 n] w fun e w' =>
      e = .returned (.bool (!(T.getD p 0).testBit n)) ∧ TabAt w' g (setBit T p n) ∧ Only g (g + 1) w w' := by
  have hc := h.cell hp
  have hf := h.1.frozen p
  have HS := Lib.hid (show ∀ W, W.heap[g]? = w.heap[g]? → TabAt W g T from fun W hW => ⟨hW.trans h.1, h.2⟩)
  have hlt := h.lt (p := p)
  have HL := Lib.hid h.1.lt
  clear h
  obtain ⟨x, hx⟩ : ∃ x, x = T.getD p 0 := ⟨_, rfl⟩
  obtain ⟨m, hm⟩ : ∃ m, m = 2 ^ n := ⟨_, rfl⟩
  have hml : m < 18446744073709551616 := by rw [hm]; exact Nat.pow_lt_pow_right (by decide) hn
  have hwr : IntKind.u64.wrap (2 ^ n) = (m : Int) := by
    have e : ((2 : Int) ^ n) = ((m : Nat) : Int) := by rw [hm]; simp
    rw [e]
    unfold IntKind.wrap
    simp [IntKind.bits, IntKind.signed] <;> omega
  rw [← hx] at hc hlt ⊢
  have hand : (bits .and .u64 (x : Int) (m : Int) == 0) = !(x.testBit n) := by
    rw [u64_and_nat x m hlt hml, hm]
    cases ht : x.testBit n
    · have : x &&& 2 ^ n = 0 := by
        apply Nat.eq_of_testBit_eq
        intro i
        rw [Nat.testBit_and, Nat.testBit_two_pow, Nat.zero_testBit]
        by_cases e : n = i
        · subst e; rw [ht]; rfl
        · simp [e]
      rw [this]
      rfl
    · have : x &&& 2 ^ n ≠ 0 := fun e => by
        have := congrArg (fun y => y.testBit n) e
        simp [Nat.testBit_and, ht] at this
      have h2 : ((x &&& 2 ^ n : Nat) : Int) ≠ 0 := by omega
      simpa using h2
  have hor : bits .or .u64 (x : Int) (m : Int) = ((x ||| m : Nat) : Int) := u64_or_nat x m hlt hml
  have HM := Lib.hid (And.intro hx hm)
  clear hx hm hml hlt
  go_enter Tryz.func103, Tryz.ntmps103
  go_upto_region 3 with fail
  have hc2 : w.drew.cell? ⟨g, p, none⟩ = some (.int .u64 ((x : Nat) : Int)) := hc
  have hpi : (p : Int) < 24 := by omega
  have hf2 : w.drew.frozen? ⟨g, p, none⟩ = false := hf
  go_region_law (fail)
  go_wp2_with fail
  go_ret
  obtain ⟨rfl, rfl⟩ := HM.out
  have hset := (HS.out w rfl).set (p := p) hn
  have ho : Only g (g + 1) w (w.setCell ⟨g, p, none⟩ (.int .u64 ((T.getD p 0 ||| 2 ^ n : Nat) : Int))) := (Only.refl g (g + 1) w).setCell ⟨Nat.le_refl g, Nat.lt_succ_self g⟩ _
  exact ⟨rfl, hset, ho.trans (Only.of_below (bdrewN (Below.refl _ _) 1))⟩

end Go.Proofs.YtigkgheddngkeaaGreatDoor
