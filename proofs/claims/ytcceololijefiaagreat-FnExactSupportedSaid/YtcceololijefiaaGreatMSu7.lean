/-
  Texts that the claim's last one imports, laid together: part 7 of 9. No condition of its own.
-/
import Derived.StillTailTactics
import Derived.Deep.QuietTactic
import Derived.BigQuiet
import Derived.Test.YtcceololijefiaaGreatChecked
import Derived.ProofKit
import Derived.OpenShut
import Derived.ChangeOld
import Derived.WalkKit
import Derived.Deep.Slices
import Derived.Deep.Fields
import Derived.ChangeSame
import Derived.Lib.SmallJoins
import Derived.KernelRfl
import Derived.Test.YtcceololijefiaaGreatMSu1
import Derived.Test.YtcceololijefiaaGreatMSu2
import Derived.Test.YtcceololijefiaaGreatMSu3
import Derived.Test.YtcceololijefiaaGreatMSu5
import Derived.Test.YtcceololijefiaaGreatMSu6
/-
  The specification's l4Of, l4All: the heads of rules.
-/
namespace Go.Proofs.YtcceololijefiaaGreat
open Go.RowKit

/-- The heads for the first k lists. -/
def headsTo (a : LFact) (S : List (List Int)) : Nat → List LFact
  | 0 => []
  | k + 1 => if headOk a (S.getD k []) then factsWith (headsTo a S k) (headOf a (S.getD k [])) else headsTo a S k
theorem headsTo_yes {a : LFact} {S : List (List Int)} {k : Nat} (h : k < S.length) (e : headOk a S[k] = true) : headsTo a S (k + 1) = factsWith (headsTo a S k) (headOf a S[k]) := by
  have hd : S.getD k [] = S[k] := by simp [h]
  show (if _ then _ else _) = _
  rw [hd, if_pos e]
theorem headsTo_no {a : LFact} {S : List (List Int)} {k : Nat} (h : k < S.length) (e : headOk a S[k] = false) : headsTo a S (k + 1) = headsTo a S k := by
  have hd : S.getD k [] = S[k] := by simp [h]
  show (if _ then _ else _) = _
  rw [hd, if_neg (by rw [e]; simp)]
theorem headsTo_bound {a : LFact} {S : List (List Int)} (ha : a.2.length ≤ 2) : ∀ k, (headsTo a S k).length ≤ k ∧ tot (headsTo a S k) ≤ k * 2
  | 0 => ⟨Nat.le_refl _, Nat.le_refl _⟩
  | k + 1 => by
    have ih := headsTo_bound (S := S) ha k
    show List.length (if _ then _ else _) ≤ _ ∧ tot (if _ then _ else _) ≤ _
    split
    · have hb := factsWith_bound (headsTo a S k) (headOf a (S.getD k []))
      have hl := headOf_length a (S.getD k [])
      omega
    · omega
/-- The heads of a rule. -/
def headsL (r : LRule) (gs : List LFact) : List LFact := headsTo r.1 (solsOf gs r.2) (solsOf gs r.2).length

set_option maxHeartbeats 8000000 in
set_option maxRecDepth 100000 in
theorem l4Of_any (v v2 : Value) (r : LRule) (gs : List LFact) (w : World) (h : RdRule w w.heap.size v r) (h2 : RdFacts w w.heap.size v2 gs) (hn : gs.length ≤ 1048576) (ht : tot gs ≤ 1048576) (hl : r.2.length + totL r.2 ≤ 1048576)
    (hc : ∀ f ∈ gs, f.2.all constOk = true) (hnd : gs.Nodup) (hT : ∀ l ∈ r.2, l.2.2.all termOk = true) (ha : r.1.2.length ≤ 2) :
    Calls Tryz.prog 40 #[v, v2] w fun e w' => ∃ A c, e = .returned (.slice A (headsL r gs).length c) ∧ OwnFacts w' w.heap.size w'.heap.size (.slice A (headsL r gs).length c) (headsL r gs) ∧ Below w.heap.size w w' := by
  obtain ⟨a, b, rfl, h, h3⟩ := h
  have H := Lib.hid h
  have H2 := Lib.hid h2
  have H3 := Lib.hid h3
  obtain ⟨A, c, rfl, hcA, _⟩ := h
  obtain ⟨A2, c2, rfl, hc2, _⟩ := h2
  obtain ⟨A3, c3, rfl, hc3, _⟩ := h3
  obtain ⟨S, hS⟩ : ∃ S, S = solsOf gs r.2 := ⟨_, rfl⟩
  have HOKS := Lib.hid (show (∀ s ∈ S, bindOk s = true) ∧ S.length ≤ 65536 from by
    obtain ⟨h1, h2⟩ := bindsTo_ok hc hnd hT (Nat.le_refl _)
    rw [hS]
    have hup := (triedTo_is gs (restTo r.2 r.2.length) (bindsTo gs r.2 r.2.length) _ (Nat.le_refl _)).1
    have hok : ∀ s ∈ solsOf gs r.2, bindOk s = true := fun s hs => h1 s (triedTo_sub (Nat.le_refl _) s hs)
    exact ⟨hok, binds_len hup.nodup hok⟩)
  have CL := Lib.hid (fun W (hW : Below w.heap.size w W) => l3Solutions_any (.slice A2 gs.length c2) (.slice A3 r.2.length c3) gs r.2 S hS W (H2.out.on hW) (H3.out.on hW) hn ht hl hc hnd hT)
  have HR := Lib.hid (show headsL r gs = headsTo r.1 S S.length by rw [hS]; rfl)
  clear hc hnd hT hS
  go_enter Tryz.func40, Tryz.ntmps40
  go_upto_region 1 with fail
  obtain ⟨w1, hw1⟩ : ∃ w1, w1 = w.alloc (Obj.cells #[Value.int IntKind.i64 r.1.1, Value.slice A r.1.2.length c, Value.slice A3 r.2.length c3] 72) := ⟨_, rfl⟩
  have X1 : Blk w1 w.heap.size 72 #[.int .i64 r.1.1, .slice A r.1.2.length c, .slice A3 r.2.length c3] := by rw [hw1]; exact Blk.new _ _ _
  have B1 : Below w.heap.size w w1 := by rw [hw1]; exact below1 _ _
  rw [← hw1]
  clear hw1
  go_upto_region 2 with fail
  obtain ⟨w2, hw2⟩ : ∃ w2, w2 = w1.alloc (Obj.cells #[] 52) := ⟨_, rfl⟩
  have b2 : Below w1.heap.size w1 w2 := by rw [hw2]; exact below1 _ _
  have HO2 := Lib.hid (show OwnFacts w2 w1.heap.size w2.heap.size (.slice (some ⟨w1.heap.size, 0, none⟩) 0 0) [] by rw [hw2]; exact (ColRel.empty w1).own.own)
  rw [← hw2]
  clear hw2
  have X2 := X1.below b2 X1.lt
  have B2 := bthen B1 b2
  have hs12 := b2.size
  have hs01 := B1.size
  have x0 : w2.cell? ⟨w.heap.size, 0, none⟩ = some (.int .i64 r.1.1) := X2.cell 0
  have x1 : w2.cell? ⟨w.heap.size, 1, none⟩ = some (.slice A r.1.2.length c) := X2.cell 1
  have x2 : w2.cell? ⟨w.heap.size, 2, none⟩ = some (.slice A3 r.2.length c3) := X2.cell 2
  clear X1 b2 B1
  go_wp2_with (go_at_call 61; refine (CL.out _ B2).mono ?_; rintro e w3 ⟨A4, c4, rfl, o4, b4⟩; have H4 := Lib.hid (And.intro o4 b4); clear o4 b4)
  obtain ⟨o4, b4⟩ := H4.out
  have HX3 := Lib.hid (X2.below b4 X2.lt)
  have HS3 := Lib.hid o4
  have B3 := bthen B2 b4
  have hs23 := b4.size
  have HO3 := Lib.hid ((HO2.out.below b4 (Nat.le_refl _)).mono (show w.heap.size ≤ w1.heap.size by omega) (show w2.heap.size ≤ w3.heap.size by omega))
  have H1 := Lib.hid (H.out.on B3)
  have hXl : w.heap.size < w3.heap.size := HX3.out.lt
  clear o4 b4 H4 x0 x1 x2 X2 CL HO2
  go_loopw [5, 7] (fun vo vi wr => ∃ (k : Nat) (Ao : Option Addr) (co : Nat), k ≤ S.length ∧ vi = .int .i64 k ∧ vo = .slice Ao (headsTo r.1 S k).length co ∧ OwnFacts wr w.heap.size wr.heap.size (.slice Ao (headsTo r.1 S k).length co) (headsTo r.1 S k) ∧ Below w3.heap.size w3 wr) (fun _ vi _ => S.length - (intOf vi).toNat)
  case atStart => exact ⟨0, _, 0, Nat.zero_le _, rfl, rfl, HO3.out, Below.refl _ _⟩
  case round =>
    obtain ⟨k, Ao, co, hk, rfl, rfl, hout, hbe⟩ := hrel
    by_cases hlt : k < S.length
    · obtain ⟨g, A7, c7, rfl, hgl, r0, o7⟩ := (HS3.out.below hbe (Nat.le_refl _)).get hlt
      have hsz := hbe.size
      have hb4 := Lib.hid (HOKS.out.1 _ (List.getElem_mem hlt))
      have hb5 : S[k].length ≤ 1048576 := by rw [bindOk_len hb4.out]; decide
      obtain ⟨F, hF⟩ : ∃ F, F = headOf r.1 S[k] := ⟨_, rfl⟩
      obtain ⟨ok, hok⟩ : ∃ ok, ok = headOk r.1 S[k] := ⟨_, rfl⟩
      have HM := Lib.hid (show ∀ W, Below wr.heap.size wr W → Calls Tryz.prog 62 #[.agg #[.int .i64 r.1.1, .slice A r.1.2.length c], .slice A7 S[k].length c7] W fun e w' => ∃ A' c', e = .returned (.tuple #[.agg #[.int .i64 F.1, .slice A' F.2.length c'], .bool ok]) ∧ OwnInts w' W.heap.size w'.heap.size (.slice A' F.2.length c') F.2 ∧ Below W.heap.size W w' from fun W hW => by
        rw [hF, hok]
        exact specHeadOf_any _ _ r.1 S[k] W ⟨_, rfl, (H1.out.on hbe).on hW⟩ ((o7.below hW (by omega)).rd.more (by have := hW.size; omega)) (by omega) hb5)
      have HF := Lib.hid (And.intro hF hok)
      have HOUT := Lib.hid hout
      have HBE := Lib.hid hbe
      have q0 : wr.cell? ⟨w.heap.size, 0, none⟩ = some (.int .i64 r.1.1) := (HX3.out.below hbe hXl).cell 0
      have q1 : wr.cell? ⟨w.heap.size, 1, none⟩ = some (.slice A r.1.2.length c) := (HX3.out.below hbe hXl).cell 1
      clear o7 hF hok hout hbe
      obtain ⟨SS, hSS⟩ : ∃ SS : World → Prop, SS = (fun W => Below wr.heap.size wr W ∧ W.cell? ⟨w.heap.size, 0, none⟩ = some (.int .i64 r.1.1) ∧ W.cell? ⟨w.heap.size, 1, none⟩ = some (.slice A r.1.2.length c) ∧ W.cell? ⟨g, k, none⟩ = some (.slice A7 S[k].length c7)) := ⟨_, rfl⟩
      have HB := Lib.hid (show ∀ W, SS W → (Below wr.heap.size wr W ∧ W.cell? ⟨w.heap.size, 0, none⟩ = some (.int .i64 r.1.1) ∧ W.cell? ⟨w.heap.size, 1, none⟩ = some (.slice A r.1.2.length c) ∧ W.cell? ⟨g, k, none⟩ = some (.slice A7 S[k].length c7)) from by rw [hSS]; exact fun W hW => hW)
      have HS := Lib.hid (show ∀ W, Below wr.heap.size wr W → SS W from by
        rw [hSS]
        exact fun W hW => ⟨hW, (hW.cell (World.block_lt_of_cell? _ _ q0)).trans q0, (hW.cell (World.block_lt_of_cell? _ _ q1)).trans q1, (hW.cell (World.block_lt_of_cell? _ _ r0)).trans r0⟩)
      clear hSS
      go_upto_region 6 with fail
      go_cut [8, 9] (fun s8 s9 wx => ∃ (gb : Nat) (A' : Option Addr) (c' : Nat), s8 = .pointer (some ⟨gb, 0, none⟩) ∧ s9 = .bool ok ∧ Blk wx gb 52 #[.int .i64 F.1, .slice A' F.2.length c'] ∧ OwnInts wx wr.heap.size wx.heap.size (.slice A' F.2.length c') F.2 ∧ Below wr.heap.size wr wx)
      case first =>
          have BB : Below wr.heap.size wr wr.drew := (Below.refl _ _).drew
          have SB := HS.out _ BB
          refine wp_region_rel SS 11 13 (by kernel_rfl) rfl ?_
          refine wpAnyR_pure (i := 0) (oi := _) ?v0 rfl rfl (by kernel_rfl) (by decide) (fun _ _ _ h => h) rfl ?hy0 (fun _ => SB) ?rest0
          case hy0 => (intro W; go_simp; (try with_reducible rfl))
          try simp only [List.setIfInBounds_toArray, List.set_cons_zero, List.set_cons_succ]
          refine wpAnyR_take (i := 1) (oi := _) ?v1 rfl rfl (by kernel_rfl) (fun _ _ _ h => h) rfl ?hy1 SB ?rest1
          case hy1 => (intro W hW; obtain ⟨_, e0, e1, e2⟩ := HB.out W hW; go_simp; (try with_reducible rfl))
          try simp only [List.setIfInBounds_toArray, List.set_cons_zero, List.set_cons_succ]
          refine wpAnyR_pure (i := 2) (oi := _) ?v2 rfl rfl (by kernel_rfl) (by decide) (fun _ _ _ h => h) rfl ?hy2 (fun _ => SB) ?rest2
          case hy2 => (intro W; go_simp; (try with_reducible rfl))
          try simp only [List.setIfInBounds_toArray, List.set_cons_zero, List.set_cons_succ]
          refine wpAnyR_pure (i := 3) (oi := _) ?v3 rfl rfl (by kernel_rfl) (by decide) (fun _ _ _ h => h) rfl ?hy3 (fun _ => SB) ?rest3
          case hy3 => (intro W; go_simp; (try with_reducible rfl))
          try simp only [List.setIfInBounds_toArray, List.set_cons_zero, List.set_cons_succ]
          refine wpAnyR_pure (i := 4) (oi := _) ?v4 rfl rfl (by kernel_rfl) (by decide) (fun _ _ _ h => h) rfl ?hy4 (fun _ => SB) ?rest4
          case hy4 => (intro W; go_simp; (try with_reducible rfl))
          try simp only [List.setIfInBounds_toArray, List.set_cons_zero, List.set_cons_succ]
          refine wpAnyR_take (i := 5) (oi := _) ?v5 rfl rfl (by kernel_rfl) (fun _ _ _ h => h) rfl ?hy5 SB ?rest5
          case hy5 => (intro W hW; obtain ⟨_, e0, e1, e2⟩ := HB.out W hW; go_simp; (try with_reducible rfl))
          try simp only [List.setIfInBounds_toArray, List.set_cons_zero, List.set_cons_succ]
          refine wpAnyR_two (i := 6) (j := 10) (by kernel_rfl) rfl rfl (fun K hK => ?_) (fun K hK => ?_)
          · try rw [if_pos (show Region.wanted _ _ = true from rfl)]
            go_simp
            refine (HM.out _ BB).mono ?_
            rintro e W6 ⟨A', c', rfl, ho6, hb6⟩
            have BB6 := bthen BB hb6
            have SB := HS.out _ BB6
            refine hK.out _ _ (fun _ => SB) ?_
            clear hK K
            try simp only [List.setIfInBounds_toArray, List.set_cons_zero, List.set_cons_succ, Act.put]
            refine wpAnyR_pure (i := 7) (oi := _) ?v7 rfl rfl (by kernel_rfl) (by decide) (fun _ _ _ h => h) rfl ?hy7 (fun _ => SB) ?rest7
            case hy7 => (intro W; go_simp; (try with_reducible rfl))
            try simp only [List.setIfInBounds_toArray, List.set_cons_zero, List.set_cons_succ]
            refine wpAnyR_pure (i := 8) (oi := _) ?v8 rfl rfl (by kernel_rfl) (by decide) (fun _ _ _ h => h) rfl ?hy8 (fun _ => SB) ?rest8
            case hy8 => (intro W; go_simp; (try with_reducible rfl))
            try simp only [List.setIfInBounds_toArray, List.set_cons_zero, List.set_cons_succ]
            refine wpAnyR_pure (i := 9) (oi := _) ?v9 rfl rfl (by kernel_rfl) (by decide) (fun _ _ _ h => h) rfl ?hy9 (fun _ => SB) ?rest9
            case hy9 => (intro W; go_simp; (try with_reducible rfl))
            try simp only [List.setIfInBounds_toArray, List.set_cons_zero, List.set_cons_succ]
            refine wpAnyR_one (i := 10) (by kernel_rfl) rfl (fun K hK => ?_)
            try rw [if_pos (show Region.wanted _ _ = true from rfl)]
            go_simp
            obtain ⟨W7, hW7⟩ : ∃ W7, W7 = W6.alloc (Obj.cells #[Value.int IntKind.i64 0, Value.slice none 0 0] 52) := ⟨_, rfl⟩
            rw [← hW7]
            have b67 : Below W6.heap.size W6 W7 := by rw [hW7]; exact below1 _ _
            have BB7 := bthen BB6 b67
            have X7 : Blk W7 W6.heap.size 52 #[.int .i64 0, .slice none 0 0] := by rw [hW7]; exact Blk.new _ _ _
            have H67 := BB6.size
            have HO7 := ho6.below b67 (Nat.le_refl _)
            have SB := HS.out _ BB7
            refine hK.out _ _ (fun _ => SB) ?_
            clear hK K hW7 ho6 hb6
            try simp only [List.setIfInBounds_toArray, List.set_cons_zero, List.set_cons_succ, Act.put]
            refine wpAnyR_one (i := 11) (by kernel_rfl) rfl (fun K hK => ?_)
            try rw [if_pos (show Region.wanted _ _ = true from rfl)]
            have y0 := X7.cell 0
            have y1 := X7.cell 1
            have z0 := X7.frozen 0
            have z1 := X7.frozen 1
            simp at y0 y1
            go_simp
            refine hK.out _ _ (fun hf => absurd hf (by decide)) ?_
            clear hK K y0 y1 z0 z1
            refine wpAnyR_one (i := 12) (by kernel_rfl) rfl (fun K hK => ?_)
            go_simp
            refine hK.out _ _ (fun hf => absurd hf (by decide)) ?_
            clear hK K
            refine wpAnyR_done (by kernel_rfl) ?_
            go_wp2_with (fail)
            go_meet
            have b6x := ((show Below W6.heap.size W6 W7 from b67).setCell (p := ⟨W6.heap.size, 0, none⟩) (Nat.le_refl _) (Value.int .i64 F.1)).setCell (p := ⟨W6.heap.size, 1, none⟩) (Nat.le_refl _) (Value.slice A' F.2.length c')
            exact ⟨W6.heap.size, A', c', rfl, rfl, by simpa using (X7.set_ 0 (.int .i64 F.1)).set_ 1 (.slice A' F.2.length c'), ((HO7.set (p := ⟨W6.heap.size, 0, none⟩) (.inr (Nat.le_refl _)) (Value.int .i64 F.1)).set (p := ⟨W6.heap.size, 1, none⟩) (.inr (Nat.le_refl _)) (Value.slice A' F.2.length c')).mono (Nat.le_refl _) b6x.size, bthen BB6 b6x⟩
          · try rw [if_pos (show Region.wanted _ _ = true from rfl)]
            go_simp
            obtain ⟨W5, hW5⟩ : ∃ W5, W5 = wr.drew.alloc (Obj.cells #[Value.int IntKind.i64 0, Value.slice none 0 0] 52) := ⟨_, rfl⟩
            try rw [show (wr.alloc (Obj.cells #[Value.int IntKind.i64 0, Value.slice none 0 0] 52)).drew = wr.drew.alloc (Obj.cells #[Value.int IntKind.i64 0, Value.slice none 0 0] 52) from rfl]
            rw [← hW5]
            have b45 : Below wr.drew.heap.size wr.drew W5 := by rw [hW5]; exact below1 _ _
            have BB5 := bthen BB b45
            have X5 : Blk W5 wr.heap.size 52 #[.int .i64 0, .slice none 0 0] := by rw [hW5]; exact Blk.new _ _ _
            have SB := HS.out _ BB5
            refine hK.out _ _ (fun _ => SB) ?_
            clear hK K hW5
            try simp only [List.setIfInBounds_toArray, List.set_cons_zero, List.set_cons_succ, Act.put]
            refine wpAnyR_one (i := 6) (by kernel_rfl) rfl (fun K hK => ?_)
            try rw [if_pos (show Region.wanted _ _ = true from rfl)]
            go_simp
            refine (HM.out _ BB5).mono ?_
            rintro e W6 ⟨A', c', rfl, ho6, hb6⟩
            have hs5 := X5.lt
            have X6 := X5.below hb6 hs5
            have BB6 := bthen BB5 hb6
            have hs6 := hb6.size
            have SB := HS.out _ BB6
            refine hK.out _ _ (fun _ => SB) ?_
            clear hK K
            try simp only [List.setIfInBounds_toArray, List.set_cons_zero, List.set_cons_succ, Act.put]
            refine wpAnyR_pure (i := 7) (oi := _) ?v7b rfl rfl (by kernel_rfl) (by decide) (fun _ _ _ h => h) rfl ?hy7b (fun _ => SB) ?rest7b
            case hy7b => (intro W; go_simp; (try with_reducible rfl))
            try simp only [List.setIfInBounds_toArray, List.set_cons_zero, List.set_cons_succ]
            refine wpAnyR_pure (i := 8) (oi := _) ?v8b rfl rfl (by kernel_rfl) (by decide) (fun _ _ _ h => h) rfl ?hy8b (fun _ => SB) ?rest8b
            case hy8b => (intro W; go_simp; (try with_reducible rfl))
            try simp only [List.setIfInBounds_toArray, List.set_cons_zero, List.set_cons_succ]
            refine wpAnyR_pure (i := 9) (oi := _) ?v9b rfl rfl (by kernel_rfl) (by decide) (fun _ _ _ h => h) rfl ?hy9b (fun _ => SB) ?rest9b
            case hy9b => (intro W; go_simp; (try with_reducible rfl))
            try simp only [List.setIfInBounds_toArray, List.set_cons_zero, List.set_cons_succ]
            refine wpAnyR_one (i := 11) (by kernel_rfl) rfl (fun K hK => ?_)
            try rw [if_pos (show Region.wanted _ _ = true from rfl)]
            have y0 := X6.cell 0
            have y1 := X6.cell 1
            have z0 := X6.frozen 0
            have z1 := X6.frozen 1
            simp at y0 y1
            go_simp
            refine hK.out _ _ (fun hf => absurd hf (by decide)) ?_
            clear hK K y0 y1 z0 z1
            refine wpAnyR_one (i := 12) (by kernel_rfl) rfl (fun K hK => ?_)
            go_simp
            refine hK.out _ _ (fun hf => absurd hf (by decide)) ?_
            clear hK K
            refine wpAnyR_done (by kernel_rfl) ?_
            go_wp2_with (fail)
            go_meet
            have b6x := ((Below.refl wr.heap.size W6).setCell (p := ⟨wr.heap.size, 0, none⟩) (Nat.le_refl _) (Value.int .i64 F.1)).setCell (p := ⟨wr.heap.size, 1, none⟩) (Nat.le_refl _) (Value.slice A' F.2.length c')
            exact ⟨wr.heap.size, A', c', rfl, rfl, by simpa using (X6.set_ 0 (.int .i64 F.1)).set_ 1 (.slice A' F.2.length c'), ((ho6.set (p := ⟨wr.heap.size, 0, none⟩) (.inl hs5) (Value.int .i64 F.1)).set (p := ⟨wr.heap.size, 1, none⟩) (.inl hs5) (Value.slice A' F.2.length c')).mono (Nat.le_of_lt hs5) b6x.size, BB6.trans b6x⟩
      case rest =>
        obtain ⟨gb, A', c', rfl, rfl, X, ox, bx⟩ := hcut
        have HOX := Lib.hid ((HOUT.out.below bx (Nat.le_refl _)).mono (Nat.le_refl _) bx.size)
        have HBX := Lib.hid (bthen HBE.out bx)
        obtain ⟨hF, hok⟩ := HF.out
        have hbd := headsTo_bound (S := S) ha k
        have hS5 := HOKS.out.2
        have hFl : F.2.length ≤ 2 := by rw [hF]; exact Nat.le_trans (headOf_length _ _) ha
        have c0 : World.cell? _ ⟨gb, 0, none⟩ = some (.int .i64 F.1) := X.cell 0
        have c1 : World.cell? _ ⟨gb, 1, none⟩ = some (.slice A' F.2.length c') := X.cell 1
        have HCW := Lib.hid (specFactsWith_any (.slice Ao (headsTo r.1 S k).length co) (.agg #[.int .i64 F.1, .slice A' F.2.length c']) (headsTo r.1 S k) F _ HOX.out.rd ⟨_, rfl, ox.rd⟩ (by omega) (by omega) (by omega))
        have HXB := Lib.hid (And.intro hF hok)
        clear HF hF hok HS HB HM ox X
        by_cases hb : ok = true
        · have HE := Lib.hid (show headsTo r.1 S (k + 1) = factsWith (headsTo r.1 S k) F from by rw [headsTo_yes hlt (by rw [← HXB.out.2]; exact hb), HXB.out.1])
          subst hb
          go_wp2_with (first
            | (go_at_call 52; refine HCW.out.mono ?_; rintro e w5 ⟨A8, c8, rfl, o8, b8⟩; have H8 := Lib.hid (And.intro o8 b8); clear o8 b8))
          go_roundw
          case rel => exact ⟨k + 1, A8, c8, by omega, by go_num, by rw [HE.out], by rw [HE.out]; exact H8.out.1.mono (by have := HBX.out.size; omega) (Nat.le_refl _), bthen HBX.out H8.out.2⟩
          case measure => simp [intOf]; omega
        · have hb : ok = false := by simpa using hb
          have HE := Lib.hid (show headsTo r.1 S (k + 1) = headsTo r.1 S k from headsTo_no hlt (by rw [← HXB.out.2]; exact hb))
          subst hb
          go_wp2_with (fail)
          go_roundw
          case rel => exact ⟨k + 1, Ao, co, by omega, by go_num, by rw [HE.out], by rw [HE.out]; exact HOX.out, HBX.out⟩
          case measure => simp [intOf]; omega
    · obtain rfl : k = S.length := by omega
      go_wp2_with (fail)
      go_ret
      refine ⟨Ao, co, by rw [HR.out]; rfl, ?_, bthen B3 hbe⟩
      rw [HR.out]
      exact hout

end Go.Proofs.YtcceololijefiaaGreat
/-
  The walks of FactsOf: the program's and the specification's.
-/
namespace Go.Proofs.YtcceololijefiaaGreat
open Go.RowKit

def factsOf (fs : List LFact) (p : Int) : List LFact := fs.filter fun f => f.1 == p
theorem factsOf_yes {fs : List LFact} {p : Int} {k : Nat} (h : k < fs.length) (e : fs[k].1 = p) : factsOf (fs.take (k + 1)) p = factsOf (fs.take k) p ++ [fs[k]] := by
  unfold factsOf
  rw [take_snoc fs k h, List.filter_append]
  congr 1
  simp [e]
theorem factsOf_no {fs : List LFact} {p : Int} {k : Nat} (h : k < fs.length) (e : fs[k].1 ≠ p) : factsOf (fs.take (k + 1)) p = factsOf (fs.take k) p := by
  unfold factsOf
  rw [take_snoc fs k h, List.filter_append, List.filter_cons_of_neg (by simpa using e)]
  simp
theorem factsOf_length (fs : List LFact) (p : Int) (k : Nat) : (factsOf (fs.take k) p).length ≤ k := by
  have h1 := List.length_filter_le (fun f : LFact => f.1 == p) (fs.take k)
  have h2 : (fs.take k).length ≤ k := by rw [List.length_take]; omega
  unfold factsOf
  omega

end Go.Proofs.YtcceololijefiaaGreat
/-
  What FactsWith and FactsOf leave, plain mathematics.
-/
namespace Go.Proofs.YtcceololijefiaaGreat
open Go.RowKit

theorem withStep_mem (f : LFact) : ∀ (l : List LFact) (out : List LFact) (b : Bool), (b = true → f ∈ out) → ∀ x, x ∈ endW f (l.foldl (withStep f) (out, b)) ↔ x ∈ out ∨ x ∈ l ∨ x = f
  | [], out, b, hb, x => by
    cases b
    · simp [endW]
    · have := hb rfl
      simp only [List.foldl_nil, endW, if_true, List.not_mem_nil, false_or]
      constructor
      · exact .inl
      · rintro (h | rfl) <;> assumption
  | g :: l, out, b, hb, x => by
    rw [List.foldl_cons]
    have e : withStep f (out, b) g = ((withStep f (out, b) g).1, (withStep f (out, b) g).2) := rfl
    rw [e, withStep_mem f l _ _ ?_ x]
    · unfold withStep
      cases b
      · rcases Int.lt_trichotomy (factOrder f g) 0 with h1 | h1 | h1
        · simp [show factOrder f g ≤ 0 by omega, show factOrder f g ≠ 0 by omega]
          grind
        · have e2 := order_eq h1
          subst e2
          simp [order_refl]
          grind
        · simp [show ¬ factOrder f g ≤ 0 by omega, show factOrder f g ≠ 0 by omega]
          grind
      · have hf := hb rfl
        by_cases h1 : factOrder f g = 0
        · have e2 := order_eq h1
          subst e2
          simp [order_refl]
          grind
        · simp [h1]
          grind
    · intro hb2
      unfold withStep at hb2 ⊢
      cases b
      · have h1 : factOrder f g ≤ 0 := by simpa using hb2
        simp [h1]
      · exact List.mem_append_left _ (by simpa using hb rfl)
theorem factsWith_mem (fs : List LFact) (f x : LFact) : x ∈ factsWith fs f ↔ x ∈ fs ∨ x = f := by
  have := withStep_mem f fs [] false (by simp) x
  unfold endW at this
  unfold factsWith withTo
  rw [List.take_length]
  simpa using this
theorem has_mem (ys : List LFact) (f : LFact) : factsHas ys f = decide (f ∈ ys) := by
  unfold factsHas
  by_cases h : f ∈ ys
  · rw [decide_eq_true h]
    exact List.any_eq_true.2 ⟨f, h, by rw [order_refl]; rfl⟩
  · rw [decide_eq_false h]
    refine List.any_eq_false.2 fun g hg e => h ?_
    have e0 : factOrder g f = 0 := by simpa using e
    rw [← order_eq e0]
    exact hg
theorem with_has_new (fs : List LFact) (f : LFact) : factsHas (factsWith fs f) f = true := by
  rw [has_mem]
  exact decide_eq_true ((factsWith_mem fs f f).2 (.inr rfl))
theorem with_has_old (fs : List LFact) (f : LFact) {k : Nat} (h : k < fs.length) : factsHas (factsWith fs f) fs[k] = true := by
  rw [has_mem]
  exact decide_eq_true ((factsWith_mem fs f _).2 (.inl (List.getElem_mem h)))
theorem factsOf_few (fs : List LFact) (p : Int) : (factsOf fs p).length ≤ fs.length ∧ tot (factsOf fs p) ≤ tot fs := by
  refine ⟨List.length_filter_le _ _, ?_⟩
  unfold factsOf
  induction fs with
  | nil => simp
  | cons g fs ih =>
    rw [List.filter_cons, tot_cons]
    split
    · rw [tot_cons]; omega
    · omega

end Go.Proofs.YtcceololijefiaaGreat
/-
  The walks of isTerm, areTerms, l2Terms, atomFits, and of both AtomOk.
-/
namespace Go.Proofs.YtcceololijefiaaGreat
open Go.RowKit

def atomFits (ar : List Int) (f : LFact) : Bool := decide (0 ≤ f.1 ∧ f.1 < ar.length ∧ (f.2.length : Int) = ar.getD f.1.toNat 0) && f.2.all termOk
def atomOk (ar : List Int) (f : LFact) : Bool := arityOk ar && atomFits ar f

set_option maxHeartbeats 1000000 in
set_option maxRecDepth 100000 in
theorem atomFits_any (v v2 : Value) (ar : List Int) (f : LFact) (w : World) (h : RdInts w w.heap.size v ar) (h2 : RdFact w w.heap.size v2 f) (hn : f.2.length ≤ 1048576) :
    Calls Tryz.prog 65 #[v, v2] w fun e w' => e = .returned (.bool (atomFits ar f)) ∧ Below w.heap.size w w' := by
  obtain ⟨pp, xs⟩ := f
  obtain ⟨A, c, rfl, hc, h⟩ := h
  obtain ⟨a, rfl, h2⟩ := h2
  have HT := Lib.hid (fun n (O : Obj) => quiet_left (areTerms_any a xs w.heap.size ((w.alloc O).drewN n) ((h2.below (below1 w O) (Nat.le_refl _)).below (bdrewN (Below.refl _ _) _) (Nat.le_refl _)) hn))
  obtain ⟨A2, c2, rfl, hc2, h2⟩ := h2
  by_cases h0 : pp < 0
  · have hd : decide (0 ≤ pp) = false := by simpa using h0
    have HE := Lib.hid (show atomFits ar (pp, xs) = false by simp [atomFits]; omega)
    go_enter Tryz.func65, Tryz.ntmps65
    go_wp2_with (fail)
    go_quiet (fail)
    go_wp2_with (fail)
    go_ret
    exact ⟨ret_bool HE.out.symm, bdrewN (below1 _ _) _⟩
  · have hd : decide (0 ≤ pp) = true := by simpa using h0
    obtain ⟨p, rfl⟩ := Int.eq_ofNat_of_zero_le (Int.not_lt.1 h0)
    by_cases h1 : (ar.length : Int) ≤ p
    · have hd1 : decide (p < ar.length) = false := by simp; omega
      have HE := Lib.hid (show atomFits ar ((p : Int), xs) = false by simp [atomFits]; omega)
      go_enter Tryz.func65, Tryz.ntmps65
      go_wp2_with (fail)
      go_quiet (fail)
      go_wp2_with (fail)
      go_ret
      exact ⟨ret_bool HE.out.symm, bdrewN (below1 _ _) _⟩
    · have hlt : p < ar.length := by omega
      have hltI : (p : Int) < (ar.length : Int) := by omega
      have hd1 : decide ((p : Int) < (ar.length : Int)) = true := by simpa using hltI
      obtain ⟨b, o, rfl, hbB, hx⟩ := h (by omega)
      have hck : ∀ O, (w.alloc O).cell? ⟨b, o + p, none⟩ = some (.int .i64 ar[p]) := fun O => (World.cell?_alloc_lt w O ⟨b, o + p, none⟩ hbB).trans (hx p hlt)
      by_cases h3 : (xs.length : Int) = ar[p]
      · have hd3 : ((xs.length : Int) == ar[p]) = true := by simp [h3]
        have H3 := Lib.hid (show atomFits ar ((p : Int), xs) = xs.all termOk by simp [atomFits, hlt, h3])
        clear h3 hx h
        go_enter Tryz.func65, Tryz.ntmps65
        go_wp2_with (fail)
        go_quiet ((go_at_call 88; exact HT.out _ _))
        go_wp2_with (fail)
        go_ret
        exact ⟨ret_bool H3.out.symm, bdrewN (below1 _ _) _⟩
      · have hd3 : ((xs.length : Int) == ar[p]) = false := by simp [h3]
        have HE := Lib.hid (show atomFits ar ((p : Int), xs) = false by simp [atomFits, hlt, h3])
        clear h3 hx h
        go_enter Tryz.func65, Tryz.ntmps65
        go_wp2_with (fail)
        go_quiet (fail)
        go_wp2_with (fail)
        go_ret
        exact ⟨ret_bool HE.out.symm, bdrewN (below1 _ _) _⟩

set_option maxHeartbeats 1000000 in
set_option maxRecDepth 100000 in
theorem specAtomOk_any (v v2 : Value) (ar : List Int) (f : LFact) (w : World) (h : RdInts w w.heap.size v ar) (h2 : RdFact w w.heap.size v2 f) (hr : ar.length ≤ 1048576) (hn : f.2.length ≤ 1048576) :
    Calls Tryz.prog 56 #[v, v2] w fun e w' => e = .returned (.bool (atomOk ar f)) ∧ Below w.heap.size w w' := by
  have H := Lib.hid h
  obtain ⟨pp, xs⟩ := f
  obtain ⟨A, c, rfl, hc, h⟩ := h
  obtain ⟨a, rfl, h2⟩ := h2
  have HT := Lib.hid (fun n (O : Obj) => quiet_left (l2Terms_any a xs w.heap.size ((w.alloc O).drewN n) ((h2.below (below1 w O) (Nat.le_refl _)).below (bdrewN (Below.refl _ _) _) (Nat.le_refl _)) hn))
  obtain ⟨A2, c2, rfl, hc2, h2⟩ := h2
  by_cases ha : arityOk ar = true
  · have CA : ∀ W, Below w.heap.size w W → Calls Tryz.prog 36 #[.slice A ar.length c] W fun e w' => e = .returned (.bool true) ∧ w' = W := fun W hW =>
      (specArityOk_any _ ar W (H.out.on hW) (by omega)).mono fun e w' ⟨he, hw⟩ => ⟨by rw [he, ha], hw.symm⟩
    have HCA := Lib.hid CA
    have HA := Lib.hid ha
    clear CA ha
    by_cases hp : 0 ≤ pp ∧ pp ≤ (ar.length : Int) - 1
    · have HCL := Lib.hid (l1In_yes hp)
      obtain ⟨p, rfl⟩ := Int.eq_ofNat_of_zero_le hp.1
      have hlt : p < ar.length := by omega
      have hltI : (p : Int) < (ar.length : Int) := by omega
      obtain ⟨b, o, rfl, hbB, hx⟩ := h (by omega)
      have hck : ∀ O, (w.alloc O).cell? ⟨b, o + p, none⟩ = some (.int .i64 ar[p]) := fun O => (World.cell?_alloc_lt w O ⟨b, o + p, none⟩ hbB).trans (hx p hlt)
      clear hp
      by_cases h3 : (xs.length : Int) = ar[p]
      · have hd3 : ((xs.length : Int) == ar[p]) = true := by simp [h3]
        have H3 := Lib.hid (show atomOk ar ((p : Int), xs) = xs.all termOk by simp [atomOk, HA.out, atomFits, hlt, h3])
        clear h3 hx h
        go_enter Tryz.func56, Tryz.ntmps56
        go_wp2_with (fail)
        go_quiet (first | (go_at_call 36; exact Calls.quiet_of_same (HCA.out _ (bdrewN (below1 _ _) _))) | (go_at_call 58; exact quiet_left (HCL.out _)) | (go_at_call 78; exact HT.out _ _))
        go_wp2_with (fail)
        go_ret
        exact ⟨ret_bool H3.out.symm, bdrewN (below1 _ _) _⟩
      · have hd3 : ((xs.length : Int) == ar[p]) = false := by simp [h3]
        have HE := Lib.hid (show atomOk ar ((p : Int), xs) = false by simp [atomOk, atomFits, hlt, h3])
        clear h3 hx h
        go_enter Tryz.func56, Tryz.ntmps56
        go_wp2_with (fail)
        go_quiet (first | (go_at_call 36; exact Calls.quiet_of_same (HCA.out _ (bdrewN (below1 _ _) _))) | (go_at_call 58; exact quiet_left (HCL.out _)))
        go_wp2_with (fail)
        go_ret
        exact ⟨ret_bool HE.out.symm, bdrewN (below1 _ _) _⟩
    · have HCL := Lib.hid (l1In_no hp)
      have HE := Lib.hid (show atomOk ar (pp, xs) = false by simp [atomOk, atomFits]; omega)
      clear hp
      go_enter Tryz.func56, Tryz.ntmps56
      go_wp2_with (fail)
      go_quiet (first | (go_at_call 36; exact Calls.quiet_of_same (HCA.out _ (bdrewN (below1 _ _) _))) | (go_at_call 58; exact quiet_left (HCL.out _)))
      go_wp2_with (fail)
      go_ret
      exact ⟨ret_bool HE.out.symm, bdrewN (below1 _ _) _⟩
  · have CA : ∀ W, Below w.heap.size w W → Calls Tryz.prog 36 #[.slice A ar.length c] W fun e w' => e = .returned (.bool false) ∧ w' = W := fun W hW =>
      (specArityOk_any _ ar W (H.out.on hW) (by omega)).mono fun e w' ⟨he, hw⟩ => ⟨by rw [he, show arityOk ar = false by simpa using ha], hw.symm⟩
    have HCA := Lib.hid CA
    have HE := Lib.hid (show atomOk ar (pp, xs) = false by simp [atomOk, ha])
    clear CA ha
    go_enter Tryz.func56, Tryz.ntmps56
    go_wp2_with (fail)
    go_quiet (first | (go_at_call 36; exact Calls.quiet_of_same (HCA.out _ (bdrewN (below1 _ _) _))))
    go_wp2_with (fail)
    go_ret
    exact ⟨ret_bool HE.out.symm, bdrewN (below1 _ _) _⟩

end Go.Proofs.YtcceololijefiaaGreat
/-
  The walks of litFits and of both LitOk.
-/
namespace Go.Proofs.YtcceololijefiaaGreat
open Go.RowKit

def litFits (ar : List Int) (l : LLit) : Bool :=
  if l.1 = 0 ∨ l.1 = 1 then atomFits ar l.2 else if l.1 = 2 ∨ l.1 = 3 then (decide (l.2.1 = 0) && decide (l.2.2.length = 2) && l.2.2.all termOk) else false
def litOk (ar : List Int) (l : LLit) : Bool := arityOk ar && litFits ar l

set_option maxHeartbeats 1000000 in
set_option maxRecDepth 100000 in
theorem litFits_any (v v2 : Value) (ar : List Int) (l : LLit) (w : World) (h : RdInts w w.heap.size v ar) (h2 : RdLit w w.heap.size v2 l) (hn : l.2.2.length ≤ 1048576) :
    Calls Tryz.prog 66 #[v, v2] w fun e w' => e = .returned (.bool (litFits ar l)) ∧ Below w.heap.size w w' := by
  have H := Lib.hid h
  obtain ⟨kd, pp, xs⟩ := l
  obtain ⟨A, c, rfl, hc, _⟩ := h
  obtain ⟨a, rfl, h2⟩ := h2
  have H2 := Lib.hid (h2.on (below1 w (.cells #[.int .i64 kd, .int .i64 pp, a] 94)))
  obtain ⟨A2, c2, rfl, hc2, _⟩ := h2
  by_cases ka : kd = 0 ∨ kd = 1
  · have HE := Lib.hid (show litFits ar (kd, pp, xs) = atomFits ar (pp, xs) by simp [litFits, ka])
    rcases ka with rfl | rfl
    all_goals
      go_enter Tryz.func66, Tryz.ntmps66
      go_wp2_with (go_at_call 65; refine (atomFits_any _ _ ar (pp, xs) _ (H.out.on (below1 _ _)) ⟨_, rfl, H2.out⟩ hn).mono ?_; rintro e w5 ⟨rfl, hb5⟩)
      go_ret
      exact ⟨ret_bool HE.out.symm, bthen (below1 _ _) hb5⟩
  · have k0 : (kd == 0) = false := by simp; omega
    have k1 : (kd == 1) = false := by simp; omega
    by_cases kb : kd = 2 ∨ kd = 3
    · have HE := Lib.hid (show litFits ar (kd, pp, xs) = (decide (pp = 0) && decide (xs.length = 2) && xs.all termOk) by simp [litFits, ka, kb])
      clear ka k0 k1
      have CT := Lib.hid (areTerms_any _ xs _ _ H2.out hn)
      by_cases hp : pp = 0
      · subst hp
        by_cases hx : xs.length = 2
        · have hx2 : ((xs.length : Int) == 2) = true := by simp; omega
          have HE2 := Lib.hid (show litFits ar (kd, 0, xs) = xs.all termOk by rw [HE.out]; simp [hx])
          clear hx
          rcases kb with rfl | rfl
          all_goals
            go_enter Tryz.func66, Tryz.ntmps66
            go_wp2_with (go_at_call 88; refine CT.out.mono ?_; rintro e w5 ⟨rfl, rfl⟩)
            go_ret
            exact ⟨ret_bool HE2.out.symm, below1 _ _⟩
        · have hx2 : ((xs.length : Int) == 2) = false := by simp; omega
          have HE2 := Lib.hid (show litFits ar (kd, 0, xs) = false by rw [HE.out]; simp [hx])
          clear hx
          rcases kb with rfl | rfl
          all_goals
            go_enter Tryz.func66, Tryz.ntmps66
            go_wp2_with (fail)
            go_ret
            exact ⟨ret_bool HE2.out.symm, below1 _ _⟩
      · have hp2 : (pp == 0) = false := by simpa using hp
        have HE2 := Lib.hid (show litFits ar (kd, pp, xs) = false by rw [HE.out]; simp [hp])
        clear hp
        rcases kb with rfl | rfl
        all_goals
          go_enter Tryz.func66, Tryz.ntmps66
          go_wp2_with (fail)
          go_ret
          exact ⟨ret_bool HE2.out.symm, below1 _ _⟩
    · have k2 : (kd == 2) = false := by simp; omega
      have k3 : (kd == 3) = false := by simp; omega
      have HE := Lib.hid (show litFits ar (kd, pp, xs) = false by simp [litFits, ka, kb])
      clear ka kb
      go_enter Tryz.func66, Tryz.ntmps66
      go_wp2_with (fail)
      go_ret
      exact ⟨ret_bool HE.out.symm, below1 _ _⟩

set_option maxHeartbeats 1000000 in
set_option maxRecDepth 100000 in
theorem specLitOk_any (v v2 : Value) (ar : List Int) (l : LLit) (w : World) (h : RdInts w w.heap.size v ar) (h2 : RdLit w w.heap.size v2 l) (hr : ar.length ≤ 1048576) (hn : l.2.2.length ≤ 1048576) :
    Calls Tryz.prog 55 #[v, v2] w fun e w' => e = .returned (.bool (litOk ar l)) ∧ Below w.heap.size w w' := by
  have H := Lib.hid h
  obtain ⟨kd, pp, xs⟩ := l
  obtain ⟨A, c, rfl, hc, _⟩ := h
  obtain ⟨a, rfl, h2⟩ := h2
  have H2 := Lib.hid (h2.on (below1 w (.cells #[.int .i64 kd, .int .i64 pp, a] 94)))
  obtain ⟨A2, c2, rfl, hc2, _⟩ := h2
  by_cases ka : kd = 0 ∨ kd = 1
  · have HE := Lib.hid (show litOk ar (kd, pp, xs) = atomOk ar (pp, xs) by simp [litOk, atomOk, litFits, ka])
    rcases ka with rfl | rfl
    all_goals
      go_enter Tryz.func55, Tryz.ntmps55
      go_wp2_with (go_at_call 56; refine (specAtomOk_any _ _ ar (pp, xs) _ (H.out.on (below1 _ _)) ⟨_, rfl, H2.out⟩ hr hn).mono ?_; rintro e w5 ⟨rfl, hb5⟩)
      go_ret
      exact ⟨ret_bool HE.out.symm, bthen (below1 _ _) hb5⟩
  · have k0 : (kd == 0) = false := by simp; omega
    have k1 : (kd == 1) = false := by simp; omega
    by_cases ha : arityOk ar = true
    · have CA := Lib.hid ((specArityOk_any _ ar _ (H.out.on (below1 w (.cells #[.int .i64 kd, .int .i64 pp, .slice A2 xs.length c2] 94))) (by omega)).mono fun e w' (hh : e = .returned (.bool (arityOk ar)) ∧ _ = w') => (⟨by rw [hh.1, ha], hh.2⟩ : e = .returned (.bool true) ∧ _ = w'))
      have HA := Lib.hid ha
      clear ha
      by_cases kb : kd = 2 ∨ kd = 3
      · have HE := Lib.hid (show litOk ar (kd, pp, xs) = (decide (pp = 0) && decide (xs.length = 2) && xs.all termOk) by simp [litOk, HA.out, litFits, ka, kb])
        clear ka k0 k1
        have CT := Lib.hid (l2Terms_any _ xs _ _ H2.out hn)
        by_cases hp : pp = 0
        · subst hp
          by_cases hx : xs.length = 2
          · have hx2 : ((xs.length : Int) == 2) = true := by simp; omega
            have HE2 := Lib.hid (show litOk ar (kd, 0, xs) = xs.all termOk by rw [HE.out]; simp [hx])
            clear hx
            rcases kb with rfl | rfl
            all_goals
              go_enter Tryz.func55, Tryz.ntmps55
              go_wp2_with (first | (go_at_call 36; refine CA.out.mono ?_; rintro e w5 ⟨rfl, rfl⟩) | (go_at_call 78; refine CT.out.mono ?_; rintro e w5 ⟨rfl, rfl⟩))
              go_ret
              exact ⟨ret_bool HE2.out.symm, below1 _ _⟩
          · have hx2 : ((xs.length : Int) == 2) = false := by simp; omega
            have HE2 := Lib.hid (show litOk ar (kd, 0, xs) = false by rw [HE.out]; simp [hx])
            clear hx
            rcases kb with rfl | rfl
            all_goals
              go_enter Tryz.func55, Tryz.ntmps55
              go_wp2_with (go_at_call 36; refine CA.out.mono ?_; rintro e w5 ⟨rfl, rfl⟩)
              go_ret
              exact ⟨ret_bool HE2.out.symm, below1 _ _⟩
        · have hp2 : (pp == 0) = false := by simpa using hp
          have HE2 := Lib.hid (show litOk ar (kd, pp, xs) = false by rw [HE.out]; simp [hp])
          clear hp
          rcases kb with rfl | rfl
          all_goals
            go_enter Tryz.func55, Tryz.ntmps55
            go_wp2_with (go_at_call 36; refine CA.out.mono ?_; rintro e w5 ⟨rfl, rfl⟩)
            go_ret
            exact ⟨ret_bool HE2.out.symm, below1 _ _⟩
      · have k2 : (kd == 2) = false := by simp; omega
        have k3 : (kd == 3) = false := by simp; omega
        have HE := Lib.hid (show litOk ar (kd, pp, xs) = false by simp [litOk, litFits, ka, kb])
        clear ka kb
        go_enter Tryz.func55, Tryz.ntmps55
        go_wp2_with (go_at_call 36; refine CA.out.mono ?_; rintro e w5 ⟨rfl, rfl⟩)
        go_ret
        exact ⟨ret_bool HE.out.symm, below1 _ _⟩
    · have CA := Lib.hid ((specArityOk_any _ ar _ (H.out.on (below1 w (.cells #[.int .i64 kd, .int .i64 pp, .slice A2 xs.length c2] 94))) (by omega)).mono fun e w' (hh : e = .returned (.bool (arityOk ar)) ∧ _ = w') => (⟨by rw [hh.1, show arityOk ar = false by simpa using ha], hh.2⟩ : e = .returned (.bool false) ∧ _ = w'))
      have HE := Lib.hid (show litOk ar (kd, pp, xs) = false by simp [litOk, ha])
      clear ha ka
      go_enter Tryz.func55, Tryz.ntmps55
      go_wp2_with (go_at_call 36; refine CA.out.mono ?_; rintro e w5 ⟨rfl, rfl⟩)
      go_ret
      exact ⟨ret_bool HE.out.symm, below1 _ _⟩

end Go.Proofs.YtcceololijefiaaGreat
/-
  The walks of szRule, toRule, eqRule.
-/
namespace Go.Proofs.YtcceololijefiaaGreat
open Go.RowKit

/-- What is asked of a rule that came in. -/
def ruleLens (r : LRule) : Prop := r.1.2.length ≤ 9223372036854775807 ∧ r.2.length ≤ 9223372036854775807 ∧ ∀ k (h : k < r.2.length), r.2[k].2.2.length ≤ 9223372036854775807

set_option maxHeartbeats 400000 in
theorem szRule_any (v : Value) (r : LRule) (left : Int) (w : World) (h : RdRule w w.heap.size v r) (h0 : 0 ≤ left) (hl : left ≤ 1048576) (hn : ruleLens r) :
    Calls Tryz.prog 34 #[v, .int .i64 left] w fun e w' => ∃ z, e = .returned (.int .i64 z) ∧ SzRes z left (szR r) ∧ Below w.heap.size w w' := by
  obtain ⟨a, b, rfl, h, h2⟩ := h
  obtain ⟨hn1, hn2, hn3⟩ := hn
  have H := Lib.hid h
  have H2 := Lib.hid h2
  obtain ⟨A, c, rfl, hc, _⟩ := h
  obtain ⟨A2, c2, rfl, hcc, _⟩ := h2
  have hcs := szV_cases left r.1.2.length
  go_enter Tryz.func34, Tryz.ntmps34
  go_wp2_with (fail)
  refine (szAtom_any _ r.1 _ _ ⟨_, rfl, H.out.on (below1 _ _)⟩ h0 hl hn1).mono ?_
  rintro e w1 ⟨rfl, hb⟩
  have hB := bthen (below1 _ _) hb
  have hx : Blk w1 w.heap.size 67 #[.int .i64 r.1.1, .slice A r.1.2.length c, .slice A2 r.2.length c2] := (Blk.new w _ _).below hb (by simp)
  have hx2 : w1.cell? ⟨w.heap.size, 2, none⟩ = some (.slice A2 r.2.length c2) := hx.cell 2
  rcases hcs with ⟨e1, e2⟩ | ⟨e1, e2⟩
  · rw [e1]
    have HV := Lib.hid e1
    clear e1
    go_wp2_with (fail)
    go_ret
    exact ⟨_, rfl, .inl rfl, hB⟩
  · have h1 : ¬ szV left r.1.2.length < 0 := by omega
    go_wp2_with (fail)
    refine (szLitS_any _ r.2 _ _ (H2.out.on hB) e1 (by omega) hn2 hn3).mono ?_
    rintro e w2 ⟨z, rfl, hz, hb2⟩
    have hB2 := bthen hB hb2
    rcases hz with rfl | ⟨z0, z1⟩
    · go_wp2_with (fail)
      go_ret
      exact ⟨_, rfl, .inl rfl, hB2⟩
    · have hz : ¬ z < 0 := by omega
      have HZ := Lib.hid (show SzRes z left (szR r) from .inr ⟨z0, by unfold szR; omega⟩)
      clear z0 z1 e1 e2
      go_wp2_with (fail)
      go_ret
      exact ⟨_, rfl, HZ.out, hB2⟩

theorem OwnInts.far {w : World} {lo hi : Nat} {v : Value} {xs : List Int} (h : OwnInts w lo hi v xs) {p : Addr} (hp : p.block < lo) (u : Value) : OwnInts (w.setCell p u) lo hi v xs := h.set (.inl hp) u
theorem OwnLits.far {w : World} {lo hi : Nat} {v : Value} {ls : List LLit} (h : OwnLits w lo hi v ls) {p : Addr} (hp : p.block < lo) (u : Value) : OwnLits (w.setCell p u) lo hi v ls :=
  h.keep fun g h1 _ => Below.heap_setCell _ _ _ _ (by omega)

set_option maxHeartbeats 1000000 in
theorem toRule_any (v : Value) (r : LRule) (w : World) (h : RdRule w w.heap.size v r) (hn : szR r ≤ 1048576) :
    Calls Tryz.prog 41 #[v] w fun e w' => ∃ A' c' A2' c2', e = .returned (.agg #[.int .i64 r.1.1, .slice A' r.1.2.length c', .slice A2' r.2.length c2']) ∧ OwnInts w' w.heap.size w'.heap.size (.slice A' r.1.2.length c') r.1.2 ∧ OwnLits w' w.heap.size w'.heap.size (.slice A2' r.2.length c2') r.2 ∧ Below w.heap.size w w' := by
  obtain ⟨a, b, rfl, h, h2⟩ := h
  unfold szR at hn
  have H := Lib.hid h
  have H2 := Lib.hid h2
  obtain ⟨A, c, rfl, hc, _⟩ := h
  obtain ⟨A2, c2, rfl, hcc, _⟩ := h2
  go_enter Tryz.func41, Tryz.ntmps41
  go_wp2_with (fail)
  obtain ⟨w3, hw3⟩ : ∃ w3, w3 = ((w.alloc (Obj.cells #[Value.int IntKind.i64 r.1.1, Value.slice A r.1.2.length c, Value.slice A2 r.2.length c2] 67)).alloc (Obj.cells #[.int .i64 0, .slice none 0 0, .slice none 0 0] 72)).alloc (Obj.cells #[.int .i64 0, .slice none 0 0, .slice none 0 0] 72) := ⟨_, rfl⟩
  have B3 : Below w.heap.size w w3 := by rw [hw3]; exact below3 _ _ _ _
  have s3 : w3.heap.size = w.heap.size + 3 := by rw [hw3]; simp
  have x0 : Blk w3 w.heap.size 67 #[.int .i64 r.1.1, .slice A r.1.2.length c, .slice A2 r.2.length c2] := by rw [hw3]; exact ((Blk.new w _ _).alloc _).alloc _
  have x1 : Blk w3 (w.heap.size + 1) 72 #[.int .i64 0, .slice none 0 0, .slice none 0 0] := by
    rw [hw3]
    simpa using (Blk.new (w.alloc (Obj.cells #[Value.int IntKind.i64 r.1.1, Value.slice A r.1.2.length c, Value.slice A2 r.2.length c2] 67)) _ _).alloc _
  have x2 : Blk w3 (w.heap.size + 2) 72 #[.int .i64 0, .slice none 0 0, .slice none 0 0] := by
    rw [hw3]
    simpa using Blk.new ((w.alloc (Obj.cells #[Value.int IntKind.i64 r.1.1, Value.slice A r.1.2.length c, Value.slice A2 r.2.length c2] 67)).alloc (Obj.cells #[.int .i64 0, .slice none 0 0, .slice none 0 0] 72)) _ _
  rw [← hw3]
  clear hw3
  refine (toAtom_any _ r.1 _ ⟨_, rfl, H.out.on B3⟩ (by omega)).mono ?_
  rintro e w4 ⟨A4, c4, rfl, ho, hb⟩
  have y0 := x0.below hb x0.lt
  have y1 := x1.below hb x1.lt
  have y2 := x2.below hb x2.lt
  have z2c0 : w4.cell? ⟨w.heap.size + 2, 0, none⟩ = some (.int .i64 0) := y2.cell 0
  have z2c1 : w4.cell? ⟨w.heap.size + 2, 1, none⟩ = some (.slice none 0 0) := y2.cell 1
  have z2f0 := y2.frozen 0
  have z2f1 := y2.frozen 1
  have z0c2 : w4.cell? ⟨w.heap.size, 2, none⟩ = some (.slice A2 r.2.length c2) := y0.cell 2
  go_wp2_with (fail)
  obtain ⟨w5, hw5⟩ : ∃ w5, w5 = (w4.setCell ⟨w.heap.size + 2, 0, none⟩ (.int .i64 r.1.1)).setCell ⟨w.heap.size + 2, 1, none⟩ (.slice A4 r.1.2.length c4) := ⟨_, rfl⟩
  have s5 : w5.heap.size = w4.heap.size := by rw [hw5]; simp
  have s4 := hb.size
  have u2 : Blk w5 (w.heap.size + 2) 72 #[.int .i64 r.1.1, .slice A4 r.1.2.length c4, .slice none 0 0] := by
    rw [hw5]
    simpa using (y2.set_ 0 (.int .i64 r.1.1)).set_ 1 (.slice A4 r.1.2.length c4)
  have u1 : Blk w5 (w.heap.size + 1) 72 #[.int .i64 0, .slice none 0 0, .slice none 0 0] := by rw [hw5]; exact (y1.far (by simp) _).far (by simp) _
  have B5 : Below w.heap.size w w5 := by rw [hw5]; exact ((bthen B3 hb).setCell (by simp) _).setCell (by simp) _
  have O5 : OwnInts w5 w3.heap.size w4.heap.size (.slice A4 r.1.2.length c4) r.1.2 := by rw [hw5]; exact (ho.far (by simp [s3]) _).far (by simp [s3]) _
  rw [← hw5]
  clear hw5 z2c0 z2c1 z2f0 z2f1 z0c2
  refine (toLitS_any _ r.2 _ (H2.out.on B5) (by omega) (by omega)).mono ?_
  rintro e w6 ⟨A6, c6, rfl, ho6, hb6⟩
  have v1 := u1.below hb6 u1.lt
  have v2 := u2.below hb6 u2.lt
  have B6 := bthen B5 hb6
  have O6 := O5.below hb6 (by omega)
  have s6 := hb6.size
  have b1c0 : w6.cell? ⟨w.heap.size + 1, 0, none⟩ = some (.int .i64 0) := v1.cell 0
  have b1c1 : w6.cell? ⟨w.heap.size + 1, 1, none⟩ = some (.slice none 0 0) := v1.cell 1
  have b1c2 : w6.cell? ⟨w.heap.size + 1, 2, none⟩ = some (.slice none 0 0) := v1.cell 2
  have b2c0 : w6.cell? ⟨w.heap.size + 2, 0, none⟩ = some (.int .i64 r.1.1) := v2.cell 0
  have b2c1 : w6.cell? ⟨w.heap.size + 2, 1, none⟩ = some (.slice A4 r.1.2.length c4) := v2.cell 1
  have b2c2 : w6.cell? ⟨w.heap.size + 2, 2, none⟩ = some (.slice none 0 0) := v2.cell 2
  have b1f0 := v1.frozen 0
  have b1f1 := v1.frozen 1
  have b1f2 := v1.frozen 2
  have b2f2 := v2.frozen 2
  clear y0 y1 y2 x0 x1 x2
  go_wp2_with (fail)
  refine bodyPost_ret (v := .agg #[.int .i64 r.1.1, .slice A4 r.1.2.length c4, .slice A6 r.2.length c6]) (by simp [results, Tryz.results41, go_sem, b1c0, b1c1, b1c2]) rfl ⟨_, _, _, _, rfl, ?_, ?_, ?_⟩
  · refine OwnInts.mono (lo := w3.heap.size) (hi := w4.heap.size) ?_ (by omega) (by simp; omega)
    repeat (first | exact O6 | refine OwnInts.far ?_ (by simp [s3]) _)
  · refine OwnLits.mono (lo := w5.heap.size) (hi := w6.heap.size) ?_ (by omega) (by simp)
    repeat (first | exact ho6 | refine OwnLits.far ?_ (by simp; omega) _)
  · repeat (first | exact B6 | refine Below.setCell ?_ (by first | (simp; done) | (simp; omega)) _)

set_option maxHeartbeats 1000000 in
theorem eqRule_any (v v2 : Value) (f g : LRule) (w : World) (h : RdRule w w.heap.size v f) (h2 : RdRule w w.heap.size v2 g) (hn : szR f ≤ 1048576) (hn2 : szR g ≤ 1048576) :
    Calls Tryz.prog 51 #[v, v2] w fun e w' => e = .returned (.bool (decide (f = g))) ∧ Below w.heap.size w w' := by
  obtain ⟨a, b, rfl, h, h3⟩ := h
  obtain ⟨a2, b2, rfl, h2, h4⟩ := h2
  unfold szR at hn hn2
  have H := Lib.hid h
  have H2 := Lib.hid h2
  have H3 := Lib.hid h3
  have H4 := Lib.hid h4
  obtain ⟨A, c, rfl, hc, _⟩ := h
  obtain ⟨A2, c2, rfl, hc2, _⟩ := h2
  obtain ⟨A3, c3, rfl, hc3, _⟩ := h3
  obtain ⟨A4, c4, rfl, hc4, _⟩ := h4
  go_enter Tryz.func51, Tryz.ntmps51
  go_wp2_with (fail)
  obtain ⟨w2, hw2⟩ : ∃ w2, w2 = (w.alloc (Obj.cells #[Value.int IntKind.i64 f.1.1, Value.slice A f.1.2.length c, Value.slice A3 f.2.length c3] 72)).alloc (Obj.cells #[Value.int IntKind.i64 g.1.1, Value.slice A2 g.1.2.length c2, Value.slice A4 g.2.length c4] 72) := ⟨_, rfl⟩
  have B2 : Below w.heap.size w w2 := by rw [hw2]; exact below2 _ _ _
  have x0 : Blk w2 w.heap.size 72 #[.int .i64 f.1.1, .slice A f.1.2.length c, .slice A3 f.2.length c3] := by rw [hw2]; exact (Blk.new w _ _).alloc _
  have x1 : Blk w2 (w.heap.size + 1) 72 #[.int .i64 g.1.1, .slice A2 g.1.2.length c2, .slice A4 g.2.length c4] := by
    rw [hw2]
    simpa using Blk.new (w.alloc (Obj.cells #[Value.int IntKind.i64 f.1.1, Value.slice A f.1.2.length c, Value.slice A3 f.2.length c3] 72)) _ _
  rw [← hw2]
  clear hw2
  refine (eqAtom_any _ _ f.1 g.1 _ ⟨_, rfl, H.out.on B2⟩ ⟨_, rfl, H2.out.on B2⟩ (by omega) (by omega)).mono ?_
  rintro e w4 ⟨rfl, hb⟩
  have y0 := x0.below hb x0.lt
  have y1 := x1.below hb x1.lt
  have B4 := bthen B2 hb
  have z0 : w4.cell? ⟨w.heap.size, 2, none⟩ = some (.slice A3 f.2.length c3) := y0.cell 2
  have z1 : w4.cell? ⟨w.heap.size + 1, 2, none⟩ = some (.slice A4 g.2.length c4) := y1.cell 2
  by_cases hp : f.1 = g.1
  · have hpb : decide (f.1 = g.1) = true := by simp [hp]
    have HE := Lib.hid (show decide (f = g) = decide (f.2 = g.2) from decide_eq_decide.2 ⟨fun e => by rw [e], fun e => Prod.ext hp e⟩)
    clear hp
    go_wp2_with (fail)
    refine (eqLitS_any _ _ f.2 g.2 _ (H3.out.on B4) (H4.out.on B4) (by omega) (by omega) (by omega) (by omega)).mono ?_
    rintro e w5 ⟨rfl, hb5⟩
    have B5 := bthen B4 hb5
    by_cases hd : f.2 = g.2
    · have hdb : decide (f.2 = g.2) = true := by simp [hd]
      have HD := Lib.hid hdb
      clear hd
      go_wp2_with (fail)
      go_ret
      exact ⟨ret_bool (by rw [HE.out, HD.out]), B5⟩
    · have hdb : decide (f.2 = g.2) = false := by simp [hd]
      have HD := Lib.hid hdb
      clear hd
      go_wp2_with (fail)
      go_ret
      exact ⟨ret_bool (by rw [HE.out, HD.out]), B5⟩
  · have hpb : decide (f.1 = g.1) = false := by simp [hp]
    have HE := Lib.hid (show decide (f = g) = false from decide_eq_false fun e => hp (by rw [e]))
    clear hp
    go_wp2_with (fail)
    go_ret
    exact ⟨ret_bool HE.out.symm, B4⟩

end Go.Proofs.YtcceololijefiaaGreat
/-
  ruleVars.
-/
namespace Go.Proofs.YtcceololijefiaaGreat
open Go.RowKit

set_option maxHeartbeats 400000 in
theorem ruleVars_any (v : Value) (r : LRule) (w : World) (h : RdRule w w.heap.size v r) (hr : szR r ≤ 1048576) :
    Calls Tryz.prog 89 #[v] w fun e w' => e = .returned (.int .u64 (ruleMask r : Nat)) ∧ Below w.heap.size w w' := by
  obtain ⟨a, b, rfl, h, h2⟩ := h
  unfold szR at hr
  have HW := Lib.hid (show bits .or .u64 ((maskOf r.1.2 : Nat) : Int) ((bodyMask r.2 : Nat) : Int) = (ruleMask r : Nat) from or_word (maskOf_lt _) (bodyMask_lt' _))
  obtain ⟨w1, hw1⟩ : ∃ w1, w1 = w.alloc (Obj.cells #[Value.int IntKind.i64 r.1.1, a, b] 72) := ⟨_, rfl⟩
  have B1 : Below w.heap.size w w1 := by rw [hw1]; exact below1 _ _
  have C1 := Lib.hid (fun x : Later w1 => later_same (argVars_any a r.1.2 _ x.val ((h.on B1).on x.2) (by omega)))
  have C2 := Lib.hid (fun x : Later w1 => later_of (bodyVars_any b r.2 x.val ((h2.on B1).on x.2) (by omega) (by omega)))
  obtain ⟨A, c, rfl, hc, _⟩ := h
  obtain ⟨A2, c2, rfl, hc2, _⟩ := h2
  have x1 : Blk w1 w.heap.size 72 #[.int .i64 r.1.1, .slice A r.1.2.length c, .slice A2 r.2.length c2] := by rw [hw1]; exact Blk.new w _ _
  have M1 := later_cell (x1.cell 1 : w1.cell? ⟨w.heap.size, 1, none⟩ = some (.slice A r.1.2.length c))
  have M2 := later_cell (x1.cell 2 : w1.cell? ⟨w.heap.size, 2, none⟩ = some (.slice A2 r.2.length c2))
  go_enter Tryz.func89, Tryz.ntmps89
  go_wp2_with (fail)
  rw [← hw1]
  clear hw1
  refine wp_region_later (by kernel_rfl) (by kernel_rfl) ?_
  repeat (go_big_quiet_step (first | (go_at_call 94; exact C1.out _) | (go_at_call 104; exact C2.out _)))
  refine wpQuiet_nil ?_
  rintro _ ⟨xq, rfl⟩
  go_wp2_with (fail)
  go_ret
  exact ⟨ret_int HW.out, bthen B1 xq.2⟩

end Go.Proofs.YtcceololijefiaaGreat
/-
  The program's RuleSafe.
-/
namespace Go.Proofs.YtcceololijefiaaGreat
open Go.RowKit

set_option maxHeartbeats 400000 in
theorem implRuleSafe_any (v : Value) (r : LRule) (w : World) (h : RdRule w w.heap.size v r) (hr : szR r ≤ 1048576) :
    Calls Tryz.prog 67 #[v] w fun e w' => e = .returned (.bool (ruleSafe r)) ∧ Below w.heap.size w w' := by
  obtain ⟨a, b, rfl, h, h2⟩ := h
  obtain ⟨w1, hw1⟩ : ∃ w1, w1 = w.alloc (Obj.cells #[Value.int IntKind.i64 r.1.1, a, b] 72) := ⟨_, rfl⟩
  have B1 : Below w.heap.size w w1 := by rw [hw1]; exact below1 _ _
  have C1 := Lib.hid (fun x : Later w1 => later_of (ruleVars_any _ r x.val ⟨a, b, rfl, (h.on B1).on x.2, (h2.on B1).on x.2⟩ hr))
  have C2 := Lib.hid (fun x : Later w1 => later_of (yesVars_any b r.2 x.val ((h2.on B1).on x.2) (by unfold szR at hr; omega) (by unfold szR at hr; omega)))
  obtain ⟨A, c, rfl, hc, _⟩ := h
  obtain ⟨A2, c2, rfl, hc2, _⟩ := h2
  have x1 : Blk w1 w.heap.size 72 #[.int .i64 r.1.1, .slice A r.1.2.length c, .slice A2 r.2.length c2] := by rw [hw1]; exact Blk.new w _ _
  have M0 := later_cell (x1.cell 0 : w1.cell? ⟨w.heap.size, 0, none⟩ = some (.int .i64 r.1.1))
  have M1 := later_cell (x1.cell 1 : w1.cell? ⟨w.heap.size, 1, none⟩ = some (.slice A r.1.2.length c))
  have M2 := later_cell (x1.cell 2 : w1.cell? ⟨w.heap.size, 2, none⟩ = some (.slice A2 r.2.length c2))
  go_enter Tryz.func67, Tryz.ntmps67
  go_wp2_with (fail)
  rw [← hw1]
  clear hw1
  refine wp_region_later (by kernel_rfl) (by kernel_rfl) ?_
  repeat (go_big_quiet_step (first | (go_at_call 89; exact C1.out _) | (go_at_call 90; exact C2.out _)))
  refine wpQuiet_nil ?_
  rintro _ ⟨xq, rfl⟩
  go_wp2_with (fail)
  go_ret
  exact ⟨rfl, bthen B1 xq.2⟩

end Go.Proofs.YtcceololijefiaaGreat
/-
  The walks of ruleFits and of both RuleOk.
-/
namespace Go.Proofs.YtcceololijefiaaGreat
open Go.RowKit

def ruleFits (ar : List Int) (r : LRule) : Bool := atomFits ar r.1 && (decide (r.2.length ≤ 4) && (r.2.all (litFits ar) && ruleSafe r))
def ruleOk (ar : List Int) (r : LRule) : Bool := arityOk ar && ruleFits ar r

set_option maxHeartbeats 1000000 in
set_option maxRecDepth 100000 in
theorem ruleFits_any (v v2 : Value) (ar : List Int) (r : LRule) (w : World) (h : RdInts w w.heap.size v ar) (h2 : RdRule w w.heap.size v2 r) (hs : szR r ≤ 1048576) :
    Calls Tryz.prog 43 #[v, v2] w fun e w' => e = .returned (.bool (ruleFits ar r)) ∧ Below w.heap.size w w' := by
  have H := Lib.hid h
  have HR := Lib.hid h2
  have hsz := hs
  unfold szR at hs
  obtain ⟨A, c, rfl, hc, _⟩ := h
  obtain ⟨a, b, rfl, h2, h3⟩ := h2
  have H2 := Lib.hid h2
  have H3 := Lib.hid h3
  obtain ⟨A2, c2, rfl, hc2, _⟩ := h2
  obtain ⟨A3, c3, rfl, hc3, _⟩ := h3
  go_enter Tryz.func43, Tryz.ntmps43
  go_wp2_with (fail)
  refine (atomFits_any _ _ ar r.1 _ (H.out.on (below1 _ _)) ⟨_, rfl, H2.out.on (below1 _ _)⟩ (by omega)).mono ?_
  rintro e w2 ⟨rfl, hb2⟩
  have B2 := bthen (below1 _ _) hb2
  have x2 : Blk w2 w.heap.size 72 #[.int .i64 r.1.1, .slice A2 r.1.2.length c2, .slice A3 r.2.length c3] := (Blk.new w _ _).below hb2 (by simp)
  have q2 : w2.cell? ⟨w.heap.size, 2, none⟩ = some (.slice A3 r.2.length c3) := x2.cell 2
  by_cases hf : atomFits ar r.1 = true
  · rw [hf]
    have HF := Lib.hid hf
    clear hf hb2
    by_cases hl : r.2.length ≤ 4
    · have hd : decide ((4 : Int) < (r.2.length : Int)) = false := by simp; omega
      have HL := Lib.hid (show ruleFits ar r = (r.2.all (litFits ar) && ruleSafe r) by simp [ruleFits, HF.out, hl])
      go_wp2_with (fail)
      go_loopw [6, 21] (fun _ i wr => ∃ k : Nat, k ≤ r.2.length ∧ i = .int .i64 k ∧ AllTo (litFits ar) r.2 k ∧ Below w2.heap.size w2 wr) (fun _ i _ => r.2.length - (intOf i).toNat)
      case atStart => exact ⟨0, Nat.zero_le _, rfl, AllTo.start, Below.refl _ _⟩
      case round =>
        obtain ⟨k, hk, rfl, hs, hbe⟩ := hrel
        have BW := bthen B2 hbe
        have xr := x2.below hbe x2.lt
        have p0 : wr.cell? ⟨w.heap.size, 0, none⟩ = some (.int .i64 r.1.1) := xr.cell 0
        have p1 : wr.cell? ⟨w.heap.size, 1, none⟩ = some (.slice A2 r.1.2.length c2) := xr.cell 1
        have p2 : wr.cell? ⟨w.heap.size, 2, none⟩ = some (.slice A3 r.2.length c3) := xr.cell 2
        clear q2
        by_cases hlt : k < r.2.length
        · obtain ⟨b, o, u0, u1, u2, rfl, hbB, k0, k1, k2, rfl, rfl, p3⟩ := (H3.out.on BW).get hlt
          have HA := Lib.hid p3
          obtain ⟨A4, c4, rfl, hc4, _⟩ := p3
          have hle := len_le_totL r.2 k hlt
          go_wp2_with (fail)
          refine (litFits_any _ _ ar r.2[k] _ ((H.out.on BW).on (below1 _ _)) ⟨_, rfl, HA.out.on (below1 _ _)⟩ (by omega)).mono ?_
          rintro e w4 ⟨rfl, hb4⟩
          have B4 := bthen hbe (bthen (below1 _ _) hb4)
          by_cases he : litFits ar r.2[k] = true
          · rw [he]
            have HS := Lib.hid (hs.step hlt he)
            clear hs he
            go_wp2_with (fail)
            go_roundw
            case rel => exact ⟨k + 1, by omega, by go_num, HS.out, B4⟩
            case measure => simp [intOf]; omega
          · have he' : litFits ar r.2[k] = false := by simpa using he
            rw [he']
            have HE := Lib.hid (show ruleFits ar r = false by rw [HL.out, all_not hlt he']; rfl)
            clear hs he he'
            go_wp2_with (fail)
            go_ret
            exact ⟨ret_bool HE.out.symm, bthen B2 B4⟩
        · have HE := Lib.hid (show ruleFits ar r = ruleSafe r by rw [HL.out, hs.done (by omega), Bool.true_and])
          clear hs
          go_wp2_with (fail)
          refine (implRuleSafe_any _ r _ (HR.out.on BW) hsz).mono ?_
          rintro e w5 ⟨rfl, hb5⟩
          go_wp2_with (fail)
          go_ret
          exact ⟨ret_bool HE.out.symm, bthen BW hb5⟩
    · have hd : decide ((4 : Int) < (r.2.length : Int)) = true := by simp; omega
      have HE := Lib.hid (show ruleFits ar r = false by simp [ruleFits, hl])
      go_wp2_with (fail)
      go_ret
      exact ⟨ret_bool HE.out.symm, B2⟩
  · have hf' : atomFits ar r.1 = false := by simpa using hf
    rw [hf']
    have HE := Lib.hid (show ruleFits ar r = false by simp [ruleFits, hf'])
    clear hf hf'
    go_wp2_with (fail)
    go_ret
    exact ⟨ret_bool HE.out.symm, B2⟩

theorem ruleOk_spec (ar : List Int) (r : LRule) : ruleOk ar r = (r.2.all (litOk ar) && (atomOk ar r.1 && (decide (r.2.length ≤ 4) && ruleSafe r))) := by
  unfold ruleOk ruleFits atomOk
  by_cases ha : arityOk ar = true
  · have : r.2.all (litOk ar) = r.2.all (litFits ar) := by
      congr 1
      funext l
      unfold litOk
      rw [ha, Bool.true_and]
    rw [this, ha]
    cases atomFits ar r.1 <;> cases r.2.all (litFits ar) <;> cases decide (r.2.length ≤ 4) <;> rfl
  · have ha' : arityOk ar = false := by simpa using ha
    rw [ha']
    simp

set_option maxHeartbeats 1000000 in
set_option maxRecDepth 100000 in
theorem specRuleOk_any (v v2 : Value) (ar : List Int) (r : LRule) (w : World) (h : RdInts w w.heap.size v ar) (h2 : RdRule w w.heap.size v2 r) (hr : ar.length ≤ 1048576) (hs : szR r ≤ 1048576) :
    Calls Tryz.prog 35 #[v, v2] w fun e w' => e = .returned (.bool (ruleOk ar r)) ∧ Below w.heap.size w w' := by
  have H := Lib.hid h
  have HR := Lib.hid h2
  have hsz := hs
  unfold szR at hs
  have HP := Lib.hid (ruleOk_spec ar r)
  obtain ⟨A, c, rfl, hc, _⟩ := h
  obtain ⟨a, b, rfl, h2, h3⟩ := h2
  have H2 := Lib.hid h2
  have H3 := Lib.hid h3
  obtain ⟨A2, c2, rfl, hc2, _⟩ := h2
  obtain ⟨A3, c3, rfl, hc3, _⟩ := h3
  go_enter Tryz.func35, Tryz.ntmps35
  go_wp2_with (fail)
  obtain ⟨w2, hw2⟩ : ∃ w2, w2 = w.alloc (Obj.cells #[Value.int IntKind.i64 r.1.1, Value.slice A2 r.1.2.length c2, Value.slice A3 r.2.length c3] 72) := ⟨_, rfl⟩
  have B2 : Below w.heap.size w w2 := by rw [hw2]; exact below1 _ _
  have x2 : Blk w2 w.heap.size 72 #[.int .i64 r.1.1, .slice A2 r.1.2.length c2, .slice A3 r.2.length c3] := by rw [hw2]; exact Blk.new _ _ _
  rw [← hw2]
  clear hw2
  go_loopw [5] (fun i wr => ∃ k : Nat, k ≤ r.2.length ∧ i = .int .i64 k ∧ AllTo (litOk ar) r.2 k ∧ Below w2.heap.size w2 wr) (fun i _ => r.2.length - (intOf i).toNat)
  case atStart => exact ⟨0, Nat.zero_le _, rfl, AllTo.start, Below.refl _ _⟩
  case round =>
    obtain ⟨k, hk, rfl, hs, hbe⟩ := hrel
    have BW := bthen B2 hbe
    have xr := x2.below hbe x2.lt
    have p0 : wr.cell? ⟨w.heap.size, 0, none⟩ = some (.int .i64 r.1.1) := xr.cell 0
    have p1 : wr.cell? ⟨w.heap.size, 1, none⟩ = some (.slice A2 r.1.2.length c2) := xr.cell 1
    have p2 : wr.cell? ⟨w.heap.size, 2, none⟩ = some (.slice A3 r.2.length c3) := xr.cell 2
    by_cases hlt : k < r.2.length
    · obtain ⟨b, o, u0, u1, u2, rfl, hbB, k0, k1, k2, rfl, rfl, p3⟩ := (H3.out.on BW).get hlt
      have HA := Lib.hid p3
      obtain ⟨A4, c4, rfl, hc4, _⟩ := p3
      have hle := len_le_totL r.2 k hlt
      go_wp2_with (fail)
      refine (specLitOk_any _ _ ar r.2[k] _ (H.out.on BW) ⟨_, rfl, HA.out⟩ hr (by omega)).mono ?_
      rintro e w4 ⟨rfl, hb4⟩
      have B4 := bthen hbe hb4
      by_cases he : litOk ar r.2[k] = true
      · rw [he]
        have HS := Lib.hid (hs.step hlt he)
        clear hs he
        go_wp2_with (fail)
        go_roundw
        case rel => exact ⟨k + 1, by omega, by go_num, HS.out, B4⟩
        case measure => simp [intOf]; omega
      · have he' : litOk ar r.2[k] = false := by simpa using he
        rw [he']
        have HE := Lib.hid (show ruleOk ar r = false by rw [HP.out, all_not hlt he']; rfl)
        clear hs he he'
        go_wp2_with (fail)
        go_ret
        exact ⟨ret_bool HE.out.symm, bthen B2 B4⟩
    · have HE := Lib.hid (show ruleOk ar r = (atomOk ar r.1 && (decide (r.2.length ≤ 4) && ruleSafe r)) by rw [HP.out, hs.done (by omega), Bool.true_and])
      clear hs
      go_wp2_with (fail)
      refine (specAtomOk_any _ _ ar r.1 _ (H.out.on BW) ⟨_, rfl, H2.out.on BW⟩ hr (by omega)).mono ?_
      rintro e w5 ⟨rfl, hb5⟩
      have B5 := bthen BW hb5
      have x5 := xr.below hb5 xr.lt
      have p0 : w5.cell? ⟨w.heap.size, 0, none⟩ = some (.int .i64 r.1.1) := x5.cell 0
      have p1 : w5.cell? ⟨w.heap.size, 1, none⟩ = some (.slice A2 r.1.2.length c2) := x5.cell 1
      have p2 : w5.cell? ⟨w.heap.size, 2, none⟩ = some (.slice A3 r.2.length c3) := x5.cell 2
      by_cases hf : atomOk ar r.1 = true
      · rw [hf]
        by_cases hl : r.2.length ≤ 4
        · have hd : decide ((r.2.length : Int) ≤ 4) = true := by simp; omega
          have HE2 := Lib.hid (show ruleOk ar r = ruleSafe r by rw [HE.out, hf]; simp [hl])
          clear hf
          go_wp2_with (fail)
          refine (specRuleSafe_any _ r _ (HR.out.on B5) hsz).mono ?_
          rintro e w6 ⟨rfl, hb6⟩
          go_wp2_with (fail)
          go_ret
          exact ⟨ret_bool HE2.out.symm, bthen B5 hb6⟩
        · have hd : decide ((r.2.length : Int) ≤ 4) = false := by simp; omega
          have HE2 := Lib.hid (show ruleOk ar r = false by rw [HE.out]; simp [hl])
          clear hf
          go_wp2_with (fail)
          go_ret
          exact ⟨ret_bool HE2.out.symm, B5⟩
      · have hf' : atomOk ar r.1 = false := by simpa using hf
        rw [hf']
        have HE2 := Lib.hid (show ruleOk ar r = false by rw [HE.out, hf']; rfl)
        clear hf hf'
        go_wp2_with (fail)
        go_ret
        exact ⟨ret_bool HE2.out.symm, B5⟩

end Go.Proofs.YtcceololijefiaaGreat
/-
  The heads of all rules: how many they are, and the specification's l4All.
-/
namespace Go.Proofs.YtcceololijefiaaGreat
open Go.RowKit

theorem place_short {ar : List Int} {p : Int} {n : Nat} (ha : arityOk ar = true) (h : 0 ≤ p ∧ p < ar.length ∧ (n : Int) = ar.getD p.toNat 0) : n ≤ 2 := by
  obtain ⟨h0, h1, h2⟩ := h
  simp only [arityOk, Bool.and_eq_true, List.all_eq_true] at ha
  have hlt : p.toNat < ar.length := by omega
  have hp := ha.2 _ (List.getElem_mem hlt)
  simp only [placeOk, decide_eq_true_eq] at hp
  have hd : ar.getD p.toNat 0 = ar[p.toNat] := by simp [hlt]
  rw [hd] at h2
  omega
theorem fits_parts {ar : List Int} {f : LFact} (h : factFits ar f = true) : (0 ≤ f.1 ∧ f.1 < ar.length ∧ (f.2.length : Int) = ar.getD f.1.toNat 0) ∧ f.2.all constOk = true := by
  simp only [factFits, Bool.and_eq_true, decide_eq_true_eq] at h
  exact h
theorem fits_short {ar : List Int} {f : LFact} (ha : arityOk ar = true) (h : factFits ar f = true) : f.2.length ≤ 2 := place_short ha (fits_parts h).1
/-- A fact's number. -/
def encF (f : LFact) : Nat := f.1.toNat * 64 + (match f.2 with | [] => 0 | [x] => x.toNat + 1 | x :: y :: _ => x.toNat + 1 + 7 * (y.toNat + 1))
theorem const_range {x : Int} (h : constOk x = true) : 0 ≤ x ∧ x ≤ 5 := by simpa [constOk] using h
theorem encF_lt {ar : List Int} {f : LFact} (ha : arityOk ar = true) (h : factFits ar f = true) : encF f < 1536 := by
  have hs := fits_short ha h
  obtain ⟨⟨h0, h1, _⟩, h2⟩ := fits_parts h
  have hl : ar.length ≤ 24 := by simp only [arityOk, Bool.and_eq_true, decide_eq_true_eq] at ha; exact ha.1
  obtain ⟨p, xs⟩ := f
  rcases xs with _ | ⟨x, _ | ⟨y, _ | ⟨z, xs⟩⟩⟩
  · simp only [encF] at *; omega
  · simp only [List.all_cons, Bool.and_eq_true] at h2
    have := const_range h2.1
    simp only [encF] at *; omega
  · simp only [List.all_cons, Bool.and_eq_true] at h2
    have := const_range h2.1
    have := const_range h2.2.1
    simp only [encF] at *; omega
  · simp at hs
theorem split64 {a b c d : Nat} (e : a * 64 + c = b * 64 + d) (hc : c < 64) (hd : d < 64) : a = b ∧ c = d := by omega
theorem split7 {a b c d : Nat} (e : a + 1 + 7 * (c + 1) = b + 1 + 7 * (d + 1)) (ha : a < 6) (hb : b < 6) : a = b ∧ c = d := by omega
theorem encF_inj {ar : List Int} {f g : LFact} (ha : arityOk ar = true) (hf : factFits ar f = true) (hg : factFits ar g = true) (e : encF f = encF g) : f = g := by
  have hs := fits_short ha hf
  have hs' := fits_short ha hg
  obtain ⟨⟨h0, _, _⟩, h2⟩ := fits_parts hf
  obtain ⟨⟨h0', _, _⟩, h2'⟩ := fits_parts hg
  obtain ⟨p, xs⟩ := f
  obtain ⟨q, ys⟩ := g
  rcases xs with _ | ⟨x, _ | ⟨y, _ | ⟨z, xs⟩⟩⟩ <;> rcases ys with _ | ⟨x', _ | ⟨y', _ | ⟨z', ys⟩⟩⟩ <;> (try (simp at hs; done)) <;> (try (simp at hs'; done)) <;>
    simp only [List.all_cons, List.all_nil, Bool.and_eq_true, and_true] at h2 h2' <;> simp only [encF] at e h0 h0'
  · obtain ⟨e1, _⟩ := split64 e (by omega) (by omega); simp; omega
  · have := const_range h2'; obtain ⟨_, e2⟩ := split64 e (by omega) (by omega); omega
  · have := const_range h2'.1; have := const_range h2'.2; obtain ⟨_, e2⟩ := split64 e (by omega) (by omega); omega
  · have := const_range h2; obtain ⟨_, e2⟩ := split64 e (by omega) (by omega); omega
  · have := const_range h2; have := const_range h2'; obtain ⟨e1, e2⟩ := split64 e (by omega) (by omega); simp; omega
  · have := const_range h2; have := const_range h2'.1; have := const_range h2'.2; obtain ⟨_, e2⟩ := split64 e (by omega) (by omega); omega
  · have := const_range h2.1; have := const_range h2.2; obtain ⟨_, e2⟩ := split64 e (by omega) (by omega); omega
  · have := const_range h2.1; have := const_range h2.2; have := const_range h2'; obtain ⟨_, e2⟩ := split64 e (by omega) (by omega); omega
  · have := const_range h2.1; have := const_range h2.2; have := const_range h2'.1; have := const_range h2'.2
    obtain ⟨e1, e2⟩ := split64 e (by omega) (by omega)
    obtain ⟨e3, e4⟩ := split7 e2 (by omega) (by omega)
    simp; omega
theorem tot_short : ∀ {l : List LFact}, (∀ f ∈ l, f.2.length ≤ 2) → tot l ≤ l.length * 2
  | [], _ => by simp [tot]
  | f :: l, h => by
    have h1 := h f (List.mem_cons_self ..)
    have h2 := tot_short fun g hg => h g (List.mem_cons_of_mem _ hg)
    rw [tot_cons, List.length_cons]
    omega
/-- Facts that fit, no two alike: few. -/
theorem facts_few {ar : List Int} {l : List LFact} (ha : arityOk ar = true) (hn : l.Nodup) (h : ∀ f ∈ l, factFits ar f = true) : l.length ≤ 1536 ∧ tot l ≤ 3072 := by
  have h1 := nodup_len 1536 (l.map encF) (by
    unfold List.Nodup
    rw [List.pairwise_map]
    exact List.Pairwise.imp_of_mem (fun {a b} hx hy hne e => hne (encF_inj ha (h a hx) (h b hy) e)) hn) fun x hx => by
      obtain ⟨b, hb, rfl⟩ := List.mem_map.1 hx
      exact encF_lt ha (h b hb)
  rw [List.length_map] at h1
  have h2 := tot_short fun f hf => fits_short ha (h f hf)
  omega

theorem headOf_fits {ar : List Int} {a : LFact} {bs : List Int} (ha : atomFits ar a = true) (e : headOk a bs = true) : factFits ar (headOf a bs) = true := by
  rw [headOf_yes e]
  simp only [atomFits, Bool.and_eq_true, decide_eq_true_eq] at ha
  simp only [headOk, Bool.and_eq_true] at e
  simp only [factFits, Bool.and_eq_true, decide_eq_true_eq, List.length_map]
  exact ⟨ha.1, e.2⟩
theorem headsTo_asc (a : LFact) (S : List (List Int)) : ∀ k, Asc (headsTo a S k)
  | 0 => List.Pairwise.nil
  | k + 1 => by
    have ih := headsTo_asc a S k
    show Asc (if _ then _ else _)
    split
    · exact (foldWith [headOf a (S.getD k [])] _ ih).1
    · exact ih
theorem headsTo_fits {ar : List Int} {a : LFact} {S : List (List Int)} (ha : atomFits ar a = true) : ∀ k, ∀ f ∈ headsTo a S k, factFits ar f = true
  | 0 => fun f hf => by cases hf
  | k + 1 => by
    have ih := headsTo_fits (S := S) ha k
    intro f hf
    have hf : f ∈ (if headOk a (S.getD k []) then factsWith (headsTo a S k) (headOf a (S.getD k [])) else headsTo a S k) := hf
    split at hf
    · rename_i e
      rcases (factsWith_mem _ _ _).1 hf with h | rfl
      · exact ih f h
      · exact headOf_fits ha e
    · exact ih f hf
theorem headsL_fits {ar : List Int} {r : LRule} (gs : List LFact) (h : ruleFits ar r = true) : ∀ f ∈ headsL r gs, factFits ar f = true := by
  simp only [ruleFits, Bool.and_eq_true] at h
  exact headsTo_fits h.1 _
theorem headsL_few {ar : List Int} {r : LRule} (gs : List LFact) (ha : arityOk ar = true) (h : ruleFits ar r = true) : (headsL r gs).length ≤ 1536 ∧ tot (headsL r gs) ≤ 3072 :=
  facts_few ha (asc_nodup (headsTo_asc _ _ _)) (headsL_fits gs h)
/-- The heads of rules. -/
def headsAll (rs : List LRule) (gs : List LFact) : List LFact := setOf (rs.flatMap fun r => headsL r gs)
theorem setOf_more (xs ys : List LFact) : setOf (setOf xs ++ ys) = setOf (xs ++ ys) :=
  (setOf_asc _).unique (setOf_asc _) fun f => by rw [setOf_mem, setOf_mem, List.mem_append, List.mem_append, setOf_mem]
theorem headsAll_snoc (rs : List LRule) (gs : List LFact) (k : Nat) (h : k < rs.length) : headsAll (rs.take (k + 1)) gs = setOf (headsAll (rs.take k) gs ++ headsL rs[k] gs) := by
  unfold headsAll
  rw [take_snoc rs k h, List.flatMap_append, setOf_more]
  simp
theorem headsAll_fits {ar : List Int} {rs : List LRule} (gs : List LFact) (h : ∀ r ∈ rs, ruleFits ar r = true) : ∀ f ∈ headsAll rs gs, factFits ar f = true := by
  intro f hf
  obtain ⟨r, hr, hm⟩ := List.mem_flatMap.1 ((setOf_mem _ _).1 hf)
  exact headsL_fits gs (h r hr) f hm
theorem headsAll_few {ar : List Int} {rs : List LRule} (gs : List LFact) (ha : arityOk ar = true) (h : ∀ r ∈ rs, ruleFits ar r = true) : (headsAll rs gs).length ≤ 1536 ∧ tot (headsAll rs gs) ≤ 3072 :=
  facts_few ha (asc_nodup (setOf_asc _)) (headsAll_fits gs h)
theorem lit_terms {ar : List Int} {l : LLit} (h : litFits ar l = true) : l.2.2.all termOk = true := by
  unfold litFits at h
  split at h
  · simp only [atomFits, Bool.and_eq_true] at h; exact h.2
  · split at h
    · simp only [Bool.and_eq_true] at h; exact h.2
    · cases h

set_option maxHeartbeats 4000000 in
set_option maxRecDepth 100000 in
theorem l4All_any (v v2 : Value) (ar : List Int) (rs : List LRule) (gs : List LFact) (w : World) (h : RdRules w w.heap.size v rs) (h2 : RdFacts w w.heap.size v2 gs) (har : arityOk ar = true) (hfit : ∀ r ∈ rs, ruleFits ar r = true) (hsz : totR rs ≤ 1048576) (hrl : rs.length ≤ 1048576)
    (hn : gs.length ≤ 1048576) (ht : tot gs ≤ 1048576) (hc : ∀ f ∈ gs, f.2.all constOk = true) (hnd : gs.Nodup) :
    Calls Tryz.prog 21 #[v, v2] w fun e w' => ∃ A c, e = .returned (.slice A (headsAll rs gs).length c) ∧ OwnFacts w' w.heap.size w'.heap.size (.slice A (headsAll rs gs).length c) (headsAll rs gs) ∧ Below w.heap.size w w' := by
  have H := Lib.hid h
  have H2 := Lib.hid h2
  obtain ⟨A, c, rfl, hcA, _⟩ := h
  obtain ⟨A2, c2, rfl, hc2, _⟩ := h2
  have HFIT := Lib.hid hfit
  clear hfit
  go_enter Tryz.func21, Tryz.ntmps21
  go_wp2_with (fail)
  go_loopw [5, 6] (fun o i wr => ∃ (k : Nat) (A' : Option Addr) (c' : Nat), k ≤ rs.length ∧ i = .int .i64 k ∧ o = .slice A' (headsAll (rs.take k) gs).length c' ∧ OwnFacts wr w.heap.size wr.heap.size (.slice A' (headsAll (rs.take k) gs).length c') (headsAll (rs.take k) gs) ∧ Below w.heap.size w wr) (fun _ i _ => rs.length - (intOf i).toNat)
  case atStart => exact ⟨0, _, 0, Nat.zero_le _, rfl, rfl, (ColRel.empty w).own.own.mono (Nat.le_refl _) (Nat.le_refl _), below1 _ _⟩
  case round =>
    obtain ⟨k, A', c', hk, rfl, rfl, ho, hbe⟩ := hrel
    have HO := Lib.hid ho
    have HBE := Lib.hid hbe
    by_cases hlt : k < rs.length
    · obtain ⟨b, o, u0, u1, u2, rfl, hbB, k0, k1, k2, rfl, q1, q2⟩ := (H.out.on hbe).get hlt
      obtain ⟨A3, c3, rfl, _⟩ := id q1
      obtain ⟨A4, c4, rfl, _⟩ := id q2
      have hfk := HFIT.out _ (List.getElem_mem hlt)
      have HW := Lib.hid hfk
      have hparts := hfk
      simp only [ruleFits, atomFits, Bool.and_eq_true, decide_eq_true_eq] at hparts
      have ha2 := place_short har hparts.1.1
      have hsk := sz_le_totR rs k hlt
      unfold szR at hsk
      have HOF := Lib.hid (l4Of_any (.agg #[.int .i64 rs[k].1.1, .slice A3 rs[k].1.2.length c3, .slice A4 rs[k].2.length c4]) (.slice A2 gs.length c2) rs[k] gs _ ⟨_, _, rfl, q1, q2⟩ (H2.out.on hbe) hn ht (by omega) hc hnd (fun l hl => lit_terms (List.all_eq_true.1 hparts.2.2.1 l hl)) ha2)
      have h1 := headsAll_few gs har (rs := rs.take k) (fun r hr => HFIT.out r (List.mem_of_mem_take hr))
      have h2 := headsL_few gs har HW.out
      have HN := Lib.hid (And.intro h1 h2)
      have HE := Lib.hid (headsAll_snoc rs gs k hlt)
      clear ho hbe q1 q2 h1 h2 hparts hfk hsk
      go_wp2_with (first
        | (go_at_call 40; refine HOF.out.mono ?_; rintro e w1 ⟨A5, c5, rfl, o5, b5⟩; have H5 := Lib.hid (And.intro o5 b5); clear o5 b5)
        | (go_at_call 33
           refine (specFactsEither_any _ _ (headsAll (rs.take k) gs) (headsL rs[k] gs) w1 ((HO.out.below H5.out.2 (Nat.le_refl _)).rd.more H5.out.2.size) H5.out.1.rd (by have := HN.out; omega) (by have := HN.out; omega)).mono ?_
           rintro e w2 ⟨A6, c6, rfl, o6, b6⟩; have H6 := Lib.hid (And.intro o6 b6); clear o6 b6))
      go_roundw
      case rel =>
        refine ⟨k + 1, A6, c6, by omega, by go_num, by rw [HE.out], ?_, bthen HBE.out (bthen H5.out.2 H6.out.2)⟩
        rw [HE.out]
        exact H6.out.1.mono (by have := HBE.out.size; have := H5.out.2.size; omega) (Nat.le_refl _)
      case measure => simp [intOf]; omega
    · obtain rfl : k = rs.length := by omega
      have HR := Lib.hid (show rs.take rs.length = rs from List.take_length)
      clear ho hbe
      go_wp2_with (fail)
      go_ret
      have ho := HO.out
      rw [HR.out] at ho ⊢
      exact ⟨A', c', rfl, ho, HBE.out⟩

end Go.Proofs.YtcceololijefiaaGreat
/-
  What comes in, opened: integers.
-/
namespace Go.Proofs.YtcceololijefiaaGreat
open Go.ChangeShapes Go.WideShapes Go.ChangeAt Go.RowKit Go.Joins Go.Deep

theorem Tryz.own : ownKnob Tryz.prog.godebug = none := by kernel_rfl
theorem Tryz.laidOut : laidOutB Tryz.prog = true := by kernel_rfl
theorem Tryz.cells3 : Tryz.prog.cellsOf 3 = 1 := by kernel_rfl
theorem Tryz.cells22 : Tryz.prog.cellsOf 22 = 1 := by kernel_rfl

section
variable {H : Type} {enc : TypeId × Value → H} {W : World}

/-- What is known of a slice of integers that came in. -/
def InInts (W : World) (v : Value) (xs : List Int) : Prop := RdInts W W.heap.size v xs ∧ xs.length ≤ maxLen

/-- The cells of a slice of integers. -/
theorem open_inInts_cells {fuel : Nat} {v : Value} {x : DataW H × List MemPlace} (h : DataW.trod enc Tryz.prog W 0 (fun _ => true) true fuel 22 [v] = some x) : ∃ xs, InInts W v xs := by
  rcases open_ints Tryz.underlying22 Tryz.underlying3 Tryz.cells3 h with ⟨hcs, _⟩ | ⟨a, len, cap, zs, hcs, _, hl, hm, hz, _, hcell, _⟩
  · simp at hcs
    subst hcs
    exact ⟨[], ⟨none, 0, rfl, by simp, fun h => absurd h (by simp)⟩, by simp⟩
  · simp at hcs
    subst hcs
    simp at hz
    refine ⟨zs.take len, ⟨some a, cap, ?_, by simp; omega, fun hn => ?_⟩, by simp; omega⟩
    · congr 1
      simp
      omega
    · have hlen : (zs.take len).length = len := by simp; omega
      obtain ⟨b, o, rfl, hc⟩ := ints_at hcell (by omega)
      refine ⟨b, o, rfl, World.block_lt_of_cell? _ _ (hc 0 (by omega)), fun k hk => ?_⟩
      rw [hc k (by omega)]
      simp [show k < zs.length by omega]

set_option maxRecDepth 100000 in
theorem open_inInts {v : Value} {d : DataW H} {p : List MemPlace} {b0 : Nat} (hv : Value.okWide Tryz.prog W .any b0 22 v) (h : DataW.Trod enc Tryz.prog W 0 (fun _ => true) true 22 v d p) :
    ∃ xs, InInts W v xs := by
  obtain ⟨a, len, cap, rfl⟩ := okWide_slice Tryz.underlying22 hv
  obtain ⟨fuel, hf⟩ := h
  exact open_inInts_cells (by simpa [Value.cells] using hf)

/-- What is known of an int that came in. -/
def InInt (v : Value) (n : Int) : Prop := v = .int .i64 n ∧ -9223372036854775808 ≤ n ∧ n ≤ 9223372036854775807

set_option maxRecDepth 100000 in
theorem open_inInt {v : Value} {d : DataW H} {p : List MemPlace} {b0 : Nat} (hv : Value.okWide Tryz.prog W .any b0 3 v) (h : DataW.Trod enc Tryz.prog W 0 (fun _ => true) true 3 v d p) : ∃ n, InInt v n := by
  obtain ⟨n, rfl, _, _, hw⟩ := open_int Tryz.underlying3 hv h
  exact ⟨n, rfl, bounds_i64 hw⟩
end

end Go.Proofs.YtcceololijefiaaGreat
/-
  What comes in, opened: atoms.
-/
namespace Go.Proofs.YtcceololijefiaaGreat
open Go.ChangeShapes Go.WideShapes Go.ChangeAt Go.RowKit Go.Joins Go.Deep

theorem Tryz.cells64 : Tryz.prog.cellsOf 64 = 2 := by kernel_rfl

section
variable {H : Type} {enc : TypeId × Value → H} {W : World}

def InAtom (W : World) (v : Value) (f : LFact) : Prop := RdFact W W.heap.size v f ∧ f.2.length ≤ maxLen

set_option maxRecDepth 100000 in
theorem open_atom_cells {fuel : Nat} {v0 v1 : Value} {x : DataW H × List MemPlace} (h : DataW.trod enc Tryz.prog W 0 (fun _ => true) true fuel 64 [v0, v1] = some x) : ∃ f : LFact, v0 = .int .i64 f.1 ∧ InInts W v1 f.2 := by
  obtain ⟨y0, y1, n, _, _, h0, h1⟩ := trod_struct2 Tryz.underlying64 h
  rw [Tryz.cells3] at h0
  rw [Tryz.cells22] at h1
  obtain ⟨m, e0, _, _⟩ := DataW.trod_int Tryz.underlying3 h0
  obtain ⟨xs, hx⟩ := open_inInts_cells h1
  simp at e0
  exact ⟨(m, xs), e0, hx⟩

set_option maxRecDepth 100000 in
theorem open_inAtom {v : Value} {d : DataW H} {p : List MemPlace} {b0 : Nat} (hv : Value.okWide Tryz.prog W .any b0 64 v) (h : DataW.Trod enc Tryz.prog W 0 (fun _ => true) true 64 v d p) : ∃ f, InAtom W v f := by
  obtain ⟨cs, rfl, hsz⟩ := okWide_struct Tryz.underlying64 hv
  obtain ⟨c0, c1, rfl⟩ := array2 (hsz.trans Tryz.cells64)
  obtain ⟨fuel, hf⟩ := h
  obtain ⟨f, rfl, h1, h2⟩ := open_atom_cells (v0 := c0) (v1 := c1) (by simpa [Value.cells] using hf)
  exact ⟨f, ⟨c1, rfl, h1⟩, h2⟩
end

end Go.Proofs.YtcceololijefiaaGreat
/-
  What comes in, opened: literals.
-/
namespace Go.Proofs.YtcceololijefiaaGreat
open Go.ChangeShapes Go.WideShapes Go.ChangeAt Go.RowKit Go.Joins Go.Deep

theorem Tryz.cells118 : Tryz.prog.cellsOf 118 = 3 := by kernel_rfl
theorem Tryz.cells65 : Tryz.prog.cellsOf 65 = 1 := by kernel_rfl

section
variable {H : Type} {enc : TypeId × Value → H} {W : World}

def InLit (W : World) (v : Value) (l : LLit) : Prop := RdLit W W.heap.size v l ∧ l.2.2.length ≤ maxLen

def bodyFits (ls : List LLit) : Prop := ls.length ≤ maxLen ∧ ∀ k (h : k < ls.length), ls[k].2.2.length ≤ maxLen

set_option maxRecDepth 100000 in
theorem open_lit_cells {fuel : Nat} {v0 v1 v2 : Value} {x : DataW H × List MemPlace} (h : DataW.trod enc Tryz.prog W 0 (fun _ => true) true fuel 118 [v0, v1, v2] = some x) :
    ∃ l : LLit, QLit W W.heap.size v0 v1 v2 l ∧ l.2.2.length ≤ maxLen := by
  obtain ⟨y0, y1, n, _, _, h0, h1⟩ := trod_struct2 Tryz.underlying118 h
  rw [Tryz.cells3] at h0
  rw [Tryz.cells64] at h1
  obtain ⟨m, e0, _, _⟩ := DataW.trod_int Tryz.underlying3 h0
  obtain ⟨f, e1, hx⟩ := open_atom_cells (v0 := v1) (v1 := v2) h1
  simp at e0
  exact ⟨(m, f), ⟨e0, e1, hx.1⟩, hx.2⟩

/-- A slice of elements of three cells. -/
theorem open_row_cells {α : Type} [Inhabited α] {t e : TypeId} {Q : World → Nat → Value → Value → Value → α → Prop} {N : α → Prop} (ht : Tryz.prog.underlying t = some (.slice e)) (hc : Tryz.prog.cellsOf e = 3)
    (hQ : ∀ {fuel : Nat} {v0 v1 v2 : Value} {x : DataW H × List MemPlace}, DataW.trod enc Tryz.prog W 0 (fun _ => true) true fuel e [v0, v1, v2] = some x → ∃ y : α, Q W W.heap.size v0 v1 v2 y ∧ N y)
    {fuel : Nat} {v : Value} {x : DataW H × List MemPlace} (h : DataW.trod enc Tryz.prog W 0 (fun _ => true) true fuel t [v] = some x) :
    ∃ xs : List α, RdRow Q W W.heap.size v xs ∧ xs.length ≤ maxLen ∧ ∀ k (h : k < xs.length), N xs[k] := by
  rcases open_slice ht h with ⟨hcs, _⟩ | ⟨a, len, cap, m, n, D, Pl, hcs, _, hl, hm, hmm, _, hx⟩
  · simp at hcs
    subst hcs
    exact ⟨[], ⟨none, 0, rfl, by simp, fun h => absurd h (by simp)⟩, by simp, fun k h => absurd h (by simp)⟩
  · simp at hcs
    subst hcs
    simp at hmm
    subst hmm
    rw [hc] at hx
    obtain ⟨F, hF⟩ := choose_lt (α := Value × Value × Value × α) (n := m) (p := fun i q => W.cell? (a.add (i * 3)) = some q.1 ∧ W.cell? (a.add (i * 3 + 1)) = some q.2.1 ∧ W.cell? (a.add (i * 3 + 2)) = some q.2.2.1 ∧ Q W W.heap.size q.1 q.2.1 q.2.2.1 q.2.2.2 ∧ N q.2.2.2) (fun i hi => by
      obtain ⟨cs', h1, h2⟩ := hx i hi
      obtain ⟨_, hlen, hcell⟩ := World.cells?_some h1
      match cs', hlen with
      | [v0, v1, v2], _ =>
        have e0 := hcell 0 (by omega)
        have e1 := hcell 1 (by omega)
        have e2 := hcell 2 (by omega)
        rw [add_add] at e0 e1 e2
        obtain ⟨y, hy, hn⟩ := hQ h2
        exact ⟨(v0, v1, v2, y), by simpa using e0, by simpa using e1, by simpa using e2, hy, hn⟩)
    refine ⟨(List.range len).map fun i => (F i).2.2.2, ⟨some a, m, by simp, by simpa using hl, fun hn => ?_⟩, by simp; omega, fun k hk => ?_⟩
    · simp at hn
      obtain ⟨b, off, spot⟩ := a
      have hspot : spot = none := by simpa [Addr.add] using World.cell?_spot (hF 0 (by omega)).1
      subst hspot
      have hb : b < W.heap.size := by simpa [Addr.add] using World.block_lt_of_cell? _ _ (hF 0 (by omega)).1
      refine ⟨b, off, rfl, hb, fun k hk => ?_⟩
      simp at hk
      obtain ⟨c0, c1, c2, hq, _⟩ := hF k (by omega)
      rw [Go.WideShapes.add_plain] at c0 c1 c2
      exact ⟨_, _, _, by simpa using c0, by simpa [Nat.add_assoc] using c1, by simpa [Nat.add_assoc] using c2, by simpa using hq⟩
    · simp at hk ⊢
      exact (hF k (by omega)).2.2.2.2

set_option maxRecDepth 100000 in
theorem open_lits_cells {fuel : Nat} {v : Value} {x : DataW H × List MemPlace} (h : DataW.trod enc Tryz.prog W 0 (fun _ => true) true fuel 65 [v] = some x) : ∃ ls : List LLit, RdLits W W.heap.size v ls ∧ bodyFits ls :=
  open_row_cells (N := fun l : LLit => l.2.2.length ≤ maxLen) Tryz.underlying65 Tryz.cells118 (fun h => open_lit_cells h) h

def InLits (W : World) (v : Value) (ls : List LLit) : Prop := RdLits W W.heap.size v ls ∧ bodyFits ls
set_option maxRecDepth 100000 in
theorem open_inLits {v : Value} {d : DataW H} {p : List MemPlace} {b0 : Nat} (hv : Value.okWide Tryz.prog W .any b0 65 v) (h : DataW.Trod enc Tryz.prog W 0 (fun _ => true) true 65 v d p) :
    ∃ ls, InLits W v ls := by
  obtain ⟨a, len, cap, rfl⟩ := okWide_slice Tryz.underlying65 hv
  obtain ⟨fuel, hf⟩ := h
  exact open_lits_cells (by simpa [Value.cells] using hf)

set_option maxRecDepth 100000 in
theorem open_inLit {v : Value} {d : DataW H} {p : List MemPlace} {b0 : Nat} (hv : Value.okWide Tryz.prog W .any b0 118 v) (h : DataW.Trod enc Tryz.prog W 0 (fun _ => true) true 118 v d p) : ∃ l, InLit W v l := by
  obtain ⟨cs, rfl, hsz⟩ := okWide_struct Tryz.underlying118 hv
  obtain ⟨c0, c1, c2, rfl⟩ := array3 (hsz.trans Tryz.cells118)
  obtain ⟨fuel, hf⟩ := h
  obtain ⟨l, ⟨rfl, rfl, h1⟩, h2⟩ := open_lit_cells (v0 := c0) (v1 := c1) (v2 := c2) (by simpa [Value.cells] using hf)
  exact ⟨l, ⟨c2, rfl, h1⟩, h2⟩
end

end Go.Proofs.YtcceololijefiaaGreat
/-
  What comes in, opened: rules.
-/
namespace Go.Proofs.YtcceololijefiaaGreat
open Go.ChangeShapes Go.WideShapes Go.ChangeAt Go.RowKit Go.Joins Go.Deep

theorem Tryz.cells67 : Tryz.prog.cellsOf 67 = 3 := by kernel_rfl

section
variable {H : Type} {enc : TypeId × Value → H} {W : World}

def ruleFitsIn (r : LRule) : Prop := r.1.2.length ≤ maxLen ∧ bodyFits r.2

def InRule (W : World) (v : Value) (r : LRule) : Prop := RdRule W W.heap.size v r ∧ ruleFitsIn r

set_option maxRecDepth 100000 in
theorem open_rule_cells {fuel : Nat} {v0 v1 v2 : Value} {x : DataW H × List MemPlace} (h : DataW.trod enc Tryz.prog W 0 (fun _ => true) true fuel 67 [v0, v1, v2] = some x) :
    ∃ r : LRule, QRule W W.heap.size v0 v1 v2 r ∧ ruleFitsIn r := by
  obtain ⟨y0, y1, n, _, _, h0, h1⟩ := trod_struct2 Tryz.underlying67 h
  rw [Tryz.cells64] at h0
  rw [Tryz.cells65] at h1
  obtain ⟨f, e1, hx⟩ := open_atom_cells (v0 := v0) (v1 := v1) h0
  obtain ⟨ls, hl, hb⟩ := open_lits_cells (v := v2) h1
  exact ⟨(f, ls), ⟨e1, hx.1, hl⟩, hx.2, hb⟩

set_option maxRecDepth 100000 in
theorem open_inRule {v : Value} {d : DataW H} {p : List MemPlace} {b0 : Nat} (hv : Value.okWide Tryz.prog W .any b0 67 v) (h : DataW.Trod enc Tryz.prog W 0 (fun _ => true) true 67 v d p) : ∃ r, InRule W v r := by
  obtain ⟨cs, rfl, hsz⟩ := okWide_struct Tryz.underlying67 hv
  obtain ⟨c0, c1, c2, rfl⟩ := array3 (hsz.trans Tryz.cells67)
  obtain ⟨fuel, hf⟩ := h
  obtain ⟨r, ⟨rfl, h1, h3⟩, h2⟩ := open_rule_cells (v0 := c0) (v1 := c1) (v2 := c2) (by simpa [Value.cells] using hf)
  exact ⟨r, ⟨c1, c2, rfl, h1, h3⟩, h2⟩
end

end Go.Proofs.YtcceololijefiaaGreat
/-
  What comes in, opened: integers, atoms, literals, rules, programs.
-/
namespace Go.Proofs.YtcceololijefiaaGreat
open Go.ChangeShapes Go.WideShapes Go.ChangeAt Go.RowKit Go.Joins Go.Deep

theorem Tryz.cells25 : Tryz.prog.cellsOf 25 = 2 := by kernel_rfl
theorem Tryz.cells23 : Tryz.prog.cellsOf 23 = 1 := by kernel_rfl

/-- A program: its predicates' places, its rules. -/
abbrev LProg := List Int × List LRule
def RdProg (w : World) (B : Nat) (v : Value) (p : LProg) : Prop := ∃ a b, v = .agg #[a, b] ∧ RdInts w B a p.1 ∧ RdRules w B b p.2
theorem RdProg.on {w w' : World} {v : Value} {p : LProg} (h : RdProg w w.heap.size v p) (hb : Below w.heap.size w w') : RdProg w' w'.heap.size v p := by
  obtain ⟨a, b, rfl, h1, h2⟩ := h
  exact ⟨a, b, rfl, h1.on hb, h2.on hb⟩

section
variable {H : Type} {enc : TypeId × Value → H} {W : World}

def InProg (W : World) (v : Value) (p : LProg) : Prop := RdProg W W.heap.size v p ∧ p.1.length ≤ maxLen ∧ p.2.length ≤ maxLen ∧ ∀ k (h : k < p.2.length), ruleFitsIn p.2[k]

set_option maxRecDepth 100000 in
theorem open_rules_cells {fuel : Nat} {v : Value} {x : DataW H × List MemPlace} (h : DataW.trod enc Tryz.prog W 0 (fun _ => true) true fuel 23 [v] = some x) : ∃ rs : List LRule, RdRules W W.heap.size v rs ∧ rs.length ≤ maxLen ∧ ∀ k (h : k < rs.length), ruleFitsIn rs[k] :=
  open_row_cells (N := ruleFitsIn) Tryz.underlying23 Tryz.cells67 (fun h => open_rule_cells h) h

set_option maxRecDepth 100000 in
theorem open_inProg {v : Value} {d : DataW H} {p : List MemPlace} {b0 : Nat} (hv : Value.okWide Tryz.prog W .any b0 25 v) (h : DataW.Trod enc Tryz.prog W 0 (fun _ => true) true 25 v d p) : ∃ q, InProg W v q := by
  obtain ⟨cs, rfl, hsz⟩ := okWide_struct Tryz.underlying25 hv
  obtain ⟨c0, c1, rfl⟩ := array2 (hsz.trans Tryz.cells25)
  obtain ⟨fuel, hf⟩ := h
  obtain ⟨y0, y1, n, _, _, h0, h1⟩ := trod_struct2 Tryz.underlying25 hf
  rw [Tryz.cells22] at h0
  rw [Tryz.cells23] at h1
  obtain ⟨xs, hx⟩ := open_inInts_cells (v := c0) (by simpa [Value.cells] using h0)
  obtain ⟨rs, hr, hn, hk⟩ := open_rules_cells (v := c1) (by simpa [Value.cells] using h1)
  exact ⟨(xs, rs), ⟨c0, c1, rfl, hx.1, hr⟩, hx.2, hn, hk⟩
end

end Go.Proofs.YtcceololijefiaaGreat
/-
  The walks over lists of rules and programs: szRuleS, toRuleS, eqRuleS, szProgram, toProgram, eqProgram.
-/
namespace Go.Proofs.YtcceololijefiaaGreat
open Go.RowKit

theorem Tryz.infoRule : (Tryz.prog.info? 72).map (fun i => (i.zero, i.size, i.bytes)) = some (some (.agg #[.int .i64 0, .slice none 0 0, .slice none 0 0]), 3, 56) := by kernel_rfl

set_option maxHeartbeats 400000 in
theorem toRuleS_any (v : Value) (ls : List LRule) (w : World) (h : RdRules w w.heap.size v ls) (hl : ls.length ≤ 1048576) (hn : totR ls ≤ 1048576) :
    Calls Tryz.prog 23 #[v] w fun e w' => ∃ A' c', e = .returned (.slice A' ls.length c') ∧ OwnRules w' w.heap.size w'.heap.size (.slice A' ls.length c') ls ∧ Below w.heap.size w w' := by
  obtain ⟨i0, hi0, hz0, hz1, hz2⟩ := info_parts Tryz.infoRule
  have hmk := fun W => run_make_rowN (P := Tryz.prog) 30 72 i0 (.agg #[.int .i64 0, .slice none 0 0, .slice none 0 0]) Tryz.underlying30 hi0 hz0 .i64 .i64 ls.length ls.length (Nat.le_refl _) (by rw [hz2]; omega) (by omega) W
  rw [hz1] at hmk
  simp only [Value.cells] at hmk
  have H := Lib.hid h
  obtain ⟨A, c, rfl, hc, _⟩ := h
  go_enter Tryz.func23, Tryz.ntmps23
  go_wp2_with (fail)
  go_loopw [4] (fun i wr => ∃ (k : Nat), k ≤ ls.length ∧ i = .int .i64 k ∧ ToRow 72 (.int .i64 0) (.slice none 0 0) (.slice none 0 0) ORule w wr ls k) (fun i _ => ls.length - (intOf i).toNat)
  case atStart => exact ⟨0, Nat.zero_le _, rfl, ToRow.start w ls⟩
  case round =>
    obtain ⟨k, hk, rfl, hr⟩ := hrel
    by_cases hlt : k < ls.length
    · obtain ⟨b, o, u0, u1, u2, rfl, hbB, k0, k1, k2, rfl, k3, k4⟩ := (H.out.on hr.below).get hlt
      have HA := Lib.hid k3
      have HB := Lib.hid k4
      obtain ⟨A3, c3, rfl, hc4, _⟩ := k3
      obtain ⟨A5, c5, rfl, hc5, _⟩ := k4
      have hln := sz_le_totR ls k hlt
      go_wp2_with (fail)
      refine (toRule_any _ ls[k] _ ⟨_, _, rfl, HA.out, HB.out⟩ (by omega)).mono ?_
      rintro e w4 ⟨A4, c4, A6, c6, rfl, ho4, hl4, hb4⟩
      obtain ⟨r1, r2, r3, r4, r5, r6⟩ := hr.room hlt hb4
      have hstep := hr.step (O := ORule) ORule.keep ORule.mono hlt hb4 (u0 := .int .i64 ls[k].1.1) ⟨rfl, ho4, hl4⟩
      go_wp2_with (fail)
      go_roundw
      case rel => exact ⟨k + 1, by omega, by go_num, hstep⟩
      case measure => simp [intOf]; omega
    · have hkn : k = ls.length := by omega
      have HO := Lib.hid (show OwnRules wr w.heap.size wr.heap.size (.slice (some ⟨w.heap.size, 0, none⟩) ls.length ls.length) ls from ToRow.done (O := ORule) ORule.mono (by have h' := hr; rw [hkn] at h'; exact h'))
      have hbe := hr.below
      clear hkn hr
      go_wp2_with (fail)
      go_ret
      exact ⟨_, _, rfl, HO.out, hbe⟩

set_option maxHeartbeats 400000 in
set_option maxRecDepth 100000 in
theorem eqRuleS_any (va vb : Value) (xs ys : List LRule) (w : World) (ha : RdRules w w.heap.size va xs) (hb : RdRules w w.heap.size vb ys) (hx : xs.length ≤ 1048576) (hy : ys.length ≤ 1048576) (htx : totR xs ≤ 1048576) (hty : totR ys ≤ 1048576) :
    Calls Tryz.prog 31 #[va, vb] w fun e w' => e = .returned (.bool (decide (xs = ys))) ∧ Below w.heap.size w w' := by
  have HX := Lib.hid ha
  have HY := Lib.hid hb
  obtain ⟨A, c, rfl, hc, _⟩ := ha
  obtain ⟨A2, c2, rfl, hc2, _⟩ := hb
  by_cases hl : xs.length = ys.length
  · have hl1 : ((xs.length : Int) != (ys.length : Int)) = false := by simp [hl]
    have HL := Lib.hid hl
    clear hl
    go_enter Tryz.func31, Tryz.ntmps31
    go_wp2_with (fail)
    go_loopw [5] (fun i wr => ∃ k : Nat, k ≤ xs.length ∧ i = .int .i64 k ∧ TSame xs ys k ∧ Below w.heap.size w wr) (fun i _ => xs.length - (intOf i).toNat)
    case atStart => exact ⟨0, Nat.zero_le _, rfl, rfl, Below.refl _ _⟩
    case round =>
      obtain ⟨k, hk, rfl, hs, hbe⟩ := hrel
      by_cases hlt : k < xs.length
      · have hlt2 : k < ys.length := by have := HL.out; omega
        obtain ⟨b, o, u0, u1, u2, rfl, hbB, k0, k1, k2, rfl, p3, p4⟩ := (HX.out.on hbe).get hlt
        obtain ⟨b2, o2, v0, v1, v2, rfl, hbB2, m0, m1, m2, rfl, q3, q4⟩ := (HY.out.on hbe).get hlt2
        have hln := sz_le_totR xs k hlt
        have hln2 := sz_le_totR ys k hlt2
        have HA := Lib.hid p3
        have HA2 := Lib.hid q3
        have HB := Lib.hid p4
        have HB2 := Lib.hid q4
        obtain ⟨A3, c3, rfl, hc3, _⟩ := p3
        obtain ⟨A4, c4, rfl, hc4, _⟩ := q3
        obtain ⟨A5, c5, rfl, hc5, _⟩ := p4
        obtain ⟨A6, c6, rfl, hc6, _⟩ := q4
        go_wp2_with (fail)
        go_still_tail 8, (by kernel_rfl)
        change wpList _ _ _ _ _ wr.drew
        obtain ⟨w2, hw2⟩ : ∃ w2, w2 = wr.drew := ⟨_, rfl⟩
        rw [← hw2]
        have hbe2 : Below wr.heap.size wr w2 := by rw [hw2]; exact (Below.refl _ _).drew
        clear hw2
        go_wp2_with (fail)
        refine (eqRule_any _ _ xs[k] ys[k] _ ⟨_, _, rfl, HA.out.on hbe2, HB.out.on hbe2⟩ ⟨_, _, rfl, HA2.out.on hbe2, HB2.out.on hbe2⟩ (by omega) (by omega)).mono ?_
        rintro e w4 ⟨rfl, hb4⟩
        have hB4 := bthen hbe (bthen hbe2 hb4)
        by_cases he : xs[k] = ys[k]
        · have hdb : decide (xs[k] = ys[k]) = true := by simp [he]
          have HS := Lib.hid (hs.step hlt hlt2 he)
          clear he hs
          go_wp2_with (fail)
          go_roundw
          case rel => exact ⟨k + 1, by omega, by go_num, HS.out, hB4⟩
          case measure => simp [intOf]; omega
        · have hdb : decide (xs[k] = ys[k]) = false := by simp [he]
          have HE := Lib.hid (show xs ≠ ys from fun e => he (by subst e; rfl))
          clear he hs
          go_wp2_with (fail)
          go_ret
          exact ⟨ret_bool (by simp [HE.out]), hB4⟩
      · have hkn : k = xs.length := by omega
        have HE := Lib.hid (show xs = ys from TSame.eq (by rw [← hkn]; exact hs) HL.out)
        clear hkn hs
        go_wp2_with (fail)
        go_ret
        exact ⟨ret_bool (by simp [HE.out]), hbe⟩
  · have hl1 : ((xs.length : Int) != (ys.length : Int)) = true := by simp; omega
    have HE := Lib.hid (show xs ≠ ys from fun e => hl (by rw [e]))
    clear hl
    go_enter Tryz.func31, Tryz.ntmps31
    go_wp2_with (fail)
    go_ret
    exact ⟨ret_bool (by simp [HE.out]), Below.refl _ _⟩

set_option maxHeartbeats 400000 in
theorem szRuleS_any (v : Value) (ls : List LRule) (left : Int) (w : World) (h : RdRules w w.heap.size v ls) (h0 : 0 ≤ left) (hl : left ≤ 1048576) (hn : ls.length ≤ 9223372036854775807) (hm : ∀ k (h : k < ls.length), ruleLens ls[k]) :
    Calls Tryz.prog 16 #[v, .int .i64 left] w fun e w' => ∃ r, e = .returned (.int .i64 r) ∧ SzRes r left (ls.length + totR ls) ∧ Below w.heap.size w w' := by
  have H := Lib.hid h
  obtain ⟨A, c, rfl, hc, _⟩ := h
  by_cases hneg : left - (ls.length : Int) < 0
  · go_enter Tryz.func16, Tryz.ntmps16
    go_wp2_with (fail)
    go_ret
    exact ⟨_, rfl, .inl rfl, Below.refl _ _⟩
  · go_enter Tryz.func16, Tryz.ntmps16
    go_wp2_with (fail)
    go_loopw [1, 5] (fun l i wr => ∃ (k : Nat) (r : Int), k ≤ ls.length ∧ i = .int .i64 k ∧ l = .int .i64 r ∧ SzTo r left ls.length (totR (ls.take k)) ∧ Below w.heap.size w wr) (fun _ i _ => ls.length - (intOf i).toNat)
    case atStart => exact ⟨0, _, Nat.zero_le _, rfl, rfl, ⟨by omega, by simp [totR]⟩, Below.refl _ _⟩
    case round =>
      obtain ⟨k, r, hk, rfl, rfl, hs, hbe⟩ := hrel
      by_cases hlt : k < ls.length
      · obtain ⟨b, o, u0, u1, u2, rfl, hbB, k0, k1, k2, rfl, p3, p4⟩ := (H.out.on hbe).get hlt
        have HA := Lib.hid p3
        have HB := Lib.hid p4
        obtain ⟨A3, c3, rfl, hc3, _⟩ := p3
        obtain ⟨A5, c5, rfl, hc5, _⟩ := p4
        have hmk := hm k hlt
        have htk := totR_take ls k hlt
        have hr0 := hs.1
        have hr1 := hs.2
        have HT := Lib.hid (And.intro htk hr1)
        clear htk hr1
        go_wp2_with (fail)
        refine (szRule_any _ ls[k] r _ ⟨_, _, rfl, HA.out, HB.out⟩ hr0 (by have := HT.out; omega) hmk).mono ?_
        rintro e w4 ⟨z, rfl, hz, hb4⟩
        have hB4 := bthen hbe hb4
        rcases hz with rfl | ⟨z0, z1⟩
        · go_wp2_with (fail)
          go_ret
          exact ⟨_, rfl, .inl rfl, hB4⟩
        · have h1 : ¬ z < 0 := by omega
          have HS := Lib.hid (show SzTo z left ls.length (totR (ls.take (k + 1))) from ⟨z0, by have := HT.out; omega⟩)
          clear z1
          go_wp2_with (fail)
          go_roundw
          case rel => exact ⟨k + 1, _, by omega, by go_num, rfl, HS.out, hB4⟩
          case measure => simp [intOf]; omega
      · have hkn : k = ls.length := by omega
        have HE := Lib.hid (show SzRes r left (ls.length + totR ls) from .inr ⟨hs.1, by have := hs.2; rw [hkn, List.take_length] at this; omega⟩)
        clear hkn hs
        go_wp2_with (fail)
        go_ret
        exact ⟨_, rfl, HE.out, hbe⟩

/-- What szProgram counts. -/
def szP (p : LProg) : Nat := p.1.length + (p.2.length + totR p.2)
def progLens (p : LProg) : Prop := p.1.length ≤ 9223372036854775807 ∧ p.2.length ≤ 9223372036854775807 ∧ ∀ k (h : k < p.2.length), ruleLens p.2[k]

set_option maxHeartbeats 400000 in
theorem szProgram_any (v : Value) (p : LProg) (left : Int) (w : World) (h : RdProg w w.heap.size v p) (h0 : 0 ≤ left) (hl : left ≤ 1048576) (hn : progLens p) :
    Calls Tryz.prog 5 #[v, .int .i64 left] w fun e w' => ∃ z, e = .returned (.int .i64 z) ∧ SzRes z left (szP p) ∧ Below w.heap.size w w' := by
  obtain ⟨a, b, rfl, h, h2⟩ := h
  obtain ⟨hn1, hn2, hn3⟩ := hn
  have H := Lib.hid h
  have H2 := Lib.hid h2
  obtain ⟨A, c, rfl, hc, _⟩ := h
  obtain ⟨A2, c2, rfl, hcc, _⟩ := h2
  have hcs := szV_cases left p.1.length
  go_enter Tryz.func5, Tryz.ntmps5
  go_wp2_with (fail)
  obtain ⟨w1, hw1⟩ : ∃ w1, w1 = w.alloc (Obj.cells #[Value.slice A p.1.length c, Value.slice A2 p.2.length c2] 25) := ⟨_, rfl⟩
  have B1 : Below w.heap.size w w1 := by rw [hw1]; exact below1 _ _
  have x1 : Blk w1 w.heap.size 25 #[.slice A p.1.length c, .slice A2 p.2.length c2] := by rw [hw1]; exact Blk.new w _ _
  have hx2 : w1.cell? ⟨w.heap.size, 1, none⟩ = some (.slice A2 p.2.length c2) := x1.cell 1
  rw [← hw1]
  clear hw1
  refine (szIntS_any _ _ _ _ _ h0 hl hn1).mono ?_
  rintro e w' ⟨rfl, rfl⟩
  rcases hcs with ⟨e1, e2⟩ | ⟨e1, e2⟩
  · rw [e1]
    have HV := Lib.hid e1
    clear e1
    go_wp2_with (fail)
    go_ret
    exact ⟨_, rfl, .inl rfl, B1⟩
  · have h1 : ¬ szV left p.1.length < 0 := by omega
    go_wp2_with (fail)
    refine (szRuleS_any _ p.2 _ _ (H2.out.on B1) e1 (by omega) hn2 hn3).mono ?_
    rintro e w2 ⟨z, rfl, hz, hb2⟩
    have hB2 := bthen B1 hb2
    rcases hz with rfl | ⟨z0, z1⟩
    · go_wp2_with (fail)
      go_ret
      exact ⟨_, rfl, .inl rfl, hB2⟩
    · have hz : ¬ z < 0 := by omega
      have HZ := Lib.hid (show SzRes z left (szP p) from .inr ⟨z0, by unfold szP; omega⟩)
      clear z0 z1 e1 e2
      go_wp2_with (fail)
      go_ret
      exact ⟨_, rfl, HZ.out, hB2⟩

theorem OwnRules.below {w w' : World} {lo hi B : Nat} {v : Value} {rs : List LRule} (h : OwnRules w lo hi v rs) (hb : Below B w w') (hB : hi ≤ B) : OwnRules w' lo hi v rs := h.keep fun g _ h2 => hb.block g (by omega)
theorem OwnRules.far {w : World} {lo hi : Nat} {v : Value} {rs : List LRule} (h : OwnRules w lo hi v rs) {p : Addr} (hp : p.block < lo) (u : Value) : OwnRules (w.setCell p u) lo hi v rs :=
  h.keep fun g h1 _ => Below.heap_setCell _ _ _ _ (by omega)

set_option maxHeartbeats 1000000 in
theorem toProgram_any (v : Value) (p : LProg) (w : World) (h : RdProg w w.heap.size v p) (hn : szP p ≤ 1048576) :
    Calls Tryz.prog 8 #[v] w fun e w' => ∃ A' c' A2' c2', e = .returned (.agg #[.slice A' p.1.length c', .slice A2' p.2.length c2']) ∧ OwnInts w' w.heap.size w'.heap.size (.slice A' p.1.length c') p.1 ∧ OwnRules w' w.heap.size w'.heap.size (.slice A2' p.2.length c2') p.2 ∧ Below w.heap.size w w' := by
  obtain ⟨a, b, rfl, h, h2⟩ := h
  unfold szP at hn
  have H := Lib.hid h
  have H2 := Lib.hid h2
  obtain ⟨A, c, rfl, hc, _⟩ := h
  obtain ⟨A2, c2, rfl, hcc, _⟩ := h2
  go_enter Tryz.func8, Tryz.ntmps8
  go_wp2_with (fail)
  obtain ⟨w3, hw3⟩ : ∃ w3, w3 = ((w.alloc (Obj.cells #[Value.slice A p.1.length c, Value.slice A2 p.2.length c2] 25)).alloc (Obj.cells #[.slice none 0 0, .slice none 0 0] 32)).alloc (Obj.cells #[.slice none 0 0, .slice none 0 0] 32) := ⟨_, rfl⟩
  have B3 : Below w.heap.size w w3 := by rw [hw3]; exact below3 _ _ _ _
  have s3 : w3.heap.size = w.heap.size + 3 := by rw [hw3]; simp
  have x0 : Blk w3 w.heap.size 25 #[.slice A p.1.length c, .slice A2 p.2.length c2] := by rw [hw3]; exact ((Blk.new w _ _).alloc _).alloc _
  have x1 : Blk w3 (w.heap.size + 1) 32 #[.slice none 0 0, .slice none 0 0] := by
    rw [hw3]
    simpa using (Blk.new (w.alloc (Obj.cells #[Value.slice A p.1.length c, Value.slice A2 p.2.length c2] 25)) _ _).alloc _
  have x2 : Blk w3 (w.heap.size + 2) 32 #[.slice none 0 0, .slice none 0 0] := by
    rw [hw3]
    simpa using Blk.new ((w.alloc (Obj.cells #[Value.slice A p.1.length c, Value.slice A2 p.2.length c2] 25)).alloc (Obj.cells #[.slice none 0 0, .slice none 0 0] 32)) _ _
  rw [← hw3]
  clear hw3
  refine (toIntS_any _ p.1 _ (H.out.on B3) (by omega)).mono ?_
  rintro e w4 ⟨A4, c4, rfl, ho, hb⟩
  have y0 := x0.below hb x0.lt
  have y1 := x1.below hb x1.lt
  have y2 := x2.below hb x2.lt
  have z2c0 : w4.cell? ⟨w.heap.size + 2, 0, none⟩ = some (.slice none 0 0) := y2.cell 0
  have z2f0 := y2.frozen 0
  have z0c2 : w4.cell? ⟨w.heap.size, 1, none⟩ = some (.slice A2 p.2.length c2) := y0.cell 1
  go_wp2_with (fail)
  obtain ⟨w5, hw5⟩ : ∃ w5, w5 = w4.setCell ⟨w.heap.size + 2, 0, none⟩ (.slice A4 p.1.length c4) := ⟨_, rfl⟩
  have s5 : w5.heap.size = w4.heap.size := by rw [hw5]; simp
  have s4 := hb.size
  have u2 : Blk w5 (w.heap.size + 2) 32 #[.slice A4 p.1.length c4, .slice none 0 0] := by
    rw [hw5]
    simpa using y2.set_ 0 (.slice A4 p.1.length c4)
  have u1 : Blk w5 (w.heap.size + 1) 32 #[.slice none 0 0, .slice none 0 0] := by rw [hw5]; exact y1.far (by simp) _
  have B5 : Below w.heap.size w w5 := by rw [hw5]; exact (bthen B3 hb).setCell (by simp) _
  have O5 : OwnInts w5 w3.heap.size w4.heap.size (.slice A4 p.1.length c4) p.1 := by rw [hw5]; exact ho.far (by simp [s3]) _
  rw [← hw5]
  clear hw5 z2c0 z2f0 z0c2
  refine (toRuleS_any _ p.2 _ (H2.out.on B5) (by omega) (by omega)).mono ?_
  rintro e w6 ⟨A6, c6, rfl, ho6, hb6⟩
  have v1 := u1.below hb6 u1.lt
  have v2 := u2.below hb6 u2.lt
  have B6 := bthen B5 hb6
  have O6 := O5.below hb6 (by omega)
  have s6 := hb6.size
  have b1c0 : w6.cell? ⟨w.heap.size + 1, 0, none⟩ = some (.slice none 0 0) := v1.cell 0
  have b1c1 : w6.cell? ⟨w.heap.size + 1, 1, none⟩ = some (.slice none 0 0) := v1.cell 1
  have b2c0 : w6.cell? ⟨w.heap.size + 2, 0, none⟩ = some (.slice A4 p.1.length c4) := v2.cell 0
  have b2c1 : w6.cell? ⟨w.heap.size + 2, 1, none⟩ = some (.slice none 0 0) := v2.cell 1
  have b1f0 := v1.frozen 0
  have b1f1 := v1.frozen 1
  have b2f1 := v2.frozen 1
  clear y0 y1 y2 x0 x1 x2
  go_wp2_with (fail)
  refine bodyPost_ret (v := .agg #[.slice A4 p.1.length c4, .slice A6 p.2.length c6]) (by simp [results, Tryz.results8, go_sem, b1c0, b1c1]) rfl ⟨_, _, _, _, rfl, ?_, ?_, ?_⟩
  · refine OwnInts.mono (lo := w3.heap.size) (hi := w4.heap.size) ?_ (by omega) (by simp; omega)
    repeat (first | exact O6 | refine OwnInts.far ?_ (by simp [s3]) _)
  · refine OwnRules.mono (lo := w5.heap.size) (hi := w6.heap.size) ?_ (by omega) (by simp)
    repeat (first | exact ho6 | refine OwnRules.far ?_ (by simp; omega) _)
  · repeat (first | exact B6 | refine Below.setCell ?_ (by first | (simp; done) | (simp; omega)) _)

set_option maxHeartbeats 1000000 in
theorem eqProgram_any (v v2 : Value) (f g : LProg) (w : World) (h : RdProg w w.heap.size v f) (h2 : RdProg w w.heap.size v2 g) (hn : szP f ≤ 1048576) (hn2 : szP g ≤ 1048576) :
    Calls Tryz.prog 11 #[v, v2] w fun e w' => e = .returned (.bool (decide (f = g))) ∧ Below w.heap.size w w' := by
  obtain ⟨a, b, rfl, h, h3⟩ := h
  obtain ⟨a2, b2, rfl, h2, h4⟩ := h2
  unfold szP at hn hn2
  have H := Lib.hid h
  have H2 := Lib.hid h2
  have H3 := Lib.hid h3
  have H4 := Lib.hid h4
  obtain ⟨A, c, rfl, hc, _⟩ := h
  obtain ⟨A2, c2, rfl, hc2, _⟩ := h2
  obtain ⟨A3, c3, rfl, hc3, _⟩ := h3
  obtain ⟨A4, c4, rfl, hc4, _⟩ := h4
  go_enter Tryz.func11, Tryz.ntmps11
  go_wp2_with (fail)
  obtain ⟨w2, hw2⟩ : ∃ w2, w2 = (w.alloc (Obj.cells #[Value.slice A f.1.length c, Value.slice A3 f.2.length c3] 32)).alloc (Obj.cells #[Value.slice A2 g.1.length c2, Value.slice A4 g.2.length c4] 32) := ⟨_, rfl⟩
  have B2 : Below w.heap.size w w2 := by rw [hw2]; exact below2 _ _ _
  have x0 : Blk w2 w.heap.size 32 #[.slice A f.1.length c, .slice A3 f.2.length c3] := by rw [hw2]; exact (Blk.new w _ _).alloc _
  have x1 : Blk w2 (w.heap.size + 1) 32 #[.slice A2 g.1.length c2, .slice A4 g.2.length c4] := by
    rw [hw2]
    simpa using Blk.new (w.alloc (Obj.cells #[Value.slice A f.1.length c, Value.slice A3 f.2.length c3] 32)) _ _
  rw [← hw2]
  clear hw2
  refine (eqIntS_any _ _ f.1 g.1 _ (H.out.on B2) (H2.out.on B2) (by omega) (by omega)).mono ?_
  rintro e w4 ⟨rfl, hb⟩
  have y0 := x0.below hb x0.lt
  have y1 := x1.below hb x1.lt
  have B4 := bthen B2 hb
  have z0 : w4.cell? ⟨w.heap.size, 1, none⟩ = some (.slice A3 f.2.length c3) := y0.cell 1
  have z1 : w4.cell? ⟨w.heap.size + 1, 1, none⟩ = some (.slice A4 g.2.length c4) := y1.cell 1
  by_cases hp : f.1 = g.1
  · have hpb : decide (f.1 = g.1) = true := by simp [hp]
    have HE := Lib.hid (show decide (f = g) = decide (f.2 = g.2) from decide_eq_decide.2 ⟨fun e => by rw [e], fun e => Prod.ext hp e⟩)
    clear hp
    go_wp2_with (fail)
    refine (eqRuleS_any _ _ f.2 g.2 _ (H3.out.on B4) (H4.out.on B4) (by omega) (by omega) (by omega) (by omega)).mono ?_
    rintro e w5 ⟨rfl, hb5⟩
    have B5 := bthen B4 hb5
    by_cases hd : f.2 = g.2
    · have hdb : decide (f.2 = g.2) = true := by simp [hd]
      have HD := Lib.hid hdb
      clear hd
      go_wp2_with (fail)
      go_ret
      exact ⟨ret_bool (by rw [HE.out, HD.out]), B5⟩
    · have hdb : decide (f.2 = g.2) = false := by simp [hd]
      have HD := Lib.hid hdb
      clear hd
      go_wp2_with (fail)
      go_ret
      exact ⟨ret_bool (by rw [HE.out, HD.out]), B5⟩
  · have hpb : decide (f.1 = g.1) = false := by simp [hp]
    have HE := Lib.hid (show decide (f = g) = false from decide_eq_false fun e => hp (by rw [e]))
    clear hp
    go_wp2_with (fail)
    go_ret
    exact ⟨ret_bool HE.out.symm, B4⟩

end Go.Proofs.YtcceololijefiaaGreat
/-
  The walks of both ProgramOk, of l2Has, and of both Positive.
-/
namespace Go.Proofs.YtcceololijefiaaGreat
open Go.RowKit

def progOk (p : LProg) : Bool := arityOk p.1 && (decide (p.2.length ≤ 60) && p.2.all (ruleFits p.1))
theorem progOk_spec (p : LProg) : progOk p = (p.2.all (ruleOk p.1) && (arityOk p.1 && decide (p.2.length ≤ 60))) := by
  unfold progOk
  by_cases ha : arityOk p.1 = true
  · have : p.2.all (ruleOk p.1) = p.2.all (ruleFits p.1) := by
      congr 1
      funext r
      unfold ruleOk
      rw [ha, Bool.true_and]
    rw [this, ha]
    cases p.2.all (ruleFits p.1) <;> cases decide (p.2.length ≤ 60) <;> rfl
  · have ha' : arityOk p.1 = false := by simpa using ha
    rw [ha']
    simp

set_option maxHeartbeats 1000000 in
set_option maxRecDepth 100000 in
theorem implProgramOk_any (v : Value) (p : LProg) (w : World) (h : RdProg w w.heap.size v p) (hs : szP p ≤ 1048576) :
    Calls Tryz.prog 25 #[v] w fun e w' => e = .returned (.bool (progOk p)) ∧ Below w.heap.size w w' := by
  unfold szP at hs
  obtain ⟨a, b, rfl, h, h2⟩ := h
  have H := Lib.hid h
  have H2 := Lib.hid h2
  obtain ⟨A, c, rfl, hc, _⟩ := h
  obtain ⟨A2, c2, rfl, hc2, _⟩ := h2
  go_enter Tryz.func25, Tryz.ntmps25
  go_wp2_with (fail)
  refine (arityOk_any _ p.1 _ (H.out.on (below1 _ _)) (by omega)).mono ?_
  rintro e w2 ⟨rfl, hb2⟩
  have B2 := bthen (below1 _ _) hb2
  have x2 : Blk w2 w.heap.size 32 #[.slice A p.1.length c, .slice A2 p.2.length c2] := (Blk.new w _ _).below hb2 (by simp)
  have q1 : w2.cell? ⟨w.heap.size, 1, none⟩ = some (.slice A2 p.2.length c2) := x2.cell 1
  by_cases hf : arityOk p.1 = true
  · rw [hf]
    have HF := Lib.hid hf
    clear hf hb2
    by_cases hl : p.2.length ≤ 60
    · have hd : decide ((60 : Int) < (p.2.length : Int)) = false := by simp; omega
      have HL := Lib.hid (show progOk p = p.2.all (ruleFits p.1) by simp [progOk, HF.out, hl])
      go_wp2_with (fail)
      go_loopw [18] (fun i wr => ∃ k : Nat, k ≤ p.2.length ∧ i = .int .i64 k ∧ AllTo (ruleFits p.1) p.2 k ∧ Below w2.heap.size w2 wr) (fun i _ => p.2.length - (intOf i).toNat)
      case atStart => exact ⟨0, Nat.zero_le _, rfl, AllTo.start, Below.refl _ _⟩
      case round =>
        obtain ⟨k, hk, rfl, hs, hbe⟩ := hrel
        have BW := bthen B2 hbe
        have xr := x2.below hbe x2.lt
        clear q1
        by_cases hlt : k < p.2.length
        · obtain ⟨b, o, u0, u1, u2, rfl, hbB, k0, k1, k2, rfl, p3, p4⟩ := (H2.out.on BW).get hlt
          have HA := Lib.hid p3
          have HB := Lib.hid p4
          obtain ⟨A4, c4, rfl, hc4, _⟩ := p3
          obtain ⟨A5, c5, rfl, hc5, _⟩ := p4
          have hle := sz_le_totR p.2 k hlt
          have q0 : ∀ O, (wr.alloc O).cell? ⟨w.heap.size, 0, none⟩ = some (.slice A p.1.length c) := fun O => (xr.alloc O).cell 0
          go_wp2_with (fail)
          refine (ruleFits_any _ _ p.1 p.2[k] _ ((H.out.on BW).on (below1 _ _)) ⟨_, _, rfl, HA.out.on (below1 _ _), HB.out.on (below1 _ _)⟩ (by omega)).mono ?_
          rintro e w4 ⟨rfl, hb4⟩
          have B4 := bthen hbe (bthen (below1 _ _) hb4)
          by_cases he : ruleFits p.1 p.2[k] = true
          · rw [he]
            have HS := Lib.hid (hs.step hlt he)
            clear hs he
            go_wp2_with (fail)
            go_roundw
            case rel => exact ⟨k + 1, by omega, by go_num, HS.out, B4⟩
            case measure => simp [intOf]; omega
          · have he' : ruleFits p.1 p.2[k] = false := by simpa using he
            rw [he']
            have HE := Lib.hid (show progOk p = false by rw [HL.out, all_not hlt he'])
            clear hs he he'
            go_wp2_with (fail)
            go_ret
            exact ⟨ret_bool HE.out.symm, bthen B2 B4⟩
        · have HE := Lib.hid (show progOk p = true by rw [HL.out, hs.done (by omega)])
          clear hs
          go_wp2_with (fail)
          go_ret
          exact ⟨ret_bool HE.out.symm, BW⟩
    · have hd : decide ((60 : Int) < (p.2.length : Int)) = true := by simp; omega
      have HE := Lib.hid (show progOk p = false by simp [progOk, hl])
      go_wp2_with (fail)
      go_ret
      exact ⟨ret_bool HE.out.symm, B2⟩
  · have hf' : arityOk p.1 = false := by simpa using hf
    rw [hf']
    have HE := Lib.hid (show progOk p = false by simp [progOk, hf'])
    clear hf hf'
    go_wp2_with (fail)
    go_ret
    exact ⟨ret_bool HE.out.symm, B2⟩

set_option maxHeartbeats 1000000 in
set_option maxRecDepth 100000 in
theorem specProgramOk_any (v : Value) (p : LProg) (w : World) (h : RdProg w w.heap.size v p) (hs : szP p ≤ 1048576) :
    Calls Tryz.prog 18 #[v] w fun e w' => e = .returned (.bool (progOk p)) ∧ Below w.heap.size w w' := by
  unfold szP at hs
  obtain ⟨a, b, rfl, h, h2⟩ := h
  have H := Lib.hid h
  have H2 := Lib.hid h2
  have HP := Lib.hid (progOk_spec p)
  obtain ⟨A, c, rfl, hc, _⟩ := h
  obtain ⟨A2, c2, rfl, hc2, _⟩ := h2
  go_enter Tryz.func18, Tryz.ntmps18
  go_wp2_with (fail)
  obtain ⟨w2, hw2⟩ : ∃ w2, w2 = w.alloc (Obj.cells #[Value.slice A p.1.length c, Value.slice A2 p.2.length c2] 32) := ⟨_, rfl⟩
  have B2 : Below w.heap.size w w2 := by rw [hw2]; exact below1 _ _
  have x2 : Blk w2 w.heap.size 32 #[.slice A p.1.length c, .slice A2 p.2.length c2] := by rw [hw2]; exact Blk.new _ _ _
  rw [← hw2]
  clear hw2
  go_loopw [3] (fun i wr => ∃ k : Nat, k ≤ p.2.length ∧ i = .int .i64 k ∧ AllTo (ruleOk p.1) p.2 k ∧ Below w2.heap.size w2 wr) (fun i _ => p.2.length - (intOf i).toNat)
  case atStart => exact ⟨0, Nat.zero_le _, rfl, AllTo.start, Below.refl _ _⟩
  case round =>
    obtain ⟨k, hk, rfl, hs, hbe⟩ := hrel
    have BW := bthen B2 hbe
    have xr := x2.below hbe x2.lt
    have q0 : wr.cell? ⟨w.heap.size, 0, none⟩ = some (.slice A p.1.length c) := xr.cell 0
    have q1 : wr.cell? ⟨w.heap.size, 1, none⟩ = some (.slice A2 p.2.length c2) := xr.cell 1
    by_cases hlt : k < p.2.length
    · obtain ⟨b, o, u0, u1, u2, rfl, hbB, k0, k1, k2, rfl, p3, p4⟩ := (H2.out.on BW).get hlt
      have HA := Lib.hid p3
      have HB := Lib.hid p4
      obtain ⟨A4, c4, rfl, hc4, _⟩ := p3
      obtain ⟨A5, c5, rfl, hc5, _⟩ := p4
      have hle := sz_le_totR p.2 k hlt
      have L0 := later_cell k0
      have L1 := later_cell k1
      have L2 := later_cell k2
      have L3 := later_cell q0
      have L4 := later_cell q1
      by_cases he : ruleOk p.1 p.2[k] = true
      · have CF := Lib.hid (fun x : Later wr => (specRuleOk_any (.slice A p.1.length c) (.agg #[.int .i64 p.2[k].1.1, .slice A4 p.2[k].1.2.length c4, .slice A5 p.2[k].2.length c5]) p.1 p.2[k] x.val ((H.out.on BW).on x.2) ⟨_, _, rfl, HA.out.on x.2, HB.out.on x.2⟩ (by omega) (by omega)).mono fun e w' (hh : e = .returned (.bool (ruleOk p.1 p.2[k])) ∧ Below x.val.heap.size x.val w') => (⟨by rw [hh.1, he], hh.2⟩ : e = .returned (.bool true) ∧ Below x.val.heap.size x.val w'))
        have HS := Lib.hid (hs.step hlt he)
        clear hs he
        go_wp2_with (fail)
        clear k0 k1 k2 q0 q1
        refine wp_region_later (by kernel_rfl) (by kernel_rfl) ?_
        repeat (go_big_quiet_step ((go_at_call 35; exact later_of (CF.out _))))
        refine wpQuiet_nil ?_
        rintro _ ⟨xq, rfl⟩
        go_wp2_with (fail)
        go_roundw
        case rel => exact ⟨k + 1, by omega, by go_num, HS.out, bthen hbe xq.2⟩
        case measure => simp [intOf]; omega
      · have he' : ruleOk p.1 p.2[k] = false := by simpa using he
        have CF := Lib.hid (fun x : Later wr => (specRuleOk_any (.slice A p.1.length c) (.agg #[.int .i64 p.2[k].1.1, .slice A4 p.2[k].1.2.length c4, .slice A5 p.2[k].2.length c5]) p.1 p.2[k] x.val ((H.out.on BW).on x.2) ⟨_, _, rfl, HA.out.on x.2, HB.out.on x.2⟩ (by omega) (by omega)).mono fun e w' (hh : e = .returned (.bool (ruleOk p.1 p.2[k])) ∧ Below x.val.heap.size x.val w') => (⟨by rw [hh.1, he'], hh.2⟩ : e = .returned (.bool false) ∧ Below x.val.heap.size x.val w'))
        have HE := Lib.hid (show progOk p = false by rw [HP.out, all_not hlt he']; rfl)
        clear hs he he'
        go_wp2_with (fail)
        clear k0 k1 k2 q0 q1
        refine wp_region_later (by kernel_rfl) (by kernel_rfl) ?_
        repeat (go_big_quiet_step ((go_at_call 35; exact later_of (CF.out _))))
        refine wpQuiet_nil ?_
        rintro _ ⟨xq, rfl⟩
        go_wp2_with (fail)
        go_ret
        exact ⟨ret_bool HE.out.symm, bthen BW xq.2⟩
    · have HE := Lib.hid (show progOk p = (arityOk p.1 && decide (p.2.length ≤ 60)) by rw [HP.out, hs.done (by omega), Bool.true_and])
      clear hs
      go_wp2_with (fail)
      refine (specArityOk_any _ p.1 _ (H.out.on BW) (by omega)).mono ?_
      rintro e w' ⟨rfl, rfl⟩
      by_cases hf : arityOk p.1 = true
      · rw [hf]
        by_cases hl : p.2.length ≤ 60
        · have hd : decide ((p.2.length : Int) ≤ 60) = true := by simp; omega
          have HE2 := Lib.hid (show progOk p = true by rw [HE.out, hf]; simp [hl])
          clear hf
          go_wp2_with (fail)
          go_ret
          exact ⟨ret_bool (by rw [HE2.out]), BW⟩
        · have hd : decide ((p.2.length : Int) ≤ 60) = false := by simp; omega
          have HE2 := Lib.hid (show progOk p = false by rw [HE.out]; simp [hl])
          clear hf
          go_wp2_with (fail)
          go_ret
          exact ⟨ret_bool (by rw [HE2.out]), BW⟩
      · have hf' : arityOk p.1 = false := by simpa using hf
        rw [hf']
        have HE2 := Lib.hid (show progOk p = false by rw [HE.out, hf']; rfl)
        clear hf hf'
        go_wp2_with (fail)
        go_ret
        exact ⟨ret_bool HE2.out.symm, BW⟩

end Go.Proofs.YtcceololijefiaaGreat
/-
  The walk of the specification's FactOk.
-/
namespace Go.Proofs.YtcceololijefiaaGreat
open Go.RowKit

set_option maxHeartbeats 400000 in
set_option maxRecDepth 100000 in
theorem specFactOk_any (v v2 : Value) (ar : List Int) (f : LFact) (w : World) (h : RdInts w w.heap.size v ar) (h2 : RdFact w w.heap.size v2 f) (hr : ar.length ≤ 1048576) (hn : f.2.length ≤ 1048576) :
    Calls Tryz.prog 37 #[v, v2] w fun e w' => e = .returned (.bool (factOk ar f)) ∧ Below w.heap.size w w' := by
  have H := Lib.hid h
  have H2 := Lib.hid h2
  obtain ⟨pp, xs⟩ := f
  obtain ⟨A, c, rfl, hc, h⟩ := h
  obtain ⟨a, rfl, A2, c2, rfl, hc2, h2⟩ := h2
  by_cases ha : arityOk ar = true
  · have CA : ∀ W, Below w.heap.size w W → Calls Tryz.prog 36 #[.slice A ar.length c] W fun e w' => e = .returned (.bool true) ∧ w' = W := fun W hW =>
      (specArityOk_any _ ar W (H.out.on hW) (by omega)).mono fun e w' ⟨he, hw⟩ => ⟨by rw [he, ha], hw.symm⟩
    have HCA := Lib.hid CA
    have HA := Lib.hid ha
    clear CA ha
    by_cases hp : 0 ≤ pp ∧ pp ≤ (ar.length : Int) - 1
    · have HCL := Lib.hid (l1In_yes hp)
      obtain ⟨p, rfl⟩ := Int.eq_ofNat_of_zero_le hp.1
      have hlt : p < ar.length := by omega
      have hltI : (p : Int) < (ar.length : Int) := by omega
      obtain ⟨b, o, rfl, hbB, hx⟩ := h (by omega)
      have hck : ∀ O, (w.alloc O).cell? ⟨b, o + p, none⟩ = some (.int .i64 ar[p]) := fun O => (World.cell?_alloc_lt w O ⟨b, o + p, none⟩ hbB).trans (hx p hlt)
      clear hp
      by_cases h3 : (xs.length : Int) = ar[p]
      · have hd3 : ((xs.length : Int) != ar[p]) = false := by simp [h3]
        have H3 := Lib.hid (show factOk ar ((p : Int), xs) = xs.all constOk by simp [factOk, HA.out, factFits, hlt, h3])
        clear h3 hx h
        go_enter Tryz.func37, Tryz.ntmps37
        go_wp2_with (fail)
        go_quiet (first | (go_at_call 36; exact Calls.quiet_of_same (HCA.out _ (bdrewN (below1 _ _) _))) | (go_at_call 58; exact quiet_left (HCL.out _)))
        go_wp2_with (fail)
        obtain ⟨w1, hw1⟩ : ∃ w1, w1 = (w.alloc (Obj.cells #[Value.int IntKind.i64 ↑p, Value.slice A2 xs.length c2] 52)).drewN nq := ⟨_, rfl⟩
        rw [← hw1]
        have hbe : Below w.heap.size w w1 := by rw [hw1]; exact bdrewN (below1 _ _) _
        have hblk : Blk w1 w.heap.size 52 #[.int .i64 p, .slice A2 xs.length c2] := by rw [hw1]; exact (Blk.new w _ _).drewN _
        have hc1 : w1.cell? ⟨w.heap.size, 1, none⟩ = some (.slice A2 xs.length c2) := hblk.cell 1
        clear hw1 hck
        go_loop [5] (fun i => ∃ k : Nat, k ≤ xs.length ∧ i = .int .i64 k ∧ ConstsTo xs k) (fun i => xs.length - (intOf i).toNat)
        case atStart => exact ⟨0, Nat.zero_le _, rfl, fun j hj => absurd hj (by omega)⟩
        case round =>
          obtain ⟨k, hk, rfl, hs⟩ := hrel
          by_cases hlk : k < xs.length
          · obtain ⟨b2, o2, rfl, hbB2, hx2⟩ := h2 (by show 0 < xs.length; omega)
            have hck2 : w1.cell? ⟨b2, o2 + k, none⟩ = some (.int .i64 xs[k]) := (hbe.cell (p := ⟨b2, o2 + k, none⟩) hbB2).trans (hx2 k hlk)
            clear hx2 h2
            by_cases he : 0 ≤ xs[k] ∧ xs[k] ≤ 5
            · have HS := Lib.hid (hs.step (by simpa [hlk, constOk] using he))
              have HK := Lib.hid (l1In_yes he)
              clear hs he
              go_wp2_with (go_at_call 58; refine (HK.out _).mono ?_; rintro e w' ⟨rfl, rfl⟩)
              go_round
              case rel => exact ⟨k + 1, by omega, by go_num, HS.out⟩
              case measure => simp [intOf]; omega
            · have HE := Lib.hid (consts_not hlk (by simpa [constOk] using he))
              have HK := Lib.hid (l1In_no he)
              clear hs he
              go_wp2_with (go_at_call 58; refine (HK.out _).mono ?_; rintro e w' ⟨rfl, rfl⟩)
              go_ret
              exact ⟨ret_bool (by rw [H3.out, HE.out]), hbe⟩
          · have hkn : k = xs.length := by omega
            have HE := Lib.hid (show xs.all constOk = true from ConstsTo.all (by rw [← hkn]; exact hs))
            clear hkn hs h2
            go_wp2_with (fail)
            go_ret
            exact ⟨ret_bool (by rw [H3.out, HE.out]), hbe⟩
      · have hd3 : ((xs.length : Int) != ar[p]) = true := by simp [h3]
        have HE := Lib.hid (show factOk ar ((p : Int), xs) = false by simp [factOk, factFits, hlt, h3])
        clear h3 hx h
        go_enter Tryz.func37, Tryz.ntmps37
        go_wp2_with (fail)
        go_quiet (first | (go_at_call 36; exact Calls.quiet_of_same (HCA.out _ (bdrewN (below1 _ _) _))) | (go_at_call 58; exact quiet_left (HCL.out _)))
        go_wp2_with (fail)
        go_ret
        exact ⟨ret_bool HE.out.symm, bdrewN (below1 _ _) _⟩
    · have HCL := Lib.hid (l1In_no hp)
      have HE := Lib.hid (show factOk ar (pp, xs) = false by simp [factOk, factFits]; omega)
      clear hp
      go_enter Tryz.func37, Tryz.ntmps37
      go_wp2_with (fail)
      go_quiet (first | (go_at_call 36; exact Calls.quiet_of_same (HCA.out _ (bdrewN (below1 _ _) _))) | (go_at_call 58; exact quiet_left (HCL.out _)))
      go_wp2_with (fail)
      go_ret
      exact ⟨ret_bool HE.out.symm, bdrewN (below1 _ _) _⟩
  · have CA : ∀ W, Below w.heap.size w W → Calls Tryz.prog 36 #[.slice A ar.length c] W fun e w' => e = .returned (.bool false) ∧ w' = W := fun W hW =>
      (specArityOk_any _ ar W (H.out.on hW) (by omega)).mono fun e w' ⟨he, hw⟩ => ⟨by rw [he, show arityOk ar = false by simpa using ha], hw.symm⟩
    have HCA := Lib.hid CA
    have HE := Lib.hid (show factOk ar (pp, xs) = false by simp [factOk, ha])
    clear CA ha
    go_enter Tryz.func37, Tryz.ntmps37
    go_wp2_with (fail)
    go_quiet (first | (go_at_call 36; exact Calls.quiet_of_same (HCA.out _ (bdrewN (below1 _ _) _))))
    go_wp2_with (fail)
    go_ret
    exact ⟨ret_bool HE.out.symm, bdrewN (below1 _ _) _⟩

end Go.Proofs.YtcceololijefiaaGreat
