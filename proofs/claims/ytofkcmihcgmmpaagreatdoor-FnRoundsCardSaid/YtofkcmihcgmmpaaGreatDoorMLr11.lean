/-
  Texts that the claim's last one imports, laid together: part 11 of 16. No condition of its own.
-/
import Derived.Deep.RegionHeld3
import Derived.Deep.RegionWith
import Derived.Deep.RegionLaw
import Derived.Laws.BitsAllLaws
import Derived.Deep.DeepCutAuto
import Derived.Laws.CopyOwn
import Derived.Deep.WholeRow
import Derived.Test.YtofkcmihcgmmpaaGreatDoorMLr1
import Derived.Test.YtofkcmihcgmmpaaGreatDoorMLr2
import Derived.Test.YtofkcmihcgmmpaaGreatDoorMLr3
import Derived.Test.YtofkcmihcgmmpaaGreatDoorMLr5
import Derived.Test.YtofkcmihcgmmpaaGreatDoorMLr6
import Derived.Test.YtofkcmihcgmmpaaGreatDoorMLr9
import Derived.Test.YtofkcmihcgmmpaaGreatDoorMLr10
namespace Go.Proofs.YtofkcmihcgmmpaaGreatDoor
set_option maxRecDepth 100000
open Go.RowKit
theorem zea {ar : List Int} {p : Int} {n : Nat} (ha : zr ar = true) (h : 0 <= p /\ p < ar.length /\ (n : Int) = ar.getD p.toNat 0) : n <= 2 := by
 obtain ⟨h0, h1, h2⟩ := h
 simp only [zr, Bool.and_eq_true, List.all_eq_true] at ha
 have hlt : p.toNat < ar.length := by omega
 have hp := ha.2 _ (List.getElem_mem hlt)
 simp only [zbo, decide_eq_true_eq] at hp
 have hd : ar.getD p.toNat 0 = ar[p.toNat] := by simp [hlt]
 rw [hd] at h2
 omega
theorem zav {ar : List Int} {f : zd} (h : zE ar f = true) : (0 <= f.1 /\ f.1 < ar.length /\ (f.2.length : Int) = ar.getD f.1.toNat 0) /\ f.2.all zt = true := by
 simp only [zE, Bool.and_eq_true, decide_eq_true_eq] at h
 exact h
theorem zbb {ar : List Int} {f : zd} (ha : zr ar = true) (h : zE ar f = true) : f.2.length <= 2 := zea ha (zav h).1
def zlz (f : zd) : Nat := f.1.toNat * 64 + (match f.2 with | [] => 0 | [x] => x.toNat + 1 | x :: y :: _ => x.toNat + 1 + 7 * (y.toNat + 1))
theorem zN {x : Int} (h : zt x = true) : 0 <= x /\ x <= 5 := by simpa [zt] using h
theorem zoU {ar : List Int} {f : zd} (ha : zr ar = true) (h : zE ar f = true) : zlz f < 1536 := by
 have hs := zbb ha h
 obtain ⟨⟨h0, h1, _⟩, h2⟩ := zav h
 have hl : ar.length <= 24 := by simp only [zr, Bool.and_eq_true, decide_eq_true_eq] at ha; exact ha.1
 obtain ⟨p, xs⟩ := f
 rcases xs with _ | ⟨x, _ | ⟨y, _ | ⟨z, xs⟩⟩⟩
 ·simp only [zlz] at *; omega
 ·simp only [List.all_cons, Bool.and_eq_true] at h2
  have := zN h2.1
  simp only [zlz] at *; omega
 ·simp only [List.all_cons, Bool.and_eq_true] at h2
  have := zN h2.1
  have := zN h2.2.1
  simp only [zlz] at *; omega
 ·simp at hs
theorem zds {a b c d : Nat} (e : a * 64 + c = b * 64 + d) (hc : c < 64) (hd : d < 64) : a = b /\ c = d := by omega
theorem zpf {a b c d : Nat} (e : a + 1 + 7 * (c + 1) = b + 1 + 7 * (d + 1)) (ha : a < 6) (hb : b < 6) : a = b /\ c = d := by omega
theorem zon {ar : List Int} {f g : zd} (ha : zr ar = true) (hf : zE ar f = true) (hg : zE ar g = true) (e : zlz f = zlz g) : f = g := by
 have hs := zbb ha hf
 have hs' := zbb ha hg
 obtain ⟨⟨h0, _, _⟩, h2⟩ := zav hf
 obtain ⟨⟨h0', _, _⟩, h2'⟩ := zav hg
 obtain ⟨p, xs⟩ := f
 obtain ⟨q, ys⟩ := g
 rcases xs with _ | ⟨x, _ | ⟨y, _ | ⟨z, xs⟩⟩⟩ <;> rcases ys with _ | ⟨x', _ | ⟨y', _ | ⟨z', ys⟩⟩⟩ <;> (try (simp at hs; done)) <;> (try (simp at hs'; done)) <;>
  simp only [List.all_cons, List.all_nil, Bool.and_eq_true, and_true] at h2 h2' <;> simp only [zlz] at e h0 h0'
 ·obtain ⟨e1, _⟩ := zds e (by omega) (by omega); simp; omega
 ·have := zN h2'; obtain ⟨_, e2⟩ := zds e (by omega) (by omega); omega
 ·have := zN h2'.1; have := zN h2'.2; obtain ⟨_, e2⟩ := zds e (by omega) (by omega); omega
 ·have := zN h2; obtain ⟨_, e2⟩ := zds e (by omega) (by omega); omega
 ·have := zN h2; have := zN h2'; obtain ⟨e1, e2⟩ := zds e (by omega) (by omega); simp; omega
 ·have := zN h2; have := zN h2'.1; have := zN h2'.2; obtain ⟨_, e2⟩ := zds e (by omega) (by omega); omega
 ·have := zN h2.1; have := zN h2.2; obtain ⟨_, e2⟩ := zds e (by omega) (by omega); omega
 ·have := zN h2.1; have := zN h2.2; have := zN h2'; obtain ⟨_, e2⟩ := zds e (by omega) (by omega); omega
 ·have := zN h2.1; have := zN h2.2; have := zN h2'.1; have := zN h2'.2
  obtain ⟨e1, e2⟩ := zds e (by omega) (by omega)
  obtain ⟨e3, e4⟩ := zpf e2 (by omega) (by omega)
  simp; omega
theorem zjA : ∀ {l : List zd}, (∀ f ∈ l, f.2.length <= 2) -> tot l <= l.length * 2
 | [], _ => by simp [tot]
 | f :: l, h => by
  have h1 := h f (List.mem_cons_self ..)
  have h2 := zjA fun g hg => h g (List.mem_cons_of_mem _ hg)
  rw [zdc, List.length_cons]
  omega
theorem zdH {ar : List Int} {l : List zd} (ha : zr ar = true) (hn : l.Nodup) (h : ∀ f ∈ l, zE ar f = true) : l.length <= 1536 /\ tot l <= 3072 := by
 have h1 := zfL 1536 (l.map zlz) (by
  unfold List.Nodup
  rw [List.pairwise_map]
  exact List.Pairwise.imp_of_mem (fun {a b} hx hy hne e => hne (zon ha (h a hx) (h b hy) e)) hn) fun x hx => by
   obtain ⟨b, hb, rfl⟩ := List.mem_map.1 hx
   exact zoU ha (h b hb)
 rw [List.length_map] at h1
 have h2 := zjA fun f hf => zbb ha (h f hf)
 omega
theorem zll {ar : List Int} {a : zd} {bs : List Int} (ha : zah ar a = true) (e : zai a bs = true) : zE ar (zaM a bs) = true := by
 rw [zct e]
 simp only [zah, Bool.and_eq_true, decide_eq_true_eq] at ha
 simp only [zai, Bool.and_eq_true] at e
 simp only [zE, Bool.and_eq_true, decide_eq_true_eq, List.length_map]
 exact ⟨ha.1, e.2⟩
theorem zhV (a : zd) (S : List (List Int)) : ∀ k, Asc (zaA a S k)
 | 0 => List.Pairwise.nil
 | k + 1 => by
  have ih := zhV a S k
  show Asc (if _ then _ else _)
  split
  ·exact (zgN [zaM a (S.getD k [])] _ ih).1
  ·exact ih
theorem zgH {ar : List Int} {a : zd} {S : List (List Int)} (ha : zah ar a = true) : ∀ k, ∀ f ∈ zaA a S k, zE ar f = true
 | 0 => fun f hf => by cases hf
 | k + 1 => by
  have ih := zgH (S := S) ha k
  intro f hf
  have hf : f ∈ (if zai a (S.getD k []) then zQ (zaA a S k) (zaM a (S.getD k [])) else zaA a S k) := hf
  split at hf
  ·rename_i e
   rcases (zf1 _ _ _).1 hf with h | rfl
   ·exact ih f h
   ·exact zll ha e
  ·exact ih f hf
theorem zfw {ar : List Int} {r : zJ} (gs : List zd) (h : zA ar r = true) : ∀ f ∈ zc4 r gs, zE ar f = true := by
 simp only [zA, Bool.and_eq_true] at h
 exact zgH h.1 _
theorem zms {ar : List Int} {r : zJ} (gs : List zd) (ha : zr ar = true) (h : zA ar r = true) : (zc4 r gs).length <= 1536 /\ tot (zc4 r gs) <= 3072 :=
 zdH ha (zeF (zhV _ _ _)) (zfw gs h)
def zR (rs : List zJ) (gs : List zd) : List zd := zG (rs.flatMap fun r => zc4 r gs)
theorem zlW (xs ys : List zd) : zG (zG xs ++ ys) = zG (xs ++ ys) :=
 (zaT _).unique (zaT _) fun f => by rw [zao, zao, List.mem_append, List.mem_append, zao]
theorem zf0 (rs : List zJ) (gs : List zd) (k : Nat) (h : k < rs.length) : zR (rs.take (k + 1)) gs = zG (zR (rs.take k) gs ++ zc4 rs[k] gs) := by
 unfold zR
 rw [zH rs k h, List.flatMap_append, zlW]
 simp
theorem zcm {ar : List Int} {rs : List zJ} (gs : List zd) (h : ∀ r ∈ rs, zA ar r = true) : ∀ f ∈ zR rs gs, zE ar f = true := by
 intro f hf
 obtain ⟨r, hr, hm⟩ := List.mem_flatMap.1 ((zao _ _).1 hf)
 exact zfw gs (h r hr) f hm
theorem zeY {ar : List Int} {rs : List zJ} (gs : List zd) (ha : zr ar = true) (h : ∀ r ∈ rs, zA ar r = true) : (zR rs gs).length <= 1536 /\ tot (zR rs gs) <= 3072 :=
 zdH ha (zeF (zaT _)) (zcm gs h)
theorem zjI {ar : List Int} {l : zC} (h : zaO ar l = true) : l.2.2.all zz = true := by
 unfold zaO at h
 split at h
 ·simp only [zah, Bool.and_eq_true] at h; exact h.2
 ·split at h
  ·simp only [Bool.and_eq_true] at h; exact h.2
  ·cases h
set_option maxHeartbeats 4000000 in
theorem zno (v v2 : Value) (ar : List Int) (rs : List zJ) (gs : List zd) (w : World) (h : zbp w w.heap.size v rs) (h2 : zu w w.heap.size v2 gs) (har : zr ar = true) (hfit : ∀ r ∈ rs, zA ar r = true) (hsz : zgm rs <= 1048576) (hrl : rs.length <= 1048576)
 (hn : gs.length <= 1048576) (ht : tot gs <= 1048576) (hc : ∀ f ∈ gs, f.2.all zt = true) (hnd : gs.Nodup) :
 Calls Tryz.prog 46 #[v, v2] w fun e w' => ∃ A c, e = .returned (.slice A (zR rs gs).length c) /\ zq w' w.heap.size w'.heap.size (.slice A (zR rs gs).length c) (zR rs gs) /\ Below w.heap.size w w' := by
 have H := Lib.hid h
 have H2 := Lib.hid h2
 obtain ⟨A, c, rfl, hcA, _⟩ := h
 obtain ⟨A2, c2, rfl, hc2, _⟩ := h2
 have HFIT := Lib.hid hfit
 clear hfit
 go_enter Tryz.func46, Tryz.ntmps46
 go_wp2_with (fail)
 go_loopw [5, 6] (fun o i wr => ∃ (k : Nat) (A' : Option Addr) (c' : Nat), k <= rs.length /\ i = .int .i64 k /\ o = .slice A' (zR (rs.take k) gs).length c' /\ zq wr w.heap.size wr.heap.size (.slice A' (zR (rs.take k) gs).length c') (zR (rs.take k) gs) /\ Below w.heap.size w wr) (fun _ i _ => rs.length - (intOf i).toNat)
 case atStart => exact ⟨0, _, 0, Nat.zero_le _, rfl, rfl, (zbq.empty w).own.own.mono (Nat.le_refl _) (Nat.le_refl _), ze _ _⟩
 case round =>
  obtain ⟨k, A', c', hk, rfl, rfl, ho, hbe⟩ := hrel
  have HO := Lib.hid ho
  have HBE := Lib.hid hbe
  by_cases hlt : k < rs.length
  ·obtain ⟨b, o, u0, u1, u2, rfl, hbB, k0, k1, k2, rfl, q1, q2⟩ := (H.out.on hbe).get hlt
   obtain ⟨A3, c3, rfl, _⟩ := id q1
   obtain ⟨A4, c4, rfl, _⟩ := id q2
   have hfk := HFIT.out _ (List.getElem_mem hlt)
   have HW := Lib.hid hfk
   have hparts := hfk
   simp only [zA, zah, Bool.and_eq_true, decide_eq_true_eq] at hparts
   have ha2 := zea har hparts.1.1
   have hsk := zbZ rs k hlt
   unfold szR at hsk
   have HOF := Lib.hid (zod (.agg #[.int .i64 rs[k].1.1, .slice A3 rs[k].1.2.length c3, .slice A4 rs[k].2.length c4]) (.slice A2 gs.length c2) rs[k] gs _ ⟨_, _, rfl, q1, q2⟩ (H2.out.on hbe) hn ht (by omega) hc hnd (fun l hl => zjI (List.all_eq_true.1 hparts.2.2.1 l hl)) ha2)
   have h1 := zeY gs har (rs := rs.take k) (fun r hr => HFIT.out r (List.mem_of_mem_take hr))
   have h2 := zms gs har HW.out
   have HN := Lib.hid (And.intro h1 h2)
   have HE := Lib.hid (zf0 rs gs k hlt)
   clear ho hbe q1 q2 h1 h2 hparts hfk hsk
   go_wp2_with (first
    | (go_at_call 82; refine HOF.out.mono ?_; rintro e w1 ⟨A5, c5, rfl, o5, b5⟩; have H5 := Lib.hid (And.intro o5 b5); clear o5 b5)
    | (go_at_call 65
       refine (zch _ _ (zR (rs.take k) gs) (zc4 rs[k] gs) w1 ((HO.out.below H5.out.2 (Nat.le_refl _)).rd.more H5.out.2.size) H5.out.1.rd (by have := HN.out; omega) (by have := HN.out; omega)).mono ?_
       rintro e w2 ⟨A6, c6, rfl, o6, b6⟩; have H6 := Lib.hid (And.intro o6 b6); clear o6 b6))
   go_roundw
   case rel =>
    refine ⟨k + 1, A6, c6, by omega, by go_num, by rw [HE.out], ?_, zf HBE.out (zf H5.out.2 H6.out.2)⟩
    rw [HE.out]
    exact H6.out.1.mono (by have := HBE.out.size; have := H5.out.2.size; omega) (Nat.le_refl _)
   case measure => simp [intOf]; omega
  ·obtain rfl : k = rs.length := by omega
   have HR := Lib.hid (show rs.take rs.length = rs from List.take_length)
   clear ho hbe
   go_wp2_with (fail)
   go_ret
   have ho := HO.out
   rw [HR.out] at ho ⊢
   exact ⟨A', c', rfl, ho, HBE.out⟩
open Go.RowKit
def zbT (ar : List Int) (fs : List zd) (k : Nat) : Bool := zE ar (fs.getD k (0, [])) && (decide (k = 0) || decide (zk (fs.getD (k - 1) (0, [])) (fs.getD k (0, [])) < 0))
def zat (ar : List Int) (fs : List zd) : Bool := zr ar && (List.range fs.length).all (zbT ar fs)
def zg8 (ar : List Int) (fs : List zd) (k : Nat) : Prop := (List.range k).all (zbT ar fs) = true
theorem zg8.step {ar : List Int} {fs : List zd} {k : Nat} (h : zg8 ar fs k) (e : zbT ar fs k = true) : zg8 ar fs (k + 1) := by
 unfold zg8 at h ⊢
 rw [List.range_succ, List.all_append, h]
 simp [e]
theorem zfK {ar : List Int} {fs : List zd} {k : Nat} (hk : k < fs.length) (e : zbT ar fs k = false) : zat ar fs = false := by
 unfold zat
 have : (List.range fs.length).all (zbT ar fs) = false := by
  rw [List.all_eq_false]
  exact ⟨k, List.mem_range.2 hk, by simp [e]⟩
 rw [this, Bool.and_false]
theorem zbU {α : Type} {l : List α} {k : Nat} (h : k < l.length) {d : α} : l.getD k d = l[k] := by simp [h]
theorem zhJ {ar : List Int} {fs : List zd} {k : Nat} (hk : k < fs.length) (h : zE ar fs[k] = true) (h0 : k = 0) : zbT ar fs k = true := by
 unfold zbT
 rw [zbU hk, h]
 simp [h0]
theorem zeN {ar : List Int} {fs : List zd} {j : Nat} (hk : j + 1 < fs.length) (hj : j < fs.length) (h : zE ar fs[j + 1] = true) : zbT ar fs (j + 1) = decide (zk fs[j] fs[j + 1] < 0) := by
 unfold zbT
 rw [zbU hk, h, Nat.add_sub_cancel, zbU hj]
 simp
theorem zhI {ar : List Int} {fs : List zd} {k : Nat} (hk : k < fs.length) (h : zE ar fs[k] = false) : zbT ar fs k = false := by
 unfold zbT
 rw [zbU hk, h]
 simp
set_option maxHeartbeats 1000000 in
theorem zh6 (v v2 : Value) (ar : List Int) (fs : List zd) (w : World) (h : zv w w.heap.size v ar) (h2 : zu w w.heap.size v2 fs) (hr : ar.length <= 1048576) (hn : fs.length <= 1048576) (ht : tot fs <= 1048576) :
 Calls Tryz.prog 44 #[v, v2] w fun e w' => e = .returned (.bool (zat ar fs)) /\ Below w.heap.size w w' := by
 have H := Lib.hid h
 have H2 := Lib.hid h2
 obtain ⟨A, c, rfl, hc, _⟩ := h
 obtain ⟨A2, c2, rfl, hc2, _⟩ := h2
 go_enter Tryz.func44, Tryz.ntmps44
 go_wp2_with (fail)
 go_loopw [5] (fun i wr => ∃ k : Nat, k <= fs.length /\ i = .int .i64 k /\ zg8 ar fs k /\ Below w.heap.size w wr) (fun i _ => fs.length - (intOf i).toNat)
 case atStart => exact ⟨0, Nat.zero_le _, rfl, by simp [zg8], Below.refl _ _⟩
 case round =>
  obtain ⟨k, hk, rfl, hs, hbe⟩ := hrel
  by_cases hlt : k < fs.length
  ·obtain ⟨b, o, A3, c3, rfl, hbB, k1, k2, k3⟩ := (H2.out.on hbe).get hlt
   have K3 := Lib.hid (show zU wr wr.heap.size (.agg #[.int .i64 fs[k].1, .slice A3 fs[k].2.length c3]) fs[k] from ⟨_, rfl, k3⟩)
   have hln := zaz fs k hlt
   have L1 := zx k1
   have L2 := zx k2
   clear k1 k2 k3
   by_cases hfo : zb4 ar fs[k] = true
   ·have CF := Lib.hid (fun x : zbG wr => (zdM _ _ ar fs[k] x.val ((H.out.on hbe).on x.2) (K3.out.on x.2) hr (by omega)).mono fun e w' (hh : e = .returned (.bool (zb4 ar fs[k])) /\ Below x.val.heap.size x.val w') => (⟨by rw [hh.1, hfo], hh.2⟩ : e = .returned (.bool true) /\ Below x.val.heap.size x.val w'))
    have hff : zE ar fs[k] = true := by
     unfold zb4 at hfo
     exact (Bool.and_eq_true _ _ ▸ hfo).2
    have HA := Lib.hid (show zr ar = true by
     unfold zb4 at hfo
     exact (Bool.and_eq_true _ _ ▸ hfo).1)
    clear hfo
    rcases Nat.eq_zero_or_pos k with hk0 | hk0
    ·have hd : decide (0 < k) = false := by simp [hk0]
     have HS := Lib.hid (hs.step (zhJ hlt hff hk0) : zg8 ar fs (k + 1))
     clear hs hk0 hff
     go_wp2_with (fail)
     refine zD (by kernel_rfl) (by kernel_rfl) ?_
     repeat (go_big_quiet_step ((go_at_call 79; exact zaq (CF.out _))))
     refine wpQuiet_nil ?_
     rintro _ ⟨xq, rfl⟩
     go_wp2_with (fail)
     go_roundw
     case rel => exact ⟨k + 1, by omega, by go_num, HS.out, zf hbe xq.2⟩
     case measure => simp [intOf]; omega
    ·obtain ⟨j, rfl⟩ : ∃ j, k = j + 1 := ⟨k - 1, by omega⟩
     have hltj : j < fs.length := by omega
     obtain ⟨b', o', A4, c4, e4, hbB', m1, m2, m3⟩ := (H2.out.on hbe).get hltj
     simp only [Option.some.injEq, Addr.mk.injEq, and_true] at e4
     obtain ⟨rfl, rfl⟩ := e4
     have K4 := Lib.hid (show zU wr wr.heap.size (.agg #[.int .i64 fs[j].1, .slice A4 fs[j].2.length c4]) fs[j] from ⟨_, rfl, m3⟩)
     have hlnj := zaz fs j hltj
     have M1 := zx m1
     have M2 := zx m2
     have CO := Lib.hid (fun x : zbG wr => zcF _ _ fs[j] fs[j + 1] x.val (K4.out.on x.2) (K3.out.on x.2) (by omega) (by omega))
     clear m1 m2 m3
     by_cases hlo : zk fs[j] fs[j + 1] < 0
     ·have hd : decide (0 <= zk fs[j] fs[j + 1]) = false := by simp; omega
      have HS := Lib.hid (hs.step (by rw [zeN hlt hltj hff]; simp [hlo]) : zg8 ar fs (j + 1 + 1))
      clear hs hff
      go_wp2_with (fail)
      refine zD (by kernel_rfl) (by kernel_rfl) ?_
      repeat (go_big_quiet_step (first | (go_at_call 79; exact zaq (CF.out _)) | (go_at_call 80; exact zaq (CO.out _))))
      refine wpQuiet_nil ?_
      rintro _ ⟨xq, rfl⟩
      go_wp2_with (fail)
      go_roundw
      case rel => exact ⟨j + 1 + 1, by omega, by go_num, HS.out, zf hbe xq.2⟩
      case measure => simp [intOf]; omega
     ·have hd : decide (0 <= zk fs[j] fs[j + 1]) = true := by simp; omega
      have HE := Lib.hid (show zat ar fs = false from zfK hlt (by rw [zeN hlt hltj hff]; simp [hlo]))
      clear hs hff
      go_wp2_with (fail)
      refine zD (by kernel_rfl) (by kernel_rfl) ?_
      repeat (go_big_quiet_step (first | (go_at_call 79; exact zaq (CF.out _)) | (go_at_call 80; exact zaq (CO.out _))))
      refine wpQuiet_nil ?_
      rintro _ ⟨xq, rfl⟩
      go_wp2_with (fail)
      go_ret
      exact ⟨zi HE.out.symm, zf hbe xq.2⟩
   ·have CF := Lib.hid (fun x : zbG wr => (zdM _ _ ar fs[k] x.val ((H.out.on hbe).on x.2) (K3.out.on x.2) hr (by omega)).mono fun e w' (hh : e = .returned (.bool (zb4 ar fs[k])) /\ Below x.val.heap.size x.val w') => (⟨by rw [hh.1, show zb4 ar fs[k] = false by simpa using hfo], hh.2⟩ : e = .returned (.bool false) /\ Below x.val.heap.size x.val w'))
    have HE := Lib.hid (show zat ar fs = false by
     by_cases ha : zr ar = true
     ·exact zfK hlt (zhI hlt (by simpa [zb4, ha] using hfo))
     ·simp [zat, ha])
    clear hs hfo
    go_wp2_with (fail)
    refine zD (by kernel_rfl) (by kernel_rfl) ?_
    repeat (go_big_quiet_step ((go_at_call 79; exact zaq (CF.out _))))
    refine wpQuiet_nil ?_
    rintro _ ⟨xq, rfl⟩
    go_wp2_with (fail)
    go_ret
    exact ⟨zi HE.out.symm, zf hbe xq.2⟩
  ·have hkn : k = fs.length := by omega
   have HE := Lib.hid (show zat ar fs = zr ar by unfold zat; unfold zg8 at hs; rw [<- hkn, hs, Bool.and_true])
   clear hkn hs
   go_wp2_with (fail)
   refine (zaU _ ar _ (H.out.on hbe) (by omega)).mono ?_
   rintro e w2 ⟨rfl, rfl⟩
   go_wp2_with (fail)
   go_ret
   exact ⟨zi HE.out.symm, hbe⟩
open Go.RowKit
open Go.RowKit
def zfC (p : zal) (fs : List zd) : List zd := if zaW p && zat p.1 fs then zR p.2 fs else []
theorem zep {ar : List Int} {fs : List zd} (h : zat ar fs = true) : zr ar = true /\ (∀ f ∈ fs, zE ar f = true) /\ Asc fs := by
 simp only [zat, Bool.and_eq_true, List.all_eq_true, List.mem_range] at h
 obtain ⟨h1, h2⟩ := h
 refine ⟨h1, fun f hf => ?_, ?_⟩
 ·obtain ⟨k, hk, rfl⟩ := List.getElem_of_mem hf
  have := h2 k hk
  unfold zbT at this
  rw [zbU hk, Bool.and_eq_true] at this
  exact this.1
 ·have hs : ∀ k (h0 : k + 1 < fs.length), zk (fs[k]'(by omega)) fs[k + 1] < 0 := fun k h0 => by
   have := h2 (k + 1) h0
   unfold zbT at this
   rw [zbU h0, Nat.add_sub_cancel, zbU (show k < fs.length by omega), Bool.and_eq_true] at this
   simpa using this.2
  have hd : ∀ d k (h0 : k + d + 1 < fs.length), zk (fs[k]'(by omega)) fs[k + d + 1] < 0 := fun d => by
   induction d with
   | zero => intro k h0; exact hs k h0
   | succ d ih =>
    intro k h0
    exact zcr (ih k (by omega)) (hs (k + d + 1) h0)
  unfold Asc
  rw [List.pairwise_iff_getElem]
  intro i j hi hj hij
  obtain ⟨d, rfl⟩ : ∃ d, j = i + d + 1 := ⟨j - i - 1, by omega⟩
  exact hd d i hj
theorem zf4 {p : zal} (h : zaW p = true) : zr p.1 = true /\ p.2.length <= 60 /\ ∀ r ∈ p.2, zA p.1 r = true := by
 simp only [zaW, Bool.and_eq_true, decide_eq_true_eq, List.all_eq_true] at h
 exact ⟨h.1, h.2.1, h.2.2⟩
open Go.RowKit
theorem znc {a b y : Nat} (h : zci (a ||| b) y 4 = true) : zci b y 4 = true := by
 rw [zdO] at h ⊢
 intro v hv hb
 exact h v hv (by rw [Nat.testBit_or, hb, Bool.or_true])
theorem zcC {ar : List Int} {r : zJ} (h : zA ar r = true) : zg2 r.2 = true := by
 simp only [zA, Bool.and_eq_true, decide_eq_true_eq] at h
 obtain ⟨_, h4, hl, hs⟩ := h
 unfold zg2
 rw [Bool.and_eq_true, Bool.and_eq_true, decide_eq_true_eq, List.all_eq_true]
 refine ⟨⟨fun l hm => ?_, h4⟩, ?_⟩
 ·have hf := List.all_eq_true.1 hl l hm
  refine zlc ?_ (zjI hf)
  unfold zaO at hf
  split at hf
  ·omega
  ·split at hf
   ·omega
   ·cases hf
 ·rw [zd8] at hs ⊢
  rw [zfY]
  exact znc hs
theorem znB {ar : List Int} {r : zJ} (h : zA ar r = true) : ∀ v, v < 4 -> (maskOf r.1.2).testBit v = true -> ∃ l ∈ r.2, l.1 = 0 /\ (maskOf l.2.2).testBit v = true := by
 simp only [zA, Bool.and_eq_true, decide_eq_true_eq] at h
 obtain ⟨_, _, _, hs⟩ := h
 rw [zd8, zdO] at hs
 intro v hv hm
 have := hs v hv (by unfold ruleMask; rw [Nat.testBit_or, hm, Bool.true_or])
 unfold yesMask at this
 rw [zfe] at this
 simpa using this
theorem zjB {ar : List Int} {r : zJ} {fs : List zd} {S : List (List Int)} (h : zA ar r = true) (hS : zbS (zaV fs r.2) S) : ∀ b ∈ S, zai r.1 b = true := by
 intro b hb
 obtain ⟨h1, h2, _⟩ := (hS.2 b).1 hb
 have hf := h
 simp only [zA, zah, Bool.and_eq_true, decide_eq_true_eq] at hf
 refine zf9 h1 hf.1.2 (List.all_eq_true.2 fun x hx => ?_)
 obtain ⟨t, ht, rfl⟩ := List.mem_map.1 hx
 have htk : zz t = true := List.all_eq_true.1 hf.1.2 t ht
 have hbd := zdK h1 htk
 rcases zbi htk with h' | ⟨v, hv, rfl⟩
 ·rw [za2 h'.1]
  simp [zt]
  exact h'
 ·have hm : (maskOf r.1.2).testBit v = true := by unfold maskOf; rw [zeU hv]; exact .inr ht
  obtain ⟨l, hl, _, hlm⟩ := znB h v hv hm
  have hne := (h2 v hv).2 ⟨(l, fs), List.mem_map.2 ⟨l, hl, rfl⟩, hlm⟩
  rw [zaS] at hbd ⊢
  unfold zt
  exact decide_eq_true (by omega)
theorem zhU (a : zd) (S : List (List Int)) (f : zd) : ∀ k, k <= S.length -> (f ∈ zaA a S k <-> ∃ b ∈ S.take k, zai a b = true /\ f = zaM a b)
 | 0, _ => by simp [zaA]
 | k + 1, hk => by
  have ih := zhU a S f k (by omega)
  have hlt : k < S.length := by omega
  rw [zH S k hlt]
  cases e : zai a S[k]
  ·rw [ziR hlt e, ih]
   constructor
   ·rintro ⟨b, hb, h⟩; exact ⟨b, List.mem_append_left _ hb, h⟩
   ·rintro ⟨b, hb, h⟩
    rcases List.mem_append.1 hb with hb | hb
    ·exact ⟨b, hb, h⟩
    ·obtain rfl : b = S[k] := by simpa using hb
     rw [e] at h; cases h.1
  ·rw [zhT hlt e, zf1, ih]
   constructor
   ·rintro (⟨b, hb, h⟩ | rfl)
    ·exact ⟨b, List.mem_append_left _ hb, h⟩
    ·exact ⟨S[k], List.mem_append_right _ (List.mem_singleton_self _), e, rfl⟩
   ·rintro ⟨b, hb, h⟩
    rcases List.mem_append.1 hb with hb | hb
    ·exact .inl ⟨b, hb, h⟩
    ·obtain rfl : b = S[k] := by simpa using hb
     exact .inr h.2
theorem ziS {ar : List Int} {r : zJ} {fs : List zd} {S : List (List Int)} (h : zA ar r = true) (hS : zbS (zaV fs r.2) S) (hc : ∀ f ∈ fs, f.2.all zt = true) (hn : fs.Nodup) (f : zd) :
 f ∈ zc4 r fs <-> ∃ b ∈ S, f = (r.1.1, r.1.2.map (zn b)) := by
 obtain ⟨_, h2⟩ := zjC (fs := fs) (gs := fs) (zbV.of (zcC h)) hc hn (fun _ => Iff.rfl)
 unfold zc4
 rw [zhU _ _ _ _ (Nat.le_refl _), List.take_length]
 constructor
 ·rintro ⟨b, hb, e, rfl⟩
  exact ⟨b, (hS.2 b).2 ((h2.2 b).1 hb), zct e⟩
 ·rintro ⟨b, hb, rfl⟩
  have e := zjB h hS b hb
  exact ⟨b, (h2.2 b).2 ((hS.2 b).1 hb), e, (zct e).symm⟩
open Go.RowKit
def za9 (T : List Nat) (p n : Nat) : List Nat := T.set p (T.getD p 0 ||| 2 ^ n)
def tabCells (T : List Nat) : Array Value := (T.map fun x => Value.int .u64 ((x : Nat) : Int)).toArray
def TabAt (w : World) (g : Nat) (T : List Nat) : Prop := Blk w g 54 (tabCells T) /\ T.length = 24 /\ ∀ x ∈ T, x < 18446744073709551616
theorem TabAt.cell {w : World} {g p : Nat} {T : List Nat} (h : TabAt w g T) (hp : p < 24) : w.cell? ⟨g, p, none⟩ = some (.int .u64 ((T.getD p 0 : Nat) : Int)) := by
 rw [h.1.cell p]
 have : p < T.length := by rw [h.2.1]; exact hp
 simp [tabCells, this]
theorem TabAt.lt {w : World} {g p : Nat} {T : List Nat} (h : TabAt w g T) : T.getD p 0 < 18446744073709551616 := by
 by_cases hp : p < T.length
 ·have : T.getD p 0 = T[p] := by simp [hp]
  rw [this]
  exact h.2.2 _ (List.getElem_mem hp)
 ·simp [List.getD_eq_getElem?_getD, List.getElem?_eq_none (by omega : T.length <= p)]
theorem TabAt.set {w : World} {g p n : Nat} {T : List Nat} (h : TabAt w g T) (hn : n < 64) : TabAt (w.setCell ⟨g, p, none⟩ (.int .u64 ((T.getD p 0 ||| 2 ^ n : Nat) : Int))) g (za9 T p n) := by
 have hlt := h.lt (p := p)
 obtain ⟨h1, h2, h3⟩ := h
 refine ⟨?_, by simp [za9, h2], fun x hx => ?_⟩
 ·have := h1.set_ p (.int .u64 ((T.getD p 0 ||| 2 ^ n : Nat) : Int))
  have e : tabCells (za9 T p n) = (tabCells T).setIfInBounds p (.int .u64 ((T.getD p 0 ||| 2 ^ n : Nat) : Int)) := by
   unfold tabCells za9
   rw [List.map_set]
   simp
  rw [e]
  exact this
 ·rcases List.mem_or_eq_of_mem_set hx with h4 | rfl
  ·exact h3 x h4
  ·exact Nat.or_lt_two_pow (n := 64) hlt (Nat.pow_lt_pow_right (by decide) hn)
theorem zj0 (x n : Nat) (hx : x < 18446744073709551616) : (bits .and .u64 ((x : Int) / 2 ^ n) 1 == 1) = x.testBit n := by
 have e : ((x : Int) / 2 ^ n) = ((x / 2 ^ n : Nat) : Int) := by simp
 have h1 : x / 2 ^ n < 18446744073709551616 := Nat.lt_of_le_of_lt (Nat.div_le_self _ _) hx
 rw [e, show (1 : Int) = ((1 : Nat) : Int) from rfl, u64_and_nat _ 1 h1 (by decide), Nat.and_one_is_mod]
 have h2 : x.testBit n = decide (x / 2 ^ n % 2 = 1) := by
  rw [Nat.testBit, Nat.shiftRight_eq_div_pow, Nat.one_and_eq_mod_two]
  have := Nat.mod_two_eq_zero_or_one (x / 2 ^ n)
  rcases this with h | h <;> simp [h]
 rw [h2, Bool.eq_iff_iff, beq_iff_eq, decide_eq_true_eq]
 omega
set_option maxHeartbeats 1000000 in
theorem zoP (g p n : Nat) (T : List Nat) (w : World) (h : TabAt w g T) (hp : p < 24) (hn : n < 64) :
 Calls Tryz.prog 113 #[.pointer (some ⟨g, 0, none⟩), .int .i64 p, .int .i64 n] w fun e w' =>
  e = .returned (.bool ((T.getD p 0).testBit n)) /\ w = w' := by
 have hc := h.cell hp
 have hlt := h.lt (p := p)
 have HL := Lib.hid h.1.lt
 clear h
 obtain ⟨x, hx⟩ : ∃ x, x = T.getD p 0 := ⟨_, rfl⟩
 rw [<- hx] at hc hlt ⊢
 clear hx
 have hpi : (p : Int) < 24 := by omega
 have hpn : (0 : Int) <= (p : Int) := by omega
 have hni : ¬ (n : Int) < 0 := by omega
 go_enter Tryz.func113, Tryz.ntmps113
 go_wp2_with fail
 go_ret
 exact ⟨zi (zj0 x n hlt), rfl⟩
set_option maxHeartbeats 1000000 in
theorem zmZ (g p n : Nat) (T : List Nat) (w : World) (h : TabAt w g T) (hp : p < 24) (hn : n < 64) :
 Calls Tryz.prog 76 #[.pointer (some ⟨g, 0, none⟩), .int .i64 p, .int .i64 n] w fun e w' =>
  e = .returned (.bool (!(T.getD p 0).testBit n)) /\ TabAt w' g (za9 T p n) /\ zl g (g + 1) w w' := by
 have CH := Lib.hid (zoP g p n T w h hp hn)
 have hc := h.cell hp
 have hf := h.1.frozen p
 have HS := Lib.hid (show ∀ W, W.heap[g]? = w.heap[g]? -> TabAt W g T from fun W hW => ⟨hW.trans h.1, h.2⟩)
 have hlt := h.lt (p := p)
 have HL := Lib.hid h.1.lt
 clear h
 obtain ⟨x, hx⟩ : ∃ x, x = T.getD p 0 := ⟨_, rfl⟩
 obtain ⟨m, hm⟩ : ∃ m, m = 2 ^ n := ⟨_, rfl⟩
 have hml : m < 18446744073709551616 := by rw [hm]; exact Nat.pow_lt_pow_right (by decide) hn
 have hwr : IntKind.u64.wrap (2 ^ n) = (m : Int) := by
  have e : ((2 : Int) ^ n) = ((m : Nat) : Int) := by rw [hm]; simp
  rw [e]
  unfold IntKind.wrap
  simp [IntKind.bits, IntKind.signed] <;> omega
 rw [<- hx] at hc hlt ⊢
 have hor : bits .or .u64 (x : Int) (m : Int) = ((x ||| m : Nat) : Int) := u64_or_nat x m hlt hml
 rw [<- hx] at CH
 have HM := Lib.hid (And.intro hx hm)
 clear hx hm hml hlt
 go_enter Tryz.func76, Tryz.ntmps76
 go_upto_region 2 with (go_at_call 113; refine CH.out.mono ?_; rintro e w5 ⟨rfl, rfl⟩)
 have hc2 : w.drew.cell? ⟨g, p, none⟩ = some (.int .u64 ((x : Nat) : Int)) := hc
 have hpi : (p : Int) < 24 := by omega
 have hf2 : w.drew.frozen? ⟨g, p, none⟩ = false := hf
 go_region_law (fail)
 go_wp2_with fail
 go_ret
 obtain ⟨rfl, rfl⟩ := HM.out
 have hset := (HS.out w rfl).set (p := p) hn
 have ho : zl g (g + 1) w (w.setCell ⟨g, p, none⟩ (.int .u64 ((T.getD p 0 ||| 2 ^ n : Nat) : Int))) := (zl.refl g (g + 1) w).setCell ⟨Nat.le_refl g, Nat.lt_succ_self g⟩ _
 exact ⟨rfl, hset, ho.trans (zl.of_below (zX (Below.refl _ _) 1))⟩
open Go.RowKit
def numF (xs : List Int) : Nat := xs.foldl (fun n c => n * 6 + c.toNat) 0
theorem zhg {xs : List Int} {k : Nat} (h : k < xs.length) : numF (xs.take (k + 1)) = numF (xs.take k) * 6 + xs[k].toNat := by
 unfold numF
 rw [zH xs k h, List.foldl_append]
 rfl
theorem zgu {xs : List Int} (hc : xs.all zt = true) : ∀ k, k <= xs.length -> numF (xs.take k) < 6 ^ k
 | 0, _ => by simp [numF]
 | k + 1, hk => by
  have ih := zgu hc k (by omega)
  rw [zhg (by omega), Nat.pow_succ]
  have : 0 <= xs[k] /\ xs[k] <= 5 := by simpa [zt] using List.all_eq_true.1 hc _ (List.getElem_mem (show k < xs.length by omega))
  omega
set_option maxHeartbeats 1000000 in
theorem zdp (v : Value) (xs : List Int) (B : Nat) (w : World) (h : zv w B v xs) (hc : xs.all zt = true) (hl : xs.length <= 2) :
 Calls Tryz.prog 78 #[v] w fun e w' => e = .returned (.int .i64 (numF xs : Nat)) /\ w = w' := by
 obtain ⟨A, c, rfl, hcc, ha⟩ := h
 have HC := Lib.hid hc
 clear hc
 go_enter Tryz.func78, Tryz.ntmps78
 go_wp2_with fail
 go_loopw [3, 8] (fun m i wr => ∃ (k n : Nat), k <= xs.length /\ i = .int .i64 k /\ m = .int .i64 n /\ n = numF (xs.take k) /\ wr = w) (fun _ i _ => xs.length - (intOf i).toNat)
 case atStart => exact ⟨0, 0, by simp [numF]⟩
 case round =>
  obtain ⟨k, n, hk, rfl, rfl, hn, rfl⟩ := hrel
  by_cases hlt : k < xs.length
  ·obtain ⟨b, o, rfl, hbB, hx⟩ := ha (by omega)
   have hck : wr.cell? ⟨b, o + k, none⟩ = some (.int .i64 xs[k]) := hx k hlt
   have hb : 0 <= xs[k] /\ xs[k] <= 5 := by simpa [zt] using List.all_eq_true.1 HC.out _ (List.getElem_mem hlt)
   have hn6 : n < 36 := by
    have := zgu HC.out k hk
    have h2 : (6 : Nat) ^ k <= 6 ^ 2 := Nat.pow_le_pow_right (by decide) (by omega)
    rw [hn]
    omega
   obtain ⟨x, hx2⟩ : ∃ x : Nat, xs[k] = (x : Int) := ⟨xs[k].toNat, by omega⟩
   have HN := Lib.hid (show numF (xs.take (k + 1)) = n * 6 + x by rw [zhg hlt, hn, hx2]; rfl)
   have hxl : x <= 5 := by omega
   rw [hx2] at hck
   clear hx hx2 hb hn
   go_wp2_with fail
   go_roundw
   case rel => exact ⟨k + 1, n * 6 + x, by omega, by go_num, by go_num, HN.out.symm, by first | trivial | rfl⟩
   case measure => simp [intOf]; omega
  ·have HE := Lib.hid (show n = numF xs by rw [hn, show k = xs.length by omega, List.take_length])
   clear hn ha
   go_wp2_with fail
   go_ret
   exact ⟨zT (by rw [HE.out]), rfl⟩
set_option maxHeartbeats 1000000 in
theorem ziD (v : Value) (bs xs : List Int) (hb : zp bs = true) (ht : xs.all zz = true) (B : Nat) (w : World) (h : zv w B v xs) (hc : (xs.map (zn bs)).all zt = true) (hl : xs.length <= 2) :
 Calls Tryz.prog 77 #[.int .u32 (encB bs : Nat), v] w fun e w' => e = .returned (.int .i64 (numF (xs.map (zn bs)) : Nat)) /\ w = w' := by
 obtain ⟨A, c, rfl, hcc, ha⟩ := h
 obtain ⟨ys, hys⟩ : ∃ ys, ys = xs.map (zn bs) := ⟨_, rfl⟩
 rw [<- hys] at hc ⊢
 have hyl : ys.length = xs.length := by rw [hys]; simp
 have HYL := Lib.hid hyl
 have HC := Lib.hid hc
 have HY := Lib.hid hys
 have HT := Lib.hid ht
 have HV := Lib.hid (fun t ht => zev bs hb t ht)
 generalize encB bs = m at HV
 clear hc hys ht hyl
 go_enter Tryz.func77, Tryz.ntmps77
 go_wp2_with fail
 go_loopw [5, 10] (fun m i wr => ∃ (k n : Nat), k <= xs.length /\ i = .int .i64 k /\ m = .int .i64 n /\ n = numF (ys.take k) /\ wr = w) (fun _ i _ => xs.length - (intOf i).toNat)
 case atStart => exact ⟨0, 0, by simp [numF]⟩
 case round =>
  obtain ⟨k, n, hk, rfl, rfl, hn, rfl⟩ := hrel
  by_cases hlt : k < xs.length
  ·obtain ⟨b, o, rfl, hbB, hx⟩ := ha (by omega)
   have hck : wr.cell? ⟨b, o + k, none⟩ = some (.int .i64 xs[k]) := hx k hlt
   have hlt2 : k < ys.length := by rw [HYL.out]; exact hlt
   have hb2 : 0 <= ys[k] /\ ys[k] <= 5 := by simpa [zt] using List.all_eq_true.1 HC.out _ (List.getElem_mem hlt2)
   have hn6 : n < 36 := by
    have := zgu HC.out k (by omega)
    have h2 : (6 : Nat) ^ k <= 6 ^ 2 := Nat.pow_le_pow_right (by decide) (by omega)
    rw [hn]
    omega
   obtain ⟨x, hx2⟩ : ∃ x : Nat, ys[k] = (x : Int) := ⟨ys[k].toNat, by omega⟩
   have HN := Lib.hid (show numF (ys.take (k + 1)) = n * 6 + x by rw [zhg hlt2, hn, hx2]; rfl)
   have hxl : x <= 5 := by omega
   have HV2 := Lib.hid (HV.out xs[k] (List.all_eq_true.1 HT.out _ (List.getElem_mem hlt)))
   have hvx : zn bs xs[k] = (x : Int) := by rw [<- hx2]; simp only [HY.out, List.getElem_map]
   rw [hvx] at HV2
   clear hx hx2 hb2 hn hvx
   go_wp2_with (go_at_call 114; refine (HV2.out _).mono ?_; rintro e w' ⟨rfl, rfl⟩)
   go_roundw
   case rel => exact ⟨k + 1, n * 6 + x, by omega, by go_num, by go_num, HN.out.symm, by first | trivial | rfl⟩
   case measure => simp [intOf]; omega
  ·have HE := Lib.hid (show n = numF ys by rw [hn, show k = ys.length by have := HYL.out; omega, List.take_length])
   clear hn ha
   go_wp2_with fail
   go_ret
   exact ⟨zT (by rw [HE.out]), rfl⟩
def zkG (f : zd) : Prop := 0 <= f.1 /\ f.1 < 24 /\ f.2.all zt = true /\ f.2.length <= 2
def zK (T : List Nat) (fs : List zd) : List Nat := fs.foldl (fun T f => za9 T f.1.toNat (numF f.2)) T
theorem zj5 {T : List Nat} {fs : List zd} {k : Nat} (h : k < fs.length) : zK T (fs.take (k + 1)) = za9 (zK T (fs.take k)) fs[k].1.toNat (numF fs[k].2) := by
 unfold zK
 rw [zH fs k h, List.foldl_append]
 rfl
theorem TabAt.below {w w' : World} {g B : Nat} {T : List Nat} (h : TabAt w g T) (hb : Below B w w') (hg : g < B) : TabAt w' g T := ⟨h.1.below hb hg, h.2⟩
theorem TabAt.only {w w' : World} {g lo hi : Nat} {T : List Nat} (h : TabAt w g T) (ho : zl lo hi w w') (hg : g < lo \/ hi <= g) : TabAt w' g T := ⟨h.1.only ho hg, h.2⟩
theorem zgv {xs : List Int} (hc : xs.all zt = true) (hl : xs.length <= 2) : numF xs < 64 := by
 have := zgu hc xs.length (Nat.le_refl _)
 rw [List.take_length] at this
 have h2 : (6 : Nat) ^ xs.length <= 6 ^ 2 := Nat.pow_le_pow_right (by decide) hl
 omega
set_option maxHeartbeats 4000000 in
theorem zmG (g B : Nat) (T0 : List Nat) (v : Value) (fs : List zd) (w : World) (h : TabAt w g T0) (hr : zu w B v fs) (hB : B <= g) (hf : ∀ f ∈ fs, zkG f) (hn : fs.length <= 1048576) :
 Calls Tryz.prog 42 #[.pointer (some ⟨g, 0, none⟩), v] w fun e w' =>
  e = .returned (.tuple #[]) /\ TabAt w' g (zK T0 fs) /\ zl g (g + 1) w w' := by
 have H := Lib.hid hr
 have HT := Lib.hid h
 have HF := Lib.hid hf
 have hgw := h.1.lt
 obtain ⟨A, c, rfl, hc, _⟩ := hr
 clear h hf
 go_enter Tryz.func42, Tryz.ntmps42
 go_wp2_with fail
 go_loopw [8] (fun i wr => ∃ k : Nat, k <= fs.length /\ i = .int .i64 k /\ TabAt wr g (zK T0 (fs.take k)) /\ zl g (g + 1) w wr) (fun i _ => fs.length - (intOf i).toNat)
 case atStart => exact ⟨0, Nat.zero_le _, rfl, by simpa [zK] using HT.out, zl.refl _ _ _⟩
 case round =>
  obtain ⟨k, hk, rfl, hat, hon⟩ := hrel
  by_cases hlt : k < fs.length
  ·have hsz := hon.size
   have hbe : Below B w wr := hon.below hB (by omega)
   obtain ⟨b, o, A3, c3, rfl, hbB, k1, k2, k3⟩ := (H.out.below hbe (Nat.le_refl _)).get hlt
   have HCF := Lib.hid (HF.out _ (List.getElem_mem hlt))
   have HTK := Lib.hid (zj5 (T := T0) hlt)
   obtain ⟨f, hfe⟩ : ∃ f, f = fs[k] := ⟨_, rfl⟩
   rw [<- hfe] at HCF k1 k2 k3 HTK
   obtain ⟨T, hTe⟩ : ∃ T, T = zK T0 (fs.take k) := ⟨_, rfl⟩
   rw [<- hTe] at hat HTK
   obtain ⟨p, hpe⟩ : ∃ p : Nat, f.1 = (p : Int) := ⟨f.1.toNat, by have := HCF.out.1; omega⟩
   have hp24 : p < 24 := by have := HCF.out.2.1; omega
   obtain ⟨n, hne⟩ : ∃ n, n = numF f.2 := ⟨_, rfl⟩
   have hn64 : n < 64 := by rw [hne]; exact zgv HCF.out.2.2.1 HCF.out.2.2.2
   have HTK2 := Lib.hid (show zK T0 (fs.take (k + 1)) = za9 T p n by rw [HTK.out, hpe, hne]; rfl)
   have HNE := Lib.hid hne
   rw [hpe] at k1
   clear hfe hTe hpe hne HTK
   go_upto_region 3 with fail
   obtain ⟨wv, hwv⟩ : ∃ wv, wv = wr.alloc (Obj.cells #[Value.int IntKind.i64 (p : Int), Value.slice A3 f.2.length c3] 39) := ⟨_, rfl⟩
   have bv : Below wr.heap.size wr wv := by rw [hwv]; exact ze _ _
   have z7 : Blk wv wr.heap.size 39 #[.int .i64 p, .slice A3 f.2.length c3] := by rw [hwv]; exact Blk.new _ _ _
   have hvl : wr.heap.size < wv.heap.size := by rw [hwv]; simp
   rw [<- hwv]
   clear hwv k1 k2
   have RF := Lib.hid (show zv wv wr.heap.size (.slice A3 f.2.length c3) f.2 from (k3.below bv (by omega)).more (by omega))
   have htv : TabAt wv g T := hat.below bv hat.1.lt
   have HTV := Lib.hid (show TabAt wv.drew g T from htv)
   have q0 : wv.cell? ⟨wr.heap.size, 0, none⟩ = some (.int .i64 p) := z7.cell 0
   have q1 : wv.cell? ⟨wr.heap.size, 1, none⟩ = some (.slice A3 f.2.length c3) := z7.cell 1
   have HON := Lib.hid (show zl g (g + 1) w wv.drew from (hon.trans (zl.of_below bv)).trans (zl.of_below (zX (Below.refl _ _) 1)))
   clear hat hon k3 z7 htv
   obtain ⟨SS, hSS⟩ : ∃ SS : World -> Prop, SS = (fun W => Below wv.heap.size wv W /\ W.cell? ⟨wr.heap.size, 0, none⟩ = some (.int .i64 p) /\ W.cell? ⟨wr.heap.size, 1, none⟩ = some (.slice A3 f.2.length c3)) := ⟨_, rfl⟩
   have HB := Lib.hid (show ∀ W, SS W -> (Below wv.heap.size wv W /\ W.cell? ⟨wr.heap.size, 0, none⟩ = some (.int .i64 p) /\ W.cell? ⟨wr.heap.size, 1, none⟩ = some (.slice A3 f.2.length c3)) from by rw [hSS]; exact fun W hW => hW)
   have HS := Lib.hid (show ∀ W, Below wv.heap.size wv W -> SS W from by
    rw [hSS]
    exact fun W hW => ⟨hW, (hW.cell (World.block_lt_of_cell? _ _ q0)).trans q0, (hW.cell (World.block_lt_of_cell? _ _ q1)).trans q1⟩)
   clear hSS
   have BB : Below wv.heap.size wv wv.drew := (Below.refl _ _).drew
   have SB := HS.out _ BB
   refine zB SS 6 7 (by kernel_rfl) rfl ?_
   refine za (i := 0) (oi := _) ?v0 rfl rfl (by kernel_rfl) (by decide) (fun _ _ _ h => h) rfl ?hy0 (fun _ => SB) ?rest0
   case hy0 => (intro W; go_simp; (try with_reducible rfl))
   try simp only [zs.a, zs.b, zs.c]
   refine za (i := 1) (oi := _) ?v1 rfl rfl (by kernel_rfl) (by decide) (fun _ _ _ h => h) rfl ?hy1 (fun _ => SB) ?rest1
   case hy1 => (intro W; go_simp; (try with_reducible rfl))
   try simp only [zs.a, zs.b, zs.c]
   refine zm (i := 2) (oi := _) ?v2 rfl rfl (by kernel_rfl) (fun _ _ _ h => h) rfl ?hy2 SB ?rest2
   case hy2 => (intro W hW; obtain ⟨_, e0, e1⟩ := HB.out W hW; go_simp; (try with_reducible rfl))
   try simp only [zs.a, zs.b, zs.c]
   refine za (i := 3) (oi := _) ?v3 rfl rfl (by kernel_rfl) (by decide) (fun _ _ _ h => h) rfl ?hy3 (fun _ => SB) ?rest3
   case hy3 => (intro W; go_simp; (try with_reducible rfl))
   try simp only [zs.a, zs.b, zs.c]
   refine zm (i := 4) (oi := _) ?v4 rfl rfl (by kernel_rfl) (fun _ _ _ h => h) rfl ?hy4 SB ?rest4
   case hy4 => (intro W hW; obtain ⟨_, e0, e1⟩ := HB.out W hW; go_simp; (try with_reducible rfl))
   try simp only [zs.a, zs.b, zs.c]
   refine zh (i := 5) (by kernel_rfl) rfl (fun K hK => ?_)
   try rw [if_pos (show Region.wanted _ _ = true from rfl)]
   go_simp
   refine (zdp (.slice A3 f.2.length c3) f.2 wr.heap.size _ (RF.out.below BB (Nat.le_of_lt hvl)) HCF.out.2.2.1 HCF.out.2.2.2).mono ?_
   rw [<- HNE.out]
   rintro e W5 ⟨rfl, rfl⟩
   refine hK.out _ _ (fun _ => SB) ?_
   clear hK K
   try simp only [zs.a, zs.b, zs.c, Act.put]
   refine zh (i := 6) (by kernel_rfl) rfl (fun K hK => ?_)
   try rw [if_pos (show Region.wanted _ _ = true from rfl)]
   go_simp
   refine (zmZ g p n T _ HTV.out hp24 hn64).mono ?_
   rintro e W6 ⟨rfl, ht6, ho6⟩
   have H6 := Lib.hid (And.intro ht6 ho6)
   clear ht6 ho6
   refine hK.out _ _ (fun hf => absurd hf (by decide)) ?_
   clear hK K
   try simp only [zs.a, zs.b, zs.c, Act.put]
   refine zL (by kernel_rfl) ?_
   have HFIN := Lib.hid (show TabAt W6 g (zK T0 (fs.take (k + 1))) /\ zl g (g + 1) w W6 from by
    rw [HTK2.out]
    exact ⟨H6.out.1, HON.out.trans H6.out.2⟩)
   clear SB HB HS BB
   go_wp2_with fail
   go_roundw
   case rel => exact ⟨k + 1, by omega, by go_num, HFIN.out.1, HFIN.out.2⟩
   case measure => simp [intOf]; omega
  ·have HFIN := Lib.hid (show TabAt wr g (zK T0 fs) /\ zl g (g + 1) w wr from by
    rw [show k = fs.length by omega, List.take_length] at hat
    exact ⟨hat, hon⟩)
   clear hat hon
   go_wp2_with fail
   go_end0
   exact ⟨rfl, HFIN.out.1, HFIN.out.2⟩
open Go.RowKit
open Go.RowKit
def zaa : List Nat := List.replicate 24 0
def zoO (r : zJ) (b : List Int) : zd := (r.1.1, r.1.2.map (zn b))
theorem zeL (T : List Nat) (fs : List zd) (f : zd) : zK T (fs ++ [f]) = za9 (zK T fs) f.1.toNat (numF f.2) := by
 unfold zK
 rw [List.foldl_append]
 rfl
theorem TabAt.zero (w : World) : TabAt (w.alloc (Obj.cells (tabCells zaa) 54)) w.heap.size zaa :=
 ⟨Blk.new _ _ _, by simp [zaa], fun x hx => by
   obtain ⟨_, rfl⟩ := List.mem_replicate.1 hx
   decide⟩
set_option maxHeartbeats 8000000 in
theorem zlj (v v2 : Value) (ar : List Int) (rs : List zJ) (fs : List zd) (w : World) (h : zbp w w.heap.size v rs) (h2 : zu w w.heap.size v2 fs) (har : zr ar = true) (hfit : ∀ r ∈ rs, zA ar r = true) (hsz : zgm rs <= 1048576) (hrl : rs.length <= 1048576)
 (hn : fs.length <= 1048576) (ht : tot fs <= 1048576) (hc : ∀ f ∈ fs, f.2.all zt = true) (hnd : fs.Nodup) :
 Calls Tryz.prog 41 #[v, v2] w fun e w' => ∃ F, e = .returned (.agg (tabCells (zK zaa F))) /\ (∀ f, f ∈ F <-> f ∈ zR rs fs) /\ Below w.heap.size w w' := by
 have H := Lib.hid h
 have H2 := Lib.hid h2
 obtain ⟨A, c, rfl, hcA, _⟩ := h
 obtain ⟨A2, c2, rfl, hc2, _⟩ := h2
 have HFIT := Lib.hid hfit
 clear hfit
 go_enter Tryz.func41, Tryz.ntmps41
 go_upto_region 2 with fail
 obtain ⟨w0, hw0⟩ : ∃ w0, w0 = (w.alloc (Obj.cells (tabCells zaa) 54)).alloc (Obj.cells (tabCells zaa) 54) := ⟨_, rfl⟩
 obtain ⟨g, hg⟩ : ∃ g, g = w.heap.size + 1 := ⟨_, rfl⟩
 have T0 : TabAt w0 g zaa := by rw [hw0, hg]; have := TabAt.zero (w.alloc (Obj.cells (tabCells zaa) 54)); simpa using this
 have R0 : TabAt w0 w.heap.size zaa := by rw [hw0]; exact (TabAt.zero w).below (ze _ _) (by simp)
 have B0 : Below w.heap.size w w0 := by rw [hw0]; exact zf (ze _ _) (ze _ _)
 rw [show ((w.alloc (Obj.cells #[Value.int IntKind.u64 0, Value.int IntKind.u64 0, Value.int IntKind.u64 0, Value.int IntKind.u64 0, Value.int IntKind.u64 0, Value.int IntKind.u64 0, Value.int IntKind.u64 0, Value.int IntKind.u64 0, Value.int IntKind.u64 0, Value.int IntKind.u64 0, Value.int IntKind.u64 0, Value.int IntKind.u64 0, Value.int IntKind.u64 0, Value.int IntKind.u64 0, Value.int IntKind.u64 0, Value.int IntKind.u64 0, Value.int IntKind.u64 0, Value.int IntKind.u64 0, Value.int IntKind.u64 0, Value.int IntKind.u64 0, Value.int IntKind.u64 0, Value.int IntKind.u64 0, Value.int IntKind.u64 0, Value.int IntKind.u64 0] 54)).alloc (Obj.cells #[Value.int IntKind.u64 0, Value.int IntKind.u64 0, Value.int IntKind.u64 0, Value.int IntKind.u64 0, Value.int IntKind.u64 0, Value.int IntKind.u64 0, Value.int IntKind.u64 0, Value.int IntKind.u64 0, Value.int IntKind.u64 0, Value.int IntKind.u64 0, Value.int IntKind.u64 0, Value.int IntKind.u64 0, Value.int IntKind.u64 0, Value.int IntKind.u64 0, Value.int IntKind.u64 0, Value.int IntKind.u64 0, Value.int IntKind.u64 0, Value.int IntKind.u64 0, Value.int IntKind.u64 0, Value.int IntKind.u64 0, Value.int IntKind.u64 0, Value.int IntKind.u64 0, Value.int IntKind.u64 0, Value.int IntKind.u64 0] 54)) = w0 from by rw [hw0]; rfl, show w.heap.size + 1 = g from hg.symm]
 have hgs : g < w0.heap.size := T0.1.lt
 have hgw : w.heap.size <= g := by omega
 have HT0 := Lib.hid T0
 have HR0 := Lib.hid R0
 have HGE := Lib.hid hg
 clear hw0 T0 R0 hg
 go_wp2_with fail
 go_loopw [12] (fun i wr => ∃ (k : Nat) (F : List zd), k <= rs.length /\ i = .int .i64 k /\ TabAt wr g (zK zaa F) /\ (∀ f, f ∈ F <-> f ∈ zR (rs.take k) fs) /\ zl g (g + 1) w0 wr) (fun i _ => rs.length - (intOf i).toNat)
 case atStart => exact ⟨0, [], Nat.zero_le _, rfl, HT0.out, fun f => by simp [zR, zG], zl.refl _ _ _⟩
 case round =>
  obtain ⟨k, F, hk, rfl, hat, hmem, hon⟩ := hrel
  have BW : Below w.heap.size w wr := zl.then_ B0 hon hgw
  have HON := Lib.hid hon
  have HMEM := Lib.hid hmem
  have hsz0 := hon.size
  by_cases hlt : k < rs.length
  ·obtain ⟨b, o, u0, u1, u2, rfl, hbB, k0, k1, k2, rfl, q1, q2⟩ := (H.out.below BW (Nat.le_refl _)).get hlt
   have hwr : w.heap.size <= wr.heap.size := BW.size
   have Q1 := Lib.hid q1
   have Q2 := Lib.hid q2
   obtain ⟨A3, c3, rfl, _⟩ := q1
   obtain ⟨A4, c4, rfl, _⟩ := q2
   have hfk := HFIT.out _ (List.getElem_mem hlt)
   have HW := Lib.hid hfk
   have hparts := hfk
   simp only [zA, zah, Bool.and_eq_true, decide_eq_true_eq] at hparts
   have HLE := Lib.hid (zea har hparts.1.1)
   have HTM := Lib.hid hparts.1.2
   have HPR := Lib.hid (show 0 <= rs[k].1.1 /\ rs[k].1.1 < 24 from by
    have : ar.length <= 24 := by simp only [zr, Bool.and_eq_true, decide_eq_true_eq] at har; exact har.1
    omega)
   have hsk := zbZ rs k hlt
   unfold szR at hsk
   have HSF := Lib.hid (zbV.of (zcC hfk))
   have HQL := Lib.hid (show (zaV fs rs[k].2).length = rs[k].2.length by simp [zaV])
   have CQ := Lib.hid (fun W (hW : Below wr.heap.size wr W) => zh8 (.slice A2 fs.length c2) (.slice A4 rs[k].2.length c4) fs rs[k].2 W (H2.out.on (zf BW hW)) ((Q2.out.more hwr).on hW) (by omega))
   clear hparts hfk hon hmem
   go_upto_region 5 with fail
   obtain ⟨wv, hwv⟩ : ∃ wv, wv = wr.alloc (Obj.cells #[Value.int .i64 rs[k].1.1, Value.slice A3 rs[k].1.2.length c3, Value.slice A4 rs[k].2.length c4] 66) := ⟨_, rfl⟩
   have bv : Below wr.heap.size wr wv := by rw [hwv]; exact ze _ _
   have X : Blk wv wr.heap.size 66 #[.int .i64 rs[k].1.1, .slice A3 rs[k].1.2.length c3, .slice A4 rs[k].2.length c4] := by rw [hwv]; exact Blk.new _ _ _
   rw [<- hwv]
   have hvl := X.lt
   clear hwv k0 k1 k2
   have x2 : wv.cell? ⟨wr.heap.size, 2, none⟩ = some (.slice A4 rs[k].2.length c4) := X.cell 2
   have HQK := Lib.hid (HSF.out.qok hc hn ht (by omega))
   go_wp2_with (first
    | (go_at_call 75; refine (CQ.out _ bv).mono ?_; rintro e w3 ⟨g3, us, rfl, hg3, at3, rd3, hb3⟩
       have CS := zhc g3 rs[k].2.length wv.heap.size us (zaV fs rs[k].2) w3 at3 rd3 hg3 (by rw [HQL.out]; omega) HQK.out (HSF.out.quests fs)
       rw [HQL.out] at CS
       have HCS := Lib.hid CS
       have H3 := Lib.hid (And.intro hg3 hb3)
       clear CS hg3 at3 rd3 hb3)
    | (go_at_call 74; refine HCS.out.mono ?_; rintro e w4 ⟨A5, c5, S, rfl, own4, on4, is4⟩
       have H4 := Lib.hid (And.intro own4 (And.intro on4 is4))
       clear own4 on4 is4))
   obtain ⟨hg3, hb3⟩ := H3.out
   obtain ⟨own4, on4, is4⟩ := H4.out
   have hs3 := hb3.size
   have b34 : Below wv.heap.size wv w4 := zl.then_ hb3 on4 hg3
   have hl4 : S.length <= 65536 := zce is4.1 is4.ok
   have X4 := Lib.hid (X.below b34 hvl)
   have hgr : g + 1 <= wr.heap.size := hat.1.lt
   have T4 := Lib.hid (hat.below (zf bv b34) hat.1.lt)
   have ON4 := Lib.hid (HON.out.trans (zl.of_below (zf bv b34)))
   have OW4 := Lib.hid own4
   have IS4 := Lib.hid is4
   have B4 := Lib.hid (zf bv b34)
   have hs4 := b34.size
   clear hg3 hb3 own4 on4 is4 H3 H4 HCS CQ x2 X b34 hat HQK
   obtain ⟨wo, rfl⟩ : ∃ wo, wo = wr := ⟨_, rfl⟩
   go_loopw [22] (fun i wr => ∃ q : Nat, q <= S.length /\ i = .int .i64 q /\ TabAt wr g (zK zaa (F ++ (S.take q).map (zoO rs[k]))) /\ zl g (g + 1) w4 wr) (fun i _ => S.length - (intOf i).toNat)
   case atStart => exact ⟨0, Nat.zero_le _, rfl, by simpa using T4.out, zl.refl _ _ _⟩
   case round =>
    obtain ⟨q, hq, rfl, htx, honx⟩ := hrel
    have hsx := honx.size
    have hwx : w.heap.size <= wr.heap.size := by omega
    by_cases hltq : q < S.length
    ·have hrd := (OW4.out.only honx (.inr (by omega))).rd
     obtain ⟨A7, c7, e7, _, hx⟩ := hrd
     injection e7 with e7 _ e8
     subst e7 e8
     obtain ⟨b7, o7, rfl, _, hx⟩ := hx (by omega)
     have hck : wr.cell? ⟨b7, o7 + q, none⟩ = some (.int .u32 ((encB S[q] : Nat) : Int)) := hx q hltq
     have HBK := Lib.hid (IS4.out.ok _ (List.getElem_mem hltq))
     have HCO := Lib.hid (show (rs[k].1.2.map (zn S[q])).all zt = true from by
      have := zjB HW.out IS4.out _ (List.getElem_mem hltq)
      simp only [zai, Bool.and_eq_true] at this
      exact this.2)
     have Xx := X4.out.only honx (.inr hgr)
     obtain ⟨p, hpe⟩ : ∃ p : Nat, rs[k].1.1 = (p : Int) := ⟨rs[k].1.1.toNat, by have := HPR.out; omega⟩
     have hp24 : p < 24 := by have := HPR.out; omega
     obtain ⟨n, hne⟩ : ∃ n, n = numF (rs[k].1.2.map (zn S[q])) := ⟨_, rfl⟩
     have HNE := Lib.hid hne
     have hn64 : n < 64 := by rw [hne]; exact zgv HCO.out (by rw [List.length_map]; exact HLE.out)
     obtain ⟨T, hTe⟩ : ∃ T, T = zK zaa (F ++ (S.take q).map (zoO rs[k])) := ⟨_, rfl⟩
     have HTK := Lib.hid (show zK zaa (F ++ (S.take (q + 1)).map (zoO rs[k])) = za9 T p n from by
      rw [zH S q hltq, List.map_append, <- List.append_assoc, List.map_singleton, zeL, hTe, hne]
      show za9 _ rs[k].1.1.toNat _ = _
      rw [hpe]
      rfl)
     rw [<- hTe] at htx
     have HTV := Lib.hid (show TabAt wr.drew g T from htx)
     have q0 : wr.cell? ⟨wo.heap.size, 0, none⟩ = some (.int .i64 p) := by rw [<- hpe]; exact Xx.cell 0
     have q1 : wr.cell? ⟨wo.heap.size, 1, none⟩ = some (.slice A3 rs[k].1.2.length c3) := Xx.cell 1
     have RX := Lib.hid (show zv wr w.heap.size (.slice A3 rs[k].1.2.length c3) rs[k].1.2 from (Q1.out.below B4.out hwr).below (honx.below hgw (by omega)) (Nat.le_refl _))
     have HONX := Lib.hid (show zl g (g + 1) w4 wr.drew from honx.drew')
     clear hx htx honx hpe hne hTe Xx
     go_upto_region 8 with fail
     obtain ⟨SS, hSS⟩ : ∃ SS : World -> Prop, SS = (fun W => Below wr.heap.size wr W /\ W.cell? ⟨wo.heap.size, 0, none⟩ = some (.int .i64 p) /\ W.cell? ⟨wo.heap.size, 1, none⟩ = some (.slice A3 rs[k].1.2.length c3)) := ⟨_, rfl⟩
     have HB := Lib.hid (show ∀ W, SS W -> (Below wr.heap.size wr W /\ W.cell? ⟨wo.heap.size, 0, none⟩ = some (.int .i64 p) /\ W.cell? ⟨wo.heap.size, 1, none⟩ = some (.slice A3 rs[k].1.2.length c3)) from by rw [hSS]; exact fun W hW => hW)
     have HS := Lib.hid (show ∀ W, Below wr.heap.size wr W -> SS W from by
      rw [hSS]
      exact fun W hW => ⟨hW, (hW.cell (World.block_lt_of_cell? _ _ q0)).trans q0, (hW.cell (World.block_lt_of_cell? _ _ q1)).trans q1⟩)
     clear hSS
     have BB : Below wr.heap.size wr wr.drew := (Below.refl _ _).drew
     have SB := HS.out _ BB
     refine zB SS 8 9 (by kernel_rfl) rfl ?_
     refine za (i := 0) (oi := _) ?v0 rfl rfl (by kernel_rfl) (by decide) (fun _ _ _ h => h) rfl ?hy0 (fun _ => SB) ?rest0
     case hy0 => (intro W; go_simp; (try with_reducible rfl))
     try simp only [zs.a, zs.b, zs.c]
     refine za (i := 1) (oi := _) ?v1 rfl rfl (by kernel_rfl) (by decide) (fun _ _ _ h => h) rfl ?hy1 (fun _ => SB) ?rest1
     case hy1 => (intro W; go_simp; (try with_reducible rfl))
     try simp only [zs.a, zs.b, zs.c]
     refine zm (i := 2) (oi := _) ?v2 rfl rfl (by kernel_rfl) (fun _ _ _ h => h) rfl ?hy2 SB ?rest2
     case hy2 => (intro W hW; obtain ⟨_, e0, e1⟩ := HB.out W hW; go_simp; (try with_reducible rfl))
     try simp only [zs.a, zs.b, zs.c]
     refine za (i := 3) (oi := _) ?v3 rfl rfl (by kernel_rfl) (by decide) (fun _ _ _ h => h) rfl ?hy3 (fun _ => SB) ?rest3
     case hy3 => (intro W; go_simp; (try with_reducible rfl))
     try simp only [zs.a, zs.b, zs.c]
     refine za (i := 4) (oi := _) ?v4 rfl rfl (by kernel_rfl) (by decide) (fun _ _ _ h => h) rfl ?hy4 (fun _ => SB) ?rest4
     case hy4 => (intro W; go_simp; (try with_reducible rfl))
     try simp only [zs.a, zs.b, zs.c]
     refine za (i := 5) (oi := _) ?v5 rfl rfl (by kernel_rfl) (by decide) (fun _ _ _ h => h) rfl ?hy5 (fun _ => SB) ?rest5
     case hy5 => (intro W; go_simp; (try with_reducible rfl))
     try simp only [zs.a, zs.b, zs.c]
     refine zm (i := 6) (oi := _) ?v6 rfl rfl (by kernel_rfl) (fun _ _ _ h => h) rfl ?hy6 SB ?rest6
     case hy6 => (intro W hW; obtain ⟨_, e0, e1⟩ := HB.out W hW; go_simp; (try with_reducible rfl))
     try simp only [zs.a, zs.b, zs.c]
     refine zh (i := 7) (by kernel_rfl) rfl (fun K hK => ?_)
     try rw [if_pos (show Region.wanted _ _ = true from rfl)]
     go_simp
     refine (ziD (.slice A3 rs[k].1.2.length c3) S[q] rs[k].1.2 HBK.out HTM.out w.heap.size _ (RX.out.below BB hwx) HCO.out HLE.out).mono ?_
     rw [<- HNE.out]
     rintro e W7 ⟨rfl, rfl⟩
     refine hK.out _ _ (fun _ => SB) ?_
     clear hK K
     try simp only [zs.a, zs.b, zs.c, Act.put]
     refine zh (i := 8) (by kernel_rfl) rfl (fun K hK => ?_)
     try rw [if_pos (show Region.wanted _ _ = true from rfl)]
     go_simp
     refine (zmZ g p n T _ HTV.out hp24 hn64).mono ?_
     rintro e W8 ⟨rfl, ht8, ho8⟩
     have H8 := Lib.hid (And.intro ht8 ho8)
     clear ht8 ho8
     refine hK.out _ _ (fun hf => absurd hf (by decide)) ?_
     clear hK K
     try simp only [zs.a, zs.b, zs.c, Act.put]
     refine zL (by kernel_rfl) ?_
     go_wp2_with fail
     go_roundw
     case rel => exact ⟨q + 1, by omega, by go_num, by rw [HTK.out]; exact H8.out.1, HONX.out.trans H8.out.2⟩
     case measure => simp [intOf]; omega
    ·have HQ := Lib.hid (show S.take q = S by rw [show q = S.length by omega, List.take_length])
     have HTX := Lib.hid htx
     have HOX := Lib.hid (ON4.out.trans honx)
     clear htx honx
     go_wp2_with fail
     go_roundw
     case rel =>
      refine ⟨k + 1, F ++ S.map (zoO rs[k]), by omega, by go_num, by have := HTX.out; rw [HQ.out] at this; exact this, fun f => ?_, HOX.out⟩
      rw [zf0 rs fs k hlt, zao, List.mem_append, List.mem_append, HMEM.out f, ziS HW.out IS4.out hc hnd, List.mem_map]
      constructor
      ·rintro (h | ⟨b, hb, e⟩)
       ·exact .inl h
       ·exact .inr ⟨b, hb, e.symm⟩
      ·rintro (h | ⟨b, hb, e⟩)
       ·exact .inl h
       ·exact .inr ⟨b, hb, e.symm⟩
     case measure => simp [intOf]; omega
  ·obtain rfl : k = rs.length := by omega
   have HMF := Lib.hid (show ∀ f, f ∈ F <-> f ∈ zR rs fs from by have := HMEM.out; rw [List.take_length] at this; exact this)
   have RR := HR0.out.only hon (.inl (by have := HGE.out; omega))
   obtain ⟨hbk, hln, _⟩ := hat
   obtain ⟨cs, hcs⟩ : ∃ cs, cs = tabCells (zK zaa F) := ⟨_, rfl⟩
   have hcz : cs.size = 24 := by rw [hcs]; simp [tabCells, hln]
   have HONE := Lib.hid (show cs.all (·.oneCell') = true from by
    rw [hcs]
    unfold tabCells
    rw [List.all_toArray, List.all_map, List.all_eq_true]
    intro x _
    rfl)
   rw [<- hcs] at hbk
   have hsi : (Tryz.prog.info? 54).map (·.size) = some cs.size := by rw [hcz]; kernel_rfl
   have hold : (tabCells zaa).size = cs.size := by rw [hcz]; rfl
   have HOLD := Lib.hid hold
   have HCS := Lib.hid hcs
   have HBE := Lib.hid BW
   have HSI := Lib.hid hsi
   have HBK := Lib.hid hbk
   have HRR := Lib.hid RR.1
   clear hcs hcz hon hmem hln hold hsi hbk RR
   go_wp2_with (first
    | (refine wpList_load_row rfl 54 _ rfl g rfl 54 cs (0, 0) _ HBK.out Tryz.underlying54 rfl HSI.out ?_)
    | (refine wpList_store_row rfl 54 _ _ rfl w.heap.size cs rfl rfl 54 (tabCells zaa) HRR.out HSI.out HOLD.out HONE.out ?_))
   refine bodyPost_ret_by (v := .agg cs) (results_cell_row Tryz.results41 _ _ w.heap.size _ cs (0, 0) _ rfl (setRow_heap _ _ _ cs _ _ HRR.out) Tryz.underlying54 rfl HSI.out) rfl ?_
   exact ⟨F, by rw [HCS.out], HMF.out, below_setRow HBE.out (Nat.le_refl _) _⟩
open Go.RowKit
open Go.RowKit
set_option maxHeartbeats 1000000 in
theorem ze5 (v v2 : Value) (ar : List Int) (fs : List zd) (w : World) (h : zv w w.heap.size v ar) (h2 : zu w w.heap.size v2 fs) (hr : ar.length <= 1048576) (hn : fs.length <= 1048576) (ht : tot fs <= 1048576) :
 Calls Tryz.prog 12 #[v, v2] w fun e w' => e = .returned (.bool (zat ar fs)) /\ Below w.heap.size w w' := by
 have H := Lib.hid h
 have H2 := Lib.hid h2
 obtain ⟨A, c, rfl, hc, _⟩ := h
 obtain ⟨A2, c2, rfl, hc2, _⟩ := h2
 go_enter Tryz.func12, Tryz.ntmps12
 go_wp2_with (fail)
 refine (zh1 _ ar _ H.out (by omega)).mono ?_
 rintro e w1 ⟨rfl, hb1⟩
 by_cases ha : zr ar = true
 ·rw [ha]
  have HA := Lib.hid ha
  clear ha
  go_wp2_with (fail)
  go_loopw [5, 6, 12] (fun _ _ i wr => ∃ k : Nat, k <= fs.length /\ i = .int .i64 k /\ zg8 ar fs k /\ Below w.heap.size w wr) (fun _ _ i _ => fs.length - (intOf i).toNat)
  case atStart => exact ⟨0, Nat.zero_le _, rfl, by simp [zg8], hb1⟩
  case round =>
   obtain ⟨k, hk, rfl, hs, hbe⟩ := hrel
   by_cases hlt : k < fs.length
   ·obtain ⟨b, o, A3, c3, rfl, hbB, k1, k2, k3⟩ := (H2.out.on hbe).get hlt
    have K3 := Lib.hid (show zU wr wr.heap.size (.agg #[.int .i64 fs[k].1, .slice A3 fs[k].2.length c3]) fs[k] from ⟨_, rfl, k3⟩)
    have hln := zaz fs k hlt
    clear k3
    go_wp2_with (fail)
    obtain ⟨w2, hw2⟩ : ∃ w2, w2 = wr.alloc (Obj.cells #[Value.int IntKind.i64 fs[k].1, Value.slice A3 fs[k].2.length c3] 39) := ⟨_, rfl⟩
    have B2 : Below wr.heap.size wr w2 := by rw [hw2]; exact ze _ _
    have x2 : Blk w2 wr.heap.size 39 #[.int .i64 fs[k].1, .slice A3 fs[k].2.length c3] := by rw [hw2]; exact Blk.new _ _ _
    rw [<- hw2]
    clear hw2
    refine (zkv _ _ ar fs[k] _ ((H.out.on hbe).on B2) (K3.out.on B2) (by omega)).mono ?_
    rintro e w3 ⟨rfl, hb3⟩
    have B3 := zf B2 hb3
    have BW3 := zf hbe B3
    have x3 := x2.below hb3 x2.lt
    by_cases hff : zE ar fs[k] = true
    ·rw [hff]
     rcases Nat.eq_zero_or_pos k with hk0 | hk0
     ·have hd : decide (0 < k) = false := by simp [hk0]
      have HS := Lib.hid (hs.step (zhJ hlt hff hk0) : zg8 ar fs (k + 1))
      clear hs hk0 hff
      go_wp2_with (fail)
      refine zD (by kernel_rfl) (by kernel_rfl) ?_
      repeat (go_big_quiet_step (fail))
      refine wpQuiet_nil ?_
      rintro _ ⟨xq, rfl⟩
      go_wp2_with (fail)
      go_roundw
      case rel => exact ⟨k + 1, by omega, by go_num, HS.out, zf BW3 xq.2⟩
      case measure => simp [intOf]; omega
     ·obtain ⟨j, rfl⟩ : ∃ j, k = j + 1 := ⟨k - 1, by omega⟩
      have hltj : j < fs.length := by omega
      obtain ⟨b', o', A4, c4, e4, hbB', m1, m2, m3⟩ := (H2.out.on BW3).get hltj
      simp only [Option.some.injEq, Addr.mk.injEq, and_true] at e4
      obtain ⟨rfl, rfl⟩ := e4
      have K4 := Lib.hid (show zU w3 w3.heap.size (.agg #[.int .i64 fs[j].1, .slice A4 fs[j].2.length c4]) fs[j] from ⟨_, rfl, m3⟩)
      have hlnj := zaz fs j hltj
      have M1 := zx m1
      have M2 := zx m2
      have X0 := zx (x3.cell 0 : w3.cell? ⟨wr.heap.size, 0, none⟩ = some (.int .i64 fs[j + 1].1))
      have X1 := zx (x3.cell 1 : w3.cell? ⟨wr.heap.size, 1, none⟩ = some (.slice A3 fs[j + 1].2.length c3))
      have CO := Lib.hid (fun x : zbG w3 => zcK _ _ fs[j] fs[j + 1] x.val (K4.out.on x.2) ((K3.out.on B3).on x.2) (by omega) (by omega))
      clear m1 m2 m3 k1 k2
      by_cases hlo : zk fs[j] fs[j + 1] < 0
      ·have hd : decide (0 <= zk fs[j] fs[j + 1]) = false := by simp; omega
       have HS := Lib.hid (hs.step (by rw [zeN hlt hltj hff]; simp [hlo]) : zg8 ar fs (j + 1 + 1))
       clear hs hff
       go_wp2_with (fail)
       refine zD (by kernel_rfl) (by kernel_rfl) ?_
       repeat (go_big_quiet_step ((go_at_call 32; exact zaq (CO.out _))))
       refine wpQuiet_nil ?_
       rintro _ ⟨xq, rfl⟩
       go_wp2_with (fail)
       go_roundw
       case rel => exact ⟨j + 1 + 1, by omega, by go_num, HS.out, zf BW3 xq.2⟩
       case measure => simp [intOf]; omega
      ·have hd : decide (0 <= zk fs[j] fs[j + 1]) = true := by simp; omega
       have HE := Lib.hid (show zat ar fs = false from zfK hlt (by rw [zeN hlt hltj hff]; simp [hlo]))
       clear hs hff
       go_wp2_with (fail)
       refine zD (by kernel_rfl) (by kernel_rfl) ?_
       repeat (go_big_quiet_step ((go_at_call 32; exact zaq (CO.out _))))
       refine wpQuiet_nil ?_
       rintro _ ⟨xq, rfl⟩
       go_wp2_with (fail)
       go_ret
       exact ⟨zi HE.out.symm, zf BW3 xq.2⟩
    ·have HE := Lib.hid (show zat ar fs = false from zfK hlt (zhI hlt (by simpa using hff)))
     rw [show zE ar fs[k] = false by simpa using hff]
     clear hs hff
     go_wp2_with (fail)
     go_ret
     exact ⟨zi HE.out.symm, BW3⟩
   ·have hkn : k = fs.length := by omega
    have HE := Lib.hid (show zat ar fs = true by unfold zat; unfold zg8 at hs; rw [<- hkn, hs, HA.out]; rfl)
    clear hkn hs
    go_wp2_with (fail)
    go_ret
    exact ⟨zi HE.out.symm, hbe⟩
 ·have HE := Lib.hid (show zat ar fs = false by simp [zat, ha])
  rw [show zr ar = false by simpa using ha]
  clear ha
  go_wp2_with (fail)
  go_ret
  exact ⟨zi HE.out.symm, hb1⟩
open Go.RowKit
theorem zhE (T : List Nat) (fs : List zd) : (zK T fs).length = T.length := by
 induction fs generalizing T with
 | nil => rfl
 | cons f fs ih =>
  show (zK (za9 T f.1.toNat (numF f.2)) fs).length = _
  rw [ih]
  simp [za9]
theorem zj8 (T : List Nat) : (tabCells T).all (·.oneCell') = true := by
 unfold tabCells
 rw [List.all_toArray, List.all_map, List.all_eq_true]
 intro x _
 rfl
open Go.RowKit
theorem zlX {T : List Nat} {p q m n : Nat} (hp : p < T.length) : ((za9 T q m).getD p 0).testBit n = true <-> (T.getD p 0).testBit n = true \/ (q = p /\ m = n) := by
 unfold za9
 by_cases e : q = p
 ·subst e
  have h1 : (T.set q (T.getD q 0 ||| 2 ^ m)).getD q 0 = T.getD q 0 ||| 2 ^ m := by simp [List.getD_eq_getElem?_getD, hp]
  rw [h1, Nat.testBit_or, Bool.or_eq_true, Nat.testBit_two_pow, decide_eq_true_eq]
  simp
 ·have h1 : (T.set q (T.getD q 0 ||| 2 ^ m)).getD p 0 = T.getD p 0 := by simp [List.getD_eq_getElem?_getD, List.getElem?_set_ne e]
  rw [h1]
  simp [e]
theorem zfg {p n : Nat} : ∀ (fs : List zd) (T : List Nat), p < T.length -> (((zK T fs).getD p 0).testBit n = true <-> (T.getD p 0).testBit n = true \/ ∃ f ∈ fs, f.1.toNat = p /\ numF f.2 = n)
 | [], T, _ => by simp [zK]
 | f :: fs, T, hp => by
  have e : zK T (f :: fs) = zK (za9 T f.1.toNat (numF f.2)) fs := rfl
  rw [e, zfg fs _ (by simpa [za9] using hp), zlX hp]
  constructor
  ·rintro ((h | h) | ⟨g, hg, h⟩)
   ·exact .inl h
   ·exact .inr ⟨f, List.mem_cons_self .., h⟩
   ·exact .inr ⟨g, List.mem_cons_of_mem _ hg, h⟩
  ·rintro (h | ⟨g, hg, h⟩)
   ·exact .inl (.inl h)
   ·rcases List.mem_cons.1 hg with rfl | hg
    ·exact .inl (.inr h)
    ·exact .inr ⟨g, hg, h⟩
theorem zkJ {p n : Nat} : (zaa.getD p 0).testBit n = false := by
 have : zaa.getD p 0 = 0 := by
  by_cases hp : p < zaa.length
  ·rw [zbU hp]
   exact (List.mem_replicate.1 (List.getElem_mem hp)).2
  ·simp [List.getD_eq_getElem?_getD, List.getElem?_eq_none (by omega : zaa.length <= p)]
 rw [this, Nat.zero_testBit]
theorem zn9 {xs ys : List Int} (hx : xs.all zt = true) (hy : ys.all zt = true) (hl : xs.length = ys.length) (h2 : xs.length <= 2) (e : numF xs = numF ys) : xs = ys := by
 rcases xs with _ | ⟨x, _ | ⟨y, _ | ⟨z, xs⟩⟩⟩ <;> rcases ys with _ | ⟨x', _ | ⟨y', _ | ⟨z', ys⟩⟩⟩ <;> (try (simp at hl; done)) <;> (try (simp at h2; done))
 ·rfl
 ·simp only [List.all_cons, List.all_nil, Bool.and_true] at hx hy
  have := zN hx
  have := zN hy
  simp [numF] at e
  simp; omega
 ·simp only [List.all_cons, List.all_nil, Bool.and_true, Bool.and_eq_true] at hx hy
  have := zN hx.1
  have := zN hx.2
  have := zN hy.1
  have := zN hy.2
  simp [numF] at e
  simp; omega
theorem zlx {ar : List Int} {f g : zd} (ha : zr ar = true) (hf : zE ar f = true) (hg : zE ar g = true) (e1 : f.1.toNat = g.1.toNat) (e2 : numF f.2 = numF g.2) : f = g := by
 obtain ⟨⟨h0, _, hl⟩, hc⟩ := zav hf
 obtain ⟨⟨h0', _, hl'⟩, hc'⟩ := zav hg
 have e : f.1 = g.1 := by omega
 rw [<- e] at hl'
 exact Prod.ext e (zn9 hc hc' (by omega) (zbb ha hf) e2)
open Go.RowKit
theorem zjE {T : List Nat} {p n : Nat} (h : ∀ x ∈ T, x < 18446744073709551616) (hn : n < 64) : ∀ x ∈ za9 T p n, x < 18446744073709551616 := by
 intro x hx
 rcases List.mem_or_eq_of_mem_set hx with h4 | rfl
 ·exact h x h4
 ·refine Nat.or_lt_two_pow (n := 64) ?_ (Nat.pow_lt_pow_right (by decide) hn)
  by_cases hp : p < T.length
  ·rw [zbU hp]
   exact h _ (List.getElem_mem hp)
  ·simp [List.getD_eq_getElem?_getD, List.getElem?_eq_none (by omega : T.length <= p)]
theorem zio : ∀ (fs : List zd) (T : List Nat), (∀ x ∈ T, x < 18446744073709551616) -> (∀ f ∈ fs, numF f.2 < 64) -> ∀ x ∈ zK T fs, x < 18446744073709551616
 | [], _, h, _ => h
 | f :: fs, T, h, hf => zio fs (za9 T f.1.toNat (numF f.2)) (zjE h (hf f (List.mem_cons_self ..))) (fun g hg => hf g (List.mem_cons_of_mem _ hg))
theorem zoA {T : List Nat} {p : Nat} (h : ∀ x ∈ T, x < 18446744073709551616) : T.getD p 0 < 18446744073709551616 := by
 by_cases hp : p < T.length
 ·rw [zbU hp]
  exact h _ (List.getElem_mem hp)
 ·simp [List.getD_eq_getElem?_getD, List.getElem?_eq_none (by omega : T.length <= p)]
theorem zkK : ∀ x ∈ zaa, x < 18446744073709551616 := fun x hx => by
 obtain ⟨_, rfl⟩ := List.mem_replicate.1 hx
 decide
end Go.Proofs.YtofkcmihcgmmpaaGreatDoor
