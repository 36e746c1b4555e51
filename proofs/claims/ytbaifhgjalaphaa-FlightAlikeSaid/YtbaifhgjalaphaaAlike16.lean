/-
  The walk of FlightAlike: it answers true, if the calls do what they are to do.
-/
import Derived.Test.YtbaifhgjalaphaaAwake16
import Derived.Test.YtbaifhgjalaphaaSame16
import Derived.Test.YtbaifhgjalaphaaAppRow
import Derived.Deep.RegionHeld3
import Derived.Deep.DeepCutAuto
namespace Go.Proofs.Ytbaifhgjalaphaa
open Go.RowKit Go.BigFrame
set_option linter.unusedVariables false

theorem infoErrA16 : (Try.prog.info? 29).map (fun i => (i.zero, i.size, i.bytes)) = some (some (.int .i64 0), 1, 8) := by kernel_rfl
set_option maxRecDepth 100000 in
set_option maxHeartbeats 1600000 in
theorem alike16_long (CC : FlCheckC) (SC : FlSendC) (AC : FlAckC) (LC : FlLoseC) (RC_ : FlRoomC) (DC : FlDoC) {s t o cut kind : Int} {A : Option Addr} {len cap : Nat} (hl : 100 < len) (hm : len ≤ 9223372036854775807) (w : World) : Calls Try.prog 7 #[.agg #[.int .i64 s, .int .i64 t, .int .i64 o], .slice A len cap, .int .u8 cut, .int .i64 kind] w fun e w' => e = .returned (.bool true) ∧ Kept w w' := by
  have CC' := Lib.hid CC
  have SC' := Lib.hid SC
  have AC' := Lib.hid AC
  have LC' := Lib.hid LC
  have RC_' := Lib.hid RC_
  have DC' := Lib.hid DC
  have AW' := Lib.hid (fun w => awake16 CC SC AC LC RC_ DC w)
  clear CC SC AC LC RC_ DC
  have hd : decide ((100 : Int) < (len : Int)) = true := by simp; omega
  go_enter Try.func7, Try.ntmps7
  go_upto_region 1 with fail
  generalize hW : World.alloc w (.cells #[.int .i64 s, .int .i64 t, .int .i64 o] 23) = W_f
  have K_f : Kept w W_f := by subst hW; exact (Kept.refl _).alloc _ _
  have H_f := Lib.hid (show W_f.cell? ⟨w.heap.size, 0, none⟩ = some (.int .i64 s) ∧ W_f.cell? ⟨w.heap.size, 1, none⟩ = some (.int .i64 t) ∧ W_f.cell? ⟨w.heap.size, 2, none⟩ = some (.int .i64 o) from by subst hW; simp [go_sem])
  clear hW
  generalize w.heap.size = g_f at *
  go_wp2_with fail
  refine (AW'.out _).mono ?_
  rintro e w20 ⟨rfl, k20⟩
  go_wp2
  go_ret
  exact ⟨rfl, (by (repeat (first | with_reducible exact Kept.refl _ | with_reducible apply Kept.drew | with_reducible apply Kept.alloc | ((with_reducible apply Kept.set); focus (simp <;> omega)) | ((with_reducible apply Kept.via); focus with_reducible assumption))))⟩
theorem rowV {w : World} {A : Option Addr} {l : List Int} {n : Nat} (hl : l.length = n) (h : RowE w A l) : RowAt w A n (fun j => (l.map (Value.int .i64)).getD j undef) := fun h0 => by
  subst hl
  obtain ⟨b, off, e, hc⟩ := h h0
  exact ⟨b, off, e, fun k hk => by rw [hc k hk]; simp [List.getD, hk]⟩
theorem same16_useA {A A2 : Option Addr} {c c2 n : Nat} {l : List Int} (hn : l.length = n) (s1 : SliceOk A n c) (s2 : SliceOk A2 n c2) (n1 : n ≤ 1099511627776) (w : World) (h1 : RowE w A l) (h2 : RowE w A2 l) : Calls Try.prog 17 #[.slice A n c, .slice A2 n c2] w fun e w' => e = .returned (.bool true) ∧ Kept w w' := by
  subst hn
  exact same16_ok s1 s2 n1 n1 (by simp) w h1 h2
set_option maxRecDepth 100000 in
set_option maxHeartbeats 6400000 in
theorem alike16_my (CC : FlCheckC) (SC : FlSendC) (AC : FlAckC) (LC : FlLoseC) (RC_ : FlRoomC) (DC : FlDoC) {s t o cut kind s1 t1 o1 s2 t2 o2 s9 t9 o9 e9 : Int} {l1 l2 l3 : List Int} {A : Option Addr} {len cap k : Nat} {E : Nat → Nat → Int} (hl : len ≤ 100) (hs : In64 s) (ht : In64 t) (ho : In64 o) (c0 : 0 ≤ cut) (c1 : cut ≤ 255) (hc : cut.tmod ((len : Int) + 1) = (k : Int)) (hk : k ≤ len) (hkc : k ≤ cap) (hS : SliceOk A len cap) (hz : ∀ i, i < len → ∀ j, j < 3 → In64 (E i j)) (hd : doF (s, t, o) (actsL E len) = (s1, t1, o1) ∧ doE (s, t, o) (actsL E len) = l1) (hd2 : doF (s, t, o) (actsL E k) = (s2, t2, o2) ∧ doE (s, t, o) (actsL E k) = l2) (i2 : FlIn (s2, t2, o2)) (hd3 : doF (s2, t2, o2) (actsL (fun i => E (k + i)) (len - k)) = (s1, t1, o1) ∧ doE (s2, t2, o2) (actsL (fun i => E (k + i)) (len - k)) = l3) (le1 : l1.length = len) (le2 : l2.length = k) (le3 : l3.length = len - k) (la : l2 ++ l3 = l1) (hck : ¬ cap = k) (ik : ∀ i, i < 1 → ∀ j, j < 3 → In64 ((fun (_ : Nat) (j : Nat) => if j = 0 then kind else 1) i j)) (hd9 : doF (s, t, o) (actsL (fun (_ : Nat) (j : Nat) => if j = 0 then kind else 1) 1) = (s9, t9, o9) ∧ doE (s, t, o) (actsL (fun (_ : Nat) (j : Nat) => if j = 0 then kind else 1) 1) = [e9]) (k0 : 0 ≤ kind) (k1 : kind ≤ 2) (w : World) (hr : RowI .i64 w A 3 len E) : Calls Try.prog 7 #[.agg #[.int .i64 s, .int .i64 t, .int .i64 o], .slice A len cap, .int .u8 cut, .int .i64 kind] w fun e w' => e = .returned (.bool true) ∧ Kept w w' := by
  have CC' := Lib.hid CC
  have SC' := Lib.hid SC
  have AC' := Lib.hid AC
  have LC' := Lib.hid LC
  have RC_' := Lib.hid RC_
  have DC' := Lib.hid DC
  have AW' := Lib.hid (fun w => awake16 CC SC AC LC RC_ DC w)
  clear CC SC AC LC RC_ DC
  have hd0 : decide ((100 : Int) < (len : Int)) = false := by simp; omega
  have HR := Lib.hid hr
  have HZ := Lib.hid hz
  have HS := Lib.hid hS
  have HD := Lib.hid hd
  have HD2 := Lib.hid hd2
  have HD3 := Lib.hid hd3
  have HD9 := Lib.hid hd9
  have IK := Lib.hid ik
  have I2 := Lib.hid i2
  have LE1 := Lib.hid le1
  have LE2 := Lib.hid le2
  have LE3 := Lib.hid le3
  have LA := Lib.hid la
  obtain ⟨i0, hi, hz0, hz1, hz2⟩ := info_parts infoErrA16
  clear hr hz hS hd hd2 hd3 hd9 ik i2 le1 le2 le3 la
  have kI : (k : Int) ≤ (len : Int) := by omega
  have k0' : (0 : Int) ≤ (k : Int) := by omega
  have x0 : decide (0 ≤ kind) = true := by simp [k0]
  have x1 : decide (kind ≤ 2) = true := by simp [k1]
  go_enter Try.func7, Try.ntmps7
  go_upto_region 1 with fail
  generalize hW : World.alloc w (.cells #[.int .i64 s, .int .i64 t, .int .i64 o] 23) = W_f
  have K_f : Kept w W_f := by subst hW; exact (Kept.refl _).alloc _ _
  have H_f := Lib.hid (show W_f.cell? ⟨w.heap.size, 0, none⟩ = some (.int .i64 s) ∧ W_f.cell? ⟨w.heap.size, 1, none⟩ = some (.int .i64 t) ∧ W_f.cell? ⟨w.heap.size, 2, none⟩ = some (.int .i64 o) from by subst hW; simp [go_sem])
  clear hW
  generalize w.heap.size = g_f at *
  go_wp2_with fail
  refine (AW'.out _).mono ?_
  rintro e w20 ⟨rfl, k20⟩
  go_upto_region 5 with fail
  obtain ⟨cf0, cf1, cf2⟩ := Kept.all3 (show Kept W_f w20 from (by (repeat (first | with_reducible exact Kept.refl _ | with_reducible apply Kept.drew | with_reducible apply Kept.alloc | ((with_reducible apply Kept.set); focus (simp <;> omega)) | ((with_reducible apply Kept.via); focus with_reducible assumption))))) H_f
  go_wp2_with fail
  refine (DC'.out s t o A len cap E s1 t1 o1 l1 hs ht ho HS.out (by omega) HZ.out HD.out.1 HD.out.2 _ (HR.out.kept (by (repeat (first | with_reducible exact Kept.refl _ | with_reducible apply Kept.drew | with_reducible apply Kept.alloc | ((with_reducible apply Kept.set); focus (simp <;> omega)) | ((with_reducible apply Kept.via); focus with_reducible assumption)))))).mono ?_
  rintro e w21 ⟨B1, c1, rfl, sk1, rl1, nw1, k21⟩
  have RL1 := Lib.hid rl1
  have SK1 := Lib.hid sk1
  clear rl1 sk1
  clear cf0 cf1 cf2
  go_upto_region 6 with fail
  generalize hW : World.alloc w21 (.cells #[.int .i64 s1, .int .i64 t1, .int .i64 o1] 23) = W_a
  have K_a : Kept w21 W_a := by subst hW; exact (Kept.refl _).alloc _ _
  have H_a := Lib.hid (show W_a.cell? ⟨w21.heap.size, 0, none⟩ = some (.int .i64 s1) ∧ W_a.cell? ⟨w21.heap.size, 1, none⟩ = some (.int .i64 t1) ∧ W_a.cell? ⟨w21.heap.size, 2, none⟩ = some (.int .i64 o1) from by subst hW; simp [go_sem])
  clear hW
  generalize w21.heap.size = g_a at *
  obtain ⟨cf0, cf1, cf2⟩ := Kept.all3 (show Kept W_f W_a from (by (repeat (first | with_reducible exact Kept.refl _ | with_reducible apply Kept.drew | with_reducible apply Kept.alloc | ((with_reducible apply Kept.set); focus (simp <;> omega)) | ((with_reducible apply Kept.via); focus with_reducible assumption))))) H_f
  go_upto_region 6 with fail
  have base2 := Lib.hid (show W_a.cell? ⟨g_f, 0, none⟩ = some (.int .i64 s) ∧ W_a.cell? ⟨g_f, 1, none⟩ = some (.int .i64 t) ∧ W_a.cell? ⟨g_f, 2, none⟩ = some (.int .i64 o) from ⟨cf0, cf1, cf2⟩)
  go_cut [13, 14] (fun sa sb wx => ∃ (g : Nat) (B : Option Addr) (c : Nat), sa = .pointer (some ⟨g, 0, none⟩) ∧ sb = .slice B k c ∧ RF wx g s2 t2 o2 ∧ SliceOk B k c ∧ RowE wx B l2 ∧ W_a.heap.size ≤ g ∧ Kept W_a wx)
  case first =>
    go_region_held3 (fun w' => w'.cell? ⟨g_f, 0, none⟩ = some (.int .i64 s) ∧ w'.cell? ⟨g_f, 1, none⟩ = some (.int .i64 t) ∧ w'.cell? ⟨g_f, 2, none⟩ = some (.int .i64 o))
      ((refine Kept.all3 ?_ base2; focus ((repeat (first | with_reducible exact Kept.refl _ | with_reducible apply Kept.drew | with_reducible apply Kept.alloc | ((with_reducible apply Kept.set); focus (simp <;> omega)) | ((with_reducible apply Kept.via); focus with_reducible assumption))); done)))
      (first | (go_at_call 10; refine (DC'.out s t o A k cap E s2 t2 o2 l2 hs ht ho ⟨hkc, HS.out.2.1, HS.out.2.2⟩ (by omega) (fun i hi => HZ.out i (by omega)) HD2.out.1 HD2.out.2 _ (((HR.out.kept (by (repeat (first | with_reducible exact Kept.refl _ | with_reducible apply Kept.drew | with_reducible apply Kept.alloc | ((with_reducible apply Kept.set); focus (simp <;> omega)) | ((with_reducible apply Kept.via); focus with_reducible assumption)))))).less hk)).mono ?_; rintro e v1 ⟨B1, c1, rfl, sk1, rl1, nw1, i1⟩; (try (first | (with_reducible have nr := Room3.newD i1) | (with_reducible have nr := Room3.new i1) | (with_reducible have nr := Room3.kept nr i1))); have y1 := Kept.below i1; (try simp at y1); (try (obtain ⟨nx, ny, nz, na1, na2, na3, nb1, nb2, nb3⟩ := nr))))
    all_goals
      go_wp2_with fail
      go_meet
      exact ⟨_, _, _, rfl, rfl, ⟨⟨by simp [*, go_sem], by simp [*, go_sem], by simp [*, go_sem]⟩, by simp [*, go_sem], by simp [*, go_sem], by simp [*, go_sem]⟩, sk1, (by first | (refine RowE.kept rl1 ?_; focus ((repeat (first | with_reducible exact Kept.refl _ | with_reducible apply Kept.drew | with_reducible apply Kept.alloc | ((with_reducible apply Kept.set); focus (simp <;> omega)) | ((with_reducible apply Kept.via); focus with_reducible assumption))); done)) | exact RowE.far (RowE.far (RowE.far rl1 _ _ (fun a z => by have := nw1 a z; simp at this; simp; omega)) _ _ (fun a z => by have := nw1 a z; simp at this; simp; omega)) _ _ (fun a z => by have := nw1 a z; simp at this; simp; omega)), (by first | omega | (simp; omega)), (by (repeat (first | with_reducible exact Kept.refl _ | with_reducible apply Kept.drew | with_reducible apply Kept.alloc | ((with_reducible apply Kept.set); focus (simp <;> omega)) | ((with_reducible apply Kept.via); focus with_reducible assumption))))⟩
  obtain ⟨g_b, B2, c2, rfl, rfl, hx2, sk2, rl2, hg2, K2⟩ := hcut
  generalize wc = W_b at *
  have H_b := Lib.hid hx2.1
  have RL2 := Lib.hid rl2
  have SK2 := Lib.hid sk2
  clear hx2 rl2 sk2 base2 hg2
  clear cf0 cf1 cf2
  obtain ⟨cb0, cb1, cb2⟩ := Kept.all3 (show Kept W_b W_b from (by (repeat (first | with_reducible exact Kept.refl _ | with_reducible apply Kept.drew | with_reducible apply Kept.alloc | ((with_reducible apply Kept.set); focus (simp <;> omega)) | ((with_reducible apply Kept.via); focus with_reducible assumption))))) H_b
  go_upto_region 7 with fail
  have base3 := Lib.hid (show W_b.cell? ⟨g_b, 0, none⟩ = some (.int .i64 s2) ∧ W_b.cell? ⟨g_b, 1, none⟩ = some (.int .i64 t2) ∧ W_b.cell? ⟨g_b, 2, none⟩ = some (.int .i64 o2) from ⟨cb0, cb1, cb2⟩)
  go_cut [15, 16] (fun sa sb wx => ∃ (g : Nat) (B : Option Addr) (c : Nat), sa = .pointer (some ⟨g, 0, none⟩) ∧ sb = .slice B (len - k) c ∧ RF wx g s1 t1 o1 ∧ SliceOk B (len - k) c ∧ RowE wx B l3 ∧ W_b.heap.size ≤ g ∧ Kept W_b wx)
  case first =>
    go_region_held3 (fun w' => w'.cell? ⟨g_b, 0, none⟩ = some (.int .i64 s2) ∧ w'.cell? ⟨g_b, 1, none⟩ = some (.int .i64 t2) ∧ w'.cell? ⟨g_b, 2, none⟩ = some (.int .i64 o2))
      ((refine Kept.all3 ?_ base3; focus ((repeat (first | with_reducible exact Kept.refl _ | with_reducible apply Kept.drew | with_reducible apply Kept.alloc | ((with_reducible apply Kept.set); focus (simp <;> omega)) | ((with_reducible apply Kept.via); focus with_reducible assumption))); done)))
      (first | (go_at_call 10; refine (DC'.out s2 t2 o2 (Option.map (fun x => x.add (k * 3)) A) (len - k) (cap - k) (fun i => E (k + i)) s1 t1 o1 l3 I2.out.1 I2.out.2.1 I2.out.2.2 (sliceOk_drop3 HS.out hk hck) (by omega) (fun i hi => HZ.out (k + i) (by omega)) HD3.out.1 HD3.out.2 _ ((HR.out.kept (by (repeat (first | with_reducible exact Kept.refl _ | with_reducible apply Kept.drew | with_reducible apply Kept.alloc | ((with_reducible apply Kept.set); focus (simp <;> omega)) | ((with_reducible apply Kept.via); focus with_reducible assumption))))).drop3 hk)).mono ?_; rintro e v1 ⟨B1, c1, rfl, sk1, rl1, nw1, i1⟩; (try (first | (with_reducible have nr := Room3.newD i1) | (with_reducible have nr := Room3.new i1) | (with_reducible have nr := Room3.kept nr i1))); have y1 := Kept.below i1; (try simp at y1); (try (obtain ⟨nx, ny, nz, na1, na2, na3, nb1, nb2, nb3⟩ := nr))))
    all_goals
      go_wp2_with fail
      go_meet
      exact ⟨_, _, _, rfl, rfl, ⟨⟨by simp [*, go_sem], by simp [*, go_sem], by simp [*, go_sem]⟩, by simp [*, go_sem], by simp [*, go_sem], by simp [*, go_sem]⟩, sk1, (by first | (refine RowE.kept rl1 ?_; focus ((repeat (first | with_reducible exact Kept.refl _ | with_reducible apply Kept.drew | with_reducible apply Kept.alloc | ((with_reducible apply Kept.set); focus (simp <;> omega)) | ((with_reducible apply Kept.via); focus with_reducible assumption))); done)) | exact RowE.far (RowE.far (RowE.far rl1 _ _ (fun a z => by have := nw1 a z; simp at this; simp; omega)) _ _ (fun a z => by have := nw1 a z; simp at this; simp; omega)) _ _ (fun a z => by have := nw1 a z; simp at this; simp; omega)), (by first | omega | (simp; omega)), (by (repeat (first | with_reducible exact Kept.refl _ | with_reducible apply Kept.drew | with_reducible apply Kept.alloc | ((with_reducible apply Kept.set); focus (simp <;> omega)) | ((with_reducible apply Kept.via); focus with_reducible assumption))))⟩
  obtain ⟨g_c, B3, c3, rfl, rfl, hx3, sk3, rl3, hg3, K3⟩ := hcut
  generalize wc = W_c at *
  have H_c := Lib.hid hx3.1
  have RL3 := Lib.hid rl3
  have SK3 := Lib.hid sk3
  clear hx3 rl3 sk3 base3 hg3
  clear cb0 cb1 cb2
  go_upto_region 8 with fail
  obtain ⟨cf0, cf1, cf2⟩ := Kept.all3 (show Kept W_f W_c from (by (repeat (first | with_reducible exact Kept.refl _ | with_reducible apply Kept.drew | with_reducible apply Kept.alloc | ((with_reducible apply Kept.set); focus (simp <;> omega)) | ((with_reducible apply Kept.via); focus with_reducible assumption))))) H_f
  go_wp2_with fail
  refine (DC'.out s t o (some ⟨_, 0, none⟩) 1 1 (fun _ j => if j = 0 then kind else 1) s9 t9 o9 [e9] hs ht ho ⟨by omega, by omega, fun h => by cases h⟩ (by omega) IK.out HD9.out.1 HD9.out.2 _ ?_).mono ?_
  · intro _
    refine ⟨_, 0, rfl, fun i hi j hj => ?_⟩
    obtain rfl : i = 0 := by omega
    rcases (show j = 0 ∨ j = 1 ∨ j = 2 by omega) with rfl | rfl | rfl <;> (first | (simp [go_sem]; done) | (simp [go_sem]; rfl))
  rintro e w22 ⟨B4, c4, rfl, sk4, rl4, nw4, k22⟩
  have RL4 := Lib.hid rl4
  have SK4 := Lib.hid sk4
  clear rl4 sk4
  clear cf0 cf1 cf2
  go_upto_region 9 with fail
  generalize hW : World.alloc w22 (.cells #[.int .i64 s9, .int .i64 t9, .int .i64 o9] 23) = W_n
  have K_n : Kept w22 W_n := by subst hW; exact (Kept.refl _).alloc _ _
  have H_n := Lib.hid (show W_n.cell? ⟨w22.heap.size, 0, none⟩ = some (.int .i64 s9) ∧ W_n.cell? ⟨w22.heap.size, 1, none⟩ = some (.int .i64 t9) ∧ W_n.cell? ⟨w22.heap.size, 2, none⟩ = some (.int .i64 o9) from by subst hW; simp [go_sem])
  clear hW
  generalize w22.heap.size = g_n at *
  obtain ⟨ca0, ca1, ca2⟩ := Kept.all3 (show Kept W_a W_n from (by (repeat (first | with_reducible exact Kept.refl _ | with_reducible apply Kept.drew | with_reducible apply Kept.alloc | ((with_reducible apply Kept.set); focus (simp <;> omega)) | ((with_reducible apply Kept.via); focus with_reducible assumption))))) H_a
  obtain ⟨cc0, cc1, cc2⟩ := Kept.all3 (show Kept W_c W_n from (by (repeat (first | with_reducible exact Kept.refl _ | with_reducible apply Kept.drew | with_reducible apply Kept.alloc | ((with_reducible apply Kept.set); focus (simp <;> omega)) | ((with_reducible apply Kept.via); focus with_reducible assumption))))) H_c
  go_upto_region 10 with fail
  have RLa := Lib.hid (show RowE W_n B1 l1 from (RL1.out.kept (by (repeat (first | with_reducible exact Kept.refl _ | with_reducible apply Kept.drew | with_reducible apply Kept.alloc | ((with_reducible apply Kept.set); focus (simp <;> omega)) | ((with_reducible apply Kept.via); focus with_reducible assumption))))))
  have RLb := Lib.hid (show RowE W_n B2 l2 from (RL2.out.kept (by (repeat (first | with_reducible exact Kept.refl _ | with_reducible apply Kept.drew | with_reducible apply Kept.alloc | ((with_reducible apply Kept.set); focus (simp <;> omega)) | ((with_reducible apply Kept.via); focus with_reducible assumption))))))
  have RLc := Lib.hid (show RowE W_n B3 l3 from (RL3.out.kept (by (repeat (first | with_reducible exact Kept.refl _ | with_reducible apply Kept.drew | with_reducible apply Kept.alloc | ((with_reducible apply Kept.set); focus (simp <;> omega)) | ((with_reducible apply Kept.via); focus with_reducible assumption))))))
  go_wp2_with (at_builtin; refine wpList_append_row (by rfl) _ _ 26 rfl W_n _ rfl 29 i0 (.int .i64 0) 8 Try.underlying26 hi hz0 hz1 hz2 rfl _ 0 [] rfl (own_empty W_n _ (Nat.le_refl _) 29) ((Kept.refl _).alloc _ _) B2 k c2 (l2.map (.int .i64)) rfl (by rw [List.length_map]; exact LE2.out) (rowV LE2.out (RLb.out.kept ((Kept.refl _).alloc _ _))) (by intro u hu; simp at hu; obtain ⟨x, _, rfl⟩ := hu; rfl) (by unfold maxLen; omega) (by omega) ?_)
  intro v1 u1 own1 q1 g1 f1 o1
  have own1' : u1.ownsRow W_n.heap.size 29 1 v1 k (l2.map (.int .i64)) := by first | exact own1 | simpa using own1
  clear own1 g1 f1 o1
  go_wp2_with (at_builtin; refine wpList_append_row (by rfl) _ _ 26 rfl W_n _ rfl 29 i0 (.int .i64 0) 8 Try.underlying26 hi hz0 hz1 hz2 rfl _ k (l2.map (.int .i64)) rfl own1' q1 B3 (len - k) c3 (l3.map (.int .i64)) rfl (by rw [List.length_map]; exact LE3.out) (rowV LE3.out (RLc.out.kept q1)) (by intro u hu; simp at hu; obtain ⟨x, _, rfl⟩ := hu; rfl) (by unfold maxLen; omega) (by omega) ?_)
  intro v2 u2 own2 q2 g2 f2 o2
  have own2' : u2.ownsRow W_n.heap.size 29 1 v2 len (l1.map (.int .i64)) := by (have ek : k + (len - k) = len := (by omega)); (have el : l2.map (Value.int .i64) ++ l3.map (.int .i64) = l1.map (.int .i64) := (by rw [← List.map_append, LA.out])); (first | (rw [ek, el] at own2; exact own2) | (rw [el] at own2; exact own2) | (simpa [ek, el] using own2))
  obtain ⟨B5, c5, rfl, sk5, row5, _⟩ := own_rowK LE1.out own2'
  have SK5 := Lib.hid sk5
  have RL5 := Lib.hid (show RowE u2 B5 l1 from row5)
  clear own2 own1' own2' g2 f2 o2 sk5 row5 q1
  go_wp2_with fail
  refine (same16_useA LE1.out SK1.out SK5.out (by omega) _ (RLa.out.kept q2) RL5.out).mono ?_
  rintro e w99 ⟨rfl, k99⟩
  go_wp2
  go_ret
  exact ⟨rfl, (by (repeat (first | with_reducible exact Kept.refl _ | with_reducible apply Kept.drew | with_reducible apply Kept.alloc | ((with_reducible apply Kept.set); focus (simp <;> omega)) | ((with_reducible apply Kept.via); focus with_reducible assumption))))⟩
set_option maxRecDepth 100000 in
set_option maxHeartbeats 6400000 in
theorem alike16_mn (CC : FlCheckC) (SC : FlSendC) (AC : FlAckC) (LC : FlLoseC) (RC_ : FlRoomC) (DC : FlDoC) {s t o cut kind s1 t1 o1 s2 t2 o2 : Int} {l1 l2 l3 : List Int} {A : Option Addr} {len cap k : Nat} {E : Nat → Nat → Int} (hl : len ≤ 100) (hs : In64 s) (ht : In64 t) (ho : In64 o) (c0 : 0 ≤ cut) (c1 : cut ≤ 255) (hc : cut.tmod ((len : Int) + 1) = (k : Int)) (hk : k ≤ len) (hkc : k ≤ cap) (hS : SliceOk A len cap) (hz : ∀ i, i < len → ∀ j, j < 3 → In64 (E i j)) (hd : doF (s, t, o) (actsL E len) = (s1, t1, o1) ∧ doE (s, t, o) (actsL E len) = l1) (hd2 : doF (s, t, o) (actsL E k) = (s2, t2, o2) ∧ doE (s, t, o) (actsL E k) = l2) (i2 : FlIn (s2, t2, o2)) (hd3 : doF (s2, t2, o2) (actsL (fun i => E (k + i)) (len - k)) = (s1, t1, o1) ∧ doE (s2, t2, o2) (actsL (fun i => E (k + i)) (len - k)) = l3) (le1 : l1.length = len) (le2 : l2.length = k) (le3 : l3.length = len - k) (la : l2 ++ l3 = l1) (hck : ¬ cap = k) (ik : ∀ i, i < 1 → ∀ j, j < 3 → In64 ((fun (_ : Nat) (j : Nat) => if j = 0 then kind else 1) i j)) (hd9 : doF (s, t, o) (actsL (fun (_ : Nat) (j : Nat) => if j = 0 then kind else 1) 1) = (s, t, o) ∧ doE (s, t, o) (actsL (fun (_ : Nat) (j : Nat) => if j = 0 then kind else 1) 1) = [201]) (k0 : kind < 0) (w : World) (hr : RowI .i64 w A 3 len E) : Calls Try.prog 7 #[.agg #[.int .i64 s, .int .i64 t, .int .i64 o], .slice A len cap, .int .u8 cut, .int .i64 kind] w fun e w' => e = .returned (.bool true) ∧ Kept w w' := by
  have CC' := Lib.hid CC
  have SC' := Lib.hid SC
  have AC' := Lib.hid AC
  have LC' := Lib.hid LC
  have RC_' := Lib.hid RC_
  have DC' := Lib.hid DC
  have AW' := Lib.hid (fun w => awake16 CC SC AC LC RC_ DC w)
  clear CC SC AC LC RC_ DC
  have hd0 : decide ((100 : Int) < (len : Int)) = false := by simp; omega
  have HR := Lib.hid hr
  have HZ := Lib.hid hz
  have HS := Lib.hid hS
  have HD := Lib.hid hd
  have HD2 := Lib.hid hd2
  have HD3 := Lib.hid hd3
  have HD9 := Lib.hid hd9
  have IK := Lib.hid ik
  have I2 := Lib.hid i2
  have LE1 := Lib.hid le1
  have LE2 := Lib.hid le2
  have LE3 := Lib.hid le3
  have LA := Lib.hid la
  obtain ⟨i0, hi, hz0, hz1, hz2⟩ := info_parts infoErrA16
  clear hr hz hS hd hd2 hd3 hd9 ik i2 le1 le2 le3 la
  have kI : (k : Int) ≤ (len : Int) := by omega
  have k0' : (0 : Int) ≤ (k : Int) := by omega
  have x0 : decide (0 ≤ kind) = false := by simp; omega
  go_enter Try.func7, Try.ntmps7
  go_upto_region 1 with fail
  generalize hW : World.alloc w (.cells #[.int .i64 s, .int .i64 t, .int .i64 o] 23) = W_f
  have K_f : Kept w W_f := by subst hW; exact (Kept.refl _).alloc _ _
  have H_f := Lib.hid (show W_f.cell? ⟨w.heap.size, 0, none⟩ = some (.int .i64 s) ∧ W_f.cell? ⟨w.heap.size, 1, none⟩ = some (.int .i64 t) ∧ W_f.cell? ⟨w.heap.size, 2, none⟩ = some (.int .i64 o) from by subst hW; simp [go_sem])
  clear hW
  generalize w.heap.size = g_f at *
  go_wp2_with fail
  refine (AW'.out _).mono ?_
  rintro e w20 ⟨rfl, k20⟩
  go_upto_region 5 with fail
  obtain ⟨cf0, cf1, cf2⟩ := Kept.all3 (show Kept W_f w20 from (by (repeat (first | with_reducible exact Kept.refl _ | with_reducible apply Kept.drew | with_reducible apply Kept.alloc | ((with_reducible apply Kept.set); focus (simp <;> omega)) | ((with_reducible apply Kept.via); focus with_reducible assumption))))) H_f
  go_wp2_with fail
  refine (DC'.out s t o A len cap E s1 t1 o1 l1 hs ht ho HS.out (by omega) HZ.out HD.out.1 HD.out.2 _ (HR.out.kept (by (repeat (first | with_reducible exact Kept.refl _ | with_reducible apply Kept.drew | with_reducible apply Kept.alloc | ((with_reducible apply Kept.set); focus (simp <;> omega)) | ((with_reducible apply Kept.via); focus with_reducible assumption)))))).mono ?_
  rintro e w21 ⟨B1, c1, rfl, sk1, rl1, nw1, k21⟩
  have RL1 := Lib.hid rl1
  have SK1 := Lib.hid sk1
  clear rl1 sk1
  clear cf0 cf1 cf2
  go_upto_region 6 with fail
  generalize hW : World.alloc w21 (.cells #[.int .i64 s1, .int .i64 t1, .int .i64 o1] 23) = W_a
  have K_a : Kept w21 W_a := by subst hW; exact (Kept.refl _).alloc _ _
  have H_a := Lib.hid (show W_a.cell? ⟨w21.heap.size, 0, none⟩ = some (.int .i64 s1) ∧ W_a.cell? ⟨w21.heap.size, 1, none⟩ = some (.int .i64 t1) ∧ W_a.cell? ⟨w21.heap.size, 2, none⟩ = some (.int .i64 o1) from by subst hW; simp [go_sem])
  clear hW
  generalize w21.heap.size = g_a at *
  obtain ⟨cf0, cf1, cf2⟩ := Kept.all3 (show Kept W_f W_a from (by (repeat (first | with_reducible exact Kept.refl _ | with_reducible apply Kept.drew | with_reducible apply Kept.alloc | ((with_reducible apply Kept.set); focus (simp <;> omega)) | ((with_reducible apply Kept.via); focus with_reducible assumption))))) H_f
  go_upto_region 6 with fail
  have base2 := Lib.hid (show W_a.cell? ⟨g_f, 0, none⟩ = some (.int .i64 s) ∧ W_a.cell? ⟨g_f, 1, none⟩ = some (.int .i64 t) ∧ W_a.cell? ⟨g_f, 2, none⟩ = some (.int .i64 o) from ⟨cf0, cf1, cf2⟩)
  go_cut [13, 14] (fun sa sb wx => ∃ (g : Nat) (B : Option Addr) (c : Nat), sa = .pointer (some ⟨g, 0, none⟩) ∧ sb = .slice B k c ∧ RF wx g s2 t2 o2 ∧ SliceOk B k c ∧ RowE wx B l2 ∧ W_a.heap.size ≤ g ∧ Kept W_a wx)
  case first =>
    go_region_held3 (fun w' => w'.cell? ⟨g_f, 0, none⟩ = some (.int .i64 s) ∧ w'.cell? ⟨g_f, 1, none⟩ = some (.int .i64 t) ∧ w'.cell? ⟨g_f, 2, none⟩ = some (.int .i64 o))
      ((refine Kept.all3 ?_ base2; focus ((repeat (first | with_reducible exact Kept.refl _ | with_reducible apply Kept.drew | with_reducible apply Kept.alloc | ((with_reducible apply Kept.set); focus (simp <;> omega)) | ((with_reducible apply Kept.via); focus with_reducible assumption))); done)))
      (first | (go_at_call 10; refine (DC'.out s t o A k cap E s2 t2 o2 l2 hs ht ho ⟨hkc, HS.out.2.1, HS.out.2.2⟩ (by omega) (fun i hi => HZ.out i (by omega)) HD2.out.1 HD2.out.2 _ (((HR.out.kept (by (repeat (first | with_reducible exact Kept.refl _ | with_reducible apply Kept.drew | with_reducible apply Kept.alloc | ((with_reducible apply Kept.set); focus (simp <;> omega)) | ((with_reducible apply Kept.via); focus with_reducible assumption)))))).less hk)).mono ?_; rintro e v1 ⟨B1, c1, rfl, sk1, rl1, nw1, i1⟩; (try (first | (with_reducible have nr := Room3.newD i1) | (with_reducible have nr := Room3.new i1) | (with_reducible have nr := Room3.kept nr i1))); have y1 := Kept.below i1; (try simp at y1); (try (obtain ⟨nx, ny, nz, na1, na2, na3, nb1, nb2, nb3⟩ := nr))))
    all_goals
      go_wp2_with fail
      go_meet
      exact ⟨_, _, _, rfl, rfl, ⟨⟨by simp [*, go_sem], by simp [*, go_sem], by simp [*, go_sem]⟩, by simp [*, go_sem], by simp [*, go_sem], by simp [*, go_sem]⟩, sk1, (by first | (refine RowE.kept rl1 ?_; focus ((repeat (first | with_reducible exact Kept.refl _ | with_reducible apply Kept.drew | with_reducible apply Kept.alloc | ((with_reducible apply Kept.set); focus (simp <;> omega)) | ((with_reducible apply Kept.via); focus with_reducible assumption))); done)) | exact RowE.far (RowE.far (RowE.far rl1 _ _ (fun a z => by have := nw1 a z; simp at this; simp; omega)) _ _ (fun a z => by have := nw1 a z; simp at this; simp; omega)) _ _ (fun a z => by have := nw1 a z; simp at this; simp; omega)), (by first | omega | (simp; omega)), (by (repeat (first | with_reducible exact Kept.refl _ | with_reducible apply Kept.drew | with_reducible apply Kept.alloc | ((with_reducible apply Kept.set); focus (simp <;> omega)) | ((with_reducible apply Kept.via); focus with_reducible assumption))))⟩
  obtain ⟨g_b, B2, c2, rfl, rfl, hx2, sk2, rl2, hg2, K2⟩ := hcut
  generalize wc = W_b at *
  have H_b := Lib.hid hx2.1
  have RL2 := Lib.hid rl2
  have SK2 := Lib.hid sk2
  clear hx2 rl2 sk2 base2 hg2
  clear cf0 cf1 cf2
  obtain ⟨cb0, cb1, cb2⟩ := Kept.all3 (show Kept W_b W_b from (by (repeat (first | with_reducible exact Kept.refl _ | with_reducible apply Kept.drew | with_reducible apply Kept.alloc | ((with_reducible apply Kept.set); focus (simp <;> omega)) | ((with_reducible apply Kept.via); focus with_reducible assumption))))) H_b
  go_upto_region 7 with fail
  have base3 := Lib.hid (show W_b.cell? ⟨g_b, 0, none⟩ = some (.int .i64 s2) ∧ W_b.cell? ⟨g_b, 1, none⟩ = some (.int .i64 t2) ∧ W_b.cell? ⟨g_b, 2, none⟩ = some (.int .i64 o2) from ⟨cb0, cb1, cb2⟩)
  go_cut [15, 16] (fun sa sb wx => ∃ (g : Nat) (B : Option Addr) (c : Nat), sa = .pointer (some ⟨g, 0, none⟩) ∧ sb = .slice B (len - k) c ∧ RF wx g s1 t1 o1 ∧ SliceOk B (len - k) c ∧ RowE wx B l3 ∧ W_b.heap.size ≤ g ∧ Kept W_b wx)
  case first =>
    go_region_held3 (fun w' => w'.cell? ⟨g_b, 0, none⟩ = some (.int .i64 s2) ∧ w'.cell? ⟨g_b, 1, none⟩ = some (.int .i64 t2) ∧ w'.cell? ⟨g_b, 2, none⟩ = some (.int .i64 o2))
      ((refine Kept.all3 ?_ base3; focus ((repeat (first | with_reducible exact Kept.refl _ | with_reducible apply Kept.drew | with_reducible apply Kept.alloc | ((with_reducible apply Kept.set); focus (simp <;> omega)) | ((with_reducible apply Kept.via); focus with_reducible assumption))); done)))
      (first | (go_at_call 10; refine (DC'.out s2 t2 o2 (Option.map (fun x => x.add (k * 3)) A) (len - k) (cap - k) (fun i => E (k + i)) s1 t1 o1 l3 I2.out.1 I2.out.2.1 I2.out.2.2 (sliceOk_drop3 HS.out hk hck) (by omega) (fun i hi => HZ.out (k + i) (by omega)) HD3.out.1 HD3.out.2 _ ((HR.out.kept (by (repeat (first | with_reducible exact Kept.refl _ | with_reducible apply Kept.drew | with_reducible apply Kept.alloc | ((with_reducible apply Kept.set); focus (simp <;> omega)) | ((with_reducible apply Kept.via); focus with_reducible assumption))))).drop3 hk)).mono ?_; rintro e v1 ⟨B1, c1, rfl, sk1, rl1, nw1, i1⟩; (try (first | (with_reducible have nr := Room3.newD i1) | (with_reducible have nr := Room3.new i1) | (with_reducible have nr := Room3.kept nr i1))); have y1 := Kept.below i1; (try simp at y1); (try (obtain ⟨nx, ny, nz, na1, na2, na3, nb1, nb2, nb3⟩ := nr))))
    all_goals
      go_wp2_with fail
      go_meet
      exact ⟨_, _, _, rfl, rfl, ⟨⟨by simp [*, go_sem], by simp [*, go_sem], by simp [*, go_sem]⟩, by simp [*, go_sem], by simp [*, go_sem], by simp [*, go_sem]⟩, sk1, (by first | (refine RowE.kept rl1 ?_; focus ((repeat (first | with_reducible exact Kept.refl _ | with_reducible apply Kept.drew | with_reducible apply Kept.alloc | ((with_reducible apply Kept.set); focus (simp <;> omega)) | ((with_reducible apply Kept.via); focus with_reducible assumption))); done)) | exact RowE.far (RowE.far (RowE.far rl1 _ _ (fun a z => by have := nw1 a z; simp at this; simp; omega)) _ _ (fun a z => by have := nw1 a z; simp at this; simp; omega)) _ _ (fun a z => by have := nw1 a z; simp at this; simp; omega)), (by first | omega | (simp; omega)), (by (repeat (first | with_reducible exact Kept.refl _ | with_reducible apply Kept.drew | with_reducible apply Kept.alloc | ((with_reducible apply Kept.set); focus (simp <;> omega)) | ((with_reducible apply Kept.via); focus with_reducible assumption))))⟩
  obtain ⟨g_c, B3, c3, rfl, rfl, hx3, sk3, rl3, hg3, K3⟩ := hcut
  generalize wc = W_c at *
  have H_c := Lib.hid hx3.1
  have RL3 := Lib.hid rl3
  have SK3 := Lib.hid sk3
  clear hx3 rl3 sk3 base3 hg3
  clear cb0 cb1 cb2
  go_upto_region 8 with fail
  obtain ⟨cf0, cf1, cf2⟩ := Kept.all3 (show Kept W_f W_c from (by (repeat (first | with_reducible exact Kept.refl _ | with_reducible apply Kept.drew | with_reducible apply Kept.alloc | ((with_reducible apply Kept.set); focus (simp <;> omega)) | ((with_reducible apply Kept.via); focus with_reducible assumption))))) H_f
  go_wp2_with fail
  refine (DC'.out s t o (some ⟨_, 0, none⟩) 1 1 (fun _ j => if j = 0 then kind else 1) s t o [201] hs ht ho ⟨by omega, by omega, fun h => by cases h⟩ (by omega) IK.out HD9.out.1 HD9.out.2 _ ?_).mono ?_
  · intro _
    refine ⟨_, 0, rfl, fun i hi j hj => ?_⟩
    obtain rfl : i = 0 := by omega
    rcases (show j = 0 ∨ j = 1 ∨ j = 2 by omega) with rfl | rfl | rfl <;> (first | (simp [go_sem]; done) | (simp [go_sem]; rfl))
  rintro e w22 ⟨B4, c4, rfl, sk4, rl4, nw4, k22⟩
  have RL4 := Lib.hid rl4
  have SK4 := Lib.hid sk4
  clear rl4 sk4
  clear cf0 cf1 cf2
  go_upto_region 9 with fail
  generalize hW : World.alloc w22 (.cells #[.int .i64 s, .int .i64 t, .int .i64 o] 23) = W_n
  have K_n : Kept w22 W_n := by subst hW; exact (Kept.refl _).alloc _ _
  have H_n := Lib.hid (show W_n.cell? ⟨w22.heap.size, 0, none⟩ = some (.int .i64 s) ∧ W_n.cell? ⟨w22.heap.size, 1, none⟩ = some (.int .i64 t) ∧ W_n.cell? ⟨w22.heap.size, 2, none⟩ = some (.int .i64 o) from by subst hW; simp [go_sem])
  clear hW
  generalize w22.heap.size = g_n at *
  obtain ⟨cn0, cn1, cn2⟩ := Kept.all3 (show Kept W_n W_n from (by (repeat (first | with_reducible exact Kept.refl _ | with_reducible apply Kept.drew | with_reducible apply Kept.alloc | ((with_reducible apply Kept.set); focus (simp <;> omega)) | ((with_reducible apply Kept.via); focus with_reducible assumption))))) H_n
  obtain ⟨cf0, cf1, cf2⟩ := Kept.all3 (show Kept W_f W_n from (by (repeat (first | with_reducible exact Kept.refl _ | with_reducible apply Kept.drew | with_reducible apply Kept.alloc | ((with_reducible apply Kept.set); focus (simp <;> omega)) | ((with_reducible apply Kept.via); focus with_reducible assumption))))) H_f
  go_wp2_with fail
  refine (same16_ok (A := B4) (c := c4) (l := [201]) (A2 := some ⟨_, 0, none⟩) (c2 := 1) (m := [201]) (b := true) SK4.out ⟨by simp, by omega, fun h => by cases h⟩ (by simp) (by simp) (by simp) _ (RL4.out.kept (by (repeat (first | with_reducible exact Kept.refl _ | with_reducible apply Kept.drew | with_reducible apply Kept.alloc | ((with_reducible apply Kept.set); focus (simp <;> omega)) | ((with_reducible apply Kept.via); focus with_reducible assumption))))) ?_).mono ?_
  · intro _
    refine ⟨_, 0, rfl, fun k hk => ?_⟩
    obtain rfl : k = 0 := by have : k < 1 := hk; omega
    first | (simp [go_sem]; done) | (simp [go_sem]; rfl)
  rintro e w23 ⟨rfl, k23⟩
  clear cn0 cn1 cn2
  clear cf0 cf1 cf2
  obtain ⟨ca0, ca1, ca2⟩ := Kept.all3 (show Kept W_a w23 from (by (repeat (first | with_reducible exact Kept.refl _ | with_reducible apply Kept.drew | with_reducible apply Kept.alloc | ((with_reducible apply Kept.set); focus (simp <;> omega)) | ((with_reducible apply Kept.via); focus with_reducible assumption))))) H_a
  obtain ⟨cc0, cc1, cc2⟩ := Kept.all3 (show Kept W_c w23 from (by (repeat (first | with_reducible exact Kept.refl _ | with_reducible apply Kept.drew | with_reducible apply Kept.alloc | ((with_reducible apply Kept.set); focus (simp <;> omega)) | ((with_reducible apply Kept.via); focus with_reducible assumption))))) H_c
  go_upto_region 10 with fail
  have RLa := Lib.hid (show RowE w23 B1 l1 from (RL1.out.kept (by (repeat (first | with_reducible exact Kept.refl _ | with_reducible apply Kept.drew | with_reducible apply Kept.alloc | ((with_reducible apply Kept.set); focus (simp <;> omega)) | ((with_reducible apply Kept.via); focus with_reducible assumption))))))
  have RLb := Lib.hid (show RowE w23 B2 l2 from (RL2.out.kept (by (repeat (first | with_reducible exact Kept.refl _ | with_reducible apply Kept.drew | with_reducible apply Kept.alloc | ((with_reducible apply Kept.set); focus (simp <;> omega)) | ((with_reducible apply Kept.via); focus with_reducible assumption))))))
  have RLc := Lib.hid (show RowE w23 B3 l3 from (RL3.out.kept (by (repeat (first | with_reducible exact Kept.refl _ | with_reducible apply Kept.drew | with_reducible apply Kept.alloc | ((with_reducible apply Kept.set); focus (simp <;> omega)) | ((with_reducible apply Kept.via); focus with_reducible assumption))))))
  go_wp2_with (at_builtin; refine wpList_append_row (by rfl) _ _ 26 rfl w23 _ rfl 29 i0 (.int .i64 0) 8 Try.underlying26 hi hz0 hz1 hz2 rfl _ 0 [] rfl (own_empty w23 _ (Nat.le_refl _) 29) ((Kept.refl _).alloc _ _) B2 k c2 (l2.map (.int .i64)) rfl (by rw [List.length_map]; exact LE2.out) (rowV LE2.out (RLb.out.kept ((Kept.refl _).alloc _ _))) (by intro u hu; simp at hu; obtain ⟨x, _, rfl⟩ := hu; rfl) (by unfold maxLen; omega) (by omega) ?_)
  intro v1 u1 own1 q1 g1 f1 o1
  have own1' : u1.ownsRow w23.heap.size 29 1 v1 k (l2.map (.int .i64)) := by first | exact own1 | simpa using own1
  clear own1 g1 f1 o1
  go_wp2_with (at_builtin; refine wpList_append_row (by rfl) _ _ 26 rfl w23 _ rfl 29 i0 (.int .i64 0) 8 Try.underlying26 hi hz0 hz1 hz2 rfl _ k (l2.map (.int .i64)) rfl own1' q1 B3 (len - k) c3 (l3.map (.int .i64)) rfl (by rw [List.length_map]; exact LE3.out) (rowV LE3.out (RLc.out.kept q1)) (by intro u hu; simp at hu; obtain ⟨x, _, rfl⟩ := hu; rfl) (by unfold maxLen; omega) (by omega) ?_)
  intro v2 u2 own2 q2 g2 f2 o2
  have own2' : u2.ownsRow w23.heap.size 29 1 v2 len (l1.map (.int .i64)) := by (have ek : k + (len - k) = len := (by omega)); (have el : l2.map (Value.int .i64) ++ l3.map (.int .i64) = l1.map (.int .i64) := (by rw [← List.map_append, LA.out])); (first | (rw [ek, el] at own2; exact own2) | (rw [el] at own2; exact own2) | (simpa [ek, el] using own2))
  obtain ⟨B5, c5, rfl, sk5, row5, _⟩ := own_rowK LE1.out own2'
  have SK5 := Lib.hid sk5
  have RL5 := Lib.hid (show RowE u2 B5 l1 from row5)
  clear own2 own1' own2' g2 f2 o2 sk5 row5 q1
  go_wp2_with fail
  refine (same16_useA LE1.out SK1.out SK5.out (by omega) _ (RLa.out.kept q2) RL5.out).mono ?_
  rintro e w99 ⟨rfl, k99⟩
  go_wp2
  go_ret
  exact ⟨rfl, (by (repeat (first | with_reducible exact Kept.refl _ | with_reducible apply Kept.drew | with_reducible apply Kept.alloc | ((with_reducible apply Kept.set); focus (simp <;> omega)) | ((with_reducible apply Kept.via); focus with_reducible assumption))))⟩
set_option maxRecDepth 100000 in
set_option maxHeartbeats 6400000 in
theorem alike16_mp (CC : FlCheckC) (SC : FlSendC) (AC : FlAckC) (LC : FlLoseC) (RC_ : FlRoomC) (DC : FlDoC) {s t o cut kind s1 t1 o1 s2 t2 o2 : Int} {l1 l2 l3 : List Int} {A : Option Addr} {len cap k : Nat} {E : Nat → Nat → Int} (hl : len ≤ 100) (hs : In64 s) (ht : In64 t) (ho : In64 o) (c0 : 0 ≤ cut) (c1 : cut ≤ 255) (hc : cut.tmod ((len : Int) + 1) = (k : Int)) (hk : k ≤ len) (hkc : k ≤ cap) (hS : SliceOk A len cap) (hz : ∀ i, i < len → ∀ j, j < 3 → In64 (E i j)) (hd : doF (s, t, o) (actsL E len) = (s1, t1, o1) ∧ doE (s, t, o) (actsL E len) = l1) (hd2 : doF (s, t, o) (actsL E k) = (s2, t2, o2) ∧ doE (s, t, o) (actsL E k) = l2) (i2 : FlIn (s2, t2, o2)) (hd3 : doF (s2, t2, o2) (actsL (fun i => E (k + i)) (len - k)) = (s1, t1, o1) ∧ doE (s2, t2, o2) (actsL (fun i => E (k + i)) (len - k)) = l3) (le1 : l1.length = len) (le2 : l2.length = k) (le3 : l3.length = len - k) (la : l2 ++ l3 = l1) (hck : ¬ cap = k) (ik : ∀ i, i < 1 → ∀ j, j < 3 → In64 ((fun (_ : Nat) (j : Nat) => if j = 0 then kind else 1) i j)) (hd9 : doF (s, t, o) (actsL (fun (_ : Nat) (j : Nat) => if j = 0 then kind else 1) 1) = (s, t, o) ∧ doE (s, t, o) (actsL (fun (_ : Nat) (j : Nat) => if j = 0 then kind else 1) 1) = [201]) (k0 : 0 ≤ kind) (k1 : 2 < kind) (w : World) (hr : RowI .i64 w A 3 len E) : Calls Try.prog 7 #[.agg #[.int .i64 s, .int .i64 t, .int .i64 o], .slice A len cap, .int .u8 cut, .int .i64 kind] w fun e w' => e = .returned (.bool true) ∧ Kept w w' := by
  have CC' := Lib.hid CC
  have SC' := Lib.hid SC
  have AC' := Lib.hid AC
  have LC' := Lib.hid LC
  have RC_' := Lib.hid RC_
  have DC' := Lib.hid DC
  have AW' := Lib.hid (fun w => awake16 CC SC AC LC RC_ DC w)
  clear CC SC AC LC RC_ DC
  have hd0 : decide ((100 : Int) < (len : Int)) = false := by simp; omega
  have HR := Lib.hid hr
  have HZ := Lib.hid hz
  have HS := Lib.hid hS
  have HD := Lib.hid hd
  have HD2 := Lib.hid hd2
  have HD3 := Lib.hid hd3
  have HD9 := Lib.hid hd9
  have IK := Lib.hid ik
  have I2 := Lib.hid i2
  have LE1 := Lib.hid le1
  have LE2 := Lib.hid le2
  have LE3 := Lib.hid le3
  have LA := Lib.hid la
  obtain ⟨i0, hi, hz0, hz1, hz2⟩ := info_parts infoErrA16
  clear hr hz hS hd hd2 hd3 hd9 ik i2 le1 le2 le3 la
  have kI : (k : Int) ≤ (len : Int) := by omega
  have k0' : (0 : Int) ≤ (k : Int) := by omega
  have x0 : decide (0 ≤ kind) = true := by simp [k0]
  have x1 : decide (kind ≤ 2) = false := by simp; omega
  go_enter Try.func7, Try.ntmps7
  go_upto_region 1 with fail
  generalize hW : World.alloc w (.cells #[.int .i64 s, .int .i64 t, .int .i64 o] 23) = W_f
  have K_f : Kept w W_f := by subst hW; exact (Kept.refl _).alloc _ _
  have H_f := Lib.hid (show W_f.cell? ⟨w.heap.size, 0, none⟩ = some (.int .i64 s) ∧ W_f.cell? ⟨w.heap.size, 1, none⟩ = some (.int .i64 t) ∧ W_f.cell? ⟨w.heap.size, 2, none⟩ = some (.int .i64 o) from by subst hW; simp [go_sem])
  clear hW
  generalize w.heap.size = g_f at *
  go_wp2_with fail
  refine (AW'.out _).mono ?_
  rintro e w20 ⟨rfl, k20⟩
  go_upto_region 5 with fail
  obtain ⟨cf0, cf1, cf2⟩ := Kept.all3 (show Kept W_f w20 from (by (repeat (first | with_reducible exact Kept.refl _ | with_reducible apply Kept.drew | with_reducible apply Kept.alloc | ((with_reducible apply Kept.set); focus (simp <;> omega)) | ((with_reducible apply Kept.via); focus with_reducible assumption))))) H_f
  go_wp2_with fail
  refine (DC'.out s t o A len cap E s1 t1 o1 l1 hs ht ho HS.out (by omega) HZ.out HD.out.1 HD.out.2 _ (HR.out.kept (by (repeat (first | with_reducible exact Kept.refl _ | with_reducible apply Kept.drew | with_reducible apply Kept.alloc | ((with_reducible apply Kept.set); focus (simp <;> omega)) | ((with_reducible apply Kept.via); focus with_reducible assumption)))))).mono ?_
  rintro e w21 ⟨B1, c1, rfl, sk1, rl1, nw1, k21⟩
  have RL1 := Lib.hid rl1
  have SK1 := Lib.hid sk1
  clear rl1 sk1
  clear cf0 cf1 cf2
  go_upto_region 6 with fail
  generalize hW : World.alloc w21 (.cells #[.int .i64 s1, .int .i64 t1, .int .i64 o1] 23) = W_a
  have K_a : Kept w21 W_a := by subst hW; exact (Kept.refl _).alloc _ _
  have H_a := Lib.hid (show W_a.cell? ⟨w21.heap.size, 0, none⟩ = some (.int .i64 s1) ∧ W_a.cell? ⟨w21.heap.size, 1, none⟩ = some (.int .i64 t1) ∧ W_a.cell? ⟨w21.heap.size, 2, none⟩ = some (.int .i64 o1) from by subst hW; simp [go_sem])
  clear hW
  generalize w21.heap.size = g_a at *
  obtain ⟨cf0, cf1, cf2⟩ := Kept.all3 (show Kept W_f W_a from (by (repeat (first | with_reducible exact Kept.refl _ | with_reducible apply Kept.drew | with_reducible apply Kept.alloc | ((with_reducible apply Kept.set); focus (simp <;> omega)) | ((with_reducible apply Kept.via); focus with_reducible assumption))))) H_f
  go_upto_region 6 with fail
  have base2 := Lib.hid (show W_a.cell? ⟨g_f, 0, none⟩ = some (.int .i64 s) ∧ W_a.cell? ⟨g_f, 1, none⟩ = some (.int .i64 t) ∧ W_a.cell? ⟨g_f, 2, none⟩ = some (.int .i64 o) from ⟨cf0, cf1, cf2⟩)
  go_cut [13, 14] (fun sa sb wx => ∃ (g : Nat) (B : Option Addr) (c : Nat), sa = .pointer (some ⟨g, 0, none⟩) ∧ sb = .slice B k c ∧ RF wx g s2 t2 o2 ∧ SliceOk B k c ∧ RowE wx B l2 ∧ W_a.heap.size ≤ g ∧ Kept W_a wx)
  case first =>
    go_region_held3 (fun w' => w'.cell? ⟨g_f, 0, none⟩ = some (.int .i64 s) ∧ w'.cell? ⟨g_f, 1, none⟩ = some (.int .i64 t) ∧ w'.cell? ⟨g_f, 2, none⟩ = some (.int .i64 o))
      ((refine Kept.all3 ?_ base2; focus ((repeat (first | with_reducible exact Kept.refl _ | with_reducible apply Kept.drew | with_reducible apply Kept.alloc | ((with_reducible apply Kept.set); focus (simp <;> omega)) | ((with_reducible apply Kept.via); focus with_reducible assumption))); done)))
      (first | (go_at_call 10; refine (DC'.out s t o A k cap E s2 t2 o2 l2 hs ht ho ⟨hkc, HS.out.2.1, HS.out.2.2⟩ (by omega) (fun i hi => HZ.out i (by omega)) HD2.out.1 HD2.out.2 _ (((HR.out.kept (by (repeat (first | with_reducible exact Kept.refl _ | with_reducible apply Kept.drew | with_reducible apply Kept.alloc | ((with_reducible apply Kept.set); focus (simp <;> omega)) | ((with_reducible apply Kept.via); focus with_reducible assumption)))))).less hk)).mono ?_; rintro e v1 ⟨B1, c1, rfl, sk1, rl1, nw1, i1⟩; (try (first | (with_reducible have nr := Room3.newD i1) | (with_reducible have nr := Room3.new i1) | (with_reducible have nr := Room3.kept nr i1))); have y1 := Kept.below i1; (try simp at y1); (try (obtain ⟨nx, ny, nz, na1, na2, na3, nb1, nb2, nb3⟩ := nr))))
    all_goals
      go_wp2_with fail
      go_meet
      exact ⟨_, _, _, rfl, rfl, ⟨⟨by simp [*, go_sem], by simp [*, go_sem], by simp [*, go_sem]⟩, by simp [*, go_sem], by simp [*, go_sem], by simp [*, go_sem]⟩, sk1, (by first | (refine RowE.kept rl1 ?_; focus ((repeat (first | with_reducible exact Kept.refl _ | with_reducible apply Kept.drew | with_reducible apply Kept.alloc | ((with_reducible apply Kept.set); focus (simp <;> omega)) | ((with_reducible apply Kept.via); focus with_reducible assumption))); done)) | exact RowE.far (RowE.far (RowE.far rl1 _ _ (fun a z => by have := nw1 a z; simp at this; simp; omega)) _ _ (fun a z => by have := nw1 a z; simp at this; simp; omega)) _ _ (fun a z => by have := nw1 a z; simp at this; simp; omega)), (by first | omega | (simp; omega)), (by (repeat (first | with_reducible exact Kept.refl _ | with_reducible apply Kept.drew | with_reducible apply Kept.alloc | ((with_reducible apply Kept.set); focus (simp <;> omega)) | ((with_reducible apply Kept.via); focus with_reducible assumption))))⟩
  obtain ⟨g_b, B2, c2, rfl, rfl, hx2, sk2, rl2, hg2, K2⟩ := hcut
  generalize wc = W_b at *
  have H_b := Lib.hid hx2.1
  have RL2 := Lib.hid rl2
  have SK2 := Lib.hid sk2
  clear hx2 rl2 sk2 base2 hg2
  clear cf0 cf1 cf2
  obtain ⟨cb0, cb1, cb2⟩ := Kept.all3 (show Kept W_b W_b from (by (repeat (first | with_reducible exact Kept.refl _ | with_reducible apply Kept.drew | with_reducible apply Kept.alloc | ((with_reducible apply Kept.set); focus (simp <;> omega)) | ((with_reducible apply Kept.via); focus with_reducible assumption))))) H_b
  go_upto_region 7 with fail
  have base3 := Lib.hid (show W_b.cell? ⟨g_b, 0, none⟩ = some (.int .i64 s2) ∧ W_b.cell? ⟨g_b, 1, none⟩ = some (.int .i64 t2) ∧ W_b.cell? ⟨g_b, 2, none⟩ = some (.int .i64 o2) from ⟨cb0, cb1, cb2⟩)
  go_cut [15, 16] (fun sa sb wx => ∃ (g : Nat) (B : Option Addr) (c : Nat), sa = .pointer (some ⟨g, 0, none⟩) ∧ sb = .slice B (len - k) c ∧ RF wx g s1 t1 o1 ∧ SliceOk B (len - k) c ∧ RowE wx B l3 ∧ W_b.heap.size ≤ g ∧ Kept W_b wx)
  case first =>
    go_region_held3 (fun w' => w'.cell? ⟨g_b, 0, none⟩ = some (.int .i64 s2) ∧ w'.cell? ⟨g_b, 1, none⟩ = some (.int .i64 t2) ∧ w'.cell? ⟨g_b, 2, none⟩ = some (.int .i64 o2))
      ((refine Kept.all3 ?_ base3; focus ((repeat (first | with_reducible exact Kept.refl _ | with_reducible apply Kept.drew | with_reducible apply Kept.alloc | ((with_reducible apply Kept.set); focus (simp <;> omega)) | ((with_reducible apply Kept.via); focus with_reducible assumption))); done)))
      (first | (go_at_call 10; refine (DC'.out s2 t2 o2 (Option.map (fun x => x.add (k * 3)) A) (len - k) (cap - k) (fun i => E (k + i)) s1 t1 o1 l3 I2.out.1 I2.out.2.1 I2.out.2.2 (sliceOk_drop3 HS.out hk hck) (by omega) (fun i hi => HZ.out (k + i) (by omega)) HD3.out.1 HD3.out.2 _ ((HR.out.kept (by (repeat (first | with_reducible exact Kept.refl _ | with_reducible apply Kept.drew | with_reducible apply Kept.alloc | ((with_reducible apply Kept.set); focus (simp <;> omega)) | ((with_reducible apply Kept.via); focus with_reducible assumption))))).drop3 hk)).mono ?_; rintro e v1 ⟨B1, c1, rfl, sk1, rl1, nw1, i1⟩; (try (first | (with_reducible have nr := Room3.newD i1) | (with_reducible have nr := Room3.new i1) | (with_reducible have nr := Room3.kept nr i1))); have y1 := Kept.below i1; (try simp at y1); (try (obtain ⟨nx, ny, nz, na1, na2, na3, nb1, nb2, nb3⟩ := nr))))
    all_goals
      go_wp2_with fail
      go_meet
      exact ⟨_, _, _, rfl, rfl, ⟨⟨by simp [*, go_sem], by simp [*, go_sem], by simp [*, go_sem]⟩, by simp [*, go_sem], by simp [*, go_sem], by simp [*, go_sem]⟩, sk1, (by first | (refine RowE.kept rl1 ?_; focus ((repeat (first | with_reducible exact Kept.refl _ | with_reducible apply Kept.drew | with_reducible apply Kept.alloc | ((with_reducible apply Kept.set); focus (simp <;> omega)) | ((with_reducible apply Kept.via); focus with_reducible assumption))); done)) | exact RowE.far (RowE.far (RowE.far rl1 _ _ (fun a z => by have := nw1 a z; simp at this; simp; omega)) _ _ (fun a z => by have := nw1 a z; simp at this; simp; omega)) _ _ (fun a z => by have := nw1 a z; simp at this; simp; omega)), (by first | omega | (simp; omega)), (by (repeat (first | with_reducible exact Kept.refl _ | with_reducible apply Kept.drew | with_reducible apply Kept.alloc | ((with_reducible apply Kept.set); focus (simp <;> omega)) | ((with_reducible apply Kept.via); focus with_reducible assumption))))⟩
  obtain ⟨g_c, B3, c3, rfl, rfl, hx3, sk3, rl3, hg3, K3⟩ := hcut
  generalize wc = W_c at *
  have H_c := Lib.hid hx3.1
  have RL3 := Lib.hid rl3
  have SK3 := Lib.hid sk3
  clear hx3 rl3 sk3 base3 hg3
  clear cb0 cb1 cb2
  go_upto_region 8 with fail
  obtain ⟨cf0, cf1, cf2⟩ := Kept.all3 (show Kept W_f W_c from (by (repeat (first | with_reducible exact Kept.refl _ | with_reducible apply Kept.drew | with_reducible apply Kept.alloc | ((with_reducible apply Kept.set); focus (simp <;> omega)) | ((with_reducible apply Kept.via); focus with_reducible assumption))))) H_f
  go_wp2_with fail
  refine (DC'.out s t o (some ⟨_, 0, none⟩) 1 1 (fun _ j => if j = 0 then kind else 1) s t o [201] hs ht ho ⟨by omega, by omega, fun h => by cases h⟩ (by omega) IK.out HD9.out.1 HD9.out.2 _ ?_).mono ?_
  · intro _
    refine ⟨_, 0, rfl, fun i hi j hj => ?_⟩
    obtain rfl : i = 0 := by omega
    rcases (show j = 0 ∨ j = 1 ∨ j = 2 by omega) with rfl | rfl | rfl <;> (first | (simp [go_sem]; done) | (simp [go_sem]; rfl))
  rintro e w22 ⟨B4, c4, rfl, sk4, rl4, nw4, k22⟩
  have RL4 := Lib.hid rl4
  have SK4 := Lib.hid sk4
  clear rl4 sk4
  clear cf0 cf1 cf2
  go_upto_region 9 with fail
  generalize hW : World.alloc w22 (.cells #[.int .i64 s, .int .i64 t, .int .i64 o] 23) = W_n
  have K_n : Kept w22 W_n := by subst hW; exact (Kept.refl _).alloc _ _
  have H_n := Lib.hid (show W_n.cell? ⟨w22.heap.size, 0, none⟩ = some (.int .i64 s) ∧ W_n.cell? ⟨w22.heap.size, 1, none⟩ = some (.int .i64 t) ∧ W_n.cell? ⟨w22.heap.size, 2, none⟩ = some (.int .i64 o) from by subst hW; simp [go_sem])
  clear hW
  generalize w22.heap.size = g_n at *
  obtain ⟨cn0, cn1, cn2⟩ := Kept.all3 (show Kept W_n W_n from (by (repeat (first | with_reducible exact Kept.refl _ | with_reducible apply Kept.drew | with_reducible apply Kept.alloc | ((with_reducible apply Kept.set); focus (simp <;> omega)) | ((with_reducible apply Kept.via); focus with_reducible assumption))))) H_n
  obtain ⟨cf0, cf1, cf2⟩ := Kept.all3 (show Kept W_f W_n from (by (repeat (first | with_reducible exact Kept.refl _ | with_reducible apply Kept.drew | with_reducible apply Kept.alloc | ((with_reducible apply Kept.set); focus (simp <;> omega)) | ((with_reducible apply Kept.via); focus with_reducible assumption))))) H_f
  go_wp2_with fail
  refine (same16_ok (A := B4) (c := c4) (l := [201]) (A2 := some ⟨_, 0, none⟩) (c2 := 1) (m := [201]) (b := true) SK4.out ⟨by simp, by omega, fun h => by cases h⟩ (by simp) (by simp) (by simp) _ (RL4.out.kept (by (repeat (first | with_reducible exact Kept.refl _ | with_reducible apply Kept.drew | with_reducible apply Kept.alloc | ((with_reducible apply Kept.set); focus (simp <;> omega)) | ((with_reducible apply Kept.via); focus with_reducible assumption))))) ?_).mono ?_
  · intro _
    refine ⟨_, 0, rfl, fun k hk => ?_⟩
    obtain rfl : k = 0 := by have : k < 1 := hk; omega
    first | (simp [go_sem]; done) | (simp [go_sem]; rfl)
  rintro e w23 ⟨rfl, k23⟩
  clear cn0 cn1 cn2
  clear cf0 cf1 cf2
  obtain ⟨ca0, ca1, ca2⟩ := Kept.all3 (show Kept W_a w23 from (by (repeat (first | with_reducible exact Kept.refl _ | with_reducible apply Kept.drew | with_reducible apply Kept.alloc | ((with_reducible apply Kept.set); focus (simp <;> omega)) | ((with_reducible apply Kept.via); focus with_reducible assumption))))) H_a
  obtain ⟨cc0, cc1, cc2⟩ := Kept.all3 (show Kept W_c w23 from (by (repeat (first | with_reducible exact Kept.refl _ | with_reducible apply Kept.drew | with_reducible apply Kept.alloc | ((with_reducible apply Kept.set); focus (simp <;> omega)) | ((with_reducible apply Kept.via); focus with_reducible assumption))))) H_c
  go_upto_region 10 with fail
  have RLa := Lib.hid (show RowE w23 B1 l1 from (RL1.out.kept (by (repeat (first | with_reducible exact Kept.refl _ | with_reducible apply Kept.drew | with_reducible apply Kept.alloc | ((with_reducible apply Kept.set); focus (simp <;> omega)) | ((with_reducible apply Kept.via); focus with_reducible assumption))))))
  have RLb := Lib.hid (show RowE w23 B2 l2 from (RL2.out.kept (by (repeat (first | with_reducible exact Kept.refl _ | with_reducible apply Kept.drew | with_reducible apply Kept.alloc | ((with_reducible apply Kept.set); focus (simp <;> omega)) | ((with_reducible apply Kept.via); focus with_reducible assumption))))))
  have RLc := Lib.hid (show RowE w23 B3 l3 from (RL3.out.kept (by (repeat (first | with_reducible exact Kept.refl _ | with_reducible apply Kept.drew | with_reducible apply Kept.alloc | ((with_reducible apply Kept.set); focus (simp <;> omega)) | ((with_reducible apply Kept.via); focus with_reducible assumption))))))
  go_wp2_with (at_builtin; refine wpList_append_row (by rfl) _ _ 26 rfl w23 _ rfl 29 i0 (.int .i64 0) 8 Try.underlying26 hi hz0 hz1 hz2 rfl _ 0 [] rfl (own_empty w23 _ (Nat.le_refl _) 29) ((Kept.refl _).alloc _ _) B2 k c2 (l2.map (.int .i64)) rfl (by rw [List.length_map]; exact LE2.out) (rowV LE2.out (RLb.out.kept ((Kept.refl _).alloc _ _))) (by intro u hu; simp at hu; obtain ⟨x, _, rfl⟩ := hu; rfl) (by unfold maxLen; omega) (by omega) ?_)
  intro v1 u1 own1 q1 g1 f1 o1
  have own1' : u1.ownsRow w23.heap.size 29 1 v1 k (l2.map (.int .i64)) := by first | exact own1 | simpa using own1
  clear own1 g1 f1 o1
  go_wp2_with (at_builtin; refine wpList_append_row (by rfl) _ _ 26 rfl w23 _ rfl 29 i0 (.int .i64 0) 8 Try.underlying26 hi hz0 hz1 hz2 rfl _ k (l2.map (.int .i64)) rfl own1' q1 B3 (len - k) c3 (l3.map (.int .i64)) rfl (by rw [List.length_map]; exact LE3.out) (rowV LE3.out (RLc.out.kept q1)) (by intro u hu; simp at hu; obtain ⟨x, _, rfl⟩ := hu; rfl) (by unfold maxLen; omega) (by omega) ?_)
  intro v2 u2 own2 q2 g2 f2 o2
  have own2' : u2.ownsRow w23.heap.size 29 1 v2 len (l1.map (.int .i64)) := by (have ek : k + (len - k) = len := (by omega)); (have el : l2.map (Value.int .i64) ++ l3.map (.int .i64) = l1.map (.int .i64) := (by rw [← List.map_append, LA.out])); (first | (rw [ek, el] at own2; exact own2) | (rw [el] at own2; exact own2) | (simpa [ek, el] using own2))
  obtain ⟨B5, c5, rfl, sk5, row5, _⟩ := own_rowK LE1.out own2'
  have SK5 := Lib.hid sk5
  have RL5 := Lib.hid (show RowE u2 B5 l1 from row5)
  clear own2 own1' own2' g2 f2 o2 sk5 row5 q1
  go_wp2_with fail
  refine (same16_useA LE1.out SK1.out SK5.out (by omega) _ (RLa.out.kept q2) RL5.out).mono ?_
  rintro e w99 ⟨rfl, k99⟩
  go_wp2
  go_ret
  exact ⟨rfl, (by (repeat (first | with_reducible exact Kept.refl _ | with_reducible apply Kept.drew | with_reducible apply Kept.alloc | ((with_reducible apply Kept.set); focus (simp <;> omega)) | ((with_reducible apply Kept.via); focus with_reducible assumption))))⟩
set_option maxRecDepth 100000 in
set_option maxHeartbeats 6400000 in
theorem alike16_zy (CC : FlCheckC) (SC : FlSendC) (AC : FlAckC) (LC : FlLoseC) (RC_ : FlRoomC) (DC : FlDoC) {s t o cut kind s1 t1 o1 s2 t2 o2 s9 t9 o9 e9 : Int} {l1 l2 l3 : List Int} {A : Option Addr} {k : Nat} {E : Nat → Nat → Int} (hl : k ≤ 100) (hs : In64 s) (ht : In64 t) (ho : In64 o) (c0 : 0 ≤ cut) (c1 : cut ≤ 255) (hc : cut.tmod ((k : Int) + 1) = (k : Int)) (hS : SliceOk A k k) (hz : ∀ i, i < k → ∀ j, j < 3 → In64 (E i j)) (hd : doF (s, t, o) (actsL E k) = (s1, t1, o1) ∧ doE (s, t, o) (actsL E k) = l1) (hd2 : doF (s, t, o) (actsL E k) = (s2, t2, o2) ∧ doE (s, t, o) (actsL E k) = l2) (i2 : FlIn (s2, t2, o2)) (hd3 : doF (s2, t2, o2) (actsL (fun i => E (k + i)) (0)) = (s1, t1, o1) ∧ doE (s2, t2, o2) (actsL (fun i => E (k + i)) (0)) = l3) (le1 : l1.length = k) (le2 : l2.length = k) (le3 : l3.length = 0) (la : l2 ++ l3 = l1) (ik : ∀ i, i < 1 → ∀ j, j < 3 → In64 ((fun (_ : Nat) (j : Nat) => if j = 0 then kind else 1) i j)) (hd9 : doF (s, t, o) (actsL (fun (_ : Nat) (j : Nat) => if j = 0 then kind else 1) 1) = (s9, t9, o9) ∧ doE (s, t, o) (actsL (fun (_ : Nat) (j : Nat) => if j = 0 then kind else 1) 1) = [e9]) (k0 : 0 ≤ kind) (k1 : kind ≤ 2) (w : World) (hr : RowI .i64 w A 3 k E) : Calls Try.prog 7 #[.agg #[.int .i64 s, .int .i64 t, .int .i64 o], .slice A k k, .int .u8 cut, .int .i64 kind] w fun e w' => e = .returned (.bool true) ∧ Kept w w' := by
  have CC' := Lib.hid CC
  have SC' := Lib.hid SC
  have AC' := Lib.hid AC
  have LC' := Lib.hid LC
  have RC_' := Lib.hid RC_
  have DC' := Lib.hid DC
  have AW' := Lib.hid (fun w => awake16 CC SC AC LC RC_ DC w)
  clear CC SC AC LC RC_ DC
  have hd0 : decide ((100 : Int) < (k : Int)) = false := by simp; omega
  have HR := Lib.hid hr
  have HZ := Lib.hid hz
  have HS := Lib.hid hS
  have HD := Lib.hid hd
  have HD2 := Lib.hid hd2
  have HD3 := Lib.hid hd3
  have HD9 := Lib.hid hd9
  have IK := Lib.hid ik
  have I2 := Lib.hid i2
  have LE1 := Lib.hid le1
  have LE2 := Lib.hid le2
  have LE3 := Lib.hid le3
  have LA := Lib.hid la
  obtain ⟨i0, hi, hz0, hz1, hz2⟩ := info_parts infoErrA16
  clear hr hz hS hd hd2 hd3 hd9 ik i2 le1 le2 le3 la
  have hk : k ≤ k := Nat.le_refl _
  have hkc : k ≤ k := Nat.le_refl _
  have kI : (k : Int) ≤ (k : Int) := by omega
  have k0' : (0 : Int) ≤ (k : Int) := by omega
  have x0 : decide (0 ≤ kind) = true := by simp [k0]
  have x1 : decide (kind ≤ 2) = true := by simp [k1]
  go_enter Try.func7, Try.ntmps7
  go_upto_region 1 with fail
  generalize hW : World.alloc w (.cells #[.int .i64 s, .int .i64 t, .int .i64 o] 23) = W_f
  have K_f : Kept w W_f := by subst hW; exact (Kept.refl _).alloc _ _
  have H_f := Lib.hid (show W_f.cell? ⟨w.heap.size, 0, none⟩ = some (.int .i64 s) ∧ W_f.cell? ⟨w.heap.size, 1, none⟩ = some (.int .i64 t) ∧ W_f.cell? ⟨w.heap.size, 2, none⟩ = some (.int .i64 o) from by subst hW; simp [go_sem])
  clear hW
  generalize w.heap.size = g_f at *
  go_wp2_with fail
  refine (AW'.out _).mono ?_
  rintro e w20 ⟨rfl, k20⟩
  go_upto_region 5 with fail
  obtain ⟨cf0, cf1, cf2⟩ := Kept.all3 (show Kept W_f w20 from (by (repeat (first | with_reducible exact Kept.refl _ | with_reducible apply Kept.drew | with_reducible apply Kept.alloc | ((with_reducible apply Kept.set); focus (simp <;> omega)) | ((with_reducible apply Kept.via); focus with_reducible assumption))))) H_f
  go_wp2_with fail
  refine (DC'.out s t o A k k E s1 t1 o1 l1 hs ht ho HS.out (by omega) HZ.out HD.out.1 HD.out.2 _ (HR.out.kept (by (repeat (first | with_reducible exact Kept.refl _ | with_reducible apply Kept.drew | with_reducible apply Kept.alloc | ((with_reducible apply Kept.set); focus (simp <;> omega)) | ((with_reducible apply Kept.via); focus with_reducible assumption)))))).mono ?_
  rintro e w21 ⟨B1, c1, rfl, sk1, rl1, nw1, k21⟩
  have RL1 := Lib.hid rl1
  have SK1 := Lib.hid sk1
  clear rl1 sk1
  clear cf0 cf1 cf2
  go_upto_region 6 with fail
  generalize hW : World.alloc w21 (.cells #[.int .i64 s1, .int .i64 t1, .int .i64 o1] 23) = W_a
  have K_a : Kept w21 W_a := by subst hW; exact (Kept.refl _).alloc _ _
  have H_a := Lib.hid (show W_a.cell? ⟨w21.heap.size, 0, none⟩ = some (.int .i64 s1) ∧ W_a.cell? ⟨w21.heap.size, 1, none⟩ = some (.int .i64 t1) ∧ W_a.cell? ⟨w21.heap.size, 2, none⟩ = some (.int .i64 o1) from by subst hW; simp [go_sem])
  clear hW
  generalize w21.heap.size = g_a at *
  obtain ⟨cf0, cf1, cf2⟩ := Kept.all3 (show Kept W_f W_a from (by (repeat (first | with_reducible exact Kept.refl _ | with_reducible apply Kept.drew | with_reducible apply Kept.alloc | ((with_reducible apply Kept.set); focus (simp <;> omega)) | ((with_reducible apply Kept.via); focus with_reducible assumption))))) H_f
  go_upto_region 6 with fail
  have base2 := Lib.hid (show W_a.cell? ⟨g_f, 0, none⟩ = some (.int .i64 s) ∧ W_a.cell? ⟨g_f, 1, none⟩ = some (.int .i64 t) ∧ W_a.cell? ⟨g_f, 2, none⟩ = some (.int .i64 o) from ⟨cf0, cf1, cf2⟩)
  go_cut [13, 14] (fun sa sb wx => ∃ (g : Nat) (B : Option Addr) (c : Nat), sa = .pointer (some ⟨g, 0, none⟩) ∧ sb = .slice B k c ∧ RF wx g s2 t2 o2 ∧ SliceOk B k c ∧ RowE wx B l2 ∧ W_a.heap.size ≤ g ∧ Kept W_a wx)
  case first =>
    go_region_held3 (fun w' => w'.cell? ⟨g_f, 0, none⟩ = some (.int .i64 s) ∧ w'.cell? ⟨g_f, 1, none⟩ = some (.int .i64 t) ∧ w'.cell? ⟨g_f, 2, none⟩ = some (.int .i64 o))
      ((refine Kept.all3 ?_ base2; focus ((repeat (first | with_reducible exact Kept.refl _ | with_reducible apply Kept.drew | with_reducible apply Kept.alloc | ((with_reducible apply Kept.set); focus (simp <;> omega)) | ((with_reducible apply Kept.via); focus with_reducible assumption))); done)))
      (first | (go_at_call 10; refine (DC'.out s t o A k k E s2 t2 o2 l2 hs ht ho ⟨hkc, HS.out.2.1, HS.out.2.2⟩ (by omega) (fun i hi => HZ.out i (by omega)) HD2.out.1 HD2.out.2 _ (((HR.out.kept (by (repeat (first | with_reducible exact Kept.refl _ | with_reducible apply Kept.drew | with_reducible apply Kept.alloc | ((with_reducible apply Kept.set); focus (simp <;> omega)) | ((with_reducible apply Kept.via); focus with_reducible assumption)))))).less hk)).mono ?_; rintro e v1 ⟨B1, c1, rfl, sk1, rl1, nw1, i1⟩; (try (first | (with_reducible have nr := Room3.newD i1) | (with_reducible have nr := Room3.new i1) | (with_reducible have nr := Room3.kept nr i1))); have y1 := Kept.below i1; (try simp at y1); (try (obtain ⟨nx, ny, nz, na1, na2, na3, nb1, nb2, nb3⟩ := nr))))
    all_goals
      go_wp2_with fail
      go_meet
      exact ⟨_, _, _, rfl, rfl, ⟨⟨by simp [*, go_sem], by simp [*, go_sem], by simp [*, go_sem]⟩, by simp [*, go_sem], by simp [*, go_sem], by simp [*, go_sem]⟩, sk1, (by first | (refine RowE.kept rl1 ?_; focus ((repeat (first | with_reducible exact Kept.refl _ | with_reducible apply Kept.drew | with_reducible apply Kept.alloc | ((with_reducible apply Kept.set); focus (simp <;> omega)) | ((with_reducible apply Kept.via); focus with_reducible assumption))); done)) | exact RowE.far (RowE.far (RowE.far rl1 _ _ (fun a z => by have := nw1 a z; simp at this; simp; omega)) _ _ (fun a z => by have := nw1 a z; simp at this; simp; omega)) _ _ (fun a z => by have := nw1 a z; simp at this; simp; omega)), (by first | omega | (simp; omega)), (by (repeat (first | with_reducible exact Kept.refl _ | with_reducible apply Kept.drew | with_reducible apply Kept.alloc | ((with_reducible apply Kept.set); focus (simp <;> omega)) | ((with_reducible apply Kept.via); focus with_reducible assumption))))⟩
  obtain ⟨g_b, B2, c2, rfl, rfl, hx2, sk2, rl2, hg2, K2⟩ := hcut
  generalize wc = W_b at *
  have H_b := Lib.hid hx2.1
  have RL2 := Lib.hid rl2
  have SK2 := Lib.hid sk2
  clear hx2 rl2 sk2 base2 hg2
  clear cf0 cf1 cf2
  obtain ⟨cb0, cb1, cb2⟩ := Kept.all3 (show Kept W_b W_b from (by (repeat (first | with_reducible exact Kept.refl _ | with_reducible apply Kept.drew | with_reducible apply Kept.alloc | ((with_reducible apply Kept.set); focus (simp <;> omega)) | ((with_reducible apply Kept.via); focus with_reducible assumption))))) H_b
  go_upto_region 7 with fail
  have base3 := Lib.hid (show W_b.cell? ⟨g_b, 0, none⟩ = some (.int .i64 s2) ∧ W_b.cell? ⟨g_b, 1, none⟩ = some (.int .i64 t2) ∧ W_b.cell? ⟨g_b, 2, none⟩ = some (.int .i64 o2) from ⟨cb0, cb1, cb2⟩)
  go_cut [15, 16] (fun sa sb wx => ∃ (g : Nat) (B : Option Addr) (c : Nat), sa = .pointer (some ⟨g, 0, none⟩) ∧ sb = .slice B 0 c ∧ RF wx g s1 t1 o1 ∧ SliceOk B 0 c ∧ RowE wx B l3 ∧ W_b.heap.size ≤ g ∧ Kept W_b wx)
  case first =>
    go_region_held3 (fun w' => w'.cell? ⟨g_b, 0, none⟩ = some (.int .i64 s2) ∧ w'.cell? ⟨g_b, 1, none⟩ = some (.int .i64 t2) ∧ w'.cell? ⟨g_b, 2, none⟩ = some (.int .i64 o2))
      ((refine Kept.all3 ?_ base3; focus ((repeat (first | with_reducible exact Kept.refl _ | with_reducible apply Kept.drew | with_reducible apply Kept.alloc | ((with_reducible apply Kept.set); focus (simp <;> omega)) | ((with_reducible apply Kept.via); focus with_reducible assumption))); done)))
      (first | (go_at_call 10; refine (DC'.out s2 t2 o2 A 0 0 (fun i => E (k + i)) s1 t1 o1 l3 I2.out.1 I2.out.2.1 I2.out.2.2 ⟨Nat.le_refl _, by omega, fun _ => rfl⟩ (by omega) (fun i hi => HZ.out (k + i) (by omega)) HD3.out.1 HD3.out.2 _ (fun h0 => absurd h0 (by omega))).mono ?_; rintro e v1 ⟨B1, c1, rfl, sk1, rl1, nw1, i1⟩; (try (first | (with_reducible have nr := Room3.newD i1) | (with_reducible have nr := Room3.new i1) | (with_reducible have nr := Room3.kept nr i1))); have y1 := Kept.below i1; (try simp at y1); (try (obtain ⟨nx, ny, nz, na1, na2, na3, nb1, nb2, nb3⟩ := nr))))
    all_goals
      go_wp2_with fail
      go_meet
      exact ⟨_, _, _, rfl, rfl, ⟨⟨by simp [*, go_sem], by simp [*, go_sem], by simp [*, go_sem]⟩, by simp [*, go_sem], by simp [*, go_sem], by simp [*, go_sem]⟩, sk1, (by first | (refine RowE.kept rl1 ?_; focus ((repeat (first | with_reducible exact Kept.refl _ | with_reducible apply Kept.drew | with_reducible apply Kept.alloc | ((with_reducible apply Kept.set); focus (simp <;> omega)) | ((with_reducible apply Kept.via); focus with_reducible assumption))); done)) | exact RowE.far (RowE.far (RowE.far rl1 _ _ (fun a z => by have := nw1 a z; simp at this; simp; omega)) _ _ (fun a z => by have := nw1 a z; simp at this; simp; omega)) _ _ (fun a z => by have := nw1 a z; simp at this; simp; omega)), (by first | omega | (simp; omega)), (by (repeat (first | with_reducible exact Kept.refl _ | with_reducible apply Kept.drew | with_reducible apply Kept.alloc | ((with_reducible apply Kept.set); focus (simp <;> omega)) | ((with_reducible apply Kept.via); focus with_reducible assumption))))⟩
  obtain ⟨g_c, B3, c3, rfl, rfl, hx3, sk3, rl3, hg3, K3⟩ := hcut
  generalize wc = W_c at *
  have H_c := Lib.hid hx3.1
  have RL3 := Lib.hid rl3
  have SK3 := Lib.hid sk3
  clear hx3 rl3 sk3 base3 hg3
  clear cb0 cb1 cb2
  go_upto_region 8 with fail
  obtain ⟨cf0, cf1, cf2⟩ := Kept.all3 (show Kept W_f W_c from (by (repeat (first | with_reducible exact Kept.refl _ | with_reducible apply Kept.drew | with_reducible apply Kept.alloc | ((with_reducible apply Kept.set); focus (simp <;> omega)) | ((with_reducible apply Kept.via); focus with_reducible assumption))))) H_f
  go_wp2_with fail
  refine (DC'.out s t o (some ⟨_, 0, none⟩) 1 1 (fun _ j => if j = 0 then kind else 1) s9 t9 o9 [e9] hs ht ho ⟨by omega, by omega, fun h => by cases h⟩ (by omega) IK.out HD9.out.1 HD9.out.2 _ ?_).mono ?_
  · intro _
    refine ⟨_, 0, rfl, fun i hi j hj => ?_⟩
    obtain rfl : i = 0 := by omega
    rcases (show j = 0 ∨ j = 1 ∨ j = 2 by omega) with rfl | rfl | rfl <;> (first | (simp [go_sem]; done) | (simp [go_sem]; rfl))
  rintro e w22 ⟨B4, c4, rfl, sk4, rl4, nw4, k22⟩
  have RL4 := Lib.hid rl4
  have SK4 := Lib.hid sk4
  clear rl4 sk4
  clear cf0 cf1 cf2
  go_upto_region 9 with fail
  generalize hW : World.alloc w22 (.cells #[.int .i64 s9, .int .i64 t9, .int .i64 o9] 23) = W_n
  have K_n : Kept w22 W_n := by subst hW; exact (Kept.refl _).alloc _ _
  have H_n := Lib.hid (show W_n.cell? ⟨w22.heap.size, 0, none⟩ = some (.int .i64 s9) ∧ W_n.cell? ⟨w22.heap.size, 1, none⟩ = some (.int .i64 t9) ∧ W_n.cell? ⟨w22.heap.size, 2, none⟩ = some (.int .i64 o9) from by subst hW; simp [go_sem])
  clear hW
  generalize w22.heap.size = g_n at *
  obtain ⟨ca0, ca1, ca2⟩ := Kept.all3 (show Kept W_a W_n from (by (repeat (first | with_reducible exact Kept.refl _ | with_reducible apply Kept.drew | with_reducible apply Kept.alloc | ((with_reducible apply Kept.set); focus (simp <;> omega)) | ((with_reducible apply Kept.via); focus with_reducible assumption))))) H_a
  obtain ⟨cc0, cc1, cc2⟩ := Kept.all3 (show Kept W_c W_n from (by (repeat (first | with_reducible exact Kept.refl _ | with_reducible apply Kept.drew | with_reducible apply Kept.alloc | ((with_reducible apply Kept.set); focus (simp <;> omega)) | ((with_reducible apply Kept.via); focus with_reducible assumption))))) H_c
  go_upto_region 10 with fail
  have RLa := Lib.hid (show RowE W_n B1 l1 from (RL1.out.kept (by (repeat (first | with_reducible exact Kept.refl _ | with_reducible apply Kept.drew | with_reducible apply Kept.alloc | ((with_reducible apply Kept.set); focus (simp <;> omega)) | ((with_reducible apply Kept.via); focus with_reducible assumption))))))
  have RLb := Lib.hid (show RowE W_n B2 l2 from (RL2.out.kept (by (repeat (first | with_reducible exact Kept.refl _ | with_reducible apply Kept.drew | with_reducible apply Kept.alloc | ((with_reducible apply Kept.set); focus (simp <;> omega)) | ((with_reducible apply Kept.via); focus with_reducible assumption))))))
  have RLc := Lib.hid (show RowE W_n B3 l3 from (RL3.out.kept (by (repeat (first | with_reducible exact Kept.refl _ | with_reducible apply Kept.drew | with_reducible apply Kept.alloc | ((with_reducible apply Kept.set); focus (simp <;> omega)) | ((with_reducible apply Kept.via); focus with_reducible assumption))))))
  go_wp2_with (at_builtin; refine wpList_append_row (by rfl) _ _ 26 rfl W_n _ rfl 29 i0 (.int .i64 0) 8 Try.underlying26 hi hz0 hz1 hz2 rfl _ 0 [] rfl (own_empty W_n _ (Nat.le_refl _) 29) ((Kept.refl _).alloc _ _) B2 k c2 (l2.map (.int .i64)) rfl (by rw [List.length_map]; exact LE2.out) (rowV LE2.out (RLb.out.kept ((Kept.refl _).alloc _ _))) (by intro u hu; simp at hu; obtain ⟨x, _, rfl⟩ := hu; rfl) (by unfold maxLen; omega) (by omega) ?_)
  intro v1 u1 own1 q1 g1 f1 o1
  have own1' : u1.ownsRow W_n.heap.size 29 1 v1 k (l2.map (.int .i64)) := by first | exact own1 | simpa using own1
  clear own1 g1 f1 o1
  go_wp2_with (at_builtin; refine wpList_append_row (by rfl) _ _ 26 rfl W_n _ rfl 29 i0 (.int .i64 0) 8 Try.underlying26 hi hz0 hz1 hz2 rfl _ k (l2.map (.int .i64)) rfl own1' q1 B3 0 c3 (l3.map (.int .i64)) rfl (by rw [List.length_map]; exact LE3.out) (rowV LE3.out (RLc.out.kept q1)) (by intro u hu; simp at hu; obtain ⟨x, _, rfl⟩ := hu; rfl) (by unfold maxLen; omega) (by omega) ?_)
  intro v2 u2 own2 q2 g2 f2 o2
  have own2' : u2.ownsRow W_n.heap.size 29 1 v2 k (l1.map (.int .i64)) := by (have ek : k + 0 = k := (by omega)); (have el : l2.map (Value.int .i64) ++ l3.map (.int .i64) = l1.map (.int .i64) := (by rw [← List.map_append, LA.out])); (first | (rw [ek, el] at own2; exact own2) | (rw [el] at own2; exact own2) | (simpa [ek, el] using own2))
  obtain ⟨B5, c5, rfl, sk5, row5, _⟩ := own_rowK LE1.out own2'
  have SK5 := Lib.hid sk5
  have RL5 := Lib.hid (show RowE u2 B5 l1 from row5)
  clear own2 own1' own2' g2 f2 o2 sk5 row5 q1
  go_wp2_with fail
  refine (same16_useA LE1.out SK1.out SK5.out (by omega) _ (RLa.out.kept q2) RL5.out).mono ?_
  rintro e w99 ⟨rfl, k99⟩
  go_wp2
  go_ret
  exact ⟨rfl, (by (repeat (first | with_reducible exact Kept.refl _ | with_reducible apply Kept.drew | with_reducible apply Kept.alloc | ((with_reducible apply Kept.set); focus (simp <;> omega)) | ((with_reducible apply Kept.via); focus with_reducible assumption))))⟩
set_option maxRecDepth 100000 in
set_option maxHeartbeats 6400000 in
theorem alike16_zn (CC : FlCheckC) (SC : FlSendC) (AC : FlAckC) (LC : FlLoseC) (RC_ : FlRoomC) (DC : FlDoC) {s t o cut kind s1 t1 o1 s2 t2 o2 : Int} {l1 l2 l3 : List Int} {A : Option Addr} {k : Nat} {E : Nat → Nat → Int} (hl : k ≤ 100) (hs : In64 s) (ht : In64 t) (ho : In64 o) (c0 : 0 ≤ cut) (c1 : cut ≤ 255) (hc : cut.tmod ((k : Int) + 1) = (k : Int)) (hS : SliceOk A k k) (hz : ∀ i, i < k → ∀ j, j < 3 → In64 (E i j)) (hd : doF (s, t, o) (actsL E k) = (s1, t1, o1) ∧ doE (s, t, o) (actsL E k) = l1) (hd2 : doF (s, t, o) (actsL E k) = (s2, t2, o2) ∧ doE (s, t, o) (actsL E k) = l2) (i2 : FlIn (s2, t2, o2)) (hd3 : doF (s2, t2, o2) (actsL (fun i => E (k + i)) (0)) = (s1, t1, o1) ∧ doE (s2, t2, o2) (actsL (fun i => E (k + i)) (0)) = l3) (le1 : l1.length = k) (le2 : l2.length = k) (le3 : l3.length = 0) (la : l2 ++ l3 = l1) (ik : ∀ i, i < 1 → ∀ j, j < 3 → In64 ((fun (_ : Nat) (j : Nat) => if j = 0 then kind else 1) i j)) (hd9 : doF (s, t, o) (actsL (fun (_ : Nat) (j : Nat) => if j = 0 then kind else 1) 1) = (s, t, o) ∧ doE (s, t, o) (actsL (fun (_ : Nat) (j : Nat) => if j = 0 then kind else 1) 1) = [201]) (k0 : kind < 0) (w : World) (hr : RowI .i64 w A 3 k E) : Calls Try.prog 7 #[.agg #[.int .i64 s, .int .i64 t, .int .i64 o], .slice A k k, .int .u8 cut, .int .i64 kind] w fun e w' => e = .returned (.bool true) ∧ Kept w w' := by
  have CC' := Lib.hid CC
  have SC' := Lib.hid SC
  have AC' := Lib.hid AC
  have LC' := Lib.hid LC
  have RC_' := Lib.hid RC_
  have DC' := Lib.hid DC
  have AW' := Lib.hid (fun w => awake16 CC SC AC LC RC_ DC w)
  clear CC SC AC LC RC_ DC
  have hd0 : decide ((100 : Int) < (k : Int)) = false := by simp; omega
  have HR := Lib.hid hr
  have HZ := Lib.hid hz
  have HS := Lib.hid hS
  have HD := Lib.hid hd
  have HD2 := Lib.hid hd2
  have HD3 := Lib.hid hd3
  have HD9 := Lib.hid hd9
  have IK := Lib.hid ik
  have I2 := Lib.hid i2
  have LE1 := Lib.hid le1
  have LE2 := Lib.hid le2
  have LE3 := Lib.hid le3
  have LA := Lib.hid la
  obtain ⟨i0, hi, hz0, hz1, hz2⟩ := info_parts infoErrA16
  clear hr hz hS hd hd2 hd3 hd9 ik i2 le1 le2 le3 la
  have hk : k ≤ k := Nat.le_refl _
  have hkc : k ≤ k := Nat.le_refl _
  have kI : (k : Int) ≤ (k : Int) := by omega
  have k0' : (0 : Int) ≤ (k : Int) := by omega
  have x0 : decide (0 ≤ kind) = false := by simp; omega
  go_enter Try.func7, Try.ntmps7
  go_upto_region 1 with fail
  generalize hW : World.alloc w (.cells #[.int .i64 s, .int .i64 t, .int .i64 o] 23) = W_f
  have K_f : Kept w W_f := by subst hW; exact (Kept.refl _).alloc _ _
  have H_f := Lib.hid (show W_f.cell? ⟨w.heap.size, 0, none⟩ = some (.int .i64 s) ∧ W_f.cell? ⟨w.heap.size, 1, none⟩ = some (.int .i64 t) ∧ W_f.cell? ⟨w.heap.size, 2, none⟩ = some (.int .i64 o) from by subst hW; simp [go_sem])
  clear hW
  generalize w.heap.size = g_f at *
  go_wp2_with fail
  refine (AW'.out _).mono ?_
  rintro e w20 ⟨rfl, k20⟩
  go_upto_region 5 with fail
  obtain ⟨cf0, cf1, cf2⟩ := Kept.all3 (show Kept W_f w20 from (by (repeat (first | with_reducible exact Kept.refl _ | with_reducible apply Kept.drew | with_reducible apply Kept.alloc | ((with_reducible apply Kept.set); focus (simp <;> omega)) | ((with_reducible apply Kept.via); focus with_reducible assumption))))) H_f
  go_wp2_with fail
  refine (DC'.out s t o A k k E s1 t1 o1 l1 hs ht ho HS.out (by omega) HZ.out HD.out.1 HD.out.2 _ (HR.out.kept (by (repeat (first | with_reducible exact Kept.refl _ | with_reducible apply Kept.drew | with_reducible apply Kept.alloc | ((with_reducible apply Kept.set); focus (simp <;> omega)) | ((with_reducible apply Kept.via); focus with_reducible assumption)))))).mono ?_
  rintro e w21 ⟨B1, c1, rfl, sk1, rl1, nw1, k21⟩
  have RL1 := Lib.hid rl1
  have SK1 := Lib.hid sk1
  clear rl1 sk1
  clear cf0 cf1 cf2
  go_upto_region 6 with fail
  generalize hW : World.alloc w21 (.cells #[.int .i64 s1, .int .i64 t1, .int .i64 o1] 23) = W_a
  have K_a : Kept w21 W_a := by subst hW; exact (Kept.refl _).alloc _ _
  have H_a := Lib.hid (show W_a.cell? ⟨w21.heap.size, 0, none⟩ = some (.int .i64 s1) ∧ W_a.cell? ⟨w21.heap.size, 1, none⟩ = some (.int .i64 t1) ∧ W_a.cell? ⟨w21.heap.size, 2, none⟩ = some (.int .i64 o1) from by subst hW; simp [go_sem])
  clear hW
  generalize w21.heap.size = g_a at *
  obtain ⟨cf0, cf1, cf2⟩ := Kept.all3 (show Kept W_f W_a from (by (repeat (first | with_reducible exact Kept.refl _ | with_reducible apply Kept.drew | with_reducible apply Kept.alloc | ((with_reducible apply Kept.set); focus (simp <;> omega)) | ((with_reducible apply Kept.via); focus with_reducible assumption))))) H_f
  go_upto_region 6 with fail
  have base2 := Lib.hid (show W_a.cell? ⟨g_f, 0, none⟩ = some (.int .i64 s) ∧ W_a.cell? ⟨g_f, 1, none⟩ = some (.int .i64 t) ∧ W_a.cell? ⟨g_f, 2, none⟩ = some (.int .i64 o) from ⟨cf0, cf1, cf2⟩)
  go_cut [13, 14] (fun sa sb wx => ∃ (g : Nat) (B : Option Addr) (c : Nat), sa = .pointer (some ⟨g, 0, none⟩) ∧ sb = .slice B k c ∧ RF wx g s2 t2 o2 ∧ SliceOk B k c ∧ RowE wx B l2 ∧ W_a.heap.size ≤ g ∧ Kept W_a wx)
  case first =>
    go_region_held3 (fun w' => w'.cell? ⟨g_f, 0, none⟩ = some (.int .i64 s) ∧ w'.cell? ⟨g_f, 1, none⟩ = some (.int .i64 t) ∧ w'.cell? ⟨g_f, 2, none⟩ = some (.int .i64 o))
      ((refine Kept.all3 ?_ base2; focus ((repeat (first | with_reducible exact Kept.refl _ | with_reducible apply Kept.drew | with_reducible apply Kept.alloc | ((with_reducible apply Kept.set); focus (simp <;> omega)) | ((with_reducible apply Kept.via); focus with_reducible assumption))); done)))
      (first | (go_at_call 10; refine (DC'.out s t o A k k E s2 t2 o2 l2 hs ht ho ⟨hkc, HS.out.2.1, HS.out.2.2⟩ (by omega) (fun i hi => HZ.out i (by omega)) HD2.out.1 HD2.out.2 _ (((HR.out.kept (by (repeat (first | with_reducible exact Kept.refl _ | with_reducible apply Kept.drew | with_reducible apply Kept.alloc | ((with_reducible apply Kept.set); focus (simp <;> omega)) | ((with_reducible apply Kept.via); focus with_reducible assumption)))))).less hk)).mono ?_; rintro e v1 ⟨B1, c1, rfl, sk1, rl1, nw1, i1⟩; (try (first | (with_reducible have nr := Room3.newD i1) | (with_reducible have nr := Room3.new i1) | (with_reducible have nr := Room3.kept nr i1))); have y1 := Kept.below i1; (try simp at y1); (try (obtain ⟨nx, ny, nz, na1, na2, na3, nb1, nb2, nb3⟩ := nr))))
    all_goals
      go_wp2_with fail
      go_meet
      exact ⟨_, _, _, rfl, rfl, ⟨⟨by simp [*, go_sem], by simp [*, go_sem], by simp [*, go_sem]⟩, by simp [*, go_sem], by simp [*, go_sem], by simp [*, go_sem]⟩, sk1, (by first | (refine RowE.kept rl1 ?_; focus ((repeat (first | with_reducible exact Kept.refl _ | with_reducible apply Kept.drew | with_reducible apply Kept.alloc | ((with_reducible apply Kept.set); focus (simp <;> omega)) | ((with_reducible apply Kept.via); focus with_reducible assumption))); done)) | exact RowE.far (RowE.far (RowE.far rl1 _ _ (fun a z => by have := nw1 a z; simp at this; simp; omega)) _ _ (fun a z => by have := nw1 a z; simp at this; simp; omega)) _ _ (fun a z => by have := nw1 a z; simp at this; simp; omega)), (by first | omega | (simp; omega)), (by (repeat (first | with_reducible exact Kept.refl _ | with_reducible apply Kept.drew | with_reducible apply Kept.alloc | ((with_reducible apply Kept.set); focus (simp <;> omega)) | ((with_reducible apply Kept.via); focus with_reducible assumption))))⟩
  obtain ⟨g_b, B2, c2, rfl, rfl, hx2, sk2, rl2, hg2, K2⟩ := hcut
  generalize wc = W_b at *
  have H_b := Lib.hid hx2.1
  have RL2 := Lib.hid rl2
  have SK2 := Lib.hid sk2
  clear hx2 rl2 sk2 base2 hg2
  clear cf0 cf1 cf2
  obtain ⟨cb0, cb1, cb2⟩ := Kept.all3 (show Kept W_b W_b from (by (repeat (first | with_reducible exact Kept.refl _ | with_reducible apply Kept.drew | with_reducible apply Kept.alloc | ((with_reducible apply Kept.set); focus (simp <;> omega)) | ((with_reducible apply Kept.via); focus with_reducible assumption))))) H_b
  go_upto_region 7 with fail
  have base3 := Lib.hid (show W_b.cell? ⟨g_b, 0, none⟩ = some (.int .i64 s2) ∧ W_b.cell? ⟨g_b, 1, none⟩ = some (.int .i64 t2) ∧ W_b.cell? ⟨g_b, 2, none⟩ = some (.int .i64 o2) from ⟨cb0, cb1, cb2⟩)
  go_cut [15, 16] (fun sa sb wx => ∃ (g : Nat) (B : Option Addr) (c : Nat), sa = .pointer (some ⟨g, 0, none⟩) ∧ sb = .slice B 0 c ∧ RF wx g s1 t1 o1 ∧ SliceOk B 0 c ∧ RowE wx B l3 ∧ W_b.heap.size ≤ g ∧ Kept W_b wx)
  case first =>
    go_region_held3 (fun w' => w'.cell? ⟨g_b, 0, none⟩ = some (.int .i64 s2) ∧ w'.cell? ⟨g_b, 1, none⟩ = some (.int .i64 t2) ∧ w'.cell? ⟨g_b, 2, none⟩ = some (.int .i64 o2))
      ((refine Kept.all3 ?_ base3; focus ((repeat (first | with_reducible exact Kept.refl _ | with_reducible apply Kept.drew | with_reducible apply Kept.alloc | ((with_reducible apply Kept.set); focus (simp <;> omega)) | ((with_reducible apply Kept.via); focus with_reducible assumption))); done)))
      (first | (go_at_call 10; refine (DC'.out s2 t2 o2 A 0 0 (fun i => E (k + i)) s1 t1 o1 l3 I2.out.1 I2.out.2.1 I2.out.2.2 ⟨Nat.le_refl _, by omega, fun _ => rfl⟩ (by omega) (fun i hi => HZ.out (k + i) (by omega)) HD3.out.1 HD3.out.2 _ (fun h0 => absurd h0 (by omega))).mono ?_; rintro e v1 ⟨B1, c1, rfl, sk1, rl1, nw1, i1⟩; (try (first | (with_reducible have nr := Room3.newD i1) | (with_reducible have nr := Room3.new i1) | (with_reducible have nr := Room3.kept nr i1))); have y1 := Kept.below i1; (try simp at y1); (try (obtain ⟨nx, ny, nz, na1, na2, na3, nb1, nb2, nb3⟩ := nr))))
    all_goals
      go_wp2_with fail
      go_meet
      exact ⟨_, _, _, rfl, rfl, ⟨⟨by simp [*, go_sem], by simp [*, go_sem], by simp [*, go_sem]⟩, by simp [*, go_sem], by simp [*, go_sem], by simp [*, go_sem]⟩, sk1, (by first | (refine RowE.kept rl1 ?_; focus ((repeat (first | with_reducible exact Kept.refl _ | with_reducible apply Kept.drew | with_reducible apply Kept.alloc | ((with_reducible apply Kept.set); focus (simp <;> omega)) | ((with_reducible apply Kept.via); focus with_reducible assumption))); done)) | exact RowE.far (RowE.far (RowE.far rl1 _ _ (fun a z => by have := nw1 a z; simp at this; simp; omega)) _ _ (fun a z => by have := nw1 a z; simp at this; simp; omega)) _ _ (fun a z => by have := nw1 a z; simp at this; simp; omega)), (by first | omega | (simp; omega)), (by (repeat (first | with_reducible exact Kept.refl _ | with_reducible apply Kept.drew | with_reducible apply Kept.alloc | ((with_reducible apply Kept.set); focus (simp <;> omega)) | ((with_reducible apply Kept.via); focus with_reducible assumption))))⟩
  obtain ⟨g_c, B3, c3, rfl, rfl, hx3, sk3, rl3, hg3, K3⟩ := hcut
  generalize wc = W_c at *
  have H_c := Lib.hid hx3.1
  have RL3 := Lib.hid rl3
  have SK3 := Lib.hid sk3
  clear hx3 rl3 sk3 base3 hg3
  clear cb0 cb1 cb2
  go_upto_region 8 with fail
  obtain ⟨cf0, cf1, cf2⟩ := Kept.all3 (show Kept W_f W_c from (by (repeat (first | with_reducible exact Kept.refl _ | with_reducible apply Kept.drew | with_reducible apply Kept.alloc | ((with_reducible apply Kept.set); focus (simp <;> omega)) | ((with_reducible apply Kept.via); focus with_reducible assumption))))) H_f
  go_wp2_with fail
  refine (DC'.out s t o (some ⟨_, 0, none⟩) 1 1 (fun _ j => if j = 0 then kind else 1) s t o [201] hs ht ho ⟨by omega, by omega, fun h => by cases h⟩ (by omega) IK.out HD9.out.1 HD9.out.2 _ ?_).mono ?_
  · intro _
    refine ⟨_, 0, rfl, fun i hi j hj => ?_⟩
    obtain rfl : i = 0 := by omega
    rcases (show j = 0 ∨ j = 1 ∨ j = 2 by omega) with rfl | rfl | rfl <;> (first | (simp [go_sem]; done) | (simp [go_sem]; rfl))
  rintro e w22 ⟨B4, c4, rfl, sk4, rl4, nw4, k22⟩
  have RL4 := Lib.hid rl4
  have SK4 := Lib.hid sk4
  clear rl4 sk4
  clear cf0 cf1 cf2
  go_upto_region 9 with fail
  generalize hW : World.alloc w22 (.cells #[.int .i64 s, .int .i64 t, .int .i64 o] 23) = W_n
  have K_n : Kept w22 W_n := by subst hW; exact (Kept.refl _).alloc _ _
  have H_n := Lib.hid (show W_n.cell? ⟨w22.heap.size, 0, none⟩ = some (.int .i64 s) ∧ W_n.cell? ⟨w22.heap.size, 1, none⟩ = some (.int .i64 t) ∧ W_n.cell? ⟨w22.heap.size, 2, none⟩ = some (.int .i64 o) from by subst hW; simp [go_sem])
  clear hW
  generalize w22.heap.size = g_n at *
  obtain ⟨cn0, cn1, cn2⟩ := Kept.all3 (show Kept W_n W_n from (by (repeat (first | with_reducible exact Kept.refl _ | with_reducible apply Kept.drew | with_reducible apply Kept.alloc | ((with_reducible apply Kept.set); focus (simp <;> omega)) | ((with_reducible apply Kept.via); focus with_reducible assumption))))) H_n
  obtain ⟨cf0, cf1, cf2⟩ := Kept.all3 (show Kept W_f W_n from (by (repeat (first | with_reducible exact Kept.refl _ | with_reducible apply Kept.drew | with_reducible apply Kept.alloc | ((with_reducible apply Kept.set); focus (simp <;> omega)) | ((with_reducible apply Kept.via); focus with_reducible assumption))))) H_f
  go_wp2_with fail
  refine (same16_ok (A := B4) (c := c4) (l := [201]) (A2 := some ⟨_, 0, none⟩) (c2 := 1) (m := [201]) (b := true) SK4.out ⟨by simp, by omega, fun h => by cases h⟩ (by simp) (by simp) (by simp) _ (RL4.out.kept (by (repeat (first | with_reducible exact Kept.refl _ | with_reducible apply Kept.drew | with_reducible apply Kept.alloc | ((with_reducible apply Kept.set); focus (simp <;> omega)) | ((with_reducible apply Kept.via); focus with_reducible assumption))))) ?_).mono ?_
  · intro _
    refine ⟨_, 0, rfl, fun k hk => ?_⟩
    obtain rfl : k = 0 := by have : k < 1 := hk; omega
    first | (simp [go_sem]; done) | (simp [go_sem]; rfl)
  rintro e w23 ⟨rfl, k23⟩
  clear cn0 cn1 cn2
  clear cf0 cf1 cf2
  obtain ⟨ca0, ca1, ca2⟩ := Kept.all3 (show Kept W_a w23 from (by (repeat (first | with_reducible exact Kept.refl _ | with_reducible apply Kept.drew | with_reducible apply Kept.alloc | ((with_reducible apply Kept.set); focus (simp <;> omega)) | ((with_reducible apply Kept.via); focus with_reducible assumption))))) H_a
  obtain ⟨cc0, cc1, cc2⟩ := Kept.all3 (show Kept W_c w23 from (by (repeat (first | with_reducible exact Kept.refl _ | with_reducible apply Kept.drew | with_reducible apply Kept.alloc | ((with_reducible apply Kept.set); focus (simp <;> omega)) | ((with_reducible apply Kept.via); focus with_reducible assumption))))) H_c
  go_upto_region 10 with fail
  have RLa := Lib.hid (show RowE w23 B1 l1 from (RL1.out.kept (by (repeat (first | with_reducible exact Kept.refl _ | with_reducible apply Kept.drew | with_reducible apply Kept.alloc | ((with_reducible apply Kept.set); focus (simp <;> omega)) | ((with_reducible apply Kept.via); focus with_reducible assumption))))))
  have RLb := Lib.hid (show RowE w23 B2 l2 from (RL2.out.kept (by (repeat (first | with_reducible exact Kept.refl _ | with_reducible apply Kept.drew | with_reducible apply Kept.alloc | ((with_reducible apply Kept.set); focus (simp <;> omega)) | ((with_reducible apply Kept.via); focus with_reducible assumption))))))
  have RLc := Lib.hid (show RowE w23 B3 l3 from (RL3.out.kept (by (repeat (first | with_reducible exact Kept.refl _ | with_reducible apply Kept.drew | with_reducible apply Kept.alloc | ((with_reducible apply Kept.set); focus (simp <;> omega)) | ((with_reducible apply Kept.via); focus with_reducible assumption))))))
  go_wp2_with (at_builtin; refine wpList_append_row (by rfl) _ _ 26 rfl w23 _ rfl 29 i0 (.int .i64 0) 8 Try.underlying26 hi hz0 hz1 hz2 rfl _ 0 [] rfl (own_empty w23 _ (Nat.le_refl _) 29) ((Kept.refl _).alloc _ _) B2 k c2 (l2.map (.int .i64)) rfl (by rw [List.length_map]; exact LE2.out) (rowV LE2.out (RLb.out.kept ((Kept.refl _).alloc _ _))) (by intro u hu; simp at hu; obtain ⟨x, _, rfl⟩ := hu; rfl) (by unfold maxLen; omega) (by omega) ?_)
  intro v1 u1 own1 q1 g1 f1 o1
  have own1' : u1.ownsRow w23.heap.size 29 1 v1 k (l2.map (.int .i64)) := by first | exact own1 | simpa using own1
  clear own1 g1 f1 o1
  go_wp2_with (at_builtin; refine wpList_append_row (by rfl) _ _ 26 rfl w23 _ rfl 29 i0 (.int .i64 0) 8 Try.underlying26 hi hz0 hz1 hz2 rfl _ k (l2.map (.int .i64)) rfl own1' q1 B3 0 c3 (l3.map (.int .i64)) rfl (by rw [List.length_map]; exact LE3.out) (rowV LE3.out (RLc.out.kept q1)) (by intro u hu; simp at hu; obtain ⟨x, _, rfl⟩ := hu; rfl) (by unfold maxLen; omega) (by omega) ?_)
  intro v2 u2 own2 q2 g2 f2 o2
  have own2' : u2.ownsRow w23.heap.size 29 1 v2 k (l1.map (.int .i64)) := by (have ek : k + 0 = k := (by omega)); (have el : l2.map (Value.int .i64) ++ l3.map (.int .i64) = l1.map (.int .i64) := (by rw [← List.map_append, LA.out])); (first | (rw [ek, el] at own2; exact own2) | (rw [el] at own2; exact own2) | (simpa [ek, el] using own2))
  obtain ⟨B5, c5, rfl, sk5, row5, _⟩ := own_rowK LE1.out own2'
  have SK5 := Lib.hid sk5
  have RL5 := Lib.hid (show RowE u2 B5 l1 from row5)
  clear own2 own1' own2' g2 f2 o2 sk5 row5 q1
  go_wp2_with fail
  refine (same16_useA LE1.out SK1.out SK5.out (by omega) _ (RLa.out.kept q2) RL5.out).mono ?_
  rintro e w99 ⟨rfl, k99⟩
  go_wp2
  go_ret
  exact ⟨rfl, (by (repeat (first | with_reducible exact Kept.refl _ | with_reducible apply Kept.drew | with_reducible apply Kept.alloc | ((with_reducible apply Kept.set); focus (simp <;> omega)) | ((with_reducible apply Kept.via); focus with_reducible assumption))))⟩
set_option maxRecDepth 100000 in
set_option maxHeartbeats 6400000 in
theorem alike16_zp (CC : FlCheckC) (SC : FlSendC) (AC : FlAckC) (LC : FlLoseC) (RC_ : FlRoomC) (DC : FlDoC) {s t o cut kind s1 t1 o1 s2 t2 o2 : Int} {l1 l2 l3 : List Int} {A : Option Addr} {k : Nat} {E : Nat → Nat → Int} (hl : k ≤ 100) (hs : In64 s) (ht : In64 t) (ho : In64 o) (c0 : 0 ≤ cut) (c1 : cut ≤ 255) (hc : cut.tmod ((k : Int) + 1) = (k : Int)) (hS : SliceOk A k k) (hz : ∀ i, i < k → ∀ j, j < 3 → In64 (E i j)) (hd : doF (s, t, o) (actsL E k) = (s1, t1, o1) ∧ doE (s, t, o) (actsL E k) = l1) (hd2 : doF (s, t, o) (actsL E k) = (s2, t2, o2) ∧ doE (s, t, o) (actsL E k) = l2) (i2 : FlIn (s2, t2, o2)) (hd3 : doF (s2, t2, o2) (actsL (fun i => E (k + i)) (0)) = (s1, t1, o1) ∧ doE (s2, t2, o2) (actsL (fun i => E (k + i)) (0)) = l3) (le1 : l1.length = k) (le2 : l2.length = k) (le3 : l3.length = 0) (la : l2 ++ l3 = l1) (ik : ∀ i, i < 1 → ∀ j, j < 3 → In64 ((fun (_ : Nat) (j : Nat) => if j = 0 then kind else 1) i j)) (hd9 : doF (s, t, o) (actsL (fun (_ : Nat) (j : Nat) => if j = 0 then kind else 1) 1) = (s, t, o) ∧ doE (s, t, o) (actsL (fun (_ : Nat) (j : Nat) => if j = 0 then kind else 1) 1) = [201]) (k0 : 0 ≤ kind) (k1 : 2 < kind) (w : World) (hr : RowI .i64 w A 3 k E) : Calls Try.prog 7 #[.agg #[.int .i64 s, .int .i64 t, .int .i64 o], .slice A k k, .int .u8 cut, .int .i64 kind] w fun e w' => e = .returned (.bool true) ∧ Kept w w' := by
  have CC' := Lib.hid CC
  have SC' := Lib.hid SC
  have AC' := Lib.hid AC
  have LC' := Lib.hid LC
  have RC_' := Lib.hid RC_
  have DC' := Lib.hid DC
  have AW' := Lib.hid (fun w => awake16 CC SC AC LC RC_ DC w)
  clear CC SC AC LC RC_ DC
  have hd0 : decide ((100 : Int) < (k : Int)) = false := by simp; omega
  have HR := Lib.hid hr
  have HZ := Lib.hid hz
  have HS := Lib.hid hS
  have HD := Lib.hid hd
  have HD2 := Lib.hid hd2
  have HD3 := Lib.hid hd3
  have HD9 := Lib.hid hd9
  have IK := Lib.hid ik
  have I2 := Lib.hid i2
  have LE1 := Lib.hid le1
  have LE2 := Lib.hid le2
  have LE3 := Lib.hid le3
  have LA := Lib.hid la
  obtain ⟨i0, hi, hz0, hz1, hz2⟩ := info_parts infoErrA16
  clear hr hz hS hd hd2 hd3 hd9 ik i2 le1 le2 le3 la
  have hk : k ≤ k := Nat.le_refl _
  have hkc : k ≤ k := Nat.le_refl _
  have kI : (k : Int) ≤ (k : Int) := by omega
  have k0' : (0 : Int) ≤ (k : Int) := by omega
  have x0 : decide (0 ≤ kind) = true := by simp [k0]
  have x1 : decide (kind ≤ 2) = false := by simp; omega
  go_enter Try.func7, Try.ntmps7
  go_upto_region 1 with fail
  generalize hW : World.alloc w (.cells #[.int .i64 s, .int .i64 t, .int .i64 o] 23) = W_f
  have K_f : Kept w W_f := by subst hW; exact (Kept.refl _).alloc _ _
  have H_f := Lib.hid (show W_f.cell? ⟨w.heap.size, 0, none⟩ = some (.int .i64 s) ∧ W_f.cell? ⟨w.heap.size, 1, none⟩ = some (.int .i64 t) ∧ W_f.cell? ⟨w.heap.size, 2, none⟩ = some (.int .i64 o) from by subst hW; simp [go_sem])
  clear hW
  generalize w.heap.size = g_f at *
  go_wp2_with fail
  refine (AW'.out _).mono ?_
  rintro e w20 ⟨rfl, k20⟩
  go_upto_region 5 with fail
  obtain ⟨cf0, cf1, cf2⟩ := Kept.all3 (show Kept W_f w20 from (by (repeat (first | with_reducible exact Kept.refl _ | with_reducible apply Kept.drew | with_reducible apply Kept.alloc | ((with_reducible apply Kept.set); focus (simp <;> omega)) | ((with_reducible apply Kept.via); focus with_reducible assumption))))) H_f
  go_wp2_with fail
  refine (DC'.out s t o A k k E s1 t1 o1 l1 hs ht ho HS.out (by omega) HZ.out HD.out.1 HD.out.2 _ (HR.out.kept (by (repeat (first | with_reducible exact Kept.refl _ | with_reducible apply Kept.drew | with_reducible apply Kept.alloc | ((with_reducible apply Kept.set); focus (simp <;> omega)) | ((with_reducible apply Kept.via); focus with_reducible assumption)))))).mono ?_
  rintro e w21 ⟨B1, c1, rfl, sk1, rl1, nw1, k21⟩
  have RL1 := Lib.hid rl1
  have SK1 := Lib.hid sk1
  clear rl1 sk1
  clear cf0 cf1 cf2
  go_upto_region 6 with fail
  generalize hW : World.alloc w21 (.cells #[.int .i64 s1, .int .i64 t1, .int .i64 o1] 23) = W_a
  have K_a : Kept w21 W_a := by subst hW; exact (Kept.refl _).alloc _ _
  have H_a := Lib.hid (show W_a.cell? ⟨w21.heap.size, 0, none⟩ = some (.int .i64 s1) ∧ W_a.cell? ⟨w21.heap.size, 1, none⟩ = some (.int .i64 t1) ∧ W_a.cell? ⟨w21.heap.size, 2, none⟩ = some (.int .i64 o1) from by subst hW; simp [go_sem])
  clear hW
  generalize w21.heap.size = g_a at *
  obtain ⟨cf0, cf1, cf2⟩ := Kept.all3 (show Kept W_f W_a from (by (repeat (first | with_reducible exact Kept.refl _ | with_reducible apply Kept.drew | with_reducible apply Kept.alloc | ((with_reducible apply Kept.set); focus (simp <;> omega)) | ((with_reducible apply Kept.via); focus with_reducible assumption))))) H_f
  go_upto_region 6 with fail
  have base2 := Lib.hid (show W_a.cell? ⟨g_f, 0, none⟩ = some (.int .i64 s) ∧ W_a.cell? ⟨g_f, 1, none⟩ = some (.int .i64 t) ∧ W_a.cell? ⟨g_f, 2, none⟩ = some (.int .i64 o) from ⟨cf0, cf1, cf2⟩)
  go_cut [13, 14] (fun sa sb wx => ∃ (g : Nat) (B : Option Addr) (c : Nat), sa = .pointer (some ⟨g, 0, none⟩) ∧ sb = .slice B k c ∧ RF wx g s2 t2 o2 ∧ SliceOk B k c ∧ RowE wx B l2 ∧ W_a.heap.size ≤ g ∧ Kept W_a wx)
  case first =>
    go_region_held3 (fun w' => w'.cell? ⟨g_f, 0, none⟩ = some (.int .i64 s) ∧ w'.cell? ⟨g_f, 1, none⟩ = some (.int .i64 t) ∧ w'.cell? ⟨g_f, 2, none⟩ = some (.int .i64 o))
      ((refine Kept.all3 ?_ base2; focus ((repeat (first | with_reducible exact Kept.refl _ | with_reducible apply Kept.drew | with_reducible apply Kept.alloc | ((with_reducible apply Kept.set); focus (simp <;> omega)) | ((with_reducible apply Kept.via); focus with_reducible assumption))); done)))
      (first | (go_at_call 10; refine (DC'.out s t o A k k E s2 t2 o2 l2 hs ht ho ⟨hkc, HS.out.2.1, HS.out.2.2⟩ (by omega) (fun i hi => HZ.out i (by omega)) HD2.out.1 HD2.out.2 _ (((HR.out.kept (by (repeat (first | with_reducible exact Kept.refl _ | with_reducible apply Kept.drew | with_reducible apply Kept.alloc | ((with_reducible apply Kept.set); focus (simp <;> omega)) | ((with_reducible apply Kept.via); focus with_reducible assumption)))))).less hk)).mono ?_; rintro e v1 ⟨B1, c1, rfl, sk1, rl1, nw1, i1⟩; (try (first | (with_reducible have nr := Room3.newD i1) | (with_reducible have nr := Room3.new i1) | (with_reducible have nr := Room3.kept nr i1))); have y1 := Kept.below i1; (try simp at y1); (try (obtain ⟨nx, ny, nz, na1, na2, na3, nb1, nb2, nb3⟩ := nr))))
    all_goals
      go_wp2_with fail
      go_meet
      exact ⟨_, _, _, rfl, rfl, ⟨⟨by simp [*, go_sem], by simp [*, go_sem], by simp [*, go_sem]⟩, by simp [*, go_sem], by simp [*, go_sem], by simp [*, go_sem]⟩, sk1, (by first | (refine RowE.kept rl1 ?_; focus ((repeat (first | with_reducible exact Kept.refl _ | with_reducible apply Kept.drew | with_reducible apply Kept.alloc | ((with_reducible apply Kept.set); focus (simp <;> omega)) | ((with_reducible apply Kept.via); focus with_reducible assumption))); done)) | exact RowE.far (RowE.far (RowE.far rl1 _ _ (fun a z => by have := nw1 a z; simp at this; simp; omega)) _ _ (fun a z => by have := nw1 a z; simp at this; simp; omega)) _ _ (fun a z => by have := nw1 a z; simp at this; simp; omega)), (by first | omega | (simp; omega)), (by (repeat (first | with_reducible exact Kept.refl _ | with_reducible apply Kept.drew | with_reducible apply Kept.alloc | ((with_reducible apply Kept.set); focus (simp <;> omega)) | ((with_reducible apply Kept.via); focus with_reducible assumption))))⟩
  obtain ⟨g_b, B2, c2, rfl, rfl, hx2, sk2, rl2, hg2, K2⟩ := hcut
  generalize wc = W_b at *
  have H_b := Lib.hid hx2.1
  have RL2 := Lib.hid rl2
  have SK2 := Lib.hid sk2
  clear hx2 rl2 sk2 base2 hg2
  clear cf0 cf1 cf2
  obtain ⟨cb0, cb1, cb2⟩ := Kept.all3 (show Kept W_b W_b from (by (repeat (first | with_reducible exact Kept.refl _ | with_reducible apply Kept.drew | with_reducible apply Kept.alloc | ((with_reducible apply Kept.set); focus (simp <;> omega)) | ((with_reducible apply Kept.via); focus with_reducible assumption))))) H_b
  go_upto_region 7 with fail
  have base3 := Lib.hid (show W_b.cell? ⟨g_b, 0, none⟩ = some (.int .i64 s2) ∧ W_b.cell? ⟨g_b, 1, none⟩ = some (.int .i64 t2) ∧ W_b.cell? ⟨g_b, 2, none⟩ = some (.int .i64 o2) from ⟨cb0, cb1, cb2⟩)
  go_cut [15, 16] (fun sa sb wx => ∃ (g : Nat) (B : Option Addr) (c : Nat), sa = .pointer (some ⟨g, 0, none⟩) ∧ sb = .slice B 0 c ∧ RF wx g s1 t1 o1 ∧ SliceOk B 0 c ∧ RowE wx B l3 ∧ W_b.heap.size ≤ g ∧ Kept W_b wx)
  case first =>
    go_region_held3 (fun w' => w'.cell? ⟨g_b, 0, none⟩ = some (.int .i64 s2) ∧ w'.cell? ⟨g_b, 1, none⟩ = some (.int .i64 t2) ∧ w'.cell? ⟨g_b, 2, none⟩ = some (.int .i64 o2))
      ((refine Kept.all3 ?_ base3; focus ((repeat (first | with_reducible exact Kept.refl _ | with_reducible apply Kept.drew | with_reducible apply Kept.alloc | ((with_reducible apply Kept.set); focus (simp <;> omega)) | ((with_reducible apply Kept.via); focus with_reducible assumption))); done)))
      (first | (go_at_call 10; refine (DC'.out s2 t2 o2 A 0 0 (fun i => E (k + i)) s1 t1 o1 l3 I2.out.1 I2.out.2.1 I2.out.2.2 ⟨Nat.le_refl _, by omega, fun _ => rfl⟩ (by omega) (fun i hi => HZ.out (k + i) (by omega)) HD3.out.1 HD3.out.2 _ (fun h0 => absurd h0 (by omega))).mono ?_; rintro e v1 ⟨B1, c1, rfl, sk1, rl1, nw1, i1⟩; (try (first | (with_reducible have nr := Room3.newD i1) | (with_reducible have nr := Room3.new i1) | (with_reducible have nr := Room3.kept nr i1))); have y1 := Kept.below i1; (try simp at y1); (try (obtain ⟨nx, ny, nz, na1, na2, na3, nb1, nb2, nb3⟩ := nr))))
    all_goals
      go_wp2_with fail
      go_meet
      exact ⟨_, _, _, rfl, rfl, ⟨⟨by simp [*, go_sem], by simp [*, go_sem], by simp [*, go_sem]⟩, by simp [*, go_sem], by simp [*, go_sem], by simp [*, go_sem]⟩, sk1, (by first | (refine RowE.kept rl1 ?_; focus ((repeat (first | with_reducible exact Kept.refl _ | with_reducible apply Kept.drew | with_reducible apply Kept.alloc | ((with_reducible apply Kept.set); focus (simp <;> omega)) | ((with_reducible apply Kept.via); focus with_reducible assumption))); done)) | exact RowE.far (RowE.far (RowE.far rl1 _ _ (fun a z => by have := nw1 a z; simp at this; simp; omega)) _ _ (fun a z => by have := nw1 a z; simp at this; simp; omega)) _ _ (fun a z => by have := nw1 a z; simp at this; simp; omega)), (by first | omega | (simp; omega)), (by (repeat (first | with_reducible exact Kept.refl _ | with_reducible apply Kept.drew | with_reducible apply Kept.alloc | ((with_reducible apply Kept.set); focus (simp <;> omega)) | ((with_reducible apply Kept.via); focus with_reducible assumption))))⟩
  obtain ⟨g_c, B3, c3, rfl, rfl, hx3, sk3, rl3, hg3, K3⟩ := hcut
  generalize wc = W_c at *
  have H_c := Lib.hid hx3.1
  have RL3 := Lib.hid rl3
  have SK3 := Lib.hid sk3
  clear hx3 rl3 sk3 base3 hg3
  clear cb0 cb1 cb2
  go_upto_region 8 with fail
  obtain ⟨cf0, cf1, cf2⟩ := Kept.all3 (show Kept W_f W_c from (by (repeat (first | with_reducible exact Kept.refl _ | with_reducible apply Kept.drew | with_reducible apply Kept.alloc | ((with_reducible apply Kept.set); focus (simp <;> omega)) | ((with_reducible apply Kept.via); focus with_reducible assumption))))) H_f
  go_wp2_with fail
  refine (DC'.out s t o (some ⟨_, 0, none⟩) 1 1 (fun _ j => if j = 0 then kind else 1) s t o [201] hs ht ho ⟨by omega, by omega, fun h => by cases h⟩ (by omega) IK.out HD9.out.1 HD9.out.2 _ ?_).mono ?_
  · intro _
    refine ⟨_, 0, rfl, fun i hi j hj => ?_⟩
    obtain rfl : i = 0 := by omega
    rcases (show j = 0 ∨ j = 1 ∨ j = 2 by omega) with rfl | rfl | rfl <;> (first | (simp [go_sem]; done) | (simp [go_sem]; rfl))
  rintro e w22 ⟨B4, c4, rfl, sk4, rl4, nw4, k22⟩
  have RL4 := Lib.hid rl4
  have SK4 := Lib.hid sk4
  clear rl4 sk4
  clear cf0 cf1 cf2
  go_upto_region 9 with fail
  generalize hW : World.alloc w22 (.cells #[.int .i64 s, .int .i64 t, .int .i64 o] 23) = W_n
  have K_n : Kept w22 W_n := by subst hW; exact (Kept.refl _).alloc _ _
  have H_n := Lib.hid (show W_n.cell? ⟨w22.heap.size, 0, none⟩ = some (.int .i64 s) ∧ W_n.cell? ⟨w22.heap.size, 1, none⟩ = some (.int .i64 t) ∧ W_n.cell? ⟨w22.heap.size, 2, none⟩ = some (.int .i64 o) from by subst hW; simp [go_sem])
  clear hW
  generalize w22.heap.size = g_n at *
  obtain ⟨cn0, cn1, cn2⟩ := Kept.all3 (show Kept W_n W_n from (by (repeat (first | with_reducible exact Kept.refl _ | with_reducible apply Kept.drew | with_reducible apply Kept.alloc | ((with_reducible apply Kept.set); focus (simp <;> omega)) | ((with_reducible apply Kept.via); focus with_reducible assumption))))) H_n
  obtain ⟨cf0, cf1, cf2⟩ := Kept.all3 (show Kept W_f W_n from (by (repeat (first | with_reducible exact Kept.refl _ | with_reducible apply Kept.drew | with_reducible apply Kept.alloc | ((with_reducible apply Kept.set); focus (simp <;> omega)) | ((with_reducible apply Kept.via); focus with_reducible assumption))))) H_f
  go_wp2_with fail
  refine (same16_ok (A := B4) (c := c4) (l := [201]) (A2 := some ⟨_, 0, none⟩) (c2 := 1) (m := [201]) (b := true) SK4.out ⟨by simp, by omega, fun h => by cases h⟩ (by simp) (by simp) (by simp) _ (RL4.out.kept (by (repeat (first | with_reducible exact Kept.refl _ | with_reducible apply Kept.drew | with_reducible apply Kept.alloc | ((with_reducible apply Kept.set); focus (simp <;> omega)) | ((with_reducible apply Kept.via); focus with_reducible assumption))))) ?_).mono ?_
  · intro _
    refine ⟨_, 0, rfl, fun k hk => ?_⟩
    obtain rfl : k = 0 := by have : k < 1 := hk; omega
    first | (simp [go_sem]; done) | (simp [go_sem]; rfl)
  rintro e w23 ⟨rfl, k23⟩
  clear cn0 cn1 cn2
  clear cf0 cf1 cf2
  obtain ⟨ca0, ca1, ca2⟩ := Kept.all3 (show Kept W_a w23 from (by (repeat (first | with_reducible exact Kept.refl _ | with_reducible apply Kept.drew | with_reducible apply Kept.alloc | ((with_reducible apply Kept.set); focus (simp <;> omega)) | ((with_reducible apply Kept.via); focus with_reducible assumption))))) H_a
  obtain ⟨cc0, cc1, cc2⟩ := Kept.all3 (show Kept W_c w23 from (by (repeat (first | with_reducible exact Kept.refl _ | with_reducible apply Kept.drew | with_reducible apply Kept.alloc | ((with_reducible apply Kept.set); focus (simp <;> omega)) | ((with_reducible apply Kept.via); focus with_reducible assumption))))) H_c
  go_upto_region 10 with fail
  have RLa := Lib.hid (show RowE w23 B1 l1 from (RL1.out.kept (by (repeat (first | with_reducible exact Kept.refl _ | with_reducible apply Kept.drew | with_reducible apply Kept.alloc | ((with_reducible apply Kept.set); focus (simp <;> omega)) | ((with_reducible apply Kept.via); focus with_reducible assumption))))))
  have RLb := Lib.hid (show RowE w23 B2 l2 from (RL2.out.kept (by (repeat (first | with_reducible exact Kept.refl _ | with_reducible apply Kept.drew | with_reducible apply Kept.alloc | ((with_reducible apply Kept.set); focus (simp <;> omega)) | ((with_reducible apply Kept.via); focus with_reducible assumption))))))
  have RLc := Lib.hid (show RowE w23 B3 l3 from (RL3.out.kept (by (repeat (first | with_reducible exact Kept.refl _ | with_reducible apply Kept.drew | with_reducible apply Kept.alloc | ((with_reducible apply Kept.set); focus (simp <;> omega)) | ((with_reducible apply Kept.via); focus with_reducible assumption))))))
  go_wp2_with (at_builtin; refine wpList_append_row (by rfl) _ _ 26 rfl w23 _ rfl 29 i0 (.int .i64 0) 8 Try.underlying26 hi hz0 hz1 hz2 rfl _ 0 [] rfl (own_empty w23 _ (Nat.le_refl _) 29) ((Kept.refl _).alloc _ _) B2 k c2 (l2.map (.int .i64)) rfl (by rw [List.length_map]; exact LE2.out) (rowV LE2.out (RLb.out.kept ((Kept.refl _).alloc _ _))) (by intro u hu; simp at hu; obtain ⟨x, _, rfl⟩ := hu; rfl) (by unfold maxLen; omega) (by omega) ?_)
  intro v1 u1 own1 q1 g1 f1 o1
  have own1' : u1.ownsRow w23.heap.size 29 1 v1 k (l2.map (.int .i64)) := by first | exact own1 | simpa using own1
  clear own1 g1 f1 o1
  go_wp2_with (at_builtin; refine wpList_append_row (by rfl) _ _ 26 rfl w23 _ rfl 29 i0 (.int .i64 0) 8 Try.underlying26 hi hz0 hz1 hz2 rfl _ k (l2.map (.int .i64)) rfl own1' q1 B3 0 c3 (l3.map (.int .i64)) rfl (by rw [List.length_map]; exact LE3.out) (rowV LE3.out (RLc.out.kept q1)) (by intro u hu; simp at hu; obtain ⟨x, _, rfl⟩ := hu; rfl) (by unfold maxLen; omega) (by omega) ?_)
  intro v2 u2 own2 q2 g2 f2 o2
  have own2' : u2.ownsRow w23.heap.size 29 1 v2 k (l1.map (.int .i64)) := by (have ek : k + 0 = k := (by omega)); (have el : l2.map (Value.int .i64) ++ l3.map (.int .i64) = l1.map (.int .i64) := (by rw [← List.map_append, LA.out])); (first | (rw [ek, el] at own2; exact own2) | (rw [el] at own2; exact own2) | (simpa [ek, el] using own2))
  obtain ⟨B5, c5, rfl, sk5, row5, _⟩ := own_rowK LE1.out own2'
  have SK5 := Lib.hid sk5
  have RL5 := Lib.hid (show RowE u2 B5 l1 from row5)
  clear own2 own1' own2' g2 f2 o2 sk5 row5 q1
  go_wp2_with fail
  refine (same16_useA LE1.out SK1.out SK5.out (by omega) _ (RLa.out.kept q2) RL5.out).mono ?_
  rintro e w99 ⟨rfl, k99⟩
  go_wp2
  go_ret
  exact ⟨rfl, (by (repeat (first | with_reducible exact Kept.refl _ | with_reducible apply Kept.drew | with_reducible apply Kept.alloc | ((with_reducible apply Kept.set); focus (simp <;> omega)) | ((with_reducible apply Kept.via); focus with_reducible assumption))))⟩
theorem kind_acts (kind : Int) : actsL (fun (_ : Nat) (j : Nat) => if j = 0 then kind else 1) 1 = [(kind, 1, 1)] := rfl
theorem flightAlike_walk (CC : FlCheckC) (SC : FlSendC) (AC : FlAckC) (LC : FlLoseC) (RC_ : FlRoomC) (DC : FlDoC) (s t o : Int) (A : Option Addr) (len cap : Nat) (E : Nat → Nat → Int) (cut kind : Int) (w : World) (hs : In64 s) (ht : In64 t) (ho : In64 o) (c0 : 0 ≤ cut) (c1 : cut ≤ 255) (hk : In64 kind) (hS : SliceOk A len cap) (hz : ∀ i, i < len → ∀ j, j < 3 → In64 (E i j)) (hr : RowI .i64 w A 3 len E) : Calls Try.prog 7 #[.agg #[.int .i64 s, .int .i64 t, .int .i64 o], .slice A len cap, .int .u8 cut, .int .i64 kind] w fun e w' => e = .returned (.bool true) ∧ Kept w w' := by
  by_cases hl : len ≤ 100
  · have e9 : cut.tmod ((len : Int) + 1) = cut % ((len : Int) + 1) := Int.tmod_eq_emod_of_nonneg c0
    have r0 := Int.emod_nonneg cut (show ((len : Int) + 1) ≠ 0 by omega)
    have r1 := Int.emod_lt_of_pos cut (show 0 < ((len : Int) + 1) by omega)
    obtain ⟨k, hkk⟩ : ∃ k : Nat, cut.tmod ((len : Int) + 1) = (k : Int) := ⟨(cut % ((len : Int) + 1)).toNat, by rw [e9]; omega⟩
    have kl : k ≤ len := by omega
    have kc : k ≤ cap := by have := hS.1; omega
    obtain ⟨f1, hf1⟩ : ∃ f1 : Fl, doF (s, t, o) (actsL E len) = f1 := ⟨_, rfl⟩
    obtain ⟨f2, hf2⟩ : ∃ f2 : Fl, doF (s, t, o) (actsL E k) = f2 := ⟨_, rfl⟩
    obtain ⟨l2, hl2⟩ : ∃ l2, doE (s, t, o) (actsL E k) = l2 := ⟨_, rfl⟩
    obtain ⟨l1, hl1⟩ : ∃ l1, doE (s, t, o) (actsL E len) = l1 := ⟨_, rfl⟩
    have cutE := actsL_cut E k (len - k)
    rw [show k + (len - k) = len by omega] at cutE
    have h3 : doF f2 (actsL (fun i => E (k + i)) (len - k)) = f1 ∧ l2 ++ doE f2 (actsL (fun i => E (k + i)) (len - k)) = l1 := by
      rw [cutE, doF_app] at hf1
      rw [cutE, doE_app] at hl1
      rw [hf2] at hf1 hl1
      rw [hl2] at hl1
      exact ⟨hf1, hl1⟩
    have i2 : FlIn f2 := by rw [← hf2]; exact do_in64 _ _ ⟨hs, ht, ho⟩
    have n1 : l1.length = len := by rw [← hl1, doE_len, actsL_len]
    have n2 : l2.length = k := by rw [← hl2, doE_len, actsL_len]
    have n3 : (doE f2 (actsL (fun i => E (k + i)) (len - k))).length = len - k := by rw [doE_len, actsL_len]
    have ik : ∀ i, i < 1 → ∀ j, j < 3 → In64 ((fun (_ : Nat) (j : Nat) => if j = 0 then kind else 1) i j) := fun i _ j _ => by
      show In64 (if j = 0 then kind else 1)
      split
      · exact hk
      · unfold In64; decide
    obtain ⟨s1, t1, o1⟩ := f1
    obtain ⟨s2, t2, o2⟩ := f2
    have key9 : ∃ s9 t9 o9 e9, doF (s, t, o) (actsL (fun (_ : Nat) (j : Nat) => if j = 0 then kind else 1) 1) = (s9, t9, o9) ∧ doE (s, t, o) (actsL (fun (_ : Nat) (j : Nat) => if j = 0 then kind else 1) 1) = [e9] := by
      rw [kind_acts]
      exact ⟨(actF (s, t, o) (kind, 1, 1)).1, (actF (s, t, o) (kind, 1, 1)).2.1, (actF (s, t, o) (kind, 1, 1)).2.2, actE (s, t, o) (kind, 1, 1), rfl, rfl⟩
    have none9 : ¬ (kind = 0 ∨ kind = 1 ∨ kind = 2) → doF (s, t, o) (actsL (fun (_ : Nat) (j : Nat) => if j = 0 then kind else 1) 1) = (s, t, o) ∧ doE (s, t, o) (actsL (fun (_ : Nat) (j : Nat) => if j = 0 then kind else 1) 1) = [201] := fun z => by
      rw [kind_acts]
      have q := act_one (act_is (s, t, o) (kind, 1, 1)) (show ActIs (s, t, o) (kind, 1, 1) (s, t, o) 201 from Or.inr (Or.inr (Or.inr ⟨z, rfl, rfl⟩)))
      show actF (s, t, o) (kind, 1, 1) = _ ∧ [actE (s, t, o) (kind, 1, 1)] = _
      rw [q.1, q.2]; exact ⟨rfl, rfl⟩
    obtain ⟨s9, t9, o9, e9, h9⟩ := key9
    by_cases hck : cap = k
    · have : len = k := by have := hS.1; omega
      subst this
      subst hck
      simp only [Nat.sub_self] at h3 n3
      by_cases p : kind < 0
      · exact alike16_zn CC SC AC LC RC_ DC hl hs ht ho c0 c1 hkk hS hz ⟨hf1, hl1⟩ ⟨hf2, hl2⟩ i2 ⟨h3.1, rfl⟩ n1 n2 n3 h3.2 ik (none9 (by omega)) p w hr
      · by_cases q : 2 < kind
        · exact alike16_zp CC SC AC LC RC_ DC hl hs ht ho c0 c1 hkk hS hz ⟨hf1, hl1⟩ ⟨hf2, hl2⟩ i2 ⟨h3.1, rfl⟩ n1 n2 n3 h3.2 ik (none9 (by omega)) (by omega) q w hr
        · exact alike16_zy CC SC AC LC RC_ DC hl hs ht ho c0 c1 hkk hS hz ⟨hf1, hl1⟩ ⟨hf2, hl2⟩ i2 ⟨h3.1, rfl⟩ n1 n2 n3 h3.2 ik h9 (by omega) (by omega) w hr
    · by_cases p : kind < 0
      · exact alike16_mn CC SC AC LC RC_ DC hl hs ht ho c0 c1 hkk kl kc hS hz ⟨hf1, hl1⟩ ⟨hf2, hl2⟩ i2 ⟨h3.1, rfl⟩ n1 n2 n3 h3.2 hck ik (none9 (by omega)) p w hr
      · by_cases q : 2 < kind
        · exact alike16_mp CC SC AC LC RC_ DC hl hs ht ho c0 c1 hkk kl kc hS hz ⟨hf1, hl1⟩ ⟨hf2, hl2⟩ i2 ⟨h3.1, rfl⟩ n1 n2 n3 h3.2 hck ik (none9 (by omega)) (by omega) q w hr
        · exact alike16_my CC SC AC LC RC_ DC hl hs ht ho c0 c1 hkk kl kc hS hz ⟨hf1, hl1⟩ ⟨hf2, hl2⟩ i2 ⟨h3.1, rfl⟩ n1 n2 n3 h3.2 hck ik h9 (by omega) (by omega) w hr
  · exact alike16_long CC SC AC LC RC_ DC (by omega) (by have := hS.1; have := hS.2.1; omega) w
end Go.Proofs.Ytbaifhgjalaphaa
