/-
  The call 'awake' of layer 8's statements answers true, if the calls do what they are to do.
-/
import Derived.Test.YtpbchcpbjflnoaaMarks08
import Derived.Deep.DeepCutAuto
namespace Go.Proofs.Ytpbchcpbjflnoaa
open Go.RowKit Go.BigFrame
set_option linter.unusedVariables false

theorem a8p1 : PutIs [] 5 1 5 [(1, 5)] 0 := Or.inr (Or.inr ⟨by decide, by unfold IsTime; omega, by omega, Or.inl rfl, by decide, rfl⟩)
theorem a8p2 : PutIs [(1, 5)] 5 2 3 [(2, 3)] 0 := Or.inr (Or.inr ⟨by decide, by unfold IsTime; omega, by omega, Or.inr (by decide), by decide, rfl⟩)
theorem a8p3 : PutIs [(2, 3)] 5 6 7 [(2, 3), (6, 7)] 0 := Or.inr (Or.inr ⟨by decide, by unfold IsTime; omega, by omega, Or.inr (by decide), by decide, rfl⟩)
theorem a8p4 : PutIs [(2, 3), (6, 7)] 5 9 8 [(6, 7), (9, 8)] 0 := Or.inr (Or.inr ⟨by decide, by unfold IsTime; omega, by omega, Or.inr (by decide), by decide, rfl⟩)
theorem a8p5 : PutIs [(6, 7), (9, 8)] 5 8 1 [(6, 7), (9, 8)] 50 := Or.inr (Or.inl ⟨by decide, by unfold IsTime; omega, by omega, by simp, by decide, rfl, rfl⟩)
theorem a8p6 : PutIs [(6, 7), (9, 8)] 5 (-1) 1 [(6, 7), (9, 8)] 51 := Or.inl ⟨by unfold IsTime; omega, rfl, rfl⟩
theorem a8o1 : LOfIs [(2, 3)] 3 true := Or.inl ⟨by decide, by simp, rfl, rfl⟩
theorem a8o2 : LOfIs [(2, 3), (6, 7)] 3 true := Or.inl ⟨by decide, by simp, rfl, rfl⟩
theorem a8o3 : LOfIs [(6, 7), (9, 8)] 7 true := Or.inl ⟨by decide, by simp, rfl, rfl⟩
theorem a8o4 : LOfIs [] 0 false := Or.inr ⟨by simp, rfl, rfl⟩
theorem a8s1 : SinceIs [(2, 3), (6, 7)] 3 7 7 true := Or.inr ⟨by decide, by omega, Or.inl ⟨1, by decide, by decide, by decide, rfl, rfl⟩⟩
theorem a8s2 : SinceIs [(2, 3), (6, 7)] 0 5 0 false := Or.inr ⟨by decide, by omega, Or.inr ⟨by decide, rfl, rfl⟩⟩
set_option maxRecDepth 100000 in
set_option maxHeartbeats 1600000 in
theorem awake08 (CC : LCheckC) (PC : LPutC) (OC : LOfC) (SC : LSinceC) (w : World) : Calls Try.prog 9 #[] w fun e w' => e = .returned (.bool true) ∧ Kept w w' := by
  have CC' := Lib.hid CC
  have PC' := Lib.hid PC
  have OC' := Lib.hid OC
  have SC' := Lib.hid SC
  clear CC PC OC SC
  go_enter Try.func9, Try.ntmps9
  go_wp2_with fail
  refine (put_use PC'.out (A := none) (cap := 0) (l := []) (len := 0) (l' := [(1, 5)]) (len2 := 1) rfl rfl ⟨Nat.le_refl _, Nat.zero_le _, fun _ => rfl⟩ (by omega) (by simp [In64]) (by unfold In64; omega) (by unfold In64; omega) (by unfold In64; omega) a8p1 _ (rowM_nil _ _)).mono ?_
  rintro e w1 ⟨B1, c1, rfl, s1, hr1, k1⟩
  have sa := Lib.hid s1
  have Ra := Lib.hid hr1.row
  clear s1 hr1
  go_wp2_with fail
  refine (put_use PC'.out (A := B1) (cap := c1) (l := [(1, 5)]) (len := 1) (l' := [(2, 3)]) (len2 := 1) rfl rfl sa.out (by omega) (by simp [In64]) (by unfold In64; omega) (by unfold In64; omega) (by unfold In64; omega) a8p2 _ (Ra.out)).mono ?_
  rintro e w2 ⟨B2, c2, rfl, s2, hr2, k2⟩
  have sb := Lib.hid s2
  have Rb := Lib.hid hr2.row
  clear s2 hr2
  go_wp2_with fail
  refine (of_use OC'.out (l := [(2, 3)]) (len := 1) rfl sb.out (by omega) a8o1 _ (Rb.out)).mono ?_
  rintro e w3 ⟨rfl, k3⟩
  go_wp2_with fail
  refine (put_use PC'.out (A := B2) (cap := c2) (l := [(2, 3)]) (len := 1) (l' := [(2, 3), (6, 7)]) (len2 := 2) rfl rfl sb.out (by omega) (by simp [In64]) (by unfold In64; omega) (by unfold In64; omega) (by unfold In64; omega) a8p3 _ ((Rb.out).kept k3)).mono ?_
  rintro e w4 ⟨B4, c4, rfl, s4, hr4, k4⟩
  have sd := Lib.hid s4
  have Rd := Lib.hid hr4.row
  clear s4 hr4
  go_wp2_with fail
  refine (of_use OC'.out (l := [(2, 3), (6, 7)]) (len := 2) rfl sd.out (by omega) a8o2 _ (Rd.out)).mono ?_
  rintro e w5 ⟨rfl, k5⟩
  go_wp2_with fail
  refine (put_use PC'.out (A := B4) (cap := c4) (l := [(2, 3), (6, 7)]) (len := 2) (l' := [(6, 7), (9, 8)]) (len2 := 2) rfl rfl sd.out (by omega) (by simp [In64]) (by unfold In64; omega) (by unfold In64; omega) (by unfold In64; omega) a8p4 _ ((Rd.out).kept k5)).mono ?_
  rintro e w6 ⟨B6, c6, rfl, s6, hr6, k6⟩
  have sf := Lib.hid s6
  have Rf := Lib.hid hr6.row
  clear s6 hr6
  go_wp2_with fail
  refine (of_use OC'.out (l := [(6, 7), (9, 8)]) (len := 2) rfl sf.out (by omega) a8o3 _ (Rf.out)).mono ?_
  rintro e w7 ⟨rfl, k7⟩
  go_wp2_with fail
  refine (put_use PC'.out (A := B6) (cap := c6) (l := [(6, 7), (9, 8)]) (len := 2) (l' := [(6, 7), (9, 8)]) (len2 := 2) rfl rfl sf.out (by omega) (by simp [In64]) (by unfold In64; omega) (by unfold In64; omega) (by unfold In64; omega) a8p5 _ ((Rf.out).kept k7)).mono ?_
  rintro e w8 ⟨B8, c8, rfl, s8, hr8, k8⟩
  have sg := Lib.hid s8
  have Rg := Lib.hid hr8.row
  clear s8 hr8
  go_wp2_with fail
  refine (put_use PC'.out (A := B6) (cap := c6) (l := [(6, 7), (9, 8)]) (len := 2) (l' := [(6, 7), (9, 8)]) (len2 := 2) rfl rfl sf.out (by omega) (by simp [In64]) (by unfold In64; omega) (by unfold In64; omega) (by unfold In64; omega) a8p6 _ (((Rf.out).kept k7).kept k8)).mono ?_
  rintro e w9 ⟨B9, c9, rfl, s9, hr9, k9⟩
  have sh := Lib.hid s9
  have Rh := Lib.hid hr9.row
  clear s9 hr9
  go_wp2_with fail
  refine (of_use OC'.out (A := none) (cap := 0) (l := []) (len := 0) rfl ⟨Nat.le_refl _, Nat.zero_le _, fun _ => rfl⟩ (by omega) a8o4 _ (rowM_nil _ _)).mono ?_
  rintro e w10 ⟨rfl, k10⟩
  go_wp2_with fail
  refine (since_use SC'.out (l := [(2, 3), (6, 7)]) (len := 2) rfl sd.out (by omega) (by simp [In64]) (by unfold In64; omega) (by unfold In64; omega) a8s1 _ (((((((Rd.out).kept k5).kept k6).kept k7).kept k8).kept k9).kept k10)).mono ?_
  rintro e w11 ⟨rfl, k11⟩
  go_wp2_with fail
  refine (since_use SC'.out (l := [(2, 3), (6, 7)]) (len := 2) rfl sd.out (by omega) (by simp [In64]) (by unfold In64; omega) (by unfold In64; omega) a8s2 _ ((((((((Rd.out).kept k5).kept k6).kept k7).kept k8).kept k9).kept k10).kept k11)).mono ?_
  rintro e w12 ⟨rfl, k12⟩
  go_wp2_with fail
  refine (check_use CC'.out (v := true) (l := [(2, 3), (6, 7)]) (len := 2) rfl sd.out (by omega) (by decide) _ (((((((((Rd.out).kept k5).kept k6).kept k7).kept k8).kept k9).kept k10).kept k11).kept k12)).mono ?_
  rintro e w13 ⟨rfl, k13⟩
  go_wp2_with fail
  refine (check_use CC'.out (v := false) (A := some ⟨_, 0, none⟩) (cap := 2) (l := [(2, 0), (1, 5)]) (len := 2) rfl ⟨by omega, by omega, fun h => by cases h⟩ (by omega) (by decide) _ (fun _ => ⟨_, 0, rfl, fun k hk => ?_⟩)).mono ?_
  · rcases (show k = 0 ∨ k = 1 by simp at hk; omega) with rfl | rfl <;> simp [mk, go_sem]
  rintro e w14 ⟨rfl, k14⟩
  go_wp2
  go_ret
  exact ⟨rfl, (by (repeat (first | with_reducible exact Kept.refl _ | with_reducible apply Kept.drew | with_reducible apply Kept.alloc | ((with_reducible apply Kept.set); focus (simp <;> omega)) | ((with_reducible apply Kept.via); focus with_reducible assumption))))⟩
end Go.Proofs.Ytpbchcpbjflnoaa
