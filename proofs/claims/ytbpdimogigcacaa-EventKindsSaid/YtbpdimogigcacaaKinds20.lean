/-
  The walk of EventKinds: it answers true, if the calls do what they are to do.
-/
import Derived.Test.YtbpdimogigcacaaAwake20
import Derived.Deep.RegionHeld3
import Derived.Deep.DeepCutAuto
namespace Go.Proofs.Ytbpdimogigcacaa
open Go.RowKit Go.BigFrame
set_option linter.unusedVariables false

theorem other_zero {j at_ b : Int} (hj : 1 ≤ j ∧ j ≤ 7) (h : ¬ j = 1 ∧ ¬ j = 2 ∧ ¬ j = 6) (ha : 0 ≤ at_ ∧ at_ ≤ 4294967295) : (chkV (j, at_, b, 0) == 0) = (b == 0) := by
  have e : chkV (j, at_, b, 0) = if b ≠ 0 then 201 else 0 := by
    unfold chkV rttV
    dsimp only
    rw [if_neg (by omega), if_neg (by omega), if_neg (by omega)]
    simp
  rw [e]
  by_cases b0 : b = 0 <;> simp [b0]
set_option maxRecDepth 100000 in
set_option maxHeartbeats 6400000 in
theorem kinds20_lo (CC : EvCheckC) (DC : EvDecC) (NC : EvEncC) (AC : EvAllC) {at_ b t : Int} (a0 : 0 ≤ at_) (a1 : at_ ≤ 4294967295) (ib : In64 b) (it : In64 t) (hb : b < 1)  (w : World)  : Calls Try.prog 6 #[.int .u32 at_, .int .i64 b, .int .i64 t] w fun e w' => e = .returned (.bool true) ∧ Kept w w' := by
  have CC' := Lib.hid CC
  have DC' := Lib.hid DC
  have NC' := Lib.hid NC
  have AC' := Lib.hid AC
  have AW' := Lib.hid (fun w => awake20 CC DC NC AC w)
  clear CC DC NC AC
  have s1 : decide (1 ≤ b) = false := by simp; omega
  have IB := Lib.hid ib
  have IT := Lib.hid it
  have HBD := Lib.hid hb
  clear ib it hb
  go_enter Try.func6, Try.ntmps6
  go_wp2_with fail
  refine (AW'.out _).mono ?_
  rintro e w20 ⟨rfl, k20⟩
  have k0 : Kept w w20 := (by (repeat (first | with_reducible exact Kept.refl _ | with_reducible apply Kept.drew | with_reducible apply Kept.alloc | ((with_reducible apply Kept.set); focus (simp <;> omega)) | ((with_reducible apply Kept.via); focus with_reducible assumption))))
  generalize w20 = w9 at *
  go_wp2
  go_loopw [9] (fun s9 wr => ∃ j : Int, 1 ≤ j ∧ j ≤ 8 ∧ s9 = .int .i64 j ∧ Kept w9 wr) (fun s9 _ => (8 - intOf s9).toNat)
  case atStart => exact ⟨1, by omega, by omega, rfl, Kept.refl _⟩
  case round =>
    obtain ⟨j, j1, j8, rfl, kw⟩ := hrel
    by_cases hlt : j ≤ 7
    · have dl : decide (j ≤ 7) = true := decide_eq_true hlt
      by_cases hk1 : j = 1
      · subst hk1
        by_cases t0 : t = 0
        · subst t0
          have hb := HBD.out
          have E1 := Lib.hid (show chkV (1, at_, b, 0) = 201 from by unfold chkV rttV; dsimp only; (repeat' split) <;> omega)
          clear hb
          have E2 := Lib.hid (show chkV (1, at_, 1, 0) = 0 from by unfold chkV rttV; dsimp only; (repeat' split) <;> omega)
          have Q1 := Lib.hid (fun w_ => CC'.out 1 at_ b 0 201 (by unfold In64; omega) (by unfold In64; omega) IB.out (by unfold In64; decide) E1.out w_)
          have Q2 := Lib.hid (fun w_ => CC'.out 1 at_ 1 0 0 (by unfold In64; omega) (by unfold In64; omega) (by unfold In64; decide) (by unfold In64; decide) E2.out w_)
          go_upto_region 7 with fail
          generalize hW : World.alloc wr (.cells #[.int .i64 1, .int .i64 at_, .int .i64 b, .int .i64 0] 23) = W_e
          have K_e : Kept wr W_e := by subst hW; exact (Kept.refl _).alloc _ _
          have E0 := Lib.hid (show RV W_e wr.heap.size 1 at_ b 0 from by subst hW; exact ⟨⟨by simp [go_sem], by simp [go_sem], by simp [go_sem], by simp [go_sem]⟩, by simp [go_sem], by simp [go_sem], by simp [go_sem], by simp [go_sem]⟩)
          clear hW
          have gb : w9.heap.size ≤ wr.heap.size := Kept.below kw
          generalize wr.heap.size = ge at *
          have kwe := Kept.trans kw K_e
          clear K_e kw
          obtain ⟨c0, c1, c2, c3⟩ := E0.out.1
          go_wp2_with fail
          refine (Q1.out _).mono ?_
          rintro e w1 ⟨rfl, k1⟩
          clear c0 c1 c2 c3
          have E3 := Lib.hid (E0.out.kept k1)
          have kwn1 := Kept.trans kwe k1
          clear E0 kwe k1
          have ne := E3.out.ne
          obtain ⟨⟨c0, c1, c2, c3⟩, f0, f1, f2, f3⟩ := E3.out
          go_upto_region 14 with fail
          generalize hW : World.setCell (World.setCell w1 ⟨ge, 2, none⟩ (.int .i64 1)) ⟨ge, 3, none⟩ (.int .i64 0) = W_s
          have E4 := Lib.hid (show RV W_s ge 1 at_ 1 0 from by subst hW; exact ⟨⟨by simp [*, go_sem], by simp [*, go_sem], by simp [*, go_sem], by simp [*, go_sem]⟩, by simp [*, go_sem], by simp [*, go_sem], by simp [*, go_sem], by simp [*, go_sem]⟩)
          have kws : Kept w9 W_s := by subst hW; exact (kwn1.setCell (a := ⟨ge, 2, none⟩) gb _).setCell (a := ⟨ge, 3, none⟩) gb _
          clear hW c0 c1 c2 c3 f0 f1 f2 f3 E3 kwn1 ne
          obtain ⟨c0, c1, c2, c3⟩ := E4.out.1
          go_wp2_with fail
          refine (Q2.out _).mono ?_
          rintro e w2 ⟨rfl, k2⟩
          go_wp2
          go_roundw
          case rel => exact ⟨1 + 1, by omega, by omega, by go_num, Kept.trans kws k2⟩
          case measure => simp [intOf] <;> omega
        · have tz : (t == 0) = false := by simp [t0]
          by_cases t1 : t < 1
          · have e1 : decide (1 ≤ t) = false := by simp; omega
            have hb := HBD.out
            have E1 := Lib.hid (show chkV (1, at_, b, 0) = 201 from by unfold chkV rttV; dsimp only; (repeat' split) <;> omega)
            clear hb
            have E2 := Lib.hid (show chkV (1, at_, 1, t) = 201 from by unfold chkV rttV; dsimp only; (repeat' split) <;> omega)
            have Q1 := Lib.hid (fun w_ => CC'.out 1 at_ b 0 201 (by unfold In64; omega) (by unfold In64; omega) IB.out (by unfold In64; decide) E1.out w_)
            have Q2 := Lib.hid (fun w_ => CC'.out 1 at_ 1 t 201 (by unfold In64; omega) (by unfold In64; omega) (by unfold In64; decide) IT.out E2.out w_)
            go_upto_region 7 with fail
            generalize hW : World.alloc wr (.cells #[.int .i64 1, .int .i64 at_, .int .i64 b, .int .i64 0] 23) = W_e
            have K_e : Kept wr W_e := by subst hW; exact (Kept.refl _).alloc _ _
            have E0 := Lib.hid (show RV W_e wr.heap.size 1 at_ b 0 from by subst hW; exact ⟨⟨by simp [go_sem], by simp [go_sem], by simp [go_sem], by simp [go_sem]⟩, by simp [go_sem], by simp [go_sem], by simp [go_sem], by simp [go_sem]⟩)
            clear hW
            have gb : w9.heap.size ≤ wr.heap.size := Kept.below kw
            generalize wr.heap.size = ge at *
            have kwe := Kept.trans kw K_e
            clear K_e kw
            obtain ⟨c0, c1, c2, c3⟩ := E0.out.1
            go_wp2_with fail
            refine (Q1.out _).mono ?_
            rintro e w1 ⟨rfl, k1⟩
            clear c0 c1 c2 c3
            have E3 := Lib.hid (E0.out.kept k1)
            have kwn1 := Kept.trans kwe k1
            clear E0 kwe k1
            have ne := E3.out.ne
            obtain ⟨⟨c0, c1, c2, c3⟩, f0, f1, f2, f3⟩ := E3.out
            go_upto_region 14 with fail
            generalize hW : World.setCell (World.setCell w1 ⟨ge, 2, none⟩ (.int .i64 1)) ⟨ge, 3, none⟩ (.int .i64 t) = W_s
            have E4 := Lib.hid (show RV W_s ge 1 at_ 1 t from by subst hW; exact ⟨⟨by simp [*, go_sem], by simp [*, go_sem], by simp [*, go_sem], by simp [*, go_sem]⟩, by simp [*, go_sem], by simp [*, go_sem], by simp [*, go_sem], by simp [*, go_sem]⟩)
            have kws : Kept w9 W_s := by subst hW; exact (kwn1.setCell (a := ⟨ge, 2, none⟩) gb _).setCell (a := ⟨ge, 3, none⟩) gb _
            clear hW c0 c1 c2 c3 f0 f1 f2 f3 E3 kwn1 ne
            obtain ⟨c0, c1, c2, c3⟩ := E4.out.1
            go_wp2_with fail
            refine (Q2.out _).mono ?_
            rintro e w2 ⟨rfl, k2⟩
            go_wp2
            go_roundw
            case rel => exact ⟨1 + 1, by omega, by omega, by go_num, Kept.trans kws k2⟩
            case measure => simp [intOf] <;> omega
          · have e1 : decide (1 ≤ t) = true := decide_eq_true (by omega)
            by_cases t2 : t ≤ 1073741824
            · have e2 : decide (t ≤ 1073741824) = true := decide_eq_true t2
              have hb := HBD.out
              have E1 := Lib.hid (show chkV (1, at_, b, 0) = 201 from by unfold chkV rttV; dsimp only; (repeat' split) <;> omega)
              clear hb
              have E2 := Lib.hid (show chkV (1, at_, 1, t) = 0 from by unfold chkV rttV; dsimp only; (repeat' split) <;> omega)
              have Q1 := Lib.hid (fun w_ => CC'.out 1 at_ b 0 201 (by unfold In64; omega) (by unfold In64; omega) IB.out (by unfold In64; decide) E1.out w_)
              have Q2 := Lib.hid (fun w_ => CC'.out 1 at_ 1 t 0 (by unfold In64; omega) (by unfold In64; omega) (by unfold In64; decide) IT.out E2.out w_)
              go_upto_region 7 with fail
              generalize hW : World.alloc wr (.cells #[.int .i64 1, .int .i64 at_, .int .i64 b, .int .i64 0] 23) = W_e
              have K_e : Kept wr W_e := by subst hW; exact (Kept.refl _).alloc _ _
              have E0 := Lib.hid (show RV W_e wr.heap.size 1 at_ b 0 from by subst hW; exact ⟨⟨by simp [go_sem], by simp [go_sem], by simp [go_sem], by simp [go_sem]⟩, by simp [go_sem], by simp [go_sem], by simp [go_sem], by simp [go_sem]⟩)
              clear hW
              have gb : w9.heap.size ≤ wr.heap.size := Kept.below kw
              generalize wr.heap.size = ge at *
              have kwe := Kept.trans kw K_e
              clear K_e kw
              obtain ⟨c0, c1, c2, c3⟩ := E0.out.1
              go_wp2_with fail
              refine (Q1.out _).mono ?_
              rintro e w1 ⟨rfl, k1⟩
              clear c0 c1 c2 c3
              have E3 := Lib.hid (E0.out.kept k1)
              have kwn1 := Kept.trans kwe k1
              clear E0 kwe k1
              have ne := E3.out.ne
              obtain ⟨⟨c0, c1, c2, c3⟩, f0, f1, f2, f3⟩ := E3.out
              go_upto_region 14 with fail
              generalize hW : World.setCell (World.setCell w1 ⟨ge, 2, none⟩ (.int .i64 1)) ⟨ge, 3, none⟩ (.int .i64 t) = W_s
              have E4 := Lib.hid (show RV W_s ge 1 at_ 1 t from by subst hW; exact ⟨⟨by simp [*, go_sem], by simp [*, go_sem], by simp [*, go_sem], by simp [*, go_sem]⟩, by simp [*, go_sem], by simp [*, go_sem], by simp [*, go_sem], by simp [*, go_sem]⟩)
              have kws : Kept w9 W_s := by subst hW; exact (kwn1.setCell (a := ⟨ge, 2, none⟩) gb _).setCell (a := ⟨ge, 3, none⟩) gb _
              clear hW c0 c1 c2 c3 f0 f1 f2 f3 E3 kwn1 ne
              obtain ⟨c0, c1, c2, c3⟩ := E4.out.1
              go_wp2_with fail
              refine (Q2.out _).mono ?_
              rintro e w2 ⟨rfl, k2⟩
              go_wp2
              go_roundw
              case rel => exact ⟨1 + 1, by omega, by omega, by go_num, Kept.trans kws k2⟩
              case measure => simp [intOf] <;> omega
            · have e2 : decide (t ≤ 1073741824) = false := by simp; omega
              have hb := HBD.out
              have E1 := Lib.hid (show chkV (1, at_, b, 0) = 201 from by unfold chkV rttV; dsimp only; (repeat' split) <;> omega)
              clear hb
              have E2 := Lib.hid (show chkV (1, at_, 1, t) = 201 from by unfold chkV rttV; dsimp only; (repeat' split) <;> omega)
              have Q1 := Lib.hid (fun w_ => CC'.out 1 at_ b 0 201 (by unfold In64; omega) (by unfold In64; omega) IB.out (by unfold In64; decide) E1.out w_)
              have Q2 := Lib.hid (fun w_ => CC'.out 1 at_ 1 t 201 (by unfold In64; omega) (by unfold In64; omega) (by unfold In64; decide) IT.out E2.out w_)
              go_upto_region 7 with fail
              generalize hW : World.alloc wr (.cells #[.int .i64 1, .int .i64 at_, .int .i64 b, .int .i64 0] 23) = W_e
              have K_e : Kept wr W_e := by subst hW; exact (Kept.refl _).alloc _ _
              have E0 := Lib.hid (show RV W_e wr.heap.size 1 at_ b 0 from by subst hW; exact ⟨⟨by simp [go_sem], by simp [go_sem], by simp [go_sem], by simp [go_sem]⟩, by simp [go_sem], by simp [go_sem], by simp [go_sem], by simp [go_sem]⟩)
              clear hW
              have gb : w9.heap.size ≤ wr.heap.size := Kept.below kw
              generalize wr.heap.size = ge at *
              have kwe := Kept.trans kw K_e
              clear K_e kw
              obtain ⟨c0, c1, c2, c3⟩ := E0.out.1
              go_wp2_with fail
              refine (Q1.out _).mono ?_
              rintro e w1 ⟨rfl, k1⟩
              clear c0 c1 c2 c3
              have E3 := Lib.hid (E0.out.kept k1)
              have kwn1 := Kept.trans kwe k1
              clear E0 kwe k1
              have ne := E3.out.ne
              obtain ⟨⟨c0, c1, c2, c3⟩, f0, f1, f2, f3⟩ := E3.out
              go_upto_region 14 with fail
              generalize hW : World.setCell (World.setCell w1 ⟨ge, 2, none⟩ (.int .i64 1)) ⟨ge, 3, none⟩ (.int .i64 t) = W_s
              have E4 := Lib.hid (show RV W_s ge 1 at_ 1 t from by subst hW; exact ⟨⟨by simp [*, go_sem], by simp [*, go_sem], by simp [*, go_sem], by simp [*, go_sem]⟩, by simp [*, go_sem], by simp [*, go_sem], by simp [*, go_sem], by simp [*, go_sem]⟩)
              have kws : Kept w9 W_s := by subst hW; exact (kwn1.setCell (a := ⟨ge, 2, none⟩) gb _).setCell (a := ⟨ge, 3, none⟩) gb _
              clear hW c0 c1 c2 c3 f0 f1 f2 f3 E3 kwn1 ne
              obtain ⟨c0, c1, c2, c3⟩ := E4.out.1
              go_wp2_with fail
              refine (Q2.out _).mono ?_
              rintro e w2 ⟨rfl, k2⟩
              go_wp2
              go_roundw
              case rel => exact ⟨1 + 1, by omega, by omega, by go_num, Kept.trans kws k2⟩
              case measure => simp [intOf] <;> omega
      by_cases hk2 : j = 2
      · subst hk2
        by_cases t0 : t = 0
        · subst t0
          have hb := HBD.out
          have E1 := Lib.hid (show chkV (2, at_, b, 0) = 201 from by unfold chkV rttV; dsimp only; (repeat' split) <;> omega)
          clear hb
          have E2 := Lib.hid (show chkV (2, at_, 1, 0) = 0 from by unfold chkV rttV; dsimp only; (repeat' split) <;> omega)
          have Q1 := Lib.hid (fun w_ => CC'.out 2 at_ b 0 201 (by unfold In64; omega) (by unfold In64; omega) IB.out (by unfold In64; decide) E1.out w_)
          have Q2 := Lib.hid (fun w_ => CC'.out 2 at_ 1 0 0 (by unfold In64; omega) (by unfold In64; omega) (by unfold In64; decide) (by unfold In64; decide) E2.out w_)
          go_upto_region 7 with fail
          generalize hW : World.alloc wr (.cells #[.int .i64 2, .int .i64 at_, .int .i64 b, .int .i64 0] 23) = W_e
          have K_e : Kept wr W_e := by subst hW; exact (Kept.refl _).alloc _ _
          have E0 := Lib.hid (show RV W_e wr.heap.size 2 at_ b 0 from by subst hW; exact ⟨⟨by simp [go_sem], by simp [go_sem], by simp [go_sem], by simp [go_sem]⟩, by simp [go_sem], by simp [go_sem], by simp [go_sem], by simp [go_sem]⟩)
          clear hW
          have gb : w9.heap.size ≤ wr.heap.size := Kept.below kw
          generalize wr.heap.size = ge at *
          have kwe := Kept.trans kw K_e
          clear K_e kw
          obtain ⟨c0, c1, c2, c3⟩ := E0.out.1
          go_wp2_with fail
          refine (Q1.out _).mono ?_
          rintro e w1 ⟨rfl, k1⟩
          clear c0 c1 c2 c3
          have E3 := Lib.hid (E0.out.kept k1)
          have kwn1 := Kept.trans kwe k1
          clear E0 kwe k1
          have ne := E3.out.ne
          obtain ⟨⟨c0, c1, c2, c3⟩, f0, f1, f2, f3⟩ := E3.out
          go_upto_region 14 with fail
          generalize hW : World.setCell (World.setCell w1 ⟨ge, 2, none⟩ (.int .i64 1)) ⟨ge, 3, none⟩ (.int .i64 0) = W_s
          have E4 := Lib.hid (show RV W_s ge 2 at_ 1 0 from by subst hW; exact ⟨⟨by simp [*, go_sem], by simp [*, go_sem], by simp [*, go_sem], by simp [*, go_sem]⟩, by simp [*, go_sem], by simp [*, go_sem], by simp [*, go_sem], by simp [*, go_sem]⟩)
          have kws : Kept w9 W_s := by subst hW; exact (kwn1.setCell (a := ⟨ge, 2, none⟩) gb _).setCell (a := ⟨ge, 3, none⟩) gb _
          clear hW c0 c1 c2 c3 f0 f1 f2 f3 E3 kwn1 ne
          obtain ⟨c0, c1, c2, c3⟩ := E4.out.1
          go_wp2_with fail
          refine (Q2.out _).mono ?_
          rintro e w2 ⟨rfl, k2⟩
          go_wp2
          go_roundw
          case rel => exact ⟨2 + 1, by omega, by omega, by go_num, Kept.trans kws k2⟩
          case measure => simp [intOf] <;> omega
        · have tz : (t == 0) = false := by simp [t0]
          have hb := HBD.out
          have E1 := Lib.hid (show chkV (2, at_, b, 0) = 201 from by unfold chkV rttV; dsimp only; (repeat' split) <;> omega)
          clear hb
          have E2 := Lib.hid (show chkV (2, at_, 1, t) = 201 from by unfold chkV rttV; dsimp only; (repeat' split) <;> omega)
          have Q1 := Lib.hid (fun w_ => CC'.out 2 at_ b 0 201 (by unfold In64; omega) (by unfold In64; omega) IB.out (by unfold In64; decide) E1.out w_)
          have Q2 := Lib.hid (fun w_ => CC'.out 2 at_ 1 t 201 (by unfold In64; omega) (by unfold In64; omega) (by unfold In64; decide) IT.out E2.out w_)
          go_upto_region 7 with fail
          generalize hW : World.alloc wr (.cells #[.int .i64 2, .int .i64 at_, .int .i64 b, .int .i64 0] 23) = W_e
          have K_e : Kept wr W_e := by subst hW; exact (Kept.refl _).alloc _ _
          have E0 := Lib.hid (show RV W_e wr.heap.size 2 at_ b 0 from by subst hW; exact ⟨⟨by simp [go_sem], by simp [go_sem], by simp [go_sem], by simp [go_sem]⟩, by simp [go_sem], by simp [go_sem], by simp [go_sem], by simp [go_sem]⟩)
          clear hW
          have gb : w9.heap.size ≤ wr.heap.size := Kept.below kw
          generalize wr.heap.size = ge at *
          have kwe := Kept.trans kw K_e
          clear K_e kw
          obtain ⟨c0, c1, c2, c3⟩ := E0.out.1
          go_wp2_with fail
          refine (Q1.out _).mono ?_
          rintro e w1 ⟨rfl, k1⟩
          clear c0 c1 c2 c3
          have E3 := Lib.hid (E0.out.kept k1)
          have kwn1 := Kept.trans kwe k1
          clear E0 kwe k1
          have ne := E3.out.ne
          obtain ⟨⟨c0, c1, c2, c3⟩, f0, f1, f2, f3⟩ := E3.out
          go_upto_region 14 with fail
          generalize hW : World.setCell (World.setCell w1 ⟨ge, 2, none⟩ (.int .i64 1)) ⟨ge, 3, none⟩ (.int .i64 t) = W_s
          have E4 := Lib.hid (show RV W_s ge 2 at_ 1 t from by subst hW; exact ⟨⟨by simp [*, go_sem], by simp [*, go_sem], by simp [*, go_sem], by simp [*, go_sem]⟩, by simp [*, go_sem], by simp [*, go_sem], by simp [*, go_sem], by simp [*, go_sem]⟩)
          have kws : Kept w9 W_s := by subst hW; exact (kwn1.setCell (a := ⟨ge, 2, none⟩) gb _).setCell (a := ⟨ge, 3, none⟩) gb _
          clear hW c0 c1 c2 c3 f0 f1 f2 f3 E3 kwn1 ne
          obtain ⟨c0, c1, c2, c3⟩ := E4.out.1
          go_wp2_with fail
          refine (Q2.out _).mono ?_
          rintro e w2 ⟨rfl, k2⟩
          go_wp2
          go_roundw
          case rel => exact ⟨2 + 1, by omega, by omega, by go_num, Kept.trans kws k2⟩
          case measure => simp [intOf] <;> omega
      by_cases hk6 : j = 6
      · subst hk6
        by_cases t0 : t = 0
        · subst t0
          have hb := HBD.out
          have E1 := Lib.hid (show chkV (6, at_, b, 0) = 201 from by unfold chkV rttV; dsimp only; (repeat' split) <;> omega)
          clear hb
          have E2 := Lib.hid (show chkV (6, at_, 1, 0) = 0 from by unfold chkV rttV; dsimp only; (repeat' split) <;> omega)
          have Q1 := Lib.hid (fun w_ => CC'.out 6 at_ b 0 201 (by unfold In64; omega) (by unfold In64; omega) IB.out (by unfold In64; decide) E1.out w_)
          have Q2 := Lib.hid (fun w_ => CC'.out 6 at_ 1 0 0 (by unfold In64; omega) (by unfold In64; omega) (by unfold In64; decide) (by unfold In64; decide) E2.out w_)
          go_upto_region 7 with fail
          generalize hW : World.alloc wr (.cells #[.int .i64 6, .int .i64 at_, .int .i64 b, .int .i64 0] 23) = W_e
          have K_e : Kept wr W_e := by subst hW; exact (Kept.refl _).alloc _ _
          have E0 := Lib.hid (show RV W_e wr.heap.size 6 at_ b 0 from by subst hW; exact ⟨⟨by simp [go_sem], by simp [go_sem], by simp [go_sem], by simp [go_sem]⟩, by simp [go_sem], by simp [go_sem], by simp [go_sem], by simp [go_sem]⟩)
          clear hW
          have gb : w9.heap.size ≤ wr.heap.size := Kept.below kw
          generalize wr.heap.size = ge at *
          have kwe := Kept.trans kw K_e
          clear K_e kw
          obtain ⟨c0, c1, c2, c3⟩ := E0.out.1
          go_wp2_with fail
          refine (Q1.out _).mono ?_
          rintro e w1 ⟨rfl, k1⟩
          clear c0 c1 c2 c3
          have E3 := Lib.hid (E0.out.kept k1)
          have kwn1 := Kept.trans kwe k1
          clear E0 kwe k1
          have ne := E3.out.ne
          obtain ⟨⟨c0, c1, c2, c3⟩, f0, f1, f2, f3⟩ := E3.out
          go_upto_region 14 with fail
          generalize hW : World.setCell (World.setCell w1 ⟨ge, 2, none⟩ (.int .i64 1)) ⟨ge, 3, none⟩ (.int .i64 0) = W_s
          have E4 := Lib.hid (show RV W_s ge 6 at_ 1 0 from by subst hW; exact ⟨⟨by simp [*, go_sem], by simp [*, go_sem], by simp [*, go_sem], by simp [*, go_sem]⟩, by simp [*, go_sem], by simp [*, go_sem], by simp [*, go_sem], by simp [*, go_sem]⟩)
          have kws : Kept w9 W_s := by subst hW; exact (kwn1.setCell (a := ⟨ge, 2, none⟩) gb _).setCell (a := ⟨ge, 3, none⟩) gb _
          clear hW c0 c1 c2 c3 f0 f1 f2 f3 E3 kwn1 ne
          obtain ⟨c0, c1, c2, c3⟩ := E4.out.1
          go_wp2_with fail
          refine (Q2.out _).mono ?_
          rintro e w2 ⟨rfl, k2⟩
          go_wp2
          go_roundw
          case rel => exact ⟨6 + 1, by omega, by omega, by go_num, Kept.trans kws k2⟩
          case measure => simp [intOf] <;> omega
        · have tz : (t == 0) = false := by simp [t0]
          have hb := HBD.out
          have E1 := Lib.hid (show chkV (6, at_, b, 0) = 201 from by unfold chkV rttV; dsimp only; (repeat' split) <;> omega)
          clear hb
          have E2 := Lib.hid (show chkV (6, at_, 1, t) = 201 from by unfold chkV rttV; dsimp only; (repeat' split) <;> omega)
          have Q1 := Lib.hid (fun w_ => CC'.out 6 at_ b 0 201 (by unfold In64; omega) (by unfold In64; omega) IB.out (by unfold In64; decide) E1.out w_)
          have Q2 := Lib.hid (fun w_ => CC'.out 6 at_ 1 t 201 (by unfold In64; omega) (by unfold In64; omega) (by unfold In64; decide) IT.out E2.out w_)
          go_upto_region 7 with fail
          generalize hW : World.alloc wr (.cells #[.int .i64 6, .int .i64 at_, .int .i64 b, .int .i64 0] 23) = W_e
          have K_e : Kept wr W_e := by subst hW; exact (Kept.refl _).alloc _ _
          have E0 := Lib.hid (show RV W_e wr.heap.size 6 at_ b 0 from by subst hW; exact ⟨⟨by simp [go_sem], by simp [go_sem], by simp [go_sem], by simp [go_sem]⟩, by simp [go_sem], by simp [go_sem], by simp [go_sem], by simp [go_sem]⟩)
          clear hW
          have gb : w9.heap.size ≤ wr.heap.size := Kept.below kw
          generalize wr.heap.size = ge at *
          have kwe := Kept.trans kw K_e
          clear K_e kw
          obtain ⟨c0, c1, c2, c3⟩ := E0.out.1
          go_wp2_with fail
          refine (Q1.out _).mono ?_
          rintro e w1 ⟨rfl, k1⟩
          clear c0 c1 c2 c3
          have E3 := Lib.hid (E0.out.kept k1)
          have kwn1 := Kept.trans kwe k1
          clear E0 kwe k1
          have ne := E3.out.ne
          obtain ⟨⟨c0, c1, c2, c3⟩, f0, f1, f2, f3⟩ := E3.out
          go_upto_region 14 with fail
          generalize hW : World.setCell (World.setCell w1 ⟨ge, 2, none⟩ (.int .i64 1)) ⟨ge, 3, none⟩ (.int .i64 t) = W_s
          have E4 := Lib.hid (show RV W_s ge 6 at_ 1 t from by subst hW; exact ⟨⟨by simp [*, go_sem], by simp [*, go_sem], by simp [*, go_sem], by simp [*, go_sem]⟩, by simp [*, go_sem], by simp [*, go_sem], by simp [*, go_sem], by simp [*, go_sem]⟩)
          have kws : Kept w9 W_s := by subst hW; exact (kwn1.setCell (a := ⟨ge, 2, none⟩) gb _).setCell (a := ⟨ge, 3, none⟩) gb _
          clear hW c0 c1 c2 c3 f0 f1 f2 f3 E3 kwn1 ne
          obtain ⟨c0, c1, c2, c3⟩ := E4.out.1
          go_wp2_with fail
          refine (Q2.out _).mono ?_
          rintro e w2 ⟨rfl, k2⟩
          go_wp2
          go_roundw
          case rel => exact ⟨6 + 1, by omega, by omega, by go_num, Kept.trans kws k2⟩
          case measure => simp [intOf] <;> omega
      by_cases t0 : t = 0
      · subst t0
        have k1 : (j == 1) = false := by simp [hk1]
        have k2 : (j == 2) = false := by simp [hk2]
        have k6 : (j == 6) = false := by simp [hk6]
        obtain ⟨n1, hn1⟩ : ∃ n1, chkV (j, at_, b, 0) = n1 := ⟨_, rfl⟩
        have E1 := Lib.hid hn1
        obtain ⟨zb, hzb⟩ : ∃ zb, (b == 0) = zb := ⟨_, rfl⟩
        have hz1 : (n1 == 0) = zb := by rw [← hzb, ← hn1]; exact other_zero ⟨j1, hlt⟩ ⟨hk1, hk2, hk6⟩ ⟨a0, a1⟩
        clear hn1
        have E2 := Lib.hid (show chkV (j, at_, 0, 0) = 0 from by unfold chkV rttV; dsimp only; (repeat' split) <;> omega)
        have Q1 := Lib.hid (fun w_ => CC'.out j at_ b 0 n1 (by unfold In64; omega) (by unfold In64; omega) IB.out (by unfold In64; decide) E1.out w_)
        have Q2 := Lib.hid (fun w_ => CC'.out j at_ 0 0 0 (by unfold In64; omega) (by unfold In64; omega) (by unfold In64; decide) (by unfold In64; decide) E2.out w_)
        go_upto_region 7 with fail
        generalize hW : World.alloc wr (.cells #[.int .i64 j, .int .i64 at_, .int .i64 b, .int .i64 0] 23) = W_e
        have K_e : Kept wr W_e := by subst hW; exact (Kept.refl _).alloc _ _
        have E0 := Lib.hid (show RV W_e wr.heap.size j at_ b 0 from by subst hW; exact ⟨⟨by simp [go_sem], by simp [go_sem], by simp [go_sem], by simp [go_sem]⟩, by simp [go_sem], by simp [go_sem], by simp [go_sem], by simp [go_sem]⟩)
        clear hW
        have gb : w9.heap.size ≤ wr.heap.size := Kept.below kw
        generalize wr.heap.size = ge at *
        have kwe := Kept.trans kw K_e
        clear K_e kw
        obtain ⟨c0, c1, c2, c3⟩ := E0.out.1
        go_wp2_with fail
        refine (Q1.out _).mono ?_
        rintro e w1 ⟨rfl, k1⟩
        clear c0 c1 c2 c3
        have E3 := Lib.hid (E0.out.kept k1)
        have kwn1 := Kept.trans kwe k1
        clear E0 kwe k1
        have ne := E3.out.ne
        obtain ⟨⟨c0, c1, c2, c3⟩, f0, f1, f2, f3⟩ := E3.out
        go_upto_region 14 with fail
        generalize hW : World.setCell (World.setCell w1 ⟨ge, 2, none⟩ (.int .i64 0)) ⟨ge, 3, none⟩ (.int .i64 0) = W_s
        have E4 := Lib.hid (show RV W_s ge j at_ 0 0 from by subst hW; exact ⟨⟨by simp [*, go_sem], by simp [*, go_sem], by simp [*, go_sem], by simp [*, go_sem]⟩, by simp [*, go_sem], by simp [*, go_sem], by simp [*, go_sem], by simp [*, go_sem]⟩)
        have kws : Kept w9 W_s := by subst hW; exact (kwn1.setCell (a := ⟨ge, 2, none⟩) gb _).setCell (a := ⟨ge, 3, none⟩) gb _
        clear hW c0 c1 c2 c3 f0 f1 f2 f3 E3 kwn1 ne
        obtain ⟨c0, c1, c2, c3⟩ := E4.out.1
        go_wp2_with fail
        refine (Q2.out _).mono ?_
        rintro e w2 ⟨rfl, k2⟩
        go_wp2
        go_roundw
        case rel => exact ⟨j + 1, by omega, by omega, by go_num, Kept.trans kws k2⟩
        case measure => simp [intOf] <;> omega
      · have tz : (t == 0) = false := by simp [t0]
        have k1 : (j == 1) = false := by simp [hk1]
        have k2 : (j == 2) = false := by simp [hk2]
        have k6 : (j == 6) = false := by simp [hk6]
        obtain ⟨n1, hn1⟩ : ∃ n1, chkV (j, at_, b, 0) = n1 := ⟨_, rfl⟩
        have E1 := Lib.hid hn1
        obtain ⟨zb, hzb⟩ : ∃ zb, (b == 0) = zb := ⟨_, rfl⟩
        have hz1 : (n1 == 0) = zb := by rw [← hzb, ← hn1]; exact other_zero ⟨j1, hlt⟩ ⟨hk1, hk2, hk6⟩ ⟨a0, a1⟩
        clear hn1
        have E2 := Lib.hid (show chkV (j, at_, 0, t) = 201 from by unfold chkV rttV; dsimp only; (repeat' split) <;> omega)
        have Q1 := Lib.hid (fun w_ => CC'.out j at_ b 0 n1 (by unfold In64; omega) (by unfold In64; omega) IB.out (by unfold In64; decide) E1.out w_)
        have Q2 := Lib.hid (fun w_ => CC'.out j at_ 0 t 201 (by unfold In64; omega) (by unfold In64; omega) (by unfold In64; decide) IT.out E2.out w_)
        go_upto_region 7 with fail
        generalize hW : World.alloc wr (.cells #[.int .i64 j, .int .i64 at_, .int .i64 b, .int .i64 0] 23) = W_e
        have K_e : Kept wr W_e := by subst hW; exact (Kept.refl _).alloc _ _
        have E0 := Lib.hid (show RV W_e wr.heap.size j at_ b 0 from by subst hW; exact ⟨⟨by simp [go_sem], by simp [go_sem], by simp [go_sem], by simp [go_sem]⟩, by simp [go_sem], by simp [go_sem], by simp [go_sem], by simp [go_sem]⟩)
        clear hW
        have gb : w9.heap.size ≤ wr.heap.size := Kept.below kw
        generalize wr.heap.size = ge at *
        have kwe := Kept.trans kw K_e
        clear K_e kw
        obtain ⟨c0, c1, c2, c3⟩ := E0.out.1
        go_wp2_with fail
        refine (Q1.out _).mono ?_
        rintro e w1 ⟨rfl, k1⟩
        clear c0 c1 c2 c3
        have E3 := Lib.hid (E0.out.kept k1)
        have kwn1 := Kept.trans kwe k1
        clear E0 kwe k1
        have ne := E3.out.ne
        obtain ⟨⟨c0, c1, c2, c3⟩, f0, f1, f2, f3⟩ := E3.out
        go_upto_region 14 with fail
        generalize hW : World.setCell (World.setCell w1 ⟨ge, 2, none⟩ (.int .i64 0)) ⟨ge, 3, none⟩ (.int .i64 t) = W_s
        have E4 := Lib.hid (show RV W_s ge j at_ 0 t from by subst hW; exact ⟨⟨by simp [*, go_sem], by simp [*, go_sem], by simp [*, go_sem], by simp [*, go_sem]⟩, by simp [*, go_sem], by simp [*, go_sem], by simp [*, go_sem], by simp [*, go_sem]⟩)
        have kws : Kept w9 W_s := by subst hW; exact (kwn1.setCell (a := ⟨ge, 2, none⟩) gb _).setCell (a := ⟨ge, 3, none⟩) gb _
        clear hW c0 c1 c2 c3 f0 f1 f2 f3 E3 kwn1 ne
        obtain ⟨c0, c1, c2, c3⟩ := E4.out.1
        go_wp2_with fail
        refine (Q2.out _).mono ?_
        rintro e w2 ⟨rfl, k2⟩
        go_wp2
        go_roundw
        case rel => exact ⟨j + 1, by omega, by omega, by go_num, Kept.trans kws k2⟩
        case measure => simp [intOf] <;> omega
    · have dl : decide (j ≤ 7) = false := by simp; omega
      go_wp2
      go_ret
      exact ⟨rfl, Kept.trans k0 kw⟩
set_option maxRecDepth 100000 in
set_option maxHeartbeats 6400000 in
theorem kinds20_hi (CC : EvCheckC) (DC : EvDecC) (NC : EvEncC) (AC : EvAllC) {at_ b t : Int} (a0 : 0 ≤ at_) (a1 : at_ ≤ 4294967295) (ib : In64 b) (it : In64 t) (hb : 1073741824 < b)  (w : World)  : Calls Try.prog 6 #[.int .u32 at_, .int .i64 b, .int .i64 t] w fun e w' => e = .returned (.bool true) ∧ Kept w w' := by
  have CC' := Lib.hid CC
  have DC' := Lib.hid DC
  have NC' := Lib.hid NC
  have AC' := Lib.hid AC
  have AW' := Lib.hid (fun w => awake20 CC DC NC AC w)
  clear CC DC NC AC
  have s1 : decide (1 ≤ b) = true := decide_eq_true (by omega)
  have s2 : decide (b ≤ 1073741824) = false := by simp; omega
  have IB := Lib.hid ib
  have IT := Lib.hid it
  have HBD := Lib.hid hb
  clear ib it hb
  go_enter Try.func6, Try.ntmps6
  go_wp2_with fail
  refine (AW'.out _).mono ?_
  rintro e w20 ⟨rfl, k20⟩
  have k0 : Kept w w20 := (by (repeat (first | with_reducible exact Kept.refl _ | with_reducible apply Kept.drew | with_reducible apply Kept.alloc | ((with_reducible apply Kept.set); focus (simp <;> omega)) | ((with_reducible apply Kept.via); focus with_reducible assumption))))
  generalize w20 = w9 at *
  go_wp2
  go_loopw [9] (fun s9 wr => ∃ j : Int, 1 ≤ j ∧ j ≤ 8 ∧ s9 = .int .i64 j ∧ Kept w9 wr) (fun s9 _ => (8 - intOf s9).toNat)
  case atStart => exact ⟨1, by omega, by omega, rfl, Kept.refl _⟩
  case round =>
    obtain ⟨j, j1, j8, rfl, kw⟩ := hrel
    by_cases hlt : j ≤ 7
    · have dl : decide (j ≤ 7) = true := decide_eq_true hlt
      by_cases hk1 : j = 1
      · subst hk1
        by_cases t0 : t = 0
        · subst t0
          have hb := HBD.out
          have E1 := Lib.hid (show chkV (1, at_, b, 0) = 201 from by unfold chkV rttV; dsimp only; (repeat' split) <;> omega)
          clear hb
          have E2 := Lib.hid (show chkV (1, at_, 1, 0) = 0 from by unfold chkV rttV; dsimp only; (repeat' split) <;> omega)
          have Q1 := Lib.hid (fun w_ => CC'.out 1 at_ b 0 201 (by unfold In64; omega) (by unfold In64; omega) IB.out (by unfold In64; decide) E1.out w_)
          have Q2 := Lib.hid (fun w_ => CC'.out 1 at_ 1 0 0 (by unfold In64; omega) (by unfold In64; omega) (by unfold In64; decide) (by unfold In64; decide) E2.out w_)
          go_upto_region 7 with fail
          generalize hW : World.alloc wr (.cells #[.int .i64 1, .int .i64 at_, .int .i64 b, .int .i64 0] 23) = W_e
          have K_e : Kept wr W_e := by subst hW; exact (Kept.refl _).alloc _ _
          have E0 := Lib.hid (show RV W_e wr.heap.size 1 at_ b 0 from by subst hW; exact ⟨⟨by simp [go_sem], by simp [go_sem], by simp [go_sem], by simp [go_sem]⟩, by simp [go_sem], by simp [go_sem], by simp [go_sem], by simp [go_sem]⟩)
          clear hW
          have gb : w9.heap.size ≤ wr.heap.size := Kept.below kw
          generalize wr.heap.size = ge at *
          have kwe := Kept.trans kw K_e
          clear K_e kw
          obtain ⟨c0, c1, c2, c3⟩ := E0.out.1
          go_wp2_with fail
          refine (Q1.out _).mono ?_
          rintro e w1 ⟨rfl, k1⟩
          clear c0 c1 c2 c3
          have E3 := Lib.hid (E0.out.kept k1)
          have kwn1 := Kept.trans kwe k1
          clear E0 kwe k1
          have ne := E3.out.ne
          obtain ⟨⟨c0, c1, c2, c3⟩, f0, f1, f2, f3⟩ := E3.out
          go_upto_region 14 with fail
          generalize hW : World.setCell (World.setCell w1 ⟨ge, 2, none⟩ (.int .i64 1)) ⟨ge, 3, none⟩ (.int .i64 0) = W_s
          have E4 := Lib.hid (show RV W_s ge 1 at_ 1 0 from by subst hW; exact ⟨⟨by simp [*, go_sem], by simp [*, go_sem], by simp [*, go_sem], by simp [*, go_sem]⟩, by simp [*, go_sem], by simp [*, go_sem], by simp [*, go_sem], by simp [*, go_sem]⟩)
          have kws : Kept w9 W_s := by subst hW; exact (kwn1.setCell (a := ⟨ge, 2, none⟩) gb _).setCell (a := ⟨ge, 3, none⟩) gb _
          clear hW c0 c1 c2 c3 f0 f1 f2 f3 E3 kwn1 ne
          obtain ⟨c0, c1, c2, c3⟩ := E4.out.1
          go_wp2_with fail
          refine (Q2.out _).mono ?_
          rintro e w2 ⟨rfl, k2⟩
          go_wp2
          go_roundw
          case rel => exact ⟨1 + 1, by omega, by omega, by go_num, Kept.trans kws k2⟩
          case measure => simp [intOf] <;> omega
        · have tz : (t == 0) = false := by simp [t0]
          by_cases t1 : t < 1
          · have e1 : decide (1 ≤ t) = false := by simp; omega
            have hb := HBD.out
            have E1 := Lib.hid (show chkV (1, at_, b, 0) = 201 from by unfold chkV rttV; dsimp only; (repeat' split) <;> omega)
            clear hb
            have E2 := Lib.hid (show chkV (1, at_, 1, t) = 201 from by unfold chkV rttV; dsimp only; (repeat' split) <;> omega)
            have Q1 := Lib.hid (fun w_ => CC'.out 1 at_ b 0 201 (by unfold In64; omega) (by unfold In64; omega) IB.out (by unfold In64; decide) E1.out w_)
            have Q2 := Lib.hid (fun w_ => CC'.out 1 at_ 1 t 201 (by unfold In64; omega) (by unfold In64; omega) (by unfold In64; decide) IT.out E2.out w_)
            go_upto_region 7 with fail
            generalize hW : World.alloc wr (.cells #[.int .i64 1, .int .i64 at_, .int .i64 b, .int .i64 0] 23) = W_e
            have K_e : Kept wr W_e := by subst hW; exact (Kept.refl _).alloc _ _
            have E0 := Lib.hid (show RV W_e wr.heap.size 1 at_ b 0 from by subst hW; exact ⟨⟨by simp [go_sem], by simp [go_sem], by simp [go_sem], by simp [go_sem]⟩, by simp [go_sem], by simp [go_sem], by simp [go_sem], by simp [go_sem]⟩)
            clear hW
            have gb : w9.heap.size ≤ wr.heap.size := Kept.below kw
            generalize wr.heap.size = ge at *
            have kwe := Kept.trans kw K_e
            clear K_e kw
            obtain ⟨c0, c1, c2, c3⟩ := E0.out.1
            go_wp2_with fail
            refine (Q1.out _).mono ?_
            rintro e w1 ⟨rfl, k1⟩
            clear c0 c1 c2 c3
            have E3 := Lib.hid (E0.out.kept k1)
            have kwn1 := Kept.trans kwe k1
            clear E0 kwe k1
            have ne := E3.out.ne
            obtain ⟨⟨c0, c1, c2, c3⟩, f0, f1, f2, f3⟩ := E3.out
            go_upto_region 14 with fail
            generalize hW : World.setCell (World.setCell w1 ⟨ge, 2, none⟩ (.int .i64 1)) ⟨ge, 3, none⟩ (.int .i64 t) = W_s
            have E4 := Lib.hid (show RV W_s ge 1 at_ 1 t from by subst hW; exact ⟨⟨by simp [*, go_sem], by simp [*, go_sem], by simp [*, go_sem], by simp [*, go_sem]⟩, by simp [*, go_sem], by simp [*, go_sem], by simp [*, go_sem], by simp [*, go_sem]⟩)
            have kws : Kept w9 W_s := by subst hW; exact (kwn1.setCell (a := ⟨ge, 2, none⟩) gb _).setCell (a := ⟨ge, 3, none⟩) gb _
            clear hW c0 c1 c2 c3 f0 f1 f2 f3 E3 kwn1 ne
            obtain ⟨c0, c1, c2, c3⟩ := E4.out.1
            go_wp2_with fail
            refine (Q2.out _).mono ?_
            rintro e w2 ⟨rfl, k2⟩
            go_wp2
            go_roundw
            case rel => exact ⟨1 + 1, by omega, by omega, by go_num, Kept.trans kws k2⟩
            case measure => simp [intOf] <;> omega
          · have e1 : decide (1 ≤ t) = true := decide_eq_true (by omega)
            by_cases t2 : t ≤ 1073741824
            · have e2 : decide (t ≤ 1073741824) = true := decide_eq_true t2
              have hb := HBD.out
              have E1 := Lib.hid (show chkV (1, at_, b, 0) = 201 from by unfold chkV rttV; dsimp only; (repeat' split) <;> omega)
              clear hb
              have E2 := Lib.hid (show chkV (1, at_, 1, t) = 0 from by unfold chkV rttV; dsimp only; (repeat' split) <;> omega)
              have Q1 := Lib.hid (fun w_ => CC'.out 1 at_ b 0 201 (by unfold In64; omega) (by unfold In64; omega) IB.out (by unfold In64; decide) E1.out w_)
              have Q2 := Lib.hid (fun w_ => CC'.out 1 at_ 1 t 0 (by unfold In64; omega) (by unfold In64; omega) (by unfold In64; decide) IT.out E2.out w_)
              go_upto_region 7 with fail
              generalize hW : World.alloc wr (.cells #[.int .i64 1, .int .i64 at_, .int .i64 b, .int .i64 0] 23) = W_e
              have K_e : Kept wr W_e := by subst hW; exact (Kept.refl _).alloc _ _
              have E0 := Lib.hid (show RV W_e wr.heap.size 1 at_ b 0 from by subst hW; exact ⟨⟨by simp [go_sem], by simp [go_sem], by simp [go_sem], by simp [go_sem]⟩, by simp [go_sem], by simp [go_sem], by simp [go_sem], by simp [go_sem]⟩)
              clear hW
              have gb : w9.heap.size ≤ wr.heap.size := Kept.below kw
              generalize wr.heap.size = ge at *
              have kwe := Kept.trans kw K_e
              clear K_e kw
              obtain ⟨c0, c1, c2, c3⟩ := E0.out.1
              go_wp2_with fail
              refine (Q1.out _).mono ?_
              rintro e w1 ⟨rfl, k1⟩
              clear c0 c1 c2 c3
              have E3 := Lib.hid (E0.out.kept k1)
              have kwn1 := Kept.trans kwe k1
              clear E0 kwe k1
              have ne := E3.out.ne
              obtain ⟨⟨c0, c1, c2, c3⟩, f0, f1, f2, f3⟩ := E3.out
              go_upto_region 14 with fail
              generalize hW : World.setCell (World.setCell w1 ⟨ge, 2, none⟩ (.int .i64 1)) ⟨ge, 3, none⟩ (.int .i64 t) = W_s
              have E4 := Lib.hid (show RV W_s ge 1 at_ 1 t from by subst hW; exact ⟨⟨by simp [*, go_sem], by simp [*, go_sem], by simp [*, go_sem], by simp [*, go_sem]⟩, by simp [*, go_sem], by simp [*, go_sem], by simp [*, go_sem], by simp [*, go_sem]⟩)
              have kws : Kept w9 W_s := by subst hW; exact (kwn1.setCell (a := ⟨ge, 2, none⟩) gb _).setCell (a := ⟨ge, 3, none⟩) gb _
              clear hW c0 c1 c2 c3 f0 f1 f2 f3 E3 kwn1 ne
              obtain ⟨c0, c1, c2, c3⟩ := E4.out.1
              go_wp2_with fail
              refine (Q2.out _).mono ?_
              rintro e w2 ⟨rfl, k2⟩
              go_wp2
              go_roundw
              case rel => exact ⟨1 + 1, by omega, by omega, by go_num, Kept.trans kws k2⟩
              case measure => simp [intOf] <;> omega
            · have e2 : decide (t ≤ 1073741824) = false := by simp; omega
              have hb := HBD.out
              have E1 := Lib.hid (show chkV (1, at_, b, 0) = 201 from by unfold chkV rttV; dsimp only; (repeat' split) <;> omega)
              clear hb
              have E2 := Lib.hid (show chkV (1, at_, 1, t) = 201 from by unfold chkV rttV; dsimp only; (repeat' split) <;> omega)
              have Q1 := Lib.hid (fun w_ => CC'.out 1 at_ b 0 201 (by unfold In64; omega) (by unfold In64; omega) IB.out (by unfold In64; decide) E1.out w_)
              have Q2 := Lib.hid (fun w_ => CC'.out 1 at_ 1 t 201 (by unfold In64; omega) (by unfold In64; omega) (by unfold In64; decide) IT.out E2.out w_)
              go_upto_region 7 with fail
              generalize hW : World.alloc wr (.cells #[.int .i64 1, .int .i64 at_, .int .i64 b, .int .i64 0] 23) = W_e
              have K_e : Kept wr W_e := by subst hW; exact (Kept.refl _).alloc _ _
              have E0 := Lib.hid (show RV W_e wr.heap.size 1 at_ b 0 from by subst hW; exact ⟨⟨by simp [go_sem], by simp [go_sem], by simp [go_sem], by simp [go_sem]⟩, by simp [go_sem], by simp [go_sem], by simp [go_sem], by simp [go_sem]⟩)
              clear hW
              have gb : w9.heap.size ≤ wr.heap.size := Kept.below kw
              generalize wr.heap.size = ge at *
              have kwe := Kept.trans kw K_e
              clear K_e kw
              obtain ⟨c0, c1, c2, c3⟩ := E0.out.1
              go_wp2_with fail
              refine (Q1.out _).mono ?_
              rintro e w1 ⟨rfl, k1⟩
              clear c0 c1 c2 c3
              have E3 := Lib.hid (E0.out.kept k1)
              have kwn1 := Kept.trans kwe k1
              clear E0 kwe k1
              have ne := E3.out.ne
              obtain ⟨⟨c0, c1, c2, c3⟩, f0, f1, f2, f3⟩ := E3.out
              go_upto_region 14 with fail
              generalize hW : World.setCell (World.setCell w1 ⟨ge, 2, none⟩ (.int .i64 1)) ⟨ge, 3, none⟩ (.int .i64 t) = W_s
              have E4 := Lib.hid (show RV W_s ge 1 at_ 1 t from by subst hW; exact ⟨⟨by simp [*, go_sem], by simp [*, go_sem], by simp [*, go_sem], by simp [*, go_sem]⟩, by simp [*, go_sem], by simp [*, go_sem], by simp [*, go_sem], by simp [*, go_sem]⟩)
              have kws : Kept w9 W_s := by subst hW; exact (kwn1.setCell (a := ⟨ge, 2, none⟩) gb _).setCell (a := ⟨ge, 3, none⟩) gb _
              clear hW c0 c1 c2 c3 f0 f1 f2 f3 E3 kwn1 ne
              obtain ⟨c0, c1, c2, c3⟩ := E4.out.1
              go_wp2_with fail
              refine (Q2.out _).mono ?_
              rintro e w2 ⟨rfl, k2⟩
              go_wp2
              go_roundw
              case rel => exact ⟨1 + 1, by omega, by omega, by go_num, Kept.trans kws k2⟩
              case measure => simp [intOf] <;> omega
      by_cases hk2 : j = 2
      · subst hk2
        by_cases t0 : t = 0
        · subst t0
          have hb := HBD.out
          have E1 := Lib.hid (show chkV (2, at_, b, 0) = 201 from by unfold chkV rttV; dsimp only; (repeat' split) <;> omega)
          clear hb
          have E2 := Lib.hid (show chkV (2, at_, 1, 0) = 0 from by unfold chkV rttV; dsimp only; (repeat' split) <;> omega)
          have Q1 := Lib.hid (fun w_ => CC'.out 2 at_ b 0 201 (by unfold In64; omega) (by unfold In64; omega) IB.out (by unfold In64; decide) E1.out w_)
          have Q2 := Lib.hid (fun w_ => CC'.out 2 at_ 1 0 0 (by unfold In64; omega) (by unfold In64; omega) (by unfold In64; decide) (by unfold In64; decide) E2.out w_)
          go_upto_region 7 with fail
          generalize hW : World.alloc wr (.cells #[.int .i64 2, .int .i64 at_, .int .i64 b, .int .i64 0] 23) = W_e
          have K_e : Kept wr W_e := by subst hW; exact (Kept.refl _).alloc _ _
          have E0 := Lib.hid (show RV W_e wr.heap.size 2 at_ b 0 from by subst hW; exact ⟨⟨by simp [go_sem], by simp [go_sem], by simp [go_sem], by simp [go_sem]⟩, by simp [go_sem], by simp [go_sem], by simp [go_sem], by simp [go_sem]⟩)
          clear hW
          have gb : w9.heap.size ≤ wr.heap.size := Kept.below kw
          generalize wr.heap.size = ge at *
          have kwe := Kept.trans kw K_e
          clear K_e kw
          obtain ⟨c0, c1, c2, c3⟩ := E0.out.1
          go_wp2_with fail
          refine (Q1.out _).mono ?_
          rintro e w1 ⟨rfl, k1⟩
          clear c0 c1 c2 c3
          have E3 := Lib.hid (E0.out.kept k1)
          have kwn1 := Kept.trans kwe k1
          clear E0 kwe k1
          have ne := E3.out.ne
          obtain ⟨⟨c0, c1, c2, c3⟩, f0, f1, f2, f3⟩ := E3.out
          go_upto_region 14 with fail
          generalize hW : World.setCell (World.setCell w1 ⟨ge, 2, none⟩ (.int .i64 1)) ⟨ge, 3, none⟩ (.int .i64 0) = W_s
          have E4 := Lib.hid (show RV W_s ge 2 at_ 1 0 from by subst hW; exact ⟨⟨by simp [*, go_sem], by simp [*, go_sem], by simp [*, go_sem], by simp [*, go_sem]⟩, by simp [*, go_sem], by simp [*, go_sem], by simp [*, go_sem], by simp [*, go_sem]⟩)
          have kws : Kept w9 W_s := by subst hW; exact (kwn1.setCell (a := ⟨ge, 2, none⟩) gb _).setCell (a := ⟨ge, 3, none⟩) gb _
          clear hW c0 c1 c2 c3 f0 f1 f2 f3 E3 kwn1 ne
          obtain ⟨c0, c1, c2, c3⟩ := E4.out.1
          go_wp2_with fail
          refine (Q2.out _).mono ?_
          rintro e w2 ⟨rfl, k2⟩
          go_wp2
          go_roundw
          case rel => exact ⟨2 + 1, by omega, by omega, by go_num, Kept.trans kws k2⟩
          case measure => simp [intOf] <;> omega
        · have tz : (t == 0) = false := by simp [t0]
          have hb := HBD.out
          have E1 := Lib.hid (show chkV (2, at_, b, 0) = 201 from by unfold chkV rttV; dsimp only; (repeat' split) <;> omega)
          clear hb
          have E2 := Lib.hid (show chkV (2, at_, 1, t) = 201 from by unfold chkV rttV; dsimp only; (repeat' split) <;> omega)
          have Q1 := Lib.hid (fun w_ => CC'.out 2 at_ b 0 201 (by unfold In64; omega) (by unfold In64; omega) IB.out (by unfold In64; decide) E1.out w_)
          have Q2 := Lib.hid (fun w_ => CC'.out 2 at_ 1 t 201 (by unfold In64; omega) (by unfold In64; omega) (by unfold In64; decide) IT.out E2.out w_)
          go_upto_region 7 with fail
          generalize hW : World.alloc wr (.cells #[.int .i64 2, .int .i64 at_, .int .i64 b, .int .i64 0] 23) = W_e
          have K_e : Kept wr W_e := by subst hW; exact (Kept.refl _).alloc _ _
          have E0 := Lib.hid (show RV W_e wr.heap.size 2 at_ b 0 from by subst hW; exact ⟨⟨by simp [go_sem], by simp [go_sem], by simp [go_sem], by simp [go_sem]⟩, by simp [go_sem], by simp [go_sem], by simp [go_sem], by simp [go_sem]⟩)
          clear hW
          have gb : w9.heap.size ≤ wr.heap.size := Kept.below kw
          generalize wr.heap.size = ge at *
          have kwe := Kept.trans kw K_e
          clear K_e kw
          obtain ⟨c0, c1, c2, c3⟩ := E0.out.1
          go_wp2_with fail
          refine (Q1.out _).mono ?_
          rintro e w1 ⟨rfl, k1⟩
          clear c0 c1 c2 c3
          have E3 := Lib.hid (E0.out.kept k1)
          have kwn1 := Kept.trans kwe k1
          clear E0 kwe k1
          have ne := E3.out.ne
          obtain ⟨⟨c0, c1, c2, c3⟩, f0, f1, f2, f3⟩ := E3.out
          go_upto_region 14 with fail
          generalize hW : World.setCell (World.setCell w1 ⟨ge, 2, none⟩ (.int .i64 1)) ⟨ge, 3, none⟩ (.int .i64 t) = W_s
          have E4 := Lib.hid (show RV W_s ge 2 at_ 1 t from by subst hW; exact ⟨⟨by simp [*, go_sem], by simp [*, go_sem], by simp [*, go_sem], by simp [*, go_sem]⟩, by simp [*, go_sem], by simp [*, go_sem], by simp [*, go_sem], by simp [*, go_sem]⟩)
          have kws : Kept w9 W_s := by subst hW; exact (kwn1.setCell (a := ⟨ge, 2, none⟩) gb _).setCell (a := ⟨ge, 3, none⟩) gb _
          clear hW c0 c1 c2 c3 f0 f1 f2 f3 E3 kwn1 ne
          obtain ⟨c0, c1, c2, c3⟩ := E4.out.1
          go_wp2_with fail
          refine (Q2.out _).mono ?_
          rintro e w2 ⟨rfl, k2⟩
          go_wp2
          go_roundw
          case rel => exact ⟨2 + 1, by omega, by omega, by go_num, Kept.trans kws k2⟩
          case measure => simp [intOf] <;> omega
      by_cases hk6 : j = 6
      · subst hk6
        by_cases t0 : t = 0
        · subst t0
          have hb := HBD.out
          have E1 := Lib.hid (show chkV (6, at_, b, 0) = 201 from by unfold chkV rttV; dsimp only; (repeat' split) <;> omega)
          clear hb
          have E2 := Lib.hid (show chkV (6, at_, 1, 0) = 0 from by unfold chkV rttV; dsimp only; (repeat' split) <;> omega)
          have Q1 := Lib.hid (fun w_ => CC'.out 6 at_ b 0 201 (by unfold In64; omega) (by unfold In64; omega) IB.out (by unfold In64; decide) E1.out w_)
          have Q2 := Lib.hid (fun w_ => CC'.out 6 at_ 1 0 0 (by unfold In64; omega) (by unfold In64; omega) (by unfold In64; decide) (by unfold In64; decide) E2.out w_)
          go_upto_region 7 with fail
          generalize hW : World.alloc wr (.cells #[.int .i64 6, .int .i64 at_, .int .i64 b, .int .i64 0] 23) = W_e
          have K_e : Kept wr W_e := by subst hW; exact (Kept.refl _).alloc _ _
          have E0 := Lib.hid (show RV W_e wr.heap.size 6 at_ b 0 from by subst hW; exact ⟨⟨by simp [go_sem], by simp [go_sem], by simp [go_sem], by simp [go_sem]⟩, by simp [go_sem], by simp [go_sem], by simp [go_sem], by simp [go_sem]⟩)
          clear hW
          have gb : w9.heap.size ≤ wr.heap.size := Kept.below kw
          generalize wr.heap.size = ge at *
          have kwe := Kept.trans kw K_e
          clear K_e kw
          obtain ⟨c0, c1, c2, c3⟩ := E0.out.1
          go_wp2_with fail
          refine (Q1.out _).mono ?_
          rintro e w1 ⟨rfl, k1⟩
          clear c0 c1 c2 c3
          have E3 := Lib.hid (E0.out.kept k1)
          have kwn1 := Kept.trans kwe k1
          clear E0 kwe k1
          have ne := E3.out.ne
          obtain ⟨⟨c0, c1, c2, c3⟩, f0, f1, f2, f3⟩ := E3.out
          go_upto_region 14 with fail
          generalize hW : World.setCell (World.setCell w1 ⟨ge, 2, none⟩ (.int .i64 1)) ⟨ge, 3, none⟩ (.int .i64 0) = W_s
          have E4 := Lib.hid (show RV W_s ge 6 at_ 1 0 from by subst hW; exact ⟨⟨by simp [*, go_sem], by simp [*, go_sem], by simp [*, go_sem], by simp [*, go_sem]⟩, by simp [*, go_sem], by simp [*, go_sem], by simp [*, go_sem], by simp [*, go_sem]⟩)
          have kws : Kept w9 W_s := by subst hW; exact (kwn1.setCell (a := ⟨ge, 2, none⟩) gb _).setCell (a := ⟨ge, 3, none⟩) gb _
          clear hW c0 c1 c2 c3 f0 f1 f2 f3 E3 kwn1 ne
          obtain ⟨c0, c1, c2, c3⟩ := E4.out.1
          go_wp2_with fail
          refine (Q2.out _).mono ?_
          rintro e w2 ⟨rfl, k2⟩
          go_wp2
          go_roundw
          case rel => exact ⟨6 + 1, by omega, by omega, by go_num, Kept.trans kws k2⟩
          case measure => simp [intOf] <;> omega
        · have tz : (t == 0) = false := by simp [t0]
          have hb := HBD.out
          have E1 := Lib.hid (show chkV (6, at_, b, 0) = 201 from by unfold chkV rttV; dsimp only; (repeat' split) <;> omega)
          clear hb
          have E2 := Lib.hid (show chkV (6, at_, 1, t) = 201 from by unfold chkV rttV; dsimp only; (repeat' split) <;> omega)
          have Q1 := Lib.hid (fun w_ => CC'.out 6 at_ b 0 201 (by unfold In64; omega) (by unfold In64; omega) IB.out (by unfold In64; decide) E1.out w_)
          have Q2 := Lib.hid (fun w_ => CC'.out 6 at_ 1 t 201 (by unfold In64; omega) (by unfold In64; omega) (by unfold In64; decide) IT.out E2.out w_)
          go_upto_region 7 with fail
          generalize hW : World.alloc wr (.cells #[.int .i64 6, .int .i64 at_, .int .i64 b, .int .i64 0] 23) = W_e
          have K_e : Kept wr W_e := by subst hW; exact (Kept.refl _).alloc _ _
          have E0 := Lib.hid (show RV W_e wr.heap.size 6 at_ b 0 from by subst hW; exact ⟨⟨by simp [go_sem], by simp [go_sem], by simp [go_sem], by simp [go_sem]⟩, by simp [go_sem], by simp [go_sem], by simp [go_sem], by simp [go_sem]⟩)
          clear hW
          have gb : w9.heap.size ≤ wr.heap.size := Kept.below kw
          generalize wr.heap.size = ge at *
          have kwe := Kept.trans kw K_e
          clear K_e kw
          obtain ⟨c0, c1, c2, c3⟩ := E0.out.1
          go_wp2_with fail
          refine (Q1.out _).mono ?_
          rintro e w1 ⟨rfl, k1⟩
          clear c0 c1 c2 c3
          have E3 := Lib.hid (E0.out.kept k1)
          have kwn1 := Kept.trans kwe k1
          clear E0 kwe k1
          have ne := E3.out.ne
          obtain ⟨⟨c0, c1, c2, c3⟩, f0, f1, f2, f3⟩ := E3.out
          go_upto_region 14 with fail
          generalize hW : World.setCell (World.setCell w1 ⟨ge, 2, none⟩ (.int .i64 1)) ⟨ge, 3, none⟩ (.int .i64 t) = W_s
          have E4 := Lib.hid (show RV W_s ge 6 at_ 1 t from by subst hW; exact ⟨⟨by simp [*, go_sem], by simp [*, go_sem], by simp [*, go_sem], by simp [*, go_sem]⟩, by simp [*, go_sem], by simp [*, go_sem], by simp [*, go_sem], by simp [*, go_sem]⟩)
          have kws : Kept w9 W_s := by subst hW; exact (kwn1.setCell (a := ⟨ge, 2, none⟩) gb _).setCell (a := ⟨ge, 3, none⟩) gb _
          clear hW c0 c1 c2 c3 f0 f1 f2 f3 E3 kwn1 ne
          obtain ⟨c0, c1, c2, c3⟩ := E4.out.1
          go_wp2_with fail
          refine (Q2.out _).mono ?_
          rintro e w2 ⟨rfl, k2⟩
          go_wp2
          go_roundw
          case rel => exact ⟨6 + 1, by omega, by omega, by go_num, Kept.trans kws k2⟩
          case measure => simp [intOf] <;> omega
      by_cases t0 : t = 0
      · subst t0
        have k1 : (j == 1) = false := by simp [hk1]
        have k2 : (j == 2) = false := by simp [hk2]
        have k6 : (j == 6) = false := by simp [hk6]
        obtain ⟨n1, hn1⟩ : ∃ n1, chkV (j, at_, b, 0) = n1 := ⟨_, rfl⟩
        have E1 := Lib.hid hn1
        obtain ⟨zb, hzb⟩ : ∃ zb, (b == 0) = zb := ⟨_, rfl⟩
        have hz1 : (n1 == 0) = zb := by rw [← hzb, ← hn1]; exact other_zero ⟨j1, hlt⟩ ⟨hk1, hk2, hk6⟩ ⟨a0, a1⟩
        clear hn1
        have E2 := Lib.hid (show chkV (j, at_, 0, 0) = 0 from by unfold chkV rttV; dsimp only; (repeat' split) <;> omega)
        have Q1 := Lib.hid (fun w_ => CC'.out j at_ b 0 n1 (by unfold In64; omega) (by unfold In64; omega) IB.out (by unfold In64; decide) E1.out w_)
        have Q2 := Lib.hid (fun w_ => CC'.out j at_ 0 0 0 (by unfold In64; omega) (by unfold In64; omega) (by unfold In64; decide) (by unfold In64; decide) E2.out w_)
        go_upto_region 7 with fail
        generalize hW : World.alloc wr (.cells #[.int .i64 j, .int .i64 at_, .int .i64 b, .int .i64 0] 23) = W_e
        have K_e : Kept wr W_e := by subst hW; exact (Kept.refl _).alloc _ _
        have E0 := Lib.hid (show RV W_e wr.heap.size j at_ b 0 from by subst hW; exact ⟨⟨by simp [go_sem], by simp [go_sem], by simp [go_sem], by simp [go_sem]⟩, by simp [go_sem], by simp [go_sem], by simp [go_sem], by simp [go_sem]⟩)
        clear hW
        have gb : w9.heap.size ≤ wr.heap.size := Kept.below kw
        generalize wr.heap.size = ge at *
        have kwe := Kept.trans kw K_e
        clear K_e kw
        obtain ⟨c0, c1, c2, c3⟩ := E0.out.1
        go_wp2_with fail
        refine (Q1.out _).mono ?_
        rintro e w1 ⟨rfl, k1⟩
        clear c0 c1 c2 c3
        have E3 := Lib.hid (E0.out.kept k1)
        have kwn1 := Kept.trans kwe k1
        clear E0 kwe k1
        have ne := E3.out.ne
        obtain ⟨⟨c0, c1, c2, c3⟩, f0, f1, f2, f3⟩ := E3.out
        go_upto_region 14 with fail
        generalize hW : World.setCell (World.setCell w1 ⟨ge, 2, none⟩ (.int .i64 0)) ⟨ge, 3, none⟩ (.int .i64 0) = W_s
        have E4 := Lib.hid (show RV W_s ge j at_ 0 0 from by subst hW; exact ⟨⟨by simp [*, go_sem], by simp [*, go_sem], by simp [*, go_sem], by simp [*, go_sem]⟩, by simp [*, go_sem], by simp [*, go_sem], by simp [*, go_sem], by simp [*, go_sem]⟩)
        have kws : Kept w9 W_s := by subst hW; exact (kwn1.setCell (a := ⟨ge, 2, none⟩) gb _).setCell (a := ⟨ge, 3, none⟩) gb _
        clear hW c0 c1 c2 c3 f0 f1 f2 f3 E3 kwn1 ne
        obtain ⟨c0, c1, c2, c3⟩ := E4.out.1
        go_wp2_with fail
        refine (Q2.out _).mono ?_
        rintro e w2 ⟨rfl, k2⟩
        go_wp2
        go_roundw
        case rel => exact ⟨j + 1, by omega, by omega, by go_num, Kept.trans kws k2⟩
        case measure => simp [intOf] <;> omega
      · have tz : (t == 0) = false := by simp [t0]
        have k1 : (j == 1) = false := by simp [hk1]
        have k2 : (j == 2) = false := by simp [hk2]
        have k6 : (j == 6) = false := by simp [hk6]
        obtain ⟨n1, hn1⟩ : ∃ n1, chkV (j, at_, b, 0) = n1 := ⟨_, rfl⟩
        have E1 := Lib.hid hn1
        obtain ⟨zb, hzb⟩ : ∃ zb, (b == 0) = zb := ⟨_, rfl⟩
        have hz1 : (n1 == 0) = zb := by rw [← hzb, ← hn1]; exact other_zero ⟨j1, hlt⟩ ⟨hk1, hk2, hk6⟩ ⟨a0, a1⟩
        clear hn1
        have E2 := Lib.hid (show chkV (j, at_, 0, t) = 201 from by unfold chkV rttV; dsimp only; (repeat' split) <;> omega)
        have Q1 := Lib.hid (fun w_ => CC'.out j at_ b 0 n1 (by unfold In64; omega) (by unfold In64; omega) IB.out (by unfold In64; decide) E1.out w_)
        have Q2 := Lib.hid (fun w_ => CC'.out j at_ 0 t 201 (by unfold In64; omega) (by unfold In64; omega) (by unfold In64; decide) IT.out E2.out w_)
        go_upto_region 7 with fail
        generalize hW : World.alloc wr (.cells #[.int .i64 j, .int .i64 at_, .int .i64 b, .int .i64 0] 23) = W_e
        have K_e : Kept wr W_e := by subst hW; exact (Kept.refl _).alloc _ _
        have E0 := Lib.hid (show RV W_e wr.heap.size j at_ b 0 from by subst hW; exact ⟨⟨by simp [go_sem], by simp [go_sem], by simp [go_sem], by simp [go_sem]⟩, by simp [go_sem], by simp [go_sem], by simp [go_sem], by simp [go_sem]⟩)
        clear hW
        have gb : w9.heap.size ≤ wr.heap.size := Kept.below kw
        generalize wr.heap.size = ge at *
        have kwe := Kept.trans kw K_e
        clear K_e kw
        obtain ⟨c0, c1, c2, c3⟩ := E0.out.1
        go_wp2_with fail
        refine (Q1.out _).mono ?_
        rintro e w1 ⟨rfl, k1⟩
        clear c0 c1 c2 c3
        have E3 := Lib.hid (E0.out.kept k1)
        have kwn1 := Kept.trans kwe k1
        clear E0 kwe k1
        have ne := E3.out.ne
        obtain ⟨⟨c0, c1, c2, c3⟩, f0, f1, f2, f3⟩ := E3.out
        go_upto_region 14 with fail
        generalize hW : World.setCell (World.setCell w1 ⟨ge, 2, none⟩ (.int .i64 0)) ⟨ge, 3, none⟩ (.int .i64 t) = W_s
        have E4 := Lib.hid (show RV W_s ge j at_ 0 t from by subst hW; exact ⟨⟨by simp [*, go_sem], by simp [*, go_sem], by simp [*, go_sem], by simp [*, go_sem]⟩, by simp [*, go_sem], by simp [*, go_sem], by simp [*, go_sem], by simp [*, go_sem]⟩)
        have kws : Kept w9 W_s := by subst hW; exact (kwn1.setCell (a := ⟨ge, 2, none⟩) gb _).setCell (a := ⟨ge, 3, none⟩) gb _
        clear hW c0 c1 c2 c3 f0 f1 f2 f3 E3 kwn1 ne
        obtain ⟨c0, c1, c2, c3⟩ := E4.out.1
        go_wp2_with fail
        refine (Q2.out _).mono ?_
        rintro e w2 ⟨rfl, k2⟩
        go_wp2
        go_roundw
        case rel => exact ⟨j + 1, by omega, by omega, by go_num, Kept.trans kws k2⟩
        case measure => simp [intOf] <;> omega
    · have dl : decide (j ≤ 7) = false := by simp; omega
      go_wp2
      go_ret
      exact ⟨rfl, Kept.trans k0 kw⟩
set_option maxRecDepth 100000 in
set_option maxHeartbeats 6400000 in
theorem kinds20_ok (CC : EvCheckC) (DC : EvDecC) (NC : EvEncC) (AC : EvAllC) {at_ b t : Int} (a0 : 0 ≤ at_) (a1 : at_ ≤ 4294967295) (ib : In64 b) (it : In64 t) (hb : 1 ≤ b ∧ b ≤ 1073741824)  (w : World)  : Calls Try.prog 6 #[.int .u32 at_, .int .i64 b, .int .i64 t] w fun e w' => e = .returned (.bool true) ∧ Kept w w' := by
  have CC' := Lib.hid CC
  have DC' := Lib.hid DC
  have NC' := Lib.hid NC
  have AC' := Lib.hid AC
  have AW' := Lib.hid (fun w => awake20 CC DC NC AC w)
  clear CC DC NC AC
  have s1 : decide (1 ≤ b) = true := decide_eq_true hb.1
  have s2 : decide (b ≤ 1073741824) = true := decide_eq_true hb.2
  have IB := Lib.hid ib
  have IT := Lib.hid it
  have HBD := Lib.hid hb
  clear ib it hb
  go_enter Try.func6, Try.ntmps6
  go_wp2_with fail
  refine (AW'.out _).mono ?_
  rintro e w20 ⟨rfl, k20⟩
  have k0 : Kept w w20 := (by (repeat (first | with_reducible exact Kept.refl _ | with_reducible apply Kept.drew | with_reducible apply Kept.alloc | ((with_reducible apply Kept.set); focus (simp <;> omega)) | ((with_reducible apply Kept.via); focus with_reducible assumption))))
  generalize w20 = w9 at *
  go_wp2
  go_loopw [9] (fun s9 wr => ∃ j : Int, 1 ≤ j ∧ j ≤ 8 ∧ s9 = .int .i64 j ∧ Kept w9 wr) (fun s9 _ => (8 - intOf s9).toNat)
  case atStart => exact ⟨1, by omega, by omega, rfl, Kept.refl _⟩
  case round =>
    obtain ⟨j, j1, j8, rfl, kw⟩ := hrel
    by_cases hlt : j ≤ 7
    · have dl : decide (j ≤ 7) = true := decide_eq_true hlt
      by_cases hk1 : j = 1
      · subst hk1
        by_cases t0 : t = 0
        · subst t0
          have hb := HBD.out
          have E1 := Lib.hid (show chkV (1, at_, b, 0) = 0 from by unfold chkV rttV; dsimp only; (repeat' split) <;> omega)
          clear hb
          have E2 := Lib.hid (show chkV (1, at_, 1, 0) = 0 from by unfold chkV rttV; dsimp only; (repeat' split) <;> omega)
          have Q1 := Lib.hid (fun w_ => CC'.out 1 at_ b 0 0 (by unfold In64; omega) (by unfold In64; omega) IB.out (by unfold In64; decide) E1.out w_)
          have Q2 := Lib.hid (fun w_ => CC'.out 1 at_ 1 0 0 (by unfold In64; omega) (by unfold In64; omega) (by unfold In64; decide) (by unfold In64; decide) E2.out w_)
          go_upto_region 7 with fail
          generalize hW : World.alloc wr (.cells #[.int .i64 1, .int .i64 at_, .int .i64 b, .int .i64 0] 23) = W_e
          have K_e : Kept wr W_e := by subst hW; exact (Kept.refl _).alloc _ _
          have E0 := Lib.hid (show RV W_e wr.heap.size 1 at_ b 0 from by subst hW; exact ⟨⟨by simp [go_sem], by simp [go_sem], by simp [go_sem], by simp [go_sem]⟩, by simp [go_sem], by simp [go_sem], by simp [go_sem], by simp [go_sem]⟩)
          clear hW
          have gb : w9.heap.size ≤ wr.heap.size := Kept.below kw
          generalize wr.heap.size = ge at *
          have kwe := Kept.trans kw K_e
          clear K_e kw
          obtain ⟨c0, c1, c2, c3⟩ := E0.out.1
          go_wp2_with fail
          refine (Q1.out _).mono ?_
          rintro e w1 ⟨rfl, k1⟩
          clear c0 c1 c2 c3
          have E3 := Lib.hid (E0.out.kept k1)
          have kwn1 := Kept.trans kwe k1
          clear E0 kwe k1
          have ne := E3.out.ne
          obtain ⟨⟨c0, c1, c2, c3⟩, f0, f1, f2, f3⟩ := E3.out
          go_upto_region 14 with fail
          generalize hW : World.setCell (World.setCell w1 ⟨ge, 2, none⟩ (.int .i64 1)) ⟨ge, 3, none⟩ (.int .i64 0) = W_s
          have E4 := Lib.hid (show RV W_s ge 1 at_ 1 0 from by subst hW; exact ⟨⟨by simp [*, go_sem], by simp [*, go_sem], by simp [*, go_sem], by simp [*, go_sem]⟩, by simp [*, go_sem], by simp [*, go_sem], by simp [*, go_sem], by simp [*, go_sem]⟩)
          have kws : Kept w9 W_s := by subst hW; exact (kwn1.setCell (a := ⟨ge, 2, none⟩) gb _).setCell (a := ⟨ge, 3, none⟩) gb _
          clear hW c0 c1 c2 c3 f0 f1 f2 f3 E3 kwn1 ne
          obtain ⟨c0, c1, c2, c3⟩ := E4.out.1
          go_wp2_with fail
          refine (Q2.out _).mono ?_
          rintro e w2 ⟨rfl, k2⟩
          go_wp2
          go_roundw
          case rel => exact ⟨1 + 1, by omega, by omega, by go_num, Kept.trans kws k2⟩
          case measure => simp [intOf] <;> omega
        · have tz : (t == 0) = false := by simp [t0]
          by_cases t1 : t < 1
          · have e1 : decide (1 ≤ t) = false := by simp; omega
            have hb := HBD.out
            have E1 := Lib.hid (show chkV (1, at_, b, 0) = 0 from by unfold chkV rttV; dsimp only; (repeat' split) <;> omega)
            clear hb
            have E2 := Lib.hid (show chkV (1, at_, 1, t) = 201 from by unfold chkV rttV; dsimp only; (repeat' split) <;> omega)
            have Q1 := Lib.hid (fun w_ => CC'.out 1 at_ b 0 0 (by unfold In64; omega) (by unfold In64; omega) IB.out (by unfold In64; decide) E1.out w_)
            have Q2 := Lib.hid (fun w_ => CC'.out 1 at_ 1 t 201 (by unfold In64; omega) (by unfold In64; omega) (by unfold In64; decide) IT.out E2.out w_)
            go_upto_region 7 with fail
            generalize hW : World.alloc wr (.cells #[.int .i64 1, .int .i64 at_, .int .i64 b, .int .i64 0] 23) = W_e
            have K_e : Kept wr W_e := by subst hW; exact (Kept.refl _).alloc _ _
            have E0 := Lib.hid (show RV W_e wr.heap.size 1 at_ b 0 from by subst hW; exact ⟨⟨by simp [go_sem], by simp [go_sem], by simp [go_sem], by simp [go_sem]⟩, by simp [go_sem], by simp [go_sem], by simp [go_sem], by simp [go_sem]⟩)
            clear hW
            have gb : w9.heap.size ≤ wr.heap.size := Kept.below kw
            generalize wr.heap.size = ge at *
            have kwe := Kept.trans kw K_e
            clear K_e kw
            obtain ⟨c0, c1, c2, c3⟩ := E0.out.1
            go_wp2_with fail
            refine (Q1.out _).mono ?_
            rintro e w1 ⟨rfl, k1⟩
            clear c0 c1 c2 c3
            have E3 := Lib.hid (E0.out.kept k1)
            have kwn1 := Kept.trans kwe k1
            clear E0 kwe k1
            have ne := E3.out.ne
            obtain ⟨⟨c0, c1, c2, c3⟩, f0, f1, f2, f3⟩ := E3.out
            go_upto_region 14 with fail
            generalize hW : World.setCell (World.setCell w1 ⟨ge, 2, none⟩ (.int .i64 1)) ⟨ge, 3, none⟩ (.int .i64 t) = W_s
            have E4 := Lib.hid (show RV W_s ge 1 at_ 1 t from by subst hW; exact ⟨⟨by simp [*, go_sem], by simp [*, go_sem], by simp [*, go_sem], by simp [*, go_sem]⟩, by simp [*, go_sem], by simp [*, go_sem], by simp [*, go_sem], by simp [*, go_sem]⟩)
            have kws : Kept w9 W_s := by subst hW; exact (kwn1.setCell (a := ⟨ge, 2, none⟩) gb _).setCell (a := ⟨ge, 3, none⟩) gb _
            clear hW c0 c1 c2 c3 f0 f1 f2 f3 E3 kwn1 ne
            obtain ⟨c0, c1, c2, c3⟩ := E4.out.1
            go_wp2_with fail
            refine (Q2.out _).mono ?_
            rintro e w2 ⟨rfl, k2⟩
            go_wp2
            go_roundw
            case rel => exact ⟨1 + 1, by omega, by omega, by go_num, Kept.trans kws k2⟩
            case measure => simp [intOf] <;> omega
          · have e1 : decide (1 ≤ t) = true := decide_eq_true (by omega)
            by_cases t2 : t ≤ 1073741824
            · have e2 : decide (t ≤ 1073741824) = true := decide_eq_true t2
              have hb := HBD.out
              have E1 := Lib.hid (show chkV (1, at_, b, 0) = 0 from by unfold chkV rttV; dsimp only; (repeat' split) <;> omega)
              clear hb
              have E2 := Lib.hid (show chkV (1, at_, 1, t) = 0 from by unfold chkV rttV; dsimp only; (repeat' split) <;> omega)
              have Q1 := Lib.hid (fun w_ => CC'.out 1 at_ b 0 0 (by unfold In64; omega) (by unfold In64; omega) IB.out (by unfold In64; decide) E1.out w_)
              have Q2 := Lib.hid (fun w_ => CC'.out 1 at_ 1 t 0 (by unfold In64; omega) (by unfold In64; omega) (by unfold In64; decide) IT.out E2.out w_)
              go_upto_region 7 with fail
              generalize hW : World.alloc wr (.cells #[.int .i64 1, .int .i64 at_, .int .i64 b, .int .i64 0] 23) = W_e
              have K_e : Kept wr W_e := by subst hW; exact (Kept.refl _).alloc _ _
              have E0 := Lib.hid (show RV W_e wr.heap.size 1 at_ b 0 from by subst hW; exact ⟨⟨by simp [go_sem], by simp [go_sem], by simp [go_sem], by simp [go_sem]⟩, by simp [go_sem], by simp [go_sem], by simp [go_sem], by simp [go_sem]⟩)
              clear hW
              have gb : w9.heap.size ≤ wr.heap.size := Kept.below kw
              generalize wr.heap.size = ge at *
              have kwe := Kept.trans kw K_e
              clear K_e kw
              obtain ⟨c0, c1, c2, c3⟩ := E0.out.1
              go_wp2_with fail
              refine (Q1.out _).mono ?_
              rintro e w1 ⟨rfl, k1⟩
              clear c0 c1 c2 c3
              have E3 := Lib.hid (E0.out.kept k1)
              have kwn1 := Kept.trans kwe k1
              clear E0 kwe k1
              have ne := E3.out.ne
              obtain ⟨⟨c0, c1, c2, c3⟩, f0, f1, f2, f3⟩ := E3.out
              go_upto_region 14 with fail
              generalize hW : World.setCell (World.setCell w1 ⟨ge, 2, none⟩ (.int .i64 1)) ⟨ge, 3, none⟩ (.int .i64 t) = W_s
              have E4 := Lib.hid (show RV W_s ge 1 at_ 1 t from by subst hW; exact ⟨⟨by simp [*, go_sem], by simp [*, go_sem], by simp [*, go_sem], by simp [*, go_sem]⟩, by simp [*, go_sem], by simp [*, go_sem], by simp [*, go_sem], by simp [*, go_sem]⟩)
              have kws : Kept w9 W_s := by subst hW; exact (kwn1.setCell (a := ⟨ge, 2, none⟩) gb _).setCell (a := ⟨ge, 3, none⟩) gb _
              clear hW c0 c1 c2 c3 f0 f1 f2 f3 E3 kwn1 ne
              obtain ⟨c0, c1, c2, c3⟩ := E4.out.1
              go_wp2_with fail
              refine (Q2.out _).mono ?_
              rintro e w2 ⟨rfl, k2⟩
              go_wp2
              go_roundw
              case rel => exact ⟨1 + 1, by omega, by omega, by go_num, Kept.trans kws k2⟩
              case measure => simp [intOf] <;> omega
            · have e2 : decide (t ≤ 1073741824) = false := by simp; omega
              have hb := HBD.out
              have E1 := Lib.hid (show chkV (1, at_, b, 0) = 0 from by unfold chkV rttV; dsimp only; (repeat' split) <;> omega)
              clear hb
              have E2 := Lib.hid (show chkV (1, at_, 1, t) = 201 from by unfold chkV rttV; dsimp only; (repeat' split) <;> omega)
              have Q1 := Lib.hid (fun w_ => CC'.out 1 at_ b 0 0 (by unfold In64; omega) (by unfold In64; omega) IB.out (by unfold In64; decide) E1.out w_)
              have Q2 := Lib.hid (fun w_ => CC'.out 1 at_ 1 t 201 (by unfold In64; omega) (by unfold In64; omega) (by unfold In64; decide) IT.out E2.out w_)
              go_upto_region 7 with fail
              generalize hW : World.alloc wr (.cells #[.int .i64 1, .int .i64 at_, .int .i64 b, .int .i64 0] 23) = W_e
              have K_e : Kept wr W_e := by subst hW; exact (Kept.refl _).alloc _ _
              have E0 := Lib.hid (show RV W_e wr.heap.size 1 at_ b 0 from by subst hW; exact ⟨⟨by simp [go_sem], by simp [go_sem], by simp [go_sem], by simp [go_sem]⟩, by simp [go_sem], by simp [go_sem], by simp [go_sem], by simp [go_sem]⟩)
              clear hW
              have gb : w9.heap.size ≤ wr.heap.size := Kept.below kw
              generalize wr.heap.size = ge at *
              have kwe := Kept.trans kw K_e
              clear K_e kw
              obtain ⟨c0, c1, c2, c3⟩ := E0.out.1
              go_wp2_with fail
              refine (Q1.out _).mono ?_
              rintro e w1 ⟨rfl, k1⟩
              clear c0 c1 c2 c3
              have E3 := Lib.hid (E0.out.kept k1)
              have kwn1 := Kept.trans kwe k1
              clear E0 kwe k1
              have ne := E3.out.ne
              obtain ⟨⟨c0, c1, c2, c3⟩, f0, f1, f2, f3⟩ := E3.out
              go_upto_region 14 with fail
              generalize hW : World.setCell (World.setCell w1 ⟨ge, 2, none⟩ (.int .i64 1)) ⟨ge, 3, none⟩ (.int .i64 t) = W_s
              have E4 := Lib.hid (show RV W_s ge 1 at_ 1 t from by subst hW; exact ⟨⟨by simp [*, go_sem], by simp [*, go_sem], by simp [*, go_sem], by simp [*, go_sem]⟩, by simp [*, go_sem], by simp [*, go_sem], by simp [*, go_sem], by simp [*, go_sem]⟩)
              have kws : Kept w9 W_s := by subst hW; exact (kwn1.setCell (a := ⟨ge, 2, none⟩) gb _).setCell (a := ⟨ge, 3, none⟩) gb _
              clear hW c0 c1 c2 c3 f0 f1 f2 f3 E3 kwn1 ne
              obtain ⟨c0, c1, c2, c3⟩ := E4.out.1
              go_wp2_with fail
              refine (Q2.out _).mono ?_
              rintro e w2 ⟨rfl, k2⟩
              go_wp2
              go_roundw
              case rel => exact ⟨1 + 1, by omega, by omega, by go_num, Kept.trans kws k2⟩
              case measure => simp [intOf] <;> omega
      by_cases hk2 : j = 2
      · subst hk2
        by_cases t0 : t = 0
        · subst t0
          have hb := HBD.out
          have E1 := Lib.hid (show chkV (2, at_, b, 0) = 0 from by unfold chkV rttV; dsimp only; (repeat' split) <;> omega)
          clear hb
          have E2 := Lib.hid (show chkV (2, at_, 1, 0) = 0 from by unfold chkV rttV; dsimp only; (repeat' split) <;> omega)
          have Q1 := Lib.hid (fun w_ => CC'.out 2 at_ b 0 0 (by unfold In64; omega) (by unfold In64; omega) IB.out (by unfold In64; decide) E1.out w_)
          have Q2 := Lib.hid (fun w_ => CC'.out 2 at_ 1 0 0 (by unfold In64; omega) (by unfold In64; omega) (by unfold In64; decide) (by unfold In64; decide) E2.out w_)
          go_upto_region 7 with fail
          generalize hW : World.alloc wr (.cells #[.int .i64 2, .int .i64 at_, .int .i64 b, .int .i64 0] 23) = W_e
          have K_e : Kept wr W_e := by subst hW; exact (Kept.refl _).alloc _ _
          have E0 := Lib.hid (show RV W_e wr.heap.size 2 at_ b 0 from by subst hW; exact ⟨⟨by simp [go_sem], by simp [go_sem], by simp [go_sem], by simp [go_sem]⟩, by simp [go_sem], by simp [go_sem], by simp [go_sem], by simp [go_sem]⟩)
          clear hW
          have gb : w9.heap.size ≤ wr.heap.size := Kept.below kw
          generalize wr.heap.size = ge at *
          have kwe := Kept.trans kw K_e
          clear K_e kw
          obtain ⟨c0, c1, c2, c3⟩ := E0.out.1
          go_wp2_with fail
          refine (Q1.out _).mono ?_
          rintro e w1 ⟨rfl, k1⟩
          clear c0 c1 c2 c3
          have E3 := Lib.hid (E0.out.kept k1)
          have kwn1 := Kept.trans kwe k1
          clear E0 kwe k1
          have ne := E3.out.ne
          obtain ⟨⟨c0, c1, c2, c3⟩, f0, f1, f2, f3⟩ := E3.out
          go_upto_region 14 with fail
          generalize hW : World.setCell (World.setCell w1 ⟨ge, 2, none⟩ (.int .i64 1)) ⟨ge, 3, none⟩ (.int .i64 0) = W_s
          have E4 := Lib.hid (show RV W_s ge 2 at_ 1 0 from by subst hW; exact ⟨⟨by simp [*, go_sem], by simp [*, go_sem], by simp [*, go_sem], by simp [*, go_sem]⟩, by simp [*, go_sem], by simp [*, go_sem], by simp [*, go_sem], by simp [*, go_sem]⟩)
          have kws : Kept w9 W_s := by subst hW; exact (kwn1.setCell (a := ⟨ge, 2, none⟩) gb _).setCell (a := ⟨ge, 3, none⟩) gb _
          clear hW c0 c1 c2 c3 f0 f1 f2 f3 E3 kwn1 ne
          obtain ⟨c0, c1, c2, c3⟩ := E4.out.1
          go_wp2_with fail
          refine (Q2.out _).mono ?_
          rintro e w2 ⟨rfl, k2⟩
          go_wp2
          go_roundw
          case rel => exact ⟨2 + 1, by omega, by omega, by go_num, Kept.trans kws k2⟩
          case measure => simp [intOf] <;> omega
        · have tz : (t == 0) = false := by simp [t0]
          have hb := HBD.out
          have E1 := Lib.hid (show chkV (2, at_, b, 0) = 0 from by unfold chkV rttV; dsimp only; (repeat' split) <;> omega)
          clear hb
          have E2 := Lib.hid (show chkV (2, at_, 1, t) = 201 from by unfold chkV rttV; dsimp only; (repeat' split) <;> omega)
          have Q1 := Lib.hid (fun w_ => CC'.out 2 at_ b 0 0 (by unfold In64; omega) (by unfold In64; omega) IB.out (by unfold In64; decide) E1.out w_)
          have Q2 := Lib.hid (fun w_ => CC'.out 2 at_ 1 t 201 (by unfold In64; omega) (by unfold In64; omega) (by unfold In64; decide) IT.out E2.out w_)
          go_upto_region 7 with fail
          generalize hW : World.alloc wr (.cells #[.int .i64 2, .int .i64 at_, .int .i64 b, .int .i64 0] 23) = W_e
          have K_e : Kept wr W_e := by subst hW; exact (Kept.refl _).alloc _ _
          have E0 := Lib.hid (show RV W_e wr.heap.size 2 at_ b 0 from by subst hW; exact ⟨⟨by simp [go_sem], by simp [go_sem], by simp [go_sem], by simp [go_sem]⟩, by simp [go_sem], by simp [go_sem], by simp [go_sem], by simp [go_sem]⟩)
          clear hW
          have gb : w9.heap.size ≤ wr.heap.size := Kept.below kw
          generalize wr.heap.size = ge at *
          have kwe := Kept.trans kw K_e
          clear K_e kw
          obtain ⟨c0, c1, c2, c3⟩ := E0.out.1
          go_wp2_with fail
          refine (Q1.out _).mono ?_
          rintro e w1 ⟨rfl, k1⟩
          clear c0 c1 c2 c3
          have E3 := Lib.hid (E0.out.kept k1)
          have kwn1 := Kept.trans kwe k1
          clear E0 kwe k1
          have ne := E3.out.ne
          obtain ⟨⟨c0, c1, c2, c3⟩, f0, f1, f2, f3⟩ := E3.out
          go_upto_region 14 with fail
          generalize hW : World.setCell (World.setCell w1 ⟨ge, 2, none⟩ (.int .i64 1)) ⟨ge, 3, none⟩ (.int .i64 t) = W_s
          have E4 := Lib.hid (show RV W_s ge 2 at_ 1 t from by subst hW; exact ⟨⟨by simp [*, go_sem], by simp [*, go_sem], by simp [*, go_sem], by simp [*, go_sem]⟩, by simp [*, go_sem], by simp [*, go_sem], by simp [*, go_sem], by simp [*, go_sem]⟩)
          have kws : Kept w9 W_s := by subst hW; exact (kwn1.setCell (a := ⟨ge, 2, none⟩) gb _).setCell (a := ⟨ge, 3, none⟩) gb _
          clear hW c0 c1 c2 c3 f0 f1 f2 f3 E3 kwn1 ne
          obtain ⟨c0, c1, c2, c3⟩ := E4.out.1
          go_wp2_with fail
          refine (Q2.out _).mono ?_
          rintro e w2 ⟨rfl, k2⟩
          go_wp2
          go_roundw
          case rel => exact ⟨2 + 1, by omega, by omega, by go_num, Kept.trans kws k2⟩
          case measure => simp [intOf] <;> omega
      by_cases hk6 : j = 6
      · subst hk6
        by_cases t0 : t = 0
        · subst t0
          have hb := HBD.out
          have E1 := Lib.hid (show chkV (6, at_, b, 0) = 0 from by unfold chkV rttV; dsimp only; (repeat' split) <;> omega)
          clear hb
          have E2 := Lib.hid (show chkV (6, at_, 1, 0) = 0 from by unfold chkV rttV; dsimp only; (repeat' split) <;> omega)
          have Q1 := Lib.hid (fun w_ => CC'.out 6 at_ b 0 0 (by unfold In64; omega) (by unfold In64; omega) IB.out (by unfold In64; decide) E1.out w_)
          have Q2 := Lib.hid (fun w_ => CC'.out 6 at_ 1 0 0 (by unfold In64; omega) (by unfold In64; omega) (by unfold In64; decide) (by unfold In64; decide) E2.out w_)
          go_upto_region 7 with fail
          generalize hW : World.alloc wr (.cells #[.int .i64 6, .int .i64 at_, .int .i64 b, .int .i64 0] 23) = W_e
          have K_e : Kept wr W_e := by subst hW; exact (Kept.refl _).alloc _ _
          have E0 := Lib.hid (show RV W_e wr.heap.size 6 at_ b 0 from by subst hW; exact ⟨⟨by simp [go_sem], by simp [go_sem], by simp [go_sem], by simp [go_sem]⟩, by simp [go_sem], by simp [go_sem], by simp [go_sem], by simp [go_sem]⟩)
          clear hW
          have gb : w9.heap.size ≤ wr.heap.size := Kept.below kw
          generalize wr.heap.size = ge at *
          have kwe := Kept.trans kw K_e
          clear K_e kw
          obtain ⟨c0, c1, c2, c3⟩ := E0.out.1
          go_wp2_with fail
          refine (Q1.out _).mono ?_
          rintro e w1 ⟨rfl, k1⟩
          clear c0 c1 c2 c3
          have E3 := Lib.hid (E0.out.kept k1)
          have kwn1 := Kept.trans kwe k1
          clear E0 kwe k1
          have ne := E3.out.ne
          obtain ⟨⟨c0, c1, c2, c3⟩, f0, f1, f2, f3⟩ := E3.out
          go_upto_region 14 with fail
          generalize hW : World.setCell (World.setCell w1 ⟨ge, 2, none⟩ (.int .i64 1)) ⟨ge, 3, none⟩ (.int .i64 0) = W_s
          have E4 := Lib.hid (show RV W_s ge 6 at_ 1 0 from by subst hW; exact ⟨⟨by simp [*, go_sem], by simp [*, go_sem], by simp [*, go_sem], by simp [*, go_sem]⟩, by simp [*, go_sem], by simp [*, go_sem], by simp [*, go_sem], by simp [*, go_sem]⟩)
          have kws : Kept w9 W_s := by subst hW; exact (kwn1.setCell (a := ⟨ge, 2, none⟩) gb _).setCell (a := ⟨ge, 3, none⟩) gb _
          clear hW c0 c1 c2 c3 f0 f1 f2 f3 E3 kwn1 ne
          obtain ⟨c0, c1, c2, c3⟩ := E4.out.1
          go_wp2_with fail
          refine (Q2.out _).mono ?_
          rintro e w2 ⟨rfl, k2⟩
          go_wp2
          go_roundw
          case rel => exact ⟨6 + 1, by omega, by omega, by go_num, Kept.trans kws k2⟩
          case measure => simp [intOf] <;> omega
        · have tz : (t == 0) = false := by simp [t0]
          have hb := HBD.out
          have E1 := Lib.hid (show chkV (6, at_, b, 0) = 0 from by unfold chkV rttV; dsimp only; (repeat' split) <;> omega)
          clear hb
          have E2 := Lib.hid (show chkV (6, at_, 1, t) = 201 from by unfold chkV rttV; dsimp only; (repeat' split) <;> omega)
          have Q1 := Lib.hid (fun w_ => CC'.out 6 at_ b 0 0 (by unfold In64; omega) (by unfold In64; omega) IB.out (by unfold In64; decide) E1.out w_)
          have Q2 := Lib.hid (fun w_ => CC'.out 6 at_ 1 t 201 (by unfold In64; omega) (by unfold In64; omega) (by unfold In64; decide) IT.out E2.out w_)
          go_upto_region 7 with fail
          generalize hW : World.alloc wr (.cells #[.int .i64 6, .int .i64 at_, .int .i64 b, .int .i64 0] 23) = W_e
          have K_e : Kept wr W_e := by subst hW; exact (Kept.refl _).alloc _ _
          have E0 := Lib.hid (show RV W_e wr.heap.size 6 at_ b 0 from by subst hW; exact ⟨⟨by simp [go_sem], by simp [go_sem], by simp [go_sem], by simp [go_sem]⟩, by simp [go_sem], by simp [go_sem], by simp [go_sem], by simp [go_sem]⟩)
          clear hW
          have gb : w9.heap.size ≤ wr.heap.size := Kept.below kw
          generalize wr.heap.size = ge at *
          have kwe := Kept.trans kw K_e
          clear K_e kw
          obtain ⟨c0, c1, c2, c3⟩ := E0.out.1
          go_wp2_with fail
          refine (Q1.out _).mono ?_
          rintro e w1 ⟨rfl, k1⟩
          clear c0 c1 c2 c3
          have E3 := Lib.hid (E0.out.kept k1)
          have kwn1 := Kept.trans kwe k1
          clear E0 kwe k1
          have ne := E3.out.ne
          obtain ⟨⟨c0, c1, c2, c3⟩, f0, f1, f2, f3⟩ := E3.out
          go_upto_region 14 with fail
          generalize hW : World.setCell (World.setCell w1 ⟨ge, 2, none⟩ (.int .i64 1)) ⟨ge, 3, none⟩ (.int .i64 t) = W_s
          have E4 := Lib.hid (show RV W_s ge 6 at_ 1 t from by subst hW; exact ⟨⟨by simp [*, go_sem], by simp [*, go_sem], by simp [*, go_sem], by simp [*, go_sem]⟩, by simp [*, go_sem], by simp [*, go_sem], by simp [*, go_sem], by simp [*, go_sem]⟩)
          have kws : Kept w9 W_s := by subst hW; exact (kwn1.setCell (a := ⟨ge, 2, none⟩) gb _).setCell (a := ⟨ge, 3, none⟩) gb _
          clear hW c0 c1 c2 c3 f0 f1 f2 f3 E3 kwn1 ne
          obtain ⟨c0, c1, c2, c3⟩ := E4.out.1
          go_wp2_with fail
          refine (Q2.out _).mono ?_
          rintro e w2 ⟨rfl, k2⟩
          go_wp2
          go_roundw
          case rel => exact ⟨6 + 1, by omega, by omega, by go_num, Kept.trans kws k2⟩
          case measure => simp [intOf] <;> omega
      by_cases t0 : t = 0
      · subst t0
        have k1 : (j == 1) = false := by simp [hk1]
        have k2 : (j == 2) = false := by simp [hk2]
        have k6 : (j == 6) = false := by simp [hk6]
        obtain ⟨n1, hn1⟩ : ∃ n1, chkV (j, at_, b, 0) = n1 := ⟨_, rfl⟩
        have E1 := Lib.hid hn1
        obtain ⟨zb, hzb⟩ : ∃ zb, (b == 0) = zb := ⟨_, rfl⟩
        have hz1 : (n1 == 0) = zb := by rw [← hzb, ← hn1]; exact other_zero ⟨j1, hlt⟩ ⟨hk1, hk2, hk6⟩ ⟨a0, a1⟩
        clear hn1
        have E2 := Lib.hid (show chkV (j, at_, 0, 0) = 0 from by unfold chkV rttV; dsimp only; (repeat' split) <;> omega)
        have Q1 := Lib.hid (fun w_ => CC'.out j at_ b 0 n1 (by unfold In64; omega) (by unfold In64; omega) IB.out (by unfold In64; decide) E1.out w_)
        have Q2 := Lib.hid (fun w_ => CC'.out j at_ 0 0 0 (by unfold In64; omega) (by unfold In64; omega) (by unfold In64; decide) (by unfold In64; decide) E2.out w_)
        go_upto_region 7 with fail
        generalize hW : World.alloc wr (.cells #[.int .i64 j, .int .i64 at_, .int .i64 b, .int .i64 0] 23) = W_e
        have K_e : Kept wr W_e := by subst hW; exact (Kept.refl _).alloc _ _
        have E0 := Lib.hid (show RV W_e wr.heap.size j at_ b 0 from by subst hW; exact ⟨⟨by simp [go_sem], by simp [go_sem], by simp [go_sem], by simp [go_sem]⟩, by simp [go_sem], by simp [go_sem], by simp [go_sem], by simp [go_sem]⟩)
        clear hW
        have gb : w9.heap.size ≤ wr.heap.size := Kept.below kw
        generalize wr.heap.size = ge at *
        have kwe := Kept.trans kw K_e
        clear K_e kw
        obtain ⟨c0, c1, c2, c3⟩ := E0.out.1
        go_wp2_with fail
        refine (Q1.out _).mono ?_
        rintro e w1 ⟨rfl, k1⟩
        clear c0 c1 c2 c3
        have E3 := Lib.hid (E0.out.kept k1)
        have kwn1 := Kept.trans kwe k1
        clear E0 kwe k1
        have ne := E3.out.ne
        obtain ⟨⟨c0, c1, c2, c3⟩, f0, f1, f2, f3⟩ := E3.out
        go_upto_region 14 with fail
        generalize hW : World.setCell (World.setCell w1 ⟨ge, 2, none⟩ (.int .i64 0)) ⟨ge, 3, none⟩ (.int .i64 0) = W_s
        have E4 := Lib.hid (show RV W_s ge j at_ 0 0 from by subst hW; exact ⟨⟨by simp [*, go_sem], by simp [*, go_sem], by simp [*, go_sem], by simp [*, go_sem]⟩, by simp [*, go_sem], by simp [*, go_sem], by simp [*, go_sem], by simp [*, go_sem]⟩)
        have kws : Kept w9 W_s := by subst hW; exact (kwn1.setCell (a := ⟨ge, 2, none⟩) gb _).setCell (a := ⟨ge, 3, none⟩) gb _
        clear hW c0 c1 c2 c3 f0 f1 f2 f3 E3 kwn1 ne
        obtain ⟨c0, c1, c2, c3⟩ := E4.out.1
        go_wp2_with fail
        refine (Q2.out _).mono ?_
        rintro e w2 ⟨rfl, k2⟩
        go_wp2
        go_roundw
        case rel => exact ⟨j + 1, by omega, by omega, by go_num, Kept.trans kws k2⟩
        case measure => simp [intOf] <;> omega
      · have tz : (t == 0) = false := by simp [t0]
        have k1 : (j == 1) = false := by simp [hk1]
        have k2 : (j == 2) = false := by simp [hk2]
        have k6 : (j == 6) = false := by simp [hk6]
        obtain ⟨n1, hn1⟩ : ∃ n1, chkV (j, at_, b, 0) = n1 := ⟨_, rfl⟩
        have E1 := Lib.hid hn1
        obtain ⟨zb, hzb⟩ : ∃ zb, (b == 0) = zb := ⟨_, rfl⟩
        have hz1 : (n1 == 0) = zb := by rw [← hzb, ← hn1]; exact other_zero ⟨j1, hlt⟩ ⟨hk1, hk2, hk6⟩ ⟨a0, a1⟩
        clear hn1
        have E2 := Lib.hid (show chkV (j, at_, 0, t) = 201 from by unfold chkV rttV; dsimp only; (repeat' split) <;> omega)
        have Q1 := Lib.hid (fun w_ => CC'.out j at_ b 0 n1 (by unfold In64; omega) (by unfold In64; omega) IB.out (by unfold In64; decide) E1.out w_)
        have Q2 := Lib.hid (fun w_ => CC'.out j at_ 0 t 201 (by unfold In64; omega) (by unfold In64; omega) (by unfold In64; decide) IT.out E2.out w_)
        go_upto_region 7 with fail
        generalize hW : World.alloc wr (.cells #[.int .i64 j, .int .i64 at_, .int .i64 b, .int .i64 0] 23) = W_e
        have K_e : Kept wr W_e := by subst hW; exact (Kept.refl _).alloc _ _
        have E0 := Lib.hid (show RV W_e wr.heap.size j at_ b 0 from by subst hW; exact ⟨⟨by simp [go_sem], by simp [go_sem], by simp [go_sem], by simp [go_sem]⟩, by simp [go_sem], by simp [go_sem], by simp [go_sem], by simp [go_sem]⟩)
        clear hW
        have gb : w9.heap.size ≤ wr.heap.size := Kept.below kw
        generalize wr.heap.size = ge at *
        have kwe := Kept.trans kw K_e
        clear K_e kw
        obtain ⟨c0, c1, c2, c3⟩ := E0.out.1
        go_wp2_with fail
        refine (Q1.out _).mono ?_
        rintro e w1 ⟨rfl, k1⟩
        clear c0 c1 c2 c3
        have E3 := Lib.hid (E0.out.kept k1)
        have kwn1 := Kept.trans kwe k1
        clear E0 kwe k1
        have ne := E3.out.ne
        obtain ⟨⟨c0, c1, c2, c3⟩, f0, f1, f2, f3⟩ := E3.out
        go_upto_region 14 with fail
        generalize hW : World.setCell (World.setCell w1 ⟨ge, 2, none⟩ (.int .i64 0)) ⟨ge, 3, none⟩ (.int .i64 t) = W_s
        have E4 := Lib.hid (show RV W_s ge j at_ 0 t from by subst hW; exact ⟨⟨by simp [*, go_sem], by simp [*, go_sem], by simp [*, go_sem], by simp [*, go_sem]⟩, by simp [*, go_sem], by simp [*, go_sem], by simp [*, go_sem], by simp [*, go_sem]⟩)
        have kws : Kept w9 W_s := by subst hW; exact (kwn1.setCell (a := ⟨ge, 2, none⟩) gb _).setCell (a := ⟨ge, 3, none⟩) gb _
        clear hW c0 c1 c2 c3 f0 f1 f2 f3 E3 kwn1 ne
        obtain ⟨c0, c1, c2, c3⟩ := E4.out.1
        go_wp2_with fail
        refine (Q2.out _).mono ?_
        rintro e w2 ⟨rfl, k2⟩
        go_wp2
        go_roundw
        case rel => exact ⟨j + 1, by omega, by omega, by go_num, Kept.trans kws k2⟩
        case measure => simp [intOf] <;> omega
    · have dl : decide (j ≤ 7) = false := by simp; omega
      go_wp2
      go_ret
      exact ⟨rfl, Kept.trans k0 kw⟩
theorem eventKinds_walk (CC : EvCheckC) (DC : EvDecC) (NC : EvEncC) (AC : EvAllC) (at_ b t : Int) (w : World) (a0 : 0 ≤ at_) (a1 : at_ ≤ 4294967295) (ib : In64 b) (it : In64 t) : Calls Try.prog 6 #[.int .u32 at_, .int .i64 b, .int .i64 t] w fun e w' => e = .returned (.bool true) ∧ Kept w w' := by
  by_cases h : b < 1
  · exact kinds20_lo CC DC NC AC a0 a1 ib it h w
  · by_cases h2 : 1073741824 < b
    · exact kinds20_hi CC DC NC AC a0 a1 ib it h2 w
    · exact kinds20_ok CC DC NC AC a0 a1 ib it ⟨by omega, by omega⟩ w
end Go.Proofs.Ytbpdimogigcacaa
