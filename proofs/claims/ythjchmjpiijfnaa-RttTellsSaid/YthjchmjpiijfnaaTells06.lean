/-
  The walk of RttTells: it answers true, whatever it is given.
-/
import Derived.Test.YthjchmjpiijfnaaRow06
import Derived.Test.YthjchmjpiijfnaaRefR06
import Derived.Deep.DeepCutAuto
namespace Go.Proofs.Ythjchmjpiijfnaa
open Go.RowKit Go.BigFrame
set_option linter.unusedVariables false

set_option maxRecDepth 100000 in
set_option maxHeartbeats 1600000 in
theorem tells_long (b : Bool) (m f : Int) (A : Option Addr) (len cap : Nat) (w : World) (hl : 100 < len) (hm : len ≤ 9223372036854775807) : Calls Try.prog 3 #[.agg #[.bool b, .int .i64 m, .int .i64 f], .slice A len cap] w fun e w' => e = .returned (.bool true) ∧ Kept w w' := by
  have hd : decide ((100 : Int) < (len : Int)) = true := by simp; omega
  go_enter Try.func3, Try.ntmps3
  go_wp2_with fail
  refine (awake06 _).mono ?_
  rintro e w1 ⟨rfl, k1⟩
  go_wp2
  go_ret
  exact ⟨rfl, (by (repeat (first | with_reducible exact Kept.refl _ | with_reducible apply Kept.drew | with_reducible apply Kept.alloc | ((with_reducible apply Kept.set); focus (simp <;> omega)) | ((with_reducible apply Kept.via); focus with_reducible assumption))))⟩
set_option maxRecDepth 100000 in
set_option maxHeartbeats 3200000 in
theorem tells_short {b c : Bool} {m f p q : Int} (A : Option Addr) (len cap : Nat) (zs : List Int) (hl : len ≤ 100) (S1 : ∀ (B : Bool) (M F z : Int), ∃ (B' : Bool) (M' F' er : Int), (∀ w, Calls Try.prog 10 #[.agg #[.bool B, .int .i64 M, .int .i64 F], .int .i64 z] w fun e w' => e = .returned (.tuple #[.agg #[.bool B', .int .i64 M', .int .i64 F'], .int .i64 er]) ∧ Kept w w') ∧ ∀ w, Calls Try.prog 11 #[.agg #[.bool B, .int .i64 M, .int .i64 F], .int .i64 z] w fun e w' => e = .returned (.tuple #[.agg #[.bool B', .int .i64 M', .int .i64 F'], .int .i64 er]) ∧ Kept w w') (C1 : ∀ w, Calls Try.prog 12 #[.agg #[.bool b, .int .i64 m, .int .i64 f]] w fun e w' => e = .returned (.bool c) ∧ Kept w w') (C2 : ∀ w, Calls Try.prog 13 #[.agg #[.bool b, .int .i64 m, .int .i64 f]] w fun e w' => e = .returned (.bool c) ∧ Kept w w') (M1 : ∀ w, Calls Try.prog 14 #[.agg #[.bool b, .int .i64 m, .int .i64 f]] w fun e w' => e = .returned (.int .i64 p) ∧ Kept w w') (M2 : ∀ w, Calls Try.prog 15 #[.agg #[.bool b, .int .i64 m, .int .i64 f]] w fun e w' => e = .returned (.int .i64 p) ∧ Kept w w') (F1 : ∀ w, Calls Try.prog 16 #[.agg #[.bool b, .int .i64 m, .int .i64 f]] w fun e w' => e = .returned (.int .i64 q) ∧ Kept w w') (F2 : ∀ w, Calls Try.prog 17 #[.agg #[.bool b, .int .i64 m, .int .i64 f]] w fun e w' => e = .returned (.int .i64 q) ∧ Kept w w') (w : World) (hr : RowAt w A len (fun j => .int .i64 (zs.getD j 0))) : Calls Try.prog 3 #[.agg #[.bool b, .int .i64 m, .int .i64 f], .slice A len cap] w fun e w' => e = .returned (.bool true) ∧ Kept w w' := by
  have hd : decide ((100 : Int) < (len : Int)) = false := by simp; omega
  have HR := Lib.hid hr
  clear hr
  have S1' := Lib.hid S1
  have C1' := Lib.hid C1
  have C2' := Lib.hid C2
  have M1' := Lib.hid M1
  have M2' := Lib.hid M2
  have F1' := Lib.hid F1
  have F2' := Lib.hid F2
  clear S1 C1 C2 M1 M2 F1 F2
  go_enter Try.func3, Try.ntmps3
  go_upto_region 1 with fail
  generalize hW : World.alloc w (.cells #[.bool b, .int .i64 m, .int .i64 f] 23) = W_r
  have K_r : Kept w W_r := by subst hW; exact (Kept.refl _).alloc _ _
  have H_r := Lib.hid (show W_r.cell? ⟨w.heap.size, 0, none⟩ = some (.bool b) ∧ W_r.cell? ⟨w.heap.size, 1, none⟩ = some (.int .i64 m) ∧ W_r.cell? ⟨w.heap.size, 2, none⟩ = some (.int .i64 f) from by subst hW; simp [go_sem])
  clear hW
  generalize w.heap.size = g_r at *
  go_wp2_with fail
  refine (awake06 _).mono ?_
  rintro e w1 ⟨rfl, k1⟩
  obtain ⟨c_r0, c_r1, c_r2⟩ := Kept.all3 (show Kept W_r w1 from (by (repeat (first | with_reducible exact Kept.refl _ | with_reducible apply Kept.drew | with_reducible apply Kept.alloc | ((with_reducible apply Kept.set); focus (simp <;> omega)) | ((with_reducible apply Kept.via); focus with_reducible assumption))))) H_r
  go_upto_region 5 with fail
  generalize hW : World.alloc w1 (.cells #[.bool b, .int .i64 m, .int .i64 f] 23) = W_x
  have K_x : Kept w1 W_x := by subst hW; exact (Kept.refl _).alloc _ _
  have R_x : RC W_x w1.heap.size b m f := by subst hW; exact ⟨⟨by simp [go_sem], by simp [go_sem], by simp [go_sem]⟩, by simp [go_sem], by simp [go_sem], by simp [go_sem]⟩
  clear hW
  have lx : W_r.heap.size ≤ w1.heap.size := Kept.below k1
  have kx : Kept W_r W_x := Kept.trans k1 K_x
  clear c_r0 c_r1 c_r2 k1 K_x
  generalize w1.heap.size = g_x at *
  have lz := RC.ne R_x
  obtain ⟨c_r0, c_r1, c_r2⟩ := Kept.all3 kx H_r
  go_upto_region 6 with fail
  generalize hW : World.alloc W_x (.cells #[.bool b, .int .i64 m, .int .i64 f] 23) = W_y
  have K_y : Kept W_x W_y := by subst hW; exact (Kept.refl _).alloc _ _
  have R_y : RC W_y W_x.heap.size b m f := by subst hW; exact ⟨⟨by simp [go_sem], by simp [go_sem], by simp [go_sem]⟩, by simp [go_sem], by simp [go_sem], by simp [go_sem]⟩
  clear hW
  have ly : W_r.heap.size ≤ W_x.heap.size := Kept.below kx
  have ky : Kept W_r W_y := Kept.trans kx K_y
  have R_x2 := R_x.kept K_y
  clear c_r0 c_r1 c_r2 kx K_y R_x
  generalize W_x.heap.size = g_y at *
  have gne : ¬ g_x = g_y := by omega
  have gne' : ¬ g_y = g_x := by omega
  go_wp2
  go_loopw [8] (fun i wr => ∃ (k : Nat) (B : Bool) (M F : Int), k ≤ len ∧ i = .int .i64 k ∧ RC wr g_x B M F ∧ RC wr g_y B M F ∧ Kept W_r wr) (fun i _ => len - (intOf i).toNat)
  case atStart => exact ⟨0, b, m, f, Nat.zero_le _, rfl, R_x2, R_y, ky⟩
  case round =>
    clear R_x2 R_y ky hd lz
    obtain ⟨k, B, M, FF, hk, rfl, hX, hY, kw⟩ := hrel
    have HX := Lib.hid hX
    have HY := Lib.hid hY
    clear hX hY
    by_cases hlt : k < len
    · have hltI : (k : Int) < (len : Int) := by omega
      obtain ⟨bb, off, rfl, hc⟩ := (HR.out.kept (Kept.trans K_r kw)) (by omega)
      have c1 : wr.cell? ⟨bb, off + k, none⟩ = some (.int .i64 (zs.getD k 0)) := hc k hlt
      clear hc
      generalize zs.getD k 0 = z at c1
      obtain ⟨B2, M2, F2, er, s1, s2⟩ := S1'.out B M FF z
      have HS1 := Lib.hid s1
      have HS2 := Lib.hid s2
      clear s1 s2
      have lx2 := RC.ne HX.out
      have ly2 := RC.ne HY.out
      obtain ⟨⟨x0, x1, x2⟩, x3, x4, x5⟩ := HX.out
      go_upto_region 9 with fail
      have base_a := Lib.hid (show wr.cell? ⟨g_x, 0, none⟩ = some (.bool B) ∧ wr.cell? ⟨g_x, 1, none⟩ = some (.int .i64 M) ∧ wr.cell? ⟨g_x, 2, none⟩ = some (.int .i64 FF) ∧ wr.cell? ⟨bb, off + k, none⟩ = some (.int .i64 z) from ⟨x0, x1, x2, c1⟩)
      go_cut [9, 10] (fun s9 s10 wx => ∃ g : Nat, s9 = .pointer (some ⟨g, 0, none⟩) ∧ s10 = .int .i64 er ∧ RC wx g B2 M2 F2 ∧ wr.heap.size ≤ g ∧ Kept wr wx)
      case first =>
        go_region_held3 (fun w' => w'.cell? ⟨g_x, 0, none⟩ = some (.bool B) ∧ w'.cell? ⟨g_x, 1, none⟩ = some (.int .i64 M) ∧ w'.cell? ⟨g_x, 2, none⟩ = some (.int .i64 FF) ∧ w'.cell? ⟨bb, off + k, none⟩ = some (.int .i64 z))
          ((refine Kept.all4r ?_ base_a; focus ((repeat (first | with_reducible exact Kept.refl _ | with_reducible apply Kept.drew | with_reducible apply Kept.alloc | ((with_reducible apply Kept.set); focus (simp <;> omega)) | ((with_reducible apply Kept.via); focus with_reducible assumption))); done)))
          (first
            | (go_at_call 10; refine (HS1.out _).mono ?_; rintro e v1 ⟨rfl, i1⟩; (try (first | (with_reducible have nr := Room3.newD i1) | (with_reducible have nr := Room3.new i1) | (with_reducible have nr := Room3.kept nr i1))); have y1 := Kept.below i1; (try simp at y1); (try (obtain ⟨nx, ny, nz, na1, na2, na3, nb1, nb2, nb3⟩ := nr))))
        all_goals
          go_wp2_with fail
          go_meet
          exact ⟨_, rfl, rfl, ⟨⟨by simp [*, go_sem], by simp [*, go_sem], by simp [*, go_sem]⟩, by simp [*, go_sem], by simp [*, go_sem], by simp [*, go_sem]⟩, (by first | omega | (simp; omega)), (by (repeat (first | with_reducible exact Kept.refl _ | with_reducible apply Kept.drew | with_reducible apply Kept.alloc | ((with_reducible apply Kept.set); focus (simp <;> omega)) | ((with_reducible apply Kept.via); focus with_reducible assumption))))⟩
      obtain ⟨g_a, rfl, rfl, ra, la, K_a⟩ := hcut
      generalize wc = Wa at *
      have RA := Lib.hid ra
      have HX2 := Lib.hid (HX.out.kept K_a)
      have HY2 := Lib.hid (HY.out.kept K_a)
      have c2 := K_a.read c1
      have kwa := Kept.trans kw K_a
      clear ra c1 x0 x1 x2 x3 x4 x5 HX HY kw K_a base_a
      have la2 := RC.ne RA.out
      have na1 : ¬ g_a = g_x := by omega
      have na2 : ¬ g_a = g_y := by omega
      have na3 : ¬ g_x = g_a := by omega
      have na4 : ¬ g_y = g_a := by omega
      obtain ⟨⟨x0, x1, x2⟩, x3, x4, x5⟩ := HY2.out
      go_upto_region 10 with fail
      have base_b := Lib.hid (show Wa.cell? ⟨g_y, 0, none⟩ = some (.bool B) ∧ Wa.cell? ⟨g_y, 1, none⟩ = some (.int .i64 M) ∧ Wa.cell? ⟨g_y, 2, none⟩ = some (.int .i64 FF) ∧ Wa.cell? ⟨bb, off + k, none⟩ = some (.int .i64 z) from ⟨x0, x1, x2, c2⟩)
      go_cut [11, 12] (fun s11 s12 wx => ∃ g : Nat, s11 = .pointer (some ⟨g, 0, none⟩) ∧ s12 = .int .i64 er ∧ RC wx g B2 M2 F2 ∧ Wa.heap.size ≤ g ∧ Kept Wa wx)
      case first =>
        go_region_held3 (fun w' => w'.cell? ⟨g_y, 0, none⟩ = some (.bool B) ∧ w'.cell? ⟨g_y, 1, none⟩ = some (.int .i64 M) ∧ w'.cell? ⟨g_y, 2, none⟩ = some (.int .i64 FF) ∧ w'.cell? ⟨bb, off + k, none⟩ = some (.int .i64 z))
          ((refine Kept.all4r ?_ base_b; focus ((repeat (first | with_reducible exact Kept.refl _ | with_reducible apply Kept.drew | with_reducible apply Kept.alloc | ((with_reducible apply Kept.set); focus (simp <;> omega)) | ((with_reducible apply Kept.via); focus with_reducible assumption))); done)))
          (first
            | (go_at_call 11; refine (HS2.out _).mono ?_; rintro e v1 ⟨rfl, i1⟩; (try (first | (with_reducible have nr := Room3.newD i1) | (with_reducible have nr := Room3.new i1) | (with_reducible have nr := Room3.kept nr i1))); have y1 := Kept.below i1; (try simp at y1); (try (obtain ⟨nx, ny, nz, na1, na2, na3, nb1, nb2, nb3⟩ := nr))))
        all_goals
          go_wp2_with fail
          go_meet
          exact ⟨_, rfl, rfl, ⟨⟨by simp [*, go_sem], by simp [*, go_sem], by simp [*, go_sem]⟩, by simp [*, go_sem], by simp [*, go_sem], by simp [*, go_sem]⟩, (by first | omega | (simp; omega)), (by (repeat (first | with_reducible exact Kept.refl _ | with_reducible apply Kept.drew | with_reducible apply Kept.alloc | ((with_reducible apply Kept.set); focus (simp <;> omega)) | ((with_reducible apply Kept.via); focus with_reducible assumption))))⟩
      obtain ⟨g_b, rfl, rfl, rb, lb, K_b⟩ := hcut
      generalize wc = Wb at *
      have RB := Lib.hid rb
      have RA3 := Lib.hid (RA.out.kept K_b)
      have HX3 := Lib.hid (HX2.out.kept K_b)
      have HY3 := Lib.hid (HY2.out.kept K_b)
      have kwb := Kept.trans kwa K_b
      have lb2 := RC.ne RB.out
      have lxa := RC.ne HX2.out
      have lya := RC.ne HY2.out
      clear rb c2 x0 x1 x2 x3 x4 x5 HX2 HY2 kwa K_b base_b RA
      have nb1 : ¬ g_b = g_x := by omega
      have nb2 : ¬ g_b = g_y := by omega
      have nb3 : ¬ g_x = g_b := by omega
      have nb4 : ¬ g_y = g_b := by omega
      have nb5 : ¬ g_a = g_b := by omega
      have nb6 : ¬ g_b = g_a := by omega
      obtain ⟨⟨a0, a1, a2⟩, a3, a4, a5⟩ := RA3.out
      obtain ⟨⟨x0, x1, x2⟩, x3, x4, x5⟩ := HX3.out
      obtain ⟨⟨b0, b1, b2⟩, b3, b4, b5⟩ := RB.out
      obtain ⟨⟨y0, y1, y2⟩, y3, y4, y5⟩ := HY3.out
      go_wp2
      go_roundw
      case rel => exact ⟨k + 1, B2, M2, F2, by omega, by go_num, ⟨⟨by simp [*, go_sem], by simp [*, go_sem], by simp [*, go_sem]⟩, by simp [*, go_sem], by simp [*, go_sem], by simp [*, go_sem]⟩, ⟨⟨by simp [*, go_sem], by simp [*, go_sem], by simp [*, go_sem]⟩, by simp [*, go_sem], by simp [*, go_sem], by simp [*, go_sem]⟩, (by (repeat (first | with_reducible exact Kept.refl _ | with_reducible apply Kept.drew | with_reducible apply Kept.alloc | ((with_reducible apply Kept.set); focus (simp <;> omega)) | ((with_reducible apply Kept.via); focus with_reducible assumption))))⟩
      case measure => simp [intOf]; omega
    · obtain rfl : k = len := by omega
      go_upto_region 15 with fail
      have B_r := Lib.hid (Kept.all3 (show Kept W_r wr from (by (repeat (first | with_reducible exact Kept.refl _ | with_reducible apply Kept.drew | with_reducible apply Kept.alloc | ((with_reducible apply Kept.set); focus (simp <;> omega)) | ((with_reducible apply Kept.via); focus with_reducible assumption))))) H_r)
      have kall : Kept w wr := (by (repeat (first | with_reducible exact Kept.refl _ | with_reducible apply Kept.drew | with_reducible apply Kept.alloc | ((with_reducible apply Kept.set); focus (simp <;> omega)) | ((with_reducible apply Kept.via); focus with_reducible assumption))))
      obtain ⟨q_r0, q_r1, q_r2⟩ := kw3 B_r
      clear B_r
      refine wp_region_kept (by kernel_rfl) (by as_aux_lemma => kernel_rfl) ?_
      repeat (go_big_quiet_step (first | (with_reducible exact kept_of (C1'.out _)) | (with_reducible exact kept_of (C2'.out _)) | (with_reducible exact kept_of (M1'.out _)) | (with_reducible exact kept_of (M2'.out _)) | (with_reducible exact kept_of (F1'.out _)) | (with_reducible exact kept_of (F2'.out _))))
      refine wpQuiet_nil ?_
      intro wq hw'
      have kq : Kept wr wq := by obtain ⟨p, rfl⟩ := hw'; exact p.k
      clear hw'
      go_wp2
      go_ret
      exact ⟨rfl, kall.trans kq⟩
theorem rttTells_walk (b : Bool) (m f : Int) (A : Option Addr) (len cap : Nat) (zs : List Int) (w : World) (hm : In64 m) (hf : In64 f) (hl : len ≤ 9223372036854775807) (hr : RowAt w A len (fun j => .int .i64 (zs.getD j 0))) : Calls Try.prog 3 #[.agg #[.bool b, .int .i64 m, .int .i64 f], .slice A len cap] w fun e w' => e = .returned (.bool true) ∧ Kept w w' := by
  by_cases h : len ≤ 100
  · have S := fun (B : Bool) (M F z : Int) => (show ∃ (B' : Bool) (M' F' er : Int), (∀ w, Calls Try.prog 10 #[.agg #[.bool B, .int .i64 M, .int .i64 F], .int .i64 z] w fun e w' => e = .returned (.tuple #[.agg #[.bool B', .int .i64 M', .int .i64 F'], .int .i64 er]) ∧ Kept w w') ∧ ∀ w, Calls Try.prog 11 #[.agg #[.bool B, .int .i64 M, .int .i64 F], .int .i64 z] w fun e w' => e = .returned (.tuple #[.agg #[.bool B', .int .i64 M', .int .i64 F'], .int .i64 er]) ∧ Kept w w' from by
      obtain ⟨B', M', F', er, s⟩ := sample_ex B M F z
      exact ⟨B', M', F', er, fun w => Sample_ok s w, fun w => refSample_ok s w⟩)
    by_cases hk : MayRtt b m f
    · exact tells_short A len cap zs h S (fun w => Check_yes hk w) (fun w => refCheck_yes_r hk w) (fun w => Mean_ok ⟨hm, rfl⟩ w) (fun w => refMean_ok hm rfl w) (fun w => Far_ok ⟨hf, rfl⟩ w) (fun w => refFar_ok hf rfl w) w hr
    · exact tells_short A len cap zs h S (fun w => Check_no hk w) (fun w => refCheck_no_r hk w) (fun w => Mean_ok ⟨hm, rfl⟩ w) (fun w => refMean_ok hm rfl w) (fun w => Far_ok ⟨hf, rfl⟩ w) (fun w => refFar_ok hf rfl w) w hr
  · exact tells_long b m f A len cap w (by omega) hl
end Go.Proofs.Ythjchmjpiijfnaa
