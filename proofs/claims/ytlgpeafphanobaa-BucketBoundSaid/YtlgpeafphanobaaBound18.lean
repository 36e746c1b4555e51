/-
  The walk of BucketBound: it answers true, if the calls do what they are to do.
-/
import Derived.Test.YtlgpeafphanobaaAwake18
import Derived.Test.YtlgpeafphanobaaRowI
import Derived.Test.YtlgpeafphanobaaFrame
import Derived.Deep.RegionHeld3
import Derived.Deep.DeepCutAuto
namespace Go.Proofs.Ytlgpeafphanobaa
open Go.RowKit Go.BigFrame
set_option linter.unusedVariables false

theorem bound_fill {a h t rate q a1 h1 : Int} (q0 : 0 ≤ q) (q1 : q ≤ 1048575) (r0 : 0 ≤ rate) (r1 : rate ≤ 1048575) (hq : h ≤ q * 1000000) (f : FillIs a h t rate q a1 h1 0) :
    MayB a1 h1 ∧ h1 ≤ q * 1000000 ∧ a1 = t ∧ a ≤ a1 ∧ h1 ≤ h + rate * (a1 - a) ∧ 0 ≤ rate * (a1 - a) ∧ rate * (a1 - a) ≤ 1048575 * (a1 - a) := by
  rcases f with ⟨_, _, _, z⟩ | ⟨_, _, _, _, z⟩ | ⟨_, _, _, _, _, z⟩ | ⟨m, ht, l, rfl, rfl, _⟩
  · cases z
  · cases z
  · cases z
  · have e := fill_min (rate := rate) (most := q) m.2.1 m.2.2 (d := a1 - a) (by omega)
    have r := fill_range (rate := rate) (most := q) m.2.1 m.2.2 (d := a1 - a) (by omega)
    have hr : heldTime rate = rate := by unfold heldTime; rw [if_neg (by omega), if_neg (by omega)]
    have tq : topN q = q * 1000000 := by unfold topN heldTime; rw [if_neg (by omega), if_neg (by omega)]
    rw [hr, tq] at e
    have p0 : 0 ≤ rate * (a1 - a) := Int.mul_nonneg r0 (by omega)
    have p1 : rate * (a1 - a) ≤ 1048575 * (a1 - a) := Int.mul_le_mul_of_nonneg_right r1 (by omega)
    have h0 := m.2.1
    exact ⟨⟨ht, by omega, r.2⟩, by omega, rfl, l, by omega, p0, p1⟩
theorem bound_same {a h t rate q a1 h1 er : Int} (f : FillIs a h t rate q a1 h1 er) (z : ¬ er = 0) : a1 = a ∧ h1 = h := by
  rcases f with ⟨_, rfl, rfl, _⟩ | ⟨_, _, rfl, rfl, _⟩ | ⟨_, _, _, rfl, rfl, _⟩ | ⟨_, _, _, _, _, x⟩
  · exact ⟨rfl, rfl⟩
  · exact ⟨rfl, rfl⟩
  · exact ⟨rfl, rfl⟩
  · exact absurd x z
theorem bound_take {a h n h2 er : Int} (f : TakeIs a h n h2 er) (m : MayB a h) : (er = 0 ∧ 1 ≤ n ∧ n ≤ 1152921504607 ∧ h2 = h - 1000000 * n ∧ MayB a h2) ∨ (¬ er = 0 ∧ h2 = h) := by
  rcases f with ⟨_, rfl, rfl⟩ | ⟨_, _, _, rfl, rfl⟩ | ⟨_, n0, l, rfl, rfl⟩
  · exact Or.inr ⟨by decide, rfl⟩
  · exact Or.inr ⟨by decide, rfl⟩
  · have := m.2.2
    exact Or.inl ⟨rfl, n0, by omega, rfl, m.1, by omega, by omega⟩
set_option maxRecDepth 100000 in
set_option maxHeartbeats 1600000 in
theorem bound18_long (CC : BuCheckC) (FC : BuFillC) (TC : BuTakeC) (WC : BuWaitC) (YC : BuBytesC) {most first : Int} {A : Option Addr} {len cap : Nat} (hl : 60 < len) (hm : len ≤ 9223372036854775807) (w : World) : Calls Try.prog 4 #[.int .u32 most, .int .u32 first, .slice A len cap] w fun e w' => e = .returned (.bool true) ∧ Kept w w' := by
  have CC' := Lib.hid CC
  have FC' := Lib.hid FC
  have TC' := Lib.hid TC
  have WC' := Lib.hid WC
  have YC' := Lib.hid YC
  have AW' := Lib.hid (fun w => awake18 CC FC TC WC YC w)
  clear CC FC TC WC YC
  have hd : decide ((60 : Int) < (len : Int)) = true := by simp; omega
  go_enter Try.func4, Try.ntmps4
  go_wp2_with fail
  refine (AW'.out _).mono ?_
  rintro e w20 ⟨rfl, k20⟩
  go_wp2
  go_ret
  exact ⟨rfl, (by (repeat (first | with_reducible exact Kept.refl _ | with_reducible apply Kept.drew | with_reducible apply Kept.alloc | ((with_reducible apply Kept.set); focus (simp <;> omega)) | ((with_reducible apply Kept.via); focus with_reducible assumption))))⟩
set_option maxRecDepth 100000 in
set_option maxHeartbeats 6400000 in
theorem bound18_short (CC : BuCheckC) (FC : BuFillC) (TC : BuTakeC) (WC : BuWaitC) (YC : BuBytesC) {most first : Int} {A : Option Addr} {len cap : Nat} {E : Nat → Nat → Int} (hl : len ≤ 60) (m0 : 0 ≤ most) (m1 : most ≤ 4294967295) (f0 : 0 ≤ first) (f1 : first ≤ 4294967295) (hz : ∀ i, i < len → ∀ j, j < 3 → In64 (E i j)) (w : World) (hr : RowI .i64 w A 3 len E) : Calls Try.prog 4 #[.int .u32 most, .int .u32 first, .slice A len cap] w fun e w' => e = .returned (.bool true) ∧ Kept w w' := by
  have CC' := Lib.hid CC
  have FC' := Lib.hid FC
  have TC' := Lib.hid TC
  have WC' := Lib.hid WC
  have YC' := Lib.hid YC
  have AW' := Lib.hid (fun w => awake18 CC FC TC WC YC w)
  clear CC FC TC WC YC
  have hd : decide ((60 : Int) < (len : Int)) = false := by simp; omega
  have HR := Lib.hid hr
  have HZ := Lib.hid hz
  clear hr hz
  obtain ⟨q, hq⟩ : ∃ q, most % 1048576 = q := ⟨_, rfl⟩
  have q0 : 0 ≤ q ∧ q ≤ 1048575 := by omega
  obtain ⟨h0, hh0⟩ : ∃ h0, (if q * 1000000 < first then q * 1000000 else first) = h0 := ⟨_, rfl⟩
  have HH := Lib.hid hh0
  clear hh0
  go_enter Try.func4, Try.ntmps4
  go_wp2_with fail
  refine (AW'.out _).mono ?_
  rintro e w1 ⟨rfl, k1⟩
  go_upto_region 5 with fail
  go_cut [9] (fun s9 wx => ∃ g : Nat, s9 = .pointer (some ⟨g, 0, none⟩) ∧ RB wx g 0 h0 ∧ w.heap.size ≤ g ∧ Kept w1 wx)
  case first =>
    have hb := Kept.below k1
    rcases Int.lt_or_le (q * 1000000) first with hx | hx
    · have e0 : q * 1000000 = h0 := by have := HH.out; rw [if_pos hx] at this; exact this
      go_wp2_with fail
      go_meet
      exact ⟨_, rfl, by rw [← e0]; exact ⟨⟨by simp [go_sem], by simp [go_sem] <;> omega⟩, by simp [go_sem], by simp [go_sem]⟩, by simpa using hb, (by (repeat (first | with_reducible exact Kept.refl _ | with_reducible apply Kept.drew | with_reducible apply Kept.alloc | ((with_reducible apply Kept.set); focus (simp <;> omega)) | ((with_reducible apply Kept.via); focus with_reducible assumption))))⟩
    · have e0 : first = h0 := by have := HH.out; rw [if_neg (by omega)] at this; exact this
      go_wp2_with fail
      go_meet
      exact ⟨_, rfl, by rw [← e0]; exact ⟨⟨by simp [go_sem], by simp [go_sem] <;> omega⟩, by simp [go_sem], by simp [go_sem]⟩, by simpa using hb, (by (repeat (first | with_reducible exact Kept.refl _ | with_reducible apply Kept.drew | with_reducible apply Kept.alloc | ((with_reducible apply Kept.set); focus (simp <;> omega)) | ((with_reducible apply Kept.via); focus with_reducible assumption))))⟩
  obtain ⟨gb, rfl, hb0, gw, kc⟩ := hcut
  generalize wc = W0 at *
  have R0 := Lib.hid hb0
  have k0 := Kept.trans k1 kc
  clear hb0 k1 kc
  have hr0 : 0 ≤ h0 ∧ h0 ≤ q * 1000000 := by have := HH.out; split at this <;> omega
  obtain ⟨⟨c0, c1⟩, cf0, cf1⟩ := R0.out
  go_wp2
  clear c0 c1 cf0 cf1
  go_loopw [10, 11, 12] (fun hv gv iv wr => ∃ (k : Nat) (a h had gone : Int), k ≤ len ∧ hv = .int .i64 had ∧ gv = .int .i64 gone ∧ iv = .int .i64 k ∧ RB wr gb a h ∧ MayB a h ∧ a ≤ 68719476736 ∧ h ≤ q * 1000000 ∧ 0 ≤ gone ∧ gone * 1000000 + h ≤ had ∧ had ≤ q * 1000000 + 1048575 * a ∧ Kept w wr) (fun _ _ i _ => len - (intOf i).toNat)
  case atStart => exact ⟨0, 0, h0, h0, 0, Nat.zero_le _, rfl, rfl, rfl, R0.out, ⟨⟨by decide, by decide⟩, by omega, by omega⟩, by decide, hr0.2, Int.le_refl _, by omega, by omega, k0⟩
  case round =>
    clear hd k0 R0 HH hr0
    obtain ⟨k, a, h, had, gone, hk, rfl, rfl, rfl, hD, m, a1, h1, g0, g1, g2, kw⟩ := hrel
    have RR := Lib.hid hD
    have MM := Lib.hid m
    have a0 : 0 ≤ a := m.1.1
    have hh : 0 ≤ h := m.2.1
    clear hD m
    have gne := RR.out.ne
    by_cases hlt : k < len
    · have hltI : (k : Int) < (len : Int) := by omega
      obtain ⟨b, off, eA, hc⟩ := (HR.out.kept kw) (by omega)
      subst eA
      have x0 : wr.cell? ⟨b, off + k * 3, none⟩ = some (.int .i64 (E k 0)) := hc k hlt 0 (by omega)
      have x1 : wr.cell? ⟨b, off + k * 3 + 1, none⟩ = some (.int .i64 (E k 1)) := hc k hlt 1 (by omega)
      have x2 : wr.cell? ⟨b, off + k * 3 + 2, none⟩ = some (.int .i64 (E k 2)) := hc k hlt 2 (by omega)
      have z0 := HZ.out k hlt 0 (by omega)
      have z1 := HZ.out k hlt 1 (by omega)
      have z2 := HZ.out k hlt 2 (by omega)
      clear hc
      generalize E k 0 = t at *
      generalize E k 1 = rate at *
      generalize E k 2 = n at *
      have IT := Lib.hid z0
      have IR := Lib.hid z1
      have IN := Lib.hid z2
      clear z0 z1 z2
      by_cases w1 : rate < 0
      · have d1 : decide (rate < 0) = true := by simp [w1]
        go_wp2
        go_ret
        exact ⟨rfl, kw⟩
      have d1 : decide (rate < 0) = false := by simp; omega
      by_cases w2 : 1048576 ≤ rate
      · have d2 : decide (1048576 ≤ rate) = true := by simp [w2]
        go_wp2
        go_ret
        exact ⟨rfl, kw⟩
      have d2 : decide (1048576 ≤ rate) = false := by simp; omega
      by_cases w3 : 68719476736 < t
      · have d3 : decide (68719476736 < t) = true := by simp [w3]
        go_wp2
        go_ret
        exact ⟨rfl, kw⟩
      have d3 : decide (68719476736 < t) = false := by simp; omega
      obtain ⟨a2, h2, e2, hf⟩ := fill_ex a h t rate q
      have FI := Lib.hid hf
      have II := Lib.hid (fill_in64 (show In64 a from by unfold In64; omega) (show In64 h from by have := MM.out.2.2; unfold In64; omega) IT.out hf)
      have QF := Lib.hid (fun w_ => FC'.out a h t rate q a2 h2 e2 (by unfold In64; omega) (by have := MM.out.2.2; unfold In64; omega) IT.out IR.out (by unfold In64; omega) FI.out w_)
      clear hf
      obtain ⟨⟨c0, c1⟩, c2, c3⟩ := RR.out
      go_upto_region 13 with fail
      have base := Lib.hid (show wr.cell? ⟨gb, 0, none⟩ = some (.int .i64 a) ∧ wr.cell? ⟨gb, 1, none⟩ = some (.int .i64 h) ∧ wr.cell? ⟨b, off + k * 3, none⟩ = some (.int .i64 t) ∧ wr.cell? ⟨b, off + k * 3 + 1, none⟩ = some (.int .i64 rate) from ⟨c0, c1, x0, x1⟩)
      go_cut [13, 14] (fun s13 s14 wx => ∃ g : Nat, s13 = .pointer (some ⟨g, 0, none⟩) ∧ s14 = .int .i64 e2 ∧ RB wx g a2 h2 ∧ wr.heap.size ≤ g ∧ Kept wr wx)
      case first =>
        go_region_held3 (fun w' => w'.cell? ⟨gb, 0, none⟩ = some (.int .i64 a) ∧ w'.cell? ⟨gb, 1, none⟩ = some (.int .i64 h) ∧ w'.cell? ⟨b, off + k * 3, none⟩ = some (.int .i64 t) ∧ w'.cell? ⟨b, off + k * 3 + 1, none⟩ = some (.int .i64 rate))
          ((refine Kept.alln4 ?_ base; focus ((repeat (first | with_reducible exact Kept.refl _ | with_reducible apply Kept.drew | with_reducible apply Kept.alloc | ((with_reducible apply Kept.set); focus (simp <;> omega)) | ((with_reducible apply Kept.via); focus with_reducible assumption))); done)))
          (first | (go_at_call 10; refine (QF.out _).mono ?_; rintro e v1 ⟨rfl, i1⟩; (try (first | (with_reducible have nr := Room2.newD i1) | (with_reducible have nr := Room2.new i1) | (with_reducible have nr := Room2.kept nr i1))); have y1 := Kept.below i1; (try simp at y1); (try (obtain ⟨nx, ny, na1, na2, nb1, nb2⟩ := nr))))
        all_goals
          go_wp2_with fail
          go_meet
          exact ⟨_, rfl, rfl, ⟨⟨by simp [*, go_sem], by simp [*, go_sem]⟩, by simp [*, go_sem], by simp [*, go_sem]⟩, (by first | omega | (simp; omega)), (by (repeat (first | with_reducible exact Kept.refl _ | with_reducible apply Kept.drew | with_reducible apply Kept.alloc | ((with_reducible apply Kept.set); focus (simp <;> omega)) | ((with_reducible apply Kept.via); focus with_reducible assumption))))⟩
      obtain ⟨gx, rfl, rfl, hx, hgx, K_x⟩ := hcut
      generalize wc = W_x at *
      have RX := Lib.hid hx
      have RR2 := Lib.hid (RR.out.kept K_x)
      have kx := Kept.trans kw K_x
      have nn1 : ¬ gx = gb := by omega
      have nn2 : ¬ gb = gx := by omega
      have X := Lib.hid (Kept.all3 K_x (Lib.hid (show wr.cell? ⟨b, off + k * 3, none⟩ = some (.int .i64 t) ∧ wr.cell? ⟨b, off + k * 3 + 1, none⟩ = some (.int .i64 rate) ∧ wr.cell? ⟨b, off + k * 3 + 2, none⟩ = some (.int .i64 n) from ⟨x0, x1, x2⟩)))
      have gne2 := RR2.out.ne
      have gxe := RX.out.ne
      clear hx base c0 c1 c2 c3 x0 x1 x2 K_x RR kw
      by_cases z : e2 = 0
      · subst z
        obtain ⟨m2, b1, rfl, b2, b3, b4, b5⟩ := bound_fill q0.1 q0.2 (by omega) (by omega) h1 FI.out
        have MM2 := Lib.hid m2
        have hh2 : 0 ≤ h2 := m2.2.1
        obtain ⟨pd, hpd⟩ : ∃ pd, rate * (a2 - a) = pd := ⟨_, rfl⟩
        rw [hpd] at b3 b4 b5
        obtain ⟨dt, hdt⟩ : ∃ dt, a2 - a = dt := ⟨_, rfl⟩
        have ew1 : IntKind.i64.wrap (a2 - a) = dt := by rw [IntKind.wrap_i64]; omega
        rw [hdt] at hpd
        have ew2 : IntKind.i64.wrap (rate * dt) = pd := by rw [IntKind.wrap_i64, hpd]; omega
        obtain ⟨had2, hhad⟩ : ∃ x, had + pd = x := ⟨_, rfl⟩
        have ew3 : IntKind.i64.wrap (had + pd) = had2 := by rw [IntKind.wrap_i64]; omega
        have PD := Lib.hid hpd
        have DT := Lib.hid hdt
        clear hpd hdt m2
        obtain ⟨⟨c0, c1⟩, c2, c3⟩ := RR2.out
        obtain ⟨⟨d0, d1'⟩, dx2, dx3⟩ := RX.out
        obtain ⟨x0, x1, x2⟩ := X.out
        go_upto_region 17 with fail
        have B_f := Lib.hid (show W_x.cell? ⟨b, off + k * 3 + 1, none⟩ = some (.int .i64 rate) ∧ W_x.cell? ⟨gx, 0, none⟩ = some (.int .i64 a2) ∧ W_x.cell? ⟨gb, 0, none⟩ = some (.int .i64 a) from ⟨x1, d0, c0⟩)
        clear c0 c1 c2 c3 d0 d1' dx2 dx3 x0 x1 x2
        obtain ⟨q_f0, q_f1, q_f2⟩ := kw3 B_f
        clear B_f
        refine wp_region_kept (by kernel_rfl) (by as_aux_lemma => kernel_rfl) ?_
        repeat (go_big_quiet_step (first | fail))
        refine wpQuiet_nil ?_
        intro wq hw'
        have kq : Kept W_x wq := by obtain ⟨p, rfl⟩ := hw'; exact p.k
        clear hw'
        have kq1 := kq
        clear kq q_f0 q_f1 q_f2
        generalize wq = W_q at *
        have RX2 := Lib.hid (RX.out.kept kq1)
        have RR3 := Lib.hid (RR2.out.kept kq1)
        have X2 := Lib.hid (Kept.all3 kq1 X)
        have kq2 := Kept.trans kx kq1
        have gne3 := RR3.out.ne
        have gxe3 := RX2.out.ne
        clear RX RR2 X kx kq1 ew1 ew2 ew3
        obtain ⟨h3, e3, hf3⟩ := take_ex a2 h2 n
        have TI := Lib.hid hf3
        have QT := Lib.hid (fun w_ => TC'.out a2 h2 n h3 e3 II.out.1 II.out.2 IN.out TI.out w_)
        clear hf3
        obtain ⟨⟨d0, d1'⟩, dx2, dx3⟩ := RX2.out
        obtain ⟨x0, x1, x2⟩ := X2.out
        go_upto_region 18 with fail
        have base := Lib.hid (show W_q.cell? ⟨gx, 0, none⟩ = some (.int .i64 a2) ∧ W_q.cell? ⟨gx, 1, none⟩ = some (.int .i64 h2) ∧ W_q.cell? ⟨b, off + k * 3 + 2, none⟩ = some (.int .i64 n) from ⟨d0, d1', x2⟩)
        go_cut [15, 16] (fun s15 s16 wx => ∃ g : Nat, s15 = .pointer (some ⟨g, 0, none⟩) ∧ s16 = .int .i64 e3 ∧ RB wx g a2 h3 ∧ W_q.heap.size ≤ g ∧ Kept W_q wx)
        case first =>
          go_region_held3 (fun w' => w'.cell? ⟨gx, 0, none⟩ = some (.int .i64 a2) ∧ w'.cell? ⟨gx, 1, none⟩ = some (.int .i64 h2) ∧ w'.cell? ⟨b, off + k * 3 + 2, none⟩ = some (.int .i64 n))
            ((refine Kept.all3 ?_ base; focus ((repeat (first | with_reducible exact Kept.refl _ | with_reducible apply Kept.drew | with_reducible apply Kept.alloc | ((with_reducible apply Kept.set); focus (simp <;> omega)) | ((with_reducible apply Kept.via); focus with_reducible assumption))); done)))
            (first | (go_at_call 12; refine (QT.out _).mono ?_; rintro e v1 ⟨rfl, i1⟩; (try (first | (with_reducible have nr := Room2.newD i1) | (with_reducible have nr := Room2.new i1) | (with_reducible have nr := Room2.kept nr i1))); have y1 := Kept.below i1; (try simp at y1); (try (obtain ⟨nx, ny, na1, na2, nb1, nb2⟩ := nr))))
          all_goals
            go_wp2_with fail
            go_meet
            exact ⟨_, rfl, rfl, ⟨⟨by simp [*, go_sem], by simp [*, go_sem]⟩, by simp [*, go_sem], by simp [*, go_sem]⟩, (by first | omega | (simp; omega)), (by (repeat (first | with_reducible exact Kept.refl _ | with_reducible apply Kept.drew | with_reducible apply Kept.alloc | ((with_reducible apply Kept.set); focus (simp <;> omega)) | ((with_reducible apply Kept.via); focus with_reducible assumption))))⟩
        obtain ⟨gy, rfl, rfl, hy, hgy, K_y⟩ := hcut
        generalize wc = W_y at *
        have RY := Lib.hid hy
        have RX3 := Lib.hid (RX2.out.kept K_y)
        have RR4 := Lib.hid (RR3.out.kept K_y)
        have X3 := Lib.hid (Kept.all3 K_y X2)
        have ky := Kept.trans kq2 K_y
        have nn3 : ¬ gy = gb := by omega
        have nn4 : ¬ gb = gy := by omega
        have nn5 : ¬ gy = gx := by omega
        have nn6 : ¬ gx = gy := by omega
        have gbw : w.heap.size ≤ gb := by omega
        clear hy base d0 d1' dx2 dx3 x0 x1 x2 K_y RX2 RR3 X2 kq2
        have gne4 := RR4.out.ne
        have gye := RY.out.ne
        have gxe4 := RX3.out.ne
        have CHK := Lib.hid (fun w_ => CC'.out a2 h3 true II.out.1 (take_in64 II.out.2 TI.out) (by simp [take_may TI.out MM2.out]) w_)
        rcases bound_take TI.out MM2.out with ⟨z3, n0, n1, e5, m3⟩ | ⟨z3, e5⟩
        · subst z3
          have ewn : IntKind.i64.wrap (gone + n) = gone + n := by rw [IntKind.wrap_i64]; omega
          have dA : decide (q * 1000000 < h3) = false := by simp; omega
          have dB : decide (had2 < (gone + n) * 1000000 + h3) = false := by simp; omega
          have gu : 0 ≤ gone + n ∧ (gone + n) * 1000000 ≤ 9000000000000000000 := by omega
          have gg : 0 ≤ h3 := by have := (take_may TI.out MM2.out).2.1; exact this
          have gg2 : had2 ≤ 9000000000000000000 := by omega
          have REL := Lib.hid (show a2 ≤ 68719476736 ∧ h3 ≤ q * 1000000 ∧ 0 ≤ (gone + n) ∧ (gone + n) * 1000000 + h3 ≤ had2 ∧ had2 ≤ q * 1000000 + 1048575 * a2 from by omega)
          have gg3 : (gone + n) * 1000000 + h3 ≤ had2 := REL.out.2.2.2.1
          clear e5
          obtain ⟨⟨c0, c1⟩, c2, c3⟩ := RR4.out
          obtain ⟨⟨d0, d1'⟩, dx2, dx3⟩ := RY.out
          obtain ⟨x0, x1, x2⟩ := X3.out
          go_upto_region 22 with fail
          generalize hW : World.setCell (World.setCell W_y ⟨gb, 0, none⟩ (.int .i64 a2)) ⟨gb, 1, none⟩ (.int .i64 h3) = W_z
          have RZ := Lib.hid (show RB W_z gb a2 h3 from by subst hW; exact ⟨⟨by simp [*, go_sem], by simp [*, go_sem]⟩, by simp [*, go_sem], by simp [*, go_sem]⟩)
          have RYz := Lib.hid (show RB W_z gy a2 h3 from by subst hW; exact ⟨⟨by simp [*, go_sem], by simp [*, go_sem]⟩, by simp [*, go_sem], by simp [*, go_sem]⟩)
          obtain ⟨⟨f0, f1⟩, f2, f3⟩ := RX3.out
          have RXz := Lib.hid (show RB W_z gx a2 h2 from by subst hW; exact ⟨⟨by simp [*, go_sem], by simp [*, go_sem]⟩, by simp [*, go_sem], by simp [*, go_sem]⟩)
          have kz : Kept w W_z := by subst hW; exact (by (repeat (first | with_reducible exact Kept.refl _ | with_reducible apply Kept.drew | with_reducible apply Kept.alloc | ((with_reducible apply Kept.set); focus (simp <;> omega)) | ((with_reducible apply Kept.via); focus with_reducible assumption))))
          clear hW c0 c1 c2 c3 d0 d1' dx2 dx3 x0 x1 x2 f0 f1 f2 f3 RX3 RY RR4 X3 ky
          obtain ⟨⟨c0, c1⟩, c2, c3⟩ := RZ.out
          go_wp2_with fail
          refine (CHK.out _).mono ?_
          rintro e w9 ⟨rfl, k9⟩
          clear c0 c1 c2 c3
          have RZ2 := Lib.hid (RZ.out.kept k9)
          have RY2 := Lib.hid (RYz.out.kept k9)
          have RX4 := Lib.hid (RXz.out.kept k9)
          have kz9 := Kept.trans kz k9
          clear RZ RYz RXz kz k9
          obtain ⟨⟨c0, c1⟩, c2, c3⟩ := RZ2.out
          obtain ⟨⟨d0, d1'⟩, dx2, dx3⟩ := RY2.out
          obtain ⟨⟨f0, f1⟩, f2, f3⟩ := RX4.out
          go_wp2
          go_roundw
          case rel => exact ⟨k + 1, a2, h3, had2, (gone + n), by omega, rfl, rfl, by go_num, RZ2.out, take_may TI.out MM2.out, REL.out.1, REL.out.2.1, REL.out.2.2.1, REL.out.2.2.2.1, REL.out.2.2.2.2, kz9⟩
          case measure => simp [intOf]; omega
        · have zb3 : (e3 == 0) = false := by simp [z3]
          obtain rfl : h3 = h2 := e5
          have dA : decide (q * 1000000 < h3) = false := by simp; omega
          have dB : decide (had2 < gone * 1000000 + h3) = false := by simp; omega
          have gg : 0 ≤ h3 := by have := (take_may TI.out MM2.out).2.1; exact this
          have gg2 : had2 ≤ 9000000000000000000 := by omega
          have REL := Lib.hid (show a2 ≤ 68719476736 ∧ h3 ≤ q * 1000000 ∧ 0 ≤ gone ∧ gone * 1000000 + h3 ≤ had2 ∧ had2 ≤ q * 1000000 + 1048575 * a2 from by omega)
          obtain ⟨⟨c0, c1⟩, c2, c3⟩ := RR4.out
          obtain ⟨⟨d0, d1'⟩, dx2, dx3⟩ := RY.out
          obtain ⟨x0, x1, x2⟩ := X3.out
          go_upto_region 22 with fail
          generalize hW : World.setCell (World.setCell W_y ⟨gb, 0, none⟩ (.int .i64 a2)) ⟨gb, 1, none⟩ (.int .i64 h3) = W_z
          have RZ := Lib.hid (show RB W_z gb a2 h3 from by subst hW; exact ⟨⟨by simp [*, go_sem], by simp [*, go_sem]⟩, by simp [*, go_sem], by simp [*, go_sem]⟩)
          have RYz := Lib.hid (show RB W_z gy a2 h3 from by subst hW; exact ⟨⟨by simp [*, go_sem], by simp [*, go_sem]⟩, by simp [*, go_sem], by simp [*, go_sem]⟩)
          obtain ⟨⟨f0, f1⟩, f2, f3⟩ := RX3.out
          have RXz := Lib.hid (show RB W_z gx a2 h3 from by subst hW; exact ⟨⟨by simp [*, go_sem], by simp [*, go_sem]⟩, by simp [*, go_sem], by simp [*, go_sem]⟩)
          have kz : Kept w W_z := by subst hW; exact (by (repeat (first | with_reducible exact Kept.refl _ | with_reducible apply Kept.drew | with_reducible apply Kept.alloc | ((with_reducible apply Kept.set); focus (simp <;> omega)) | ((with_reducible apply Kept.via); focus with_reducible assumption))))
          clear hW c0 c1 c2 c3 d0 d1' dx2 dx3 x0 x1 x2 f0 f1 f2 f3 RX3 RY RR4 X3 ky
          obtain ⟨⟨c0, c1⟩, c2, c3⟩ := RZ.out
          go_wp2_with fail
          refine (CHK.out _).mono ?_
          rintro e w9 ⟨rfl, k9⟩
          clear c0 c1 c2 c3
          have RZ2 := Lib.hid (RZ.out.kept k9)
          have RY2 := Lib.hid (RYz.out.kept k9)
          have RX4 := Lib.hid (RXz.out.kept k9)
          have kz9 := Kept.trans kz k9
          clear RZ RYz RXz kz k9
          obtain ⟨⟨c0, c1⟩, c2, c3⟩ := RZ2.out
          obtain ⟨⟨d0, d1'⟩, dx2, dx3⟩ := RY2.out
          obtain ⟨⟨f0, f1⟩, f2, f3⟩ := RX4.out
          go_wp2
          go_roundw
          case rel => exact ⟨k + 1, a2, h3, had2, gone, by omega, rfl, rfl, by go_num, RZ2.out, take_may TI.out MM2.out, REL.out.1, REL.out.2.1, REL.out.2.2.1, REL.out.2.2.2.1, REL.out.2.2.2.2, kz9⟩
          case measure => simp [intOf]; omega
      · obtain ⟨rfl, rfl⟩ := bound_same FI.out z
        have zb : (e2 == 0) = false := by simp [z]
        obtain ⟨⟨c0, c1⟩, c2, c3⟩ := RR2.out
        obtain ⟨⟨d0, d1'⟩, dx2, dx3⟩ := RX.out
        go_wp2
        go_roundw
        case rel => exact ⟨k + 1, a2, h2, had, gone, by omega, rfl, rfl, by go_num, RR2.out, MM.out, a1, h1, g0, g1, g2, kx⟩
        case measure => simp [intOf]; omega
    · obtain rfl : k = len := by omega
      have g2' : decide ((k : Int) < (k : Int)) = false := by simp
      go_wp2
      go_ret
      exact ⟨rfl, kw⟩
theorem bucketBound_walk (CC : BuCheckC) (FC : BuFillC) (TC : BuTakeC) (WC : BuWaitC) (YC : BuBytesC) (most first : Int) (A : Option Addr) (len cap : Nat) (E : Nat → Nat → Int) (w : World) (m0 : 0 ≤ most) (m1 : most ≤ 4294967295) (f0 : 0 ≤ first) (f1 : first ≤ 4294967295) (hs : SliceOk A len cap) (hz : ∀ i, i < len → ∀ j, j < 3 → In64 (E i j)) (hr : RowI .i64 w A 3 len E) : Calls Try.prog 4 #[.int .u32 most, .int .u32 first, .slice A len cap] w fun e w' => e = .returned (.bool true) ∧ Kept w w' := by
  by_cases hl : len ≤ 60
  · exact bound18_short CC FC TC WC YC hl m0 m1 f0 f1 hz w hr
  · exact bound18_long CC FC TC WC YC (by omega) (by have := hs.1; have := hs.2.1; omega) w
end Go.Proofs.Ytlgpeafphanobaa
