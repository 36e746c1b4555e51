/-
  The walk of RootBack: it answers true, whatever it is given.
-/
import Derived.Test.YtgmhcgmaidnbeaaAwake03
namespace Go.Proofs.Ytgmhcgmaidnbeaa
open Go.RowKit Go.BigFrame

set_option maxRecDepth 100000 in
set_option maxHeartbeats 1600000 in
theorem back_head3 (lb vb : Bool) (n k low ch cl lh ll sh sl vh vl : Int) (n0 : 0 ≤ n) (n1 : n ≤ 18446744073709551615) (k0 : 0 ≤ k) (l0 : 0 ≤ low) (l1 : low ≤ 6981463658331) (el : k % 6981463658332 = low) (w : World) (Q1 : ∀ w, Calls Try.prog 10 #[.int .u64 low] w fun e w' => e = .returned (.tuple #[.agg #[.bool false, .int .u64 ch, .int .u64 cl], .int .i64 0]) ∧ Kept w w') (O1 : ∀ w, Calls Try.prog 20 #[.int .i64 (-1)] w fun e w' => e = .returned (.agg #[.bool true, .int .u64 0, .int .u64 1]) ∧ Kept w w') (A1 : ∀ w, Calls Try.prog 19 #[.agg #[.bool false, .int .u64 ch, .int .u64 cl], .agg #[.bool true, .int .u64 0, .int .u64 1]] w fun e w' => e = .returned (.tuple #[.agg #[.bool lb, .int .u64 lh, .int .u64 ll], .int .i64 0]) ∧ Kept w w') (S1 : ∀ w, Calls Try.prog 12 #[.int .u64 n] w fun e w' => e = .returned (.agg #[.bool false, .int .u64 sh, .int .u64 sl]) ∧ Kept w w') (A2 : ∀ w, Calls Try.prog 19 #[.agg #[.bool false, .int .u64 sh, .int .u64 sl], .agg #[.bool true, .int .u64 0, .int .u64 1]] w fun e w' => e = .returned (.tuple #[.agg #[.bool vb, .int .u64 vh, .int .u64 vl], .int .i64 0]) ∧ Kept w w') (T1 : ∀ w, Calls Try.prog 14 #[.agg #[.bool false, .int .u64 ch, .int .u64 cl]] w fun e w' => e = .returned (.int .u64 low) ∧ Kept w w') (T2 : ¬ low = 0 → ∀ w, Calls Try.prog 14 #[.agg #[.bool lb, .int .u64 lh, .int .u64 ll]] w fun e w' => e = .returned (.int .u64 (low - 1)) ∧ Kept w w') (H1 : ∀ w, Calls Try.prog 16 #[.agg #[.bool false, .int .u64 sh, .int .u64 sl]] w fun e w' => e = .returned (.int .u64 n) ∧ Kept w w') (H2 : ¬ n = 0 → ∀ w, Calls Try.prog 16 #[.agg #[.bool vb, .int .u64 vh, .int .u64 vl]] w fun e w' => e = .returned (.int .u64 (n - 1)) ∧ Kept w w') :
    Calls Try.prog 5 #[.int .u64 n, .int .u64 k] w fun e w' => e = .returned (.bool true) ∧ Kept w w' := by
  have Q1' := Lib.hid Q1
  have O1' := Lib.hid O1
  have A1' := Lib.hid A1
  have S1' := Lib.hid S1
  have A2' := Lib.hid A2
  have T1' := Lib.hid T1
  have T2' := Lib.hid T2
  have H1' := Lib.hid H1
  have H2' := Lib.hid H2
  clear Q1 O1 A1 S1 A2 T1 T2 H1 H2
  have EL := Lib.hid el
  clear el
  go_enter Try.func5, Try.ntmps5
  go_wp2_with fail
  refine (awake03 _).mono ?_
  rintro e w1 ⟨rfl, k1⟩
  go_upto_region 3 with fail
  rw [EL.out]
  clear EL
  go_wp2_with fail
  refine (Q1'.out _).mono ?_
  rintro e w2 ⟨rfl, k2⟩
  go_upto_region 4 with fail
  generalize hW : World.alloc w2 (.cells #[.bool false, .int .u64 ch, .int .u64 cl] 24) = W_c
  have K_c : Kept w2 W_c := by subst hW; exact (Kept.refl _).alloc _ _
  have H_c := Lib.hid (show W_c.cell? ⟨w2.heap.size, 0, none⟩ = some (.bool false) ∧ W_c.cell? ⟨w2.heap.size, 1, none⟩ = some (.int .u64 ch) ∧ W_c.cell? ⟨w2.heap.size, 2, none⟩ = some (.int .u64 cl) from by subst hW; simp [go_sem])
  clear hW
  generalize w2.heap.size = g_c at *
  go_upto_region 4 with fail
  have base_less := Lib.hid (show W_c.cell? ⟨g_c, 0, none⟩ = some (.bool false) ∧ W_c.cell? ⟨g_c, 1, none⟩ = some (.int .u64 ch) ∧ W_c.cell? ⟨g_c, 2, none⟩ = some (.int .u64 cl) from by
    obtain ⟨c0, c1, c2⟩ := Kept.all3 (show Kept W_c W_c from (by (repeat (first | with_reducible exact Kept.refl _ | with_reducible apply Kept.drew | with_reducible apply Kept.alloc | ((with_reducible apply Kept.set); focus (simp <;> omega)) | ((with_reducible apply Kept.via); focus with_reducible assumption))))) H_c
    exact ⟨c0, c1, c2⟩)
  go_cut [9, 10] (fun s9 s10 wx => ∃ g : Nat, s9 = .pointer (some ⟨g, 0, none⟩) ∧ s10 = .int .i64 0 ∧ wx.cell? ⟨g, 0, none⟩ = some (.bool lb) ∧ wx.cell? ⟨g, 1, none⟩ = some (.int .u64 lh) ∧ wx.cell? ⟨g, 2, none⟩ = some (.int .u64 ll) ∧ Kept W_c wx)
  case first =>
    go_region_held3 (fun w' => w'.cell? ⟨g_c, 0, none⟩ = some (.bool false) ∧ w'.cell? ⟨g_c, 1, none⟩ = some (.int .u64 ch) ∧ w'.cell? ⟨g_c, 2, none⟩ = some (.int .u64 cl))
      ((first | (refine Kept.all3 ?_ base_less; focus ((repeat (first | with_reducible exact Kept.refl _ | with_reducible apply Kept.drew | with_reducible apply Kept.alloc | ((with_reducible apply Kept.set); focus (simp <;> omega)) | ((with_reducible apply Kept.via); focus with_reducible assumption))); done)) | (refine far3 (Kept.all3 (by (repeat (first | with_reducible exact Kept.refl _ | with_reducible apply Kept.drew | with_reducible apply Kept.alloc | ((with_reducible apply Kept.set); focus (simp <;> omega)) | ((with_reducible apply Kept.via); focus with_reducible assumption)))) base_less) ?_; focus ((repeat' apply And.intro) <;> (simp <;> omega)))))
      (first
        | (go_at_call 20; refine (O1'.out _).mono ?_; rintro e v1 ⟨rfl, i1⟩; (try (first | (with_reducible have nr := Room3.newD i1) | (with_reducible have nr := Room3.new i1) | (with_reducible have nr := Room3.kept nr i1))); have y1 := Kept.below i1; (try simp at y1))
        | (go_at_call 19; refine (A1'.out _).mono ?_; rintro e v2 ⟨rfl, i2⟩; (try (first | (with_reducible have nr := Room3.newD i2) | (with_reducible have nr := Room3.new i2) | (with_reducible have nr := Room3.kept nr i2))); have y2 := Kept.below i2; (try simp at y2); (try (obtain ⟨nx, ny, nz, na1, na2, na3, nb1, nb2, nb3⟩ := nr))))
    all_goals
      go_wp2_with fail
      go_meet
      exact ⟨_, rfl, rfl, by simp [*, go_sem], by simp [*, go_sem], by simp [*, go_sem], (by (repeat (first | with_reducible exact Kept.refl _ | with_reducible apply Kept.drew | with_reducible apply Kept.alloc | ((with_reducible apply Kept.set); focus (simp <;> omega)) | ((with_reducible apply Kept.via); focus with_reducible assumption))))⟩
  obtain ⟨g_less, rfl, rfl, e0, e1, e2, K_less⟩ := hcut
  generalize wc = W_less at *
  have H_less := Lib.hid (And.intro e0 (And.intro e1 e2))
  clear e0 e1 e2 base_less
  go_wp2_with fail
  refine (S1'.out _).mono ?_
  rintro e w3 ⟨rfl, k3⟩
  go_upto_region 6 with fail
  generalize hW : World.alloc w3 (.cells #[.bool false, .int .u64 sh, .int .u64 sl] 24) = W_s
  have K_s : Kept w3 W_s := by subst hW; exact (Kept.refl _).alloc _ _
  have H_s := Lib.hid (show W_s.cell? ⟨w3.heap.size, 0, none⟩ = some (.bool false) ∧ W_s.cell? ⟨w3.heap.size, 1, none⟩ = some (.int .u64 sh) ∧ W_s.cell? ⟨w3.heap.size, 2, none⟩ = some (.int .u64 sl) from by subst hW; simp [go_sem])
  clear hW
  generalize w3.heap.size = g_s at *
  go_upto_region 6 with fail
  have base_un := Lib.hid (show W_s.cell? ⟨g_s, 0, none⟩ = some (.bool false) ∧ W_s.cell? ⟨g_s, 1, none⟩ = some (.int .u64 sh) ∧ W_s.cell? ⟨g_s, 2, none⟩ = some (.int .u64 sl) from by
    obtain ⟨s0, s1, s2⟩ := Kept.all3 (show Kept W_s W_s from (by (repeat (first | with_reducible exact Kept.refl _ | with_reducible apply Kept.drew | with_reducible apply Kept.alloc | ((with_reducible apply Kept.set); focus (simp <;> omega)) | ((with_reducible apply Kept.via); focus with_reducible assumption))))) H_s
    exact ⟨s0, s1, s2⟩)
  go_cut [12, 13] (fun s12 s13 wx => ∃ g : Nat, s12 = .pointer (some ⟨g, 0, none⟩) ∧ s13 = .int .i64 0 ∧ wx.cell? ⟨g, 0, none⟩ = some (.bool vb) ∧ wx.cell? ⟨g, 1, none⟩ = some (.int .u64 vh) ∧ wx.cell? ⟨g, 2, none⟩ = some (.int .u64 vl) ∧ Kept W_s wx)
  case first =>
    go_region_held3 (fun w' => w'.cell? ⟨g_s, 0, none⟩ = some (.bool false) ∧ w'.cell? ⟨g_s, 1, none⟩ = some (.int .u64 sh) ∧ w'.cell? ⟨g_s, 2, none⟩ = some (.int .u64 sl))
      ((first | (refine Kept.all3 ?_ base_un; focus ((repeat (first | with_reducible exact Kept.refl _ | with_reducible apply Kept.drew | with_reducible apply Kept.alloc | ((with_reducible apply Kept.set); focus (simp <;> omega)) | ((with_reducible apply Kept.via); focus with_reducible assumption))); done)) | (refine far3 (Kept.all3 (by (repeat (first | with_reducible exact Kept.refl _ | with_reducible apply Kept.drew | with_reducible apply Kept.alloc | ((with_reducible apply Kept.set); focus (simp <;> omega)) | ((with_reducible apply Kept.via); focus with_reducible assumption)))) base_un) ?_; focus ((repeat' apply And.intro) <;> (simp <;> omega)))))
      (first
        | (go_at_call 20; refine (O1'.out _).mono ?_; rintro e v1 ⟨rfl, i1⟩; (try (first | (with_reducible have nr := Room3.newD i1) | (with_reducible have nr := Room3.new i1) | (with_reducible have nr := Room3.kept nr i1))); have y1 := Kept.below i1; (try simp at y1))
        | (go_at_call 19; refine (A2'.out _).mono ?_; rintro e v2 ⟨rfl, i2⟩; (try (first | (with_reducible have nr := Room3.newD i2) | (with_reducible have nr := Room3.new i2) | (with_reducible have nr := Room3.kept nr i2))); have y2 := Kept.below i2; (try simp at y2); (try (obtain ⟨nx, ny, nz, na1, na2, na3, nb1, nb2, nb3⟩ := nr))))
    all_goals
      go_wp2_with fail
      go_meet
      exact ⟨_, rfl, rfl, by simp [*, go_sem], by simp [*, go_sem], by simp [*, go_sem], (by (repeat (first | with_reducible exact Kept.refl _ | with_reducible apply Kept.drew | with_reducible apply Kept.alloc | ((with_reducible apply Kept.set); focus (simp <;> omega)) | ((with_reducible apply Kept.via); focus with_reducible assumption))))⟩
  obtain ⟨g_un, rfl, rfl, e0, e1, e2, K_un⟩ := hcut
  generalize wc = W_un at *
  have H_un := Lib.hid (And.intro e0 (And.intro e1 e2))
  clear e0 e1 e2 base_un
  go_upto_region 7 with fail
  obtain ⟨c_c0, c_c1, c_c2⟩ := Kept.all3 (show Kept W_c W_un from (by (repeat (first | with_reducible exact Kept.refl _ | with_reducible apply Kept.drew | with_reducible apply Kept.alloc | ((with_reducible apply Kept.set); focus (simp <;> omega)) | ((with_reducible apply Kept.via); focus with_reducible assumption))))) H_c
  go_wp2_with fail
  refine (T1'.out _).mono ?_
  rintro e w4 ⟨rfl, k4⟩
  clear c_c0 c_c1 c_c2
  by_cases hl : low = 0
  · subst hl
    by_cases hn : n = 0
    · subst hn
      clear O1' A1' A2' Q1' S1' T1'
      clear T2'
      obtain ⟨c_s0, c_s1, c_s2⟩ := Kept.all3 (show Kept W_s w4 from (by (repeat (first | with_reducible exact Kept.refl _ | with_reducible apply Kept.drew | with_reducible apply Kept.alloc | ((with_reducible apply Kept.set); focus (simp <;> omega)) | ((with_reducible apply Kept.via); focus with_reducible assumption))))) H_s
      go_wp2_with fail
      refine (H1'.out _).mono ?_
      rintro e w5 ⟨rfl, k5⟩
      clear c_s0 c_s1 c_s2
      clear H2'
      go_wp2
      go_ret
      exact ⟨rfl, (by (repeat (first | with_reducible exact Kept.refl _ | with_reducible apply Kept.drew | with_reducible apply Kept.alloc | ((with_reducible apply Kept.set); focus (simp <;> omega)) | ((with_reducible apply Kept.via); focus with_reducible assumption))))⟩
    · skip
      clear O1' A1' A2' Q1' S1' T1'
      clear T2'
      obtain ⟨c_s0, c_s1, c_s2⟩ := Kept.all3 (show Kept W_s w4 from (by (repeat (first | with_reducible exact Kept.refl _ | with_reducible apply Kept.drew | with_reducible apply Kept.alloc | ((with_reducible apply Kept.set); focus (simp <;> omega)) | ((with_reducible apply Kept.via); focus with_reducible assumption))))) H_s
      go_wp2_with fail
      refine (H1'.out _).mono ?_
      rintro e w5 ⟨rfl, k5⟩
      clear c_s0 c_s1 c_s2
      have H2a := Lib.hid (H2'.out hn)
      clear H2'
      have hn' : (n == 0) = false := by simp [hn]
      obtain ⟨c_un0, c_un1, c_un2⟩ := Kept.all3 (show Kept W_un w5 from (by (repeat (first | with_reducible exact Kept.refl _ | with_reducible apply Kept.drew | with_reducible apply Kept.alloc | ((with_reducible apply Kept.set); focus (simp <;> omega)) | ((with_reducible apply Kept.via); focus with_reducible assumption))))) H_un
      go_wp2_with fail
      refine (H2a.out _).mono ?_
      rintro e w6 ⟨rfl, k6⟩
      clear c_un0 c_un1 c_un2
      go_wp2
      go_ret
      exact ⟨rfl, (by (repeat (first | with_reducible exact Kept.refl _ | with_reducible apply Kept.drew | with_reducible apply Kept.alloc | ((with_reducible apply Kept.set); focus (simp <;> omega)) | ((with_reducible apply Kept.via); focus with_reducible assumption))))⟩
  · by_cases hn : n = 0
    · subst hn
      clear O1' A1' A2' Q1' S1' T1'
      have T2a := Lib.hid (T2'.out hl)
      clear T2'
      have hl' : (low == 0) = false := by simp [hl]
      obtain ⟨c_less0, c_less1, c_less2⟩ := Kept.all3 (show Kept W_less w4 from (by (repeat (first | with_reducible exact Kept.refl _ | with_reducible apply Kept.drew | with_reducible apply Kept.alloc | ((with_reducible apply Kept.set); focus (simp <;> omega)) | ((with_reducible apply Kept.via); focus with_reducible assumption))))) H_less
      go_wp2_with fail
      refine (T2a.out _).mono ?_
      rintro e w5 ⟨rfl, k5⟩
      clear c_less0 c_less1 c_less2
      obtain ⟨c_s0, c_s1, c_s2⟩ := Kept.all3 (show Kept W_s w5 from (by (repeat (first | with_reducible exact Kept.refl _ | with_reducible apply Kept.drew | with_reducible apply Kept.alloc | ((with_reducible apply Kept.set); focus (simp <;> omega)) | ((with_reducible apply Kept.via); focus with_reducible assumption))))) H_s
      go_wp2_with fail
      refine (H1'.out _).mono ?_
      rintro e w6 ⟨rfl, k6⟩
      clear c_s0 c_s1 c_s2
      clear H2'
      go_wp2
      go_ret
      exact ⟨rfl, (by (repeat (first | with_reducible exact Kept.refl _ | with_reducible apply Kept.drew | with_reducible apply Kept.alloc | ((with_reducible apply Kept.set); focus (simp <;> omega)) | ((with_reducible apply Kept.via); focus with_reducible assumption))))⟩
    · skip
      clear O1' A1' A2' Q1' S1' T1'
      have T2a := Lib.hid (T2'.out hl)
      clear T2'
      have hl' : (low == 0) = false := by simp [hl]
      obtain ⟨c_less0, c_less1, c_less2⟩ := Kept.all3 (show Kept W_less w4 from (by (repeat (first | with_reducible exact Kept.refl _ | with_reducible apply Kept.drew | with_reducible apply Kept.alloc | ((with_reducible apply Kept.set); focus (simp <;> omega)) | ((with_reducible apply Kept.via); focus with_reducible assumption))))) H_less
      go_wp2_with fail
      refine (T2a.out _).mono ?_
      rintro e w5 ⟨rfl, k5⟩
      clear c_less0 c_less1 c_less2
      obtain ⟨c_s0, c_s1, c_s2⟩ := Kept.all3 (show Kept W_s w5 from (by (repeat (first | with_reducible exact Kept.refl _ | with_reducible apply Kept.drew | with_reducible apply Kept.alloc | ((with_reducible apply Kept.set); focus (simp <;> omega)) | ((with_reducible apply Kept.via); focus with_reducible assumption))))) H_s
      go_wp2_with fail
      refine (H1'.out _).mono ?_
      rintro e w6 ⟨rfl, k6⟩
      clear c_s0 c_s1 c_s2
      have H2a := Lib.hid (H2'.out hn)
      clear H2'
      have hn' : (n == 0) = false := by simp [hn]
      obtain ⟨c_un0, c_un1, c_un2⟩ := Kept.all3 (show Kept W_un w6 from (by (repeat (first | with_reducible exact Kept.refl _ | with_reducible apply Kept.drew | with_reducible apply Kept.alloc | ((with_reducible apply Kept.set); focus (simp <;> omega)) | ((with_reducible apply Kept.via); focus with_reducible assumption))))) H_un
      go_wp2_with fail
      refine (H2a.out _).mono ?_
      rintro e w7 ⟨rfl, k7⟩
      clear c_un0 c_un1 c_un2
      go_wp2
      go_ret
      exact ⟨rfl, (by (repeat (first | with_reducible exact Kept.refl _ | with_reducible apply Kept.drew | with_reducible apply Kept.alloc | ((with_reducible apply Kept.set); focus (simp <;> omega)) | ((with_reducible apply Kept.via); focus with_reducible assumption))))⟩

theorem rootBack_walk (n k : Int) (w : World) (hn : Word n) (hk : Word k) :
    Calls Try.prog 5 #[.int .u64 n, .int .u64 k] w fun e w' => e = .returned (.bool true) ∧ Kept w w' := by
  generalize el : k % 6981463658332 = low
  have l0 : 0 ≤ low := by omega
  have l1 : low ≤ 6981463658331 := by omega
  obtain ⟨ch, cl, rc⟩ := cube_rep l0 l1
  obtain ⟨sh, sl, rs⟩ := square_rep hn
  have ec : sz ch cl = low * low * low := by rw [← numOf_false]; exact rc.2.2.1
  have es : sz sh sl = n * n := by rw [← numOf_false]; exact rs.2.2.1
  have em : numOf true 0 1 = -1 := by decide
  have ic := numOf_in (b := false) rc.1 rc.2.1
  have is_ := numOf_in (b := false) rs.1 rs.2.1
  rw [numOf_false, ec] at ic
  rw [numOf_false, es] at is_
  have c0 := cu_nonneg l0
  have s0 := sq_nonneg hn.1
  obtain ⟨lb, lh, ll, rl⟩ := rep_ex (low * low * low - 1) (by unfold InBig at *; omega)
  obtain ⟨vb, vh, vl, rv⟩ := rep_ex (n * n - 1) (by unfold InBig at *; omega)
  refine back_head3 lb vb n k low ch cl lh ll sh sl vh vl hn.1 (by unfold Word at hn; omega) hk.1 l0 l1 el w (Cube_ok ⟨l0, by omega⟩ rc) (Of_rep (by unfold In64; omega) ⟨by unfold Word; omega, by unfold Word; omega, by decide, by decide⟩)
    (Add_ok rc.1 rc.2.1 (by unfold Word; omega) (by unfold Word; omega) (by rw [rc.2.2.1, em]; exact rl)) (Square_ok hn rs) (Add_ok rs.1 rs.2.1 (by unfold Word; omega) (by unfold Word; omega) (by rw [rs.2.2.1, em]; exact rv))
    (Third_ok rc.1 rc.2.1 (by rw [ec]; exact third_of_cu l0)) (fun hl => Third_ok rl.1 rl.2.1 ?_) (Half_ok rs.1 rs.2.1 (by rw [es]; exact half_of_sq hn.1)) (fun hl => Half_ok rv.1 rv.2.1 ?_)
  · have := rep_size rl
    have p := cu_le (a := 1) (b := low) (by omega) (by omega)
    rw [if_neg (by omega)] at this
    rw [this]; exact third_under (by omega)
  · have := rep_size rv
    have n0 := hn.1
    have p := sq_le (a := 1) (b := n) (by omega) (by omega)
    rw [if_neg (by omega)] at this
    rw [this]; exact half_under (by omega)
end Go.Proofs.Ytgmhcgmaidnbeaa
