/-
  Contracts of package rto.
-/
import Derived.Test.YtmdekgcgfcdppaaCon07
import Derived.Test.YtmdekgcgfcdppaaApp
import Derived.Deep.CutBlock
import Derived.Deep.LoopGhost
import Derived.Deep.DeepCutAuto
namespace Go.Proofs.Ytmdekgcgfcdppaa
open Go.RowKit Go.BigFrame
set_option linter.unusedVariables false

theorem counted_ok {n v : Int} (hv : heldT n = v) (w : World) : Calls Try.prog 20 #[.int .i64 n] w fun e w' => e = .returned (.int .i64 v) ∧ Kept w w' := by
  rw [heldT_is] at hv
  have E := Lib.hid hv
  clear hv
  go_enter Try.func20, Try.ntmps20
  go_wp2
  all_goals
    have e := E.out
    go_ret
    exact ⟨ret_same_r (by omega), Kept.refl _⟩
set_option maxRecDepth 100000 in
set_option maxHeartbeats 1600000 in
theorem doubled_ok {t G times : Int} (t0 : 1 ≤ t) (t1 : t ≤ G) (g1 : G ≤ 1099511627776) (tm : In64 times) (w : World) : Calls Try.prog 24 #[.int .i64 t, .int .i64 times, .int .i64 G] w fun e w' => e = .returned (.int .i64 (dblN G t times.toNat)) ∧ Kept w w' := by
  unfold In64 at tm
  go_enter Try.func24, Try.ntmps24
  generalize hu : dblN G t times.toNat = un
  have HUN := Lib.hid hu
  clear hu
  go_upto_block 0 with fail
  go_step3
  go_upto_block 0 with fail
  go_step3
  go_upto_block 0 with fail
  go_cut [0] (fun s0 wx => s0 = .int .i64 un ∧ Kept w wx)
  case first =>
    go_wp2_with fail
    go_loopw [0, 8] (fun tv i wr => ∃ k : Nat, k ≤ times.toNat ∧ i = .int .i64 k ∧ tv = .int .i64 (dblN G t k) ∧ Kept w wr) (fun tv _ _ => (G - intOf tv).toNat)
    case atStart => exact ⟨0, Nat.zero_le _, rfl, rfl, Kept.refl _⟩
    case round =>
      obtain ⟨k, hk, rfl, rfl, kw⟩ := hrel
      have RN := Lib.hid (dbl_next G t k)
      have RS := Lib.hid (fun (h : dblN G t k = G) j => dbl_stays t0 t1 h j)
      have r0 : 1 ≤ dblN G t k := by have := dbl_range t0 t1 k; omega
      have r1 : dblN G t k ≤ G := (dbl_range t0 t1 k).2
      by_cases hlt : (k : Int) < times
      · generalize hv : dblN G t k = v at *
        by_cases hvg : v < G
        · clear hv RS
          have hne : (v == G) = false := by simp; omega
          have u0 : ∃ u, (if G < v + v then G else v + v) = u ∧ u = min (2 * v) G ∧ v < u := ⟨_, rfl, by split <;> omega, by split <;> omega⟩
          obtain ⟨u, hu, hum, huv⟩ := u0
          have HU := Lib.hid hum
          clear hum
          go_wp2_with fail
          go_roundw
          case rel => exact ⟨k + 1, by omega, by go_num, by rw [RN.out, HU.out], kw⟩
          case measure => simp [intOf]; omega
        · obtain rfl : v = G := by omega
          have E := Lib.hid (show v = un from by have := RS.out rfl (times.toNat - k); rw [show k + (times.toNat - k) = times.toNat by omega, HUN.out] at this; omega)
          clear RS hv
          go_wp2_with fail
          go_meet
          exact ⟨by rw [E.out], kw⟩
      · obtain rfl : k = times.toNat := by omega
        go_wp2_with fail
        go_meet
        exact ⟨by rw [HUN.out], kw⟩
  case rest =>
    obtain ⟨rfl, kc⟩ := hcut
    go_wp2
    (try rw [Exit.noGoto_ret])
    go_ret
    exact ⟨rfl, kc⟩
set_option maxRecDepth 100000 in
set_option maxHeartbeats 1600000 in
theorem base_new {m f sg mx fi gn ls gt bu : Int}  (w : World) : Calls Try.prog 11 #[.agg #[.bool false, .int .i64 m, .int .i64 f], .agg #[.int .i64 sg, .int .i64 mx, .int .i64 fi, .int .i64 gn, .int .i64 ls, .int .i64 gt, .int .i64 bu]] w fun e w' => e = .returned (.int .i64 1000000) ∧ Kept w w' := by
  go_enter Try.func11, Try.ntmps11
  go_upto_region 1 with fail
  generalize hW : World.alloc (World.alloc w (.cells #[.bool false, .int .i64 m, .int .i64 f] 23)) (.cells #[.int .i64 sg, .int .i64 mx, .int .i64 fi, .int .i64 gn, .int .i64 ls, .int .i64 gt, .int .i64 bu] 25) = W_p
  have K_p : Kept w W_p := by subst hW; exact ((Kept.refl _).alloc _ _).alloc _ _
  have H_r := Lib.hid (show W_p.cell? ⟨w.heap.size, 0, none⟩ = some (.bool false) ∧ W_p.cell? ⟨w.heap.size, 1, none⟩ = some (.int .i64 m) ∧ W_p.cell? ⟨w.heap.size, 2, none⟩ = some (.int .i64 f) from by subst hW; simp [go_sem])
  have H_c := Lib.hid (show W_p.cell? ⟨w.heap.size + 1, 0, none⟩ = some (.int .i64 sg) ∧ W_p.cell? ⟨w.heap.size + 1, 1, none⟩ = some (.int .i64 mx) ∧ W_p.cell? ⟨w.heap.size + 1, 2, none⟩ = some (.int .i64 fi) ∧ W_p.cell? ⟨w.heap.size + 1, 3, none⟩ = some (.int .i64 gn) ∧ W_p.cell? ⟨w.heap.size + 1, 4, none⟩ = some (.int .i64 ls) ∧ W_p.cell? ⟨w.heap.size + 1, 5, none⟩ = some (.int .i64 gt) ∧ W_p.cell? ⟨w.heap.size + 1, 6, none⟩ = some (.int .i64 bu) from by subst hW; simp [go_sem])
  have lp : w.heap.size + 2 ≤ W_p.heap.size := by subst hW; simp
  clear hW
  generalize hg : w.heap.size = g_r at *
  obtain ⟨c_r0, c_r1, c_r2⟩ := Kept.all3 (show Kept W_p W_p from (by (repeat (first | with_reducible exact Kept.refl _ | with_reducible apply Kept.drew | with_reducible apply Kept.alloc | ((with_reducible apply Kept.set); focus (simp <;> omega)) | ((with_reducible apply Kept.via); focus with_reducible assumption))))) H_r
  obtain ⟨c_c0, c_c1, c_c2, c_c3, c_c4, c_c5, c_c6⟩ := Kept.all7 (show Kept W_p W_p from (by (repeat (first | with_reducible exact Kept.refl _ | with_reducible apply Kept.drew | with_reducible apply Kept.alloc | ((with_reducible apply Kept.set); focus (simp <;> omega)) | ((with_reducible apply Kept.via); focus with_reducible assumption))))) H_c
  go_wp2
  go_ret
  exact ⟨rfl, (by (repeat (first | with_reducible exact Kept.refl _ | with_reducible apply Kept.drew | with_reducible apply Kept.alloc | ((with_reducible apply Kept.set); focus (simp <;> omega)) | ((with_reducible apply Kept.via); focus with_reducible assumption))))⟩
set_option maxRecDepth 100000 in
set_option maxHeartbeats 1600000 in
theorem base_bad {m f sg mx fi gn ls gt bu : Int} (MY : ∀ w, Calls Try.prog 18 #[.agg #[.bool true, .int .i64 m, .int .i64 f]] w fun e w' => e = .returned (.bool false) ∧ Kept w w') (w : World) : Calls Try.prog 11 #[.agg #[.bool true, .int .i64 m, .int .i64 f], .agg #[.int .i64 sg, .int .i64 mx, .int .i64 fi, .int .i64 gn, .int .i64 ls, .int .i64 gt, .int .i64 bu]] w fun e w' => e = .returned (.int .i64 1000000) ∧ Kept w w' := by
  have MY' := Lib.hid MY
  clear MY
  go_enter Try.func11, Try.ntmps11
  go_upto_region 1 with fail
  generalize hW : World.alloc (World.alloc w (.cells #[.bool true, .int .i64 m, .int .i64 f] 23)) (.cells #[.int .i64 sg, .int .i64 mx, .int .i64 fi, .int .i64 gn, .int .i64 ls, .int .i64 gt, .int .i64 bu] 25) = W_p
  have K_p : Kept w W_p := by subst hW; exact ((Kept.refl _).alloc _ _).alloc _ _
  have H_r := Lib.hid (show W_p.cell? ⟨w.heap.size, 0, none⟩ = some (.bool true) ∧ W_p.cell? ⟨w.heap.size, 1, none⟩ = some (.int .i64 m) ∧ W_p.cell? ⟨w.heap.size, 2, none⟩ = some (.int .i64 f) from by subst hW; simp [go_sem])
  have H_c := Lib.hid (show W_p.cell? ⟨w.heap.size + 1, 0, none⟩ = some (.int .i64 sg) ∧ W_p.cell? ⟨w.heap.size + 1, 1, none⟩ = some (.int .i64 mx) ∧ W_p.cell? ⟨w.heap.size + 1, 2, none⟩ = some (.int .i64 fi) ∧ W_p.cell? ⟨w.heap.size + 1, 3, none⟩ = some (.int .i64 gn) ∧ W_p.cell? ⟨w.heap.size + 1, 4, none⟩ = some (.int .i64 ls) ∧ W_p.cell? ⟨w.heap.size + 1, 5, none⟩ = some (.int .i64 gt) ∧ W_p.cell? ⟨w.heap.size + 1, 6, none⟩ = some (.int .i64 bu) from by subst hW; simp [go_sem])
  have lp : w.heap.size + 2 ≤ W_p.heap.size := by subst hW; simp
  clear hW
  generalize hg : w.heap.size = g_r at *
  obtain ⟨c_r0, c_r1, c_r2⟩ := Kept.all3 (show Kept W_p W_p from (by (repeat (first | with_reducible exact Kept.refl _ | with_reducible apply Kept.drew | with_reducible apply Kept.alloc | ((with_reducible apply Kept.set); focus (simp <;> omega)) | ((with_reducible apply Kept.via); focus with_reducible assumption))))) H_r
  obtain ⟨c_c0, c_c1, c_c2, c_c3, c_c4, c_c5, c_c6⟩ := Kept.all7 (show Kept W_p W_p from (by (repeat (first | with_reducible exact Kept.refl _ | with_reducible apply Kept.drew | with_reducible apply Kept.alloc | ((with_reducible apply Kept.set); focus (simp <;> omega)) | ((with_reducible apply Kept.via); focus with_reducible assumption))))) H_c
  go_wp2_with fail
  refine (MY'.out _).mono ?_
  rintro e w1 ⟨rfl, k1⟩
  clear c_r0 c_r1 c_r2 c_c0 c_c1 c_c2 c_c3 c_c4 c_c5 c_c6
  go_wp2
  go_ret
  exact ⟨rfl, (by (repeat (first | with_reducible exact Kept.refl _ | with_reducible apply Kept.drew | with_reducible apply Kept.alloc | ((with_reducible apply Kept.set); focus (simp <;> omega)) | ((with_reducible apply Kept.via); focus with_reducible assumption))))⟩
set_option maxRecDepth 100000 in
set_option maxHeartbeats 1600000 in
theorem base_has {m f p g x sg mx fi gn ls gt bu : Int} (p0 : 0 ≤ p) (p1 : p ≤ 1073741824) (x0 : 0 ≤ x) (x1 : x ≤ 1099511627776) (ex : (if g < f then f else g) = x) (MY : ∀ w, Calls Try.prog 18 #[.agg #[.bool true, .int .i64 m, .int .i64 f]] w fun e w' => e = .returned (.bool true) ∧ Kept w w') (WI : ∀ w, Calls Try.prog 20 #[.int .i64 gn] w fun e w' => e = .returned (.int .i64 g) ∧ Kept w w') (ME : ∀ w, Calls Try.prog 19 #[.agg #[.bool true, .int .i64 m, .int .i64 f]] w fun e w' => e = .returned (.int .i64 p) ∧ Kept w w') (w : World) : Calls Try.prog 11 #[.agg #[.bool true, .int .i64 m, .int .i64 f], .agg #[.int .i64 sg, .int .i64 mx, .int .i64 fi, .int .i64 gn, .int .i64 ls, .int .i64 gt, .int .i64 bu]] w fun e w' => e = .returned (.int .i64 (p + x)) ∧ Kept w w' := by
  have MY' := Lib.hid MY
  have WI' := Lib.hid WI
  have ME' := Lib.hid ME
  clear MY WI ME
  have wr : IntKind.i64.wrap (p + x) = p + x := by rw [IntKind.wrap_i64]; omega
  go_enter Try.func11, Try.ntmps11
  go_upto_region 1 with fail
  generalize hW : World.alloc (World.alloc w (.cells #[.bool true, .int .i64 m, .int .i64 f] 23)) (.cells #[.int .i64 sg, .int .i64 mx, .int .i64 fi, .int .i64 gn, .int .i64 ls, .int .i64 gt, .int .i64 bu] 25) = W_p
  have K_p : Kept w W_p := by subst hW; exact ((Kept.refl _).alloc _ _).alloc _ _
  have H_r := Lib.hid (show W_p.cell? ⟨w.heap.size, 0, none⟩ = some (.bool true) ∧ W_p.cell? ⟨w.heap.size, 1, none⟩ = some (.int .i64 m) ∧ W_p.cell? ⟨w.heap.size, 2, none⟩ = some (.int .i64 f) from by subst hW; simp [go_sem])
  have H_c := Lib.hid (show W_p.cell? ⟨w.heap.size + 1, 0, none⟩ = some (.int .i64 sg) ∧ W_p.cell? ⟨w.heap.size + 1, 1, none⟩ = some (.int .i64 mx) ∧ W_p.cell? ⟨w.heap.size + 1, 2, none⟩ = some (.int .i64 fi) ∧ W_p.cell? ⟨w.heap.size + 1, 3, none⟩ = some (.int .i64 gn) ∧ W_p.cell? ⟨w.heap.size + 1, 4, none⟩ = some (.int .i64 ls) ∧ W_p.cell? ⟨w.heap.size + 1, 5, none⟩ = some (.int .i64 gt) ∧ W_p.cell? ⟨w.heap.size + 1, 6, none⟩ = some (.int .i64 bu) from by subst hW; simp [go_sem])
  have lp : w.heap.size + 2 ≤ W_p.heap.size := by subst hW; simp
  clear hW
  generalize hg : w.heap.size = g_r at *
  obtain ⟨c_r0, c_r1, c_r2⟩ := Kept.all3 (show Kept W_p W_p from (by (repeat (first | with_reducible exact Kept.refl _ | with_reducible apply Kept.drew | with_reducible apply Kept.alloc | ((with_reducible apply Kept.set); focus (simp <;> omega)) | ((with_reducible apply Kept.via); focus with_reducible assumption))))) H_r
  obtain ⟨c_c0, c_c1, c_c2, c_c3, c_c4, c_c5, c_c6⟩ := Kept.all7 (show Kept W_p W_p from (by (repeat (first | with_reducible exact Kept.refl _ | with_reducible apply Kept.drew | with_reducible apply Kept.alloc | ((with_reducible apply Kept.set); focus (simp <;> omega)) | ((with_reducible apply Kept.via); focus with_reducible assumption))))) H_c
  go_wp2_with fail
  refine (MY'.out _).mono ?_
  rintro e w1 ⟨rfl, k1⟩
  clear c_r0 c_r1 c_r2 c_c0 c_c1 c_c2 c_c3 c_c4 c_c5 c_c6
  go_upto_region 3 with fail
  have B_r := Lib.hid (Kept.all3 (show Kept W_p w1 from (by (repeat (first | with_reducible exact Kept.refl _ | with_reducible apply Kept.drew | with_reducible apply Kept.alloc | ((with_reducible apply Kept.set); focus (simp <;> omega)) | ((with_reducible apply Kept.via); focus with_reducible assumption))))) H_r)
  have B_c := Lib.hid (Kept.all7 (show Kept W_p w1 from (by (repeat (first | with_reducible exact Kept.refl _ | with_reducible apply Kept.drew | with_reducible apply Kept.alloc | ((with_reducible apply Kept.set); focus (simp <;> omega)) | ((with_reducible apply Kept.via); focus with_reducible assumption))))) H_c)
  have kall : Kept w w1 := (by (repeat (first | with_reducible exact Kept.refl _ | with_reducible apply Kept.drew | with_reducible apply Kept.alloc | ((with_reducible apply Kept.set); focus (simp <;> omega)) | ((with_reducible apply Kept.via); focus with_reducible assumption))))
  obtain ⟨q_r0, q_r1, q_r2⟩ := kw3 B_r
  obtain ⟨q_c0, q_c1, q_c2, q_c3, q_c4, q_c5, q_c6⟩ := kw7 B_c
  clear B_r B_c
  refine wp_region_kept (by kernel_rfl) (by as_aux_lemma => kernel_rfl) ?_
  repeat (go_big_quiet_step (first | (with_reducible exact kept_of (ME'.out _)) | (with_reducible exact kept_of (WI'.out _))))
  refine wpQuiet_nil ?_
  intro wq hw'
  have kq : Kept w1 wq := by obtain ⟨p, rfl⟩ := hw'; exact p.k
  clear hw'
  go_wp2
  go_ret
  exact ⟨rfl, kall.trans kq⟩
theorem base_c : BaseC := by
  intro b m f sg mx fi gn ls gt bu n h w
  rcases h with ⟨hn, rfl⟩ | ⟨hm, rfl, rfl⟩
  · cases b with
    | false => exact base_new w
    | true => exact base_bad (fun w => Check_no (fun h => hn ⟨h, rfl⟩) w) w
  · have g := heldT_range gn
    have k : 8 ≤ m ∧ m ≤ 8589934592 ∧ 0 ≤ f ∧ f ≤ 4294967296 := by unfold MayRtt at hm; simpa using hm
    exact base_has (g := heldT gn) (by omega) (by omega) (by omega) (by omega) (by split <;> omega) (fun w => Check_yes hm w) (fun w => counted_ok rfl w) (fun w => Mean_ok ⟨by unfold In64; omega, Int.tdiv_eq_ediv_of_nonneg (by omega)⟩ w) w
set_option maxRecDepth 100000 in
set_option maxHeartbeats 1600000 in
theorem of_all {b : Bool} {m f n L G x y v times sg mx fi gn ls gt bu : Int} (ex : (if n < L then L else n) = x) (ey : (if G < x then G else x) = y) (BB : ∀ w, Calls Try.prog 11 #[.agg #[.bool b, .int .i64 m, .int .i64 f], .agg #[.int .i64 sg, .int .i64 mx, .int .i64 fi, .int .i64 gn, .int .i64 ls, .int .i64 gt, .int .i64 bu]] w fun e w' => e = .returned (.int .i64 n) ∧ Kept w w') (WL : ∀ w, Calls Try.prog 20 #[.int .i64 ls] w fun e w' => e = .returned (.int .i64 L) ∧ Kept w w') (WG : ∀ w, Calls Try.prog 20 #[.int .i64 gt] w fun e w' => e = .returned (.int .i64 G) ∧ Kept w w') (DD : ∀ w, Calls Try.prog 24 #[.int .i64 y, .int .i64 times, .int .i64 G] w fun e w' => e = .returned (.int .i64 v) ∧ Kept w w') (w : World) : Calls Try.prog 14 #[.agg #[.bool b, .int .i64 m, .int .i64 f], .agg #[.int .i64 sg, .int .i64 mx, .int .i64 fi, .int .i64 gn, .int .i64 ls, .int .i64 gt, .int .i64 bu], .int .i64 times] w fun e w' => e = .returned (.int .i64 v) ∧ Kept w w' := by
  have BB' := Lib.hid BB
  have WL' := Lib.hid WL
  have WG' := Lib.hid WG
  have DD' := Lib.hid DD
  clear BB WL WG DD
  go_enter Try.func14, Try.ntmps14
  go_upto_region 1 with fail
  generalize hW : World.alloc (World.alloc w (.cells #[.bool b, .int .i64 m, .int .i64 f] 23)) (.cells #[.int .i64 sg, .int .i64 mx, .int .i64 fi, .int .i64 gn, .int .i64 ls, .int .i64 gt, .int .i64 bu] 25) = W_p
  have K_p : Kept w W_p := by subst hW; exact ((Kept.refl _).alloc _ _).alloc _ _
  have H_r := Lib.hid (show W_p.cell? ⟨w.heap.size, 0, none⟩ = some (.bool b) ∧ W_p.cell? ⟨w.heap.size, 1, none⟩ = some (.int .i64 m) ∧ W_p.cell? ⟨w.heap.size, 2, none⟩ = some (.int .i64 f) from by subst hW; simp [go_sem])
  have H_c := Lib.hid (show W_p.cell? ⟨w.heap.size + 1, 0, none⟩ = some (.int .i64 sg) ∧ W_p.cell? ⟨w.heap.size + 1, 1, none⟩ = some (.int .i64 mx) ∧ W_p.cell? ⟨w.heap.size + 1, 2, none⟩ = some (.int .i64 fi) ∧ W_p.cell? ⟨w.heap.size + 1, 3, none⟩ = some (.int .i64 gn) ∧ W_p.cell? ⟨w.heap.size + 1, 4, none⟩ = some (.int .i64 ls) ∧ W_p.cell? ⟨w.heap.size + 1, 5, none⟩ = some (.int .i64 gt) ∧ W_p.cell? ⟨w.heap.size + 1, 6, none⟩ = some (.int .i64 bu) from by subst hW; simp [go_sem])
  have lp : w.heap.size + 2 ≤ W_p.heap.size := by subst hW; simp
  clear hW
  generalize hg : w.heap.size = g_r at *
  obtain ⟨c_r0, c_r1, c_r2⟩ := Kept.all3 (show Kept W_p W_p from (by (repeat (first | with_reducible exact Kept.refl _ | with_reducible apply Kept.drew | with_reducible apply Kept.alloc | ((with_reducible apply Kept.set); focus (simp <;> omega)) | ((with_reducible apply Kept.via); focus with_reducible assumption))))) H_r
  obtain ⟨c_c0, c_c1, c_c2, c_c3, c_c4, c_c5, c_c6⟩ := Kept.all7 (show Kept W_p W_p from (by (repeat (first | with_reducible exact Kept.refl _ | with_reducible apply Kept.drew | with_reducible apply Kept.alloc | ((with_reducible apply Kept.set); focus (simp <;> omega)) | ((with_reducible apply Kept.via); focus with_reducible assumption))))) H_c
  go_wp2_with fail
  refine (WG'.out _).mono ?_
  rintro e w1 ⟨rfl, k1⟩
  clear c_r0 c_r1 c_r2 c_c0 c_c1 c_c2 c_c3 c_c4 c_c5 c_c6
  go_upto_region 2 with fail
  have B_r := Lib.hid (Kept.all3 (show Kept W_p w1 from (by (repeat (first | with_reducible exact Kept.refl _ | with_reducible apply Kept.drew | with_reducible apply Kept.alloc | ((with_reducible apply Kept.set); focus (simp <;> omega)) | ((with_reducible apply Kept.via); focus with_reducible assumption))))) H_r)
  have B_c := Lib.hid (Kept.all7 (show Kept W_p w1 from (by (repeat (first | with_reducible exact Kept.refl _ | with_reducible apply Kept.drew | with_reducible apply Kept.alloc | ((with_reducible apply Kept.set); focus (simp <;> omega)) | ((with_reducible apply Kept.via); focus with_reducible assumption))))) H_c)
  have kall : Kept w w1 := (by (repeat (first | with_reducible exact Kept.refl _ | with_reducible apply Kept.drew | with_reducible apply Kept.alloc | ((with_reducible apply Kept.set); focus (simp <;> omega)) | ((with_reducible apply Kept.via); focus with_reducible assumption))))
  obtain ⟨q_r0, q_r1, q_r2⟩ := kw3 B_r
  obtain ⟨q_c0, q_c1, q_c2, q_c3, q_c4, q_c5, q_c6⟩ := kw7 B_c
  clear B_r B_c
  refine wp_region_kept (by kernel_rfl) (by as_aux_lemma => kernel_rfl) ?_
  repeat (go_big_quiet_step (first | (with_reducible exact kept_of (BB'.out _)) | (with_reducible exact kept_of (WL'.out _))))
  refine wpQuiet_nil ?_
  intro wq hw'
  have kq : Kept w1 wq := by obtain ⟨p, rfl⟩ := hw'; exact p.k
  clear hw'
  go_wp2_with fail
  refine (DD'.out _).mono ?_
  rintro e w9 ⟨rfl, k9⟩
  go_wp2
  go_ret
  exact ⟨rfl, (by (repeat (first | with_reducible exact Kept.refl _ | with_reducible apply Kept.drew | with_reducible apply Kept.alloc | ((with_reducible apply Kept.set); focus (simp <;> omega)) | ((with_reducible apply Kept.via); focus with_reducible assumption))))⟩
theorem of_c : OfC := by
  intro b m f sg mx fi gn ls gt bu times v tm h w
  obtain ⟨n, hb, rfl⟩ := h
  have r := base_range hb
  have l := heldT_range ls
  have g := heldT_range gt
  have q := first_range (n := n) r.1 l.1 g.1
  exact of_all (n := n) (L := heldT ls) (G := heldT gt) (x := max n (heldT ls)) (y := firstOf n (heldT ls) (heldT gt)) (by split <;> omega) (by unfold firstOf; split <;> omega) (fun w => base_c _ _ _ _ _ _ _ _ _ _ _ hb w) (fun w => counted_ok rfl w) (fun w => counted_ok rfl w) (fun w => doubled_ok q.1 q.2.1 g.2 tm w) w
set_option maxRecDepth 100000 in
set_option maxHeartbeats 1600000 in
theorem back_neg {b : Bool} {m f sg mx fi gn ls gt bu times : Int} (h : times < 0)  (w : World) : Calls Try.prog 15 #[.agg #[.bool b, .int .i64 m, .int .i64 f], .agg #[.int .i64 sg, .int .i64 mx, .int .i64 fi, .int .i64 gn, .int .i64 ls, .int .i64 gt, .int .i64 bu], .int .i64 times] w fun e w' => e = .returned (.int .i64 0) ∧ Kept w w' := by
  go_enter Try.func15, Try.ntmps15
  go_upto_region 1 with fail
  generalize hW : World.alloc (World.alloc w (.cells #[.bool b, .int .i64 m, .int .i64 f] 23)) (.cells #[.int .i64 sg, .int .i64 mx, .int .i64 fi, .int .i64 gn, .int .i64 ls, .int .i64 gt, .int .i64 bu] 25) = W_p
  have K_p : Kept w W_p := by subst hW; exact ((Kept.refl _).alloc _ _).alloc _ _
  have H_r := Lib.hid (show W_p.cell? ⟨w.heap.size, 0, none⟩ = some (.bool b) ∧ W_p.cell? ⟨w.heap.size, 1, none⟩ = some (.int .i64 m) ∧ W_p.cell? ⟨w.heap.size, 2, none⟩ = some (.int .i64 f) from by subst hW; simp [go_sem])
  have H_c := Lib.hid (show W_p.cell? ⟨w.heap.size + 1, 0, none⟩ = some (.int .i64 sg) ∧ W_p.cell? ⟨w.heap.size + 1, 1, none⟩ = some (.int .i64 mx) ∧ W_p.cell? ⟨w.heap.size + 1, 2, none⟩ = some (.int .i64 fi) ∧ W_p.cell? ⟨w.heap.size + 1, 3, none⟩ = some (.int .i64 gn) ∧ W_p.cell? ⟨w.heap.size + 1, 4, none⟩ = some (.int .i64 ls) ∧ W_p.cell? ⟨w.heap.size + 1, 5, none⟩ = some (.int .i64 gt) ∧ W_p.cell? ⟨w.heap.size + 1, 6, none⟩ = some (.int .i64 bu) from by subst hW; simp [go_sem])
  have lp : w.heap.size + 2 ≤ W_p.heap.size := by subst hW; simp
  clear hW
  generalize hg : w.heap.size = g_r at *
  go_wp2
  go_ret
  exact ⟨rfl, (by (repeat (first | with_reducible exact Kept.refl _ | with_reducible apply Kept.drew | with_reducible apply Kept.alloc | ((with_reducible apply Kept.set); focus (simp <;> omega)) | ((with_reducible apply Kept.via); focus with_reducible assumption))))⟩
set_option maxRecDepth 100000 in
set_option maxHeartbeats 1600000 in
theorem back_more {b : Bool} {m f sg mx fi gn ls gt bu times v G : Int} (h0 : 0 ≤ times) (h : v < G) (h2 : times < 40) (OO : ∀ w, Calls Try.prog 14 #[.agg #[.bool b, .int .i64 m, .int .i64 f], .agg #[.int .i64 sg, .int .i64 mx, .int .i64 fi, .int .i64 gn, .int .i64 ls, .int .i64 gt, .int .i64 bu], .int .i64 times] w fun e w' => e = .returned (.int .i64 v) ∧ Kept w w') (WG : ∀ w, Calls Try.prog 20 #[.int .i64 gt] w fun e w' => e = .returned (.int .i64 G) ∧ Kept w w') (w : World) : Calls Try.prog 15 #[.agg #[.bool b, .int .i64 m, .int .i64 f], .agg #[.int .i64 sg, .int .i64 mx, .int .i64 fi, .int .i64 gn, .int .i64 ls, .int .i64 gt, .int .i64 bu], .int .i64 times] w fun e w' => e = .returned (.int .i64 (times + 1)) ∧ Kept w w' := by
  have OO' := Lib.hid OO
  have WG' := Lib.hid WG
  clear OO WG
  have dv : (v == G) = false := by simp; omega
  go_enter Try.func15, Try.ntmps15
  go_upto_region 1 with fail
  generalize hW : World.alloc (World.alloc w (.cells #[.bool b, .int .i64 m, .int .i64 f] 23)) (.cells #[.int .i64 sg, .int .i64 mx, .int .i64 fi, .int .i64 gn, .int .i64 ls, .int .i64 gt, .int .i64 bu] 25) = W_p
  have K_p : Kept w W_p := by subst hW; exact ((Kept.refl _).alloc _ _).alloc _ _
  have H_r := Lib.hid (show W_p.cell? ⟨w.heap.size, 0, none⟩ = some (.bool b) ∧ W_p.cell? ⟨w.heap.size, 1, none⟩ = some (.int .i64 m) ∧ W_p.cell? ⟨w.heap.size, 2, none⟩ = some (.int .i64 f) from by subst hW; simp [go_sem])
  have H_c := Lib.hid (show W_p.cell? ⟨w.heap.size + 1, 0, none⟩ = some (.int .i64 sg) ∧ W_p.cell? ⟨w.heap.size + 1, 1, none⟩ = some (.int .i64 mx) ∧ W_p.cell? ⟨w.heap.size + 1, 2, none⟩ = some (.int .i64 fi) ∧ W_p.cell? ⟨w.heap.size + 1, 3, none⟩ = some (.int .i64 gn) ∧ W_p.cell? ⟨w.heap.size + 1, 4, none⟩ = some (.int .i64 ls) ∧ W_p.cell? ⟨w.heap.size + 1, 5, none⟩ = some (.int .i64 gt) ∧ W_p.cell? ⟨w.heap.size + 1, 6, none⟩ = some (.int .i64 bu) from by subst hW; simp [go_sem])
  have lp : w.heap.size + 2 ≤ W_p.heap.size := by subst hW; simp
  clear hW
  generalize hg : w.heap.size = g_r at *
  go_upto_region 3 with fail
  have B_r := Lib.hid (Kept.all3 (show Kept W_p W_p from (by (repeat (first | with_reducible exact Kept.refl _ | with_reducible apply Kept.drew | with_reducible apply Kept.alloc | ((with_reducible apply Kept.set); focus (simp <;> omega)) | ((with_reducible apply Kept.via); focus with_reducible assumption))))) H_r)
  have B_c := Lib.hid (Kept.all7 (show Kept W_p W_p from (by (repeat (first | with_reducible exact Kept.refl _ | with_reducible apply Kept.drew | with_reducible apply Kept.alloc | ((with_reducible apply Kept.set); focus (simp <;> omega)) | ((with_reducible apply Kept.via); focus with_reducible assumption))))) H_c)
  have kall : Kept w W_p := (by (repeat (first | with_reducible exact Kept.refl _ | with_reducible apply Kept.drew | with_reducible apply Kept.alloc | ((with_reducible apply Kept.set); focus (simp <;> omega)) | ((with_reducible apply Kept.via); focus with_reducible assumption))))
  obtain ⟨q_r0, q_r1, q_r2⟩ := kw3 B_r
  obtain ⟨q_c0, q_c1, q_c2, q_c3, q_c4, q_c5, q_c6⟩ := kw7 B_c
  clear B_r B_c
  refine wp_region_kept (by kernel_rfl) (by as_aux_lemma => kernel_rfl) ?_
  repeat (go_big_quiet_step (first | (with_reducible exact kept_of (OO'.out _)) | (with_reducible exact kept_of (WG'.out _))))
  refine wpQuiet_nil ?_
  intro wq hw'
  have kq : Kept W_p wq := by obtain ⟨p, rfl⟩ := hw'; exact p.k
  clear hw'
  go_wp2
  go_ret
  exact ⟨rfl, kall.trans kq⟩
set_option maxRecDepth 100000 in
set_option maxHeartbeats 1600000 in
theorem back_same {b : Bool} {m f sg mx fi gn ls gt bu times v G : Int} (h0 : 0 ≤ times) (h : v = G) (OO : ∀ w, Calls Try.prog 14 #[.agg #[.bool b, .int .i64 m, .int .i64 f], .agg #[.int .i64 sg, .int .i64 mx, .int .i64 fi, .int .i64 gn, .int .i64 ls, .int .i64 gt, .int .i64 bu], .int .i64 times] w fun e w' => e = .returned (.int .i64 v) ∧ Kept w w') (WG : ∀ w, Calls Try.prog 20 #[.int .i64 gt] w fun e w' => e = .returned (.int .i64 G) ∧ Kept w w') (w : World) : Calls Try.prog 15 #[.agg #[.bool b, .int .i64 m, .int .i64 f], .agg #[.int .i64 sg, .int .i64 mx, .int .i64 fi, .int .i64 gn, .int .i64 ls, .int .i64 gt, .int .i64 bu], .int .i64 times] w fun e w' => e = .returned (.int .i64 times) ∧ Kept w w' := by
  have OO' := Lib.hid OO
  have WG' := Lib.hid WG
  clear OO WG
  have dv : (v == G) = true := by simp; omega
  clear h
  go_enter Try.func15, Try.ntmps15
  go_upto_region 1 with fail
  generalize hW : World.alloc (World.alloc w (.cells #[.bool b, .int .i64 m, .int .i64 f] 23)) (.cells #[.int .i64 sg, .int .i64 mx, .int .i64 fi, .int .i64 gn, .int .i64 ls, .int .i64 gt, .int .i64 bu] 25) = W_p
  have K_p : Kept w W_p := by subst hW; exact ((Kept.refl _).alloc _ _).alloc _ _
  have H_r := Lib.hid (show W_p.cell? ⟨w.heap.size, 0, none⟩ = some (.bool b) ∧ W_p.cell? ⟨w.heap.size, 1, none⟩ = some (.int .i64 m) ∧ W_p.cell? ⟨w.heap.size, 2, none⟩ = some (.int .i64 f) from by subst hW; simp [go_sem])
  have H_c := Lib.hid (show W_p.cell? ⟨w.heap.size + 1, 0, none⟩ = some (.int .i64 sg) ∧ W_p.cell? ⟨w.heap.size + 1, 1, none⟩ = some (.int .i64 mx) ∧ W_p.cell? ⟨w.heap.size + 1, 2, none⟩ = some (.int .i64 fi) ∧ W_p.cell? ⟨w.heap.size + 1, 3, none⟩ = some (.int .i64 gn) ∧ W_p.cell? ⟨w.heap.size + 1, 4, none⟩ = some (.int .i64 ls) ∧ W_p.cell? ⟨w.heap.size + 1, 5, none⟩ = some (.int .i64 gt) ∧ W_p.cell? ⟨w.heap.size + 1, 6, none⟩ = some (.int .i64 bu) from by subst hW; simp [go_sem])
  have lp : w.heap.size + 2 ≤ W_p.heap.size := by subst hW; simp
  clear hW
  generalize hg : w.heap.size = g_r at *
  go_upto_region 3 with fail
  have B_r := Lib.hid (Kept.all3 (show Kept W_p W_p from (by (repeat (first | with_reducible exact Kept.refl _ | with_reducible apply Kept.drew | with_reducible apply Kept.alloc | ((with_reducible apply Kept.set); focus (simp <;> omega)) | ((with_reducible apply Kept.via); focus with_reducible assumption))))) H_r)
  have B_c := Lib.hid (Kept.all7 (show Kept W_p W_p from (by (repeat (first | with_reducible exact Kept.refl _ | with_reducible apply Kept.drew | with_reducible apply Kept.alloc | ((with_reducible apply Kept.set); focus (simp <;> omega)) | ((with_reducible apply Kept.via); focus with_reducible assumption))))) H_c)
  have kall : Kept w W_p := (by (repeat (first | with_reducible exact Kept.refl _ | with_reducible apply Kept.drew | with_reducible apply Kept.alloc | ((with_reducible apply Kept.set); focus (simp <;> omega)) | ((with_reducible apply Kept.via); focus with_reducible assumption))))
  obtain ⟨q_r0, q_r1, q_r2⟩ := kw3 B_r
  obtain ⟨q_c0, q_c1, q_c2, q_c3, q_c4, q_c5, q_c6⟩ := kw7 B_c
  clear B_r B_c
  refine wp_region_kept (by kernel_rfl) (by as_aux_lemma => kernel_rfl) ?_
  repeat (go_big_quiet_step (first | (with_reducible exact kept_of (OO'.out _)) | (with_reducible exact kept_of (WG'.out _))))
  refine wpQuiet_nil ?_
  intro wq hw'
  have kq : Kept W_p wq := by obtain ⟨p, rfl⟩ := hw'; exact p.k
  clear hw'
  go_wp2
  go_ret
  exact ⟨rfl, kall.trans kq⟩
theorem back_c : BackC := by
  intro b m f sg mx fi gn ls gt bu times u tm h w
  rcases h with ⟨h, rfl⟩ | ⟨h, v, hv, ⟨h1, rfl⟩ | ⟨h1, rfl⟩⟩
  · exact back_neg h w
  · exact back_more h h1 (of_few hv h1) (fun w => of_c _ _ _ _ _ _ _ _ _ _ _ _ tm hv w) (fun w => counted_ok rfl w) w
  · exact back_same h h1 (fun w => of_c _ _ _ _ _ _ _ _ _ _ _ _ tm hv w) (fun w => counted_ok rfl w) w
theorem infoInt : (Try.prog.info? 3).map (fun i => (i.zero, i.size, i.bytes)) = some (some (.int .i64 0), 1, 8) := by kernel_rfl
set_option maxRecDepth 100000 in
set_option maxHeartbeats 3200000 in
theorem all_c : AllC := by
  intro b m f sg mx fi gn ls gt bu A len cap zs V hl hS w hr
  have HR := Lib.hid hr
  have ST := Lib.hid hS
  clear hr hS
  obtain ⟨i0, hi, hz0, hz1, hz2⟩ := info_parts infoInt
  go_enter Try.func10, Try.ntmps10
  go_upto_region 1 with fail
  generalize hW : World.alloc (World.alloc w (.cells #[.bool b, .int .i64 m, .int .i64 f] 23)) (.cells #[.int .i64 sg, .int .i64 mx, .int .i64 fi, .int .i64 gn, .int .i64 ls, .int .i64 gt, .int .i64 bu] 25) = W_p
  have K_p : Kept w W_p := by subst hW; exact ((Kept.refl _).alloc _ _).alloc _ _
  have H_r := Lib.hid (show W_p.cell? ⟨w.heap.size, 0, none⟩ = some (.bool b) ∧ W_p.cell? ⟨w.heap.size, 1, none⟩ = some (.int .i64 m) ∧ W_p.cell? ⟨w.heap.size, 2, none⟩ = some (.int .i64 f) from by subst hW; simp [go_sem])
  have H_c := Lib.hid (show W_p.cell? ⟨w.heap.size + 1, 0, none⟩ = some (.int .i64 sg) ∧ W_p.cell? ⟨w.heap.size + 1, 1, none⟩ = some (.int .i64 mx) ∧ W_p.cell? ⟨w.heap.size + 1, 2, none⟩ = some (.int .i64 fi) ∧ W_p.cell? ⟨w.heap.size + 1, 3, none⟩ = some (.int .i64 gn) ∧ W_p.cell? ⟨w.heap.size + 1, 4, none⟩ = some (.int .i64 ls) ∧ W_p.cell? ⟨w.heap.size + 1, 5, none⟩ = some (.int .i64 gt) ∧ W_p.cell? ⟨w.heap.size + 1, 6, none⟩ = some (.int .i64 bu) from by subst hW; simp [go_sem])
  have lp : w.heap.size + 2 ≤ W_p.heap.size := by subst hW; simp
  clear hW
  generalize hg : w.heap.size = g_r at *
  go_wp2_with (at_make; refine wpList_make_kept rfl _ _ 26 rfl w g_r hg 3 i0 (.int .i64 0) 1 Try.underlying26 hi hz0 hz1 K_p _ _ _ len rfl rfl rfl (by rw [hz2]; omega) (by unfold maxLen; omega) ?_)
  intro W1 own1 k1 g1 z1
  have kp1 : Kept W_p W1 := (Kept.refl W_p).grownBy g1 z1 (fun j hj => by cases hj)
  have lgs : g_r + 2 ≤ W_p.heap.size := lp
  generalize hgs : W_p.heap.size = gs at *
  clear g1 z1
  go_wp2
  go_loopw [7, 15] (fun sv i wr => ∃ k : Nat, k ≤ len ∧ i = .int .i64 k ∧ sv = .slice (some ⟨gs, 0, none⟩) k len ∧ wr.ownsRow g_r 3 1 (.slice (some ⟨gs, 0, none⟩) k len) k ((List.range k).map (fun j => .int .i64 (V j))) ∧ Kept w wr ∧ Kept W_p wr) (fun _ i _ => len - (intOf i).toNat)
  case atStart => exact ⟨0, Nat.zero_le _, rfl, rfl, own1, k1, kp1⟩
  case round =>
    clear own1 k1 kp1
    obtain ⟨k, hk, rfl, rfl, own, kw, kp⟩ := hrel
    by_cases hlt : k < len
    · have hltI : (k : Int) < (len : Int) := by omega
      obtain ⟨ba, oa, rfl, hc⟩ := (HR.out.kept kw) (by omega)
      have c1 : wr.cell? ⟨ba, oa + k, none⟩ = some (.int .i64 (zs.getD k 0)) := hc k hlt
      clear hc
      obtain ⟨hin, hof⟩ := ST.out k hlt
      generalize zs.getD k 0 = z at *
      have OC := Lib.hid (fun w => of_c b m f sg mx fi gn ls gt bu z (V k) hin hof w)
      clear hin hof
      obtain ⟨c_r0, c_r1, c_r2⟩ := Kept.all3 (show Kept W_p wr from (by (repeat (first | with_reducible exact Kept.refl _ | with_reducible apply Kept.drew | with_reducible apply Kept.alloc | ((with_reducible apply Kept.set); focus (simp <;> omega)) | ((with_reducible apply Kept.via); focus with_reducible assumption))))) H_r
      obtain ⟨c_c0, c_c1, c_c2, c_c3, c_c4, c_c5, c_c6⟩ := Kept.all7 (show Kept W_p wr from (by (repeat (first | with_reducible exact Kept.refl _ | with_reducible apply Kept.drew | with_reducible apply Kept.alloc | ((with_reducible apply Kept.set); focus (simp <;> omega)) | ((with_reducible apply Kept.via); focus with_reducible assumption))))) H_c
      go_wp2_with fail
      refine (OC.out _).mono ?_
      rintro e w41 ⟨rfl, k41⟩
      clear c_r0 c_r1 c_r2 c_c0 c_c1 c_c2 c_c3 c_c4 c_c5 c_c6
      have own2 := own_kept own k41
      have kw2 := Kept.trans kw k41
      have kp2 := Kept.trans kp k41
      clear own kw kp k41 c1
      go_wp2_with (at_builtin; refine wpList_append_spare_kept rfl _ _ 26 rfl w g_r hg 3 i0 1 Try.underlying26 hi hz1 gs k len _ rfl (own2.alloc _) (Kept.alloc kw2 _ _) ⟨w41.heap.size, 0, none⟩ 1 1 [.int .i64 (V k)] rfl rfl (cell_one_new _ _ _) (by intro u hu; simp at hu; subst hu; rfl) (by omega) ?_)
      intro w3 own3 k3 g3 z3
      have kp3 : Kept W_p w3 := (Kept.alloc kp2 _ _).grownBy g3 z3 (fun j hj => by cases hj; omega)
      rw [map_range_next] at own3
      have OW := Lib.hid own3
      clear g3 z3 own2 own3
      go_wp2
      go_roundw
      case rel => exact ⟨k + 1, by omega, by go_num, rfl, OW.out, k3, kp3⟩
      case measure => simp [intOf]; omega
    · obtain rfl : k = len := by omega
      go_wp2
      go_ret
      exact ⟨_, _, rfl, own_rowAt own (fun j hj => by simp [hj]), kw⟩
end Go.Proofs.Ytmdekgcgfcdppaa
