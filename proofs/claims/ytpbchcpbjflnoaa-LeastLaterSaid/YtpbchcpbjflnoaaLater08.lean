/-
  The walk of LeastLater: it answers true, if the calls do what they are to do.
-/
import Derived.Test.YtpbchcpbjflnoaaAwake08
import Derived.Test.YtpbchcpbjflnoaaPut08
import Derived.Deep.RegionHeld3
import Derived.Deep.DeepCutAuto
namespace Go.Proofs.Ytpbchcpbjflnoaa
open Go.RowKit Go.BigFrame
set_option linter.unusedVariables false

set_option maxRecDepth 100000 in
set_option maxHeartbeats 1600000 in
theorem later8_long (CC : LCheckC) (PC : LPutC) (OC : LOfC) (SC : LSinceC) (A2 : Option Addr) (len2 cap2 : Nat) (window by_ : Int)  (hl2 : 100 < len2) (hm : len2 ≤ 9223372036854775807) (w : World) : Calls Try.prog 8 #[.int .u32 window, .slice A2 len2 cap2, .int .u32 by_] w fun e w' => e = .returned (.bool true) ∧ Kept w w' := by
  have CC' := Lib.hid CC
  have PC' := Lib.hid PC
  have OC' := Lib.hid OC
  have SC' := Lib.hid SC
  have AW' := Lib.hid (fun w => awake08 CC PC OC SC w)
  clear CC PC OC SC
  have hd2 : decide ((100 : Int) < (len2 : Int)) = true := by simp; omega
  go_enter Try.func8, Try.ntmps8
  go_wp2_with fail
  refine (AW'.out _).mono ?_
  rintro e w1 ⟨rfl, k1⟩
  go_wp2
  go_ret
  exact ⟨rfl, k1⟩
set_option maxRecDepth 100000 in
set_option maxHeartbeats 6400000 in
theorem later_in64 {by_ : Int} {L : List (Int × Int)} (h0 : 0 ≤ by_ ∧ by_ ≤ 4294967295) (hi : ∀ m ∈ L, In64 m.1 ∧ In64 m.2) (ht : ∀ m ∈ L, 0 ≤ m.1 ∧ m.1 ≤ 4294967296) : ∀ m ∈ laterL by_ L, In64 m.1 ∧ In64 m.2 := fun m hm => by
  obtain ⟨a, ha, rfl⟩ := List.mem_map.1 hm
  have := ht a ha
  exact ⟨by unfold In64; show _ ≤ a.1 + by_ ∧ a.1 + by_ ≤ _; omega, (hi a ha).2⟩
set_option maxRecDepth 100000 in
set_option maxHeartbeats 6400000 in
theorem later8_short (CC : LCheckC) (PC : LPutC) (OC : LOfC) (SC : LSinceC) (A2 : Option Addr) (len2 cap2 : Nat) (window by_ : Int)  (ps : List (Int × Int)) (hl2 : len2 ≤ 100) (hn2 : ps.length = len2) (hi2 : ∀ m ∈ ps, In64 m.1 ∧ In64 m.2) (w0 : 0 ≤ window) (w1 : window ≤ 4294967295) (y0 : 0 ≤ by_) (y1 : by_ ≤ 4294967295) (w : World) (hr2 : RowM w A2 ps) : Calls Try.prog 8 #[.int .u32 window, .slice A2 len2 cap2, .int .u32 by_] w fun e w' => e = .returned (.bool true) ∧ Kept w w' := by
  have hd2 : decide ((100 : Int) < (len2 : Int)) = false := by simp; omega
  have HR2 := Lib.hid hr2
  have HI2 := Lib.hid hi2
  have HN2 := Lib.hid hn2
  have HW := Lib.hid (show In64 window from by unfold In64; omega)
  have HY := Lib.hid (And.intro y0 y1)
  have ww : IntKind.i64.wrap window = window := by rw [IntKind.wrap_i64]; omega
  have wy : IntKind.i64.wrap by_ = by_ := by rw [IntKind.wrap_i64]; omega
  clear hr2 hi2 hn2
  have CC' := Lib.hid CC
  have PC' := Lib.hid PC
  have OC' := Lib.hid OC
  have SC' := Lib.hid SC
  have AW' := Lib.hid (fun w => awake08 CC PC OC SC w)
  clear CC PC OC SC
  go_enter Try.func8, Try.ntmps8
  go_wp2_with fail
  refine (AW'.out _).mono ?_
  rintro e w1_ ⟨rfl, k1⟩
  go_wp2
  go_loopw [8, 9, 10] (fun va vb i wr => ∃ (k : Nat) (L : List (Int × Int)) (n : Nat) (BA : Option Addr) (ca : Nat) (BB : Option Addr) (cb : Nat), k ≤ len2 ∧ va = .slice BA n ca ∧ vb = .slice BB n cb ∧ i = .int .i64 k ∧ L.length = n ∧ n ≤ k ∧ SliceOk BA n ca ∧ SliceOk BB n cb ∧ (∀ m ∈ L, In64 m.1 ∧ In64 m.2) ∧ (∀ m ∈ L, 0 ≤ m.1 ∧ m.1 ≤ 4294967296) ∧ RowM wr BA L ∧ RowM wr BB (laterL by_ L) ∧ Kept w wr) (fun _ _ i _ => len2 - (intOf i).toNat)
  case atStart => exact ⟨0, [], 0, none, 0, none, 0, Nat.zero_le _, rfl, rfl, rfl, rfl, Nat.le_refl _, ⟨Nat.le_refl _, Nat.zero_le _, fun _ => rfl⟩, ⟨Nat.le_refl _, Nat.zero_le _, fun _ => rfl⟩, by simp, by simp, rowM_nil _ _, rowM_nil _ _, k1⟩
  case round =>
    clear hd2
    obtain ⟨k, L, n, BA, ca, BB, cb, hk, rfl, rfl, rfl, hLn, hnk, sa, sb, ia, it, ra, rb, kw⟩ := hrel
    have LN := Lib.hid hLn
    have SA := Lib.hid sa
    have SB := Lib.hid sb
    have IA := Lib.hid ia
    have ITL := Lib.hid it
    have RA := Lib.hid ra
    have RB := Lib.hid rb
    clear hLn sa sb ia it ra rb
    by_cases hlt : k < len2
    · have hltI : (k : Int) < (len2 : Int) := by omega
      obtain ⟨bb, off, rfl, hc⟩ := (HR2.out.kept kw) (by have := HN2.out; omega)
      obtain ⟨d1, d2⟩ := hc k (by have := HN2.out; omega)
      have hin := HI2.out _ (mk_mem (show k < ps.length by have := HN2.out; omega))
      generalize (mk ps k).1 = t at *
      generalize (mk ps k).2 = m at *
      have IT := Lib.hid hin.1
      have IM := Lib.hid hin.2
      clear hc hin
      by_cases t0 : t < 0
      · clear d2
        go_wp2
        go_ret
        exact ⟨rfl, kw⟩
      · by_cases t1 : 4294967296 ≤ t
        · clear d2
          go_wp2
          go_ret
          exact ⟨rfl, kw⟩
        · have e0 : decide (t < 0) = false := by simp; omega
          have e1 : decide (4294967296 ≤ t) = false := by simp; omega
          have wt : IntKind.i64.wrap (t + by_) = t + by_ := by rw [IntKind.wrap_i64]; omega
          obtain ⟨L', er, hp⟩ := put_ex L window t m
          have hp2 := later_put y0 (by omega) ITL.out ⟨by omega, by omega⟩ hp
          have HP := Lib.hid hp
          have HP2 := Lib.hid hp2.1
          have IT2 := Lib.hid hp2.2
          obtain ⟨n2, hn2⟩ : ∃ n2, L'.length = n2 := ⟨_, rfl⟩
          have LN2 := Lib.hid hn2
          have LNY := Lib.hid (show (laterL by_ L).length = n from by rw [later_len]; exact LN.out)
          have LNY2 := Lib.hid (show (laterL by_ L').length = n2 from by rw [later_len]; exact hn2)
          have hnk2 : n2 ≤ k + 1 := by have := put_len hp; have := LN.out; omega
          have hnn : n ≤ 1099511627776 := by omega
          have IY := Lib.hid (later_in64 HY.out IA.out ITL.out)
          have ITY := Lib.hid (show In64 (t + by_) from by unfold In64; omega)
          have D := Lib.hid (And.intro d1 d2)
          clear hp hp2 hn2 d2
          go_upto_region 10 with fail
          clear d1
          have base_a := Lib.hid (show wr.cell? ⟨bb, off + k * 2, none⟩ = some (.int .i64 t) ∧ wr.cell? ⟨bb, off + k * 2 + 1, none⟩ = some (.int .i64 m) from D.out)
          go_cut [11, 12] (fun s11 s12 wx => ∃ (Bq : Option Addr) (cq : Nat), s11 = .slice Bq n2 cq ∧ s12 = .int .i64 er ∧ SliceOk Bq n2 cq ∧ RowN wr wx BA Bq L' ∧ Kept wr wx)
          case first =>
            go_region_held3 (fun w' => w'.cell? ⟨bb, off + k * 2, none⟩ = some (.int .i64 t) ∧ w'.cell? ⟨bb, off + k * 2 + 1, none⟩ = some (.int .i64 m))
              ((refine Kept.alln2 ?_ base_a; focus ((repeat (first | with_reducible exact Kept.refl _ | with_reducible apply Kept.drew | with_reducible apply Kept.alloc | ((with_reducible apply Kept.set); focus (simp <;> omega)) | ((with_reducible apply Kept.via); focus with_reducible assumption))); done)))
              (first | (go_at_call 10; refine (put_use PC'.out LN.out LN2.out SA.out hnn IA.out HW.out IT.out IM.out HP.out _ (RA.out.kept (by (repeat (first | with_reducible exact Kept.refl _ | with_reducible apply Kept.drew | with_reducible apply Kept.alloc | ((with_reducible apply Kept.set); focus (simp <;> omega)) | ((with_reducible apply Kept.via); focus with_reducible assumption)))))).mono ?_; rintro e v1 ⟨B_a, c_a, rfl, sk, rn, i1⟩))
            all_goals
              go_wp2_with fail
              go_meet
              exact ⟨_, _, rfl, rfl, sk, rn, (by (repeat (first | with_reducible exact Kept.refl _ | with_reducible apply Kept.drew | with_reducible apply Kept.alloc | ((with_reducible apply Kept.set); focus (simp <;> omega)) | ((with_reducible apply Kept.via); focus with_reducible assumption))))⟩
          obtain ⟨B_a, c_a, rfl, rfl, sk, rn, K_a⟩ := hcut
          generalize wc = W_a at *
          have S_a := Lib.hid sk
          have R_a := Lib.hid rn
          clear sk rn base_a
          have D2 := Lib.hid (Kept.alln2 K_a D)
          have RB2 := Lib.hid (RB.out.kept K_a)
          go_upto_region 11 with fail
          have base_b := Lib.hid (show W_a.cell? ⟨bb, off + k * 2, none⟩ = some (.int .i64 t) ∧ W_a.cell? ⟨bb, off + k * 2 + 1, none⟩ = some (.int .i64 m) from D2.out)
          go_cut [13, 14] (fun s13 s14 wx => ∃ (Bq : Option Addr) (cq : Nat), s13 = .slice Bq n2 cq ∧ s14 = .int .i64 er ∧ SliceOk Bq n2 cq ∧ RowN W_a wx BB Bq (laterL by_ L') ∧ Kept W_a wx)
          case first =>
            go_region_held3 (fun w' => w'.cell? ⟨bb, off + k * 2, none⟩ = some (.int .i64 t) ∧ w'.cell? ⟨bb, off + k * 2 + 1, none⟩ = some (.int .i64 m))
              ((refine Kept.alln2 ?_ base_b; focus ((repeat (first | with_reducible exact Kept.refl _ | with_reducible apply Kept.drew | with_reducible apply Kept.alloc | ((with_reducible apply Kept.set); focus (simp <;> omega)) | ((with_reducible apply Kept.via); focus with_reducible assumption))); done)))
              (first | (go_at_call 10; refine (put_use PC'.out LNY.out LNY2.out SB.out hnn IY.out HW.out ITY.out IM.out HP2.out _ (RB2.out.kept (by (repeat (first | with_reducible exact Kept.refl _ | with_reducible apply Kept.drew | with_reducible apply Kept.alloc | ((with_reducible apply Kept.set); focus (simp <;> omega)) | ((with_reducible apply Kept.via); focus with_reducible assumption)))))).mono ?_; rintro e v1 ⟨B_b, c_b, rfl, sk, rn, i1⟩))
            all_goals
              go_wp2_with fail
              go_meet
              exact ⟨_, _, rfl, rfl, sk, rn, (by (repeat (first | with_reducible exact Kept.refl _ | with_reducible apply Kept.drew | with_reducible apply Kept.alloc | ((with_reducible apply Kept.set); focus (simp <;> omega)) | ((with_reducible apply Kept.via); focus with_reducible assumption))))⟩
          obtain ⟨B_b, c_b, rfl, rfl, sk, rn, K_b⟩ := hcut
          generalize wc = W_b at *
          have S_b := Lib.hid sk
          have R_b := Lib.hid rn
          clear sk rn base_b
          have IA2 := Lib.hid (put_in64 HP.out IA.out IT.out IM.out)
          have RAZ := Lib.hid (R_a.out.1.kept K_b)
          have RBZ := Lib.hid R_b.out.1
          have kz := Kept.trans kw (Kept.trans K_a K_b)
          clear D D2 RB2 R_a R_b RA RB K_a K_b kw
          go_wp2
          go_roundw
          case rel => exact ⟨k + 1, L', n2, B_a, c_a, B_b, c_b, by omega, rfl, rfl, by go_num, LN2.out, by omega, S_a.out, S_b.out, IA2.out, IT2.out, RAZ.out, RBZ.out, kz⟩
          case measure => simp [intOf]; omega
    · have LNY := Lib.hid (show (laterL by_ L).length = n from by rw [later_len]; exact LN.out)
      obtain ⟨wo, hwo⟩ : ∃ x, x = wr := ⟨_, rfl⟩
      subst hwo
      go_wp2
      go_loopw [15] (fun i wz => ∃ k : Nat, k ≤ n ∧ i = .int .i64 k ∧ Kept wo wz) (fun i _ => n - (intOf i).toNat)
      case atStart => exact ⟨0, Nat.zero_le _, rfl, Kept.refl _⟩
      case round =>
        obtain ⟨j, hj, rfl, kz⟩ := hrel
        by_cases hlt2 : j < n
        · have hltI : (j : Int) < (n : Int) := by omega
          obtain ⟨ba, offa, rfl, hca⟩ := RA.out (by have := LN.out; omega)
          obtain ⟨bx, offx, rfl, hcx⟩ := RB.out (by have := LNY.out; omega)
          obtain ⟨x1, x2⟩ := hca j (by have := LN.out; omega)
          obtain ⟨z1, z2⟩ := hcx j (by have := LNY.out; omega)
          rw [later_mk (by have := LN.out; omega)] at z1 z2
          have tb := ITL.out _ (mk_mem (show j < L.length by have := LN.out; omega))
          generalize (mk L j).1 = t at *
          generalize (mk L j).2 = m at *
          have wt : IntKind.i64.wrap (t + by_) = t + by_ := by rw [IntKind.wrap_i64]; omega
          have z1' : wo.cell? ⟨bx, offx + j * 2, none⟩ = some (.int .i64 (t + by_)) := z1
          have z2' : wo.cell? ⟨bx, offx + j * 2 + 1, none⟩ = some (.int .i64 m) := z2
          have H_q := Lib.hid (And.intro (kz.read x1) (And.intro (kz.read x2) (And.intro (kz.read z1') (kz.read z2'))))
          clear hca hcx x1 x2 z1 z2 z1' z2' tb
          go_upto_region 19 with fail
          have B_q := Lib.hid (Kept.alln4 (show Kept wr wr from (by (repeat (first | with_reducible exact Kept.refl _ | with_reducible apply Kept.drew | with_reducible apply Kept.alloc | ((with_reducible apply Kept.set); focus (simp <;> omega)) | ((with_reducible apply Kept.via); focus with_reducible assumption))))) H_q)
          have kall : Kept w wr := (by (repeat (first | with_reducible exact Kept.refl _ | with_reducible apply Kept.drew | with_reducible apply Kept.alloc | ((with_reducible apply Kept.set); focus (simp <;> omega)) | ((with_reducible apply Kept.via); focus with_reducible assumption))))
          obtain ⟨q_q0, q_q1, q_q2, q_q3⟩ := kwn4 B_q
          clear B_q
          refine wp_region_kept (by kernel_rfl) (by as_aux_lemma => kernel_rfl) ?_
          repeat (go_big_quiet_step (first | fail))
          refine wpQuiet_nil ?_
          intro wq hw'
          have kq : Kept wr wq := by obtain ⟨p, rfl⟩ := hw'; exact p.k
          clear hw'
          clear kall
          go_wp2
          go_roundw
          case rel => exact ⟨j + 1, by omega, by go_num, Kept.trans kz kq⟩
          case measure => simp [intOf]; omega
        · obtain rfl : j = n := by omega
          go_wp2
          go_ret
          exact ⟨rfl, Kept.trans kw kz⟩
theorem leastLater_walk (CC : LCheckC) (PC : LPutC) (OC : LOfC) (SC : LSinceC) (A2 : Option Addr) (cap2 : Nat) (ps : List (Int × Int)) (window by_ : Int) (w : World) (hs2 : SliceOk A2 ps.length cap2) (hi2 : ∀ m ∈ ps, In64 m.1 ∧ In64 m.2) (hw : 0 ≤ window ∧ window ≤ 4294967295) (hy : 0 ≤ by_ ∧ by_ ≤ 4294967295) (hr2 : RowM w A2 ps) : Calls Try.prog 8 #[.int .u32 window, .slice A2 ps.length cap2, .int .u32 by_] w fun e w' => e = .returned (.bool true) ∧ Kept w w' := by
  by_cases h2 : ps.length ≤ 100
  · exact later8_short CC PC OC SC A2 ps.length cap2 window by_ ps h2 rfl hi2 hw.1 hw.2 hy.1 hy.2 w hr2
  · exact later8_long CC PC OC SC A2 ps.length cap2 window by_ (by omega) (by have := hs2.1; have := hs2.2.1; omega) w
end Go.Proofs.Ytpbchcpbjflnoaa
