/-
  The walk of LeastAlone: it answers true, if the calls do what they are to do.
-/
import Derived.Test.YtpbchcpbjflnoaaAwake08
import Derived.Test.YtpbchcpbjflnoaaPut08
import Derived.Deep.RegionHeld3
import Derived.Deep.DeepCutAuto
namespace Go.Proofs.Ytpbchcpbjflnoaa
open Go.RowKit Go.BigFrame
set_option linter.unusedVariables false

set_option maxRecDepth 100000 in
set_option maxHeartbeats 1600000 in
theorem alone8_long (CC : LCheckC) (PC : LPutC) (OC : LOfC) (SC : LSinceC) (A2 : Option Addr) (len2 cap2 : Nat)  (hl2 : 100 < len2) (hm : len2 ≤ 9223372036854775807) (w : World) : Calls Try.prog 7 #[.slice A2 len2 cap2] w fun e w' => e = .returned (.bool true) ∧ Kept w w' := by
  have CC' := Lib.hid CC
  have PC' := Lib.hid PC
  have OC' := Lib.hid OC
  have SC' := Lib.hid SC
  have AW' := Lib.hid (fun w => awake08 CC PC OC SC w)
  clear CC PC OC SC
  have hd2 : decide ((100 : Int) < (len2 : Int)) = true := by simp; omega
  go_enter Try.func7, Try.ntmps7
  go_wp2_with fail
  refine (AW'.out _).mono ?_
  rintro e w1 ⟨rfl, k1⟩
  go_wp2
  go_ret
  exact ⟨rfl, k1⟩
set_option maxRecDepth 100000 in
set_option maxHeartbeats 6400000 in
theorem alone8_short (CC : LCheckC) (PC : LPutC) (OC : LOfC) (SC : LSinceC) (A2 : Option Addr) (len2 cap2 : Nat)  (ps : List (Int × Int)) (hl2 : len2 ≤ 100) (hn2 : ps.length = len2) (hi2 : ∀ m ∈ ps, In64 m.1 ∧ In64 m.2) (w : World) (hr2 : RowM w A2 ps) : Calls Try.prog 7 #[.slice A2 len2 cap2] w fun e w' => e = .returned (.bool true) ∧ Kept w w' := by
  have hd2 : decide ((100 : Int) < (len2 : Int)) = false := by simp; omega
  have HR2 := Lib.hid hr2
  have HI2 := Lib.hid hi2
  have HN2 := Lib.hid hn2
  have HW0 := Lib.hid (show In64 0 from by unfold In64; omega)
  have HW1 := Lib.hid (show In64 1099511627776 from by unfold In64; omega)
  clear hr2 hi2 hn2
  obtain ⟨i0, hi, hz0, hz1, hz2⟩ := info_parts infoMark
  obtain ⟨g0, hg⟩ : ∃ g0, w.heap.size = g0 := ⟨_, rfl⟩
  have CC' := Lib.hid CC
  have PC' := Lib.hid PC
  have OC' := Lib.hid OC
  have SC' := Lib.hid SC
  have AW' := Lib.hid (fun w => awake08 CC PC OC SC w)
  clear CC PC OC SC
  go_enter Try.func7, Try.ntmps7
  go_wp2_with fail
  refine (AW'.out _).mono ?_
  rintro e w1 ⟨rfl, k1⟩
  go_wp2
  go_loopw [4, 5, 6, 7] (fun va vb vx i wr => ∃ (k : Nat) (LA LB ALL : List (Int × Int)) (na nb nx : Nat) (BA : Option Addr) (ca : Nat) (BB : Option Addr) (cb : Nat) (BX : Option Addr) (cx : Nat), k ≤ len2 ∧ va = .slice BA na ca ∧ vb = .slice BB nb cb ∧ vx = .slice BX nx cx ∧ i = .int .i64 k ∧ LA.length = na ∧ LB.length = nb ∧ ALL.length = nx ∧ na ≤ k ∧ nb ≤ k ∧ nx ≤ k ∧ SliceOk BA na ca ∧ SliceOk BB nb cb ∧ (∀ m ∈ LA, In64 m.1 ∧ In64 m.2) ∧ (∀ m ∈ LB, In64 m.1 ∧ In64 m.2) ∧ RowM wr BA LA ∧ RowM wr BB LB ∧ OffR wr (Value.ownBlock (.slice BX nx cx)) BA ∧ OffR wr (Value.ownBlock (.slice BX nx cx)) BB ∧ wr.ownsRow g0 28 2 (.slice BX nx cx) nx (flatM ALL) ∧ LInv LA ALL 0 ∧ LInv LB ALL 1099511627776 ∧ Kept w wr) (fun _ _ _ i _ => len2 - (intOf i).toNat)
  case atStart => exact ⟨0, [], [], [], 0, 0, 0, none, 0, none, 0, none, 0, Nat.zero_le _, rfl, rfl, rfl, rfl, rfl, rfl, rfl, Nat.le_refl _, Nat.le_refl _, Nat.le_refl _, ⟨Nat.le_refl _, Nat.zero_le _, fun _ => rfl⟩, ⟨Nat.le_refl _, Nat.zero_le _, fun _ => rfl⟩, by simp, by simp, rowM_nil _ _, rowM_nil _ _, offR_none _ _, offR_none _ _, World.ownsRow_nil _ _ _ _, Or.inl ⟨rfl, rfl⟩, Or.inl ⟨rfl, rfl⟩, k1⟩
  case round =>
    clear hd2
    obtain ⟨k, LA, LB, ALL, na, nb, nx, BA, ca, BB, cb, BX, cx, hk, rfl, rfl, rfl, rfl, hAn, hBn, hXn, hak, hbk, hxk, sa, sb, ia, ib, ra, rb, oa, ob, own, la, lb, kw⟩ := hrel
    have NA := Lib.hid hAn
    have NB := Lib.hid hBn
    have NX := Lib.hid hXn
    have SA := Lib.hid sa
    have SB := Lib.hid sb
    have IA := Lib.hid ia
    have IB := Lib.hid ib
    have RA := Lib.hid ra
    have RB := Lib.hid rb
    have OA := Lib.hid oa
    have OB := Lib.hid ob
    have OW := Lib.hid own
    have LA_ := Lib.hid la
    have LB_ := Lib.hid lb
    clear hAn hBn hXn sa sb ia ib ra rb oa ob own la lb
    by_cases hlt : k < len2
    · have hltI : (k : Int) < (len2 : Int) := by omega
      obtain ⟨bb, off, rfl, hc⟩ := (HR2.out.kept kw) (by have := HN2.out; omega)
      obtain ⟨d1, d2⟩ := hc k (by have := HN2.out; omega)
      have hin := HI2.out _ (mk_mem (show k < ps.length by have := HN2.out; omega))
      generalize (mk ps k).1 = t at *
      generalize (mk ps k).2 = m at *
      obtain ⟨LA', er, hp⟩ := put_ex LA 0 t m
      obtain ⟨LB', er2, hp2⟩ := put_ex LB 1099511627776 t m
      obtain rfl : er = er2 := linv_same LA_.out LB_.out (by omega) (by omega) hp hp2
      have HP := Lib.hid hp
      have HP2 := Lib.hid hp2
      have IT := Lib.hid hin.1
      have IM := Lib.hid hin.2
      obtain ⟨na2, hn2⟩ : ∃ n2, LA'.length = n2 := ⟨_, rfl⟩
      obtain ⟨nb2, hn3⟩ : ∃ n2, LB'.length = n2 := ⟨_, rfl⟩
      have NA2 := Lib.hid hn2
      have NB2 := Lib.hid hn3
      have hak2 : na2 ≤ k + 1 := by have := put_len hp; have := NA.out; omega
      have hbk2 : nb2 ≤ k + 1 := by have := put_len hp2; have := NB.out; omega
      have hna : na ≤ 1099511627776 := by omega
      have hnb : nb ≤ 1099511627776 := by omega
      have D := Lib.hid (And.intro d1 d2)
      clear hc hin hp hp2 hn2 hn3 d1 d2
      go_upto_region 8 with fail
      have base_a := Lib.hid (show wr.cell? ⟨bb, off + k * 2, none⟩ = some (.int .i64 t) ∧ wr.cell? ⟨bb, off + k * 2 + 1, none⟩ = some (.int .i64 m) from D.out)
      go_cut [8, 9] (fun s8 s9 wx => ∃ (Bq : Option Addr) (cq : Nat), s8 = .slice Bq na2 cq ∧ s9 = .int .i64 er ∧ SliceOk Bq na2 cq ∧ RowN wr wx BA Bq LA' ∧ Kept wr wx)
      case first =>
        go_region_held3 (fun w' => w'.cell? ⟨bb, off + k * 2, none⟩ = some (.int .i64 t) ∧ w'.cell? ⟨bb, off + k * 2 + 1, none⟩ = some (.int .i64 m))
          ((refine Kept.alln2 ?_ base_a; focus ((repeat (first | with_reducible exact Kept.refl _ | with_reducible apply Kept.drew | with_reducible apply Kept.alloc | ((with_reducible apply Kept.set); focus (simp <;> omega)) | ((with_reducible apply Kept.via); focus with_reducible assumption))); done)))
          (first | (go_at_call 10; refine (put_use PC'.out NA.out NA2.out SA.out hna IA.out HW0.out IT.out IM.out HP.out _ (RA.out.kept (by (repeat (first | with_reducible exact Kept.refl _ | with_reducible apply Kept.drew | with_reducible apply Kept.alloc | ((with_reducible apply Kept.set); focus (simp <;> omega)) | ((with_reducible apply Kept.via); focus with_reducible assumption)))))).mono ?_; rintro e v1 ⟨B_a, c_a, rfl, sk, rn, i1⟩))
        all_goals
          go_wp2_with fail
          go_meet
          exact ⟨_, _, rfl, rfl, sk, rn, (by (repeat (first | with_reducible exact Kept.refl _ | with_reducible apply Kept.drew | with_reducible apply Kept.alloc | ((with_reducible apply Kept.set); focus (simp <;> omega)) | ((with_reducible apply Kept.via); focus with_reducible assumption))))⟩
      obtain ⟨B_a, c_a, rfl, rfl, sk, rn, K_a⟩ := hcut
      generalize wc = W_a at *
      have S_a := Lib.hid sk
      have R_a := Lib.hid rn
      clear sk rn base_a
      have D2 := Lib.hid (Kept.alln2 K_a D)
      have RB2 := Lib.hid (RB.out.kept K_a)
      go_upto_region 9 with fail
      have base_b := Lib.hid (show W_a.cell? ⟨bb, off + k * 2, none⟩ = some (.int .i64 t) ∧ W_a.cell? ⟨bb, off + k * 2 + 1, none⟩ = some (.int .i64 m) from D2.out)
      go_cut [10, 11] (fun s10 s11 wx => ∃ (Bq : Option Addr) (cq : Nat), s10 = .slice Bq nb2 cq ∧ s11 = .int .i64 er ∧ SliceOk Bq nb2 cq ∧ RowN W_a wx BB Bq LB' ∧ Kept W_a wx)
      case first =>
        go_region_held3 (fun w' => w'.cell? ⟨bb, off + k * 2, none⟩ = some (.int .i64 t) ∧ w'.cell? ⟨bb, off + k * 2 + 1, none⟩ = some (.int .i64 m))
          ((refine Kept.alln2 ?_ base_b; focus ((repeat (first | with_reducible exact Kept.refl _ | with_reducible apply Kept.drew | with_reducible apply Kept.alloc | ((with_reducible apply Kept.set); focus (simp <;> omega)) | ((with_reducible apply Kept.via); focus with_reducible assumption))); done)))
          (first | (go_at_call 10; refine (put_use PC'.out NB.out NB2.out SB.out hnb IB.out HW1.out IT.out IM.out HP2.out _ (RB2.out.kept (by (repeat (first | with_reducible exact Kept.refl _ | with_reducible apply Kept.drew | with_reducible apply Kept.alloc | ((with_reducible apply Kept.set); focus (simp <;> omega)) | ((with_reducible apply Kept.via); focus with_reducible assumption)))))).mono ?_; rintro e v1 ⟨B_b, c_b, rfl, sk, rn, i1⟩))
        all_goals
          go_wp2_with fail
          go_meet
          exact ⟨_, _, rfl, rfl, sk, rn, (by (repeat (first | with_reducible exact Kept.refl _ | with_reducible apply Kept.drew | with_reducible apply Kept.alloc | ((with_reducible apply Kept.set); focus (simp <;> omega)) | ((with_reducible apply Kept.via); focus with_reducible assumption))))⟩
      obtain ⟨B_b, c_b, rfl, rfl, sk, rn, K_b⟩ := hcut
      generalize wc = W_b at *
      have S_b := Lib.hid sk
      have R_b := Lib.hid rn
      clear sk rn base_b
      have D3 := Lib.hid (Kept.alln2 K_b D2)
      have kab := Kept.trans K_a K_b
      have kwa := Kept.trans kw kab
      have OW2 := Lib.hid (own_kept OW.out kab)
      have OA2 := Lib.hid ((OA.out.new R_a.out.2 (fun g hg => (OW.out.lt g hg).2) K_a).kept K_b)
      have OB2 := Lib.hid ((OB.out.kept K_a).new R_b.out.2 (fun g hg => ((own_kept OW.out K_a).lt g hg).2) K_b)
      have RA2 := Lib.hid (R_a.out.1.kept K_b)
      have RB3 := Lib.hid R_b.out.1
      have IA2 := Lib.hid (put_in64 HP.out IA.out IT.out IM.out)
      have IB2 := Lib.hid (put_in64 HP2.out IB.out IT.out IM.out)
      have LA2 := Lib.hid (linv_put (by omega) LA_.out HP.out)
      have LB2 := Lib.hid (linv_put (by omega) LB_.out HP2.out)
      clear D D2 R_a R_b OA OB OW RA RB RB2 K_a K_b kw kab IA IB LA_ LB_ SA SB NA NB
      by_cases he : er = 0
      · subst he
        obtain ⟨d1, d2⟩ := D3.out
        have LA3 := Lib.hid (show LInv LA' (ALL ++ [(t, m)]) 0 from by have := LA2.out; rwa [if_pos rfl] at this)
        have LB3 := Lib.hid (show LInv LB' (ALL ++ [(t, m)]) 1099511627776 from by have := LB2.out; rwa [if_pos rfl] at this)
        clear LA2 LB2
        go_wp2_with (at_builtin; refine wpList_append_kept rfl _ _ 22 rfl w g0 hg 28 i0 (.agg #[.int .i64 0, .int .i64 0]) 2 16 Try.underlying22 hi hz0 hz1 hz2 rfl (by decide) _ _ _ rfl (World.ownsRow.alloc (OW2.out) _) (Kept.alloc (kwa) _ _) ⟨_, 0, none⟩ 1 1 [.int .i64 t, .int .i64 m] rfl rfl (cells_two_new _ _ _ _) (by intro u hu; simp at hu; rcases hu with rfl | rfl <;> rfl) (by decide) (by unfold maxLen; omega) (by omega) ?_)
        intro v' w3 own3 k3 g3 z3 o3
        have hq : (ALL ++ [(t, m)]).length = nx + 1 := by rw [List.length_append, NX.out]; rfl
        have own4 : w3.ownsRow g0 28 2 v' (nx + 1) (flatM (ALL ++ [(t, m)])) := by rw [flatM_app]; exact own3
        obtain ⟨BY, cy, rfl, sok⟩ := own_rowV own4 hq
        have NX2 := Lib.hid hq
        have OWZ := Lib.hid own4
        have OAZ := Lib.hid ((OA2.out.kept ((Kept.refl W_b).alloc #[.int .i64 t, .int .i64 m] 28)).grown g3 (by simpa using o3))
        have OBZ := Lib.hid ((OB2.out.kept ((Kept.refl W_b).alloc #[.int .i64 t, .int .i64 m] 28)).grown g3 (by simpa using o3))
        have RAZ := Lib.hid ((RA2.out.kept ((Kept.refl W_b).alloc #[.int .i64 t, .int .i64 m] 28)).grown (OA2.out.kept ((Kept.refl W_b).alloc #[.int .i64 t, .int .i64 m] 28)) g3)
        have RBZ := Lib.hid ((RB3.out.kept ((Kept.refl W_b).alloc #[.int .i64 t, .int .i64 m] 28)).grown (OB2.out.kept ((Kept.refl W_b).alloc #[.int .i64 t, .int .i64 m] 28)) g3)
        clear own3 own4 g3 z3 o3 RA2 RB3 OA2 OB2 OW2 hq sok
        go_wp2
        go_roundw
        case rel => exact ⟨k + 1, LA', LB', ALL ++ [(t, m)], na2, nb2, nx + 1, B_a, c_a, B_b, c_b, BY, cy, by omega, rfl, rfl, rfl, by go_num, NA2.out, NB2.out, NX2.out, by omega, by omega, by omega, S_a.out, S_b.out, IA2.out, IB2.out, RAZ.out, RBZ.out, OAZ.out, OBZ.out, OWZ.out, LA3.out, LB3.out, k3⟩
        case measure => simp [intOf]; omega
      · have dz : (er == 0) = false := by simp; omega
        have LA3 := Lib.hid (show LInv LA' ALL 0 from by have := LA2.out; rwa [if_neg he] at this)
        have LB3 := Lib.hid (show LInv LB' ALL 1099511627776 from by have := LB2.out; rwa [if_neg he] at this)
        clear LA2 LB2 he
        go_wp2
        go_roundw
        case rel => exact ⟨k + 1, LA', LB', ALL, na2, nb2, nx, B_a, c_a, B_b, c_b, BX, cx, by omega, rfl, rfl, rfl, by go_num, NA2.out, NB2.out, NX.out, by omega, by omega, by omega, S_a.out, S_b.out, IA2.out, IB2.out, RA2.out, RB3.out, OA2.out, OB2.out, OW2.out, LA3.out, LB3.out, kwa⟩
        case measure => simp [intOf]; omega
    · have hno := (linv_none LA_.out).1
      cases na with
      | zero =>
        obtain rfl : nx = 0 := by have h := hno.1 (List.eq_nil_of_length_eq_zero NA.out); rw [← NX.out, h]; rfl
        clear hno
        have RX := Lib.hid (own_rowS OW.out NX.out).1
        obtain ⟨a0, b0, h0⟩ := lof_ex LB
        have H0 := Lib.hid h0
        have LT := Lib.hid (linv_all LB_.out h0)
        clear h0
        have hnb : nb ≤ 1099511627776 := by omega
        obtain ⟨wo, hwo⟩ : ∃ x, x = wr := ⟨_, rfl⟩
        subst hwo
        go_wp2
        go_loopw [12] (fun i wz => ∃ k : Nat, k ≤ 0 ∧ i = .int .i64 k ∧ Kept wo wz) (fun i _ => 0 - (intOf i).toNat)
        case atStart => exact ⟨0, Nat.zero_le _, rfl, Kept.refl _⟩
        case round =>
          obtain ⟨k, hk, rfl, kz⟩ := hrel
          obtain rfl : k = 0 := by omega
          go_wp2_with fail
          refine (of_use OC'.out NB.out SB.out hnb H0.out _ (RB.out.kept (Kept.trans kz (by (repeat (first | with_reducible exact Kept.refl _ | with_reducible apply Kept.drew | with_reducible apply Kept.alloc | ((with_reducible apply Kept.set); focus (simp <;> omega)) | ((with_reducible apply Kept.via); focus with_reducible assumption))))))).mono ?_
          rintro e w50 ⟨rfl, k50⟩
          go_wp2_with fail
          refine (refLeast8_ok _ _ _ ALL _ _ _ _ NX.out (by omega) (by rw [← NX.out]; exact LT.out) _ (RX.out.kept (Kept.trans kz (by (repeat (first | with_reducible exact Kept.refl _ | with_reducible apply Kept.drew | with_reducible apply Kept.alloc | ((with_reducible apply Kept.set); focus (simp <;> omega)) | ((with_reducible apply Kept.via); focus with_reducible assumption))))))).mono ?_
          rintro e w51 ⟨rfl, k51⟩
          go_wp2
          go_ret
          exact ⟨rfl, Kept.trans (Kept.trans (Kept.trans kw kz) k50) k51⟩
      | succ ja =>
        obtain ⟨jx, rfl⟩ : ∃ jx, nx = jx + 1 := ⟨nx - 1, by
          have : nx ≠ 0 := fun e => by
            have h := hno.2 (List.eq_nil_of_length_eq_zero (by rw [NX.out, e]))
            exact absurd h (ne_of_len NA.out)
          omega⟩
        clear hno
        have RX := Lib.hid (own_rowS OW.out NX.out).1
        obtain ⟨a0, b0, h0⟩ := lof_ex LB
        have H0 := Lib.hid h0
        have LT := Lib.hid (linv_all LB_.out h0)
        clear h0
        have hnb : nb ≤ 1099511627776 := by omega
        obtain ⟨ba, offa, eA, hca⟩ := RA.out (by have := NA.out; omega)
        obtain ⟨bx, offx, eX, hcx⟩ := RX.out (by have := NX.out; omega)
        subst eA eX
        obtain ⟨tl, htl⟩ : ∃ tl, (lastOf ALL).1 = tl := ⟨_, rfl⟩
        obtain ⟨x1, _⟩ := hcx jx (by have := NX.out; omega)
        rw [lastOf_mk NX.out, htl] at x1
        have X1 := Lib.hid x1
        have CA := Lib.hid (show ∀ k, k < ja + 1 → wr.cell? ⟨ba, offa + k * 2, none⟩ = some (.int .i64 tl) from fun k hk => by
          have := (hca k (by have := NA.out; omega)).1
          rwa [((linv_none LA_.out).2 k (by have := NA.out; omega)).2, htl] at this)
        clear hca hcx x1 htl
        have gx0 : (0 : Int) ≤ (jx : Int) := by omega
        have gx1 : (jx : Int) < (jx : Int) + 1 := by omega
        have dn : ((jx : Int) + 1 == 0) = false := by simp; omega
        obtain ⟨wo, hwo⟩ : ∃ x, x = wr := ⟨_, rfl⟩
        subst hwo
        go_wp2
        go_loopw [12] (fun i wz => ∃ k : Nat, k ≤ (ja + 1) ∧ i = .int .i64 k ∧ Kept wo wz) (fun i _ => (ja + 1) - (intOf i).toNat)
        case atStart => exact ⟨0, Nat.zero_le _, rfl, Kept.refl _⟩
        case round =>
          obtain ⟨k, hk, rfl, kz⟩ := hrel
          by_cases hlt2 : k < ja + 1
          · have hltI : (k : Int) < ((ja : Int) + 1) := by omega
            have H_q := Lib.hid (And.intro (kz.read (CA.out k hlt2)) (kz.read X1.out))
            go_upto_region 19 with fail
            have B_q := Lib.hid (Kept.alln2 (show Kept wr wr from (by (repeat (first | with_reducible exact Kept.refl _ | with_reducible apply Kept.drew | with_reducible apply Kept.alloc | ((with_reducible apply Kept.set); focus (simp <;> omega)) | ((with_reducible apply Kept.via); focus with_reducible assumption))))) H_q)
            have kall : Kept w wr := (by (repeat (first | with_reducible exact Kept.refl _ | with_reducible apply Kept.drew | with_reducible apply Kept.alloc | ((with_reducible apply Kept.set); focus (simp <;> omega)) | ((with_reducible apply Kept.via); focus with_reducible assumption))))
            obtain ⟨q_q0, q_q1⟩ := kwn2 B_q
            clear B_q
            refine wp_region_kept (by kernel_rfl) (by as_aux_lemma => kernel_rfl) ?_
            repeat (go_big_quiet_step (first | fail))
            refine wpQuiet_nil ?_
            intro wq hw'
            have kq : Kept wr wq := by obtain ⟨p, rfl⟩ := hw'; exact p.k
            clear hw'
            clear kall
            go_wp2
            go_roundw
            case rel => exact ⟨k + 1, by omega, by go_num, Kept.trans kz kq⟩
            case measure => simp [intOf]; omega
          · obtain rfl : k = ja + 1 := by omega
            go_wp2_with fail
            refine (of_use OC'.out NB.out SB.out hnb H0.out _ (RB.out.kept (Kept.trans kz (by (repeat (first | with_reducible exact Kept.refl _ | with_reducible apply Kept.drew | with_reducible apply Kept.alloc | ((with_reducible apply Kept.set); focus (simp <;> omega)) | ((with_reducible apply Kept.via); focus with_reducible assumption))))))).mono ?_
            rintro e w50 ⟨rfl, k50⟩
            go_wp2_with fail
            refine (refLeast8_ok _ _ _ ALL _ _ _ _ NX.out (by omega) (by rw [← NX.out]; exact LT.out) _ (RX.out.kept (Kept.trans kz (by (repeat (first | with_reducible exact Kept.refl _ | with_reducible apply Kept.drew | with_reducible apply Kept.alloc | ((with_reducible apply Kept.set); focus (simp <;> omega)) | ((with_reducible apply Kept.via); focus with_reducible assumption))))))).mono ?_
            rintro e w51 ⟨rfl, k51⟩
            go_wp2
            go_ret
            exact ⟨rfl, Kept.trans (Kept.trans (Kept.trans kw kz) k50) k51⟩
theorem leastAlone_walk (CC : LCheckC) (PC : LPutC) (OC : LOfC) (SC : LSinceC) (A2 : Option Addr) (cap2 : Nat) (ps : List (Int × Int)) (w : World) (hs2 : SliceOk A2 ps.length cap2) (hi2 : ∀ m ∈ ps, In64 m.1 ∧ In64 m.2) (hr2 : RowM w A2 ps) : Calls Try.prog 7 #[.slice A2 ps.length cap2] w fun e w' => e = .returned (.bool true) ∧ Kept w w' := by
  by_cases h2 : ps.length ≤ 100
  · exact alone8_short CC PC OC SC A2 ps.length cap2 ps h2 rfl hi2 w hr2
  · exact alone8_long CC PC OC SC A2 ps.length cap2 (by omega) (by have := hs2.1; have := hs2.2.1; omega) w
end Go.Proofs.Ytpbchcpbjflnoaa
