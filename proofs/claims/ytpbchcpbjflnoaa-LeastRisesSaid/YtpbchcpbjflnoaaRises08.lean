/-
  The walk of LeastRises: it answers true, if the calls do what they are to do.
-/
import Derived.Test.YtpbchcpbjflnoaaAwake08
import Derived.Test.YtpbchcpbjflnoaaPut08
import Derived.Deep.DeepCutAuto
namespace Go.Proofs.Ytpbchcpbjflnoaa
open Go.RowKit Go.BigFrame
set_option linter.unusedVariables false

set_option maxRecDepth 100000 in
set_option maxHeartbeats 1600000 in
theorem rises8_long (CC : LCheckC) (PC : LPutC) (OC : LOfC) (SC : LSinceC) (A : Option Addr) (len cap : Nat) (window at_ n : Int)  (hl : 100 < len) (hm : len ≤ 9223372036854775807) (w : World) : Calls Try.prog 6 #[.slice A len cap, .int .i64 window, .int .i64 at_, .int .i64 n] w fun e w' => e = .returned (.bool true) ∧ Kept w w' := by
  have CC' := Lib.hid CC
  have PC' := Lib.hid PC
  have OC' := Lib.hid OC
  have SC' := Lib.hid SC
  have AW' := Lib.hid (fun w => awake08 CC PC OC SC w)
  clear CC PC OC SC
  have hd2 : decide ((100 : Int) < (len : Int)) = true := by simp; omega
  go_enter Try.func6, Try.ntmps6
  go_wp2_with fail
  refine (AW'.out _).mono ?_
  rintro e w1 ⟨rfl, k1⟩
  go_wp2
  go_ret
  exact ⟨rfl, k1⟩
set_option maxRecDepth 100000 in
set_option maxHeartbeats 6400000 in
theorem rises8_err (CC : LCheckC) (PC : LPutC) (OC : LOfC) (SC : LSinceC) (A : Option Addr) (len cap : Nat) (window at_ n : Int)  (l L' : List (Int × Int)) (n2 : Nat) (er : Int) (he : ¬ er = 0) (hp : PutIs l window at_ n L' er) (hll : L' = l) (hl : len ≤ 100) (hn : l.length = len) (hn2 : L'.length = n2) (hs : SliceOk A len cap) (hi : ∀ m ∈ l, In64 m.1 ∧ In64 m.2) (hw : In64 window) (ha : In64 at_) (h0 : In64 n) (w : World) (hr : RowM w A l) : Calls Try.prog 6 #[.slice A len cap, .int .i64 window, .int .i64 at_, .int .i64 n] w fun e w' => e = .returned (.bool true) ∧ Kept w w' := by
  have hd2 : decide ((100 : Int) < (len : Int)) = false := by simp; omega
  have HR := Lib.hid hr
  have HI := Lib.hid hi
  have LN := Lib.hid hn
  have LN2 := Lib.hid hn2
  have HS := Lib.hid hs
  have HW := Lib.hid hw
  have IT := Lib.hid ha
  have IM := Lib.hid h0
  have HP := Lib.hid hp
  have hnn : len ≤ 1099511627776 := by omega
  have hq : n2 ≤ len + 1 := by have := put_len hp; omega
  clear hr hi hn hn2 hs hw ha h0 hp
  have de : (er == 0) = false := by simp; omega
  have HL := Lib.hid hll
  clear hll he
  have CC' := Lib.hid CC
  have PC' := Lib.hid PC
  have OC' := Lib.hid OC
  have SC' := Lib.hid SC
  have AW' := Lib.hid (fun w => awake08 CC PC OC SC w)
  clear CC PC OC SC
  go_enter Try.func6, Try.ntmps6
  go_wp2_with fail
  refine (AW'.out _).mono ?_
  rintro e w1 ⟨rfl, k1⟩
  go_wp2_with fail
  refine (put_use PC'.out LN.out LN2.out HS.out hnn HI.out HW.out IT.out IM.out HP.out _ (HR.out.kept (by (repeat (first | with_reducible exact Kept.refl _ | with_reducible apply Kept.drew | with_reducible apply Kept.alloc | ((with_reducible apply Kept.set); focus (simp <;> omega)) | ((with_reducible apply Kept.via); focus with_reducible assumption)))))).mono ?_
  rintro e w2 ⟨B, c, rfl, sb, rb, k2⟩
  have SB := Lib.hid sb
  have RB := Lib.hid rb.1
  clear sb rb
  have hb : n2 = len := by have := LN.out; have := LN2.out; rw [HL.out] at this; omega
  subst hb
  go_wp2_with fail
  refine (refSame8_ok _ _ _ _ _ l LN.out hnn _ (by have := RB.out; rw [HL.out] at this; exact this.kept (by (repeat (first | with_reducible exact Kept.refl _ | with_reducible apply Kept.drew | with_reducible apply Kept.alloc | ((with_reducible apply Kept.set); focus (simp <;> omega)) | ((with_reducible apply Kept.via); focus with_reducible assumption))))) (HR.out.kept (by (repeat (first | with_reducible exact Kept.refl _ | with_reducible apply Kept.drew | with_reducible apply Kept.alloc | ((with_reducible apply Kept.set); focus (simp <;> omega)) | ((with_reducible apply Kept.via); focus with_reducible assumption)))))).mono ?_
  rintro e w3 ⟨rfl, k3⟩
  go_wp2
  go_ret
  exact ⟨rfl, (by (repeat (first | with_reducible exact Kept.refl _ | with_reducible apply Kept.drew | with_reducible apply Kept.alloc | ((with_reducible apply Kept.set); focus (simp <;> omega)) | ((with_reducible apply Kept.via); focus with_reducible assumption))))⟩
set_option maxRecDepth 100000 in
set_option maxHeartbeats 6400000 in
theorem rises8_ok (CC : LCheckC) (PC : LPutC) (OC : LOfC) (SC : LSinceC) (A : Option Addr) (len cap : Nat) (window at_ n : Int)  (l L' : List (Int × Int)) (n2 : Nat) (from_ : Int) (j0 : Nat) (hp : PutIs l window at_ n L' 0) (hml : MayL l) (hll : L' = (keptL l from_ n) ++ [(at_, n)]) (hj0 : (keptL l from_ n).length = j0) (hl : len ≤ 100) (hn : l.length = len) (hn2 : L'.length = n2) (hs : SliceOk A len cap) (hi : ∀ m ∈ l, In64 m.1 ∧ In64 m.2) (hw : In64 window) (ha : In64 at_) (h0 : In64 n) (w : World) (hr : RowM w A l) : Calls Try.prog 6 #[.slice A len cap, .int .i64 window, .int .i64 at_, .int .i64 n] w fun e w' => e = .returned (.bool true) ∧ Kept w w' := by
  have hd2 : decide ((100 : Int) < (len : Int)) = false := by simp; omega
  have HR := Lib.hid hr
  have HI := Lib.hid hi
  have LN := Lib.hid hn
  have LN2 := Lib.hid hn2
  have HS := Lib.hid hs
  have HW := Lib.hid hw
  have IT := Lib.hid ha
  have IM := Lib.hid h0
  have HP := Lib.hid hp
  have hnn : len ≤ 1099511627776 := by omega
  have hq : n2 ≤ len + 1 := by have := put_len hp; omega
  clear hr hi hn hn2 hs hw ha h0 hp
  have HL := Lib.hid hll
  have HJ := Lib.hid hj0
  have HM := Lib.hid (put_may HP.out hml)
  obtain rfl : n2 = j0 + 1 := by have := LN2.out; rw [HL.out] at this; simp at this; have := HJ.out; omega
  clear hll hj0 hml
  have CC' := Lib.hid CC
  have PC' := Lib.hid PC
  have OC' := Lib.hid OC
  have SC' := Lib.hid SC
  have AW' := Lib.hid (fun w => awake08 CC PC OC SC w)
  clear CC PC OC SC
  go_enter Try.func6, Try.ntmps6
  go_wp2_with fail
  refine (AW'.out _).mono ?_
  rintro e w1 ⟨rfl, k1⟩
  go_wp2_with fail
  refine (put_use PC'.out LN.out LN2.out HS.out hnn HI.out HW.out IT.out IM.out HP.out _ (HR.out.kept (by (repeat (first | with_reducible exact Kept.refl _ | with_reducible apply Kept.drew | with_reducible apply Kept.alloc | ((with_reducible apply Kept.set); focus (simp <;> omega)) | ((with_reducible apply Kept.via); focus with_reducible assumption)))))).mono ?_
  rintro e w2 ⟨B, c, rfl, sb, rb, k2⟩
  have SB := Lib.hid sb
  have RB := Lib.hid rb.1
  clear sb rb
  obtain ⟨bb, off, rfl, hc⟩ := RB.out (by have := LN2.out; omega)
  obtain ⟨e1, e2⟩ := hc j0 (by have := LN2.out; omega)
  rw [show mk L' j0 = (at_, n) from by rw [HL.out, ← HJ.out]; exact mk_app_at] at e1 e2
  have e1' : w2.cell? ⟨bb, off + j0 * 2, none⟩ = some (.int .i64 at_) := e1
  have e2' : w2.cell? ⟨bb, off + j0 * 2 + 1, none⟩ = some (.int .i64 n) := e2
  have CK_ := Lib.hid (show ∀ i, i < j0 → w2.cell? ⟨bb, off + i * 2, none⟩ = some (.int .i64 (mk (keptL l from_ n) i).1) ∧ w2.cell? ⟨bb, off + i * 2 + 1, none⟩ = some (.int .i64 (mk (keptL l from_ n) i).2) from fun i hi => by
    have := hc i (by have := LN2.out; omega)
    rwa [HL.out, mk_app_lt (by have := HJ.out; omega)] at this)
  have g0 : (0 : Int) ≤ (j0 : Int) := by omega
  have g1 : (j0 : Int) < (j0 : Int) + 1 := by omega
  have dj : ((j0 : Int) + 1 == 0) = false := by simp; omega
  clear hc e1 e2
  go_upto_region 10 with fail
  generalize hW : World.alloc w2 (.cells #[.int .i64 at_, .int .i64 n] 28) = W3
  have K3 : Kept w2 W3 := by subst hW; exact (Kept.refl _).alloc _ _
  have HQ := Lib.hid (show W3.cell? ⟨w2.heap.size, 0, none⟩ = some (.int .i64 at_) ∧ W3.cell? ⟨w2.heap.size, 1, none⟩ = some (.int .i64 n) from by subst hW; simp [go_sem])
  clear hW e1' e2'
  generalize w2.heap.size = gq at *
  have KA3 := Lib.hid (show Kept w W3 from Kept.trans (Kept.trans k1 k2) K3)
  have RB3 := Lib.hid (RB.out.kept K3)
  go_wp2
  go_loopw [13, 14] (fun jv iv wr => ∃ (i j : Nat), i ≤ j0 ∧ jv = .int .i64 j ∧ iv = .int .i64 i ∧ keptL (l.drop j) from_ n = (keptL l from_ n).drop i ∧ Kept W3 wr) (fun _ iv _ => j0 - (intOf iv).toNat)
  case atStart => exact ⟨0, 0, Nat.zero_le _, rfl, rfl, rfl, Kept.refl _⟩
  case round =>
    obtain ⟨i, j, hi0, rfl, rfl, sk, kw⟩ := hrel
    have SK := Lib.hid sk
    clear sk
    by_cases hlt : i < j0
    · have hltI : (i : Int) < (j0 : Int) := by omega
      obtain ⟨wo, hwo⟩ : ∃ x, x = wr := ⟨_, rfl⟩
      subst hwo
      go_wp2
      go_loopw [13] (fun jv wz => ∃ j : Nat, jv = .int .i64 j ∧ keptL (l.drop j) from_ n = (keptL l from_ n).drop i ∧ Kept W3 wz) (fun jv _ => len - (intOf jv).toNat)
      case atStart => exact ⟨j, rfl, SK.out, kw⟩
      case round =>
        clear SK kw
        obtain ⟨j, rfl, sk, kz⟩ := hrel
        have SK := Lib.hid sk
        have hjl := seek_more sk (by have := HJ.out; omega)
        have hj2 : j < len := by have := LN.out; omega
        have hjI : (j : Int) < (len : Int) := by omega
        clear sk
        obtain ⟨ba, offa, rfl, hca⟩ := (HR.out.kept (Kept.trans KA3.out kz)) (by omega)
        obtain ⟨x1, x2⟩ := hca j hjl
        obtain ⟨z1, z2⟩ := CK_.out i hlt
        have hqn := (keptL_mem.1 (mk_mem (show i < (keptL l from_ n).length by have := HJ.out; omega))).2.1
        obtain ⟨p, ep⟩ : ∃ p, (mk l j).1 = p := ⟨_, rfl⟩
        obtain ⟨q, eq⟩ : ∃ q, (mk l j).2 = q := ⟨_, rfl⟩
        obtain ⟨p2, ep2⟩ : ∃ p, (mk (keptL l from_ n) i).1 = p := ⟨_, rfl⟩
        obtain ⟨q2, eq2⟩ : ∃ q, (mk (keptL l from_ n) i).2 = q := ⟨_, rfl⟩
        rw [ep] at x1
        rw [eq] at x2
        rw [ep2] at z1
        rw [eq2] at z2 hqn
        have E4 := Lib.hid (And.intro ep (And.intro eq (And.intro ep2 eq2)))
        have H_q := Lib.hid (And.intro x1 (And.intro x2 (And.intro ((K3.trans kz).read z1) ((K3.trans kz).read z2))))
        clear hca x1 x2 z1 z2 ep eq ep2 eq2
        by_cases h1 : p = p2
        · by_cases h2 : q = q2
          · subst h1 h2
            have NX := Lib.hid (seek_yes SK.out (by have := HJ.out; omega) hjl (Prod.ext (by rw [E4.out.1, E4.out.2.2.1]) (by rw [E4.out.2.1, E4.out.2.2.2])))
            have djl : ((j : Int) == (len : Int)) = false := by simp; omega
            have dqn : decide (n ≤ q) = false := by simp; omega
            go_upto_region 14 with fail
            have H_q1 := H_q
            have B_q := Lib.hid (Kept.alln4 (show Kept wr wr from (by (repeat (first | with_reducible exact Kept.refl _ | with_reducible apply Kept.drew | with_reducible apply Kept.alloc | ((with_reducible apply Kept.set); focus (simp <;> omega)) | ((with_reducible apply Kept.via); focus with_reducible assumption))))) H_q)
            have kall : Kept w wr := (by (repeat (first | with_reducible exact Kept.refl _ | with_reducible apply Kept.drew | with_reducible apply Kept.alloc | ((with_reducible apply Kept.set); focus (simp <;> omega)) | ((with_reducible apply Kept.via); focus with_reducible assumption))))
            obtain ⟨q_q0, q_q1, q_q2, q_q3⟩ := kwn4 B_q
            clear B_q
            refine wp_region_kept (by kernel_rfl) (by as_aux_lemma => kernel_rfl) ?_
            repeat (go_big_quiet_step (first | fail))
            refine wpQuiet_nil ?_
            intro wq hw'
            have kq : Kept wr wq := by obtain ⟨p, rfl⟩ := hw'; exact p.k
            clear hw'
            clear kall
            have kzq := Kept.trans kz kq
            have z2 := (Kept.read kq (H_q1.out.2.2.2))
            go_wp2
            go_roundw
            case rel => exact ⟨i + 1, j + 1, by omega, by go_num, by go_num, NX.out, kzq⟩
            case measure => simp [intOf]; omega
          · have hne : ¬ q = q2 := h2
            have db : (q == q2) = false := by simp [h2]
            have NX := Lib.hid (seek_no SK.out (by have := HJ.out; omega) hjl (fun e => by have e1 := congrArg Prod.fst e; have e2 := congrArg Prod.snd e; rw [E4.out.1, E4.out.2.2.1] at e1; rw [E4.out.2.1, E4.out.2.2.2] at e2; first | exact hne e1 | exact hne e2))
            go_upto_region 14 with fail
            have B_q := Lib.hid (Kept.alln4 (show Kept wr wr from (by (repeat (first | with_reducible exact Kept.refl _ | with_reducible apply Kept.drew | with_reducible apply Kept.alloc | ((with_reducible apply Kept.set); focus (simp <;> omega)) | ((with_reducible apply Kept.via); focus with_reducible assumption))))) H_q)
            have kall : Kept w wr := (by (repeat (first | with_reducible exact Kept.refl _ | with_reducible apply Kept.drew | with_reducible apply Kept.alloc | ((with_reducible apply Kept.set); focus (simp <;> omega)) | ((with_reducible apply Kept.via); focus with_reducible assumption))))
            obtain ⟨q_q0, q_q1, q_q2, q_q3⟩ := kwn4 B_q
            clear B_q
            refine wp_region_kept (by kernel_rfl) (by as_aux_lemma => kernel_rfl) ?_
            repeat (go_big_quiet_step (first | fail))
            refine wpQuiet_nil ?_
            intro wq hw'
            have kq : Kept wr wq := by obtain ⟨p, rfl⟩ := hw'; exact p.k
            clear hw'
            clear kall
            go_wp2
            go_roundw
            case rel => exact ⟨j + 1, by go_num, NX.out, Kept.trans kz kq⟩
            case measure => simp [intOf]; omega
        · have hne : ¬ p = p2 := h1
          have db : (p == p2) = false := by simp [h1]
          have NX := Lib.hid (seek_no SK.out (by have := HJ.out; omega) hjl (fun e => by have e1 := congrArg Prod.fst e; have e2 := congrArg Prod.snd e; rw [E4.out.1, E4.out.2.2.1] at e1; rw [E4.out.2.1, E4.out.2.2.2] at e2; first | exact hne e1 | exact hne e2))
          go_upto_region 14 with fail
          have B_q := Lib.hid (Kept.alln4 (show Kept wr wr from (by (repeat (first | with_reducible exact Kept.refl _ | with_reducible apply Kept.drew | with_reducible apply Kept.alloc | ((with_reducible apply Kept.set); focus (simp <;> omega)) | ((with_reducible apply Kept.via); focus with_reducible assumption))))) H_q)
          have kall : Kept w wr := (by (repeat (first | with_reducible exact Kept.refl _ | with_reducible apply Kept.drew | with_reducible apply Kept.alloc | ((with_reducible apply Kept.set); focus (simp <;> omega)) | ((with_reducible apply Kept.via); focus with_reducible assumption))))
          obtain ⟨q_q0, q_q1, q_q2, q_q3⟩ := kwn4 B_q
          clear B_q
          refine wp_region_kept (by kernel_rfl) (by as_aux_lemma => kernel_rfl) ?_
          repeat (go_big_quiet_step (first | fail))
          refine wpQuiet_nil ?_
          intro wq hw'
          have kq : Kept wr wq := by obtain ⟨p, rfl⟩ := hw'; exact p.k
          clear hw'
          clear kall
          go_wp2
          go_roundw
          case rel => exact ⟨j + 1, by go_num, NX.out, Kept.trans kz kq⟩
          case measure => simp [intOf]; omega
    · obtain rfl : i = j0 := by omega
      have dle : decide (i ≤ len) = true := by simp; omega
      have RBw := Lib.hid (RB3.out.kept kw)
      have q0 := kw.read HQ.out.1
      have q1 := kw.read HQ.out.2
      go_wp2_with fail
      refine (check_use (v := true) CC'.out LN2.out SB.out (by omega) (by simp [HM.out]) _ (RBw.out.kept (by (repeat (first | with_reducible exact Kept.refl _ | with_reducible apply Kept.drew | with_reducible apply Kept.alloc | ((with_reducible apply Kept.set); focus (simp <;> omega)) | ((with_reducible apply Kept.via); focus with_reducible assumption)))))).mono ?_
      rintro e w70 ⟨rfl, k70⟩
      go_wp2
      go_ret
      exact ⟨rfl, Kept.trans KA3.out (Kept.trans kw k70)⟩
theorem leastRises_walk (CC : LCheckC) (PC : LPutC) (OC : LOfC) (SC : LSinceC) (A : Option Addr) (cap : Nat) (l : List (Int × Int)) (window at_ n : Int) (w : World) (hs : SliceOk A l.length cap) (hi : ∀ m ∈ l, In64 m.1 ∧ In64 m.2) (hw : In64 window) (ha : In64 at_) (h0 : In64 n) (hr : RowM w A l) : Calls Try.prog 6 #[.slice A l.length cap, .int .i64 window, .int .i64 at_, .int .i64 n] w fun e w' => e = .returned (.bool true) ∧ Kept w w' := by
  by_cases hl : l.length ≤ 100
  · obtain ⟨l', er, hp⟩ := put_ex l window at_ n
    have hp' := hp
    rcases hp with ⟨_, hl2, he⟩ | ⟨_, _, _, _, _, hl2, he⟩ | ⟨hm, _, _, _, hl2, he⟩
    · exact rises8_err CC PC OC SC A l.length cap window at_ n l l' _ er (by omega) hp' hl2 hl rfl rfl hs hi hw ha h0 w hr
    · exact rises8_err CC PC OC SC A l.length cap window at_ n l l' _ er (by omega) hp' hl2 hl rfl rfl hs hi hw ha h0 w hr
    · subst he
      exact rises8_ok CC PC OC SC A l.length cap window at_ n l l' _ (at_ - window) _ hp' hm hl2 rfl hl rfl rfl hs hi hw ha h0 w hr
  · exact rises8_long CC PC OC SC A l.length cap window at_ n (by omega) (by have := hs.1; have := hs.2.1; omega) w
end Go.Proofs.Ytpbchcpbjflnoaa
