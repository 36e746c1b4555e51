/-
  The walk of LeastTells: it answers true, if the calls do what they are to do.
-/
import Derived.Test.YtpbchcpbjflnoaaAwake08
import Derived.Test.YtpbchcpbjflnoaaPut08
import Derived.Deep.RegionHeld3
import Derived.Deep.DeepCutAuto
namespace Go.Proofs.Ytpbchcpbjflnoaa
open Go.RowKit Go.BigFrame
set_option linter.unusedVariables false

set_option maxRecDepth 100000 in
set_option maxHeartbeats 1600000 in
theorem tells8_long1 (CC : LCheckC) (PC : LPutC) (OC : LOfC) (SC : LSinceC) (A : Option Addr) (len cap : Nat) (A2 : Option Addr) (len2 cap2 : Nat) (window at_ : Int)  (hl : 100 < len) (hm : len ≤ 9223372036854775807) (w : World) : Calls Try.prog 3 #[.slice A len cap, .int .i64 window, .slice A2 len2 cap2, .int .i64 at_] w fun e w' => e = .returned (.bool true) ∧ Kept w w' := by
  have CC' := Lib.hid CC
  have PC' := Lib.hid PC
  have OC' := Lib.hid OC
  have SC' := Lib.hid SC
  have AW' := Lib.hid (fun w => awake08 CC PC OC SC w)
  clear CC PC OC SC
  have hd : decide ((100 : Int) < (len : Int)) = true := by simp; omega
  go_enter Try.func3, Try.ntmps3
  go_wp2_with fail
  refine (AW'.out _).mono ?_
  rintro e w1 ⟨rfl, k1⟩
  go_wp2
  go_ret
  exact ⟨rfl, k1⟩
set_option maxRecDepth 100000 in
set_option maxHeartbeats 1600000 in
theorem tells8_long2 (CC : LCheckC) (PC : LPutC) (OC : LOfC) (SC : LSinceC) (A : Option Addr) (len cap : Nat) (A2 : Option Addr) (len2 cap2 : Nat) (window at_ : Int)  (hl : len ≤ 100) (hl2 : 100 < len2) (hm : len2 ≤ 9223372036854775807) (w : World) : Calls Try.prog 3 #[.slice A len cap, .int .i64 window, .slice A2 len2 cap2, .int .i64 at_] w fun e w' => e = .returned (.bool true) ∧ Kept w w' := by
  have CC' := Lib.hid CC
  have PC' := Lib.hid PC
  have OC' := Lib.hid OC
  have SC' := Lib.hid SC
  have AW' := Lib.hid (fun w => awake08 CC PC OC SC w)
  clear CC PC OC SC
  have hd : decide ((100 : Int) < (len : Int)) = false := by simp; omega
  have hd2 : decide ((100 : Int) < (len2 : Int)) = true := by simp; omega
  go_enter Try.func3, Try.ntmps3
  go_wp2_with fail
  refine (AW'.out _).mono ?_
  rintro e w1 ⟨rfl, k1⟩
  go_wp2
  go_ret
  exact ⟨rfl, k1⟩
theorem refPut8_use {A : Option Addr} {len cap : Nat} {l : List (Int × Int)} {len2 : Nat} {window at_ n er : Int} {l' : List (Int × Int)} (hn : l.length = len) (hn2 : l'.length = len2) (hs : SliceOk A len cap) (hl : len ≤ 1099511627776) (hw : In64 window) (ha : In64 at_) (h : PutIs l window at_ n l' er) (w : World) (hr : RowM w A l) :
    Calls Try.prog 11 #[.slice A len cap, .int .i64 window, .int .i64 at_, .int .i64 n] w fun e w' => ∃ (B : Option Addr) (c : Nat), e = .returned (.tuple #[.slice B len2 c, .int .i64 er]) ∧ SliceOk B len2 c ∧ RowN w w' A B l' ∧ Kept w w' := by
  subst hn hn2; exact refPut8_ok A cap l window at_ n l' er hs hl hw ha h w hr
set_option maxRecDepth 100000 in
set_option maxHeartbeats 6400000 in
theorem tells8_short (CC : LCheckC) (PC : LPutC) (OC : LOfC) (SC : LSinceC) (A : Option Addr) (len cap : Nat) (A2 : Option Addr) (len2 cap2 : Nat) (window at_ : Int)  (l ps : List (Int × Int)) (hl : len ≤ 100) (hl2 : len2 ≤ 100) (hn : l.length = len) (hn2 : ps.length = len2) (hs : SliceOk A len cap) (hi : ∀ m ∈ l, In64 m.1 ∧ In64 m.2) (hi2 : ∀ m ∈ ps, In64 m.1 ∧ In64 m.2) (hw : In64 window) (ha : In64 at_) (w : World) (hr : RowM w A l) (hr2 : RowM w A2 ps) : Calls Try.prog 3 #[.slice A len cap, .int .i64 window, .slice A2 len2 cap2, .int .i64 at_] w fun e w' => e = .returned (.bool true) ∧ Kept w w' := by
  have hd : decide ((100 : Int) < (len : Int)) = false := by simp; omega
  have hd2 : decide ((100 : Int) < (len2 : Int)) = false := by simp; omega
  have HR := Lib.hid hr
  have HR2 := Lib.hid hr2
  have HI := Lib.hid hi
  have HI2 := Lib.hid hi2
  have HN := Lib.hid hn
  have HN2 := Lib.hid hn2
  have HS := Lib.hid hs
  have HW := Lib.hid hw
  have HA := Lib.hid ha
  clear hr hr2 hi hi2 hn hn2 hs hw ha
  have CC' := Lib.hid CC
  have PC' := Lib.hid PC
  have OC' := Lib.hid OC
  have SC' := Lib.hid SC
  have AW' := Lib.hid (fun w => awake08 CC PC OC SC w)
  clear CC PC OC SC
  go_enter Try.func3, Try.ntmps3
  go_wp2_with fail
  refine (AW'.out _).mono ?_
  rintro e w1 ⟨rfl, k1⟩
  go_wp2
  go_loopw [10, 11, 12] (fun x y i wr => ∃ (k : Nat) (L : List (Int × Int)) (n : Nat) (B1 : Option Addr) (c1 : Nat) (B2 : Option Addr) (c2 : Nat), k ≤ len2 ∧ x = .slice B1 n c1 ∧ y = .slice B2 n c2 ∧ i = .int .i64 k ∧ L.length = n ∧ n ≤ 100 + k ∧ SliceOk B1 n c1 ∧ SliceOk B2 n c2 ∧ (∀ m ∈ L, In64 m.1 ∧ In64 m.2) ∧ RowM wr B1 L ∧ RowM wr B2 L ∧ Kept w wr) (fun _ _ i _ => len2 - (intOf i).toNat)
  case atStart => exact ⟨0, l, len, A, cap, A, cap, Nat.zero_le _, rfl, rfl, rfl, HN.out, by omega, HS.out, HS.out, HI.out, HR.out.kept k1, HR.out.kept k1, k1⟩
  case round =>
    clear hd hd2
    obtain ⟨k, L, n, B1, c1, B2, c2, hk, rfl, rfl, rfl, hLn, hnk, s1, s2, hiL, r1, r2, kw⟩ := hrel
    have LN := Lib.hid hLn
    have S1 := Lib.hid s1
    have S2 := Lib.hid s2
    have HL := Lib.hid hiL
    have R1 := Lib.hid r1
    have R2 := Lib.hid r2
    clear hLn s1 s2 hiL r1 r2
    by_cases hlt : k < len2
    · have hltI : (k : Int) < (len2 : Int) := by omega
      obtain ⟨bb, off, rfl, hc⟩ := (HR2.out.kept kw) (by have := HN2.out; omega)
      obtain ⟨d1, d2⟩ := hc k (by have := HN2.out; omega)
      have hin := HI2.out _ (mk_mem (show k < ps.length by have := HN2.out; omega))
      generalize (mk ps k).1 = t at *
      generalize (mk ps k).2 = m at *
      obtain ⟨L', er, hp⟩ := put_ex L window t m
      have HP := Lib.hid hp
      have IT := Lib.hid hin.1
      have IM := Lib.hid hin.2
      obtain ⟨n2, hn2⟩ : ∃ n2, L'.length = n2 := ⟨_, rfl⟩
      have LN2 := Lib.hid hn2
      have hnk2 : n2 ≤ 100 + (k + 1) := by have := put_len hp; have := LN.out; omega
      have hnn : n ≤ 1099511627776 := by omega
      have D := Lib.hid (And.intro d1 d2)
      clear hc hin hp hn2 d1 d2
      go_upto_region 9 with fail
      have base_a := Lib.hid (show wr.cell? ⟨bb, off + k * 2, none⟩ = some (.int .i64 t) ∧ wr.cell? ⟨bb, off + k * 2 + 1, none⟩ = some (.int .i64 m) from D.out)
      go_cut [13, 14] (fun s13 s14 wx => ∃ (B : Option Addr) (c : Nat), s13 = .slice B n2 c ∧ s14 = .int .i64 er ∧ SliceOk B n2 c ∧ RowN wr wx B1 B L' ∧ Kept wr wx)
      case first =>
        go_region_held3 (fun w' => w'.cell? ⟨bb, off + k * 2, none⟩ = some (.int .i64 t) ∧ w'.cell? ⟨bb, off + k * 2 + 1, none⟩ = some (.int .i64 m))
          ((refine Kept.alln2 ?_ base_a; focus ((repeat (first | with_reducible exact Kept.refl _ | with_reducible apply Kept.drew | with_reducible apply Kept.alloc | ((with_reducible apply Kept.set); focus (simp <;> omega)) | ((with_reducible apply Kept.via); focus with_reducible assumption))); done)))
          (first | (go_at_call 10; refine (put_use PC'.out LN.out LN2.out S1.out hnn HL.out HW.out IT.out IM.out HP.out _ (R1.out.kept (by (repeat (first | with_reducible exact Kept.refl _ | with_reducible apply Kept.drew | with_reducible apply Kept.alloc | ((with_reducible apply Kept.set); focus (simp <;> omega)) | ((with_reducible apply Kept.via); focus with_reducible assumption)))))).mono ?_; rintro e v1 ⟨B_a, c_a, rfl, sk, rn, i1⟩))
        all_goals
          go_wp2_with fail
          go_meet
          exact ⟨_, _, rfl, rfl, sk, rn, (by (repeat (first | with_reducible exact Kept.refl _ | with_reducible apply Kept.drew | with_reducible apply Kept.alloc | ((with_reducible apply Kept.set); focus (simp <;> omega)) | ((with_reducible apply Kept.via); focus with_reducible assumption))))⟩
      obtain ⟨B_a, c_a, rfl, rfl, sk, rn, K_a⟩ := hcut
      generalize wc = W_a at *
      have S_a := Lib.hid sk
      have R_a := Lib.hid rn
      clear sk rn base_a
      have D2 := Lib.hid (Kept.alln2 K_a D)
      have R2a := Lib.hid (R2.out.kept K_a)
      go_upto_region 10 with fail
      have base_b := Lib.hid (show W_a.cell? ⟨bb, off + k * 2, none⟩ = some (.int .i64 t) ∧ W_a.cell? ⟨bb, off + k * 2 + 1, none⟩ = some (.int .i64 m) from D2.out)
      go_cut [15, 16] (fun s15 s16 wx => ∃ (B : Option Addr) (c : Nat), s15 = .slice B n2 c ∧ s16 = .int .i64 er ∧ SliceOk B n2 c ∧ RowN W_a wx B2 B L' ∧ Kept W_a wx)
      case first =>
        go_region_held3 (fun w' => w'.cell? ⟨bb, off + k * 2, none⟩ = some (.int .i64 t) ∧ w'.cell? ⟨bb, off + k * 2 + 1, none⟩ = some (.int .i64 m))
          ((refine Kept.alln2 ?_ base_b; focus ((repeat (first | with_reducible exact Kept.refl _ | with_reducible apply Kept.drew | with_reducible apply Kept.alloc | ((with_reducible apply Kept.set); focus (simp <;> omega)) | ((with_reducible apply Kept.via); focus with_reducible assumption))); done)))
          (first | (go_at_call 11; refine (refPut8_use LN.out LN2.out S2.out hnn HW.out IT.out HP.out _ (R2a.out.kept (by (repeat (first | with_reducible exact Kept.refl _ | with_reducible apply Kept.drew | with_reducible apply Kept.alloc | ((with_reducible apply Kept.set); focus (simp <;> omega)) | ((with_reducible apply Kept.via); focus with_reducible assumption)))))).mono ?_; rintro e v1 ⟨B_b, c_b, rfl, sk, rn, i1⟩))
        all_goals
          go_wp2_with fail
          go_meet
          exact ⟨_, _, rfl, rfl, sk, rn, (by (repeat (first | with_reducible exact Kept.refl _ | with_reducible apply Kept.drew | with_reducible apply Kept.alloc | ((with_reducible apply Kept.set); focus (simp <;> omega)) | ((with_reducible apply Kept.via); focus with_reducible assumption))))⟩
      obtain ⟨B_b, c_b, rfl, rfl, sk, rn, K_b⟩ := hcut
      generalize wc = W_b at *
      have S_b := Lib.hid sk
      have R_b := Lib.hid rn
      clear sk rn base_b
      have k2 := Kept.trans K_a K_b
      have kwn2 := Kept.trans kw k2
      have Ra := Lib.hid (R_a.out.row.kept K_b)
      have Rb := Lib.hid R_b.out.row
      clear D D2 R2a K_a K_b R_a R_b R1 R2 S1 S2 kw k2
      have hn3 : n2 ≤ 1099511627776 := by omega
      go_wp2_with fail
      refine (refSame8_ok B_a B_b n2 c_a c_b L' LN2.out hn3 _ (Ra.out.kept (by (repeat (first | with_reducible exact Kept.refl _ | with_reducible apply Kept.drew | with_reducible apply Kept.alloc | ((with_reducible apply Kept.set); focus (simp <;> omega)) | ((with_reducible apply Kept.via); focus with_reducible assumption))))) (Rb.out.kept (by (repeat (first | with_reducible exact Kept.refl _ | with_reducible apply Kept.drew | with_reducible apply Kept.alloc | ((with_reducible apply Kept.set); focus (simp <;> omega)) | ((with_reducible apply Kept.via); focus with_reducible assumption)))))).mono ?_
      rintro e w50 ⟨rfl, k50⟩
      go_wp2
      go_roundw
      case rel => exact ⟨k + 1, L', n2, B_a, c_a, B_b, c_b, by omega, rfl, rfl, by go_num, LN2.out, by omega, S_a.out, S_b.out, put_in64 HP.out HL.out IT.out IM.out, Ra.out.kept k50, Rb.out.kept k50, Kept.trans kwn2 k50⟩
      case measure => simp [intOf]; omega
    · have hnn : n ≤ 1099511627776 := by omega
      obtain ⟨a0, b0, h0⟩ := lof_ex L
      obtain ⟨p0, q0, h1⟩ := since_ex L window at_
      have H0 := Lib.hid h0
      have H1 := Lib.hid h1
      obtain ⟨v, hv⟩ : ∃ v : Bool, (v = true ↔ MayL L) := ⟨decide (MayL L), by simp⟩
      have HV := Lib.hid hv
      clear h0 h1 hv
      go_wp2_with fail
      refine (of_use OC'.out LN.out S1.out hnn H0.out _ (R1.out.kept (by (repeat (first | with_reducible exact Kept.refl _ | with_reducible apply Kept.drew | with_reducible apply Kept.alloc | ((with_reducible apply Kept.set); focus (simp <;> omega)) | ((with_reducible apply Kept.via); focus with_reducible assumption)))))).mono ?_
      rintro e w50 ⟨rfl, k50⟩
      go_wp2_with fail
      refine (refOf8_ok B2 n c2 L a0 b0 LN.out hnn H0.out _ (R2.out.kept (by (repeat (first | with_reducible exact Kept.refl _ | with_reducible apply Kept.drew | with_reducible apply Kept.alloc | ((with_reducible apply Kept.set); focus (simp <;> omega)) | ((with_reducible apply Kept.via); focus with_reducible assumption)))))).mono ?_
      rintro e w51 ⟨rfl, k51⟩
      go_wp2_with fail
      refine (since_use SC'.out LN.out S1.out hnn HL.out HW.out HA.out H1.out _ (R1.out.kept (by (repeat (first | with_reducible exact Kept.refl _ | with_reducible apply Kept.drew | with_reducible apply Kept.alloc | ((with_reducible apply Kept.set); focus (simp <;> omega)) | ((with_reducible apply Kept.via); focus with_reducible assumption)))))).mono ?_
      rintro e w52 ⟨rfl, k52⟩
      go_wp2_with fail
      refine (refSince8_ok B2 n c2 L window at_ p0 q0 LN.out hnn HA.out HW.out H1.out _ (R2.out.kept (by (repeat (first | with_reducible exact Kept.refl _ | with_reducible apply Kept.drew | with_reducible apply Kept.alloc | ((with_reducible apply Kept.set); focus (simp <;> omega)) | ((with_reducible apply Kept.via); focus with_reducible assumption)))))).mono ?_
      rintro e w53 ⟨rfl, k53⟩
      go_wp2_with fail
      refine (check_use CC'.out LN.out S1.out hnn HV.out _ (R1.out.kept (by (repeat (first | with_reducible exact Kept.refl _ | with_reducible apply Kept.drew | with_reducible apply Kept.alloc | ((with_reducible apply Kept.set); focus (simp <;> omega)) | ((with_reducible apply Kept.via); focus with_reducible assumption)))))).mono ?_
      rintro e w54 ⟨rfl, k54⟩
      go_wp2_with fail
      refine (refCheck8_ok B2 n c2 L v LN.out hnn HV.out _ (R2.out.kept (by (repeat (first | with_reducible exact Kept.refl _ | with_reducible apply Kept.drew | with_reducible apply Kept.alloc | ((with_reducible apply Kept.set); focus (simp <;> omega)) | ((with_reducible apply Kept.via); focus with_reducible assumption)))))).mono ?_
      rintro e w55 ⟨rfl, k55⟩
      go_wp2
      go_ret
      exact ⟨rfl, (by (repeat (first | with_reducible exact Kept.refl _ | with_reducible apply Kept.drew | with_reducible apply Kept.alloc | ((with_reducible apply Kept.set); focus (simp <;> omega)) | ((with_reducible apply Kept.via); focus with_reducible assumption))))⟩
theorem leastTells_walk (CC : LCheckC) (PC : LPutC) (OC : LOfC) (SC : LSinceC) (A : Option Addr) (cap : Nat) (l : List (Int × Int)) (A2 : Option Addr) (cap2 : Nat) (ps : List (Int × Int)) (window at_ : Int) (w : World) (hs : SliceOk A l.length cap) (hs2 : SliceOk A2 ps.length cap2) (hi : ∀ m ∈ l, In64 m.1 ∧ In64 m.2) (hi2 : ∀ m ∈ ps, In64 m.1 ∧ In64 m.2) (hw : In64 window) (ha : In64 at_) (hr : RowM w A l) (hr2 : RowM w A2 ps) : Calls Try.prog 3 #[.slice A l.length cap, .int .i64 window, .slice A2 ps.length cap2, .int .i64 at_] w fun e w' => e = .returned (.bool true) ∧ Kept w w' := by
  by_cases h1 : l.length ≤ 100
  · by_cases h2 : ps.length ≤ 100
    · exact tells8_short CC PC OC SC A l.length cap A2 ps.length cap2 window at_ l ps h1 h2 rfl rfl hs hi hi2 hw ha w hr hr2
    · exact tells8_long2 CC PC OC SC A l.length cap A2 ps.length cap2 window at_ h1 (by omega) (by have := hs2.1; have := hs2.2.1; omega) w
  · exact tells8_long1 CC PC OC SC A l.length cap A2 ps.length cap2 window at_ (by omega) (by have := hs.1; have := hs.2.1; omega) w
end Go.Proofs.Ytpbchcpbjflnoaa
