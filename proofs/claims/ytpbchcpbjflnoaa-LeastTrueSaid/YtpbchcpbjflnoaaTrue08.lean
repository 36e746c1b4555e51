/-
  The walk of LeastTrue: it answers true, if the calls do what they are to do.
-/
import Derived.Test.YtpbchcpbjflnoaaAwake08
import Derived.Test.YtpbchcpbjflnoaaPut08
import Derived.Deep.RegionHeld3
import Derived.Deep.DeepCutAuto
namespace Go.Proofs.Ytpbchcpbjflnoaa
open Go.RowKit Go.BigFrame
set_option linter.unusedVariables false

set_option maxRecDepth 100000 in
set_option maxHeartbeats 1600000 in
theorem true8_long (CC : LCheckC) (PC : LPutC) (OC : LOfC) (SC : LSinceC) (A2 : Option Addr) (len2 cap2 : Nat) (window : Int)  (hl2 : 100 < len2) (hm : len2 ≤ 9223372036854775807) (w : World) : Calls Try.prog 4 #[.int .u32 window, .slice A2 len2 cap2] w fun e w' => e = .returned (.bool true) ∧ Kept w w' := by
  have CC' := Lib.hid CC
  have PC' := Lib.hid PC
  have OC' := Lib.hid OC
  have SC' := Lib.hid SC
  have AW' := Lib.hid (fun w => awake08 CC PC OC SC w)
  clear CC PC OC SC
  have hd2 : decide ((100 : Int) < (len2 : Int)) = true := by simp; omega
  go_enter Try.func4, Try.ntmps4
  go_wp2_with fail
  refine (AW'.out _).mono ?_
  rintro e w1 ⟨rfl, k1⟩
  go_wp2
  go_ret
  exact ⟨rfl, k1⟩
set_option maxRecDepth 100000 in
set_option maxHeartbeats 6400000 in
theorem true8_short (CC : LCheckC) (PC : LPutC) (OC : LOfC) (SC : LSinceC) (A2 : Option Addr) (len2 cap2 : Nat) (window : Int)  (ps : List (Int × Int)) (hl2 : len2 ≤ 100) (hn2 : ps.length = len2) (hi2 : ∀ m ∈ ps, In64 m.1 ∧ In64 m.2) (w0 : 0 ≤ window) (w1 : window ≤ 4294967295) (w : World) (hr2 : RowM w A2 ps) : Calls Try.prog 4 #[.int .u32 window, .slice A2 len2 cap2] w fun e w' => e = .returned (.bool true) ∧ Kept w w' := by
  have hd2 : decide ((100 : Int) < (len2 : Int)) = false := by simp; omega
  have HR2 := Lib.hid hr2
  have HI2 := Lib.hid hi2
  have HN2 := Lib.hid hn2
  have HW := Lib.hid (show In64 window from by unfold In64; omega)
  have ww : IntKind.i64.wrap window = window := by rw [IntKind.wrap_i64]; omega
  clear hr2 hi2 hn2
  obtain ⟨i0, hi, hz0, hz1, hz2⟩ := info_parts infoMark
  obtain ⟨g0, hg⟩ : ∃ g0, w.heap.size = g0 := ⟨_, rfl⟩
  have CC' := Lib.hid CC
  have PC' := Lib.hid PC
  have OC' := Lib.hid OC
  have SC' := Lib.hid SC
  have AW' := Lib.hid (fun w => awake08 CC PC OC SC w)
  clear CC PC OC SC
  go_enter Try.func4, Try.ntmps4
  go_wp2_with fail
  refine (AW'.out _).mono ?_
  rintro e w1_ ⟨rfl, k1⟩
  go_wp2
  go_loopw [6, 7, 8] (fun lv av i wr => ∃ (k : Nat) (L ALL : List (Int × Int)) (n na : Nat) (B : Option Addr) (c : Nat) (BX : Option Addr) (cx : Nat), k ≤ len2 ∧ lv = .slice B n c ∧ av = .slice BX na cx ∧ i = .int .i64 k ∧ L.length = n ∧ ALL.length = na ∧ n ≤ k ∧ na ≤ k ∧ SliceOk B n c ∧ (∀ m ∈ L, In64 m.1 ∧ In64 m.2) ∧ RowM wr B L ∧ OffR wr (Value.ownBlock (.slice BX na cx)) B ∧ wr.ownsRow g0 28 2 (.slice BX na cx) na (flatM ALL) ∧ LInv L ALL window ∧ Kept w wr) (fun _ _ i _ => len2 - (intOf i).toNat)
  case atStart => exact ⟨0, [], [], 0, 0, none, 0, none, 0, Nat.zero_le _, rfl, rfl, rfl, rfl, rfl, Nat.le_refl _, Nat.le_refl _, ⟨Nat.le_refl _, Nat.zero_le _, fun _ => rfl⟩, by simp, rowM_nil _ _, offR_none _ _, World.ownsRow_nil _ _ _ _, Or.inl ⟨rfl, rfl⟩, k1⟩
  case round =>
    clear hd2
    obtain ⟨k, L, ALL, n, na, B, c, BX, cx, hk, rfl, rfl, rfl, hLn, hAn, hnk, hak, s1, hiL, r1, o1, own, li, kw⟩ := hrel
    have LN := Lib.hid hLn
    have AN := Lib.hid hAn
    have S1 := Lib.hid s1
    have HL := Lib.hid hiL
    have R1 := Lib.hid r1
    have O1 := Lib.hid o1
    have OW := Lib.hid own
    have LI := Lib.hid li
    clear hLn hAn s1 hiL r1 o1 own li
    by_cases hlt : k < len2
    · have hltI : (k : Int) < (len2 : Int) := by omega
      obtain ⟨bb, off, rfl, hc⟩ := (HR2.out.kept kw) (by have := HN2.out; omega)
      obtain ⟨d1, d2⟩ := hc k (by have := HN2.out; omega)
      have hin := HI2.out _ (mk_mem (show k < ps.length by have := HN2.out; omega))
      generalize (mk ps k).1 = t at *
      generalize (mk ps k).2 = m at *
      obtain ⟨L', er, hp⟩ := put_ex L window t m
      have HP := Lib.hid hp
      have IT := Lib.hid hin.1
      have IM := Lib.hid hin.2
      obtain ⟨n2, hn2⟩ : ∃ n2, L'.length = n2 := ⟨_, rfl⟩
      have LN2 := Lib.hid hn2
      have hnk2 : n2 ≤ k + 1 := by have := put_len hp; have := LN.out; omega
      have her := put_err hp
      have hnn : n ≤ 1099511627776 := by omega
      have hn3 : n2 ≤ 1099511627776 := by omega
      have D := Lib.hid (And.intro d1 d2)
      clear hc hin hp hn2 d1 d2
      go_upto_region 8 with fail
      have base_a := Lib.hid (show wr.cell? ⟨bb, off + k * 2, none⟩ = some (.int .i64 t) ∧ wr.cell? ⟨bb, off + k * 2 + 1, none⟩ = some (.int .i64 m) from D.out)
      go_cut [9, 10] (fun s9 s10 wx => ∃ (Bq : Option Addr) (cq : Nat), s9 = .slice Bq n2 cq ∧ s10 = .int .i64 er ∧ SliceOk Bq n2 cq ∧ RowN wr wx B Bq L' ∧ Kept wr wx)
      case first =>
        go_region_held3 (fun w' => w'.cell? ⟨bb, off + k * 2, none⟩ = some (.int .i64 t) ∧ w'.cell? ⟨bb, off + k * 2 + 1, none⟩ = some (.int .i64 m))
          ((refine Kept.alln2 ?_ base_a; focus ((repeat (first | with_reducible exact Kept.refl _ | with_reducible apply Kept.drew | with_reducible apply Kept.alloc | ((with_reducible apply Kept.set); focus (simp <;> omega)) | ((with_reducible apply Kept.via); focus with_reducible assumption))); done)))
          (first | (go_at_call 10; refine (put_use PC'.out LN.out LN2.out S1.out hnn HL.out HW.out IT.out IM.out HP.out _ (R1.out.kept (by (repeat (first | with_reducible exact Kept.refl _ | with_reducible apply Kept.drew | with_reducible apply Kept.alloc | ((with_reducible apply Kept.set); focus (simp <;> omega)) | ((with_reducible apply Kept.via); focus with_reducible assumption)))))).mono ?_; rintro e v1 ⟨B_a, c_a, rfl, sk, rn, i1⟩))
        all_goals
          go_wp2_with fail
          go_meet
          exact ⟨_, _, rfl, rfl, sk, rn, (by (repeat (first | with_reducible exact Kept.refl _ | with_reducible apply Kept.drew | with_reducible apply Kept.alloc | ((with_reducible apply Kept.set); focus (simp <;> omega)) | ((with_reducible apply Kept.via); focus with_reducible assumption))))⟩
      obtain ⟨B_a, c_a, rfl, rfl, sk, rn, K_a⟩ := hcut
      generalize wc = W_a at *
      have S_a := Lib.hid sk
      have R_a := Lib.hid rn
      clear sk rn base_a
      have D2 := Lib.hid (Kept.alln2 K_a D)
      have kwa := Kept.trans kw K_a
      have OW2 := Lib.hid (own_kept OW.out K_a)
      have O2 := Lib.hid (O1.out.new R_a.out.2 (fun g hg => (OW.out.lt g hg).2) K_a)
      have R2 := Lib.hid R_a.out.1
      have HL2 := Lib.hid (put_in64 HP.out HL.out IT.out IM.out)
      clear D R_a O1 OW R1 K_a kw
      by_cases he : er = 0
      · subst he
        obtain ⟨d1, d2⟩ := D2.out
        have LIZ := Lib.hid (show LInv L' (ALL ++ [(t, m)]) window from by have := linv_put w0 LI.out HP.out; rwa [if_pos rfl] at this)
        go_wp2_with (at_builtin; refine wpList_append_kept rfl _ _ 22 rfl w g0 hg 28 i0 (.agg #[.int .i64 0, .int .i64 0]) 2 16 Try.underlying22 hi hz0 hz1 hz2 rfl (by decide) _ _ _ rfl (World.ownsRow.alloc (OW2.out) _) (Kept.alloc (kwa) _ _) ⟨_, 0, none⟩ 1 1 [.int .i64 t, .int .i64 m] rfl rfl (cells_two_new _ _ _ _) (by intro u hu; simp at hu; rcases hu with rfl | rfl <;> rfl) (by decide) (by unfold maxLen; omega) (by omega) ?_)
        intro v' w3 own3 k3 g3 z3 o3
        have hq : (ALL ++ [(t, m)]).length = na + 1 := by rw [List.length_append, AN.out]; rfl
        have own4 : w3.ownsRow g0 28 2 v' (na + 1) (flatM (ALL ++ [(t, m)])) := by rw [flatM_app]; exact own3
        obtain ⟨BY, cy, rfl, sok⟩ := own_rowV own4 hq
        have ANZ := Lib.hid hq
        have OWZ := Lib.hid own4
        have OZ := Lib.hid ((O2.out.kept ((Kept.refl W_a).alloc #[.int .i64 t, .int .i64 m] 28)).grown g3 (by simpa using o3))
        have RZ := Lib.hid ((R2.out.kept ((Kept.refl W_a).alloc #[.int .i64 t, .int .i64 m] 28)).grown (O2.out.kept ((Kept.refl W_a).alloc #[.int .i64 t, .int .i64 m] 28)) g3)
        obtain ⟨j, hj⟩ : ∃ j, j = na := ⟨_, rfl⟩
        subst hj
        clear own3 own4 g3 z3 o3 R2 O2 OW2 LI hq sok
        obtain ⟨a0, b0, h0⟩ := lof_ex L'
        have H0 := Lib.hid h0
        clear h0
        obtain ⟨tl, htl⟩ : ∃ tl, (lastOf (ALL ++ [(t, m)])).1 = tl := ⟨_, rfl⟩
        have TLt : 0 ≤ tl ∧ tl ≤ 1099511627776 := by have := linv_time LIZ.out (ne_of_len ANZ.out); rw [htl] at this; exact this
        obtain ⟨ba, offa, eBX, hca⟩ := (own_rowS OWZ.out ANZ.out).1 (by have := ANZ.out; omega)
        obtain ⟨e1, _⟩ := hca j (by have := ANZ.out; omega)
        rw [lastOf_mk ANZ.out, htl] at e1
        have LT := Lib.hid (linv_of LIZ.out H0.out tl (fun _ => htl.symm))
        subst eBX
        have RA := Lib.hid (own_rowS OWZ.out ANZ.out).1
        have E1 := Lib.hid e1
        clear hca e1 htl
        go_wp2_with fail
        refine (of_use OC'.out LN2.out S_a.out hn3 H0.out _ (RZ.out.kept (by (repeat (first | with_reducible exact Kept.refl _ | with_reducible apply Kept.drew | with_reducible apply Kept.alloc | ((with_reducible apply Kept.set); focus (simp <;> omega)) | ((with_reducible apply Kept.via); focus with_reducible assumption)))))).mono ?_
        rintro e w50 ⟨rfl, k50⟩
        have e1 := k50.read E1.out
        go_wp2_with fail
        refine (refLeast8_ok _ _ _ (ALL ++ [(t, m)]) _ _ _ _ ANZ.out (by omega) (by rw [← ANZ.out]; exact LT.out) _ (RA.out.kept (by (repeat (first | with_reducible exact Kept.refl _ | with_reducible apply Kept.drew | with_reducible apply Kept.alloc | ((with_reducible apply Kept.set); focus (simp <;> omega)) | ((with_reducible apply Kept.via); focus with_reducible assumption)))))).mono ?_
        rintro e w51 ⟨rfl, k51⟩
        clear e1
        go_wp2_with fail
        refine (check_use (v := true) CC'.out LN2.out S_a.out hn3 (by simp [linv_may LIZ.out]) _ (RZ.out.kept (by (repeat (first | with_reducible exact Kept.refl _ | with_reducible apply Kept.drew | with_reducible apply Kept.alloc | ((with_reducible apply Kept.set); focus (simp <;> omega)) | ((with_reducible apply Kept.via); focus with_reducible assumption)))))).mono ?_
        rintro e w52 ⟨rfl, k52⟩
        have kz2 := Kept.trans (Kept.trans k50 k51) k52
        go_wp2
        go_roundw
        case rel => exact ⟨k + 1, L', (ALL ++ [(t, m)]), n2, (j + 1), B_a, c_a, _, _, by omega, rfl, rfl, by go_num, LN2.out, ANZ.out, by omega, by omega, S_a.out, HL2.out, RZ.out.kept kz2, OZ.out.kept kz2, own_kept OWZ.out kz2, LIZ.out, Kept.trans k3 kz2⟩
        case measure => simp [intOf]; omega
      · have dz : (er == 0) = false := by simp; omega
        have LIZ := Lib.hid (show LInv L' ALL window from by have := linv_put w0 LI.out HP.out; rwa [if_neg he] at this)
        have RZ := R2
        have OZ := O2
        have OWZ := OW2
        have ANZ := AN
        clear her he LI R2 O2 OW2 AN
        cases na with
        | zero =>
          obtain ⟨a0, b0, h0⟩ := lof_ex L'
          have H0 := Lib.hid h0
          clear h0
          have LT := Lib.hid (show LeastTo ALL (-window) 0 (ALL).length a0 b0 from by have := linv_of LIZ.out H0.out 0 (fun h => absurd (List.eq_nil_of_length_eq_zero ANZ.out) h); rwa [Int.zero_sub] at this)
          skip
          have RA := Lib.hid (own_rowS OWZ.out ANZ.out).1
          go_wp2_with fail
          refine (of_use OC'.out LN2.out S_a.out hn3 H0.out _ (RZ.out.kept (by (repeat (first | with_reducible exact Kept.refl _ | with_reducible apply Kept.drew | with_reducible apply Kept.alloc | ((with_reducible apply Kept.set); focus (simp <;> omega)) | ((with_reducible apply Kept.via); focus with_reducible assumption)))))).mono ?_
          rintro e w50 ⟨rfl, k50⟩
          go_wp2_with fail
          refine (refLeast8_ok _ _ _ ALL _ _ _ _ ANZ.out (by omega) (by rw [← ANZ.out]; exact LT.out) _ (RA.out.kept (by (repeat (first | with_reducible exact Kept.refl _ | with_reducible apply Kept.drew | with_reducible apply Kept.alloc | ((with_reducible apply Kept.set); focus (simp <;> omega)) | ((with_reducible apply Kept.via); focus with_reducible assumption)))))).mono ?_
          rintro e w51 ⟨rfl, k51⟩
          go_wp2_with fail
          refine (check_use (v := true) CC'.out LN2.out S_a.out hn3 (by simp [linv_may LIZ.out]) _ (RZ.out.kept (by (repeat (first | with_reducible exact Kept.refl _ | with_reducible apply Kept.drew | with_reducible apply Kept.alloc | ((with_reducible apply Kept.set); focus (simp <;> omega)) | ((with_reducible apply Kept.via); focus with_reducible assumption)))))).mono ?_
          rintro e w52 ⟨rfl, k52⟩
          have kz2 := Kept.trans (Kept.trans k50 k51) k52
          go_wp2
          go_roundw
          case rel => exact ⟨k + 1, L', ALL, n2, 0, B_a, c_a, _, _, by omega, rfl, rfl, by go_num, LN2.out, ANZ.out, by omega, by omega, S_a.out, HL2.out, RZ.out.kept kz2, OZ.out.kept kz2, own_kept OWZ.out kz2, LIZ.out, Kept.trans kwa kz2⟩
          case measure => simp [intOf]; omega
        | succ j =>
          obtain ⟨a0, b0, h0⟩ := lof_ex L'
          have H0 := Lib.hid h0
          clear h0
          obtain ⟨tl, htl⟩ : ∃ tl, (lastOf ALL).1 = tl := ⟨_, rfl⟩
          have TLt : 0 ≤ tl ∧ tl ≤ 1099511627776 := by have := linv_time LIZ.out (ne_of_len ANZ.out); rw [htl] at this; exact this
          obtain ⟨ba, offa, eBX, hca⟩ := (own_rowS OWZ.out ANZ.out).1 (by have := ANZ.out; omega)
          obtain ⟨e1, _⟩ := hca j (by have := ANZ.out; omega)
          rw [lastOf_mk ANZ.out, htl] at e1
          have LT := Lib.hid (linv_of LIZ.out H0.out tl (fun _ => htl.symm))
          subst eBX
          have RA := Lib.hid (own_rowS OWZ.out ANZ.out).1
          have E1 := Lib.hid e1
          clear hca e1 htl
          go_wp2_with fail
          refine (of_use OC'.out LN2.out S_a.out hn3 H0.out _ (RZ.out.kept (by (repeat (first | with_reducible exact Kept.refl _ | with_reducible apply Kept.drew | with_reducible apply Kept.alloc | ((with_reducible apply Kept.set); focus (simp <;> omega)) | ((with_reducible apply Kept.via); focus with_reducible assumption)))))).mono ?_
          rintro e w50 ⟨rfl, k50⟩
          have e1 := k50.read E1.out
          go_wp2_with fail
          refine (refLeast8_ok _ _ _ ALL _ _ _ _ ANZ.out (by omega) (by rw [← ANZ.out]; exact LT.out) _ (RA.out.kept (by (repeat (first | with_reducible exact Kept.refl _ | with_reducible apply Kept.drew | with_reducible apply Kept.alloc | ((with_reducible apply Kept.set); focus (simp <;> omega)) | ((with_reducible apply Kept.via); focus with_reducible assumption)))))).mono ?_
          rintro e w51 ⟨rfl, k51⟩
          clear e1
          go_wp2_with fail
          refine (check_use (v := true) CC'.out LN2.out S_a.out hn3 (by simp [linv_may LIZ.out]) _ (RZ.out.kept (by (repeat (first | with_reducible exact Kept.refl _ | with_reducible apply Kept.drew | with_reducible apply Kept.alloc | ((with_reducible apply Kept.set); focus (simp <;> omega)) | ((with_reducible apply Kept.via); focus with_reducible assumption)))))).mono ?_
          rintro e w52 ⟨rfl, k52⟩
          have kz2 := Kept.trans (Kept.trans k50 k51) k52
          go_wp2
          go_roundw
          case rel => exact ⟨k + 1, L', ALL, n2, (j + 1), B_a, c_a, _, _, by omega, rfl, rfl, by go_num, LN2.out, ANZ.out, by omega, by omega, S_a.out, HL2.out, RZ.out.kept kz2, OZ.out.kept kz2, own_kept OWZ.out kz2, LIZ.out, Kept.trans kwa kz2⟩
          case measure => simp [intOf]; omega
    · go_wp2
      go_ret
      exact ⟨rfl, kw⟩
theorem leastTrue_walk (CC : LCheckC) (PC : LPutC) (OC : LOfC) (SC : LSinceC) (A2 : Option Addr) (cap2 : Nat) (ps : List (Int × Int)) (window : Int) (w : World) (hs2 : SliceOk A2 ps.length cap2) (hi2 : ∀ m ∈ ps, In64 m.1 ∧ In64 m.2) (hw : 0 ≤ window ∧ window ≤ 4294967295) (hr2 : RowM w A2 ps) : Calls Try.prog 4 #[.int .u32 window, .slice A2 ps.length cap2] w fun e w' => e = .returned (.bool true) ∧ Kept w w' := by
  by_cases h2 : ps.length ≤ 100
  · exact true8_short CC PC OC SC A2 ps.length cap2 window ps h2 rfl hi2 hw.1 hw.2 w hr2
  · exact true8_long CC PC OC SC A2 ps.length cap2 window (by omega) (by have := hs2.1; have := hs2.2.1; omega) w
end Go.Proofs.Ytpbchcpbjflnoaa
