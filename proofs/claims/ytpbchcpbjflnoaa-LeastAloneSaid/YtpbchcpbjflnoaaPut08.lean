/-
  The document's Put.
-/
import Derived.Test.YtpbchcpbjflnoaaRef08
import Derived.Deep.DeepCutAuto
namespace Go.Proofs.Ytpbchcpbjflnoaa
open Go.RowKit Go.BigFrame
set_option linter.unusedVariables false

set_option maxRecDepth 100000 in
set_option maxHeartbeats 3200000 in
theorem refPut8_bad (A : Option Addr) (len cap : Nat) (l : List (Int × Int)) (window at_ n : Int) (hs : SliceOk A len cap) (hn : l.length = len) (CK : ∀ w, RowM w A l → Calls Try.prog 18 #[.slice A len cap] w fun e w' => e = .returned (.bool false) ∧ Kept w w') (C5 : ∃ v, ∀ w, Calls Try.prog 25 #[.int .i64 at_] w fun e w' => e = .returned (.bool v) ∧ Kept w w') (w : World) (hr : RowM w A l) : Calls Try.prog 11 #[.slice A len cap, .int .i64 window, .int .i64 at_, .int .i64 n] w fun e w' => ∃ (B : Option Addr) (c : Nat), e = .returned (.tuple #[.slice B len c, .int .i64 51]) ∧ SliceOk B len c ∧ RowN w w' A B l ∧ Kept w w' := by
  have HR := Lib.hid hr
  have HS := Lib.hid hs
  have HN := Lib.hid hn
  have CK' := Lib.hid CK
  have C5' := Lib.hid C5
  clear CK C5
  clear hr hs hn
  obtain ⟨v, c5⟩ := C5'.out
  have C6' := Lib.hid c5
  clear c5
  have C5' := C6'
  go_enter Try.func11, Try.ntmps11
  go_wp2_with fail
  refine (CK'.out _ HR.out).mono ?_
  rintro e w1 ⟨rfl, k1⟩
  go_wp2_with fail
  refine (C5'.out _).mono ?_
  rintro e w2 ⟨rfl, k2⟩
  go_wp2
  go_ret2
  exact ⟨A, cap, rfl, HS.out, by have := HN.out; subst this; exact (HR.out.kept (Kept.trans k1 k2)).self, Kept.trans k1 k2⟩
set_option maxRecDepth 100000 in
set_option maxHeartbeats 3200000 in
theorem refPut8_time (A : Option Addr) (len cap : Nat) (l : List (Int × Int)) (window at_ n : Int) (hs : SliceOk A len cap) (hn : l.length = len) (CK : ∀ w, RowM w A l → Calls Try.prog 18 #[.slice A len cap] w fun e w' => e = .returned (.bool true) ∧ Kept w w') (C5 : ∀ w, Calls Try.prog 25 #[.int .i64 at_] w fun e w' => e = .returned (.bool false) ∧ Kept w w') (w : World) (hr : RowM w A l) : Calls Try.prog 11 #[.slice A len cap, .int .i64 window, .int .i64 at_, .int .i64 n] w fun e w' => ∃ (B : Option Addr) (c : Nat), e = .returned (.tuple #[.slice B len c, .int .i64 51]) ∧ SliceOk B len c ∧ RowN w w' A B l ∧ Kept w w' := by
  have HR := Lib.hid hr
  have HS := Lib.hid hs
  have HN := Lib.hid hn
  have CK' := Lib.hid CK
  have C5' := Lib.hid C5
  clear CK C5
  clear hr hs hn
  go_enter Try.func11, Try.ntmps11
  go_wp2_with fail
  refine (CK'.out _ HR.out).mono ?_
  rintro e w1 ⟨rfl, k1⟩
  go_wp2_with fail
  refine (C5'.out _).mono ?_
  rintro e w2 ⟨rfl, k2⟩
  go_wp2
  go_ret2
  exact ⟨A, cap, rfl, HS.out, by have := HN.out; subst this; exact (HR.out.kept (Kept.trans k1 k2)).self, Kept.trans k1 k2⟩
set_option maxRecDepth 100000 in
set_option maxHeartbeats 3200000 in
theorem refPut8_neg (A : Option Addr) (len cap : Nat) (l : List (Int × Int)) (window at_ n : Int) (hw : window < 0) (hs : SliceOk A len cap) (hn : l.length = len) (CK : ∀ w, RowM w A l → Calls Try.prog 18 #[.slice A len cap] w fun e w' => e = .returned (.bool true) ∧ Kept w w') (C5 : ∀ w, Calls Try.prog 25 #[.int .i64 at_] w fun e w' => e = .returned (.bool true) ∧ Kept w w') (w : World) (hr : RowM w A l) : Calls Try.prog 11 #[.slice A len cap, .int .i64 window, .int .i64 at_, .int .i64 n] w fun e w' => ∃ (B : Option Addr) (c : Nat), e = .returned (.tuple #[.slice B len c, .int .i64 51]) ∧ SliceOk B len c ∧ RowN w w' A B l ∧ Kept w w' := by
  have HR := Lib.hid hr
  have HS := Lib.hid hs
  have HN := Lib.hid hn
  have CK' := Lib.hid CK
  have C5' := Lib.hid C5
  clear CK C5
  clear hr hs hn
  go_enter Try.func11, Try.ntmps11
  go_wp2_with fail
  refine (CK'.out _ HR.out).mono ?_
  rintro e w1 ⟨rfl, k1⟩
  go_wp2_with fail
  refine (C5'.out _).mono ?_
  rintro e w2 ⟨rfl, k2⟩
  go_wp2
  go_ret2
  exact ⟨A, cap, rfl, HS.out, by have := HN.out; subst this; exact (HR.out.kept (Kept.trans k1 k2)).self, Kept.trans k1 k2⟩
set_option maxRecDepth 100000 in
set_option maxHeartbeats 3200000 in
theorem refPut8_back (A : Option Addr) (len cap : Nat) (l : List (Int × Int)) (window at_ n : Int) (j : Nat) (hj : len = j + 1) (hl : len ≤ 1099511627776) (hw : 0 ≤ window) (t : Int) (ht : (mk l j).1 = t) (hb : at_ < t) (hs : SliceOk A len cap) (hn : l.length = len) (CK : ∀ w, RowM w A l → Calls Try.prog 18 #[.slice A len cap] w fun e w' => e = .returned (.bool true) ∧ Kept w w') (C5 : ∀ w, Calls Try.prog 25 #[.int .i64 at_] w fun e w' => e = .returned (.bool true) ∧ Kept w w') (w : World) (hr : RowM w A l) : Calls Try.prog 11 #[.slice A len cap, .int .i64 window, .int .i64 at_, .int .i64 n] w fun e w' => ∃ (B : Option Addr) (c : Nat), e = .returned (.tuple #[.slice B len c, .int .i64 50]) ∧ SliceOk B len c ∧ RowN w w' A B l ∧ Kept w w' := by
  have HR := Lib.hid hr
  have HS := Lib.hid hs
  have HN := Lib.hid hn
  have CK' := Lib.hid CK
  have C5' := Lib.hid C5
  clear CK C5
  clear hr hs hn
  obtain ⟨b, off, rfl, hc⟩ := HR.out (by have := HN.out; omega)
  obtain ⟨c1, _⟩ := hc j (by have := HN.out; omega)
  rw [ht] at c1
  have dw : decide (window < 0) = false := by simp; omega
  have g0 : (0 : Int) ≤ (j : Int) := by omega
  have g1 : (0 : Int) < (j : Int) + 1 := by omega
  subst hj
  clear hc ht
  go_enter Try.func11, Try.ntmps11
  go_wp2_with fail
  refine (CK'.out _ HR.out).mono ?_
  rintro e w1 ⟨rfl, k1⟩
  go_wp2_with fail
  refine (C5'.out _).mono ?_
  rintro e w2 ⟨rfl, k2⟩
  have c2 := k2.read (k1.read c1)
  clear c1
  go_wp2
  go_ret2
  exact ⟨some ⟨b, off, none⟩, cap, rfl, HS.out, by have := HN.out; rw [← this] at HS; exact (HR.out.kept (Kept.trans k1 k2)).self, Kept.trans k1 k2⟩
theorem infoMark : (Try.prog.info? 28).map (fun i => (i.zero, i.size, i.bytes)) = some (some (.agg #[.int .i64 0, .int .i64 0]), 2, 16) := by kernel_rfl
set_option maxRecDepth 100000 in
set_option maxHeartbeats 3200000 in
theorem refPut8_yes (A : Option Addr) (len cap : Nat) (l : List (Int × Int)) (window at_ n : Int) (fr from_ : Int) (hl : len ≤ 1099511627776) (hw : 0 ≤ window) (hlast : ∀ j, len = j + 1 → ∃ t, (mk l j).1 = t ∧ t ≤ at_) (hf : ∀ k, k < len → (fr ≤ (mk l k).1 ↔ from_ ≤ (mk l k).1)) (hs : SliceOk A len cap) (hn : l.length = len) (CK : ∀ w, RowM w A l → Calls Try.prog 18 #[.slice A len cap] w fun e w' => e = .returned (.bool true) ∧ Kept w w') (C5 : ∀ w, Calls Try.prog 25 #[.int .i64 at_] w fun e w' => e = .returned (.bool true) ∧ Kept w w') (SB : ∀ w, Calls Try.prog 26 #[.int .i64 at_, .int .i64 window] w fun e w' => e = .returned (.int .i64 fr) ∧ Kept w w') (w : World) (hr : RowM w A l) : Calls Try.prog 11 #[.slice A len cap, .int .i64 window, .int .i64 at_, .int .i64 n] w fun e w' => ∃ (B : Option Addr) (c : Nat), e = .returned (.tuple #[.slice B (keptL l from_ n ++ [(at_, n)]).length c, .int .i64 0]) ∧ SliceOk B (keptL l from_ n ++ [(at_, n)]).length c ∧ RowN w w' A B (keptL l from_ n ++ [(at_, n)]) ∧ Kept w w' := by
  have HR := Lib.hid hr
  have HS := Lib.hid hs
  have HN := Lib.hid hn
  have CK' := Lib.hid CK
  have C5' := Lib.hid C5
  have SB' := Lib.hid SB
  clear CK C5 SB
  clear hr hs hn
  have HF := Lib.hid hf
  have HT := Lib.hid hlast
  have dw : decide (window < 0) = false := by simp; omega
  clear hf hlast
  obtain ⟨i0, hi, hz0, hz1, hz2⟩ := info_parts infoMark
  obtain ⟨g0, hg⟩ : ∃ g0, w.heap.size = g0 := ⟨_, rfl⟩
  cases len with
  | zero =>
    go_enter Try.func11, Try.ntmps11
    go_wp2_with fail
    refine (CK'.out _ HR.out).mono ?_
    rintro e w1 ⟨rfl, k1⟩
    go_wp2_with fail
    refine (C5'.out _).mono ?_
    rintro e w2 ⟨rfl, k2⟩
    have k0 := Kept.trans k1 k2
    clear k1 k2
    go_wp2
    go_loopw [12, 13] (fun ov i wr => ∃ k : Nat, k ≤ 0 ∧ i = .int .i64 k ∧ wr.ownsRow g0 28 2 ov (keptL (l.take k) from_ n).length (flatM (keptL (l.take k) from_ n)) ∧ Kept w wr) (fun _ i _ => 0 - (intOf i).toNat)
    case atStart => exact ⟨0, Nat.zero_le _, rfl, World.ownsRow_nil _ _ _ _, k0⟩
    case round =>
      obtain ⟨k, hk, rfl, own, kw⟩ := hrel
      clear k0
      have hK : (keptL (l.take k) from_ n).length ≤ k := by have := keptL_len (l.take k) from_ n; simp at this; omega
      have OW := Lib.hid own
      clear own
      by_cases hlt : k < 0
      · exact absurd hlt (by omega)
      · obtain rfl : k = 0 := by omega
        have OWE := Lib.hid (show wr.ownsRow g0 28 2 _ (keptL l from_ n).length (flatM (keptL l from_ n)) from by have h := OW.out; rw [List.take_of_length_le (by have := HN.out; omega)] at h; exact h)
        have hK2 : (keptL l from_ n).length ≤ 0 := by have := keptL_len l from_ n; have := HN.out; omega
        clear hK OW
        go_wp2_with (at_builtin; refine wpList_append_kept rfl _ _ 22 rfl w g0 hg 28 i0 (.agg #[.int .i64 0, .int .i64 0]) 2 16 Try.underlying22 hi hz0 hz1 hz2 rfl (by decide) _ _ _ rfl (World.ownsRow.alloc (OWE.out) _) (Kept.alloc (kw) _ _) ⟨_, 0, none⟩ 1 1 [.int .i64 at_, .int .i64 n] rfl rfl (cells_two_new _ _ _ _) (by intro u hu; simp at hu; rcases hu with rfl | rfl <;> rfl) (by decide) (by unfold maxLen; omega) (by omega) ?_)
        intro v' w3 own3 k3 g3 z3 o3
        obtain ⟨B, c, rfl, sok, hrow⟩ := own_rowM (l := keptL l from_ n ++ [(at_, n)]) (by rw [List.length_append, flatM_app]; exact own3)
        have HB := Lib.hid (hrow w (by omega))
        clear hrow own3 g3 z3 o3
        go_wp2
        go_ret2
        exact ⟨B, c, by rfl, sok, HB.out _, k3⟩
  | succ j =>
    obtain ⟨t, ht, hta⟩ := HT.out j rfl
    obtain ⟨b0, off0, eA0, hc0⟩ := HR.out (by have := HN.out; omega)
    obtain ⟨c0, _⟩ := hc0 j (by have := HN.out; omega)
    rw [ht] at c0
    have g1 : (0 : Int) ≤ (j : Int) := by omega
    have g2 : (0 : Int) < (j : Int) + 1 := by omega
    have dt : decide (at_ < t) = false := by simp; omega
    clear hc0 ht hta
    subst eA0
    go_enter Try.func11, Try.ntmps11
    go_wp2_with fail
    refine (CK'.out _ HR.out).mono ?_
    rintro e w1 ⟨rfl, k1⟩
    go_wp2_with fail
    refine (C5'.out _).mono ?_
    rintro e w2 ⟨rfl, k2⟩
    have c0 := k2.read (k1.read c0)
    have k0 := Kept.trans k1 k2
    clear k1 k2
    go_wp2
    go_loopw [12, 13] (fun ov i wr => ∃ k : Nat, k ≤ (j + 1) ∧ i = .int .i64 k ∧ wr.ownsRow g0 28 2 ov (keptL (l.take k) from_ n).length (flatM (keptL (l.take k) from_ n)) ∧ Kept w wr) (fun _ i _ => (j + 1) - (intOf i).toNat)
    case atStart => exact ⟨0, Nat.zero_le _, rfl, World.ownsRow_nil _ _ _ _, k0⟩
    case round =>
      obtain ⟨k, hk, rfl, own, kw⟩ := hrel
      clear k0
      have hK : (keptL (l.take k) from_ n).length ≤ k := by have := keptL_len (l.take k) from_ n; simp at this; omega
      have OW := Lib.hid own
      clear own
      by_cases hlt : k < (j + 1)
      · have hltI : (k : Int) < (((j + 1) : Nat) : Int) := by omega
        have hlt' : k < l.length := by have := HN.out; omega
        obtain ⟨bk, off, eA, hc⟩ := (HR.out.kept kw) (by omega)
        obtain ⟨e1, e2⟩ : bk = b0 ∧ off = off0 := by simp at eA; omega
        subst e1 e2
        clear eA
        obtain ⟨c1, c2⟩ := hc k hlt'
        have NXT := Lib.hid (keptL_next l from_ n hlt')
        have HFk := Lib.hid (HF.out k hlt)
        obtain ⟨t, et⟩ : ∃ t, (mk l k).1 = t := ⟨_, rfl⟩
        obtain ⟨m, em⟩ : ∃ m, (mk l k).2 = m := ⟨_, rfl⟩
        rw [et] at c1 HFk
        rw [em] at c2
        have ET := Lib.hid (And.intro et em)
        have H_r := Lib.hid (And.intro c1 c2)
        clear et em hc c1 c2
        generalize keptL (l.take k) from_ n = KK at *
        by_cases h1 : m < n
        · have e1 : decide (m < n) = true := by simp [h1]
          by_cases h2 : fr ≤ t
          · have e2 : decide (fr ≤ t) = true := by simp [h2]
            go_upto_region 11 with fail
            have B_r := Lib.hid (Kept.alln2 (show Kept wr wr from (by (repeat (first | with_reducible exact Kept.refl _ | with_reducible apply Kept.drew | with_reducible apply Kept.alloc | ((with_reducible apply Kept.set); focus (simp <;> omega)) | ((with_reducible apply Kept.via); focus with_reducible assumption))))) H_r)
            have kall : Kept w wr := (by (repeat (first | with_reducible exact Kept.refl _ | with_reducible apply Kept.drew | with_reducible apply Kept.alloc | ((with_reducible apply Kept.set); focus (simp <;> omega)) | ((with_reducible apply Kept.via); focus with_reducible assumption))))
            obtain ⟨q_r0, q_r1⟩ := kwn2 B_r
            clear B_r
            refine wp_region_kept (by kernel_rfl) (by as_aux_lemma => kernel_rfl) ?_
            repeat (go_big_quiet_step (first | (with_reducible exact kept_of (SB'.out _))))
            refine wpQuiet_nil ?_
            intro wq hw'
            have kq : Kept wr wq := by obtain ⟨p, rfl⟩ := hw'; exact p.k
            clear hw'
            clear kall
            have kwn2 := Kept.trans kw kq
            obtain ⟨c1, c2⟩ := Kept.alln2 kq H_r
            go_wp2_with (at_builtin; refine wpList_append_kept rfl _ _ 22 rfl w g0 hg 28 i0 (.agg #[.int .i64 0, .int .i64 0]) 2 16 Try.underlying22 hi hz0 hz1 hz2 rfl (by decide) _ _ _ rfl (World.ownsRow.alloc (own_kept OW.out kq) _) (Kept.alloc (kwn2) _ _) ⟨_, 0, none⟩ 1 1 [.int .i64 t, .int .i64 m] rfl rfl (cells_two_new _ _ _ _) (by intro u hu; simp at hu; rcases hu with rfl | rfl <;> rfl) (by decide) (by unfold maxLen; omega) (by omega) ?_)
            intro v' w3 own3 k3 g3 z3 o3
            have OW3 := Lib.hid (show w3.ownsRow g0 28 2 v' (keptL (l.take (k + 1)) from_ n).length (flatM (keptL (l.take (k + 1)) from_ n)) from by
              rw [NXT.out, if_pos (by rw [ET.out.1, ET.out.2]; have := HFk.out; omega), List.length_append, flatM_app, show mk l k = (t, m) from by rw [← ET.out.1, ← ET.out.2]]
              exact own3)
            clear own3 g3 z3 o3
            go_wp2
            go_roundw
            case rel => exact ⟨k + 1, by omega, by go_num, OW3.out, k3⟩
            case measure => simp [intOf]; omega
          · have e2 : decide (fr ≤ t) = false := by simp; omega
            have OW2 := Lib.hid (show wr.ownsRow g0 28 2 _ (keptL (l.take (k + 1)) from_ n).length (flatM (keptL (l.take (k + 1)) from_ n)) from by
              rw [NXT.out, if_neg (by rw [ET.out.1, ET.out.2]; have := HFk.out; omega), List.append_nil]
              exact OW.out)
            go_upto_region 11 with fail
            have B_r := Lib.hid (Kept.alln2 (show Kept wr wr from (by (repeat (first | with_reducible exact Kept.refl _ | with_reducible apply Kept.drew | with_reducible apply Kept.alloc | ((with_reducible apply Kept.set); focus (simp <;> omega)) | ((with_reducible apply Kept.via); focus with_reducible assumption))))) H_r)
            have kall : Kept w wr := (by (repeat (first | with_reducible exact Kept.refl _ | with_reducible apply Kept.drew | with_reducible apply Kept.alloc | ((with_reducible apply Kept.set); focus (simp <;> omega)) | ((with_reducible apply Kept.via); focus with_reducible assumption))))
            obtain ⟨q_r0, q_r1⟩ := kwn2 B_r
            clear B_r
            refine wp_region_kept (by kernel_rfl) (by as_aux_lemma => kernel_rfl) ?_
            repeat (go_big_quiet_step (first | (with_reducible exact kept_of (SB'.out _))))
            refine wpQuiet_nil ?_
            intro wq hw'
            have kq : Kept wr wq := by obtain ⟨p, rfl⟩ := hw'; exact p.k
            clear hw'
            clear kall
            go_wp2
            go_roundw
            case rel => exact ⟨k + 1, by omega, by go_num, own_kept OW2.out kq, Kept.trans kw kq⟩
            case measure => simp [intOf]; omega
        · have e1 : decide (m < n) = false := by simp; omega
          have OW2 := Lib.hid (show wr.ownsRow g0 28 2 _ (keptL (l.take (k + 1)) from_ n).length (flatM (keptL (l.take (k + 1)) from_ n)) from by
            rw [NXT.out, if_neg (by rw [ET.out.1, ET.out.2]; have := HFk.out; omega), List.append_nil]
            exact OW.out)
          go_upto_region 11 with fail
          have B_r := Lib.hid (Kept.alln2 (show Kept wr wr from (by (repeat (first | with_reducible exact Kept.refl _ | with_reducible apply Kept.drew | with_reducible apply Kept.alloc | ((with_reducible apply Kept.set); focus (simp <;> omega)) | ((with_reducible apply Kept.via); focus with_reducible assumption))))) H_r)
          have kall : Kept w wr := (by (repeat (first | with_reducible exact Kept.refl _ | with_reducible apply Kept.drew | with_reducible apply Kept.alloc | ((with_reducible apply Kept.set); focus (simp <;> omega)) | ((with_reducible apply Kept.via); focus with_reducible assumption))))
          obtain ⟨q_r0, q_r1⟩ := kwn2 B_r
          clear B_r
          refine wp_region_kept (by kernel_rfl) (by as_aux_lemma => kernel_rfl) ?_
          repeat (go_big_quiet_step (first | (with_reducible exact kept_of (SB'.out _))))
          refine wpQuiet_nil ?_
          intro wq hw'
          have kq : Kept wr wq := by obtain ⟨p, rfl⟩ := hw'; exact p.k
          clear hw'
          clear kall
          go_wp2
          go_roundw
          case rel => exact ⟨k + 1, by omega, by go_num, own_kept OW2.out kq, Kept.trans kw kq⟩
          case measure => simp [intOf]; omega
      · obtain rfl : k = (j + 1) := by omega
        have OWE := Lib.hid (show wr.ownsRow g0 28 2 _ (keptL l from_ n).length (flatM (keptL l from_ n)) from by have h := OW.out; rw [List.take_of_length_le (by have := HN.out; omega)] at h; exact h)
        have hK2 : (keptL l from_ n).length ≤ (j + 1) := by have := keptL_len l from_ n; have := HN.out; omega
        clear hK OW
        go_wp2_with (at_builtin; refine wpList_append_kept rfl _ _ 22 rfl w g0 hg 28 i0 (.agg #[.int .i64 0, .int .i64 0]) 2 16 Try.underlying22 hi hz0 hz1 hz2 rfl (by decide) _ _ _ rfl (World.ownsRow.alloc (OWE.out) _) (Kept.alloc (kw) _ _) ⟨_, 0, none⟩ 1 1 [.int .i64 at_, .int .i64 n] rfl rfl (cells_two_new _ _ _ _) (by intro u hu; simp at hu; rcases hu with rfl | rfl <;> rfl) (by decide) (by unfold maxLen; omega) (by omega) ?_)
        intro v' w3 own3 k3 g3 z3 o3
        obtain ⟨B, c, rfl, sok, hrow⟩ := own_rowM (l := keptL l from_ n ++ [(at_, n)]) (by rw [List.length_append, flatM_app]; exact own3)
        have HB := Lib.hid (hrow w (by omega))
        clear hrow own3 g3 z3 o3
        go_wp2
        go_ret2
        exact ⟨B, c, by rfl, sok, HB.out _, k3⟩
theorem refPut8_ok (A : Option Addr) (cap : Nat) (l : List (Int × Int)) (window at_ n : Int) (l' : List (Int × Int)) (er : Int) (hs : SliceOk A l.length cap) (hl : l.length ≤ 1099511627776) (hw : In64 window) (ha : In64 at_) (h : PutIs l window at_ n l' er) (w : World) (hr : RowM w A l) : Calls Try.prog 11 #[.slice A l.length cap, .int .i64 window, .int .i64 at_, .int .i64 n] w fun e w' => ∃ (B : Option Addr) (c : Nat), e = .returned (.tuple #[.slice B l'.length c, .int .i64 er]) ∧ SliceOk B l'.length c ∧ RowN w w' A B l' ∧ Kept w w' := by
  have CY := fun (hm : MayL l) w hr => refCheck8_ok A l.length cap l true rfl hl (by simp [hm]) w hr
  rcases h with ⟨hb, rfl, rfl⟩ | ⟨hm, ht, hw0, h0, hb, rfl, rfl⟩ | ⟨hm, ht, hw0, hb, rfl, rfl⟩
  · by_cases hm : MayL l'
    · by_cases ht : IsTime at_
      · exact refPut8_neg A l'.length cap l' window at_ n (Int.not_le.1 (fun z => hb ⟨hm, ht, z⟩)) hs rfl (CY hm) (fun w => refCheck_yes ht w) w hr
      · exact refPut8_time A l'.length cap l' window at_ n hs rfl (CY hm) (fun w => refCheck_no ht w) w hr
    · refine refPut8_bad A l'.length cap l' window at_ n hs rfl (fun w hr => refCheck8_ok A l'.length cap l' false rfl hl (by simp [hm]) w hr) ?_ w hr
      by_cases ht : IsTime at_
      · exact ⟨true, fun w => refCheck_yes ht w⟩
      · exact ⟨false, fun w => refCheck_no ht w⟩
  · have : 0 < l'.length := by
      rcases Nat.eq_zero_or_pos l'.length with z | z
      · exact absurd (List.eq_nil_of_length_eq_zero z) h0
      · exact z
    exact refPut8_back A l'.length cap l' window at_ n (l'.length - 1) (by omega) hl hw0 _ rfl hb hs rfl (CY hm) (fun w => refCheck_yes ht w) w hr
  · refine refPut8_yes A l.length cap l window at_ n (heldAt (at_ - window)) (at_ - window) hl hw0 (fun j hj => ⟨_, rfl, ?_⟩) (fun k hk => held_from (hm k hk).1 ha hw0 hw) hs rfl (CY hm) (fun w => refCheck_yes ht w) (fun w => subLift ha hw rfl w) w hr
    rcases hb with hb | hb
    · rw [hb] at hj; simp at hj
    · unfold lastOf at hb; rw [hj] at hb; exact hb
end Go.Proofs.Ytpbchcpbjflnoaa
