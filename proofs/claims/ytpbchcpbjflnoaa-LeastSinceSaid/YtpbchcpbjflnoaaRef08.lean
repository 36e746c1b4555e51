/-
  Contracts of the document's answers of layer 8.
-/
import Derived.Test.YtpbchcpbjflnoaaMarks08
import Derived.Test.YtpbchcpbjflnoaaKwN
import Derived.Test.YtpbchcpbjflnoaaRef05
import Derived.Test.YtpbchcpbjflnoaaRef01
import Derived.Deep.DeepCutAuto
namespace Go.Proofs.Ytpbchcpbjflnoaa
open Go.RowKit Go.BigFrame
set_option linter.unusedVariables false

theorem may_next {l : List (Int × Int)} {k : Nat} (h : MayL (l.take k)) (hk : k < l.length) (ht : IsTime (mk l k).1) (hr : 0 < k → (mk l (k - 1)).1 ≤ (mk l k).1 ∧ (mk l (k - 1)).2 < (mk l k).2) : MayL (l.take (k + 1)) := fun j hj => by
  have hj' : j < k + 1 := by simp at hj; omega
  rw [mk_take hj', mk_take (show j - 1 < k + 1 by omega)]
  rcases (show j < k ∨ j = k by omega) with g | rfl
  · have := h j (by simp; omega)
    rw [mk_take g, mk_take (show j - 1 < k by omega)] at this
    exact this
  · exact ⟨ht, hr⟩
set_option maxRecDepth 100000 in
set_option maxHeartbeats 1600000 in
theorem refCheck8_ok (A : Option Addr) (len cap : Nat) (l : List (Int × Int)) (v : Bool) (hn : l.length = len) (hl : len ≤ 1099511627776) (hv : v = true ↔ MayL l) (w : World) (hr : RowM w A l) : Calls Try.prog 18 #[.slice A len cap] w fun e w' => e = .returned (.bool v) ∧ Kept w w' := by
  have HR := Lib.hid hr
  have HV := Lib.hid hv
  have HN := Lib.hid hn
  clear hr hv hn
  go_enter Try.func18, Try.ntmps18
  go_wp2
  go_loopw [3] (fun i wr => ∃ k : Nat, k ≤ len ∧ i = .int .i64 k ∧ MayL (l.take k) ∧ Kept w wr) (fun i _ => len - (intOf i).toNat)
  case atStart => exact ⟨0, Nat.zero_le _, rfl, fun j h => absurd h (by simp), Kept.refl _⟩
  case round =>
    obtain ⟨k, hk, rfl, hm, kw⟩ := hrel
    have HM := Lib.hid hm
    clear hm
    by_cases hlt : k < len
    · have hltI : (k : Int) < (len : Int) := by omega
      have hlt' : k < l.length := by have := HN.out; omega
      obtain ⟨b, off, rfl, hc⟩ := (HR.out.kept kw) (by omega)
      obtain ⟨c1, c2⟩ := hc k hlt'
      obtain ⟨t, et⟩ : ∃ t, (mk l k).1 = t := ⟨_, rfl⟩
      obtain ⟨n, en⟩ : ∃ n, (mk l k).2 = n := ⟨_, rfl⟩
      rw [et] at c1
      rw [en] at c2
      by_cases ht : IsTime t
      · have HT := Lib.hid ht
        clear ht
        by_cases h0 : k = 0
        · have ET := Lib.hid et
          clear et en hc c2
          have hd : decide (0 < k) = false := by simp; omega
          have H0 := Lib.hid h0
          have H_q := Lib.hid c1
          clear h0
          have NX := Lib.hid (show MayL (l.take (k + 1)) from may_next HM.out hlt' (by rw [ET.out]; exact HT.out) (fun h => absurd h (by have := H0.out; omega)))
          go_wp2_with fail
          refine (refCheck_yes HT.out _).mono ?_
          rintro e w41 ⟨rfl, k41⟩
          have H_q := Lib.hid (k41.read H_q.out)
          clear c1
          have kwn1 := Kept.trans kw k41
          clear kw
          go_upto_region 7 with fail
          have kall : Kept w w41 := (by (repeat (first | with_reducible exact Kept.refl _ | with_reducible apply Kept.drew | with_reducible apply Kept.alloc | ((with_reducible apply Kept.set); focus (simp <;> omega)) | ((with_reducible apply Kept.via); focus with_reducible assumption))))
          refine wp_region_kept (by kernel_rfl) (by as_aux_lemma => kernel_rfl) ?_
          repeat (go_big_quiet_step (first | fail))
          refine wpQuiet_nil ?_
          intro wq hw'
          have kq : Kept w41 wq := by obtain ⟨p, rfl⟩ := hw'; exact p.k
          clear hw'
          clear kall
          go_wp2
          go_roundw
          case rel => exact ⟨k + 1, by omega, by go_num, NX.out, Kept.trans kwn1 kq⟩
          case measure => simp [intOf]; omega
        · obtain ⟨j, rfl⟩ : ∃ j, k = j + 1 := ⟨k - 1, by omega⟩
          clear h0
          obtain ⟨d1, d2⟩ := hc j (by omega)
          obtain ⟨s, es⟩ : ∃ s, (mk l j).1 = s := ⟨_, rfl⟩
          obtain ⟨m, em⟩ : ∃ m, (mk l j).2 = m := ⟨_, rfl⟩
          rw [es] at d1
          rw [em] at d2
          have E4 := Lib.hid (And.intro et (And.intro en (And.intro es em)))
          have H_q := Lib.hid (And.intro c1 (And.intro c2 (And.intro d1 d2)))
          clear hc et en es em c2 d1 d2
          have g0 : (0 : Int) ≤ (j : Int) := by omega
          have g1 : (j : Int) < (len : Int) := by omega
          by_cases a1 : t < s
          · have e1 : decide (t < s) = true := by simp [a1]
            have NO := Lib.hid (show v = false from by
              cases v with
              | false => rfl
              | true =>
                have h := (HV.out.1 rfl (j + 1) hlt').2 (by omega)
                have h' : (mk l j).1 ≤ (mk l (j + 1)).1 ∧ (mk l j).2 < (mk l (j + 1)).2 := h
                rw [E4.out.1, E4.out.2.1, E4.out.2.2.1, E4.out.2.2.2] at h'
                omega)
            go_wp2_with fail
            refine (refCheck_yes HT.out _).mono ?_
            rintro e w41 ⟨rfl, k41⟩
            obtain ⟨q0, q1, q2, q3⟩ := H_q.out
            have H_r := Lib.hid (And.intro (k41.read q0) (And.intro (k41.read q1) (And.intro (k41.read q2) (k41.read q3))))
            clear c1 H_q q0 q1 q2 q3
            have kwn1 := Kept.trans kw k41
            clear kw
            go_upto_region 7 with fail
            have B_r := Lib.hid (Kept.alln4 (show Kept w41 w41 from (by (repeat (first | with_reducible exact Kept.refl _ | with_reducible apply Kept.drew | with_reducible apply Kept.alloc | ((with_reducible apply Kept.set); focus (simp <;> omega)) | ((with_reducible apply Kept.via); focus with_reducible assumption))))) H_r)
            have kall : Kept w w41 := (by (repeat (first | with_reducible exact Kept.refl _ | with_reducible apply Kept.drew | with_reducible apply Kept.alloc | ((with_reducible apply Kept.set); focus (simp <;> omega)) | ((with_reducible apply Kept.via); focus with_reducible assumption))))
            obtain ⟨q_r0, q_r1, q_r2, q_r3⟩ := kwn4 B_r
            clear B_r
            refine wp_region_kept (by kernel_rfl) (by as_aux_lemma => kernel_rfl) ?_
            repeat (go_big_quiet_step (first | fail))
            refine wpQuiet_nil ?_
            intro wq hw'
            have kq : Kept w41 wq := by obtain ⟨p, rfl⟩ := hw'; exact p.k
            clear hw'
            clear kall
            go_wp2
            go_ret
            exact ⟨ret_b NO.out.symm, Kept.trans kwn1 kq⟩
          · by_cases a2 : n ≤ m
            · have e1 : decide (t < s) = false := by simp; omega
              have e2 : decide (n ≤ m) = true := by simp [a2]
              have NO := Lib.hid (show v = false from by
                cases v with
                | false => rfl
                | true =>
                  have h := (HV.out.1 rfl (j + 1) hlt').2 (by omega)
                  have h' : (mk l j).1 ≤ (mk l (j + 1)).1 ∧ (mk l j).2 < (mk l (j + 1)).2 := h
                  rw [E4.out.1, E4.out.2.1, E4.out.2.2.1, E4.out.2.2.2] at h'
                  omega)
              go_wp2_with fail
              refine (refCheck_yes HT.out _).mono ?_
              rintro e w41 ⟨rfl, k41⟩
              obtain ⟨q0, q1, q2, q3⟩ := H_q.out
              have H_r := Lib.hid (And.intro (k41.read q0) (And.intro (k41.read q1) (And.intro (k41.read q2) (k41.read q3))))
              clear c1 H_q q0 q1 q2 q3
              have kwn1 := Kept.trans kw k41
              clear kw
              go_upto_region 7 with fail
              have B_r := Lib.hid (Kept.alln4 (show Kept w41 w41 from (by (repeat (first | with_reducible exact Kept.refl _ | with_reducible apply Kept.drew | with_reducible apply Kept.alloc | ((with_reducible apply Kept.set); focus (simp <;> omega)) | ((with_reducible apply Kept.via); focus with_reducible assumption))))) H_r)
              have kall : Kept w w41 := (by (repeat (first | with_reducible exact Kept.refl _ | with_reducible apply Kept.drew | with_reducible apply Kept.alloc | ((with_reducible apply Kept.set); focus (simp <;> omega)) | ((with_reducible apply Kept.via); focus with_reducible assumption))))
              obtain ⟨q_r0, q_r1, q_r2, q_r3⟩ := kwn4 B_r
              clear B_r
              refine wp_region_kept (by kernel_rfl) (by as_aux_lemma => kernel_rfl) ?_
              repeat (go_big_quiet_step (first | fail))
              refine wpQuiet_nil ?_
              intro wq hw'
              have kq : Kept w41 wq := by obtain ⟨p, rfl⟩ := hw'; exact p.k
              clear hw'
              clear kall
              go_wp2
              go_ret
              exact ⟨ret_b NO.out.symm, Kept.trans kwn1 kq⟩
            · have e1 : decide (t < s) = false := by simp; omega
              have e2 : decide (n ≤ m) = false := by simp; omega
              have NX := Lib.hid (show MayL (l.take (j + 1 + 1)) from may_next HM.out hlt' (by rw [E4.out.1]; exact HT.out) (fun _ => by show (mk l j).1 ≤ _ ∧ (mk l j).2 < _; rw [E4.out.1, E4.out.2.1, E4.out.2.2.1, E4.out.2.2.2]; omega))
              go_wp2_with fail
              refine (refCheck_yes HT.out _).mono ?_
              rintro e w41 ⟨rfl, k41⟩
              obtain ⟨q0, q1, q2, q3⟩ := H_q.out
              have H_r := Lib.hid (And.intro (k41.read q0) (And.intro (k41.read q1) (And.intro (k41.read q2) (k41.read q3))))
              clear c1 H_q q0 q1 q2 q3
              have kwn1 := Kept.trans kw k41
              clear kw
              go_upto_region 7 with fail
              have B_r := Lib.hid (Kept.alln4 (show Kept w41 w41 from (by (repeat (first | with_reducible exact Kept.refl _ | with_reducible apply Kept.drew | with_reducible apply Kept.alloc | ((with_reducible apply Kept.set); focus (simp <;> omega)) | ((with_reducible apply Kept.via); focus with_reducible assumption))))) H_r)
              have kall : Kept w w41 := (by (repeat (first | with_reducible exact Kept.refl _ | with_reducible apply Kept.drew | with_reducible apply Kept.alloc | ((with_reducible apply Kept.set); focus (simp <;> omega)) | ((with_reducible apply Kept.via); focus with_reducible assumption))))
              obtain ⟨q_r0, q_r1, q_r2, q_r3⟩ := kwn4 B_r
              clear B_r
              refine wp_region_kept (by kernel_rfl) (by as_aux_lemma => kernel_rfl) ?_
              repeat (go_big_quiet_step (first | fail))
              refine wpQuiet_nil ?_
              intro wq hw'
              have kq : Kept w41 wq := by obtain ⟨p, rfl⟩ := hw'; exact p.k
              clear hw'
              clear kall
              go_wp2
              go_roundw
              case rel => exact ⟨j + 1 + 1, by omega, by go_num, NX.out, Kept.trans kwn1 kq⟩
              case measure => simp [intOf]; omega
      · have HT := Lib.hid ht
        have NO := Lib.hid (show v = false from by
          cases v with
          | false => rfl
          | true =>
            have h := (HV.out.1 rfl k hlt').1
            rw [et] at h
            exact absurd h ht)
        clear ht et en hc c2
        go_wp2_with fail
        refine (refCheck_no HT.out _).mono ?_
        rintro e w41 ⟨rfl, k41⟩
        go_wp2
        go_ret
        exact ⟨ret_b NO.out.symm, Kept.trans kw k41⟩
    · have YES := Lib.hid (show v = true from HV.out.2 (by
        have h := HM.out
        rw [List.take_of_length_le (by have := HN.out; omega)] at h
        exact h))
      obtain rfl : k = len := by omega
      go_wp2
      go_ret
      exact ⟨ret_b YES.out.symm, kw⟩
set_option maxRecDepth 100000 in
set_option maxHeartbeats 1600000 in
theorem refSame8_ok (A B : Option Addr) (len cap cap2 : Nat) (l : List (Int × Int)) (hn : l.length = len) (hl : len ≤ 1099511627776) (w : World) (hr : RowM w A l) (hr2 : RowM w B l) : Calls Try.prog 12 #[.slice A len cap, .slice B len cap2] w fun e w' => e = .returned (.bool true) ∧ Kept w w' := by
  have HR := Lib.hid hr
  have HR2 := Lib.hid hr2
  have HN := Lib.hid hn
  clear hr hr2 hn
  go_enter Try.func12, Try.ntmps12
  go_wp2
  go_loopw [5] (fun i wr => ∃ k : Nat, k ≤ len ∧ i = .int .i64 k ∧ Kept w wr) (fun i _ => len - (intOf i).toNat)
  case atStart => exact ⟨0, Nat.zero_le _, rfl, Kept.refl _⟩
  case round =>
    obtain ⟨k, hk, rfl, kw⟩ := hrel
    by_cases hlt : k < len
    · have hltI : (k : Int) < (len : Int) := by omega
      have hlt' : k < l.length := by have := HN.out; omega
      obtain ⟨b, off, rfl, hc⟩ := (HR.out.kept kw) (by omega)
      obtain ⟨b2, off2, rfl, hc2⟩ := (HR2.out.kept kw) (by omega)
      obtain ⟨c1, c2⟩ := hc k hlt'
      obtain ⟨d1, d2⟩ := hc2 k hlt'
      generalize (mk l k).1 = t at *
      generalize (mk l k).2 = n at *
      have H_r := Lib.hid (And.intro c1 (And.intro c2 (And.intro d1 d2)))
      clear hc hc2 c1 c2 d1 d2
      go_upto_region 6 with fail
      have B_r := Lib.hid (Kept.alln4 (show Kept wr wr from (by (repeat (first | with_reducible exact Kept.refl _ | with_reducible apply Kept.drew | with_reducible apply Kept.alloc | ((with_reducible apply Kept.set); focus (simp <;> omega)) | ((with_reducible apply Kept.via); focus with_reducible assumption))))) H_r)
      have kall : Kept w wr := (by (repeat (first | with_reducible exact Kept.refl _ | with_reducible apply Kept.drew | with_reducible apply Kept.alloc | ((with_reducible apply Kept.set); focus (simp <;> omega)) | ((with_reducible apply Kept.via); focus with_reducible assumption))))
      obtain ⟨q_r0, q_r1, q_r2, q_r3⟩ := kwn4 B_r
      clear B_r
      refine wp_region_kept (by kernel_rfl) (by as_aux_lemma => kernel_rfl) ?_
      repeat (go_big_quiet_step (first | fail))
      refine wpQuiet_nil ?_
      intro wq hw'
      have kq : Kept wr wq := by obtain ⟨p, rfl⟩ := hw'; exact p.k
      clear hw'
      clear kall
      go_wp2
      go_roundw
      case rel => exact ⟨k + 1, by omega, by go_num, Kept.trans kw kq⟩
      case measure => simp [intOf]; omega
    · obtain rfl : k = len := by omega
      go_wp2
      go_ret
      exact ⟨rfl, kw⟩
set_option maxRecDepth 100000 in
set_option maxHeartbeats 1600000 in
theorem refOf8_bad (A : Option Addr) (len cap : Nat) (l : List (Int × Int)) (hn : l.length = len)  (w : World) (hr : RowM w A l) (CK : Calls Try.prog 18 #[.slice A len cap] w fun e w' => e = .returned (.bool false) ∧ Kept w w') : Calls Try.prog 14 #[.slice A len cap] w fun e w' => e = .returned (.tuple #[.int .i64 0, .bool false]) ∧ Kept w w' := by
  have CK' := Lib.hid CK
  clear CK
  go_enter Try.func14, Try.ntmps14
  clear hr hn
  go_wp2_with fail
  refine (CK'.out).mono ?_
  rintro e w1 ⟨rfl, k1⟩
  go_wp2
  go_ret2
  exact ⟨rfl, k1⟩
set_option maxRecDepth 100000 in
set_option maxHeartbeats 1600000 in
theorem refOf8_none (A : Option Addr) (len cap : Nat) (l : List (Int × Int)) (hn : l.length = len) (h0 : len = 0) (w : World) (hr : RowM w A l) (CK : Calls Try.prog 18 #[.slice A len cap] w fun e w' => e = .returned (.bool true) ∧ Kept w w') : Calls Try.prog 14 #[.slice A len cap] w fun e w' => e = .returned (.tuple #[.int .i64 0, .bool false]) ∧ Kept w w' := by
  have CK' := Lib.hid CK
  clear CK
  go_enter Try.func14, Try.ntmps14
  subst h0
  clear hr hn
  go_wp2_with fail
  refine (CK'.out).mono ?_
  rintro e w1 ⟨rfl, k1⟩
  go_wp2
  go_ret2
  exact ⟨rfl, k1⟩
set_option maxRecDepth 100000 in
set_option maxHeartbeats 1600000 in
theorem refOf8_some (A : Option Addr) (len cap : Nat) (l : List (Int × Int)) (hn : l.length = len) (j : Nat) (h0 : len = j + 1) (h1 : j ≤ 1099511627776) (n : Int) (h2 : (mk l 0).2 = n) (w : World) (hr : RowM w A l) (CK : Calls Try.prog 18 #[.slice A len cap] w fun e w' => e = .returned (.bool true) ∧ Kept w w') : Calls Try.prog 14 #[.slice A len cap] w fun e w' => e = .returned (.tuple #[.int .i64 n, .bool true]) ∧ Kept w w' := by
  have CK' := Lib.hid CK
  clear CK
  go_enter Try.func14, Try.ntmps14
  obtain ⟨b, off, rfl, hc⟩ := hr (by omega)
  obtain ⟨_, c2⟩ := hc 0 (by omega)
  rw [h2] at c2
  have c3 : w.cell? ⟨b, off + 1, none⟩ = some (.int .i64 n) := by simpa using c2
  subst h0
  have hd : ((j : Int) + 1 == 0) = false := by simp; omega
  clear hn h2 hc c2
  go_wp2_with fail
  refine (CK'.out).mono ?_
  rintro e w1 ⟨rfl, k1⟩
  have c4 := k1.read c3
  clear c3
  go_wp2
  go_ret2
  exact ⟨rfl, k1⟩
theorem refOf8_ok (A : Option Addr) (len cap : Nat) (l : List (Int × Int)) (n : Int) (b : Bool) (hn : l.length = len) (hl : len ≤ 1099511627776) (h : LOfIs l n b) (w : World) (hr : RowM w A l) : Calls Try.prog 14 #[.slice A len cap] w fun e w' => e = .returned (.tuple #[.int .i64 n, .bool b]) ∧ Kept w w' := by
  rcases h with ⟨h, h0, rfl, rfl⟩ | ⟨h, rfl, rfl⟩
  · have : 0 < l.length := by
      rcases Nat.eq_zero_or_pos l.length with z | z
      · exact absurd (List.eq_nil_of_length_eq_zero z) h0
      · exact z
    exact refOf8_some A len cap l hn (len - 1) (by omega) (by omega) _ rfl w hr (refCheck8_ok A len cap l true hn hl (by simp [h]) w hr)
  · by_cases hm : MayL l
    · have h0 : l = [] := Classical.byContradiction (fun g => h ⟨hm, g⟩)
      exact refOf8_none A len cap l hn (by rw [← hn, h0]; rfl) w hr (refCheck8_ok A len cap l true hn hl (by simp [hm]) w hr)
    · exact refOf8_bad A len cap l hn w hr (refCheck8_ok A len cap l false hn hl (by simp [hm]) w hr)
set_option maxRecDepth 100000 in
set_option maxHeartbeats 1600000 in
theorem refLeast8_ok (A : Option Addr) (len cap : Nat) (l : List (Int × Int)) (from_ til n0 : Int) (b0 : Bool) (hn : l.length = len) (hl : len ≤ 1099511627776) (h : LeastTo l from_ til len n0 b0) (w : World) (hr : RowM w A l) : Calls Try.prog 19 #[.slice A len cap, .int .i64 from_, .int .i64 til] w fun e w' => e = .returned (.tuple #[.int .i64 n0, .bool b0]) ∧ Kept w w' := by
  have HR := Lib.hid hr
  have HL := Lib.hid h
  have HN := Lib.hid hn
  clear hr h hn
  go_enter Try.func19, Try.ntmps19
  go_wp2
  go_loopw [8, 9, 10] (fun nv bv i wr => ∃ (k : Nat) (n : Int) (b : Bool), k ≤ len ∧ nv = .int .i64 n ∧ bv = .bool b ∧ i = .int .i64 k ∧ LeastTo l from_ til k n b ∧ Kept w wr) (fun _ _ i _ => len - (intOf i).toNat)
  case atStart => exact ⟨0, 0, false, Nat.zero_le _, rfl, rfl, rfl, least_zero l from_ til, Kept.refl _⟩
  case round =>
    obtain ⟨k, n, b, hk, rfl, rfl, rfl, hm, kw⟩ := hrel
    have HM := Lib.hid hm
    clear hm
    by_cases hlt : k < len
    · have hltI : (k : Int) < (len : Int) := by omega
      have hlt' : k < l.length := by have := HN.out; omega
      obtain ⟨bk, off, rfl, hc⟩ := (HR.out.kept kw) (by omega)
      obtain ⟨c1, c2⟩ := hc k hlt'
      obtain ⟨t, et⟩ : ∃ t, (mk l k).1 = t := ⟨_, rfl⟩
      obtain ⟨m, em⟩ : ∃ m, (mk l k).2 = m := ⟨_, rfl⟩
      rw [et] at c1
      rw [em] at c2
      have ET := Lib.hid et
      have EM := Lib.hid em
      clear et em hc hlt'
      by_cases h1 : t < from_
      · have g1 : decide (from_ ≤ t) = false := by simp; omega
        have NX := Lib.hid (least_skip HM.out (Or.inl (by unfold InT; rw [ET.out]; omega)))
        go_wp2
        go_roundw
        case rel => exact ⟨k + 1, _, _, by omega, rfl, rfl, by go_num, NX.out, kw⟩
        case measure => simp [intOf]; omega
      · have g1 : decide (from_ ≤ t) = true := by simp; omega
        by_cases h2 : til < t
        · have g2 : decide (t ≤ til) = false := by simp; omega
          have NX := Lib.hid (least_skip HM.out (Or.inl (by unfold InT; rw [ET.out]; omega)))
          go_wp2
          go_roundw
          case rel => exact ⟨k + 1, _, _, by omega, rfl, rfl, by go_num, NX.out, kw⟩
          case measure => simp [intOf]; omega
        · have g2 : decide (t ≤ til) = true := by simp; omega
          cases b with
          | false =>
            have NX := Lib.hid (show LeastTo l from_ til (k + 1) m true from by have := least_take HM.out (by unfold InT; rw [ET.out]; omega) (Or.inl rfl); rw [EM.out] at this; exact this)
            go_wp2
            go_roundw
            case rel => exact ⟨k + 1, _, _, by omega, rfl, rfl, by go_num, NX.out, kw⟩
            case measure => simp [intOf]; omega
          | true =>
            by_cases h3 : m < n
            · have g3 : decide (m < n) = true := by simp [h3]
              have NX := Lib.hid (show LeastTo l from_ til (k + 1) m true from by have := least_take HM.out (by unfold InT; rw [ET.out]; omega) (Or.inr (by rw [EM.out]; exact h3)); rw [EM.out] at this; exact this)
              go_wp2
              go_roundw
              case rel => exact ⟨k + 1, _, _, by omega, rfl, rfl, by go_num, NX.out, kw⟩
              case measure => simp [intOf]; omega
            · have g3 : decide (m < n) = false := by simp; omega
              have NX := Lib.hid (least_skip HM.out (Or.inr ⟨rfl, by rw [EM.out]; omega⟩))
              go_wp2
              go_roundw
              case rel => exact ⟨k + 1, _, _, by omega, rfl, rfl, by go_num, NX.out, kw⟩
              case measure => simp [intOf]; omega
    · obtain rfl : k = len := by omega
      obtain ⟨e1, e2⟩ := least_one HM.out HL.out
      subst e1 e2
      go_wp2
      go_ret2
      exact ⟨rfl, kw⟩
theorem subLift {a b n : Int} (ha : In64 a) (hb : In64 b) (hn : heldAt (a - b) = n) (w : World) : Calls Try.prog 26 #[.int .i64 a, .int .i64 b] w fun e w' => e = .returned (.int .i64 n) ∧ Kept w w' :=
  (refSub_lit_s a b n w ha hb hn).mono (fun _ _ ⟨h, k⟩ => ⟨h, k ▸ Kept.refl _⟩)
set_option maxRecDepth 100000 in
set_option maxHeartbeats 1600000 in
theorem refSince8_bad (A : Option Addr) (len cap : Nat) (l : List (Int × Int)) (window at_ : Int)  (CK : ∀ w, RowM w A l → Calls Try.prog 18 #[.slice A len cap] w fun e w' => e = .returned (.bool false) ∧ Kept w w') (w : World) (hr : RowM w A l) : Calls Try.prog 16 #[.slice A len cap, .int .i64 window, .int .i64 at_] w fun e w' => e = .returned (.tuple #[.int .i64 0, .bool false]) ∧ Kept w w' := by
  have HR := Lib.hid hr
  have CK' := Lib.hid CK
  clear CK
  go_enter Try.func16, Try.ntmps16
  clear hr
  go_wp2_with fail
  refine (CK'.out _ HR.out).mono ?_
  rintro e w1 ⟨rfl, k1⟩
  go_wp2
  go_ret2
  exact ⟨rfl, k1⟩
set_option maxRecDepth 100000 in
set_option maxHeartbeats 1600000 in
theorem refSince8_neg (A : Option Addr) (len cap : Nat) (l : List (Int × Int)) (window at_ : Int) (hw : window < 0) (CK : ∀ w, RowM w A l → Calls Try.prog 18 #[.slice A len cap] w fun e w' => e = .returned (.bool true) ∧ Kept w w') (w : World) (hr : RowM w A l) : Calls Try.prog 16 #[.slice A len cap, .int .i64 window, .int .i64 at_] w fun e w' => e = .returned (.tuple #[.int .i64 0, .bool false]) ∧ Kept w w' := by
  have HR := Lib.hid hr
  have CK' := Lib.hid CK
  clear CK
  go_enter Try.func16, Try.ntmps16
  clear hr
  go_wp2_with fail
  refine (CK'.out _ HR.out).mono ?_
  rintro e w1 ⟨rfl, k1⟩
  go_wp2
  go_ret2
  exact ⟨rfl, k1⟩
set_option maxRecDepth 100000 in
set_option maxHeartbeats 1600000 in
theorem refSince8_all (A : Option Addr) (len cap : Nat) (l : List (Int × Int)) (window at_ : Int) (fr n0 : Int) (b0 : Bool) (hn : l.length = len) (hl : len ≤ 1099511627776) (hw : 0 ≤ window) (hf : ∀ k, k < len → (fr ≤ (mk l k).1 ↔ at_ - window ≤ (mk l k).1)) (h : SinceIs l window at_ n0 b0) (hm : MayL l) (CK : ∀ w, RowM w A l → Calls Try.prog 18 #[.slice A len cap] w fun e w' => e = .returned (.bool true) ∧ Kept w w') (SB : ∀ w, Calls Try.prog 26 #[.int .i64 at_, .int .i64 window] w fun e w' => e = .returned (.int .i64 fr) ∧ Kept w w') (w : World) (hr : RowM w A l) : Calls Try.prog 16 #[.slice A len cap, .int .i64 window, .int .i64 at_] w fun e w' => e = .returned (.tuple #[.int .i64 n0, .bool b0]) ∧ Kept w w' := by
  have HR := Lib.hid hr
  have CK' := Lib.hid CK
  have SB' := Lib.hid SB
  clear CK SB
  go_enter Try.func16, Try.ntmps16
  have HL := Lib.hid h
  have HN := Lib.hid hn
  have HF := Lib.hid hf
  have HM := Lib.hid hm
  clear hr h hn hf hm
  go_wp2_with fail
  refine (CK'.out _ HR.out).mono ?_
  rintro e w1 ⟨rfl, k1⟩
  go_wp2
  go_loopw [9] (fun i wr => ∃ k : Nat, k ≤ len ∧ i = .int .i64 k ∧ (∀ j, j < k → ¬ InT l (at_ - window) at_ j) ∧ Kept w wr) (fun i _ => len - (intOf i).toNat)
  case atStart => exact ⟨0, Nat.zero_le _, rfl, fun j h => absurd h (by omega), k1⟩
  case round =>
    obtain ⟨k, hk, rfl, hno, kw⟩ := hrel
    have HO := Lib.hid hno
    clear hno k1
    by_cases hlt : k < len
    · have hltI : (k : Int) < (len : Int) := by omega
      have hlt' : k < l.length := by have := HN.out; omega
      obtain ⟨bk, off, rfl, hc⟩ := (HR.out.kept kw) (by omega)
      obtain ⟨c1, c2⟩ := hc k hlt'
      have IT := Lib.hid (show InT l (at_ - window) at_ k ↔ fr ≤ (mk l k).1 ∧ (mk l k).1 ≤ at_ from by unfold InT; rw [HF.out k hlt])
      obtain ⟨t, et⟩ : ∃ t, (mk l k).1 = t := ⟨_, rfl⟩
      obtain ⟨m, em⟩ : ∃ m, (mk l k).2 = m := ⟨_, rfl⟩
      rw [et] at c1 IT
      rw [em] at c2
      have EM := Lib.hid em
      have H_r := Lib.hid (And.intro c1 c2)
      clear et em hc c1 c2
      by_cases h1 : t < fr
      · have g1 : decide (fr ≤ t) = false := by simp; omega
        have NX := Lib.hid (show ∀ j, j < k + 1 → ¬ InT l (at_ - window) at_ j from fun j hj => by
          rcases (show j < k ∨ j = k by omega) with g | rfl
          · exact HO.out j g
          · rw [IT.out]; omega)
        go_upto_region 7 with fail
        have B_r := Lib.hid (Kept.alln2 (show Kept wr wr from (by (repeat (first | with_reducible exact Kept.refl _ | with_reducible apply Kept.drew | with_reducible apply Kept.alloc | ((with_reducible apply Kept.set); focus (simp <;> omega)) | ((with_reducible apply Kept.via); focus with_reducible assumption))))) H_r)
        have kall : Kept w wr := (by (repeat (first | with_reducible exact Kept.refl _ | with_reducible apply Kept.drew | with_reducible apply Kept.alloc | ((with_reducible apply Kept.set); focus (simp <;> omega)) | ((with_reducible apply Kept.via); focus with_reducible assumption))))
        obtain ⟨q_r0, q_r1⟩ := kwn2 B_r
        clear B_r
        refine wp_region_kept (by kernel_rfl) (by as_aux_lemma => kernel_rfl) ?_
        repeat (go_big_quiet_step (first | (with_reducible exact kept_of (SB'.out _))))
        refine wpQuiet_nil ?_
        intro wq hw'
        have kq : Kept wr wq := by obtain ⟨p, rfl⟩ := hw'; exact p.k
        clear hw'
        clear kall
        go_wp2
        go_roundw
        case rel => exact ⟨k + 1, by omega, by go_num, NX.out, Kept.trans kw kq⟩
        case measure => simp [intOf]; omega
      · have g1 : decide (fr ≤ t) = true := by simp; omega
        by_cases h2 : at_ < t
        · have g2 : decide (t ≤ at_) = false := by simp; omega
          have NX := Lib.hid (show ∀ j, j < k + 1 → ¬ InT l (at_ - window) at_ j from fun j hj => by
            rcases (show j < k ∨ j = k by omega) with g | rfl
            · exact HO.out j g
            · rw [IT.out]; omega)
          go_upto_region 7 with fail
          have B_r := Lib.hid (Kept.alln2 (show Kept wr wr from (by (repeat (first | with_reducible exact Kept.refl _ | with_reducible apply Kept.drew | with_reducible apply Kept.alloc | ((with_reducible apply Kept.set); focus (simp <;> omega)) | ((with_reducible apply Kept.via); focus with_reducible assumption))))) H_r)
          have kall : Kept w wr := (by (repeat (first | with_reducible exact Kept.refl _ | with_reducible apply Kept.drew | with_reducible apply Kept.alloc | ((with_reducible apply Kept.set); focus (simp <;> omega)) | ((with_reducible apply Kept.via); focus with_reducible assumption))))
          obtain ⟨q_r0, q_r1⟩ := kwn2 B_r
          clear B_r
          refine wp_region_kept (by kernel_rfl) (by as_aux_lemma => kernel_rfl) ?_
          repeat (go_big_quiet_step (first | (with_reducible exact kept_of (SB'.out _))))
          refine wpQuiet_nil ?_
          intro wq hw'
          have kq : Kept wr wq := by obtain ⟨p, rfl⟩ := hw'; exact p.k
          clear hw'
          clear kall
          go_wp2
          go_roundw
          case rel => exact ⟨k + 1, by omega, by go_num, NX.out, Kept.trans kw kq⟩
          case measure => simp [intOf]; omega
        · have g2 : decide (t ≤ at_) = true := by simp; omega
          have FO := Lib.hid (show n0 = m ∧ b0 = true from by
            have q := since_one HL.out (Or.inr ⟨HM.out, hw, Or.inl ⟨k, hlt', IT.out.2 (by omega), HO.out, rfl, rfl⟩⟩)
            rw [EM.out] at q
            exact q)
          go_upto_region 7 with fail
          have H_r1 := Lib.hid (H_r.out.2)
          have B_r := Lib.hid (Kept.alln2 (show Kept wr wr from (by (repeat (first | with_reducible exact Kept.refl _ | with_reducible apply Kept.drew | with_reducible apply Kept.alloc | ((with_reducible apply Kept.set); focus (simp <;> omega)) | ((with_reducible apply Kept.via); focus with_reducible assumption))))) H_r)
          have kall : Kept w wr := (by (repeat (first | with_reducible exact Kept.refl _ | with_reducible apply Kept.drew | with_reducible apply Kept.alloc | ((with_reducible apply Kept.set); focus (simp <;> omega)) | ((with_reducible apply Kept.via); focus with_reducible assumption))))
          obtain ⟨q_r0, q_r1⟩ := kwn2 B_r
          clear B_r
          refine wp_region_kept (by kernel_rfl) (by as_aux_lemma => kernel_rfl) ?_
          repeat (go_big_quiet_step (first | (with_reducible exact kept_of (SB'.out _))))
          refine wpQuiet_nil ?_
          intro wq hw'
          have kq : Kept wr wq := by obtain ⟨p, rfl⟩ := hw'; exact p.k
          clear hw'
          clear kall
          have q_r2 := kq.read H_r1.out
          go_wp2
          go_ret2
          obtain ⟨e1, e2⟩ := FO.out
          exact ⟨by rw [e1, e2]; rfl, Kept.trans kw kq⟩
    · obtain rfl : k = len := by omega
      have FO := Lib.hid (show n0 = 0 ∧ b0 = false from since_one HL.out (Or.inr ⟨HM.out, hw, Or.inr ⟨fun j hj => HO.out j (by have := HN.out; omega), rfl, rfl⟩⟩))
      go_wp2
      go_ret2
      obtain ⟨e1, e2⟩ := FO.out
      exact ⟨by rw [e1, e2]; rfl, kw⟩
theorem held_from {t at_ window : Int} (ht : IsTime t) (ha : In64 at_) (hw : 0 ≤ window) (hw2 : In64 window) : heldAt (at_ - window) ≤ t ↔ at_ - window ≤ t := by
  unfold heldAt; unfold IsTime at ht; unfold In64 at ha hw2
  repeat' split
  all_goals omega
theorem refSince8_ok (A : Option Addr) (len cap : Nat) (l : List (Int × Int)) (window at_ n : Int) (b : Bool) (hn : l.length = len) (hl : len ≤ 1099511627776) (ha : In64 at_) (hw : In64 window) (h : SinceIs l window at_ n b) (w : World) (hr : RowM w A l) : Calls Try.prog 16 #[.slice A len cap, .int .i64 window, .int .i64 at_] w fun e w' => e = .returned (.tuple #[.int .i64 n, .bool b]) ∧ Kept w w' := by
  by_cases hm : MayL l
  · have CK := fun w hr => refCheck8_ok A len cap l true hn hl (by simp [hm]) w hr
    by_cases h0 : 0 ≤ window
    · exact refSince8_all A len cap l window at_ (heldAt (at_ - window)) n b hn hl h0 (fun k hk => held_from (hm k (by omega)).1 ha h0 hw) h hm CK (fun w => subLift ha hw rfl w) w hr
    · rcases h with ⟨_, rfl, rfl⟩ | ⟨_, z, _⟩
      · exact refSince8_neg A len cap l window at_ (by omega) CK w hr
      · exact absurd z h0
  · rcases h with ⟨_, rfl, rfl⟩ | ⟨z, _⟩
    · exact refSince8_bad A len cap l window at_ (fun w hr => refCheck8_ok A len cap l false hn hl (by simp [hm]) w hr) w hr
    · exact absurd z hm
end Go.Proofs.Ytpbchcpbjflnoaa
