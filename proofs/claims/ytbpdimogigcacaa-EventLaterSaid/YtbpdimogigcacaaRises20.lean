/-
  The walk of EventRises: it answers true, if the calls do what they are to do.
-/
import Derived.Test.YtbpdimogigcacaaAwake20
import Derived.Test.YtbpdimogigcacaaRefA20
import Derived.Deep.RegionHeld3
import Derived.Deep.DeepCutAuto
namespace Go.Proofs.Ytbpdimogigcacaa
open Go.RowKit Go.BigFrame
set_option linter.unusedVariables false

/-- How many have no error. -/
def zerosV (b : List Int) : Nat := (b.filter fun x => decide (x = 0)).length
theorem zerosV_app (a b : List Int) : zerosV (a ++ b) = zerosV a + zerosV b := by unfold zerosV; rw [List.filter_append, List.length_append]
theorem zerosV_one (x : Int) : zerosV [x] = if x = 0 then 1 else 0 := by
  unfold zerosV
  by_cases h : x = 0 <;> simp [h]
theorem fold_zeros : ∀ (raw : List (List Int)) (s : List Ev × List Int), zerosV s.2 = s.1.length → zerosV (raw.foldl stepV s).2 = (raw.foldl stepV s).1.length
  | [], _, h => h
  | x :: raw, s, h => by
    refine fold_zeros raw (stepV s x) ?_
    unfold stepV
    simp only []
    rw [zerosV_app, zerosV_one, h]
    split <;> simp
theorem all_zeros (raw : List (List Int)) : zerosV (allV raw).2 = (allV raw).1.length := fold_zeros raw _ rfl
theorem zeros_next {b : List Int} {j : Nat} (h : j < b.length) : zerosV (b.take (j + 1)) = zerosV (b.take j) + if b.getD j 0 = 0 then 1 else 0 := by
  have q : b.take (j + 1) = b.take j ++ [b.getD j 0] := by rw [List.take_add_one]; simp [List.getD, h]
  rw [q, zerosV_app, zerosV_one]
theorem zeros_le (b : List Int) : zerosV b ≤ b.length := List.length_filter_le _ _
theorem may_in {e : Ev} (h : MayV e) : EvIn e := by
  unfold MayV at h
  unfold EvIn In64
  omega
theorem ok_at {l : List Ev} (h : OkV l) {j : Nat} (hj : j < l.length) : MayV (ev0 l j) := by
  have e : ev0 l j = l[j] := by simp [ev0, List.getD, hj]
  rw [e]; exact h.1 _ (List.getElem_mem _)
set_option maxRecDepth 100000 in
set_option maxHeartbeats 6400000 in
theorem rises20_many (CC : EvCheckC) (DC : EvDecC) (NC : EvEncC) (AC : EvAllC) {A2 : Option Addr} {len2 cap2 : Nat} {B : Nat → Option Addr} {C : Nat → Nat} {R : Nat → List Int} (hl2 : len2 ≤ 9223372036854775807) (hz2 : ∀ i, i < len2 → (R i).length ≤ 9223372036854775807) (no : ¬ ((∀ i, i < len2 → (R i).length ≤ 10) ∧ (len2 : Int) ≤ 100))  (w : World) (hr2 : RowS .i64 w A2 len2 B C R) : Calls Try.prog 5 #[.slice A2 len2 cap2] w fun e w' => e = .returned (.bool true) ∧ Kept w w' := by
  have CC' := Lib.hid CC
  have DC' := Lib.hid DC
  have NC' := Lib.hid NC
  have AC' := Lib.hid AC
  have AW' := Lib.hid (fun w => awake20 CC DC NC AC w)
  clear CC DC NC AC
  have FW := Lib.hid (fun w_ (h : RowS .i64 w_ A2 len2 B C R) => refFew20_ok (cap := cap2) (m := 100) (v := false) (by omega) hz2 (by simp [no]) w_ h)
  have HS := Lib.hid hr2
  clear hr2 hz2 no
  go_enter Try.func5, Try.ntmps5
  go_wp2_with fail
  refine (AW'.out _).mono ?_
  rintro e w20 ⟨rfl, k20⟩
  go_wp2_with fail
  refine (FW.out _ (HS.out.kept (by (repeat (first | with_reducible exact Kept.refl _ | with_reducible apply Kept.drew | with_reducible apply Kept.alloc | ((with_reducible apply Kept.set); focus (simp <;> omega)) | ((with_reducible apply Kept.via); focus with_reducible assumption)))))).mono ?_
  rintro e w21 ⟨rfl, k21⟩
  go_wp2
  go_ret
  exact ⟨rfl, (by (repeat (first | with_reducible exact Kept.refl _ | with_reducible apply Kept.drew | with_reducible apply Kept.alloc | ((with_reducible apply Kept.set); focus (simp <;> omega)) | ((with_reducible apply Kept.via); focus with_reducible assumption))))⟩
set_option maxRecDepth 100000 in
set_option maxHeartbeats 6400000 in
theorem rises20_all (CC : EvCheckC) (DC : EvDecC) (NC : EvEncC) (AC : EvAllC) {A2 : Option Addr} {len2 cap2 : Nat} {B : Nat → Option Addr} {C : Nat → Nat} {R : Nat → List Int} {n : Nat} {l : List Ev} {bad : List Int} (hl2 : len2 ≤ 100) (hz2 : ∀ i, i < len2 → (R i).length ≤ 10) (hs2 : SliceOk A2 len2 cap2) (hzr : ∀ i, i < len2 → ∀ x ∈ R i, In64 x) (ea : allV (firstR R len2) = (l, bad)) (hn : l.length = n) (hb : bad.length = len2)  (w : World) (hr2 : RowS .i64 w A2 len2 B C R) : Calls Try.prog 5 #[.slice A2 len2 cap2] w fun e w' => e = .returned (.bool true) ∧ Kept w w' := by
  have CC' := Lib.hid CC
  have DC' := Lib.hid DC
  have NC' := Lib.hid NC
  have AC' := Lib.hid AC
  have AW' := Lib.hid (fun w => awake20 CC DC NC AC w)
  clear CC DC NC AC
  have FW := Lib.hid (fun w_ (h : RowS .i64 w_ A2 len2 B C R) => refFew20_ok (cap := cap2) (m := 100) (v := true) (by omega) (fun i hi => by have := hz2 i hi; omega) ⟨fun _ => ⟨hz2, by omega⟩, fun _ => rfl⟩ w_ h)
  have nl : n ≤ len2 := by have := (all_len (firstR R len2)).2; rw [ea, firstR_len] at this; rw [← hn]; exact this
  have A1 := Lib.hid (fun w_ (h : RowS .i64 w_ A2 len2 B C R) => AC'.out A2 len2 cap2 B C R n l bad hs2 (by omega) hzr ea hn w_ h)
  have HB := Lib.hid hb
  have HN := Lib.hid hn
  have HZ := Lib.hid (show zerosV bad = n from by have := all_zeros (firstR R len2); rw [ea] at this; rw [← hn]; exact this)
  have HO := Lib.hid (show OkV l from by have := all_ok (firstR R len2); rw [ea] at this; exact this)
  have HS := Lib.hid hr2
  clear hr2 hz2 hs2 hzr ea hn hb
  go_enter Try.func5, Try.ntmps5
  go_wp2_with fail
  refine (AW'.out _).mono ?_
  rintro e w20 ⟨rfl, k20⟩
  go_wp2_with fail
  refine (FW.out _ (HS.out.kept (by (repeat (first | with_reducible exact Kept.refl _ | with_reducible apply Kept.drew | with_reducible apply Kept.alloc | ((with_reducible apply Kept.set); focus (simp <;> omega)) | ((with_reducible apply Kept.via); focus with_reducible assumption)))))).mono ?_
  rintro e w21 ⟨rfl, k21⟩
  go_wp2_with fail
  refine (A1.out _ (HS.out.kept (by (repeat (first | with_reducible exact Kept.refl _ | with_reducible apply Kept.drew | with_reducible apply Kept.alloc | ((with_reducible apply Kept.set); focus (simp <;> omega)) | ((with_reducible apply Kept.via); focus with_reducible assumption)))))).mono ?_
  rintro e w22 ⟨B1, c1, B2, c2, rfl, s1, s2, r1, r2, _, _, k22⟩
  have R1 := Lib.hid r1
  have R2 := Lib.hid r2
  clear r1 r2 s1 s2
  have k0 : Kept w w22 := (by (repeat (first | with_reducible exact Kept.refl _ | with_reducible apply Kept.drew | with_reducible apply Kept.alloc | ((with_reducible apply Kept.set); focus (simp <;> omega)) | ((with_reducible apply Kept.via); focus with_reducible assumption))))
  generalize w22 = w9 at *
  go_wp2
  go_loopw [6, 7] (fun s6 s7 wr => ∃ j : Nat, j ≤ len2 ∧ s6 = .int .i64 (zerosV (bad.take j) : Nat) ∧ s7 = .int .i64 j ∧ Kept w9 wr) (fun _ s7 _ => len2 - (intOf s7).toNat)
  case atStart => exact ⟨0, Nat.zero_le _, rfl, rfl, Kept.refl _⟩
  case round =>
    obtain ⟨j, hj, rfl, rfl, kw⟩ := hrel
    by_cases hlt : j < len2
    · have hltI : (j : Int) < (len2 : Int) := by omega
      have hjb : j < bad.length := by have := HB.out; omega
      have NX := Lib.hid (zeros_next hjb)
      have zb := zeros_le (bad.take j)
      rw [List.length_take] at zb
      obtain ⟨b1, o1, rfl, hc1⟩ := (R2.out.kept kw) (by omega)
      have c1 : wr.cell? ⟨b1, o1 + j, none⟩ = some (.int .i64 (bad.getD j 0)) := hc1 j hjb
      obtain ⟨x, ex⟩ : ∃ x, bad.getD j 0 = x := ⟨_, rfl⟩
      rw [ex] at c1 NX
      generalize zerosV (bad.take j) = z at *
      clear hc1 ex
      by_cases hx : x = 0
      · have d0 : (x == 0) = true := by simp [hx]
        have NX2 := Lib.hid (show zerosV (bad.take (j + 1)) = z + 1 from by rw [NX.out, if_pos hx])
        clear hx
        go_wp2
        go_roundw
        case rel => exact ⟨j + 1, by omega, by rw [NX2.out]; go_num, by go_num, kw⟩
        case measure => simp [intOf]; omega
      · have d0 : (x == 0) = false := by simp [hx]
        have NX2 := Lib.hid (show zerosV (bad.take (j + 1)) = z from by rw [NX.out, if_neg hx]; rfl)
        clear hx
        go_wp2
        go_roundw
        case rel => exact ⟨j + 1, by omega, by rw [NX2.out], by go_num, kw⟩
        case measure => simp [intOf]; omega
    · obtain rfl : j = len2 := by omega
      have ZE := Lib.hid (show zerosV (bad.take j) = n from by rw [List.take_of_length_le (by have := HB.out; omega)]; exact HZ.out)
      rw [ZE.out]
      have k9 := Kept.trans k0 kw
      have R19 := Lib.hid (R1.out.kept kw)
      generalize wr = wz at *
      go_wp2
      go_loopw [8] (fun s8 wr => ∃ i : Nat, i ≤ n ∧ s8 = .int .i64 i ∧ Kept wz wr) (fun s8 _ => n - (intOf s8).toNat)
      case atStart => exact ⟨0, Nat.zero_le _, rfl, Kept.refl _⟩
      case round =>
        obtain ⟨i, hi, rfl, kv⟩ := hrel
        by_cases hin : i < n
        · have hinI : (i : Int) < (n : Int) := by omega
          have hil : i < l.length := by have := HN.out; omega
          have MA := Lib.hid (ok_at HO.out hil)
          obtain ⟨b, off, rfl, hc⟩ := (R19.out.kept kv) (by omega)
          obtain ⟨c0, c1, c2, c3⟩ := RowV.cells hc hil
          obtain ⟨xk, xa, xb, xr, ek⟩ : ∃ xk xa xb xr : Int, ev0 l i = (xk, xa, xb, xr) := ⟨_, _, _, _, rfl⟩
          rw [ek] at c0 c1 c2 c3 MA
          dsimp only at c0 c1 c2 c3
          have EI := may_in MA.out
          have CK := Lib.hid (fun w_ => CC'.out xk xa xb xr 0 EI.1 EI.2.1 EI.2.2.1 EI.2.2.2 (chk_may.2 MA.out) w_)
          clear EI
          have H_r := Lib.hid (And.intro c0 (And.intro c1 (And.intro c2 c3)))
          clear c0 c1 c2 c3
          by_cases h0 : i = 0
          · subst h0
            clear hc ek
            have H_r0 := Lib.hid (show wr.cell? ⟨b, off, none⟩ = some (.int .i64 xk) ∧ wr.cell? ⟨b, off + 1, none⟩ = some (.int .i64 xa) ∧ wr.cell? ⟨b, off + 2, none⟩ = some (.int .i64 xb) ∧ wr.cell? ⟨b, off + 3, none⟩ = some (.int .i64 xr) from by have h := H_r.out; simpa using h)
            go_upto_region 14 with fail
            have B_r := Lib.hid (Kept.alln4 (show Kept wr wr from (by (repeat (first | with_reducible exact Kept.refl _ | with_reducible apply Kept.drew | with_reducible apply Kept.alloc | ((with_reducible apply Kept.set); focus (simp <;> omega)) | ((with_reducible apply Kept.via); focus with_reducible assumption))))) H_r0)
            have kall : Kept w wr := (by (repeat (first | with_reducible exact Kept.refl _ | with_reducible apply Kept.drew | with_reducible apply Kept.alloc | ((with_reducible apply Kept.set); focus (simp <;> omega)) | ((with_reducible apply Kept.via); focus with_reducible assumption))))
            obtain ⟨q_r0, q_r1, q_r2, q_r3⟩ := kwn4 B_r
            clear B_r
            refine wp_region_kept (by kernel_rfl) (by as_aux_lemma => kernel_rfl) ?_
            repeat (go_big_quiet_step (first | (with_reducible exact kept_of (CK.out _))))
            refine wpQuiet_nil ?_
            intro wq hw'
            have kq : Kept wr wq := by obtain ⟨p, rfl⟩ := hw'; exact p.k
            clear hw'
            clear kall
            go_wp2
            go_roundw
            case rel => exact ⟨0 + 1, by omega, by go_num, Kept.trans kv kq⟩
            case measure => simp [intOf]; omega
          · obtain ⟨p, rfl⟩ : ∃ p, i = p + 1 := ⟨i - 1, by omega⟩
            have y1 := hc p (by omega) 1 (by omega)
            obtain ⟨tl, etl⟩ : ∃ tl, (ev0 l p).2.1 = tl := ⟨_, rfl⟩
            have y2 : wr.cell? ⟨b, off + p * 4 + 1, none⟩ = some (.int .i64 tl) := by rw [← etl]; exact y1
            have ge : tl ≤ xa := by have q := HO.out.2 p (by omega); rw [ek, etl] at q; exact q
            have dd : decide (xa < tl) = false := by simp; omega
            have H_y := Lib.hid y2
            have g0 : (0 : Int) ≤ (p : Int) := by omega
            have g1 : (p : Int) < (n : Int) := by omega
            have g2 : (0 : Int) < (p : Int) + 1 := by omega
            have g3 : (p : Int) + 1 < (n : Int) := by omega
            have g4 : (0 : Int) ≤ (p : Int) + 1 := by omega
            clear hc ek y1 y2 etl
            go_upto_region 14 with fail
            have B_r := Lib.hid (Kept.alln4 (show Kept wr wr from (by (repeat (first | with_reducible exact Kept.refl _ | with_reducible apply Kept.drew | with_reducible apply Kept.alloc | ((with_reducible apply Kept.set); focus (simp <;> omega)) | ((with_reducible apply Kept.via); focus with_reducible assumption))))) H_r)
            have B_y := Lib.hid (Kept.alln1 (show Kept wr wr from (by (repeat (first | with_reducible exact Kept.refl _ | with_reducible apply Kept.drew | with_reducible apply Kept.alloc | ((with_reducible apply Kept.set); focus (simp <;> omega)) | ((with_reducible apply Kept.via); focus with_reducible assumption))))) H_y)
            have kall : Kept w wr := (by (repeat (first | with_reducible exact Kept.refl _ | with_reducible apply Kept.drew | with_reducible apply Kept.alloc | ((with_reducible apply Kept.set); focus (simp <;> omega)) | ((with_reducible apply Kept.via); focus with_reducible assumption))))
            obtain ⟨q_r0, q_r1, q_r2, q_r3⟩ := kwn4 B_r
            have q_y0 := kwn1 B_y
            clear B_r B_y
            refine wp_region_kept (by kernel_rfl) (by as_aux_lemma => kernel_rfl) ?_
            repeat (go_big_quiet_step (first | (with_reducible exact kept_of (CK.out _))))
            refine wpQuiet_nil ?_
            intro wq hw'
            have kq : Kept wr wq := by obtain ⟨p, rfl⟩ := hw'; exact p.k
            clear hw'
            clear kall
            go_wp2
            go_roundw
            case rel => exact ⟨p + 1 + 1, by omega, by go_num, Kept.trans kv kq⟩
            case measure => simp [intOf]; omega
        · obtain rfl : i = n := by omega
          go_wp2
          go_ret
          exact ⟨rfl, Kept.trans k9 kv⟩
theorem eventRises_walk (CC : EvCheckC) (DC : EvDecC) (NC : EvEncC) (AC : EvAllC) {A2 : Option Addr} {len2 cap2 : Nat} {B : Nat → Option Addr} {C : Nat → Nat} {R : Nat → List Int} (w : World) (hs2 : SliceOk A2 len2 cap2) (hzr : ∀ i, i < len2 → ∀ x ∈ R i, In64 x) (hr2 : RowS .i64 w A2 len2 B C R) : Calls Try.prog 5 #[.slice A2 len2 cap2] w fun e w' => e = .returned (.bool true) ∧ Kept w w' := by
  by_cases yes : (∀ i, i < len2 → (R i).length ≤ 10) ∧ (len2 : Int) ≤ 100
  · obtain ⟨⟨l, bad⟩, ea⟩ : ∃ s : List Ev × List Int, allV (firstR R len2) = s := ⟨_, rfl⟩
    have hb := (all_len (firstR R len2)).1
    rw [ea, firstR_len] at hb
    exact rises20_all CC DC NC AC (by omega) yes.1 hs2 hzr ea rfl hb w hr2
  · exact rises20_many CC DC NC AC (by have := hs2.1; have := hs2.2.1; omega) (fun i hi => by have := (hr2.2 i hi).1.1; have := (hr2.2 i hi).1.2.1; omega) yes w hr2
end Go.Proofs.Ytbpdimogigcacaa
