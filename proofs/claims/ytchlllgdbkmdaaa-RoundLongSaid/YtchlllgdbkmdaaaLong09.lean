/-
  The walk of RoundLong: it answers true, if the calls do what they are to do.
-/
import Derived.Test.YtchlllgdbkmdaaaAwake09
import Derived.Deep.DeepCutAuto
namespace Go.Proofs.Ytchlllgdbkmdaaa
open Go.RowKit Go.BigFrame
set_option linter.unusedVariables false

set_option maxRecDepth 100000 in
set_option maxHeartbeats 1600000 in
theorem long9_long (BC : RBeginC) (KC_ : RAckC) (CC : RCheckC) (NC : RCountC) (A : Option Addr) (len cap : Nat) (hl : 1000 < len) (hm : len ≤ 9223372036854775807) (w : World) : Calls Try.prog 3 #[.slice A len cap] w fun e w' => e = .returned (.bool true) ∧ Kept w w' := by
  have BC' := Lib.hid BC
  have KC' := Lib.hid KC_
  have CC' := Lib.hid CC
  have NC' := Lib.hid NC
  have AW' := Lib.hid (fun w => awake09 BC KC_ CC NC w)
  clear BC KC_ CC NC
  have hd : decide ((1000 : Int) < (len : Int)) = true := by simp; omega
  go_enter Try.func3, Try.ntmps3
  go_wp2_with fail
  refine (AW'.out _).mono ?_
  rintro e w1 ⟨rfl, k1⟩
  go_wp2
  go_ret
  exact ⟨rfl, k1⟩
set_option maxRecDepth 100000 in
set_option maxHeartbeats 6400000 in
theorem long9_short (BC : RBeginC) (KC_ : RAckC) (CC : RCheckC) (NC : RCountC) (A : Option Addr) (len cap : Nat) (zs : List Int) (hl : len ≤ 1000) (hz : ∀ k, k < len → 0 ≤ zs.getD k 0 ∧ zs.getD k 0 ≤ 255) (w : World) (hr : RowAt w A len (fun j => .int .u8 (zs.getD j 0))) : Calls Try.prog 3 #[.slice A len cap] w fun e w' => e = .returned (.bool true) ∧ Kept w w' := by
  have BC' := Lib.hid BC
  have KC' := Lib.hid KC_
  have CC' := Lib.hid CC
  have NC' := Lib.hid NC
  have AW' := Lib.hid (fun w => awake09 BC KC_ CC NC w)
  clear BC KC_ CC NC
  have hd : decide ((1000 : Int) < (len : Int)) = false := by simp; omega
  have HR := Lib.hid hr
  have HZ := Lib.hid hz
  clear hr hz
  go_enter Try.func3, Try.ntmps3
  go_wp2_with fail
  refine (AW'.out _).mono ?_
  rintro e w1 ⟨rfl, k1⟩
  go_wp2_with fail
  refine (BC'.out 0 0 (by unfold In64; omega) (by split <;> omega) _).mono ?_
  rintro e w2 ⟨rfl, k2⟩
  go_upto_region 5 with fail
  generalize hW : World.alloc w2 (.cells #[.int .i64 0, .int .i64 0] 25) = Wr
  have KWr : Kept w2 Wr := by subst hW; exact (Kept.refl _).alloc _ _
  have RWr := Lib.hid (show RD Wr w2.heap.size 0 0 from by subst hW; exact ⟨⟨by simp [go_sem], by simp [go_sem]⟩, by simp [go_sem], by simp [go_sem]⟩)
  have LWr : w2.heap.size < Wr.heap.size := by subst hW; simp
  clear hW
  have hle : w.heap.size ≤ w2.heap.size := Kept.below (Kept.trans k1 k2)
  generalize hgWr : w2.heap.size = gWr at *
  have k0 := Kept.trans (Kept.trans k1 k2) KWr
  clear k1 k2 KWr
  go_wp2
  go_loopw [5, 6, 7] (fun sv tv i wr => ∃ (k : Nat) (s t id en : Int), k ≤ len ∧ sv = .int .i64 s ∧ tv = .int .i64 t ∧ i = .int .i64 k ∧ 0 ≤ t ∧ t ≤ s ∧ s ≤ 255 * (k : Int) ∧ 0 ≤ id ∧ id ≤ (k : Int) ∧ 0 ≤ en ∧ en ≤ s ∧ RD wr gWr id en ∧ Kept w wr) (fun _ _ i _ => len - (intOf i).toNat)
  case atStart => exact ⟨0, 0, 0, 0, 0, Nat.zero_le _, rfl, rfl, rfl, by omega, by omega, by omega, by omega, by omega, by omega, by omega, RWr.out, k0⟩
  case round =>
    clear hd k0 LWr
    obtain ⟨k, s, t, id, en, hk, rfl, rfl, rfl, t0, ts, sk, i0, ik, n0, ns, hD, kw⟩ := hrel
    have RR := Lib.hid hD
    clear hD
    by_cases hlt : k < len
    · have hltI : (k : Int) < (len : Int) := by omega
      obtain ⟨b, off, rfl, hc⟩ := (HR.out.kept kw) (by omega)
      have c1 : wr.cell? ⟨b, off + k, none⟩ = some (.int .u8 (zs.getD k 0)) := hc k hlt
      have hz := HZ.out k hlt
      clear hc
      generalize zs.getD k 0 = z at *
      obtain ⟨z0, z1⟩ := hz
      have wz : IntKind.i64.wrap z = z := by rw [IntKind.wrap_i64]; omega
      by_cases hev : z % 2 = 0
      · have dv : (z % 2 == 0) = true := by simp [hev]
        go_wp2
        go_roundw
        case rel => exact ⟨k + 1, s + z, t, id, en, by omega, rfl, rfl, by go_num, by omega, by omega, by omega, by omega, by omega, by omega, by omega, RR.out, kw⟩
        case measure => simp [intOf]; omega
      · have dv : (z % 2 == 0) = false := by simp [hev]
        obtain ⟨t2, ht2, h20, h21, h22⟩ : ∃ t2, (if t + z < s then t + z else s) = t2 ∧ 0 ≤ t2 ∧ t2 ≤ s ∧ t ≤ t2 := ⟨_, rfl, by split <;> omega, by split <;> omega, by split <;> omega⟩
        clear hev
        have gne := RR.out.ne
        by_cases ho : en ≤ t2
        · have d1 : decide (s < s) = false := by simp
          have d3 : decide (id + 1 < id) = false := by simp; omega
          by_cases h5 : t2 = s
          · have d2 : (t2 == s) = true := by simp [h5]
            clear h5
            go_upto_region 13 with fail
            clear c1
            obtain ⟨⟨c0, c1⟩, c2, c3⟩ := RR.out
            go_wp2_with fail
            refine (KC'.out (id) (en) (t2) (s) (id + 1) (s) (true) (0) (by unfold In64; omega) (by unfold In64; omega) (by unfold In64; omega) (by unfold In64; omega) (Or.inr (Or.inr (Or.inl ⟨⟨by omega, by omega, by omega, by omega⟩, by omega, by omega, rfl, rfl, rfl, rfl⟩))) _).mono ?_
            rintro e w3 ⟨rfl, k3⟩
            clear c0 c1 c2 c3
            have RR3 := Lib.hid (RR.out.kept k3)
            have g3 : gWr < w3.heap.size := Nat.lt_of_lt_of_le gne (Kept.below k3)
            have hle3 : w.heap.size ≤ w3.heap.size := Kept.below (Kept.trans kw k3)
            go_upto_region 14 with fail
            generalize hW : World.alloc w3 (.cells #[.int .i64 (id + 1), .int .i64 s] 25) = Ws
            have KWs : Kept w3 Ws := by subst hW; exact (Kept.refl _).alloc _ _
            have RWs := Lib.hid (show RD Ws w3.heap.size (id + 1) s from by subst hW; exact ⟨⟨by simp [go_sem], by simp [go_sem]⟩, by simp [go_sem], by simp [go_sem]⟩)
            have LWs : w3.heap.size < Ws.heap.size := by subst hW; simp
            clear hW
            generalize hgWs : w3.heap.size = gWs at *
            have RR4 := Lib.hid (RR3.out.kept KWs)
            obtain ⟨⟨c0, c1⟩, c2, c3⟩ := RR4.out
            obtain ⟨⟨f0, f1⟩, f2, f3⟩ := RWs.out
            have nn1 : ¬ gWr = gWs := by omega
            have nn2 : ¬ gWs = gWr := by omega
            have kz := Kept.trans (Kept.trans kw k3) KWs
            go_wp2
            go_roundw
            case rel => exact ⟨k + 1, s, t2, id + 1, s, by omega, rfl, rfl, by go_num, by omega, by omega, by omega, by omega, by omega, by omega, by omega, ⟨⟨by simp [*, go_sem], by simp [*, go_sem]⟩, by simp [*, go_sem], by simp [*, go_sem]⟩, (by (repeat (first | with_reducible exact Kept.refl _ | with_reducible apply Kept.drew | with_reducible apply Kept.alloc | ((with_reducible apply Kept.set); focus (simp <;> omega)) | ((with_reducible apply Kept.via); focus with_reducible assumption))))⟩
            case measure => simp [intOf]; omega
          · have d2 : (t2 == s) = false := by simp [h5]
            clear h5
            go_upto_region 13 with fail
            clear c1
            obtain ⟨⟨c0, c1⟩, c2, c3⟩ := RR.out
            go_wp2_with fail
            refine (KC'.out (id) (en) (t2) (s) (id + 1) (s) (true) (0) (by unfold In64; omega) (by unfold In64; omega) (by unfold In64; omega) (by unfold In64; omega) (Or.inr (Or.inr (Or.inl ⟨⟨by omega, by omega, by omega, by omega⟩, by omega, by omega, rfl, rfl, rfl, rfl⟩))) _).mono ?_
            rintro e w3 ⟨rfl, k3⟩
            clear c0 c1 c2 c3
            have RR3 := Lib.hid (RR.out.kept k3)
            have g3 : gWr < w3.heap.size := Nat.lt_of_lt_of_le gne (Kept.below k3)
            have hle3 : w.heap.size ≤ w3.heap.size := Kept.below (Kept.trans kw k3)
            go_upto_region 14 with fail
            generalize hW : World.alloc w3 (.cells #[.int .i64 (id + 1), .int .i64 s] 25) = Ws
            have KWs : Kept w3 Ws := by subst hW; exact (Kept.refl _).alloc _ _
            have RWs := Lib.hid (show RD Ws w3.heap.size (id + 1) s from by subst hW; exact ⟨⟨by simp [go_sem], by simp [go_sem]⟩, by simp [go_sem], by simp [go_sem]⟩)
            have LWs : w3.heap.size < Ws.heap.size := by subst hW; simp
            clear hW
            generalize hgWs : w3.heap.size = gWs at *
            have RR4 := Lib.hid (RR3.out.kept KWs)
            obtain ⟨⟨c0, c1⟩, c2, c3⟩ := RR4.out
            obtain ⟨⟨f0, f1⟩, f2, f3⟩ := RWs.out
            have nn1 : ¬ gWr = gWs := by omega
            have nn2 : ¬ gWs = gWr := by omega
            have kz := Kept.trans (Kept.trans kw k3) KWs
            go_wp2
            go_roundw
            case rel => exact ⟨k + 1, s, t2, id + 1, s, by omega, rfl, rfl, by go_num, by omega, by omega, by omega, by omega, by omega, by omega, by omega, ⟨⟨by simp [*, go_sem], by simp [*, go_sem]⟩, by simp [*, go_sem], by simp [*, go_sem]⟩, (by (repeat (first | with_reducible exact Kept.refl _ | with_reducible apply Kept.drew | with_reducible apply Kept.alloc | ((with_reducible apply Kept.set); focus (simp <;> omega)) | ((with_reducible apply Kept.via); focus with_reducible assumption))))⟩
            case measure => simp [intOf]; omega
        · have d1 : decide (s < en) = false := by simp; omega
          have d2 : (t2 == s) = false := by simp; omega
          have d3 : decide (id < id) = false := by simp
          go_upto_region 13 with fail
          clear c1
          obtain ⟨⟨c0, c1⟩, c2, c3⟩ := RR.out
          go_wp2_with fail
          refine (KC'.out (id) (en) (t2) (s) (id) (en) (false) (0) (by unfold In64; omega) (by unfold In64; omega) (by unfold In64; omega) (by unfold In64; omega) (Or.inr (Or.inr (Or.inr ⟨⟨by omega, by omega, by omega, by omega⟩, by omega, rfl, rfl, rfl, rfl⟩))) _).mono ?_
          rintro e w3 ⟨rfl, k3⟩
          clear c0 c1 c2 c3
          have RR3 := Lib.hid (RR.out.kept k3)
          have g3 : gWr < w3.heap.size := Nat.lt_of_lt_of_le gne (Kept.below k3)
          have hle3 : w.heap.size ≤ w3.heap.size := Kept.below (Kept.trans kw k3)
          go_upto_region 14 with fail
          generalize hW : World.alloc w3 (.cells #[.int .i64 id, .int .i64 en] 25) = Ws
          have KWs : Kept w3 Ws := by subst hW; exact (Kept.refl _).alloc _ _
          have RWs := Lib.hid (show RD Ws w3.heap.size id en from by subst hW; exact ⟨⟨by simp [go_sem], by simp [go_sem]⟩, by simp [go_sem], by simp [go_sem]⟩)
          have LWs : w3.heap.size < Ws.heap.size := by subst hW; simp
          clear hW
          generalize hgWs : w3.heap.size = gWs at *
          have RR4 := Lib.hid (RR3.out.kept KWs)
          obtain ⟨⟨c0, c1⟩, c2, c3⟩ := RR4.out
          obtain ⟨⟨f0, f1⟩, f2, f3⟩ := RWs.out
          have nn1 : ¬ gWr = gWs := by omega
          have nn2 : ¬ gWs = gWr := by omega
          have kz := Kept.trans (Kept.trans kw k3) KWs
          go_wp2
          go_roundw
          case rel => exact ⟨k + 1, s, t2, id, en, by omega, rfl, rfl, by go_num, by omega, by omega, by omega, by omega, by omega, by omega, by omega, ⟨⟨by simp [*, go_sem], by simp [*, go_sem]⟩, by simp [*, go_sem], by simp [*, go_sem]⟩, (by (repeat (first | with_reducible exact Kept.refl _ | with_reducible apply Kept.drew | with_reducible apply Kept.alloc | ((with_reducible apply Kept.set); focus (simp <;> omega)) | ((with_reducible apply Kept.via); focus with_reducible assumption))))⟩
          case measure => simp [intOf]; omega
    · obtain rfl : k = len := by omega
      obtain ⟨⟨c0, c1⟩, c2, c3⟩ := RR.out
      go_wp2_with fail
      refine (CC'.out id en true (by unfold In64; omega) (by unfold In64; omega) (by simp; omega) _).mono ?_
      rintro e w3 ⟨rfl, k3⟩
      go_wp2
      go_ret
      exact ⟨rfl, Kept.trans kw k3⟩
theorem roundLong_walk (BC : RBeginC) (KC_ : RAckC) (CC : RCheckC) (NC : RCountC) (A : Option Addr) (len cap : Nat) (zs : List Int) (w : World) (hlen : zs.length = len) (hm : len ≤ 9223372036854775807) (hz : ∀ n ∈ zs, 0 ≤ n ∧ n ≤ 255) (hr : RowAt w A len (fun j => .int .u8 (zs.getD j 0))) : Calls Try.prog 3 #[.slice A len cap] w fun e w' => e = .returned (.bool true) ∧ Kept w w' := by
  by_cases h : len ≤ 1000
  · refine long9_short BC KC_ CC NC A len cap zs h (fun k hk => ?_) w hr
    have : zs.getD k 0 = zs[k] := by simp [List.getD, show k < zs.length by omega]
    rw [this]; exact hz _ (List.getElem_mem _)
  · exact long9_long BC KC_ CC NC A len cap (by omega) hm w
end Go.Proofs.Ytchlllgdbkmdaaa
