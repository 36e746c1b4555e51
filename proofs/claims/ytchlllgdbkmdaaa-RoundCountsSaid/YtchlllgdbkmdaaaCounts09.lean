/-
  The walk of RoundCounts: it answers true, if the calls do what they are to do.
-/
import Derived.Test.YtchlllgdbkmdaaaAwake09
import Derived.Deep.RegionHeld3
import Derived.Deep.DeepCutAuto
namespace Go.Proofs.Ytchlllgdbkmdaaa
open Go.RowKit Go.BigFrame
set_option linter.unusedVariables false

set_option maxRecDepth 100000 in
set_option maxHeartbeats 1600000 in
theorem counts9_long1 (BC : RBeginC) (KC_ : RAckC) (CC : RCheckC) (NC : RCountC) (A : Option Addr) (len cap : Nat) (A2 : Option Addr) (len2 cap2 : Nat)  (hl : 1000 < len) (hm : len ≤ 9223372036854775807) (w : World) : Calls Try.prog 5 #[.slice A len cap, .slice A2 len2 cap2] w fun e w' => e = .returned (.bool true) ∧ Kept w w' := by
  have BC' := Lib.hid BC
  have KC' := Lib.hid KC_
  have CC' := Lib.hid CC
  have NC' := Lib.hid NC
  have AW' := Lib.hid (fun w => awake09 BC KC_ CC NC w)
  clear BC KC_ CC NC
  have hd : decide ((1000 : Int) < (len : Int)) = true := by simp; omega
  go_enter Try.func5, Try.ntmps5
  go_wp2_with fail
  refine (AW'.out _).mono ?_
  rintro e w1 ⟨rfl, k1⟩
  go_wp2
  go_ret
  exact ⟨rfl, k1⟩
set_option maxRecDepth 100000 in
set_option maxHeartbeats 1600000 in
theorem counts9_long2 (BC : RBeginC) (KC_ : RAckC) (CC : RCheckC) (NC : RCountC) (A : Option Addr) (len cap : Nat) (A2 : Option Addr) (len2 cap2 : Nat)  (hl : len ≤ 1000) (hl2 : 1000 < len2) (hm : len2 ≤ 9223372036854775807) (w : World) : Calls Try.prog 5 #[.slice A len cap, .slice A2 len2 cap2] w fun e w' => e = .returned (.bool true) ∧ Kept w w' := by
  have BC' := Lib.hid BC
  have KC' := Lib.hid KC_
  have CC' := Lib.hid CC
  have NC' := Lib.hid NC
  have AW' := Lib.hid (fun w => awake09 BC KC_ CC NC w)
  clear BC KC_ CC NC
  have hd : decide ((1000 : Int) < (len : Int)) = false := by simp; omega
  have hd2 : decide ((1000 : Int) < (len2 : Int)) = true := by simp; omega
  go_enter Try.func5, Try.ntmps5
  go_wp2_with fail
  refine (AW'.out _).mono ?_
  rintro e w1 ⟨rfl, k1⟩
  go_wp2
  go_ret
  exact ⟨rfl, k1⟩
set_option maxRecDepth 100000 in
set_option maxHeartbeats 6400000 in
theorem ret_b9 {a b : Bool} (h : a = b) : Ending.returned (.bool a) = Ending.returned (.bool b) := by rw [h]
set_option maxRecDepth 100000 in
set_option maxHeartbeats 6400000 in
theorem counts9_short (BC : RBeginC) (KC_ : RAckC) (CC : RCheckC) (NC : RCountC) (A : Option Addr) (len cap : Nat) (A2 : Option Addr) (len2 cap2 : Nat)  (zs zs2 : List Int) (hl : len ≤ 1000) (hl2 : len2 ≤ 1000) (hc : len ≤ cap) (hcm : cap ≤ 9223372036854775807) (hc2 : len2 ≤ cap2) (hcm2 : cap2 ≤ 9223372036854775807) (hz : ∀ k, k < len → In64 (zs.getD k 0)) (hz2 : ∀ k, k < len2 → In64 (zs2.getD k 0)) (w : World) (hr : RowAt w A len (fun j => .int .i64 (zs.getD j 0))) (hr2 : RowAt w A2 len2 (fun j => .int .i64 (zs2.getD j 0))) : Calls Try.prog 5 #[.slice A len cap, .slice A2 len2 cap2] w fun e w' => e = .returned (.bool true) ∧ Kept w w' := by
  have BC' := Lib.hid BC
  have KC' := Lib.hid KC_
  have CC' := Lib.hid CC
  have NC' := Lib.hid NC
  have AW' := Lib.hid (fun w => awake09 BC KC_ CC NC w)
  clear BC KC_ CC NC
  have hd : decide ((1000 : Int) < (len : Int)) = false := by simp; omega
  have hd2 : decide ((1000 : Int) < (len2 : Int)) = false := by simp; omega
  have HR := Lib.hid hr
  have HR2 := Lib.hid hr2
  have HZ := Lib.hid hz
  have HZ2 := Lib.hid hz2
  have HC := Lib.hid (And.intro hcm hcm2)
  clear hr hr2 hz hz2 hcm hcm2
  go_enter Try.func5, Try.ntmps5
  go_wp2_with fail
  refine (AW'.out _).mono ?_
  rintro e w1 ⟨rfl, k1⟩
  go_wp2_with fail
  refine (BC'.out 0 0 (by unfold In64; omega) (by split <;> omega) _).mono ?_
  rintro e w2 ⟨rfl, k2⟩
  go_upto_region 5 with fail
  generalize hW : World.alloc w2 (.cells #[.int .i64 0, .int .i64 0] 25) = Wr
  have KWr : Kept w2 Wr := by subst hW; exact (Kept.refl _).alloc _ _
  have RWr := Lib.hid (show RD Wr w2.heap.size 0 0 from by subst hW; exact ⟨⟨by simp [go_sem], by simp [go_sem]⟩, by simp [go_sem], by simp [go_sem]⟩)
  have LWr : w2.heap.size < Wr.heap.size := by subst hW; simp
  clear hW
  have hle : w.heap.size ≤ w2.heap.size := Kept.below (Kept.trans k1 k2)
  generalize hgWr : w2.heap.size = gWr at *
  have k0 := Kept.trans (Kept.trans k1 k2) KWr
  clear k1 k2 KWr
  go_wp2
  go_loopw [7, 8] (fun nv i wr => ∃ (k : Nat) (n : Int), k ≤ len ∧ k ≤ len2 ∧ nv = .int .i64 n ∧ i = .int .i64 k ∧ n = (cntS (fun k => zs.getD k 0) (fun k => zs2.getD k 0) k).1 ∧ RD wr gWr n (cntS (fun k => zs.getD k 0) (fun k => zs2.getD k 0) k).2 ∧ Kept w wr) (fun _ i _ => len - (intOf i).toNat)
  case atStart => exact ⟨0, 0, Nat.zero_le _, Nat.zero_le _, rfl, rfl, rfl, RWr.out, k0⟩
  case round =>
    clear hd hd2 k0 LWr
    obtain ⟨k, n, hk, hk2, rfl, rfl, hn, hD, kw⟩ := hrel
    have RR := Lib.hid hD
    have CN := Lib.hid hn
    clear hD hn
    have gne := RR.out.ne
    by_cases hlt : k < len
    · by_cases hlt2 : k < len2
      · have hltI : (k : Int) < (len : Int) := by omega
        have hltI2 : (k : Int) < (len2 : Int) := by omega
        obtain ⟨b, off, eA, hc1⟩ := (HR.out.kept kw) (by omega)
        obtain ⟨b2, off2, eA2, hc3⟩ := (HR2.out.kept kw) (by omega)
        subst eA eA2
        have x1 : wr.cell? ⟨b, off + k, none⟩ = some (.int .i64 (zs.getD k 0)) := hc1 k hlt
        have x2 : wr.cell? ⟨b2, off2 + k, none⟩ = some (.int .i64 (zs2.getD k 0)) := hc3 k hlt2
        clear hc1 hc3
        obtain ⟨ov, er, hack, hov⟩ := cnt_ack (f := fun k => zs.getD k 0) (g := fun k => zs2.getD k 0) (k := k) (by omega)
        have RNG := Lib.hid (cnt_range (fun k => zs.getD k 0) (fun k => zs2.getD k 0) k)
        have RNG2 := Lib.hid (cnt_range (fun k => zs.getD k 0) (fun k => zs2.getD k 0) (k + 1))
        have IE := Lib.hid (cnt_in64 (f := fun k => zs.getD k 0) (g := fun k => zs2.getD k 0) k (fun j hj => HZ2.out j (by omega)))
        have IZ := Lib.hid (HZ.out k hlt)
        have IZ2 := Lib.hid (HZ2.out k hlt2)
        obtain ⟨en, hen⟩ : ∃ en, (cntS (fun k => zs.getD k 0) (fun k => zs2.getD k 0) k).2 = en := ⟨_, rfl⟩
        obtain ⟨id2, hid2⟩ : ∃ id2, (cntS (fun k => zs.getD k 0) (fun k => zs2.getD k 0) (k + 1)).1 = id2 := ⟨_, rfl⟩
        obtain ⟨en2, hen2⟩ : ∃ en2, (cntS (fun k => zs.getD k 0) (fun k => zs2.getD k 0) (k + 1)).2 = en2 := ⟨_, rfl⟩
        rw [← CN.out, hen, hid2, hen2] at hack
        rw [hid2] at hov
        rw [← CN.out] at hov
        rw [hen] at RR IE
        have AK := Lib.hid hack
        have E3 := Lib.hid (And.intro hid2 hen2)
        clear hack hen hid2 hen2
        have n0 : 0 ≤ n ∧ n ≤ (k : Int) := by have := RNG.out; have := CN.out; omega
        have HA := Lib.hid (HR.out.kept kw)
        have HA2 := Lib.hid (HR2.out.kept kw)
        generalize zs.getD k 0 = z at x1 AK IZ
        generalize zs2.getD k 0 = z2 at x2 AK IZ2
        obtain ⟨⟨c0, c1⟩, c2, c3⟩ := RR.out
        go_upto_region 9 with fail
        have base := Lib.hid (show wr.cell? ⟨gWr, 0, none⟩ = some (.int .i64 n) ∧ wr.cell? ⟨gWr, 1, none⟩ = some (.int .i64 en) ∧ wr.cell? ⟨b, off + k, none⟩ = some (.int .i64 z) ∧ wr.cell? ⟨b2, off2 + k, none⟩ = some (.int .i64 z2) from ⟨c0, c1, x1, x2⟩)
        go_cut [9, 10, 11] (fun s9 s10 s11 wx => ∃ g : Nat, s9 = .pointer (some ⟨g, 0, none⟩) ∧ s10 = .bool ov ∧ s11 = .int .i64 er ∧ RD wx g id2 en2 ∧ wr.heap.size ≤ g ∧ Kept wr wx)
        case first =>
          go_region_held3 (fun w' => w'.cell? ⟨gWr, 0, none⟩ = some (.int .i64 n) ∧ w'.cell? ⟨gWr, 1, none⟩ = some (.int .i64 en) ∧ w'.cell? ⟨b, off + k, none⟩ = some (.int .i64 z) ∧ w'.cell? ⟨b2, off2 + k, none⟩ = some (.int .i64 z2))
            ((refine Kept.alln4 ?_ base; focus ((repeat (first | with_reducible exact Kept.refl _ | with_reducible apply Kept.drew | with_reducible apply Kept.alloc | ((with_reducible apply Kept.set); focus (simp <;> omega)) | ((with_reducible apply Kept.via); focus with_reducible assumption))); done)))
            (first | (go_at_call 8; refine (KC'.out (n) (en) (z) (z2) (id2) (en2) (ov) (er) (by unfold In64; omega) IE.out IZ.out IZ2.out AK.out _).mono ?_; rintro e v1 ⟨rfl, i1⟩; (try (first | (with_reducible have nr := Room2.newD i1) | (with_reducible have nr := Room2.new i1) | (with_reducible have nr := Room2.kept nr i1))); have y1 := Kept.below i1; (try simp at y1); (try (obtain ⟨nx, ny, na1, na2, nb1, nb2⟩ := nr))))
          all_goals
            go_wp2_with fail
            go_meet
            exact ⟨_, rfl, rfl, rfl, ⟨⟨by simp [*, go_sem], by simp [*, go_sem]⟩, by simp [*, go_sem], by simp [*, go_sem]⟩, (by first | omega | (simp; omega)), (by (repeat (first | with_reducible exact Kept.refl _ | with_reducible apply Kept.drew | with_reducible apply Kept.alloc | ((with_reducible apply Kept.set); focus (simp <;> omega)) | ((with_reducible apply Kept.via); focus with_reducible assumption))))⟩
        obtain ⟨gq, rfl, rfl, rfl, hq, hgq, K_q⟩ := hcut
        generalize wc = W_q at *
        have RQ := Lib.hid hq
        have RR2 := Lib.hid (RR.out.kept K_q)
        have kwq := Kept.trans kw K_q
        have nn1 : ¬ gq = gWr := by omega
        have nn2 : ¬ gWr = gq := by omega
        have gle : w.heap.size ≤ gWr := by omega
        have HA3 := Lib.hid (HA.out.kept K_q)
        have HA4 := Lib.hid (HA2.out.kept K_q)
        clear hq base c0 c1 c2 c3 x1 x2 K_q
        obtain ⟨⟨c0, c1⟩, c2, c3⟩ := RR2.out
        obtain ⟨⟨d0, d1⟩, d2, d3⟩ := RQ.out
        have hci : (k : Int) + 1 ≤ (cap : Int) := by omega
        rcases hov with ⟨rfl, h2⟩ | ⟨rfl, h2⟩
        · have h3 := h2.symm
          clear h2
          subst h3
          go_wp2_with fail
          refine (NC'.out (some ⟨b, off, none⟩) (k + 1) cap zs (some ⟨b2, off2, none⟩) len2 cap2 zs2 (n + 1) (by omega) HC.out.1 hc2 HC.out.2 (fun j hj => HZ.out j (by omega)) HZ2.out (by rw [show min (k + 1) len2 = k + 1 by omega, E3.out.1]) _ ((HR.out.kept (by (repeat (first | with_reducible exact Kept.refl _ | with_reducible apply Kept.drew | with_reducible apply Kept.alloc | ((with_reducible apply Kept.set); focus (simp <;> omega)) | ((with_reducible apply Kept.via); focus with_reducible assumption))))).less (by omega)) (HR2.out.kept (by (repeat (first | with_reducible exact Kept.refl _ | with_reducible apply Kept.drew | with_reducible apply Kept.alloc | ((with_reducible apply Kept.set); focus (simp <;> omega)) | ((with_reducible apply Kept.via); focus with_reducible assumption)))))).mono ?_
          rintro e w9 ⟨rfl, k9⟩
          have RR5 := Lib.hid (RD.kept (show RD _ gWr (n + 1) en2 from ⟨⟨by simp [*, go_sem], by simp [*, go_sem]⟩, by simp [*, go_sem], by simp [*, go_sem]⟩) k9)
          have kz : Kept w w9 := (by (repeat (first | with_reducible exact Kept.refl _ | with_reducible apply Kept.drew | with_reducible apply Kept.alloc | ((with_reducible apply Kept.set); focus (simp <;> omega)) | ((with_reducible apply Kept.via); focus with_reducible assumption))))
          clear RR2 RQ c0 c1 c2 c3 d0 d1 d2 d3 HA3 HA4
          go_wp2
          go_roundw
          case rel => exact ⟨k + 1, n + 1, by omega, by omega, rfl, by go_num, E3.out.1.symm, by rw [E3.out.2]; exact RR5.out, kz⟩
          case measure => simp [intOf]; omega
        · have h3 := h2.symm
          clear h2
          subst h3
          go_wp2_with fail
          refine (NC'.out (some ⟨b, off, none⟩) (k + 1) cap zs (some ⟨b2, off2, none⟩) len2 cap2 zs2 (n) (by omega) HC.out.1 hc2 HC.out.2 (fun j hj => HZ.out j (by omega)) HZ2.out (by rw [show min (k + 1) len2 = k + 1 by omega, E3.out.1]) _ ((HR.out.kept (by (repeat (first | with_reducible exact Kept.refl _ | with_reducible apply Kept.drew | with_reducible apply Kept.alloc | ((with_reducible apply Kept.set); focus (simp <;> omega)) | ((with_reducible apply Kept.via); focus with_reducible assumption))))).less (by omega)) (HR2.out.kept (by (repeat (first | with_reducible exact Kept.refl _ | with_reducible apply Kept.drew | with_reducible apply Kept.alloc | ((with_reducible apply Kept.set); focus (simp <;> omega)) | ((with_reducible apply Kept.via); focus with_reducible assumption)))))).mono ?_
          rintro e w9 ⟨rfl, k9⟩
          have RR5 := Lib.hid (RD.kept (show RD _ gWr (n) en2 from ⟨⟨by simp [*, go_sem], by simp [*, go_sem]⟩, by simp [*, go_sem], by simp [*, go_sem]⟩) k9)
          have kz : Kept w w9 := (by (repeat (first | with_reducible exact Kept.refl _ | with_reducible apply Kept.drew | with_reducible apply Kept.alloc | ((with_reducible apply Kept.set); focus (simp <;> omega)) | ((with_reducible apply Kept.via); focus with_reducible assumption))))
          clear RR2 RQ c0 c1 c2 c3 d0 d1 d2 d3 HA3 HA4
          go_wp2
          go_roundw
          case rel => exact ⟨k + 1, n, by omega, by omega, rfl, by go_num, E3.out.1.symm, by rw [E3.out.2]; exact RR5.out, kz⟩
          case measure => simp [intOf]; omega
      · obtain rfl : k = len2 := by omega
        have g2 : decide ((k : Int) < (k : Int)) = false := by simp
        obtain ⟨⟨c0, c1⟩, c2, c3⟩ := RR.out
        have RNG := Lib.hid (cnt_range (fun k => zs.getD k 0) (fun k => zs2.getD k 0) k)
        have dle : decide (n ≤ (k : Int)) = true := by have := RNG.out; have := CN.out; simp; omega
        have c0' := c0
        clear c1 c2 c3
        go_wp2_with fail
        refine (NC'.out A len cap zs A2 k cap2 zs2 n hc HC.out.1 hc2 HC.out.2 HZ.out HZ2.out (by rw [CN.out, show min len k = k by omega]) _ (HR.out.kept kw) (HR2.out.kept kw)).mono ?_
        rintro e w9 ⟨rfl, k9⟩
        have c0 := k9.read c0'
        clear c0'
        go_wp2
        all_goals
          go_ret
          exact ⟨ret_b9 (by simp <;> omega), Kept.trans kw k9⟩
    · obtain rfl : k = len := by omega
      have g2 : decide ((k : Int) < (k : Int)) = false := by simp
      obtain ⟨⟨c0, c1⟩, c2, c3⟩ := RR.out
      have RNG := Lib.hid (cnt_range (fun k => zs.getD k 0) (fun k => zs2.getD k 0) k)
      have dle : decide (n ≤ (k : Int)) = true := by have := RNG.out; have := CN.out; simp; omega
      have c0' := c0
      clear c1 c2 c3
      go_wp2_with fail
      refine (NC'.out A k cap zs A2 len2 cap2 zs2 n hc HC.out.1 hc2 HC.out.2 HZ.out HZ2.out (by rw [CN.out, show min k len2 = k by omega]) _ (HR.out.kept kw) (HR2.out.kept kw)).mono ?_
      rintro e w9 ⟨rfl, k9⟩
      have c0 := k9.read c0'
      clear c0'
      go_wp2
      all_goals
        go_ret
        exact ⟨ret_b9 (by simp <;> omega), Kept.trans kw k9⟩
theorem roundCounts_walk (BC : RBeginC) (KC_ : RAckC) (CC : RCheckC) (NC : RCountC) (A : Option Addr) (len cap : Nat) (zs : List Int) (A2 : Option Addr) (len2 cap2 : Nat) (zs2 : List Int) (w : World) (hn : zs.length = len) (hn2 : zs2.length = len2) (hc : len ≤ cap) (hcm : cap ≤ 9223372036854775807) (hc2 : len2 ≤ cap2) (hcm2 : cap2 ≤ 9223372036854775807) (hz : ∀ n ∈ zs, In64 n) (hz2 : ∀ n ∈ zs2, In64 n) (hr : RowAt w A len (fun j => .int .i64 (zs.getD j 0))) (hr2 : RowAt w A2 len2 (fun j => .int .i64 (zs2.getD j 0))) : Calls Try.prog 5 #[.slice A len cap, .slice A2 len2 cap2] w fun e w' => e = .returned (.bool true) ∧ Kept w w' := by
  have key : ∀ (ys : List Int) (n : Nat), ys.length = n → (∀ x ∈ ys, In64 x) → ∀ k, k < n → In64 (ys.getD k 0) := fun ys n hl h k hk => by
    have : ys.getD k 0 = ys[k] := by simp [List.getD, show k < ys.length by omega]
    rw [this]; exact h _ (List.getElem_mem _)
  by_cases h1 : len ≤ 1000
  · by_cases h2 : len2 ≤ 1000
    · exact counts9_short BC KC_ CC NC A len cap A2 len2 cap2 zs zs2 h1 h2 hc hcm hc2 hcm2 (key zs len hn hz) (key zs2 len2 hn2 hz2) w hr hr2
    · exact counts9_long2 BC KC_ CC NC A len cap A2 len2 cap2 h1 (by omega) (by omega) w
  · exact counts9_long1 BC KC_ CC NC A len cap A2 len2 cap2 (by omega) (by omega) w
end Go.Proofs.Ytchlllgdbkmdaaa
