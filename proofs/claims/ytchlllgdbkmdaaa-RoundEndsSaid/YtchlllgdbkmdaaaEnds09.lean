/-
  The walk of RoundEnds: it answers true, if the calls do what they are to do.
-/
import Derived.Test.YtchlllgdbkmdaaaAwake09
import Derived.Deep.DeepCutAuto
namespace Go.Proofs.Ytchlllgdbkmdaaa
open Go.RowKit Go.BigFrame
set_option linter.unusedVariables false

set_option maxRecDepth 100000 in
set_option maxHeartbeats 3200000 in
theorem ends9_over (BC : RBeginC) (KC_ : RAckC) (CC : RCheckC) (NC : RCountC) {id en told more : Int} (i0 : 0 ≤ id) (i1 : id ≤ 4294967295) (e0 : 0 ≤ en) (e1 : en ≤ 4294967295) (t0 : 0 ≤ told) (t1 : told ≤ 4294967295) (m0 : 0 ≤ more) (m1 : more ≤ 4294967295) (h : en ≤ told) (w : World) : Calls Try.prog 4 #[.int .u32 id, .int .u32 en, .int .u32 told, .int .u32 more] w fun e w' => e = .returned (.bool true) ∧ Kept w w' := by
  have BC' := Lib.hid BC
  have KC' := Lib.hid KC_
  have CC' := Lib.hid CC
  have NC' := Lib.hid NC
  have AW' := Lib.hid (fun w => awake09 BC KC_ CC NC w)
  clear BC KC_ CC NC
  go_enter Try.func4, Try.ntmps4
  go_wp2_with fail
  refine (AW'.out _).mono ?_
  rintro e w1 ⟨rfl, k1⟩
  go_upto_region 3 with fail
  generalize hW : World.alloc w1 (.cells #[.int .i64 id, .int .i64 en] 25) = Wr
  have KWr : Kept w1 Wr := by subst hW; exact (Kept.refl _).alloc _ _
  have RWr := Lib.hid (show RD Wr w1.heap.size id en from by subst hW; exact ⟨⟨by simp [go_sem], by simp [go_sem]⟩, by simp [go_sem], by simp [go_sem]⟩)
  have LWr : w1.heap.size < Wr.heap.size := by subst hW; simp
  clear hW
  generalize hgWr : w1.heap.size = gWr at *
  obtain ⟨⟨c0, c1⟩, c2, c3⟩ := RWr.out
  go_wp2_with fail
  refine (KC'.out (id) (en) (en) (en + more) (id + 1) (en + more) (true) (0) (by unfold In64; omega) (by unfold In64; omega) (by unfold In64; omega) (by unfold In64; omega) (Or.inr (Or.inr (Or.inl ⟨⟨by omega, by omega, by omega, by omega⟩, by omega, by omega, rfl, rfl, rfl, rfl⟩))) _).mono ?_
  rintro e w2 ⟨rfl, k2⟩
  clear c0 c1 c2 c3
  have RR2 := Lib.hid (RWr.out.kept k2)
  go_upto_region 4 with fail
  generalize hW : World.alloc w2 (.cells #[.int .i64 (id + 1), .int .i64 (en + more)] 25) = Ws
  have KWs : Kept w2 Ws := by subst hW; exact (Kept.refl _).alloc _ _
  have RWs := Lib.hid (show RD Ws w2.heap.size (id + 1) (en + more) from by subst hW; exact ⟨⟨by simp [go_sem], by simp [go_sem]⟩, by simp [go_sem], by simp [go_sem]⟩)
  have LWs : w2.heap.size < Ws.heap.size := by subst hW; simp
  clear hW
  generalize hgWs : w2.heap.size = gWs at *
  have RR3 := Lib.hid (RR2.out.kept KWs)
  obtain ⟨⟨c0, c1⟩, c2, c3⟩ := RR3.out
  go_wp2_with fail
  refine (KC'.out (id) (en) (told) (told + more) (id + 1) (told + more) (true) (0) (by unfold In64; omega) (by unfold In64; omega) (by unfold In64; omega) (by unfold In64; omega) (Or.inr (Or.inr (Or.inl ⟨⟨by omega, by omega, by omega, by omega⟩, by omega, by omega, rfl, rfl, rfl, rfl⟩))) _).mono ?_
  rintro e w3 ⟨rfl, k3⟩
  clear c0 c1 c2 c3
  have RS4 := Lib.hid (RWs.out.kept k3)
  have RR4 := Lib.hid (RR3.out.kept k3)
  go_upto_region 5 with fail
  generalize hW : World.alloc w3 (.cells #[.int .i64 (id + 1), .int .i64 (told + more)] 25) = Wt
  have KWt : Kept w3 Wt := by subst hW; exact (Kept.refl _).alloc _ _
  have RWt := Lib.hid (show RD Wt w3.heap.size (id + 1) (told + more) from by subst hW; exact ⟨⟨by simp [go_sem], by simp [go_sem]⟩, by simp [go_sem], by simp [go_sem]⟩)
  have LWt : w3.heap.size < Wt.heap.size := by subst hW; simp
  clear hW
  generalize hgWt : w3.heap.size = gWt at *
  have RS5 := Lib.hid (RS4.out.kept KWt)
  have RR5 := Lib.hid (RR4.out.kept KWt)
  obtain ⟨⟨c0, c1⟩, c2, c3⟩ := RS5.out
  obtain ⟨⟨d0, d1⟩, d2, d3⟩ := RR5.out
  obtain ⟨⟨f0, f1⟩, f2, f3⟩ := RWt.out
  have kz := Kept.trans (Kept.trans (Kept.trans k1 KWr) (Kept.trans k2 KWs)) (Kept.trans k3 KWt)
  go_wp2
  go_ret
  exact ⟨rfl, (by (repeat (first | with_reducible exact Kept.refl _ | with_reducible apply Kept.drew | with_reducible apply Kept.alloc | ((with_reducible apply Kept.set); focus (simp <;> omega)) | ((with_reducible apply Kept.via); focus with_reducible assumption))))⟩
set_option maxRecDepth 100000 in
set_option maxHeartbeats 3200000 in
theorem ends9_early (BC : RBeginC) (KC_ : RAckC) (CC : RCheckC) (NC : RCountC) {id en told more : Int} (i0 : 0 ≤ id) (i1 : id ≤ 4294967295) (e0 : 0 ≤ en) (e1 : en ≤ 4294967295) (t0 : 0 ≤ told) (t1 : told ≤ 4294967295) (m0 : 0 ≤ more) (m1 : more ≤ 4294967295) (h : told < en) (w : World) : Calls Try.prog 4 #[.int .u32 id, .int .u32 en, .int .u32 told, .int .u32 more] w fun e w' => e = .returned (.bool true) ∧ Kept w w' := by
  have BC' := Lib.hid BC
  have KC' := Lib.hid KC_
  have CC' := Lib.hid CC
  have NC' := Lib.hid NC
  have AW' := Lib.hid (fun w => awake09 BC KC_ CC NC w)
  clear BC KC_ CC NC
  have dt : decide (en ≤ told) = false := by simp; omega
  go_enter Try.func4, Try.ntmps4
  go_wp2_with fail
  refine (AW'.out _).mono ?_
  rintro e w1 ⟨rfl, k1⟩
  go_upto_region 3 with fail
  generalize hW : World.alloc w1 (.cells #[.int .i64 id, .int .i64 en] 25) = Wr
  have KWr : Kept w1 Wr := by subst hW; exact (Kept.refl _).alloc _ _
  have RWr := Lib.hid (show RD Wr w1.heap.size id en from by subst hW; exact ⟨⟨by simp [go_sem], by simp [go_sem]⟩, by simp [go_sem], by simp [go_sem]⟩)
  have LWr : w1.heap.size < Wr.heap.size := by subst hW; simp
  clear hW
  generalize hgWr : w1.heap.size = gWr at *
  obtain ⟨⟨c0, c1⟩, c2, c3⟩ := RWr.out
  go_wp2_with fail
  refine (KC'.out (id) (en) (en) (en + more) (id + 1) (en + more) (true) (0) (by unfold In64; omega) (by unfold In64; omega) (by unfold In64; omega) (by unfold In64; omega) (Or.inr (Or.inr (Or.inl ⟨⟨by omega, by omega, by omega, by omega⟩, by omega, by omega, rfl, rfl, rfl, rfl⟩))) _).mono ?_
  rintro e w2 ⟨rfl, k2⟩
  clear c0 c1 c2 c3
  have RR2 := Lib.hid (RWr.out.kept k2)
  go_upto_region 4 with fail
  generalize hW : World.alloc w2 (.cells #[.int .i64 (id + 1), .int .i64 (en + more)] 25) = Ws
  have KWs : Kept w2 Ws := by subst hW; exact (Kept.refl _).alloc _ _
  have RWs := Lib.hid (show RD Ws w2.heap.size (id + 1) (en + more) from by subst hW; exact ⟨⟨by simp [go_sem], by simp [go_sem]⟩, by simp [go_sem], by simp [go_sem]⟩)
  have LWs : w2.heap.size < Ws.heap.size := by subst hW; simp
  clear hW
  generalize hgWs : w2.heap.size = gWs at *
  have RR3 := Lib.hid (RR2.out.kept KWs)
  obtain ⟨⟨c0, c1⟩, c2, c3⟩ := RR3.out
  go_wp2_with fail
  refine (KC'.out (id) (en) (told) (told + more) (id) (en) (false) (0) (by unfold In64; omega) (by unfold In64; omega) (by unfold In64; omega) (by unfold In64; omega) (Or.inr (Or.inr (Or.inr ⟨⟨by omega, by omega, by omega, by omega⟩, by omega, rfl, rfl, rfl, rfl⟩))) _).mono ?_
  rintro e w3 ⟨rfl, k3⟩
  clear c0 c1 c2 c3
  have RS4 := Lib.hid (RWs.out.kept k3)
  have RR4 := Lib.hid (RR3.out.kept k3)
  go_upto_region 5 with fail
  generalize hW : World.alloc w3 (.cells #[.int .i64 (id), .int .i64 (en)] 25) = Wt
  have KWt : Kept w3 Wt := by subst hW; exact (Kept.refl _).alloc _ _
  have RWt := Lib.hid (show RD Wt w3.heap.size (id) (en) from by subst hW; exact ⟨⟨by simp [go_sem], by simp [go_sem]⟩, by simp [go_sem], by simp [go_sem]⟩)
  have LWt : w3.heap.size < Wt.heap.size := by subst hW; simp
  clear hW
  generalize hgWt : w3.heap.size = gWt at *
  have RS5 := Lib.hid (RS4.out.kept KWt)
  have RR5 := Lib.hid (RR4.out.kept KWt)
  obtain ⟨⟨c0, c1⟩, c2, c3⟩ := RS5.out
  obtain ⟨⟨d0, d1⟩, d2, d3⟩ := RR5.out
  obtain ⟨⟨f0, f1⟩, f2, f3⟩ := RWt.out
  have kz := Kept.trans (Kept.trans (Kept.trans k1 KWr) (Kept.trans k2 KWs)) (Kept.trans k3 KWt)
  go_wp2
  go_ret
  exact ⟨rfl, (by (repeat (first | with_reducible exact Kept.refl _ | with_reducible apply Kept.drew | with_reducible apply Kept.alloc | ((with_reducible apply Kept.set); focus (simp <;> omega)) | ((with_reducible apply Kept.via); focus with_reducible assumption))))⟩
theorem roundEnds_walk (BC : RBeginC) (KC_ : RAckC) (CC : RCheckC) (NC : RCountC) (id en told more : Int) (w : World) (hi : 0 ≤ id ∧ id ≤ 4294967295) (he : 0 ≤ en ∧ en ≤ 4294967295) (ht : 0 ≤ told ∧ told ≤ 4294967295) (hm : 0 ≤ more ∧ more ≤ 4294967295) : Calls Try.prog 4 #[.int .u32 id, .int .u32 en, .int .u32 told, .int .u32 more] w fun e w' => e = .returned (.bool true) ∧ Kept w w' := by
  by_cases h : en ≤ told
  · exact ends9_over BC KC_ CC NC hi.1 hi.2 he.1 he.2 ht.1 ht.2 hm.1 hm.2 h w
  · exact ends9_early BC KC_ CC NC hi.1 hi.2 he.1 he.2 ht.1 ht.2 hm.1 hm.2 (by omega) w
end Go.Proofs.Ytchlllgdbkmdaaa
