/-
  The walk of EventTells: it answers true, if the calls do what they are to do.
-/
import Derived.Test.YtbpdimogigcacaaAwake20
import Derived.Test.YtbpdimogigcacaaRefB20
import Derived.Laws.StructEq
import Derived.Deep.RegionHeld3
import Derived.Deep.DeepCutAuto
namespace Go.Proofs.Ytbpdimogigcacaa
open Go.RowKit Go.BigFrame
set_option linter.unusedVariables false

set_option maxRecDepth 100000 in
set_option maxHeartbeats 1600000 in
theorem tells20_long (CC : EvCheckC) (DC : EvDecC) (NC : EvEncC) (AC : EvAllC) {k a b r : Int} {A A2 : Option Addr} {len cap len2 cap2 : Nat} {zs : List Int} {B : Nat → Option Addr} {C : Nat → Nat} {R : Nat → List Int} (hl : 10 < len) (w : World) : Calls Try.prog 3 #[.agg #[.int .i64 k, .int .i64 a, .int .i64 b, .int .i64 r], .slice A len cap, .slice A2 len2 cap2] w fun e w' => e = .returned (.bool true) ∧ Kept w w' := by
  have CC' := Lib.hid CC
  have DC' := Lib.hid DC
  have NC' := Lib.hid NC
  have AC' := Lib.hid AC
  have AW' := Lib.hid (fun w => awake20 CC DC NC AC w)
  clear CC DC NC AC
  have d0 : decide ((10 : Int) < (len : Int)) = true := decide_eq_true (by omega)
  have d1 : (10 : Int) < (len : Int) := by omega
  go_enter Try.func3, Try.ntmps3
  go_upto_region 1 with fail
  generalize hW : World.alloc w (.cells #[.int .i64 k, .int .i64 a, .int .i64 b, .int .i64 r] 23) = W_e
  have K_e : Kept w W_e := by subst hW; exact (Kept.refl _).alloc _ _
  have H_e := Lib.hid (show W_e.cell? ⟨w.heap.size, 0, none⟩ = some (.int .i64 k) ∧ W_e.cell? ⟨w.heap.size, 1, none⟩ = some (.int .i64 a) ∧ W_e.cell? ⟨w.heap.size, 2, none⟩ = some (.int .i64 b) ∧ W_e.cell? ⟨w.heap.size, 3, none⟩ = some (.int .i64 r) from by subst hW; simp [go_sem])
  clear hW
  generalize w.heap.size = g_e at *
  go_wp2_with fail
  refine (AW'.out _).mono ?_
  rintro e w20 ⟨rfl, k20⟩
  go_wp2
  go_ret
  exact ⟨rfl, (by (repeat (first | with_reducible exact Kept.refl _ | with_reducible apply Kept.drew | with_reducible apply Kept.alloc | ((with_reducible apply Kept.set); focus (simp <;> omega)) | ((with_reducible apply Kept.via); focus with_reducible assumption))))⟩
set_option maxRecDepth 100000 in
set_option maxHeartbeats 6400000 in
theorem tells20_many (CC : EvCheckC) (DC : EvDecC) (NC : EvEncC) (AC : EvAllC) {k a b r : Int} {A A2 : Option Addr} {len cap len2 cap2 : Nat} {zs : List Int} {B : Nat → Option Addr} {C : Nat → Nat} {R : Nat → List Int} (hl : len ≤ 10) (hl2 : len2 ≤ 9223372036854775807) (hz2 : ∀ i, i < len2 → (R i).length ≤ 9223372036854775807) (no : ¬ ((∀ i, i < len2 → (R i).length ≤ 10) ∧ (len2 : Int) ≤ 100))  (w : World) (hr2 : RowS .i64 w A2 len2 B C R) : Calls Try.prog 3 #[.agg #[.int .i64 k, .int .i64 a, .int .i64 b, .int .i64 r], .slice A len cap, .slice A2 len2 cap2] w fun e w' => e = .returned (.bool true) ∧ Kept w w' := by
  have CC' := Lib.hid CC
  have DC' := Lib.hid DC
  have NC' := Lib.hid NC
  have AC' := Lib.hid AC
  have AW' := Lib.hid (fun w => awake20 CC DC NC AC w)
  clear CC DC NC AC
  have d0 : decide ((10 : Int) < (len : Int)) = false := by simp; omega
  have d1 : ¬ (10 : Int) < (len : Int) := by omega
  have FW := Lib.hid (fun w_ (h : RowS .i64 w_ A2 len2 B C R) => refFew20_ok (cap := cap2) (m := 100) (v := false) (by omega) hz2 (by simp [no]) w_ h)
  have HS := Lib.hid hr2
  clear hr2 hz2 no
  go_enter Try.func3, Try.ntmps3
  go_upto_region 1 with fail
  generalize hW : World.alloc w (.cells #[.int .i64 k, .int .i64 a, .int .i64 b, .int .i64 r] 23) = W_e
  have K_e : Kept w W_e := by subst hW; exact (Kept.refl _).alloc _ _
  have H_e := Lib.hid (show W_e.cell? ⟨w.heap.size, 0, none⟩ = some (.int .i64 k) ∧ W_e.cell? ⟨w.heap.size, 1, none⟩ = some (.int .i64 a) ∧ W_e.cell? ⟨w.heap.size, 2, none⟩ = some (.int .i64 b) ∧ W_e.cell? ⟨w.heap.size, 3, none⟩ = some (.int .i64 r) from by subst hW; simp [go_sem])
  clear hW
  generalize w.heap.size = g_e at *
  go_wp2_with fail
  refine (AW'.out _).mono ?_
  rintro e w20 ⟨rfl, k20⟩
  go_wp2_with fail
  refine (FW.out _ (HS.out.kept (by (repeat (first | with_reducible exact Kept.refl _ | with_reducible apply Kept.drew | with_reducible apply Kept.alloc | ((with_reducible apply Kept.set); focus (simp <;> omega)) | ((with_reducible apply Kept.via); focus with_reducible assumption)))))).mono ?_
  rintro e w21 ⟨rfl, k21⟩
  go_wp2
  go_ret
  exact ⟨rfl, (by (repeat (first | with_reducible exact Kept.refl _ | with_reducible apply Kept.drew | with_reducible apply Kept.alloc | ((with_reducible apply Kept.set); focus (simp <;> omega)) | ((with_reducible apply Kept.via); focus with_reducible assumption))))⟩
theorem same20_use {A A2 : Option Addr} {c c2 n : Nat} {l : List Int} (hn : l.length = n) (s1 : SliceOk A n c) (s2 : SliceOk A2 n c2) (n1 : n ≤ 1099511627776) (w : World) (h1 : RowK .i64 w A l) (h2 : RowK .i64 w A2 l) : Calls Try.prog 19 #[.slice A n c, .slice A2 n c2] w fun e w' => e = .returned (.bool true) ∧ Kept w w' := by
  subst hn
  exact same16_ok s1 s2 n1 n1 (by simp) w h1 h2
set_option maxRecDepth 100000 in
set_option maxHeartbeats 6400000 in
theorem tells20_all (CC : EvCheckC) (DC : EvDecC) (NC : EvEncC) (AC : EvAllC) {k a b r : Int} {A A2 : Option Addr} {len cap len2 cap2 : Nat} {zs : List Int} {B : Nat → Option Addr} {C : Nat → Nat} {R : Nat → List Int} {xk xa xb xr xe ce : Int} {n : Nat} {l : List Ev} {bad : List Int} (hl : len ≤ 10) (hl2 : len2 ≤ 100) (hz2 : ∀ i, i < len2 → (R i).length ≤ 10) (ik : In64 k) (ia : In64 a) (ib : In64 b) (ir : In64 r) (hs : SliceOk A len cap) (hs2 : SliceOk A2 len2 cap2) (hlen : zs.length = len) (hz : ∀ x ∈ zs, In64 x) (hzr : ∀ i, i < len2 → ∀ x ∈ R i, In64 x) (ev : decV zs = (xk, xa, xb, xr)) (ee : decE zs = xe) (ea : allV (firstR R len2) = (l, bad)) (hn : l.length = n) (hb : bad.length = len2) (ec : chkV (k, a, b, r) = ce)  (w : World) (hr1 : RowK .i64 w A zs) (hr2 : RowS .i64 w A2 len2 B C R) : Calls Try.prog 3 #[.agg #[.int .i64 k, .int .i64 a, .int .i64 b, .int .i64 r], .slice A len cap, .slice A2 len2 cap2] w fun e w' => e = .returned (.bool true) ∧ Kept w w' := by
  have CC' := Lib.hid CC
  have DC' := Lib.hid DC
  have NC' := Lib.hid NC
  have AC' := Lib.hid AC
  have AW' := Lib.hid (fun w => awake20 CC DC NC AC w)
  clear CC DC NC AC
  have d0 : decide ((10 : Int) < (len : Int)) = false := by simp; omega
  have d1 : ¬ (10 : Int) < (len : Int) := by omega
  have nl : n ≤ len2 := by have := (all_len (firstR R len2)).2; rw [ea, firstR_len] at this; rw [← hn]; exact this
  have FW := Lib.hid (fun w_ (h : RowS .i64 w_ A2 len2 B C R) => refFew20_ok (cap := cap2) (m := 100) (v := true) (by omega) (fun i hi => by have := hz2 i hi; omega) ⟨fun _ => ⟨hz2, by omega⟩, fun _ => rfl⟩ w_ h)
  have D1 := Lib.hid (fun w_ (h : RowK .i64 w_ A zs) => DC'.out A len cap zs xk xa xb xr xe hlen hs hz ev ee w_ h)
  have D2 := Lib.hid (fun w_ (h : RowK .i64 w_ A zs) => refDecode20_ok (cap := cap) hlen ev ee w_ h)
  have A1 := Lib.hid (fun w_ (h : RowS .i64 w_ A2 len2 B C R) => AC'.out A2 len2 cap2 B C R n l bad hs2 (by omega) hzr ea hn w_ h)
  have A3 := Lib.hid (fun w_ (h : RowS .i64 w_ A2 len2 B C R) => refAll20_ok (cap := cap2) (by omega) ea hn w_ h)
  have C1 := Lib.hid (fun w_ => CC'.out k a b r ce ik ia ib ir ec w_)
  have C2 := Lib.hid (fun w_ => refCheck20_ok ec w_)
  have IK := Lib.hid (And.intro ik (And.intro ia (And.intro ib ir)))
  have HN := Lib.hid (And.intro hn hb)
  have HL := Lib.hid hr1
  have HS := Lib.hid hr2
  clear hr1 hr2 hz2 ik ia ib ir hs hs2 hz hzr ev ee ea hn hb ec
  go_enter Try.func3, Try.ntmps3
  go_upto_region 1 with fail
  generalize hW : World.alloc w (.cells #[.int .i64 k, .int .i64 a, .int .i64 b, .int .i64 r] 23) = W_e
  have K_e : Kept w W_e := by subst hW; exact (Kept.refl _).alloc _ _
  have H_e := Lib.hid (show W_e.cell? ⟨w.heap.size, 0, none⟩ = some (.int .i64 k) ∧ W_e.cell? ⟨w.heap.size, 1, none⟩ = some (.int .i64 a) ∧ W_e.cell? ⟨w.heap.size, 2, none⟩ = some (.int .i64 b) ∧ W_e.cell? ⟨w.heap.size, 3, none⟩ = some (.int .i64 r) from by subst hW; simp [go_sem])
  clear hW
  generalize w.heap.size = g_e at *
  go_wp2_with fail
  refine (AW'.out _).mono ?_
  rintro e w20 ⟨rfl, k20⟩
  go_wp2_with fail
  refine (FW.out _ (HS.out.kept (by (repeat (first | with_reducible exact Kept.refl _ | with_reducible apply Kept.drew | with_reducible apply Kept.alloc | ((with_reducible apply Kept.set); focus (simp <;> omega)) | ((with_reducible apply Kept.via); focus with_reducible assumption)))))).mono ?_
  rintro e w21 ⟨rfl, k21⟩
  go_wp2_with fail
  refine (D1.out _ (HL.out.kept (by (repeat (first | with_reducible exact Kept.refl _ | with_reducible apply Kept.drew | with_reducible apply Kept.alloc | ((with_reducible apply Kept.set); focus (simp <;> omega)) | ((with_reducible apply Kept.via); focus with_reducible assumption)))))).mono ?_
  rintro e w22 ⟨rfl, k22⟩
  go_upto_region 5 with fail
  generalize hW : World.alloc w22 (.cells #[.int .i64 xk, .int .i64 xa, .int .i64 xb, .int .i64 xr] 23) = W_x
  have K_x : Kept w22 W_x := by subst hW; exact (Kept.refl _).alloc _ _
  have H_x := Lib.hid (show W_x.cell? ⟨w22.heap.size, 0, none⟩ = some (.int .i64 xk) ∧ W_x.cell? ⟨w22.heap.size, 1, none⟩ = some (.int .i64 xa) ∧ W_x.cell? ⟨w22.heap.size, 2, none⟩ = some (.int .i64 xb) ∧ W_x.cell? ⟨w22.heap.size, 3, none⟩ = some (.int .i64 xr) from by subst hW; simp [go_sem])
  clear hW
  generalize w22.heap.size = g_x at *
  go_wp2_with fail
  refine (D2.out _ (HL.out.kept (by (repeat (first | with_reducible exact Kept.refl _ | with_reducible apply Kept.drew | with_reducible apply Kept.alloc | ((with_reducible apply Kept.set); focus (simp <;> omega)) | ((with_reducible apply Kept.via); focus with_reducible assumption)))))).mono ?_
  rintro e w23 ⟨rfl, k23⟩
  go_upto_region 6 with fail
  generalize hW : World.alloc w23 (.cells #[.int .i64 xk, .int .i64 xa, .int .i64 xb, .int .i64 xr] 23) = W_y
  have K_y : Kept w23 W_y := by subst hW; exact (Kept.refl _).alloc _ _
  have H_y := Lib.hid (show W_y.cell? ⟨w23.heap.size, 0, none⟩ = some (.int .i64 xk) ∧ W_y.cell? ⟨w23.heap.size, 1, none⟩ = some (.int .i64 xa) ∧ W_y.cell? ⟨w23.heap.size, 2, none⟩ = some (.int .i64 xb) ∧ W_y.cell? ⟨w23.heap.size, 3, none⟩ = some (.int .i64 xr) from by subst hW; simp [go_sem])
  clear hW
  generalize w23.heap.size = g_y at *
  go_wp2_with fail
  refine (A1.out _ (HS.out.kept (by (repeat (first | with_reducible exact Kept.refl _ | with_reducible apply Kept.drew | with_reducible apply Kept.alloc | ((with_reducible apply Kept.set); focus (simp <;> omega)) | ((with_reducible apply Kept.via); focus with_reducible assumption)))))).mono ?_
  rintro e w24 ⟨B1, c1, B2, c2, rfl, s1, s2, r1, r2, _, _, k24⟩
  have R1 := Lib.hid r1
  have R2 := Lib.hid r2
  have S2 := Lib.hid s2
  clear r1 r2 s1 s2
  go_wp2_with fail
  refine (A3.out _ (HS.out.kept (by (repeat (first | with_reducible exact Kept.refl _ | with_reducible apply Kept.drew | with_reducible apply Kept.alloc | ((with_reducible apply Kept.set); focus (simp <;> omega)) | ((with_reducible apply Kept.via); focus with_reducible assumption)))))).mono ?_
  rintro e w25 ⟨B3, c3, B4, c4, rfl, s3, s4, r3, r4, _, _, k25⟩
  have R3 := Lib.hid r3
  have R4 := Lib.hid r4
  have S4 := Lib.hid s4
  clear r3 r4 s3 s4
  obtain ⟨ce0, ce1, ce2, ce3⟩ := Kept.alln4 (show Kept W_e w25 from (by (repeat (first | with_reducible exact Kept.refl _ | with_reducible apply Kept.drew | with_reducible apply Kept.alloc | ((with_reducible apply Kept.set); focus (simp <;> omega)) | ((with_reducible apply Kept.via); focus with_reducible assumption))))) H_e
  go_wp2_with fail
  refine (NC'.out k a b r IK.out.1 IK.out.2.1 IK.out.2.2.1 IK.out.2.2.2 _).mono ?_
  rintro e w50 ⟨Bx, cx, rfl, _, rx, _, k50⟩
  have RX := Lib.hid rx
  clear rx
  clear ce0 ce1 ce2 ce3
  obtain ⟨bb, off, rfl, hc⟩ := RX.out (by simp)
  have y0 : w50.cell? ⟨bb, off + 0, none⟩ = some (.int .i64 k) := hc 0 (by simp)
  have y1 : w50.cell? ⟨bb, off + 1, none⟩ = some (.int .i64 a) := hc 1 (by simp)
  have y2 : w50.cell? ⟨bb, off + 2, none⟩ = some (.int .i64 b) := hc 2 (by simp)
  have y3 : w50.cell? ⟨bb, off + 3, none⟩ = some (.int .i64 r) := hc 3 (by simp)
  rw [Nat.add_zero] at y0
  have H_z := Lib.hid (And.intro y0 (And.intro y1 (And.intro y2 y3)))
  clear hc y0 y1 y2 y3 RX
  have q0 : (0 : Int) < 4 := by omega
  have q1 : (1 : Int) < 4 := by omega
  have q2 : (2 : Int) < 4 := by omega
  have q3 : (3 : Int) < 4 := by omega
  have S5 := Lib.hid (fun w_ (kk : Kept w50 w_) => refSame20_ok (cap := c1) (cap2 := c3) HN.out.1 (by omega) w_ (R1.out.kept (Kept.trans (show Kept _ w50 from (by (repeat (first | with_reducible exact Kept.refl _ | with_reducible apply Kept.drew | with_reducible apply Kept.alloc | ((with_reducible apply Kept.set); focus (simp <;> omega)) | ((with_reducible apply Kept.via); focus with_reducible assumption))))) kk)) (R3.out.kept (Kept.trans (show Kept _ w50 from (by (repeat (first | with_reducible exact Kept.refl _ | with_reducible apply Kept.drew | with_reducible apply Kept.alloc | ((with_reducible apply Kept.set); focus (simp <;> omega)) | ((with_reducible apply Kept.via); focus with_reducible assumption))))) kk)))
  have S6 := Lib.hid (fun w_ (kk : Kept w50 w_) => same20_use HN.out.2 S2.out S4.out (by omega) w_ (R2.out.kept (Kept.trans (show Kept _ w50 from (by (repeat (first | with_reducible exact Kept.refl _ | with_reducible apply Kept.drew | with_reducible apply Kept.alloc | ((with_reducible apply Kept.set); focus (simp <;> omega)) | ((with_reducible apply Kept.via); focus with_reducible assumption))))) kk)) (R4.out.kept (Kept.trans (show Kept _ w50 from (by (repeat (first | with_reducible exact Kept.refl _ | with_reducible apply Kept.drew | with_reducible apply Kept.alloc | ((with_reducible apply Kept.set); focus (simp <;> omega)) | ((with_reducible apply Kept.via); focus with_reducible assumption))))) kk)))
  go_upto_region 9 with fail
  have B_e := Lib.hid (Kept.alln4 (show Kept W_e w50 from (by (repeat (first | with_reducible exact Kept.refl _ | with_reducible apply Kept.drew | with_reducible apply Kept.alloc | ((with_reducible apply Kept.set); focus (simp <;> omega)) | ((with_reducible apply Kept.via); focus with_reducible assumption))))) H_e)
  have B_x := Lib.hid (Kept.alln4 (show Kept W_x w50 from (by (repeat (first | with_reducible exact Kept.refl _ | with_reducible apply Kept.drew | with_reducible apply Kept.alloc | ((with_reducible apply Kept.set); focus (simp <;> omega)) | ((with_reducible apply Kept.via); focus with_reducible assumption))))) H_x)
  have B_y := Lib.hid (Kept.alln4 (show Kept W_y w50 from (by (repeat (first | with_reducible exact Kept.refl _ | with_reducible apply Kept.drew | with_reducible apply Kept.alloc | ((with_reducible apply Kept.set); focus (simp <;> omega)) | ((with_reducible apply Kept.via); focus with_reducible assumption))))) H_y)
  have B_z := Lib.hid (Kept.alln4 (show Kept w50 w50 from (by (repeat (first | with_reducible exact Kept.refl _ | with_reducible apply Kept.drew | with_reducible apply Kept.alloc | ((with_reducible apply Kept.set); focus (simp <;> omega)) | ((with_reducible apply Kept.via); focus with_reducible assumption))))) H_z)
  have kall : Kept w w50 := (by (repeat (first | with_reducible exact Kept.refl _ | with_reducible apply Kept.drew | with_reducible apply Kept.alloc | ((with_reducible apply Kept.set); focus (simp <;> omega)) | ((with_reducible apply Kept.via); focus with_reducible assumption))))
  obtain ⟨q_e0, q_e1, q_e2, q_e3⟩ := kwn4 B_e
  obtain ⟨q_x0, q_x1, q_x2, q_x3⟩ := kwn4 B_x
  obtain ⟨q_y0, q_y1, q_y2, q_y3⟩ := kwn4 B_y
  obtain ⟨q_z0, q_z1, q_z2, q_z3⟩ := kwn4 B_z
  clear B_e B_x B_y B_z
  try simp only [List.append_eq, List.cons_append, List.nil_append]
  refine wp_region_kept (by kernel_rfl) (by as_aux_lemma => kernel_rfl) ?_
  repeat (go_big_quiet_step (first | (with_reducible exact kept_of (C1.out _)) | (with_reducible exact kept_of (C2.out _)) | (with_reducible exact kept_of (S5.out _ (KW.k _))) | (with_reducible exact kept_of (S6.out _ (KW.k _)))))
  refine wpQuiet_nil ?_
  intro wq hw'
  have kq : Kept w50 wq := by obtain ⟨p, rfl⟩ := hw'; exact p.k
  clear hw'
  clear kall
  go_wp2
  go_ret
  exact ⟨rfl, Kept.trans (show Kept w w50 from (by (repeat (first | with_reducible exact Kept.refl _ | with_reducible apply Kept.drew | with_reducible apply Kept.alloc | ((with_reducible apply Kept.set); focus (simp <;> omega)) | ((with_reducible apply Kept.via); focus with_reducible assumption))))) kq⟩
theorem eventTells_walk (CC : EvCheckC) (DC : EvDecC) (NC : EvEncC) (AC : EvAllC) {k a b r : Int} {A A2 : Option Addr} {len cap len2 cap2 : Nat} {zs : List Int} {B : Nat → Option Addr} {C : Nat → Nat} {R : Nat → List Int} (w : World) (ik : In64 k) (ia : In64 a) (ib : In64 b) (ir : In64 r) (hs : SliceOk A len cap) (hs2 : SliceOk A2 len2 cap2) (hlen : zs.length = len) (hz : ∀ x ∈ zs, In64 x) (hzr : ∀ i, i < len2 → ∀ x ∈ R i, In64 x) (hr1 : RowK .i64 w A zs) (hr2 : RowS .i64 w A2 len2 B C R) : Calls Try.prog 3 #[.agg #[.int .i64 k, .int .i64 a, .int .i64 b, .int .i64 r], .slice A len cap, .slice A2 len2 cap2] w fun e w' => e = .returned (.bool true) ∧ Kept w w' := by
  by_cases hl : 10 < len
  · exact tells20_long CC DC NC AC (zs := zs) (B := B) (C := C) (R := R) hl w
  · by_cases yes : (∀ i, i < len2 → (R i).length ≤ 10) ∧ (len2 : Int) ≤ 100
    · obtain ⟨⟨xk, xa, xb, xr⟩, ev⟩ : ∃ x : Ev, decV zs = x := ⟨_, rfl⟩
      obtain ⟨⟨l, bad⟩, ea⟩ : ∃ s : List Ev × List Int, allV (firstR R len2) = s := ⟨_, rfl⟩
      have hb := (all_len (firstR R len2)).1
      rw [ea, firstR_len] at hb
      exact tells20_all CC DC NC AC (by omega) (by omega) yes.1 ik ia ib ir hs hs2 hlen hz hzr ev rfl ea rfl hb rfl w hr1 hr2
    · exact tells20_many CC DC NC AC (zs := zs) (by omega) (by have := hs2.1; have := hs2.2.1; omega) (fun i hi => by have := (hr2.2 i hi).1.1; have := (hr2.2 i hi).1.2.1; omega) yes w hr2
end Go.Proofs.Ytbpdimogigcacaa
