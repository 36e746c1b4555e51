/-
  The walk of FlightTells: it answers true, if the calls do what they are to do.
-/
import Derived.Test.YtbaifhgjalaphaaAwake16
import Derived.Test.YtbaifhgjalaphaaDo16
import Derived.Deep.RegionHeld3
import Derived.Deep.DeepCutAuto
namespace Go.Proofs.Ytbaifhgjalaphaa
open Go.RowKit Go.BigFrame
set_option linter.unusedVariables false

set_option maxRecDepth 100000 in
set_option maxHeartbeats 1600000 in
theorem tells16_long (CC : FlCheckC) (SC : FlSendC) (AC : FlAckC) (LC : FlLoseC) (RC_ : FlRoomC) (DC : FlDoC) {s t o n room : Int} {A : Option Addr} {len cap : Nat} (hl : 100 < len) (hm : len ≤ 9223372036854775807) (w : World) : Calls Try.prog 3 #[.agg #[.int .i64 s, .int .i64 t, .int .i64 o], .slice A len cap, .int .i64 n, .int .i64 room] w fun e w' => e = .returned (.bool true) ∧ Kept w w' := by
  have CC' := Lib.hid CC
  have SC' := Lib.hid SC
  have AC' := Lib.hid AC
  have LC' := Lib.hid LC
  have RC_' := Lib.hid RC_
  have DC' := Lib.hid DC
  have AW' := Lib.hid (fun w => awake16 CC SC AC LC RC_ DC w)
  clear CC SC AC LC RC_ DC
  have hd : decide ((100 : Int) < (len : Int)) = true := by simp; omega
  go_enter Try.func3, Try.ntmps3
  go_upto_region 1 with fail
  generalize hW : World.alloc w (.cells #[.int .i64 s, .int .i64 t, .int .i64 o] 23) = W_f
  have K_f : Kept w W_f := by subst hW; exact (Kept.refl _).alloc _ _
  have H_f := Lib.hid (show W_f.cell? ⟨w.heap.size, 0, none⟩ = some (.int .i64 s) ∧ W_f.cell? ⟨w.heap.size, 1, none⟩ = some (.int .i64 t) ∧ W_f.cell? ⟨w.heap.size, 2, none⟩ = some (.int .i64 o) from by subst hW; simp [go_sem])
  clear hW
  generalize w.heap.size = g_f at *
  go_wp2_with fail
  refine (AW'.out _).mono ?_
  rintro e w20 ⟨rfl, k20⟩
  go_wp2
  go_ret
  exact ⟨rfl, (by (repeat (first | with_reducible exact Kept.refl _ | with_reducible apply Kept.drew | with_reducible apply Kept.alloc | ((with_reducible apply Kept.set); focus (simp <;> omega)) | ((with_reducible apply Kept.via); focus with_reducible assumption))))⟩
theorem same16_use {A A2 : Option Addr} {c c2 n : Nat} {l : List Int} (hn : l.length = n) (s1 : SliceOk A n c) (s2 : SliceOk A2 n c2) (n1 : n ≤ 1099511627776) (w : World) (h1 : RowE w A l) (h2 : RowE w A2 l) : Calls Try.prog 17 #[.slice A n c, .slice A2 n c2] w fun e w' => e = .returned (.bool true) ∧ Kept w w' := by
  subst hn
  exact same16_ok s1 s2 n1 n1 (by simp) w h1 h2
set_option maxRecDepth 100000 in
set_option maxHeartbeats 6400000 in
theorem tells16_all (CC : FlCheckC) (SC : FlSendC) (AC : FlAckC) (LC : FlLoseC) (RC_ : FlRoomC) (DC : FlDoC) {s t o n room s1 t1 o1 s2 t2 o2 e2 s3 t3 o3 e3 s4 t4 o4 e4 r : Int} {l1 : List Int} {A : Option Addr} {len cap : Nat} {E : Nat → Nat → Int} {v : Bool} (hl : len ≤ 100) (hs : In64 s) (ht : In64 t) (ho : In64 o) (hn : In64 n) (hr0 : In64 room) (hS : SliceOk A len cap) (hz : ∀ i, i < len → ∀ j, j < 3 → In64 (E i j)) (hd : doF (s, t, o) (actsL E len) = (s1, t1, o1)) (he : doE (s, t, o) (actsL E len) = l1) (f2 : SendIs s t o n room s2 t2 o2 e2) (f3 : LessIs s t o n n s3 t3 o3 e3) (f4 : LessIs s t o n 0 s4 t4 o4 e4) (f5 : v = true ↔ MayF s t o) (f6 : roomF s t o room = r) (w : World) (hr : RowI .i64 w A 3 len E) : Calls Try.prog 3 #[.agg #[.int .i64 s, .int .i64 t, .int .i64 o], .slice A len cap, .int .i64 n, .int .i64 room] w fun e w' => e = .returned (.bool true) ∧ Kept w w' := by
  have CC' := Lib.hid CC
  have SC' := Lib.hid SC
  have AC' := Lib.hid AC
  have LC' := Lib.hid LC
  have RC_' := Lib.hid RC_
  have DC' := Lib.hid DC
  have AW' := Lib.hid (fun w => awake16 CC SC AC LC RC_ DC w)
  clear CC SC AC LC RC_ DC
  have hd2 : decide ((100 : Int) < (len : Int)) = false := by simp; omega
  have HR := Lib.hid hr
  have HZ := Lib.hid hz
  have HS := Lib.hid hS
  have HD := Lib.hid (And.intro hd he)
  have Q1 := Lib.hid (fun w_ => SC'.out s t o n room s2 t2 o2 e2 hs ht ho hn hr0 f2 w_)
  have Q2 := Lib.hid (fun w_ => refSend16_ok hs ht ho hn hr0 f2 w_)
  have Q3 := Lib.hid (fun w_ => AC'.out s t o n s3 t3 o3 e3 hs ht ho hn f3 w_)
  have Q4 := Lib.hid (fun w_ => refLess16_ok hs ht ho (Or.inr rfl) f3 w_)
  have Q5 := Lib.hid (fun w_ => LC'.out s t o n s4 t4 o4 e4 hs ht ho hn f4 w_)
  have Q6 := Lib.hid (fun w_ => refLess16_ok hs ht ho (Or.inl rfl) f4 w_)
  have C1 := Lib.hid (fun w_ => CC'.out s t o v hs ht ho f5 w_)
  have C2 := Lib.hid (fun w_ => refCheck16_ok v hs ht ho f5 w_)
  have M1 := Lib.hid (fun w_ => RC_'.out s t o room r hs ht ho hr0 f6 w_)
  have M2 := Lib.hid (fun w_ => refRoom16_ok hs ht ho hr0 f6 w_)
  clear hr hz hS hd he f2 f3 f4 f5 f6
  go_enter Try.func3, Try.ntmps3
  go_upto_region 1 with fail
  generalize hW : World.alloc w (.cells #[.int .i64 s, .int .i64 t, .int .i64 o] 23) = W_f
  have K_f : Kept w W_f := by subst hW; exact (Kept.refl _).alloc _ _
  have H_f := Lib.hid (show W_f.cell? ⟨w.heap.size, 0, none⟩ = some (.int .i64 s) ∧ W_f.cell? ⟨w.heap.size, 1, none⟩ = some (.int .i64 t) ∧ W_f.cell? ⟨w.heap.size, 2, none⟩ = some (.int .i64 o) from by subst hW; simp [go_sem])
  clear hW
  generalize w.heap.size = g_f at *
  go_wp2_with fail
  refine (AW'.out _).mono ?_
  rintro e w20 ⟨rfl, k20⟩
  obtain ⟨cf0, cf1, cf2⟩ := Kept.all3 (show Kept W_f w20 from (by (repeat (first | with_reducible exact Kept.refl _ | with_reducible apply Kept.drew | with_reducible apply Kept.alloc | ((with_reducible apply Kept.set); focus (simp <;> omega)) | ((with_reducible apply Kept.via); focus with_reducible assumption))))) H_f
  go_wp2_with fail
  refine (DC'.out s t o A len cap E s1 t1 o1 l1 hs ht ho HS.out (by omega) HZ.out HD.out.1 HD.out.2 _ (HR.out.kept (by (repeat (first | with_reducible exact Kept.refl _ | with_reducible apply Kept.drew | with_reducible apply Kept.alloc | ((with_reducible apply Kept.set); focus (simp <;> omega)) | ((with_reducible apply Kept.via); focus with_reducible assumption)))))).mono ?_
  rintro e w21 ⟨B1, c1, rfl, sk1, rl1, nw1, k21⟩
  have RL1 := Lib.hid rl1
  have SK1 := Lib.hid sk1
  clear rl1 sk1
  clear cf0 cf1 cf2
  go_upto_region 5 with fail
  generalize hW : World.alloc w21 (.cells #[.int .i64 s1, .int .i64 t1, .int .i64 o1] 23) = W_a
  have K_a : Kept w21 W_a := by subst hW; exact (Kept.refl _).alloc _ _
  have H_a := Lib.hid (show W_a.cell? ⟨w21.heap.size, 0, none⟩ = some (.int .i64 s1) ∧ W_a.cell? ⟨w21.heap.size, 1, none⟩ = some (.int .i64 t1) ∧ W_a.cell? ⟨w21.heap.size, 2, none⟩ = some (.int .i64 o1) from by subst hW; simp [go_sem])
  clear hW
  generalize w21.heap.size = g_a at *
  obtain ⟨cf0, cf1, cf2⟩ := Kept.all3 (show Kept W_f W_a from (by (repeat (first | with_reducible exact Kept.refl _ | with_reducible apply Kept.drew | with_reducible apply Kept.alloc | ((with_reducible apply Kept.set); focus (simp <;> omega)) | ((with_reducible apply Kept.via); focus with_reducible assumption))))) H_f
  go_wp2_with fail
  refine (refDo16_ok s t o A len cap E s1 t1 o1 l1 hs ht ho (by omega) HZ.out HD.out.1 HD.out.2 _ (HR.out.kept (by (repeat (first | with_reducible exact Kept.refl _ | with_reducible apply Kept.drew | with_reducible apply Kept.alloc | ((with_reducible apply Kept.set); focus (simp <;> omega)) | ((with_reducible apply Kept.via); focus with_reducible assumption)))))).mono ?_
  rintro e w22 ⟨B2, c2, rfl, sk2, rl2, nw2, k22⟩
  have RL2 := Lib.hid rl2
  have SK2 := Lib.hid sk2
  clear rl2 sk2
  clear cf0 cf1 cf2
  go_upto_region 6 with fail
  generalize hW : World.alloc w22 (.cells #[.int .i64 s1, .int .i64 t1, .int .i64 o1] 23) = W_b
  have K_b : Kept w22 W_b := by subst hW; exact (Kept.refl _).alloc _ _
  have H_b := Lib.hid (show W_b.cell? ⟨w22.heap.size, 0, none⟩ = some (.int .i64 s1) ∧ W_b.cell? ⟨w22.heap.size, 1, none⟩ = some (.int .i64 t1) ∧ W_b.cell? ⟨w22.heap.size, 2, none⟩ = some (.int .i64 o1) from by subst hW; simp [go_sem])
  clear hW
  generalize w22.heap.size = g_b at *
  obtain ⟨cf0, cf1, cf2⟩ := Kept.all3 (show Kept W_f W_b from (by (repeat (first | with_reducible exact Kept.refl _ | with_reducible apply Kept.drew | with_reducible apply Kept.alloc | ((with_reducible apply Kept.set); focus (simp <;> omega)) | ((with_reducible apply Kept.via); focus with_reducible assumption))))) H_f
  go_wp2_with fail
  refine (Q1.out _).mono ?_
  rintro e w23 ⟨rfl, k23⟩
  clear cf0 cf1 cf2
  go_upto_region 7 with fail
  generalize hW : World.alloc w23 (.cells #[.int .i64 s2, .int .i64 t2, .int .i64 o2] 23) = W_c
  have K_c : Kept w23 W_c := by subst hW; exact (Kept.refl _).alloc _ _
  have H_c := Lib.hid (show W_c.cell? ⟨w23.heap.size, 0, none⟩ = some (.int .i64 s2) ∧ W_c.cell? ⟨w23.heap.size, 1, none⟩ = some (.int .i64 t2) ∧ W_c.cell? ⟨w23.heap.size, 2, none⟩ = some (.int .i64 o2) from by subst hW; simp [go_sem])
  clear hW
  generalize w23.heap.size = g_c at *
  obtain ⟨cf0, cf1, cf2⟩ := Kept.all3 (show Kept W_f W_c from (by (repeat (first | with_reducible exact Kept.refl _ | with_reducible apply Kept.drew | with_reducible apply Kept.alloc | ((with_reducible apply Kept.set); focus (simp <;> omega)) | ((with_reducible apply Kept.via); focus with_reducible assumption))))) H_f
  go_wp2_with fail
  refine (Q2.out _).mono ?_
  rintro e w24 ⟨rfl, k24⟩
  clear cf0 cf1 cf2
  go_upto_region 8 with fail
  generalize hW : World.alloc w24 (.cells #[.int .i64 s2, .int .i64 t2, .int .i64 o2] 23) = W_d
  have K_d : Kept w24 W_d := by subst hW; exact (Kept.refl _).alloc _ _
  have H_d := Lib.hid (show W_d.cell? ⟨w24.heap.size, 0, none⟩ = some (.int .i64 s2) ∧ W_d.cell? ⟨w24.heap.size, 1, none⟩ = some (.int .i64 t2) ∧ W_d.cell? ⟨w24.heap.size, 2, none⟩ = some (.int .i64 o2) from by subst hW; simp [go_sem])
  clear hW
  generalize w24.heap.size = g_d at *
  obtain ⟨cf0, cf1, cf2⟩ := Kept.all3 (show Kept W_f W_d from (by (repeat (first | with_reducible exact Kept.refl _ | with_reducible apply Kept.drew | with_reducible apply Kept.alloc | ((with_reducible apply Kept.set); focus (simp <;> omega)) | ((with_reducible apply Kept.via); focus with_reducible assumption))))) H_f
  go_wp2_with fail
  refine (Q3.out _).mono ?_
  rintro e w25 ⟨rfl, k25⟩
  clear cf0 cf1 cf2
  go_upto_region 9 with fail
  generalize hW : World.alloc w25 (.cells #[.int .i64 s3, .int .i64 t3, .int .i64 o3] 23) = W_u
  have K_u : Kept w25 W_u := by subst hW; exact (Kept.refl _).alloc _ _
  have H_u := Lib.hid (show W_u.cell? ⟨w25.heap.size, 0, none⟩ = some (.int .i64 s3) ∧ W_u.cell? ⟨w25.heap.size, 1, none⟩ = some (.int .i64 t3) ∧ W_u.cell? ⟨w25.heap.size, 2, none⟩ = some (.int .i64 o3) from by subst hW; simp [go_sem])
  clear hW
  generalize w25.heap.size = g_u at *
  obtain ⟨cf0, cf1, cf2⟩ := Kept.all3 (show Kept W_f W_u from (by (repeat (first | with_reducible exact Kept.refl _ | with_reducible apply Kept.drew | with_reducible apply Kept.alloc | ((with_reducible apply Kept.set); focus (simp <;> omega)) | ((with_reducible apply Kept.via); focus with_reducible assumption))))) H_f
  go_wp2_with fail
  refine (Q4.out _).mono ?_
  rintro e w26 ⟨rfl, k26⟩
  clear cf0 cf1 cf2
  go_upto_region 10 with fail
  generalize hW : World.alloc w26 (.cells #[.int .i64 s3, .int .i64 t3, .int .i64 o3] 23) = W_v
  have K_v : Kept w26 W_v := by subst hW; exact (Kept.refl _).alloc _ _
  have H_v := Lib.hid (show W_v.cell? ⟨w26.heap.size, 0, none⟩ = some (.int .i64 s3) ∧ W_v.cell? ⟨w26.heap.size, 1, none⟩ = some (.int .i64 t3) ∧ W_v.cell? ⟨w26.heap.size, 2, none⟩ = some (.int .i64 o3) from by subst hW; simp [go_sem])
  clear hW
  generalize w26.heap.size = g_v at *
  obtain ⟨cf0, cf1, cf2⟩ := Kept.all3 (show Kept W_f W_v from (by (repeat (first | with_reducible exact Kept.refl _ | with_reducible apply Kept.drew | with_reducible apply Kept.alloc | ((with_reducible apply Kept.set); focus (simp <;> omega)) | ((with_reducible apply Kept.via); focus with_reducible assumption))))) H_f
  go_wp2_with fail
  refine (Q5.out _).mono ?_
  rintro e w27 ⟨rfl, k27⟩
  clear cf0 cf1 cf2
  go_upto_region 11 with fail
  generalize hW : World.alloc w27 (.cells #[.int .i64 s4, .int .i64 t4, .int .i64 o4] 23) = W_x
  have K_x : Kept w27 W_x := by subst hW; exact (Kept.refl _).alloc _ _
  have H_x := Lib.hid (show W_x.cell? ⟨w27.heap.size, 0, none⟩ = some (.int .i64 s4) ∧ W_x.cell? ⟨w27.heap.size, 1, none⟩ = some (.int .i64 t4) ∧ W_x.cell? ⟨w27.heap.size, 2, none⟩ = some (.int .i64 o4) from by subst hW; simp [go_sem])
  clear hW
  generalize w27.heap.size = g_x at *
  obtain ⟨cf0, cf1, cf2⟩ := Kept.all3 (show Kept W_f W_x from (by (repeat (first | with_reducible exact Kept.refl _ | with_reducible apply Kept.drew | with_reducible apply Kept.alloc | ((with_reducible apply Kept.set); focus (simp <;> omega)) | ((with_reducible apply Kept.via); focus with_reducible assumption))))) H_f
  go_wp2_with fail
  refine (Q6.out _).mono ?_
  rintro e w28 ⟨rfl, k28⟩
  clear cf0 cf1 cf2
  go_upto_region 12 with fail
  generalize hW : World.alloc w28 (.cells #[.int .i64 s4, .int .i64 t4, .int .i64 o4] 23) = W_y
  have K_y : Kept w28 W_y := by subst hW; exact (Kept.refl _).alloc _ _
  have H_y := Lib.hid (show W_y.cell? ⟨w28.heap.size, 0, none⟩ = some (.int .i64 s4) ∧ W_y.cell? ⟨w28.heap.size, 1, none⟩ = some (.int .i64 t4) ∧ W_y.cell? ⟨w28.heap.size, 2, none⟩ = some (.int .i64 o4) from by subst hW; simp [go_sem])
  clear hW
  generalize w28.heap.size = g_y at *
  have LL := Lib.hid (show l1.length = len from by have := congrArg List.length HD.out.2; rw [doE_len, actsL_len] at this; exact this.symm)
  have QS := Lib.hid (fun p : KW W_y => same16_use (n := len) LL.out SK1.out SK2.out (by omega) p.w ((RL1.out.kept (by (repeat (first | with_reducible exact Kept.refl _ | with_reducible apply Kept.drew | with_reducible apply Kept.alloc | ((with_reducible apply Kept.set); focus (simp <;> omega)) | ((with_reducible apply Kept.via); focus with_reducible assumption))))).kept p.k) ((RL2.out.kept (by (repeat (first | with_reducible exact Kept.refl _ | with_reducible apply Kept.drew | with_reducible apply Kept.alloc | ((with_reducible apply Kept.set); focus (simp <;> omega)) | ((with_reducible apply Kept.via); focus with_reducible assumption))))).kept p.k))
  have kz9 := Lib.hid (show Kept w W_y from (by (repeat (first | with_reducible exact Kept.refl _ | with_reducible apply Kept.drew | with_reducible apply Kept.alloc | ((with_reducible apply Kept.set); focus (simp <;> omega)) | ((with_reducible apply Kept.via); focus with_reducible assumption)))))
  go_upto_region 12 with fail
  have B_f := Lib.hid (Kept.all3 (show Kept W_f W_y from (by (repeat (first | with_reducible exact Kept.refl _ | with_reducible apply Kept.drew | with_reducible apply Kept.alloc | ((with_reducible apply Kept.set); focus (simp <;> omega)) | ((with_reducible apply Kept.via); focus with_reducible assumption))))) H_f)
  have B_a := Lib.hid (Kept.all3 (show Kept W_a W_y from (by (repeat (first | with_reducible exact Kept.refl _ | with_reducible apply Kept.drew | with_reducible apply Kept.alloc | ((with_reducible apply Kept.set); focus (simp <;> omega)) | ((with_reducible apply Kept.via); focus with_reducible assumption))))) H_a)
  have B_b := Lib.hid (Kept.all3 (show Kept W_b W_y from (by (repeat (first | with_reducible exact Kept.refl _ | with_reducible apply Kept.drew | with_reducible apply Kept.alloc | ((with_reducible apply Kept.set); focus (simp <;> omega)) | ((with_reducible apply Kept.via); focus with_reducible assumption))))) H_b)
  have B_c := Lib.hid (Kept.all3 (show Kept W_c W_y from (by (repeat (first | with_reducible exact Kept.refl _ | with_reducible apply Kept.drew | with_reducible apply Kept.alloc | ((with_reducible apply Kept.set); focus (simp <;> omega)) | ((with_reducible apply Kept.via); focus with_reducible assumption))))) H_c)
  have B_d := Lib.hid (Kept.all3 (show Kept W_d W_y from (by (repeat (first | with_reducible exact Kept.refl _ | with_reducible apply Kept.drew | with_reducible apply Kept.alloc | ((with_reducible apply Kept.set); focus (simp <;> omega)) | ((with_reducible apply Kept.via); focus with_reducible assumption))))) H_d)
  have B_u := Lib.hid (Kept.all3 (show Kept W_u W_y from (by (repeat (first | with_reducible exact Kept.refl _ | with_reducible apply Kept.drew | with_reducible apply Kept.alloc | ((with_reducible apply Kept.set); focus (simp <;> omega)) | ((with_reducible apply Kept.via); focus with_reducible assumption))))) H_u)
  have B_v := Lib.hid (Kept.all3 (show Kept W_v W_y from (by (repeat (first | with_reducible exact Kept.refl _ | with_reducible apply Kept.drew | with_reducible apply Kept.alloc | ((with_reducible apply Kept.set); focus (simp <;> omega)) | ((with_reducible apply Kept.via); focus with_reducible assumption))))) H_v)
  have B_x := Lib.hid (Kept.all3 (show Kept W_x W_y from (by (repeat (first | with_reducible exact Kept.refl _ | with_reducible apply Kept.drew | with_reducible apply Kept.alloc | ((with_reducible apply Kept.set); focus (simp <;> omega)) | ((with_reducible apply Kept.via); focus with_reducible assumption))))) H_x)
  have B_y := Lib.hid (Kept.all3 (show Kept W_y W_y from (by (repeat (first | with_reducible exact Kept.refl _ | with_reducible apply Kept.drew | with_reducible apply Kept.alloc | ((with_reducible apply Kept.set); focus (simp <;> omega)) | ((with_reducible apply Kept.via); focus with_reducible assumption))))) H_y)
  have kall : Kept w W_y := (by (repeat (first | with_reducible exact Kept.refl _ | with_reducible apply Kept.drew | with_reducible apply Kept.alloc | ((with_reducible apply Kept.set); focus (simp <;> omega)) | ((with_reducible apply Kept.via); focus with_reducible assumption))))
  obtain ⟨q_f0, q_f1, q_f2⟩ := kw3 B_f
  obtain ⟨q_a0, q_a1, q_a2⟩ := kw3 B_a
  obtain ⟨q_b0, q_b1, q_b2⟩ := kw3 B_b
  obtain ⟨q_c0, q_c1, q_c2⟩ := kw3 B_c
  obtain ⟨q_d0, q_d1, q_d2⟩ := kw3 B_d
  obtain ⟨q_u0, q_u1, q_u2⟩ := kw3 B_u
  obtain ⟨q_v0, q_v1, q_v2⟩ := kw3 B_v
  obtain ⟨q_x0, q_x1, q_x2⟩ := kw3 B_x
  obtain ⟨q_y0, q_y1, q_y2⟩ := kw3 B_y
  clear B_f B_a B_b B_c B_d B_u B_v B_x B_y
  refine wp_region_kept (by kernel_rfl) (by as_aux_lemma => kernel_rfl) ?_
  repeat (go_big_quiet_step (first | (with_reducible exact kept_of (QS.out _)) | (with_reducible exact kept_of (C1.out _)) | (with_reducible exact kept_of (C2.out _)) | (with_reducible exact kept_of (M1.out _)) | (with_reducible exact kept_of (M2.out _))))
  refine wpQuiet_nil ?_
  intro wq hw'
  have kq : Kept W_y wq := by obtain ⟨p, rfl⟩ := hw'; exact p.k
  clear hw'
  clear kall
  go_wp2
  go_ret
  exact ⟨rfl, Kept.trans kz9.out kq⟩
theorem flightTells_walk (CC : FlCheckC) (SC : FlSendC) (AC : FlAckC) (LC : FlLoseC) (RC_ : FlRoomC) (DC : FlDoC) (s t o : Int) (A : Option Addr) (len cap : Nat) (E : Nat → Nat → Int) (n room : Int) (w : World) (hs : In64 s) (ht : In64 t) (ho : In64 o) (hn : In64 n) (hr0 : In64 room) (hS : SliceOk A len cap) (hz : ∀ i, i < len → ∀ j, j < 3 → In64 (E i j)) (hr : RowI .i64 w A 3 len E) : Calls Try.prog 3 #[.agg #[.int .i64 s, .int .i64 t, .int .i64 o], .slice A len cap, .int .i64 n, .int .i64 room] w fun e w' => e = .returned (.bool true) ∧ Kept w w' := by
  by_cases hl : len ≤ 100
  · obtain ⟨s2, t2, o2, e2, f2⟩ := send_ex s t o n room
    obtain ⟨s3, t3, o3, e3, f3⟩ := less_ex s t o n n
    obtain ⟨s4, t4, o4, e4, f4⟩ := less_ex s t o n 0
    obtain ⟨f', hf'⟩ : ∃ f' : Fl, doF (s, t, o) (actsL E len) = f' := ⟨_, rfl⟩
    obtain ⟨s1, t1, o1⟩ := f'
    exact tells16_all CC SC AC LC RC_ DC (v := decide (MayF s t o)) hl hs ht ho hn hr0 hS hz hf' rfl f2 f3 f4 (by simp) rfl w hr
  · exact tells16_long CC SC AC LC RC_ DC (by omega) (by have := hS.1; have := hS.2.1; omega) w
end Go.Proofs.Ytbaifhgjalaphaa
