/-
  Contracts of package root's halving, of its closures, and of both roots.
-/
import Derived.Test.YtdbikeehoildlaaDoorPow03
import Derived.Test.YtdbikeehoildlaaDoorRoom
import Derived.Deep.RegionHeld3
import Derived.Deep.CutBlock
import Derived.Deep.LoopGhost
import Derived.Deep.DeepCutAuto
namespace Go.Proofs.YtdbikeehoildlaaDoor
open Go.RowKit

/-- Between two numbers, k steps in. -/
def Halving (n top : Int) (w : World) (s0 s5 s7 : Value) (wr : World) : Prop :=
  ∃ (lo hi : Int) (k : Nat), s0 = .int .u64 hi ∧ s5 = .int .u64 lo ∧ s7 = .int .i64 k ∧ 0 ≤ lo ∧ lo ≤ n ∧ n ≤ hi ∧ hi ≤ top ∧ k ≤ 64 ∧ hi - lo < 2 ^ (64 - k) ∧ Kept w wr
theorem two_half {k : Nat} (h : k < 64) : (2 : Int) ^ (64 - k) = 2 * 2 ^ (64 - (k + 1)) := by
  rw [show 64 - k = (64 - (k + 1)) + 1 by omega, Int.pow_succ, Int.mul_comm]

set_option maxHeartbeats 800000 in
theorem greatest_third (top n : Int) (a : Addr) (w : World) (h0 : 0 ≤ n) (h1 : n ≤ top) (h2 : top < 18446744073709551616) (C : ∀ m, 0 ≤ m → m ≤ top → ∀ v, Kept w v → Calls Tryd.prog 76 #[.int .u64 m, .pointer (some a)] v fun e w' => e = .returned (.bool (decide (m ≤ n))) ∧ Kept v w') :
    Calls Tryd.prog 75 #[.int .u64 top, .func (Fn.func 76) #[] #[.pointer (some a)]] w fun e w' => e = .returned (.int .u64 n) ∧ Kept w w' := by
  have C' := Lib.hid C
  clear C
  go_enter Tryd.func75, Tryd.ntmps75
  go_upto_block 0 with fail
  go_step3
  go_upto_block 0 with fail
  go_step3
  go_upto_block 0 with fail
  go_cut [5] (fun s5 wx => s5 = .int .u64 n ∧ Kept w wx)
  case first =>
    go_wp2_with fail
    go_loopw [0, 5, 7] (fun s0 s5 s7 wr => Halving n top w s0 s5 s7 wr) (fun _ _ s7 _ => 64 - (intOf s7).toNat)
    case atStart => exact ⟨0, top, 0, rfl, rfl, rfl, by omega, by omega, by omega, by omega, by omega, by omega, Kept.refl _⟩
    case round =>
      obtain ⟨lo, hi, k, rfl, rfl, rfl, g1, g2, g3, g4, g5, g6, g7⟩ := hrel
      by_cases hk : k < 64
      · by_cases he : lo = hi
        · have e2 : lo = n := by omega
          subst he
          have E2 := Lib.hid e2
          clear e2 g6
          go_wp2_with fail
          go_meet
          exact ⟨by rw [E2.out], g7⟩
        · have e1 : (lo == hi) = false := by simp [he]
          rw [two_half hk] at g6
          obtain ⟨p1, p2, p3, p4⟩ := halve (n := n) g2 g3 g6 he
          have P3 := Lib.hid p3
          have P4 := Lib.hid p4
          have q0 : 0 ≤ hi - (hi - lo) / 2 := by omega
          have q1 : hi - (hi - lo) / 2 ≤ top := by omega
          have D := Lib.hid (C'.out _ q0 q1)
          clear p3 p4 g6
          by_cases hf : hi - (hi - lo) / 2 ≤ n
          · have hd : decide (hi - (hi - lo) / 2 ≤ n) = true := by simp [hf]
            go_wp2_with fail
            refine (D.out _ g7).mono ?_
            rintro e w1 ⟨rfl, k1⟩
            go_wp2_with fail
            go_roundw
            case rel => exact ⟨_, _, k + 1, rfl, rfl, by go_num, by omega, by omega, by omega, by omega, by omega, P3.out hf, g7.trans k1⟩
            case measure => simp [intOf]; omega
          · have hd : decide (hi - (hi - lo) / 2 ≤ n) = false := by simp [hf]
            have q2 : n < hi - (hi - lo) / 2 := by omega
            go_wp2_with fail
            refine (D.out _ g7).mono ?_
            rintro e w1 ⟨rfl, k1⟩
            go_wp2_with fail
            go_roundw
            case rel => exact ⟨_, _, k + 1, rfl, rfl, by go_num, by omega, by omega, (P4.out q2).1, by omega, by omega, (P4.out q2).2, g7.trans k1⟩
            case measure => simp [intOf]; omega
      · have e3 : k = 64 := by omega
        have e2 : lo = n := by subst e3; simp at g6; omega
        have E2 := Lib.hid e2
        clear e2 e3 g6
        go_wp2_with fail
        go_meet
        exact ⟨by rw [E2.out], g7⟩
  case rest =>
    obtain ⟨rfl, kc⟩ := hcut
    go_wp2
    (try rw [Exit.noGoto_ret])
    go_ret
    exact ⟨rfl, kc⟩
set_option maxHeartbeats 400000 in
theorem third1_fit (g : Nat) (b t : Bool) (xh xl m ch cl : Int) (v : World) (hc : v.cell? ⟨g, 0, none⟩ = some (.bool b) ∧ v.cell? ⟨g, 1, none⟩ = some (.int .u64 xh) ∧ v.cell? ⟨g, 2, none⟩ = some (.int .u64 xl)) (C1 : ∀ w, Calls Tryd.prog 77 #[.int .u64 m] w fun e w' => e = .returned (.tuple #[.agg #[.bool false, .int .u64 ch, .int .u64 cl], .int .i64 0]) ∧ Kept w w') (C2 : ∀ w, Calls Tryd.prog 78 #[.agg #[.bool false, .int .u64 ch, .int .u64 cl], .agg #[.bool b, .int .u64 xh, .int .u64 xl]] w fun e w' => e = .returned (.bool t) ∧ Kept w w') :
    Calls Tryd.prog 76 #[.int .u64 m, .pointer (some ⟨g, 0, none⟩)] v fun e w' => e = .returned (.bool t) ∧ Kept v w' := by
  have D1 := Lib.hid C1
  have D2 := Lib.hid C2
  have H := Lib.hid hc
  clear C1 C2 hc
  go_enter Tryd.func76, Tryd.ntmps76
  go_wp2_with fail
  refine (D1.out _).mono ?_
  rintro e w1 ⟨rfl, k1⟩
  obtain ⟨c0, c1, c2⟩ := Kept.all3 (show Kept v w1 from k1) H
  have z1 : g < w1.heap.size := cell_lt c0
  go_wp2_with fail
  refine (D2.out _).mono ?_
  rintro e w2 ⟨rfl, k2⟩
  go_wp2
  go_ret
  exact ⟨rfl, (by (repeat (first | with_reducible exact Kept.refl _ | with_reducible apply Kept.drew | with_reducible apply Kept.alloc | ((with_reducible apply Kept.set); focus (simp <;> omega)) | ((with_reducible apply Kept.via); focus with_reducible assumption))))⟩
set_option maxHeartbeats 400000 in
theorem third1_not (a : Addr) (m : Int) (v : World) (C1 : ∀ w, Calls Tryd.prog 77 #[.int .u64 m] w fun e w' => e = .returned (.tuple #[.agg #[.bool false, .int .u64 0, .int .u64 0], .int .i64 10]) ∧ Kept w w') :
    Calls Tryd.prog 76 #[.int .u64 m, .pointer (some a)] v fun e w' => e = .returned (.bool false) ∧ Kept v w' := by
  have D1 := Lib.hid C1
  clear C1
  go_enter Tryd.func76, Tryd.ntmps76
  go_wp2_with fail
  refine (D1.out _).mono ?_
  rintro e w1 ⟨rfl, k1⟩
  go_wp2
  go_ret
  exact ⟨rfl, (by (repeat (first | with_reducible exact Kept.refl _ | with_reducible apply Kept.drew | with_reducible apply Kept.alloc | ((with_reducible apply Kept.set); focus (simp <;> omega)) | ((with_reducible apply Kept.via); focus with_reducible assumption))))⟩
theorem third1_ok {g : Nat} {b : Bool} {xh xl m n : Int} (h1 : Word xh) (h2 : Word xl) (hn : IsThird (sz xh xl) n) (m0 : 0 ≤ m) (m1 : m ≤ 8796093022207) (v : World) (hc : v.cell? ⟨g, 0, none⟩ = some (.bool b) ∧ v.cell? ⟨g, 1, none⟩ = some (.int .u64 xh) ∧ v.cell? ⟨g, 2, none⟩ = some (.int .u64 xl)) :
    Calls Tryd.prog 76 #[.int .u64 m, .pointer (some ⟨g, 0, none⟩)] v fun e w' => e = .returned (.bool (decide (m ≤ n))) ∧ Kept v w' := by
  have hm : Word m := ⟨m0, by omega⟩
  by_cases c : m ≤ 6981463658331
  · obtain ⟨ch, cl, r⟩ := cube_rep m0 c
    refine third1_fit g b _ xh xl m ch cl v hc (Cube_ok hm r) (fun w => ?_)
    have := within_ok (b := b) r.1 r.2.1 h1 h2 w
    have e : sz ch cl = m * m * m := by rw [← numOf_false]; exact r.2.2.1
    rw [e, show decide (m * m * m ≤ sz xh xl) = decide (m ≤ n) by rw [decide_eq_decide]; exact third_iff hn m0] at this
    exact this
  · rw [show decide (m ≤ n) = false by have := third_most hn (sz_lt h1 h2); simp; omega]
    exact third1_not _ m v (Cube_no hm (cube_over m0 (by omega)))
set_option maxHeartbeats 400000 in
theorem Third_ok {b : Bool} {xh xl n : Int} (h1 : Word xh) (h2 : Word xl) (hn : IsThird (sz xh xl) n) (w : World) :
    Calls Tryd.prog 64 #[.agg #[.bool b, .int .u64 xh, .int .u64 xl]] w fun e w' => e = .returned (.int .u64 n) ∧ Kept w w' := by
  have n1 : n ≤ 8796093022207 := by have := third_most hn (sz_lt h1 h2); omega
  have n0 := hn.1
  have D := Lib.hid (fun m (m0 : 0 ≤ m) (m1 : m ≤ 8796093022207) v hc => third1_ok (g := w.heap.size) (b := b) h1 h2 hn m0 m1 v hc)
  clear h1 h2 hn
  go_enter Tryd.func64, Tryd.ntmps64
  go_wp2_with fail
  refine (greatest_third 8796093022207 n ⟨w.heap.size, 0, none⟩ _ n0 n1 (by omega) (fun m m0 m1 v kv => D.out m m0 m1 v (Kept.new3 kv))).mono ?_
  rintro e w1 ⟨rfl, k1⟩
  go_wp2
  go_ret
  exact ⟨rfl, (by (repeat (first | with_reducible exact Kept.refl _ | with_reducible apply Kept.drew | with_reducible apply Kept.alloc | ((with_reducible apply Kept.set); focus (simp <;> omega)) | ((with_reducible apply Kept.via); focus with_reducible assumption))))⟩

end Go.Proofs.YtdbikeehoildlaaDoor
