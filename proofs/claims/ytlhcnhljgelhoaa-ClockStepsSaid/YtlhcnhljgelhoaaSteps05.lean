/-
  The walk of ClockSteps: it answers true, whatever it is given.
-/
import Derived.Test.YtlhcnhljgelhoaaAwake05
import Derived.Test.YtlhcnhljgelhoaaFrame
import Derived.Deep.DeepCutAuto
namespace Go.Proofs.Ytlhcnhljgelhoaa
open Go.RowKit Go.BigFrame

set_option maxRecDepth 100000 in
set_option maxHeartbeats 1600000 in
theorem steps_long (A : Option Addr) (len cap : Nat) (w : World) (hl : 1000 < len) (hm : len ≤ 9223372036854775807) : Calls Try.prog 4 #[.slice A len cap] w fun e w' => e = .returned (.bool true) ∧ Kept w w' := by
  have hd : decide ((1000 : Int) < (len : Int)) = true := by simp; omega
  go_enter Try.func4, Try.ntmps4
  go_wp2_with fail
  refine (awake05 _).mono ?_
  rintro e w1 ⟨rfl, k1⟩
  go_wp2
  go_ret
  exact ⟨rfl, k1⟩
set_option maxRecDepth 100000 in
set_option maxHeartbeats 1600000 in
theorem steps_short (A : Option Addr) (len cap : Nat) (zs : List Int) (w : World) (hl : len ≤ 1000) (hr : RowAt w A len (fun j => .int .i64 (zs.getD j 0))) : Calls Try.prog 4 #[.slice A len cap] w fun e w' => e = .returned (.bool true) ∧ Kept w w' := by
  have hd : decide ((1000 : Int) < (len : Int)) = false := by simp; omega
  have HR := Lib.hid hr
  clear hr
  go_enter Try.func4, Try.ntmps4
  go_wp2_with fail
  refine (awake05 _).mono ?_
  rintro e w1 ⟨rfl, k1⟩
  go_wp2
  go_loopw [4, 5] (fun n i wr => ∃ (k : Nat) (t : Int), k ≤ len ∧ i = .int .i64 k ∧ n = .int .i64 t ∧ IsTime t ∧ Kept w wr) (fun _ i _ => len - (intOf i).toNat)
  case atStart => exact ⟨0, 0, Nat.zero_le _, rfl, rfl, by unfold IsTime; omega, k1⟩
  case round =>
    clear hd
    obtain ⟨k, t, hk, rfl, rfl, ht, kw⟩ := hrel
    have HT := Lib.hid ht
    unfold IsTime at ht
    by_cases hlt : k < len
    · obtain ⟨b, off, rfl, hc⟩ := (HR.out.kept kw) (by omega)
      have c1 : wr.cell? ⟨b, off + k, none⟩ = some (.int .i64 (zs.getD k 0)) := hc k hlt
      clear hc
      generalize zs.getD k 0 = x at c1
      rcases step_ex t x with ⟨v, er, ⟨hx, rfl, rfl⟩ | ⟨hx, hb, rfl, rfl⟩ | ⟨hx, hb, rfl, rfl⟩⟩
      · have HX := Lib.hid hx
        clear hx
        go_wp2_with fail
        refine (step_time HX.out _).mono ?_
        rintro e w2 ⟨rfl, k2⟩
        have c2 := k2.read c1
        clear c1
        go_wp2_with fail
        refine (check_yes HT.out _).mono ?_
        rintro e w3 ⟨rfl, k3⟩
        have c3 := k3.read c2
        clear c2
        go_wp2_with fail
        refine (check_no HX.out _).mono ?_
        rintro e w4 ⟨rfl, k4⟩
        have c4 := k4.read c3
        clear c3
        go_wp2
        go_roundw
        case rel => exact ⟨k + 1, _, by omega, by go_num, rfl, by first | exact HT.out | exact HX.out, (Kept.trans (Kept.trans (Kept.trans kw k2) k3) k4)⟩
        case measure => simp [intOf]; omega
      · have HX := Lib.hid hx
        unfold IsTime at hx
        go_wp2_with fail
        refine (step_back HX.out hb _).mono ?_
        rintro e w2 ⟨rfl, k2⟩
        have c2 := k2.read c1
        clear c1
        go_wp2_with fail
        refine (check_yes HT.out _).mono ?_
        rintro e w3 ⟨rfl, k3⟩
        have c3 := k3.read c2
        clear c2
        go_wp2_with fail
        refine (check_yes HX.out _).mono ?_
        rintro e w4 ⟨rfl, k4⟩
        have c4 := k4.read c3
        clear c3
        go_wp2
        go_roundw
        case rel => exact ⟨k + 1, _, by omega, by go_num, rfl, by first | exact HT.out | exact HX.out, (Kept.trans (Kept.trans (Kept.trans kw k2) k3) k4)⟩
        case measure => simp [intOf]; omega
      · have HX := Lib.hid hx
        unfold IsTime at hx
        go_wp2_with fail
        refine (step_on HX.out hb _).mono ?_
        rintro e w2 ⟨rfl, k2⟩
        have c2 := k2.read c1
        clear c1
        go_wp2_with fail
        refine (check_yes HX.out _).mono ?_
        rintro e w3 ⟨rfl, k3⟩
        have c3 := k3.read c2
        clear c2
        go_wp2_with fail
        refine (check_yes HX.out _).mono ?_
        rintro e w4 ⟨rfl, k4⟩
        have c4 := k4.read c3
        clear c3
        go_wp2
        go_roundw
        case rel => exact ⟨k + 1, _, by omega, by go_num, rfl, by first | exact HT.out | exact HX.out, (Kept.trans (Kept.trans (Kept.trans kw k2) k3) k4)⟩
        case measure => simp [intOf]; omega
    · go_wp2
      go_ret
      exact ⟨rfl, kw⟩
theorem clockSteps_walk (A : Option Addr) (len cap : Nat) (zs : List Int) (w : World) (hm : len ≤ 9223372036854775807) (hr : RowAt w A len (fun j => .int .i64 (zs.getD j 0))) : Calls Try.prog 4 #[.slice A len cap] w fun e w' => e = .returned (.bool true) ∧ Kept w w' := by
  by_cases h : len ≤ 1000
  · exact steps_short A len cap zs w h hr
  · exact steps_long A len cap w (by omega) hm
end Go.Proofs.Ytlhcnhljgelhoaa
